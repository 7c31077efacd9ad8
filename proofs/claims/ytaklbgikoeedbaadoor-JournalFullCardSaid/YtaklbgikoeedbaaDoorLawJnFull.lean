/-
  Law 14: on a disk without room a journal is done; all that was safe is there when it is opened anew. Conditions: none.
-/
import Derived.Test.YtaklbgikoeedbaaDoorJnFu
import Derived.Test.YtaklbgikoeedbaaDoorPkF
namespace Go.Proofs.YtaklbgikoeedbaaDoor
open Go.RowKit

theorem nil_oneF (W : World) :
    Below W.heap.size W (W.alloc (.cells #[.slice none 0 0] 31)) ∧
    PrtF (W.alloc (.cells #[.slice none 0 0] 31)) (fun i => W.heap.size ≤ i) (some ⟨W.heap.size, 0, none⟩) [[]] :=
  ⟨(Below.refl _ _).alloc (Nat.le_refl _) _, (PL.one (l := []) (.inl rfl) rfl (Nat.le_refl _)).prtF (heap_alloc_new W (.cells #[.slice none 0 0] 31)) (Nat.le_refl _)⟩
set_option maxRecDepth 100000 in
set_option maxHeartbeats 8000000 in
theorem walk_JournalFull (w : World) (_ : Laid w) (room : Int) (_ : (Lit.int .i64 room).wf = true) (A1 : Option Addr) (l1 : Rcs) (n1 c1 : Nat) (b1 : Prt w w.heap.size A1 l1) (e1 : l1.length = n1) (f1 : n1 ≤ c1) :
    Calls Tryd.prog 6 #[.int .i64 room, .slice A1 n1 c1] w fun e w' => e = .returned (.bool true) ∧ Below w.heap.size w w' := by
  have hawk := jawake_any w
  have E1 := Lib.hid e1
  clear e1
  by_cases hr1 : room < 300
  · go_enter Tryd.func6, Tryd.ntmps6
    go_wp2_with fail
    refine hawk.mono ?_
    rintro e w0 ⟨rfl, hb0⟩
    clear hawk
    go_wp2
    go_ret
    exact ⟨rfl, hb0⟩
  by_cases hr2 : 5000 < room
  · go_enter Tryd.func6, Tryd.ntmps6
    go_wp2_with fail
    refine hawk.mono ?_
    rintro e w0 ⟨rfl, hb0⟩
    clear hawk
    go_wp2
    go_ret
    exact ⟨rfl, hb0⟩
  obtain ⟨r, rfl⟩ : ∃ r : Nat, room = (r : Int) := ⟨room.toNat, by omega⟩
  by_cases hn1 : 40 < n1
  · have hn1' : (40 : Int) < (n1 : Int) := by omega
    go_enter Tryd.func6, Tryd.ntmps6
    go_wp2_with fail
    refine hawk.mono ?_
    rintro e w0 ⟨rfl, hb0⟩
    clear hawk
    go_wp2
    go_ret
    exact ⟨rfl, hb0⟩
  have hn1' : ¬ (40 : Int) < (n1 : Int) := by omega
  have hnew := fun w0 => hold_new w0 r (by omega) (by omega)
  have kN := kNo
  have hcutw := run_cut_h (P := Tryd.prog) Tryd.underlying32 (show (Tryd.prog.info? 31).map (·.size) = some 1 by kernel_rfl)
  go_enter Tryd.func6, Tryd.ntmps6
  go_wp2_with fail
  refine hawk.mono ?_
  rintro e Y ⟨rfl, hb0⟩
  clear hawk
  have b1' := (b1.below hb0).up hb0.size
  clear b1
  have hnw := hnew Y
  clear hnew
  go_wp2_with fail
  refine hnw.mono ?_
  rintro e w1 ⟨d, rfl, h1⟩
  clear hnw
  have hop := lo_open kN (lo_new h1 (by omega)) (by decide)
  go_wp2_with fail
  refine hop.mono ?_
  rintro e w2 ⟨j, rfl, h2⟩
  have h3 : Lw Y w2 j d r 1000 r 1 [] [] 0 (KAnd KNo (KP A1 l1)) := (h2.oldP b1').more (by decide) (Nat.zero_le _) (by decide)
  have kM : Kp (KAnd KNo (KP A1 l1)) := kAnd kNo (kP _ _)
  clear hop h1 h2
  go_wp2_with fail
  go_loopw [9, 10] (fun x y wr => ∃ k : Nat, x = .int .i64 (k : Int) ∧ y = .int .i64 (k : Int) ∧ k ≤ n1 ∧ Lw Y wr j d r (1000 + 10 * k) r 1 [] (l1.take k) k (KAnd KNo (KP A1 l1))) (fun _ y _ => n1 - (intOf y).toNat)
  case atStart => exact ⟨0, rfl, rfl, Nat.zero_le _, h3⟩
  case round =>
    obtain ⟨k, rfl, rfl, hk, h4⟩ := hrel
    have HK : Hid ((l1.take k).length = k) := show _ = _ by rw [List.length_take, E1.out]; exact Nat.min_eq_left hk
    by_cases hlt : k < n1
    · have hPr : Prt wr wr.heap.size A1 l1 := PrtF.prt (h4.data kM).2
      obtain ⟨b, o, Aj, nj, cj, p, hAj, hblt, hcell, hpk, hpj, hcj, hbp⟩ := hPr.at_ (k := k) (by rw [E1.out]; exact hlt)
      have h5 := h4.one kM (fun _ _ h => h.2) hpk.out hAj hblt hcell
      have kM1 := kAnd kM (kP (some ⟨wr.heap.size, 0, none⟩) [p])
      subst hAj
      by_cases hbg : 200 < nj
      · have hbg' : (200 : Int) < (nj : Int) := by omega
        have hend := hb0.trans (h4.bel.mono hb0.size)
        clear hbp hpk h4 h5 hPr
        go_wp2
        go_ret
        exact ⟨rfl, hend⟩
      · have hbg' : ¬ (200 : Int) < (nj : Int) := by omega
        have hst := vlt (take_step hpk.out)
        have had := lw_addAny kM1 h5 (some ⟨wr.heap.size, 0, none⟩) [p] 1 1 (fun W F h => h.2) rfl (by decide) (by omega) (fun q hq => by rw [List.mem_singleton] at hq; subst hq; rw [hpj.out]; omega) (by rw [HK.out]; omega)
        clear hbp hpk h4 h5 hPr
        go_wp2_with fail
        refine had.mono ?_
        rintro e w3 hor
        clear had
        rcases hor with ⟨rfl, h6⟩ | ⟨rfl, h6⟩
        · have h7 := h6.weak (K2 := KAnd KNo (KP (some ⟨b, o, none⟩) l1)) fun _ _ h => h.1
          rw [hst.out] at h7
          have hsy := lw_sync kM h7
          clear h6 h7
          go_wp2_with fail
          refine hsy.mono ?_
          rintro e w4 ⟨rfl, h8⟩
          have HK1 : (l1.take (k + 1)).length = k + 1 := by rw [List.length_take, E1.out]; exact Nat.min_eq_left hlt
          rw [HK1] at h8
          have h9 := h8.more (NB' := 1000 + 10 * (k + 1)) (by omega) (Nat.le_refl _) (Nat.le_refl _)
          clear hsy h8 HK1
          go_wp2
          go_roundw
          case rel => exact ⟨k + 1, by go_num, by go_num, by omega, h9⟩
          case measure => simp [intOf]; omega
        · have h7 := h6.weak (K2 := KAnd KNo (KP (some ⟨b, o, none⟩) l1)) fun _ _ h => h.1
          have hdn := lf_done kM h7
          clear h6 hst
          go_wp2_with fail
          refine hdn.mono ?_
          rintro e w5 ⟨rfl, h8⟩
          clear hdn h7
          obtain ⟨hb9, hp9⟩ := nil_oneF w5
          have h9 := h8.fresh kM hb9 (kP (some ⟨w5.heap.size, 0, none⟩) [[]]) hp9
          have had := lf_add (kAnd kM (kP _ _)) h9 (some ⟨w5.heap.size, 0, none⟩) [[]] 1 1 (fun W F h => h.2) rfl (by decide) (by omega) (fun q hq => by rw [List.mem_singleton] at hq; subst hq; decide) (by rw [HK.out]; omega)
          clear h8 hp9 hb9
          go_wp2_with fail
          refine had.mono ?_
          rintro e w6 ⟨rfl, h10⟩
          have h11 := (h10.weak (K2 := KAnd KNo (KP (some ⟨b, o, none⟩) l1)) fun _ _ h => h.1).lo kM (by decide) (by omega)
          clear had h9 h10
          have hop := lo_open kM h11 (by rw [HK.out]; omega)
          go_wp2_with fail
          refine hop.mono ?_
          rintro e w20 ⟨j2, rfl, h20⟩
          clear hop
          have hal := lw_all kM h20 (by rw [HK.out]; omega)
          go_wp2_with fail
          refine hal.mono ?_
          rintro e w21 ⟨m1, rfl, hm1, _, _, h21⟩
          obtain rfl : k = m1 := HK.out.symm.trans hm1.out
          clear hal h20 hm1
          have h22 := h21.drew kM
          have hPw : Prt w21.drew w21.drew.heap.size (some ⟨b, o, none⟩) (l1.take k) := (PrtF.prt (h22.data kM).2).take k
          clear h21
          have hal := lw_all kM h22 (by rw [HK.out]; omega)
          have hkn : k ≤ c1 := by omega
          have hcu := hcutw (some ⟨b, o, none⟩) n1 c1 k (k : Int) rfl hkn
          go_upto_region 26 with fail
          refine wp_region_held_drew (S := (fun _ => True)) (by kernel_rfl) (trivial) (fun hHeld => ?_)
          refine wpAnyH_take (i := 0) (oi := ⟨(some 106), _, _, _, _, _⟩) (v := ?vq1_0) rfl (by kernel_rfl) (by kernel_rfl) (by kernel_rfl) (fun _ _ _ h => h) (Or.inl ⟨by rfl, ?yq1_0⟩) hHeld ?_
          case yq1_0 => (intro W0 hSw; go_simp; try with_reducible rfl)
          try simp only [Act.put, List.setIfInBounds_toArray, List.set_cons_zero, List.set_cons_succ]
          refine wpAnyH_take (i := 1) (oi := ⟨(some 107), _, _, _, _, _⟩) (v := ?vq1_1) rfl (by kernel_rfl) (by kernel_rfl) (by kernel_rfl) (fun _ _ _ h => h) (Or.inl ⟨by rfl, ?yq1_1⟩) hHeld ?_
          case yq1_1 => (intro W0 hSw; go_simp; try with_reducible rfl)
          try simp only [Act.put, List.setIfInBounds_toArray, List.set_cons_zero, List.set_cons_succ]
          refine wpAnyH_take (i := 2) (oi := ⟨(some 108), _, _, _, _, _⟩) (v := ?vq1_2) rfl (by kernel_rfl) (by kernel_rfl) (by kernel_rfl) (fun _ _ _ h => h) (Or.inl ⟨by rfl, ?yq1_2⟩) hHeld ?_
          case yq1_2 => (intro W0 hSw; go_simp; try with_reducible rfl)
          try simp only [Act.put, List.setIfInBounds_toArray, List.set_cons_zero, List.set_cons_succ]
          refine wpAnyH_take (i := 3) (oi := ⟨(some 109), _, _, _, _, _⟩) (v := ?vq1_3) rfl (by kernel_rfl) (by kernel_rfl) (by kernel_rfl) (fun _ _ _ h => h) (Or.inl ⟨by rfl, ?yq1_3⟩) hHeld ?_
          case yq1_3 => (intro W0 hSw; go_simp; try with_reducible rfl)
          try simp only [Act.put, List.setIfInBounds_toArray, List.set_cons_zero, List.set_cons_succ]
          refine wpAnyH_take (i := 4) (oi := ⟨(some 110), _, _, _, _, _⟩) (v := ?vq1_4) rfl (by kernel_rfl) (by kernel_rfl) (by kernel_rfl) (fun _ _ _ h => h) (Or.inl ⟨by rfl, ?yq1_4⟩) hHeld ?_
          case yq1_4 => (intro W0 hSw; go_simp; try with_reducible rfl)
          try simp only [Act.put, List.setIfInBounds_toArray, List.set_cons_zero, List.set_cons_succ]
          refine wpAnyH_take (i := 5) (oi := ⟨(some 111), _, _, _, _, _⟩) (v := ?vq1_5) rfl (by kernel_rfl) (by kernel_rfl) (by kernel_rfl) (fun _ _ _ h => h) (Or.inl ⟨by rfl, ?yq1_5⟩) hHeld ?_
          case yq1_5 => (intro W0 hSw; go_simp; try with_reducible rfl)
          try simp only [Act.put, List.setIfInBounds_toArray, List.set_cons_zero, List.set_cons_succ]
          refine wpAnyH_take (i := 6) (oi := ⟨(some 112), _, _, _, _, _⟩) (v := ?vq1_6) rfl (by kernel_rfl) (by kernel_rfl) (by kernel_rfl) (fun _ _ _ h => h) (Or.inl ⟨by rfl, ?yq1_6⟩) hHeld ?_
          case yq1_6 => (intro W0 hSw; go_simp; try with_reducible rfl)
          try simp only [Act.put, List.setIfInBounds_toArray, List.set_cons_zero, List.set_cons_succ]
          refine wpAnyH_take (i := 7) (oi := ⟨(some 113), _, _, _, _, _⟩) (v := ?vq1_7) rfl (by kernel_rfl) (by kernel_rfl) (by kernel_rfl) (fun _ _ _ h => h) (Or.inl ⟨by rfl, ?yq1_7⟩) hHeld ?_
          case yq1_7 => (intro W0 hSw; go_simp; try with_reducible rfl)
          try simp only [Act.put, List.setIfInBounds_toArray, List.set_cons_zero, List.set_cons_succ]
          refine wpAnyH_take (i := 8) (oi := ⟨(some 114), _, _, _, _, _⟩) (v := ?vq1_8) rfl (by kernel_rfl) (by kernel_rfl) (by kernel_rfl) (fun _ _ _ h => h) (Or.inl ⟨by rfl, ?yq1_8⟩) hHeld ?_
          case yq1_8 => (intro W0 hSw; go_simp; try with_reducible rfl)
          try simp only [Act.put, List.setIfInBounds_toArray, List.set_cons_zero, List.set_cons_succ]
          refine wpAnyH_take (i := 9) (oi := ⟨(some 115), _, _, _, _, _⟩) (v := ?vq1_9) rfl (by kernel_rfl) (by kernel_rfl) (by kernel_rfl) (fun _ _ _ h => h) (Or.inl ⟨by rfl, ?yq1_9⟩) hHeld ?_
          case yq1_9 => (intro W0 hSw; go_simp; try with_reducible rfl)
          try simp only [Act.put, List.setIfInBounds_toArray, List.set_cons_zero, List.set_cons_succ]
          refine wpAnyH_take (i := 10) (oi := ⟨(some 116), _, _, _, _, _⟩) (v := ?vq1_10) rfl (by kernel_rfl) (by kernel_rfl) (by kernel_rfl) (fun _ _ _ h => h) (Or.inl ⟨by rfl, ?yq1_10⟩) hHeld ?_
          case yq1_10 => (intro W0 hSw; go_simp; try with_reducible rfl)
          try simp only [Act.put, List.setIfInBounds_toArray, List.set_cons_zero, List.set_cons_succ]
          refine wpAnyH_take (i := 12) (oi := ⟨(some 118), _, _, _, _, _⟩) (v := ?vq1_11) rfl (by kernel_rfl) (by kernel_rfl) (by kernel_rfl) (fun _ _ _ h => h) (Or.inl ⟨by rfl, ?yq1_11⟩) hHeld ?_
          case yq1_11 => (intro W0 hSw; go_simp; try with_reducible rfl)
          try simp only [Act.put, List.setIfInBounds_toArray, List.set_cons_zero, List.set_cons_succ]
          refine wpAnyH_take (i := 13) (oi := ⟨(some 119), _, _, _, _, _⟩) (v := ?vq1_12) rfl (by kernel_rfl) (by kernel_rfl) (by kernel_rfl) (fun _ _ _ h => h) (Or.inl ⟨by rfl, ?yq1_12⟩) hHeld ?_
          case yq1_12 => (intro W0 hSw; go_simp; try with_reducible rfl)
          try simp only [Act.put, List.setIfInBounds_toArray, List.set_cons_zero, List.set_cons_succ]
          refine wpAnyH_take (i := 14) (oi := ⟨(some 120), _, _, _, _, _⟩) (v := ?vq1_13) rfl (by kernel_rfl) (by kernel_rfl) (by kernel_rfl) (fun _ _ _ h => h) (Or.inl ⟨by rfl, ?yq1_13⟩) hHeld ?_
          case yq1_13 => (intro W0 hSw; go_simp; try with_reducible rfl)
          try simp only [Act.put, List.setIfInBounds_toArray, List.set_cons_zero, List.set_cons_succ]
          refine wpAnyH_ready (rs := [11]) (by kernel_rfl) (by simp) ?_
          refine AllReadyH.cons (i := 11) (o := ⟨(some 117), _, _, _, _, _⟩) rfl (fun K hK => ?_) AllReadyH.nil
          go_simp
          refine hal.mono ?_
          rintro e w22 ⟨mr, rfl, hmr, hv, hb22, h23⟩
          obtain rfl : k = mr := HK.out.symm.trans hmr.out
          have hsm := same_any w22 (some ⟨w21.drew.heap.size, 0, none⟩) (some ⟨b, o, none⟩) (l1.take k) (l1.take k) k k k c1 (all_prt hv) HK.out (hPw.next hb22) HK.out (by omega)
          rw [show decide (l1.take k = l1.take k) = true by simp] at hsm
          clear hal
          refine hK.out _ _ (trivial) (fun hHeld => ?_)
          clear hK K
          try simp only [Act.put, List.setIfInBounds_toArray, List.set_cons_zero, List.set_cons_succ]
          refine wpAnyH_ready (rs := [15]) (by kernel_rfl) (by simp) ?_
          refine AllReadyH.cons (i := 15) (o := ⟨(some 121), _, _, _, _, _⟩) rfl (fun K hK => ?_) AllReadyH.nil
          go_simp
          refine hsm.mono ?_
          rintro e w23 ⟨rfl, zz, rfl⟩
          clear hsm
          refine hK.out _ _ (trivial) (fun hHeld => ?_)
          clear hK K
          try simp only [Act.put, List.setIfInBounds_toArray, List.set_cons_zero, List.set_cons_succ]
          refine wpAnyH_take (i := 16) (oi := ⟨(some 122), _, _, _, _, _⟩) (v := ?vq1_14) rfl (by kernel_rfl) (by kernel_rfl) (by kernel_rfl) (fun _ _ _ h => h) (Or.inl ⟨by rfl, ?yq1_14⟩) hHeld ?_
          case yq1_14 => (intro W0 hSw; go_simp; try with_reducible rfl)
          try simp only [Act.put, List.setIfInBounds_toArray, List.set_cons_zero, List.set_cons_succ]
          refine wpAnyH_take (i := 17) (oi := ⟨(some 4), _, _, _, _, _⟩) (v := ?vq1_15) rfl (by kernel_rfl) (by kernel_rfl) (by kernel_rfl) (fun _ _ _ h => h) (Or.inl ⟨by rfl, ?yq1_15⟩) hHeld ?_
          case yq1_15 => (intro W0 hSw; go_simp; try with_reducible rfl)
          try simp only [Act.put, List.setIfInBounds_toArray, List.set_cons_zero, List.set_cons_succ]
          refine wpAnyH_done (by kernel_rfl) ?_ _
          clear hHeld
          have hend := hb0.trans (((h23.drewN kM zz).bel).mono hb0.size)
          clear h22 h23 hv
          go_wp2
          go_ret
          exact ⟨rfl, hend⟩
    · obtain rfl : k = n1 := by omega
      have h11 := h4.lo kM (by decide) (by omega)
      clear h4 hlt
      have hop := lo_open kM h11 (by rw [HK.out]; omega)
      go_wp2_with fail
      refine hop.mono ?_
      rintro e w20 ⟨j2, rfl, h20⟩
      clear hop
      have hal := lw_all kM h20 (by rw [HK.out]; omega)
      go_wp2_with fail
      refine hal.mono ?_
      rintro e w21 ⟨m1, rfl, hm1, _, _, h21⟩
      obtain rfl : k = m1 := HK.out.symm.trans hm1.out
      clear hal h20 hm1
      have h22 := h21.drew kM
      have hPw : Prt w21.drew w21.drew.heap.size A1 (l1.take k) := (PrtF.prt (h22.data kM).2).take k
      clear h21
      have hal := lw_all kM h22 (by rw [HK.out]; omega)
      have hkn : k ≤ c1 := by omega
      have hcu := hcutw A1 k c1 k (k : Int) rfl hkn
      go_upto_region 26 with fail
      refine wp_region_held_drew (S := (fun _ => True)) (by kernel_rfl) (trivial) (fun hHeld => ?_)
      refine wpAnyH_take (i := 0) (oi := ⟨(some 106), _, _, _, _, _⟩) (v := ?vq2_0) rfl (by kernel_rfl) (by kernel_rfl) (by kernel_rfl) (fun _ _ _ h => h) (Or.inl ⟨by rfl, ?yq2_0⟩) hHeld ?_
      case yq2_0 => (intro W0 hSw; go_simp; try with_reducible rfl)
      try simp only [Act.put, List.setIfInBounds_toArray, List.set_cons_zero, List.set_cons_succ]
      refine wpAnyH_take (i := 1) (oi := ⟨(some 107), _, _, _, _, _⟩) (v := ?vq2_1) rfl (by kernel_rfl) (by kernel_rfl) (by kernel_rfl) (fun _ _ _ h => h) (Or.inl ⟨by rfl, ?yq2_1⟩) hHeld ?_
      case yq2_1 => (intro W0 hSw; go_simp; try with_reducible rfl)
      try simp only [Act.put, List.setIfInBounds_toArray, List.set_cons_zero, List.set_cons_succ]
      refine wpAnyH_take (i := 2) (oi := ⟨(some 108), _, _, _, _, _⟩) (v := ?vq2_2) rfl (by kernel_rfl) (by kernel_rfl) (by kernel_rfl) (fun _ _ _ h => h) (Or.inl ⟨by rfl, ?yq2_2⟩) hHeld ?_
      case yq2_2 => (intro W0 hSw; go_simp; try with_reducible rfl)
      try simp only [Act.put, List.setIfInBounds_toArray, List.set_cons_zero, List.set_cons_succ]
      refine wpAnyH_take (i := 3) (oi := ⟨(some 109), _, _, _, _, _⟩) (v := ?vq2_3) rfl (by kernel_rfl) (by kernel_rfl) (by kernel_rfl) (fun _ _ _ h => h) (Or.inl ⟨by rfl, ?yq2_3⟩) hHeld ?_
      case yq2_3 => (intro W0 hSw; go_simp; try with_reducible rfl)
      try simp only [Act.put, List.setIfInBounds_toArray, List.set_cons_zero, List.set_cons_succ]
      refine wpAnyH_take (i := 4) (oi := ⟨(some 110), _, _, _, _, _⟩) (v := ?vq2_4) rfl (by kernel_rfl) (by kernel_rfl) (by kernel_rfl) (fun _ _ _ h => h) (Or.inl ⟨by rfl, ?yq2_4⟩) hHeld ?_
      case yq2_4 => (intro W0 hSw; go_simp; try with_reducible rfl)
      try simp only [Act.put, List.setIfInBounds_toArray, List.set_cons_zero, List.set_cons_succ]
      refine wpAnyH_take (i := 5) (oi := ⟨(some 111), _, _, _, _, _⟩) (v := ?vq2_5) rfl (by kernel_rfl) (by kernel_rfl) (by kernel_rfl) (fun _ _ _ h => h) (Or.inl ⟨by rfl, ?yq2_5⟩) hHeld ?_
      case yq2_5 => (intro W0 hSw; go_simp; try with_reducible rfl)
      try simp only [Act.put, List.setIfInBounds_toArray, List.set_cons_zero, List.set_cons_succ]
      refine wpAnyH_take (i := 6) (oi := ⟨(some 112), _, _, _, _, _⟩) (v := ?vq2_6) rfl (by kernel_rfl) (by kernel_rfl) (by kernel_rfl) (fun _ _ _ h => h) (Or.inl ⟨by rfl, ?yq2_6⟩) hHeld ?_
      case yq2_6 => (intro W0 hSw; go_simp; try with_reducible rfl)
      try simp only [Act.put, List.setIfInBounds_toArray, List.set_cons_zero, List.set_cons_succ]
      refine wpAnyH_take (i := 7) (oi := ⟨(some 113), _, _, _, _, _⟩) (v := ?vq2_7) rfl (by kernel_rfl) (by kernel_rfl) (by kernel_rfl) (fun _ _ _ h => h) (Or.inl ⟨by rfl, ?yq2_7⟩) hHeld ?_
      case yq2_7 => (intro W0 hSw; go_simp; try with_reducible rfl)
      try simp only [Act.put, List.setIfInBounds_toArray, List.set_cons_zero, List.set_cons_succ]
      refine wpAnyH_take (i := 8) (oi := ⟨(some 114), _, _, _, _, _⟩) (v := ?vq2_8) rfl (by kernel_rfl) (by kernel_rfl) (by kernel_rfl) (fun _ _ _ h => h) (Or.inl ⟨by rfl, ?yq2_8⟩) hHeld ?_
      case yq2_8 => (intro W0 hSw; go_simp; try with_reducible rfl)
      try simp only [Act.put, List.setIfInBounds_toArray, List.set_cons_zero, List.set_cons_succ]
      refine wpAnyH_take (i := 9) (oi := ⟨(some 115), _, _, _, _, _⟩) (v := ?vq2_9) rfl (by kernel_rfl) (by kernel_rfl) (by kernel_rfl) (fun _ _ _ h => h) (Or.inl ⟨by rfl, ?yq2_9⟩) hHeld ?_
      case yq2_9 => (intro W0 hSw; go_simp; try with_reducible rfl)
      try simp only [Act.put, List.setIfInBounds_toArray, List.set_cons_zero, List.set_cons_succ]
      refine wpAnyH_take (i := 10) (oi := ⟨(some 116), _, _, _, _, _⟩) (v := ?vq2_10) rfl (by kernel_rfl) (by kernel_rfl) (by kernel_rfl) (fun _ _ _ h => h) (Or.inl ⟨by rfl, ?yq2_10⟩) hHeld ?_
      case yq2_10 => (intro W0 hSw; go_simp; try with_reducible rfl)
      try simp only [Act.put, List.setIfInBounds_toArray, List.set_cons_zero, List.set_cons_succ]
      refine wpAnyH_take (i := 12) (oi := ⟨(some 118), _, _, _, _, _⟩) (v := ?vq2_11) rfl (by kernel_rfl) (by kernel_rfl) (by kernel_rfl) (fun _ _ _ h => h) (Or.inl ⟨by rfl, ?yq2_11⟩) hHeld ?_
      case yq2_11 => (intro W0 hSw; go_simp; try with_reducible rfl)
      try simp only [Act.put, List.setIfInBounds_toArray, List.set_cons_zero, List.set_cons_succ]
      refine wpAnyH_take (i := 13) (oi := ⟨(some 119), _, _, _, _, _⟩) (v := ?vq2_12) rfl (by kernel_rfl) (by kernel_rfl) (by kernel_rfl) (fun _ _ _ h => h) (Or.inl ⟨by rfl, ?yq2_12⟩) hHeld ?_
      case yq2_12 => (intro W0 hSw; go_simp; try with_reducible rfl)
      try simp only [Act.put, List.setIfInBounds_toArray, List.set_cons_zero, List.set_cons_succ]
      refine wpAnyH_take (i := 14) (oi := ⟨(some 120), _, _, _, _, _⟩) (v := ?vq2_13) rfl (by kernel_rfl) (by kernel_rfl) (by kernel_rfl) (fun _ _ _ h => h) (Or.inl ⟨by rfl, ?yq2_13⟩) hHeld ?_
      case yq2_13 => (intro W0 hSw; go_simp; try with_reducible rfl)
      try simp only [Act.put, List.setIfInBounds_toArray, List.set_cons_zero, List.set_cons_succ]
      refine wpAnyH_ready (rs := [11]) (by kernel_rfl) (by simp) ?_
      refine AllReadyH.cons (i := 11) (o := ⟨(some 117), _, _, _, _, _⟩) rfl (fun K hK => ?_) AllReadyH.nil
      go_simp
      refine hal.mono ?_
      rintro e w22 ⟨mr, rfl, hmr, hv, hb22, h23⟩
      obtain rfl : k = mr := HK.out.symm.trans hmr.out
      have hsm := same_any w22 (some ⟨w21.drew.heap.size, 0, none⟩) A1 (l1.take k) (l1.take k) k k k c1 (all_prt hv) HK.out (hPw.next hb22) HK.out (by omega)
      rw [show decide (l1.take k = l1.take k) = true by simp] at hsm
      clear hal
      refine hK.out _ _ (trivial) (fun hHeld => ?_)
      clear hK K
      try simp only [Act.put, List.setIfInBounds_toArray, List.set_cons_zero, List.set_cons_succ]
      refine wpAnyH_ready (rs := [15]) (by kernel_rfl) (by simp) ?_
      refine AllReadyH.cons (i := 15) (o := ⟨(some 121), _, _, _, _, _⟩) rfl (fun K hK => ?_) AllReadyH.nil
      go_simp
      refine hsm.mono ?_
      rintro e w23 ⟨rfl, zz, rfl⟩
      clear hsm
      refine hK.out _ _ (trivial) (fun hHeld => ?_)
      clear hK K
      try simp only [Act.put, List.setIfInBounds_toArray, List.set_cons_zero, List.set_cons_succ]
      refine wpAnyH_take (i := 16) (oi := ⟨(some 122), _, _, _, _, _⟩) (v := ?vq2_14) rfl (by kernel_rfl) (by kernel_rfl) (by kernel_rfl) (fun _ _ _ h => h) (Or.inl ⟨by rfl, ?yq2_14⟩) hHeld ?_
      case yq2_14 => (intro W0 hSw; go_simp; try with_reducible rfl)
      try simp only [Act.put, List.setIfInBounds_toArray, List.set_cons_zero, List.set_cons_succ]
      refine wpAnyH_take (i := 17) (oi := ⟨(some 4), _, _, _, _, _⟩) (v := ?vq2_15) rfl (by kernel_rfl) (by kernel_rfl) (by kernel_rfl) (fun _ _ _ h => h) (Or.inl ⟨by rfl, ?yq2_15⟩) hHeld ?_
      case yq2_15 => (intro W0 hSw; go_simp; try with_reducible rfl)
      try simp only [Act.put, List.setIfInBounds_toArray, List.set_cons_zero, List.set_cons_succ]
      refine wpAnyH_done (by kernel_rfl) ?_ _
      clear hHeld
      have hend := hb0.trans (((h23.drewN kM zz).bel).mono hb0.size)
      clear h22 h23 hv
      go_wp2
      go_ret
      exact ⟨rfl, hend⟩
end Go.Proofs.YtaklbgikoeedbaaDoor
