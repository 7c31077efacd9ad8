/-
  Law 14: whichever writes are lost, whatever is torn: a beginning is there, never more; and what is added then stays. Conditions: none.
-/
import Derived.Test.YtaklbgikoeedbaaDoorJnHo
import Derived.Test.YtaklbgikoeedbaaDoorPkF
namespace Go.Proofs.YtaklbgikoeedbaaDoor
open Go.RowKit

set_option maxRecDepth 100000 in
set_option maxHeartbeats 8000000 in
theorem walk_JournalHoles (w : World) (_ : Laid w) (A0 : Option Addr) (l0 : Rcs) (n0 c0 : Nat) (b0 : Prt w w.heap.size A0 l0) (e0 : l0.length = n0) (f0 : n0 ≤ c0) (s1 : Int) (_ : (Lit.int .i64 s1).wf = true) (u2 : Nat) (o2 : u2 < 18446744073709551616) (t3 : Int) (w3 : (Lit.int .i64 t3).wf = true)
    (A4 : Option Addr) (l4 : List UInt8) (n4 c4 : Nat) (b4 : Byt w w.heap.size A4 l4) (e4 : l4.length = n4) (f4 : n4 ≤ c4) :
    Calls Tryd.prog 5 #[.slice A0 n0 c0, .int .i64 s1, .int .u64 (u2 : Int), .int .i64 t3, .slice A4 n4 c4] w fun e w' => e = .returned (.bool true) ∧ Below w.heap.size w w' := by
  have hawk := jawake_any w
  have ht : -9223372036854775808 ≤ t3 ∧ t3 ≤ 9223372036854775807 := by simpa [Lit.wf, IntKind.min, IntKind.max, IntKind.signed, IntKind.bits] using w3
  have ht2 : t3 < 9223372036854775808 := by omega
  have ht3 := ht.1
  have E0 := Lib.hid e0
  have E4 := Lib.hid e4
  clear w3 e0 e4 ht
  by_cases hn0 : 30 < n0
  · have hn0' : (30 : Int) < (n0 : Int) := by omega
    go_enter Tryd.func5, Tryd.ntmps5
    go_wp2_with fail
    refine hawk.mono ?_
    rintro e w0 ⟨rfl, hb0⟩
    clear hawk
    go_wp2
    go_ret
    exact ⟨rfl, hb0⟩
  have hn0' : ¬ (30 : Int) < (n0 : Int) := by omega
  by_cases hs0 : s1 < 0
  · go_enter Tryd.func5, Tryd.ntmps5
    go_wp2_with fail
    refine hawk.mono ?_
    rintro e w0 ⟨rfl, hb0⟩
    clear hawk
    go_wp2
    go_ret
    exact ⟨rfl, hb0⟩
  obtain ⟨sy, rfl⟩ : ∃ sy : Nat, s1 = (sy : Int) := ⟨s1.toNat, by omega⟩
  by_cases hs1 : n0 < sy
  · have hs1' : (n0 : Int) < (sy : Int) := by omega
    go_enter Tryd.func5, Tryd.ntmps5
    go_wp2_with fail
    refine hawk.mono ?_
    rintro e w0 ⟨rfl, hb0⟩
    clear hawk
    go_wp2
    go_ret
    exact ⟨rfl, hb0⟩
  have hs1' : ¬ (n0 : Int) < (sy : Int) := by omega
  by_cases hn4 : 200 < n4
  · have hn4' : (200 : Int) < (n4 : Int) := by omega
    go_enter Tryd.func5, Tryd.ntmps5
    go_wp2_with fail
    refine hawk.mono ?_
    rintro e w0 ⟨rfl, hb0⟩
    clear hawk
    go_wp2
    go_ret
    exact ⟨rfl, hb0⟩
  have hn4' : ¬ (200 : Int) < (n4 : Int) := by omega
  have hnew := fun w0 => hold_new w0 262144 (by decide) (by decide)
  have kN := kNo
  have hcutw := run_cut_h (P := Tryd.prog) Tryd.underlying32 (show (Tryd.prog.info? 31).map (·.size) = some 1 by kernel_rfl)
  go_enter Tryd.func5, Tryd.ntmps5
  go_wp2_with fail
  refine hawk.mono ?_
  rintro e Y ⟨rfl, hb0⟩
  clear hawk
  have b0' := (b0.below hb0).up hb0.size
  have b4' := (b4.below hb0).up hb0.size
  clear b0 b4
  have hnw := hnew Y
  clear hnew
  go_wp2_with fail
  refine hnw.mono ?_
  rintro e w1 ⟨d, rfl, h1⟩
  clear hnw
  have hop := lo_open kN (lo_new h1 (by decide)) (by decide)
  go_wp2_with fail
  refine hop.mono ?_
  rintro e w2 ⟨j, rfl, h2⟩
  have h3 : Lw Y w2 j d 262144 1000 (204 * 0) 1 [] [] 0 (KAnd (KAnd KNo (KP A0 l0)) (KB A4 l4)) := ((h2.oldP b0').oldB b4').more (by decide) (by decide) (by decide)
  have kM : Kp (KAnd (KAnd KNo (KP A0 l0)) (KB A4 l4)) := kAnd (kAnd kNo (kP _ _)) (kB _ _)
  clear hop h1 h2
  go_wp2_with fail
  go_loopw [15] (fun x wr => ∃ k : Nat, x = .int .i64 (k : Int) ∧ k ≤ n0 ∧ Lw Y wr j d 262144 (1000 + 10 * k) (204 * k) 1 [] (l0.take k) (if sy ≤ k then sy else 0) (KAnd (KAnd KNo (KP A0 l0)) (KB A4 l4))) (fun x _ => n0 - (intOf x).toNat)
  case atStart =>
    refine ⟨0, rfl, Nat.zero_le _, ?_⟩
    have e : (if sy ≤ 0 then sy else 0) = 0 := by split <;> omega
    rw [e]; exact h3
  case round =>
    obtain ⟨k, rfl, hk, h4⟩ := hrel
    have HK : Hid ((l0.take k).length = k) := show _ = _ by rw [List.length_take, E0.out]; exact Nat.min_eq_left hk
    by_cases hlt : k < n0
    · have hPr : Prt wr wr.heap.size A0 l0 := PrtF.prt (h4.data kM).1.2
      obtain ⟨b, o, Aj, nj, cj, p, hAj, hblt, hcell, hpk, hpj, hcj, hbp⟩ := hPr.at_ (k := k) (by rw [E0.out]; exact hlt)
      have h5 := h4.one kM (fun _ _ h => h.1.2) hpk.out hAj hblt hcell
      have kM1 := kAnd kM (kP (some ⟨wr.heap.size, 0, none⟩) [p])
      subst hAj
      by_cases hbg : 200 < nj
      · have hbg' : (200 : Int) < (nj : Int) := by omega
        have hend := hb0.trans (h4.bel.mono hb0.size)
        clear hbp hpk h4 h5 hPr
        go_wp2
        go_ret
        exact ⟨rfl, hend⟩
      · have hbg' : ¬ (200 : Int) < (nj : Int) := by omega
        have hst := vlt (take_step hpk.out)
        have hrb : (rb [p]).length ≤ 204 := by rw [rb_one, pt_len, hpj.out]; omega
        have had := lw_add kM1 h5 (some ⟨wr.heap.size, 0, none⟩) [p] 1 1 (fun W F h => h.2) rfl (by decide) (by omega) (fun q hq => by rw [List.mem_singleton] at hq; subst hq; rw [hpj.out]; omega) (by rw [HK.out]; omega) (by omega)
        have HRB := Lib.hid hrb
        have HK1 : Hid ((l0.take (k + 1)).length = k + 1) := show _ = _ by rw [List.length_take, E0.out]; exact Nat.min_eq_left hlt
        clear hbp hpk h4 h5 hPr hrb
        go_wp2_with fail
        refine had.mono ?_
        rintro e w3 ⟨rfl, h6⟩
        have h7 := (h6.weak (K2 := KAnd (KAnd KNo (KP (some ⟨b, o, none⟩) l0)) (KB A4 l4)) fun _ _ h => h.1).more (NB' := 1000 + 10 * k + 3) (B' := 204 * (k + 1)) (LB' := 1) (by omega) (by have := HRB.out; omega) (Nat.le_refl _)
        rw [hst.out] at h7
        clear had h6
        by_cases hsy : k + 1 = sy
        · have hsy' : (k : Int) + 1 = (sy : Int) := by omega
          have hsn := lw_sync kM h7
          clear h7
          go_wp2_with fail
          refine hsn.mono ?_
          rintro e w4 ⟨rfl, h8⟩
          rw [HK1.out] at h8
          have h9 : Lw Y w4 j d 262144 (1000 + 10 * (k + 1)) (204 * (k + 1)) 1 [] (l0.take (k + 1)) (if sy ≤ k + 1 then sy else 0) (KAnd (KAnd KNo (KP (some ⟨b, o, none⟩) l0)) (KB A4 l4)) := by
            rw [if_pos (by omega)]
            have h := h8.more (NB' := 1000 + 10 * (k + 1)) (by omega) (Nat.le_refl _) (Nat.le_refl _)
            rw [hsy] at h; rw [hsy]; exact h
          clear hsn h8
          go_wp2
          go_roundw
          case rel => exact ⟨k + 1, by go_num, by omega, h9⟩
          case measure => simp [intOf]; omega
        · have hsy' : ¬ (k : Int) + 1 = (sy : Int) := by omega
          have h9 : Lw Y w3 j d 262144 (1000 + 10 * (k + 1)) (204 * (k + 1)) 1 [] (l0.take (k + 1)) (if sy ≤ k + 1 then sy else 0) (KAnd (KAnd KNo (KP (some ⟨b, o, none⟩) l0)) (KB A4 l4)) := by
            have e : (if sy ≤ k + 1 then sy else 0) = (if sy ≤ k then sy else 0) := by
              by_cases h : sy ≤ k
              · rw [if_pos h, if_pos (by omega)]
              · rw [if_neg h, if_neg (by omega)]
            rw [e]
            exact h7.more (by omega) (Nat.le_refl _) (Nat.le_refl _)
          clear h7
          go_wp2
          go_roundw
          case rel => exact ⟨k + 1, by go_num, by omega, h9⟩
          case measure => simp [intOf]; omega
    · obtain rfl : k = n0 := by omega
      have h5 : Lw Y wr j d 262144 2000 10000 1 [] l0 sy (KAnd (KAnd KNo (KP A0 l0)) (KB A4 l4)) := by
        have h := h4.more (NB' := 2000) (B' := 10000) (LB' := 1) (by omega) (by omega) (by decide)
        rw [if_pos (by omega), List.take_of_length_le (by rw [E0.out]; exact Nat.le_refl _)] at h
        exact h
      clear h4 HK
      have hcr := lw_crash kM h5 u2 t3.toNat t3 o2 rfl ht2 ht3
      clear h5
      go_wp2_with fail
      refine hcr.mono ?_
      rintro e w8 ⟨rfl, h14⟩
      clear hcr
      have hon := lc_on kM h14 (by decide) (by decide) (by decide)
      clear h14
      go_wp2_with fail
      refine hon.mono ?_
      rintro e w9 ⟨rfl, m, hm1, _, hm3, h15⟩
      rw [E0.out] at hm3
      clear hon
      have HM0 : Hid ((l0.take m).length = m) := show _ = _ by rw [List.length_take, E0.out]; exact Nat.min_eq_left hm3
      have hop := lo_open kM h15 (by rw [HM0.out]; omega)
      clear h15
      go_wp2_with fail
      refine hop.mono ?_
      rintro e w10 ⟨j2, rfl, h16⟩
      clear hop
      have h17 : Lw Y w10 j2 d 262144 5000 20000 2 [] (l0.take m) m (KAnd (KAnd KNo (KP A0 l0)) (KB A4 l4)) := by
        have h := h16.more (NB' := 5000) (B' := 20000) (LB' := 2) (by omega) (by omega) (by decide)
        rw [HM0.out] at h; exact h
      clear h16
      have hal := lw_all kM h17 (by rw [HM0.out]; omega)
      go_wp2_with fail
      refine hal.mono ?_
      rintro e w11 ⟨m1, rfl, hm1', _, _, h18⟩
      obtain rfl : m = m1 := HM0.out.symm.trans hm1'.out
      clear hal h17 hm1'
      have h19 := h18.drew kM
      have hPw : Prt w11.drew w11.drew.heap.size A0 (l0.take m) := (PrtF.prt (h19.data kM).1.2).take m
      clear h18
      have hal := lw_all kM h19 (by rw [HM0.out]; omega)
      have hmc : m ≤ c0 := by omega
      have hcu := hcutw A0 k c0 m (m : Int) rfl hmc
      have hms : ¬ (m : Int) < (sy : Int) := by omega
      have hmk : ¬ (k : Int) < (m : Int) := by omega
      have hd1 : decide ((m : Int) < (sy : Int)) = false := decide_eq_false hms
      have hd2 : decide ((k : Int) < (m : Int)) = false := decide_eq_false hmk
      go_upto_region 20 with fail
      refine wp_region_held_drew (S := (fun _ => True)) (by kernel_rfl) (trivial) (fun hHeld => ?_)
      refine wpAnyH_take (i := 0) (oi := ⟨(some 101), _, _, _, _, _⟩) (v := ?vq1_0) rfl (by kernel_rfl) (by kernel_rfl) (by kernel_rfl) (fun _ _ _ h => h) (Or.inl ⟨by rfl, ?yq1_0⟩) hHeld ?_
      case yq1_0 => (intro W0 hSw; go_simp; try with_reducible rfl)
      try simp only [Act.put, List.setIfInBounds_toArray, List.set_cons_zero, List.set_cons_succ]
      refine wpAnyH_take (i := 1) (oi := ⟨(some 102), _, _, _, _, _⟩) (v := ?vq1_1) rfl (by kernel_rfl) (by kernel_rfl) (by kernel_rfl) (fun _ _ _ h => h) (Or.inl ⟨by rfl, ?yq1_1⟩) hHeld ?_
      case yq1_1 => (intro W0 hSw; go_simp; try with_reducible rfl)
      try simp only [Act.put, List.setIfInBounds_toArray, List.set_cons_zero, List.set_cons_succ]
      refine wpAnyH_take (i := 2) (oi := ⟨(some 103), _, _, _, _, _⟩) (v := .bool false) rfl (by kernel_rfl) (by kernel_rfl) (by kernel_rfl) (fun _ _ _ h => h) (Or.inl ⟨by rfl, ?yA⟩) hHeld ?_
      case yA => (intro W0 hSw; go_simp; try omega)
      try simp only [Act.put, List.setIfInBounds_toArray, List.set_cons_zero, List.set_cons_succ]
      refine wpAnyH_take (i := 3) (oi := ⟨(some 104), _, _, _, _, _⟩) (v := ?vq1_2) rfl (by kernel_rfl) (by kernel_rfl) (by kernel_rfl) (fun _ _ _ h => h) (Or.inl ⟨by rfl, ?yq1_2⟩) hHeld ?_
      case yq1_2 => (intro W0 hSw; go_simp; try with_reducible rfl)
      try simp only [Act.put, List.setIfInBounds_toArray, List.set_cons_zero, List.set_cons_succ]
      refine wpAnyH_take (i := 4) (oi := ⟨(some 105), _, _, _, _, _⟩) (v := ?vq1_3) rfl (by kernel_rfl) (by kernel_rfl) (by kernel_rfl) (fun _ _ _ h => h) (Or.inl ⟨by rfl, ?yq1_3⟩) hHeld ?_
      case yq1_3 => (intro W0 hSw; go_simp; try with_reducible rfl)
      try simp only [Act.put, List.setIfInBounds_toArray, List.set_cons_zero, List.set_cons_succ]
      refine wpAnyH_take (i := 5) (oi := ⟨(some 106), _, _, _, _, _⟩) (v := ?vq1_4) rfl (by kernel_rfl) (by kernel_rfl) (by kernel_rfl) (fun _ _ _ h => h) (Or.inl ⟨by rfl, ?yq1_4⟩) hHeld ?_
      case yq1_4 => (intro W0 hSw; go_simp; try with_reducible rfl)
      try simp only [Act.put, List.setIfInBounds_toArray, List.set_cons_zero, List.set_cons_succ]
      refine wpAnyH_take (i := 6) (oi := ⟨(some 107), _, _, _, _, _⟩) (v := ?vq1_5) rfl (by kernel_rfl) (by kernel_rfl) (by kernel_rfl) (fun _ _ _ h => h) (Or.inl ⟨by rfl, ?yq1_5⟩) hHeld ?_
      case yq1_5 => (intro W0 hSw; go_simp; try with_reducible rfl)
      try simp only [Act.put, List.setIfInBounds_toArray, List.set_cons_zero, List.set_cons_succ]
      refine wpAnyH_take (i := 7) (oi := ⟨(some 108), _, _, _, _, _⟩) (v := .bool false) rfl (by kernel_rfl) (by kernel_rfl) (by kernel_rfl) (fun _ _ _ h => h) (Or.inl ⟨by rfl, ?yB⟩) hHeld ?_
      case yB => (intro W0 hSw; go_simp; try omega)
      try simp only [Act.put, List.setIfInBounds_toArray, List.set_cons_zero, List.set_cons_succ]
      refine wpAnyH_take (i := 8) (oi := ⟨(some 109), _, _, _, _, _⟩) (v := ?vq1_6) rfl (by kernel_rfl) (by kernel_rfl) (by kernel_rfl) (fun _ _ _ h => h) (Or.inl ⟨by rfl, ?yq1_6⟩) hHeld ?_
      case yq1_6 => (intro W0 hSw; go_simp; try with_reducible rfl)
      try simp only [Act.put, List.setIfInBounds_toArray, List.set_cons_zero, List.set_cons_succ]
      refine wpAnyH_take (i := 9) (oi := ⟨(some 110), _, _, _, _, _⟩) (v := ?vq1_7) rfl (by kernel_rfl) (by kernel_rfl) (by kernel_rfl) (fun _ _ _ h => h) (Or.inl ⟨by rfl, ?yq1_7⟩) hHeld ?_
      case yq1_7 => (intro W0 hSw; go_simp; try with_reducible rfl)
      try simp only [Act.put, List.setIfInBounds_toArray, List.set_cons_zero, List.set_cons_succ]
      refine wpAnyH_take (i := 10) (oi := ⟨(some 111), _, _, _, _, _⟩) (v := ?vq1_8) rfl (by kernel_rfl) (by kernel_rfl) (by kernel_rfl) (fun _ _ _ h => h) (Or.inl ⟨by rfl, ?yq1_8⟩) hHeld ?_
      case yq1_8 => (intro W0 hSw; go_simp; try with_reducible rfl)
      try simp only [Act.put, List.setIfInBounds_toArray, List.set_cons_zero, List.set_cons_succ]
      refine wpAnyH_take (i := 12) (oi := ⟨(some 113), _, _, _, _, _⟩) (v := ?vq1_9) rfl (by kernel_rfl) (by kernel_rfl) (by kernel_rfl) (fun _ _ _ h => h) (Or.inl ⟨by rfl, ?yq1_9⟩) hHeld ?_
      case yq1_9 => (intro W0 hSw; go_simp; try with_reducible rfl)
      try simp only [Act.put, List.setIfInBounds_toArray, List.set_cons_zero, List.set_cons_succ]
      refine wpAnyH_take (i := 13) (oi := ⟨(some 114), _, _, _, _, _⟩) (v := ?vq1_10) rfl (by kernel_rfl) (by kernel_rfl) (by kernel_rfl) (fun _ _ _ h => h) (Or.inl ⟨by rfl, ?yq1_10⟩) hHeld ?_
      case yq1_10 => (intro W0 hSw; go_simp; try with_reducible rfl)
      try simp only [Act.put, List.setIfInBounds_toArray, List.set_cons_zero, List.set_cons_succ]
      refine wpAnyH_take (i := 14) (oi := ⟨(some 115), _, _, _, _, _⟩) (v := ?vq1_11) rfl (by kernel_rfl) (by kernel_rfl) (by kernel_rfl) (fun _ _ _ h => h) (Or.inl ⟨by rfl, ?yq1_11⟩) hHeld ?_
      case yq1_11 => (intro W0 hSw; go_simp; try with_reducible rfl)
      try simp only [Act.put, List.setIfInBounds_toArray, List.set_cons_zero, List.set_cons_succ]
      refine wpAnyH_ready (rs := [11]) (by kernel_rfl) (by simp) ?_
      refine AllReadyH.cons (i := 11) (o := ⟨(some 112), _, _, _, _, _⟩) rfl (fun K hK => ?_) AllReadyH.nil
      go_simp
      refine hal.mono ?_
      rintro e w12 ⟨mr, rfl, hmr, hv, hb12, h20⟩
      obtain rfl : m = mr := HM0.out.symm.trans hmr.out
      have hsm := same_any w12 (some ⟨w11.drew.heap.size, 0, none⟩) A0 (l0.take m) (l0.take m) m m m c0 (all_prt hv) HM0.out (hPw.next hb12) HM0.out (by omega)
      rw [show decide (l0.take m = l0.take m) = true by simp] at hsm
      clear hal
      refine hK.out _ _ (trivial) (fun hHeld => ?_)
      clear hK K
      try simp only [Act.put, List.setIfInBounds_toArray, List.set_cons_zero, List.set_cons_succ]
      refine wpAnyH_ready (rs := [15]) (by kernel_rfl) (by simp) ?_
      refine AllReadyH.cons (i := 15) (o := ⟨(some 116), _, _, _, _, _⟩) rfl (fun K hK => ?_) AllReadyH.nil
      go_simp
      refine hsm.mono ?_
      rintro e w13 ⟨rfl, zz, rfl⟩
      clear hsm
      refine hK.out _ _ (trivial) (fun hHeld => ?_)
      clear hK K
      try simp only [Act.put, List.setIfInBounds_toArray, List.set_cons_zero, List.set_cons_succ]
      refine wpAnyH_take (i := 16) (oi := ⟨(some 117), _, _, _, _, _⟩) (v := ?vq1_12) rfl (by kernel_rfl) (by kernel_rfl) (by kernel_rfl) (fun _ _ _ h => h) (Or.inl ⟨by rfl, ?yq1_12⟩) hHeld ?_
      case yq1_12 => (intro W0 hSw; go_simp; try with_reducible rfl)
      try simp only [Act.put, List.setIfInBounds_toArray, List.set_cons_zero, List.set_cons_succ]
      refine wpAnyH_take (i := 17) (oi := ⟨(some 118), _, _, _, _, _⟩) (v := ?vq1_13) rfl (by kernel_rfl) (by kernel_rfl) (by kernel_rfl) (fun _ _ _ h => h) (Or.inl ⟨by rfl, ?yq1_13⟩) hHeld ?_
      case yq1_13 => (intro W0 hSw; go_simp; try with_reducible rfl)
      try simp only [Act.put, List.setIfInBounds_toArray, List.set_cons_zero, List.set_cons_succ]
      refine wpAnyH_done (by kernel_rfl) ?_ _
      clear hHeld hPw hv h19
      have h21 := h20.drewN kM zz
      clear h20
      generalize World.drewN w12 zz = w13 at *
      have h22 := h21.oneB kM (fun _ _ h => h.2) E4.out f4
      have hrb4 : (rb [l4]).length ≤ 204 := by rw [rb_one, pt_len, E4.out]; omega
      have had := lw_add (kAnd kM (kP _ _)) h22 (some ⟨w13.heap.size, 0, none⟩) [l4] 1 1 (fun W F h => h.2) rfl (by decide) (by decide) (fun q hq => by rw [List.mem_singleton] at hq; subst hq; rw [E4.out]; omega) (by rw [HM0.out]; omega) (by omega)
      have HRB := Lib.hid hrb4
      clear h21 hrb4
      go_wp2_with fail
      refine had.mono ?_
      rintro e w14 ⟨rfl, h23⟩
      obtain ⟨R, hR⟩ : ∃ R, R = l0.take m ++ [l4] := ⟨_, rfl⟩
      have h24 : Lw Y w14 j2 d 262144 6000 30000 2 [] R m (KAnd (KAnd KNo (KP A0 l0)) (KB A4 l4)) := by
        rw [hR]
        exact (h23.weak fun _ _ h => h.1).more (by decide) (by have := HRB.out; omega) (by decide)
      have HL : Hid (R.length = m + 1) := show _ = _ by rw [hR, List.length_append, HM0.out]; rfl
      have HRR := vlt hR
      clear had h22 h23 hR
      have hsn := lw_sync kM h24
      go_wp2_with fail
      refine hsn.mono ?_
      rintro e w15 ⟨rfl, h25⟩
      rw [HL.out] at h25
      clear hsn h24
      have hcr := lw_crash kM h25 0 0 0 (by decide) rfl (by decide) (by decide)
      clear h25
      go_wp2_with fail
      refine hcr.mono ?_
      rintro e w16 ⟨rfl, h26⟩
      clear hcr
      have hon := lc_on kM h26 (by decide) (by decide) (by decide)
      clear h26
      go_wp2_with fail
      refine hon.mono ?_
      rintro e w17 ⟨rfl, mq, _, hq2, _, h27⟩
      obtain rfl : mq = m + 1 := hq2.out stays_none
      rw [List.take_of_length_le (by rw [HL.out]; exact Nat.le_refl _)] at h27
      clear hon hq2
      have hop := lo_open kM h27 (by rw [HL.out]; omega)
      clear h27
      go_wp2_with fail
      refine hop.mono ?_
      rintro e w30 ⟨j3, rfl, h29⟩
      clear hop
      have h30 := h29.drew kM
      have hbY := h30.bel.size
      clear h29
      go_upto_region 29 with fail
      refine wp_region_held_drew (S := (fun _ => True)) (by kernel_rfl) (trivial) (fun hHeld => ?_)
      generalize World.drew w30 = w31 at *
      refine wpAnyH_take (i := 0) (oi := ⟨(some 144), _, _, _, _, _⟩) (v := ?vq2_0) rfl (by kernel_rfl) (by kernel_rfl) (by kernel_rfl) (fun _ _ _ h => h) (Or.inl ⟨by rfl, ?yq2_0⟩) hHeld ?_
      case yq2_0 => (intro W0 hSw; go_simp; try with_reducible rfl)
      try simp only [Act.put, List.setIfInBounds_toArray, List.set_cons_zero, List.set_cons_succ]
      refine wpAnyH_take (i := 3) (oi := ⟨(some 147), _, _, _, _, _⟩) (v := ?vq2_1) rfl (by kernel_rfl) (by kernel_rfl) (by kernel_rfl) (fun _ _ _ h => h) (Or.inl ⟨by rfl, ?yq2_1⟩) hHeld ?_
      case yq2_1 => (intro W0 hSw; go_simp; try with_reducible rfl)
      try simp only [Act.put, List.setIfInBounds_toArray, List.set_cons_zero, List.set_cons_succ]
      refine wpAnyH_take (i := 4) (oi := ⟨(some 148), _, _, _, _, _⟩) (v := ?vq2_2) rfl (by kernel_rfl) (by kernel_rfl) (by kernel_rfl) (fun _ _ _ h => h) (Or.inl ⟨by rfl, ?yq2_2⟩) hHeld ?_
      case yq2_2 => (intro W0 hSw; go_simp; try with_reducible rfl)
      try simp only [Act.put, List.setIfInBounds_toArray, List.set_cons_zero, List.set_cons_succ]
      refine wpAnyH_take (i := 5) (oi := ⟨(some 149), _, _, _, _, _⟩) (v := ?vq2_3) rfl (by kernel_rfl) (by kernel_rfl) (by kernel_rfl) (fun _ _ _ h => h) (Or.inl ⟨by rfl, ?yq2_3⟩) hHeld ?_
      case yq2_3 => (intro W0 hSw; go_simp; try with_reducible rfl)
      try simp only [Act.put, List.setIfInBounds_toArray, List.set_cons_zero, List.set_cons_succ]
      refine wpAnyH_take (i := 7) (oi := ⟨(some 151), _, _, _, _, _⟩) (v := ?vq2_4) rfl (by kernel_rfl) (by kernel_rfl) (by kernel_rfl) (fun _ _ _ h => h) (Or.inl ⟨by rfl, ?yq2_4⟩) hHeld ?_
      case yq2_4 => (intro W0 hSw; go_simp; try with_reducible rfl)
      try simp only [Act.put, List.setIfInBounds_toArray, List.set_cons_zero, List.set_cons_succ]
      refine wpAnyH_ready (rs := [1, 2, 8]) (by kernel_rfl) (by simp) ?_
      refine AllReadyH.cons (i := 1) (o := ⟨(some 145), _, _, _, _, _⟩) rfl (fun K hK => ?_) (AllReadyH.cons (i := 2) (o := ⟨(some 146), _, _, _, _, _⟩) rfl (fun K hK => ?_) (AllReadyH.cons (i := 8) (o := ⟨(some 152), _, _, _, _, _⟩) rfl (fun K hK => ?_) AllReadyH.nil))
      · go_simp
        refine (lw_all kM (h30) (by rw [HL.out]; omega)).mono ?_
        rintro e W1 ⟨mr, rfl, hmr, hv, g1, _⟩
        obtain rfl : m + 1 = mr := HL.out.symm.trans hmr.out
        have z1 := g1.size
        have y1 : w31.heap.size < W1.heap.size := by obtain ⟨_, hv1, _⟩ := hv; exact (Array.getElem?_eq_some_iff.1 hv1).1
        have f1 : PrtF W1 (fun i => w31.heap.size ≤ i ∧ i < W1.heap.size) (some ⟨w31.heap.size, 0, none⟩) R := (all_prtF hv).mono fun i h1 h2 => ⟨h2, h1⟩
        clear hv
        refine hK.out _ _ (trivial) (fun hHeld => ?_)
        clear hK K
        try simp only [Act.put, List.setIfInBounds_toArray, List.set_cons_zero, List.set_cons_succ]
        refine wpAnyH_ready (rs := [2, 8]) (by kernel_rfl) (by simp) ?_
        refine AllReadyH.cons (i := 2) (o := ⟨(some 146), _, _, _, _, _⟩) rfl (fun K hK => ?_) (AllReadyH.cons (i := 8) (o := ⟨(some 152), _, _, _, _, _⟩) rfl (fun K hK => ?_) AllReadyH.nil)
        · go_simp
          obtain ⟨W2, hV2⟩ : ∃ V, V = W1.alloc (.cells #[] 31) := ⟨_, rfl⟩
          rw [← hV2]
          have g2 : Below W1.heap.size W1 W2 := by rw [hV2]; exact (Below.refl _ _).alloc (Nat.le_refl _) _
          have z2 := g2.size
          have y2 : W1.heap.size < W2.heap.size := by rw [hV2]; simp
          have f2 : NewL W1 W2 (some ⟨W1.heap.size, 0, none⟩) 0 0 [] := by rw [hV2]; exact NewL.start _
          clear hV2
          refine hK.out _ _ (trivial) (fun hHeld => ?_)
          clear hK K
          try simp only [Act.put, List.setIfInBounds_toArray, List.set_cons_zero, List.set_cons_succ]
          refine wpAnyH_ready (rs := [6, 8]) (by kernel_rfl) (by simp) ?_
          refine AllReadyH.cons (i := 6) (o := ⟨(some 150), _, _, _, _, _⟩) rfl (fun K hK => ?_) (AllReadyH.cons (i := 8) (o := ⟨(some 152), _, _, _, _, _⟩) rfl (fun K hK => ?_) AllReadyH.nil)
          · refine step_append_empty W2 rfl (.tmp 146) (.tmp 149) rfl (some ⟨W1.heap.size, 0, none⟩) rfl (f2) A0 m c0 rfl (fun i => i < Y.heap.size) (l0.take m) (by have hb := (((h30).next kM g1).next kM g2).bel; exact prt_F ((b0'.take m).below hb) hb.size) (fun a ha => by injection ha with ha; subst ha; show ¬ (W1.heap.size < Y.heap.size); omega) HM0.out (by omega) ?_
            intro A6 c6 W3 f6 q6 g3
            have z3 := g3.size
            have l6 := f6.lt
            have r6 : ∀ a, A6 = some a → a.block = W1.heap.size ∨ a.block = W2.heap.size := fun a ha => (q6 a ha).imp (fun ⟨b, hb, h⟩ => by injection hb with hb; subst hb; exact h) id
            refine hK.out _ _ (trivial) (fun hHeld => ?_)
            clear hK K
            try simp only [Act.put, List.setIfInBounds_toArray, List.set_cons_zero, List.set_cons_succ]
            refine wpAnyH_ready (rs := [8]) (by kernel_rfl) (by simp) ?_
            refine AllReadyH.cons (i := 8) (o := ⟨(some 152), _, _, _, _, _⟩) rfl (fun K hK => ?_) AllReadyH.nil
            go_simp
            obtain ⟨W4, hV4⟩ : ∃ V, V = W3.alloc (.cells #[.slice A4 n4 c4] 31) := ⟨_, rfl⟩
            rw [← hV4]
            have g4 : Below W3.heap.size W3 W4 := by rw [hV4]; exact (Below.refl _ _).alloc (Nat.le_refl _) _
            have z4 := g4.size
            have y4 : W3.heap.size < W4.heap.size := by rw [hV4]; simp
            have f8 : PrtF W4 (fun i => i = W3.heap.size ∨ i < Y.heap.size) (some ⟨W3.heap.size, 0, none⟩) [l4] := by
              have hb := (((((h30).next kM g1).next kM g2).next kM g3).next kM g4).bel
              exact (PL.one ((byt_F (b4'.below hb) hb.size).mono fun i _ h => .inr h) E4.out f4).prtF (by rw [hV4]; exact heap_alloc_new _ _) (.inl rfl)
            clear hV4
            refine hK.out _ _ (trivial) (fun hHeld => ?_)
            clear hK K
            try simp only [Act.put, List.setIfInBounds_toArray, List.set_cons_zero, List.set_cons_succ]
            refine wpAnyH_ready (rs := [9]) (by kernel_rfl) (by simp) ?_
            refine AllReadyH.cons (i := 9) (o := ⟨(some 153), _, _, _, _, _⟩) rfl (fun K hK => ?_) AllReadyH.nil
            refine step_append_new W4 rfl (.tmp 150) (.tmp 152) rfl A6 m c6 (l0.take m) rfl ((f6).next g4) (some ⟨W3.heap.size, 0, none⟩) 1 1 rfl (fun i => i = W3.heap.size ∨ i < Y.heap.size) [l4] (f8) (fun a ha (h8 : a.block = W3.heap.size ∨ a.block < Y.heap.size) => by have h7 := r6 a ha; have h6 : a.block < W3.heap.size := l6 a ha; omega) rfl (by omega) ?_
            intro A9 c9 W5 f9 o9 _ _
            have hAll : Prt W5 W5.heap.size (some ⟨w31.heap.size, 0, none⟩) R := PrtF.prt (((((f1).next g2).next g3).next g4).off o9 fun i _ (h1 : w31.heap.size ≤ i ∧ i < W1.heap.size) ⟨a, ha, e⟩ => by have h7 := r6 a ha; have h6 : a.block < W3.heap.size := l6 a ha; omega)
            have hend := ((h30).next kM g1).bel
            have hb9 := f9.1
            refine hK.out _ _ (trivial) (fun hHeld => ?_)
            clear hK K
            try simp only [Act.put, List.setIfInBounds_toArray, List.set_cons_zero, List.set_cons_succ]
            refine wpAnyH_ready (rs := [10]) (by kernel_rfl) (by simp) ?_
            refine AllReadyH.cons (i := 10) (o := ⟨(some 154), _, _, _, _, _⟩) rfl (fun K hK => ?_) AllReadyH.nil
            go_simp
            have hsm := same_any W5 (some ⟨w31.heap.size, 0, none⟩) A9 R (l0.take m ++ [l4]) (m + 1) (m + 1) (m + 1) c9 hAll HL.out (PrtF.prt f9.prtF) f9.cap.2 (by omega)
            rw [show decide (R = l0.take m ++ [l4]) = true by rw [HRR.out]; simp] at hsm
            refine hsm.mono ?_
            rintro e W6 ⟨rfl, zz, rfl⟩
            refine hK.out _ _ (trivial) (fun hHeld => ?_)
            clear hK K
            try simp only [Act.put, List.setIfInBounds_toArray, List.set_cons_zero, List.set_cons_succ]
            refine wpAnyH_take (i := 11) (oi := ⟨(some 10), _, _, _, _, _⟩) (v := ?vt_1_2_6_8_9_10_11) rfl (by kernel_rfl) (by kernel_rfl) (by kernel_rfl) (fun _ _ _ h => h) (Or.inl ⟨by rfl, ?yt_1_2_6_8_9_10_11⟩) hHeld ?_
            case yt_1_2_6_8_9_10_11 => (intro W0 hSw; go_simp; try with_reducible rfl)
            try simp only [Act.put, List.setIfInBounds_toArray, List.set_cons_zero, List.set_cons_succ]
            refine wpAnyH_done (by kernel_rfl) ?_ _
            clear hHeld
            have hfin : Below w.heap.size w (W5.drewN zz) := by have h := hb0.trans ((hend.trans (hb9.mono hend.size)).mono hb0.size); exact ⟨h.os, h.tape, h.output, h.size, h.block⟩
            go_wp2
            go_ret
            exact ⟨rfl, hfin⟩
          · go_simp
            obtain ⟨W3, hV3⟩ : ∃ V, V = W2.alloc (.cells #[.slice A4 n4 c4] 31) := ⟨_, rfl⟩
            rw [← hV3]
            have g3 : Below W2.heap.size W2 W3 := by rw [hV3]; exact (Below.refl _ _).alloc (Nat.le_refl _) _
            have z3 := g3.size
            have y3 : W2.heap.size < W3.heap.size := by rw [hV3]; simp
            have f8 : PrtF W3 (fun i => i = W2.heap.size ∨ i < Y.heap.size) (some ⟨W2.heap.size, 0, none⟩) [l4] := by
              have hb := ((((h30).next kM g1).next kM g2).next kM g3).bel
              exact (PL.one ((byt_F (b4'.below hb) hb.size).mono fun i _ h => .inr h) E4.out f4).prtF (by rw [hV3]; exact heap_alloc_new _ _) (.inl rfl)
            clear hV3
            refine hK.out _ _ (trivial) (fun hHeld => ?_)
            clear hK K
            try simp only [Act.put, List.setIfInBounds_toArray, List.set_cons_zero, List.set_cons_succ]
            refine wpAnyH_ready (rs := [6]) (by kernel_rfl) (by simp) ?_
            refine AllReadyH.cons (i := 6) (o := ⟨(some 150), _, _, _, _, _⟩) rfl (fun K hK => ?_) AllReadyH.nil
            refine step_append_empty W3 rfl (.tmp 146) (.tmp 149) rfl (some ⟨W1.heap.size, 0, none⟩) rfl ((f2).next g3) A0 m c0 rfl (fun i => i < Y.heap.size) (l0.take m) (by have hb := ((((h30).next kM g1).next kM g2).next kM g3).bel; exact prt_F ((b0'.take m).below hb) hb.size) (fun a ha => by injection ha with ha; subst ha; show ¬ (W1.heap.size < Y.heap.size); omega) HM0.out (by omega) ?_
            intro A6 c6 W4 f6 q6 g4
            have z4 := g4.size
            have l6 := f6.lt
            have r6 : ∀ a, A6 = some a → a.block = W1.heap.size ∨ a.block = W3.heap.size := fun a ha => (q6 a ha).imp (fun ⟨b, hb, h⟩ => by injection hb with hb; subst hb; exact h) id
            refine hK.out _ _ (trivial) (fun hHeld => ?_)
            clear hK K
            try simp only [Act.put, List.setIfInBounds_toArray, List.set_cons_zero, List.set_cons_succ]
            refine wpAnyH_ready (rs := [9]) (by kernel_rfl) (by simp) ?_
            refine AllReadyH.cons (i := 9) (o := ⟨(some 153), _, _, _, _, _⟩) rfl (fun K hK => ?_) AllReadyH.nil
            refine step_append_new W4 rfl (.tmp 150) (.tmp 152) rfl A6 m c6 (l0.take m) rfl (f6) (some ⟨W2.heap.size, 0, none⟩) 1 1 rfl (fun i => i = W2.heap.size ∨ i < Y.heap.size) [l4] ((f8).next g4) (fun a ha (h8 : a.block = W2.heap.size ∨ a.block < Y.heap.size) => by have h7 := r6 a ha; have h6 : a.block < W4.heap.size := l6 a ha; omega) rfl (by omega) ?_
            intro A9 c9 W5 f9 o9 _ _
            have hAll : Prt W5 W5.heap.size (some ⟨w31.heap.size, 0, none⟩) R := PrtF.prt (((((f1).next g2).next g3).next g4).off o9 fun i _ (h1 : w31.heap.size ≤ i ∧ i < W1.heap.size) ⟨a, ha, e⟩ => by have h7 := r6 a ha; have h6 : a.block < W4.heap.size := l6 a ha; omega)
            have hend := ((h30).next kM g1).bel
            have hb9 := f9.1
            refine hK.out _ _ (trivial) (fun hHeld => ?_)
            clear hK K
            try simp only [Act.put, List.setIfInBounds_toArray, List.set_cons_zero, List.set_cons_succ]
            refine wpAnyH_ready (rs := [10]) (by kernel_rfl) (by simp) ?_
            refine AllReadyH.cons (i := 10) (o := ⟨(some 154), _, _, _, _, _⟩) rfl (fun K hK => ?_) AllReadyH.nil
            go_simp
            have hsm := same_any W5 (some ⟨w31.heap.size, 0, none⟩) A9 R (l0.take m ++ [l4]) (m + 1) (m + 1) (m + 1) c9 hAll HL.out (PrtF.prt f9.prtF) f9.cap.2 (by omega)
            rw [show decide (R = l0.take m ++ [l4]) = true by rw [HRR.out]; simp] at hsm
            refine hsm.mono ?_
            rintro e W6 ⟨rfl, zz, rfl⟩
            refine hK.out _ _ (trivial) (fun hHeld => ?_)
            clear hK K
            try simp only [Act.put, List.setIfInBounds_toArray, List.set_cons_zero, List.set_cons_succ]
            refine wpAnyH_take (i := 11) (oi := ⟨(some 10), _, _, _, _, _⟩) (v := ?vt_1_2_8_6_9_10_11) rfl (by kernel_rfl) (by kernel_rfl) (by kernel_rfl) (fun _ _ _ h => h) (Or.inl ⟨by rfl, ?yt_1_2_8_6_9_10_11⟩) hHeld ?_
            case yt_1_2_8_6_9_10_11 => (intro W0 hSw; go_simp; try with_reducible rfl)
            try simp only [Act.put, List.setIfInBounds_toArray, List.set_cons_zero, List.set_cons_succ]
            refine wpAnyH_done (by kernel_rfl) ?_ _
            clear hHeld
            have hfin : Below w.heap.size w (W5.drewN zz) := by have h := hb0.trans ((hend.trans (hb9.mono hend.size)).mono hb0.size); exact ⟨h.os, h.tape, h.output, h.size, h.block⟩
            go_wp2
            go_ret
            exact ⟨rfl, hfin⟩
        · go_simp
          obtain ⟨W2, hV2⟩ : ∃ V, V = W1.alloc (.cells #[.slice A4 n4 c4] 31) := ⟨_, rfl⟩
          rw [← hV2]
          have g2 : Below W1.heap.size W1 W2 := by rw [hV2]; exact (Below.refl _ _).alloc (Nat.le_refl _) _
          have z2 := g2.size
          have y2 : W1.heap.size < W2.heap.size := by rw [hV2]; simp
          have f8 : PrtF W2 (fun i => i = W1.heap.size ∨ i < Y.heap.size) (some ⟨W1.heap.size, 0, none⟩) [l4] := by
            have hb := (((h30).next kM g1).next kM g2).bel
            exact (PL.one ((byt_F (b4'.below hb) hb.size).mono fun i _ h => .inr h) E4.out f4).prtF (by rw [hV2]; exact heap_alloc_new _ _) (.inl rfl)
          clear hV2
          refine hK.out _ _ (trivial) (fun hHeld => ?_)
          clear hK K
          try simp only [Act.put, List.setIfInBounds_toArray, List.set_cons_zero, List.set_cons_succ]
          refine wpAnyH_ready (rs := [2]) (by kernel_rfl) (by simp) ?_
          refine AllReadyH.cons (i := 2) (o := ⟨(some 146), _, _, _, _, _⟩) rfl (fun K hK => ?_) AllReadyH.nil
          go_simp
          obtain ⟨W3, hV3⟩ : ∃ V, V = W2.alloc (.cells #[] 31) := ⟨_, rfl⟩
          rw [← hV3]
          have g3 : Below W2.heap.size W2 W3 := by rw [hV3]; exact (Below.refl _ _).alloc (Nat.le_refl _) _
          have z3 := g3.size
          have y3 : W2.heap.size < W3.heap.size := by rw [hV3]; simp
          have f2 : NewL W2 W3 (some ⟨W2.heap.size, 0, none⟩) 0 0 [] := by rw [hV3]; exact NewL.start _
          clear hV3
          refine hK.out _ _ (trivial) (fun hHeld => ?_)
          clear hK K
          try simp only [Act.put, List.setIfInBounds_toArray, List.set_cons_zero, List.set_cons_succ]
          refine wpAnyH_ready (rs := [6]) (by kernel_rfl) (by simp) ?_
          refine AllReadyH.cons (i := 6) (o := ⟨(some 150), _, _, _, _, _⟩) rfl (fun K hK => ?_) AllReadyH.nil
          refine step_append_empty W3 rfl (.tmp 146) (.tmp 149) rfl (some ⟨W2.heap.size, 0, none⟩) rfl (f2) A0 m c0 rfl (fun i => i < Y.heap.size) (l0.take m) (by have hb := ((((h30).next kM g1).next kM g2).next kM g3).bel; exact prt_F ((b0'.take m).below hb) hb.size) (fun a ha => by injection ha with ha; subst ha; show ¬ (W2.heap.size < Y.heap.size); omega) HM0.out (by omega) ?_
          intro A6 c6 W4 f6 q6 g4
          have z4 := g4.size
          have l6 := f6.lt
          have r6 : ∀ a, A6 = some a → a.block = W2.heap.size ∨ a.block = W3.heap.size := fun a ha => (q6 a ha).imp (fun ⟨b, hb, h⟩ => by injection hb with hb; subst hb; exact h) id
          refine hK.out _ _ (trivial) (fun hHeld => ?_)
          clear hK K
          try simp only [Act.put, List.setIfInBounds_toArray, List.set_cons_zero, List.set_cons_succ]
          refine wpAnyH_ready (rs := [9]) (by kernel_rfl) (by simp) ?_
          refine AllReadyH.cons (i := 9) (o := ⟨(some 153), _, _, _, _, _⟩) rfl (fun K hK => ?_) AllReadyH.nil
          refine step_append_new W4 rfl (.tmp 150) (.tmp 152) rfl A6 m c6 (l0.take m) rfl (f6) (some ⟨W1.heap.size, 0, none⟩) 1 1 rfl (fun i => i = W1.heap.size ∨ i < Y.heap.size) [l4] (((f8).next g3).next g4) (fun a ha (h8 : a.block = W1.heap.size ∨ a.block < Y.heap.size) => by have h7 := r6 a ha; have h6 : a.block < W4.heap.size := l6 a ha; omega) rfl (by omega) ?_
          intro A9 c9 W5 f9 o9 _ _
          have hAll : Prt W5 W5.heap.size (some ⟨w31.heap.size, 0, none⟩) R := PrtF.prt (((((f1).next g2).next g3).next g4).off o9 fun i _ (h1 : w31.heap.size ≤ i ∧ i < W1.heap.size) ⟨a, ha, e⟩ => by have h7 := r6 a ha; have h6 : a.block < W4.heap.size := l6 a ha; omega)
          have hend := (((h30).next kM g1).next kM g2).bel
          have hb9 := f9.1
          refine hK.out _ _ (trivial) (fun hHeld => ?_)
          clear hK K
          try simp only [Act.put, List.setIfInBounds_toArray, List.set_cons_zero, List.set_cons_succ]
          refine wpAnyH_ready (rs := [10]) (by kernel_rfl) (by simp) ?_
          refine AllReadyH.cons (i := 10) (o := ⟨(some 154), _, _, _, _, _⟩) rfl (fun K hK => ?_) AllReadyH.nil
          go_simp
          have hsm := same_any W5 (some ⟨w31.heap.size, 0, none⟩) A9 R (l0.take m ++ [l4]) (m + 1) (m + 1) (m + 1) c9 hAll HL.out (PrtF.prt f9.prtF) f9.cap.2 (by omega)
          rw [show decide (R = l0.take m ++ [l4]) = true by rw [HRR.out]; simp] at hsm
          refine hsm.mono ?_
          rintro e W6 ⟨rfl, zz, rfl⟩
          refine hK.out _ _ (trivial) (fun hHeld => ?_)
          clear hK K
          try simp only [Act.put, List.setIfInBounds_toArray, List.set_cons_zero, List.set_cons_succ]
          refine wpAnyH_take (i := 11) (oi := ⟨(some 10), _, _, _, _, _⟩) (v := ?vt_1_8_2_6_9_10_11) rfl (by kernel_rfl) (by kernel_rfl) (by kernel_rfl) (fun _ _ _ h => h) (Or.inl ⟨by rfl, ?yt_1_8_2_6_9_10_11⟩) hHeld ?_
          case yt_1_8_2_6_9_10_11 => (intro W0 hSw; go_simp; try with_reducible rfl)
          try simp only [Act.put, List.setIfInBounds_toArray, List.set_cons_zero, List.set_cons_succ]
          refine wpAnyH_done (by kernel_rfl) ?_ _
          clear hHeld
          have hfin : Below w.heap.size w (W5.drewN zz) := by have h := hb0.trans ((hend.trans (hb9.mono hend.size)).mono hb0.size); exact ⟨h.os, h.tape, h.output, h.size, h.block⟩
          go_wp2
          go_ret
          exact ⟨rfl, hfin⟩
      · go_simp
        obtain ⟨W1, hV1⟩ : ∃ V, V = w31.alloc (.cells #[] 31) := ⟨_, rfl⟩
        rw [← hV1]
        have g1 : Below w31.heap.size w31 W1 := by rw [hV1]; exact (Below.refl _ _).alloc (Nat.le_refl _) _
        have z1 := g1.size
        have y1 : w31.heap.size < W1.heap.size := by rw [hV1]; simp
        have f2 : NewL w31 W1 (some ⟨w31.heap.size, 0, none⟩) 0 0 [] := by rw [hV1]; exact NewL.start _
        clear hV1
        refine hK.out _ _ (trivial) (fun hHeld => ?_)
        clear hK K
        try simp only [Act.put, List.setIfInBounds_toArray, List.set_cons_zero, List.set_cons_succ]
        refine wpAnyH_ready (rs := [1, 8]) (by kernel_rfl) (by simp) ?_
        refine AllReadyH.cons (i := 1) (o := ⟨(some 145), _, _, _, _, _⟩) rfl (fun K hK => ?_) (AllReadyH.cons (i := 8) (o := ⟨(some 152), _, _, _, _, _⟩) rfl (fun K hK => ?_) AllReadyH.nil)
        · go_simp
          refine (lw_all kM ((h30).next kM g1) (by rw [HL.out]; omega)).mono ?_
          rintro e W2 ⟨mr, rfl, hmr, hv, g2, _⟩
          obtain rfl : m + 1 = mr := HL.out.symm.trans hmr.out
          have z2 := g2.size
          have y2 : W1.heap.size < W2.heap.size := by obtain ⟨_, hv1, _⟩ := hv; exact (Array.getElem?_eq_some_iff.1 hv1).1
          have f1 : PrtF W2 (fun i => W1.heap.size ≤ i ∧ i < W2.heap.size) (some ⟨W1.heap.size, 0, none⟩) R := (all_prtF hv).mono fun i h1 h2 => ⟨h2, h1⟩
          clear hv
          refine hK.out _ _ (trivial) (fun hHeld => ?_)
          clear hK K
          try simp only [Act.put, List.setIfInBounds_toArray, List.set_cons_zero, List.set_cons_succ]
          refine wpAnyH_ready (rs := [6, 8]) (by kernel_rfl) (by simp) ?_
          refine AllReadyH.cons (i := 6) (o := ⟨(some 150), _, _, _, _, _⟩) rfl (fun K hK => ?_) (AllReadyH.cons (i := 8) (o := ⟨(some 152), _, _, _, _, _⟩) rfl (fun K hK => ?_) AllReadyH.nil)
          · refine step_append_empty W2 rfl (.tmp 146) (.tmp 149) rfl (some ⟨w31.heap.size, 0, none⟩) rfl ((f2).next g2) A0 m c0 rfl (fun i => i < Y.heap.size) (l0.take m) (by have hb := (((h30).next kM g1).next kM g2).bel; exact prt_F ((b0'.take m).below hb) hb.size) (fun a ha => by injection ha with ha; subst ha; show ¬ (w31.heap.size < Y.heap.size); omega) HM0.out (by omega) ?_
            intro A6 c6 W3 f6 q6 g3
            have z3 := g3.size
            have l6 := f6.lt
            have r6 : ∀ a, A6 = some a → a.block = w31.heap.size ∨ a.block = W2.heap.size := fun a ha => (q6 a ha).imp (fun ⟨b, hb, h⟩ => by injection hb with hb; subst hb; exact h) id
            refine hK.out _ _ (trivial) (fun hHeld => ?_)
            clear hK K
            try simp only [Act.put, List.setIfInBounds_toArray, List.set_cons_zero, List.set_cons_succ]
            refine wpAnyH_ready (rs := [8]) (by kernel_rfl) (by simp) ?_
            refine AllReadyH.cons (i := 8) (o := ⟨(some 152), _, _, _, _, _⟩) rfl (fun K hK => ?_) AllReadyH.nil
            go_simp
            obtain ⟨W4, hV4⟩ : ∃ V, V = W3.alloc (.cells #[.slice A4 n4 c4] 31) := ⟨_, rfl⟩
            rw [← hV4]
            have g4 : Below W3.heap.size W3 W4 := by rw [hV4]; exact (Below.refl _ _).alloc (Nat.le_refl _) _
            have z4 := g4.size
            have y4 : W3.heap.size < W4.heap.size := by rw [hV4]; simp
            have f8 : PrtF W4 (fun i => i = W3.heap.size ∨ i < Y.heap.size) (some ⟨W3.heap.size, 0, none⟩) [l4] := by
              have hb := (((((h30).next kM g1).next kM g2).next kM g3).next kM g4).bel
              exact (PL.one ((byt_F (b4'.below hb) hb.size).mono fun i _ h => .inr h) E4.out f4).prtF (by rw [hV4]; exact heap_alloc_new _ _) (.inl rfl)
            clear hV4
            refine hK.out _ _ (trivial) (fun hHeld => ?_)
            clear hK K
            try simp only [Act.put, List.setIfInBounds_toArray, List.set_cons_zero, List.set_cons_succ]
            refine wpAnyH_ready (rs := [9]) (by kernel_rfl) (by simp) ?_
            refine AllReadyH.cons (i := 9) (o := ⟨(some 153), _, _, _, _, _⟩) rfl (fun K hK => ?_) AllReadyH.nil
            refine step_append_new W4 rfl (.tmp 150) (.tmp 152) rfl A6 m c6 (l0.take m) rfl ((f6).next g4) (some ⟨W3.heap.size, 0, none⟩) 1 1 rfl (fun i => i = W3.heap.size ∨ i < Y.heap.size) [l4] (f8) (fun a ha (h8 : a.block = W3.heap.size ∨ a.block < Y.heap.size) => by have h7 := r6 a ha; have h6 : a.block < W3.heap.size := l6 a ha; omega) rfl (by omega) ?_
            intro A9 c9 W5 f9 o9 _ _
            have hAll : Prt W5 W5.heap.size (some ⟨W1.heap.size, 0, none⟩) R := PrtF.prt ((((f1).next g3).next g4).off o9 fun i _ (h1 : W1.heap.size ≤ i ∧ i < W2.heap.size) ⟨a, ha, e⟩ => by have h7 := r6 a ha; have h6 : a.block < W3.heap.size := l6 a ha; omega)
            have hend := (h30).bel
            have hb9 := f9.1
            refine hK.out _ _ (trivial) (fun hHeld => ?_)
            clear hK K
            try simp only [Act.put, List.setIfInBounds_toArray, List.set_cons_zero, List.set_cons_succ]
            refine wpAnyH_ready (rs := [10]) (by kernel_rfl) (by simp) ?_
            refine AllReadyH.cons (i := 10) (o := ⟨(some 154), _, _, _, _, _⟩) rfl (fun K hK => ?_) AllReadyH.nil
            go_simp
            have hsm := same_any W5 (some ⟨W1.heap.size, 0, none⟩) A9 R (l0.take m ++ [l4]) (m + 1) (m + 1) (m + 1) c9 hAll HL.out (PrtF.prt f9.prtF) f9.cap.2 (by omega)
            rw [show decide (R = l0.take m ++ [l4]) = true by rw [HRR.out]; simp] at hsm
            refine hsm.mono ?_
            rintro e W6 ⟨rfl, zz, rfl⟩
            refine hK.out _ _ (trivial) (fun hHeld => ?_)
            clear hK K
            try simp only [Act.put, List.setIfInBounds_toArray, List.set_cons_zero, List.set_cons_succ]
            refine wpAnyH_take (i := 11) (oi := ⟨(some 10), _, _, _, _, _⟩) (v := ?vt_2_1_6_8_9_10_11) rfl (by kernel_rfl) (by kernel_rfl) (by kernel_rfl) (fun _ _ _ h => h) (Or.inl ⟨by rfl, ?yt_2_1_6_8_9_10_11⟩) hHeld ?_
            case yt_2_1_6_8_9_10_11 => (intro W0 hSw; go_simp; try with_reducible rfl)
            try simp only [Act.put, List.setIfInBounds_toArray, List.set_cons_zero, List.set_cons_succ]
            refine wpAnyH_done (by kernel_rfl) ?_ _
            clear hHeld
            have hfin : Below w.heap.size w (W5.drewN zz) := by have h := hb0.trans ((hend.trans (hb9.mono hend.size)).mono hb0.size); exact ⟨h.os, h.tape, h.output, h.size, h.block⟩
            go_wp2
            go_ret
            exact ⟨rfl, hfin⟩
          · go_simp
            obtain ⟨W3, hV3⟩ : ∃ V, V = W2.alloc (.cells #[.slice A4 n4 c4] 31) := ⟨_, rfl⟩
            rw [← hV3]
            have g3 : Below W2.heap.size W2 W3 := by rw [hV3]; exact (Below.refl _ _).alloc (Nat.le_refl _) _
            have z3 := g3.size
            have y3 : W2.heap.size < W3.heap.size := by rw [hV3]; simp
            have f8 : PrtF W3 (fun i => i = W2.heap.size ∨ i < Y.heap.size) (some ⟨W2.heap.size, 0, none⟩) [l4] := by
              have hb := ((((h30).next kM g1).next kM g2).next kM g3).bel
              exact (PL.one ((byt_F (b4'.below hb) hb.size).mono fun i _ h => .inr h) E4.out f4).prtF (by rw [hV3]; exact heap_alloc_new _ _) (.inl rfl)
            clear hV3
            refine hK.out _ _ (trivial) (fun hHeld => ?_)
            clear hK K
            try simp only [Act.put, List.setIfInBounds_toArray, List.set_cons_zero, List.set_cons_succ]
            refine wpAnyH_ready (rs := [6]) (by kernel_rfl) (by simp) ?_
            refine AllReadyH.cons (i := 6) (o := ⟨(some 150), _, _, _, _, _⟩) rfl (fun K hK => ?_) AllReadyH.nil
            refine step_append_empty W3 rfl (.tmp 146) (.tmp 149) rfl (some ⟨w31.heap.size, 0, none⟩) rfl (((f2).next g2).next g3) A0 m c0 rfl (fun i => i < Y.heap.size) (l0.take m) (by have hb := ((((h30).next kM g1).next kM g2).next kM g3).bel; exact prt_F ((b0'.take m).below hb) hb.size) (fun a ha => by injection ha with ha; subst ha; show ¬ (w31.heap.size < Y.heap.size); omega) HM0.out (by omega) ?_
            intro A6 c6 W4 f6 q6 g4
            have z4 := g4.size
            have l6 := f6.lt
            have r6 : ∀ a, A6 = some a → a.block = w31.heap.size ∨ a.block = W3.heap.size := fun a ha => (q6 a ha).imp (fun ⟨b, hb, h⟩ => by injection hb with hb; subst hb; exact h) id
            refine hK.out _ _ (trivial) (fun hHeld => ?_)
            clear hK K
            try simp only [Act.put, List.setIfInBounds_toArray, List.set_cons_zero, List.set_cons_succ]
            refine wpAnyH_ready (rs := [9]) (by kernel_rfl) (by simp) ?_
            refine AllReadyH.cons (i := 9) (o := ⟨(some 153), _, _, _, _, _⟩) rfl (fun K hK => ?_) AllReadyH.nil
            refine step_append_new W4 rfl (.tmp 150) (.tmp 152) rfl A6 m c6 (l0.take m) rfl (f6) (some ⟨W2.heap.size, 0, none⟩) 1 1 rfl (fun i => i = W2.heap.size ∨ i < Y.heap.size) [l4] ((f8).next g4) (fun a ha (h8 : a.block = W2.heap.size ∨ a.block < Y.heap.size) => by have h7 := r6 a ha; have h6 : a.block < W4.heap.size := l6 a ha; omega) rfl (by omega) ?_
            intro A9 c9 W5 f9 o9 _ _
            have hAll : Prt W5 W5.heap.size (some ⟨W1.heap.size, 0, none⟩) R := PrtF.prt ((((f1).next g3).next g4).off o9 fun i _ (h1 : W1.heap.size ≤ i ∧ i < W2.heap.size) ⟨a, ha, e⟩ => by have h7 := r6 a ha; have h6 : a.block < W4.heap.size := l6 a ha; omega)
            have hend := (h30).bel
            have hb9 := f9.1
            refine hK.out _ _ (trivial) (fun hHeld => ?_)
            clear hK K
            try simp only [Act.put, List.setIfInBounds_toArray, List.set_cons_zero, List.set_cons_succ]
            refine wpAnyH_ready (rs := [10]) (by kernel_rfl) (by simp) ?_
            refine AllReadyH.cons (i := 10) (o := ⟨(some 154), _, _, _, _, _⟩) rfl (fun K hK => ?_) AllReadyH.nil
            go_simp
            have hsm := same_any W5 (some ⟨W1.heap.size, 0, none⟩) A9 R (l0.take m ++ [l4]) (m + 1) (m + 1) (m + 1) c9 hAll HL.out (PrtF.prt f9.prtF) f9.cap.2 (by omega)
            rw [show decide (R = l0.take m ++ [l4]) = true by rw [HRR.out]; simp] at hsm
            refine hsm.mono ?_
            rintro e W6 ⟨rfl, zz, rfl⟩
            refine hK.out _ _ (trivial) (fun hHeld => ?_)
            clear hK K
            try simp only [Act.put, List.setIfInBounds_toArray, List.set_cons_zero, List.set_cons_succ]
            refine wpAnyH_take (i := 11) (oi := ⟨(some 10), _, _, _, _, _⟩) (v := ?vt_2_1_8_6_9_10_11) rfl (by kernel_rfl) (by kernel_rfl) (by kernel_rfl) (fun _ _ _ h => h) (Or.inl ⟨by rfl, ?yt_2_1_8_6_9_10_11⟩) hHeld ?_
            case yt_2_1_8_6_9_10_11 => (intro W0 hSw; go_simp; try with_reducible rfl)
            try simp only [Act.put, List.setIfInBounds_toArray, List.set_cons_zero, List.set_cons_succ]
            refine wpAnyH_done (by kernel_rfl) ?_ _
            clear hHeld
            have hfin : Below w.heap.size w (W5.drewN zz) := by have h := hb0.trans ((hend.trans (hb9.mono hend.size)).mono hb0.size); exact ⟨h.os, h.tape, h.output, h.size, h.block⟩
            go_wp2
            go_ret
            exact ⟨rfl, hfin⟩
        · go_simp
          obtain ⟨W2, hV2⟩ : ∃ V, V = W1.alloc (.cells #[.slice A4 n4 c4] 31) := ⟨_, rfl⟩
          rw [← hV2]
          have g2 : Below W1.heap.size W1 W2 := by rw [hV2]; exact (Below.refl _ _).alloc (Nat.le_refl _) _
          have z2 := g2.size
          have y2 : W1.heap.size < W2.heap.size := by rw [hV2]; simp
          have f8 : PrtF W2 (fun i => i = W1.heap.size ∨ i < Y.heap.size) (some ⟨W1.heap.size, 0, none⟩) [l4] := by
            have hb := (((h30).next kM g1).next kM g2).bel
            exact (PL.one ((byt_F (b4'.below hb) hb.size).mono fun i _ h => .inr h) E4.out f4).prtF (by rw [hV2]; exact heap_alloc_new _ _) (.inl rfl)
          clear hV2
          refine hK.out _ _ (trivial) (fun hHeld => ?_)
          clear hK K
          try simp only [Act.put, List.setIfInBounds_toArray, List.set_cons_zero, List.set_cons_succ]
          refine wpAnyH_ready (rs := [1]) (by kernel_rfl) (by simp) ?_
          refine AllReadyH.cons (i := 1) (o := ⟨(some 145), _, _, _, _, _⟩) rfl (fun K hK => ?_) AllReadyH.nil
          go_simp
          refine (lw_all kM (((h30).next kM g1).next kM g2) (by rw [HL.out]; omega)).mono ?_
          rintro e W3 ⟨mr, rfl, hmr, hv, g3, _⟩
          obtain rfl : m + 1 = mr := HL.out.symm.trans hmr.out
          have z3 := g3.size
          have y3 : W2.heap.size < W3.heap.size := by obtain ⟨_, hv1, _⟩ := hv; exact (Array.getElem?_eq_some_iff.1 hv1).1
          have f1 : PrtF W3 (fun i => W2.heap.size ≤ i ∧ i < W3.heap.size) (some ⟨W2.heap.size, 0, none⟩) R := (all_prtF hv).mono fun i h1 h2 => ⟨h2, h1⟩
          clear hv
          refine hK.out _ _ (trivial) (fun hHeld => ?_)
          clear hK K
          try simp only [Act.put, List.setIfInBounds_toArray, List.set_cons_zero, List.set_cons_succ]
          refine wpAnyH_ready (rs := [6]) (by kernel_rfl) (by simp) ?_
          refine AllReadyH.cons (i := 6) (o := ⟨(some 150), _, _, _, _, _⟩) rfl (fun K hK => ?_) AllReadyH.nil
          refine step_append_empty W3 rfl (.tmp 146) (.tmp 149) rfl (some ⟨w31.heap.size, 0, none⟩) rfl (((f2).next g2).next g3) A0 m c0 rfl (fun i => i < Y.heap.size) (l0.take m) (by have hb := ((((h30).next kM g1).next kM g2).next kM g3).bel; exact prt_F ((b0'.take m).below hb) hb.size) (fun a ha => by injection ha with ha; subst ha; show ¬ (w31.heap.size < Y.heap.size); omega) HM0.out (by omega) ?_
          intro A6 c6 W4 f6 q6 g4
          have z4 := g4.size
          have l6 := f6.lt
          have r6 : ∀ a, A6 = some a → a.block = w31.heap.size ∨ a.block = W3.heap.size := fun a ha => (q6 a ha).imp (fun ⟨b, hb, h⟩ => by injection hb with hb; subst hb; exact h) id
          refine hK.out _ _ (trivial) (fun hHeld => ?_)
          clear hK K
          try simp only [Act.put, List.setIfInBounds_toArray, List.set_cons_zero, List.set_cons_succ]
          refine wpAnyH_ready (rs := [9]) (by kernel_rfl) (by simp) ?_
          refine AllReadyH.cons (i := 9) (o := ⟨(some 153), _, _, _, _, _⟩) rfl (fun K hK => ?_) AllReadyH.nil
          refine step_append_new W4 rfl (.tmp 150) (.tmp 152) rfl A6 m c6 (l0.take m) rfl (f6) (some ⟨W1.heap.size, 0, none⟩) 1 1 rfl (fun i => i = W1.heap.size ∨ i < Y.heap.size) [l4] (((f8).next g3).next g4) (fun a ha (h8 : a.block = W1.heap.size ∨ a.block < Y.heap.size) => by have h7 := r6 a ha; have h6 : a.block < W4.heap.size := l6 a ha; omega) rfl (by omega) ?_
          intro A9 c9 W5 f9 o9 _ _
          have hAll : Prt W5 W5.heap.size (some ⟨W2.heap.size, 0, none⟩) R := PrtF.prt (((f1).next g4).off o9 fun i _ (h1 : W2.heap.size ≤ i ∧ i < W3.heap.size) ⟨a, ha, e⟩ => by have h7 := r6 a ha; have h6 : a.block < W4.heap.size := l6 a ha; omega)
          have hend := (h30).bel
          have hb9 := f9.1
          refine hK.out _ _ (trivial) (fun hHeld => ?_)
          clear hK K
          try simp only [Act.put, List.setIfInBounds_toArray, List.set_cons_zero, List.set_cons_succ]
          refine wpAnyH_ready (rs := [10]) (by kernel_rfl) (by simp) ?_
          refine AllReadyH.cons (i := 10) (o := ⟨(some 154), _, _, _, _, _⟩) rfl (fun K hK => ?_) AllReadyH.nil
          go_simp
          have hsm := same_any W5 (some ⟨W2.heap.size, 0, none⟩) A9 R (l0.take m ++ [l4]) (m + 1) (m + 1) (m + 1) c9 hAll HL.out (PrtF.prt f9.prtF) f9.cap.2 (by omega)
          rw [show decide (R = l0.take m ++ [l4]) = true by rw [HRR.out]; simp] at hsm
          refine hsm.mono ?_
          rintro e W6 ⟨rfl, zz, rfl⟩
          refine hK.out _ _ (trivial) (fun hHeld => ?_)
          clear hK K
          try simp only [Act.put, List.setIfInBounds_toArray, List.set_cons_zero, List.set_cons_succ]
          refine wpAnyH_take (i := 11) (oi := ⟨(some 10), _, _, _, _, _⟩) (v := ?vt_2_8_1_6_9_10_11) rfl (by kernel_rfl) (by kernel_rfl) (by kernel_rfl) (fun _ _ _ h => h) (Or.inl ⟨by rfl, ?yt_2_8_1_6_9_10_11⟩) hHeld ?_
          case yt_2_8_1_6_9_10_11 => (intro W0 hSw; go_simp; try with_reducible rfl)
          try simp only [Act.put, List.setIfInBounds_toArray, List.set_cons_zero, List.set_cons_succ]
          refine wpAnyH_done (by kernel_rfl) ?_ _
          clear hHeld
          have hfin : Below w.heap.size w (W5.drewN zz) := by have h := hb0.trans ((hend.trans (hb9.mono hend.size)).mono hb0.size); exact ⟨h.os, h.tape, h.output, h.size, h.block⟩
          go_wp2
          go_ret
          exact ⟨rfl, hfin⟩
      · go_simp
        obtain ⟨W1, hV1⟩ : ∃ V, V = w31.alloc (.cells #[.slice A4 n4 c4] 31) := ⟨_, rfl⟩
        rw [← hV1]
        have g1 : Below w31.heap.size w31 W1 := by rw [hV1]; exact (Below.refl _ _).alloc (Nat.le_refl _) _
        have z1 := g1.size
        have y1 : w31.heap.size < W1.heap.size := by rw [hV1]; simp
        have f8 : PrtF W1 (fun i => i = w31.heap.size ∨ i < Y.heap.size) (some ⟨w31.heap.size, 0, none⟩) [l4] := by
          have hb := ((h30).next kM g1).bel
          exact (PL.one ((byt_F (b4'.below hb) hb.size).mono fun i _ h => .inr h) E4.out f4).prtF (by rw [hV1]; exact heap_alloc_new _ _) (.inl rfl)
        clear hV1
        refine hK.out _ _ (trivial) (fun hHeld => ?_)
        clear hK K
        try simp only [Act.put, List.setIfInBounds_toArray, List.set_cons_zero, List.set_cons_succ]
        refine wpAnyH_ready (rs := [1, 2]) (by kernel_rfl) (by simp) ?_
        refine AllReadyH.cons (i := 1) (o := ⟨(some 145), _, _, _, _, _⟩) rfl (fun K hK => ?_) (AllReadyH.cons (i := 2) (o := ⟨(some 146), _, _, _, _, _⟩) rfl (fun K hK => ?_) AllReadyH.nil)
        · go_simp
          refine (lw_all kM ((h30).next kM g1) (by rw [HL.out]; omega)).mono ?_
          rintro e W2 ⟨mr, rfl, hmr, hv, g2, _⟩
          obtain rfl : m + 1 = mr := HL.out.symm.trans hmr.out
          have z2 := g2.size
          have y2 : W1.heap.size < W2.heap.size := by obtain ⟨_, hv1, _⟩ := hv; exact (Array.getElem?_eq_some_iff.1 hv1).1
          have f1 : PrtF W2 (fun i => W1.heap.size ≤ i ∧ i < W2.heap.size) (some ⟨W1.heap.size, 0, none⟩) R := (all_prtF hv).mono fun i h1 h2 => ⟨h2, h1⟩
          clear hv
          refine hK.out _ _ (trivial) (fun hHeld => ?_)
          clear hK K
          try simp only [Act.put, List.setIfInBounds_toArray, List.set_cons_zero, List.set_cons_succ]
          refine wpAnyH_ready (rs := [2]) (by kernel_rfl) (by simp) ?_
          refine AllReadyH.cons (i := 2) (o := ⟨(some 146), _, _, _, _, _⟩) rfl (fun K hK => ?_) AllReadyH.nil
          go_simp
          obtain ⟨W3, hV3⟩ : ∃ V, V = W2.alloc (.cells #[] 31) := ⟨_, rfl⟩
          rw [← hV3]
          have g3 : Below W2.heap.size W2 W3 := by rw [hV3]; exact (Below.refl _ _).alloc (Nat.le_refl _) _
          have z3 := g3.size
          have y3 : W2.heap.size < W3.heap.size := by rw [hV3]; simp
          have f2 : NewL W2 W3 (some ⟨W2.heap.size, 0, none⟩) 0 0 [] := by rw [hV3]; exact NewL.start _
          clear hV3
          refine hK.out _ _ (trivial) (fun hHeld => ?_)
          clear hK K
          try simp only [Act.put, List.setIfInBounds_toArray, List.set_cons_zero, List.set_cons_succ]
          refine wpAnyH_ready (rs := [6]) (by kernel_rfl) (by simp) ?_
          refine AllReadyH.cons (i := 6) (o := ⟨(some 150), _, _, _, _, _⟩) rfl (fun K hK => ?_) AllReadyH.nil
          refine step_append_empty W3 rfl (.tmp 146) (.tmp 149) rfl (some ⟨W2.heap.size, 0, none⟩) rfl (f2) A0 m c0 rfl (fun i => i < Y.heap.size) (l0.take m) (by have hb := ((((h30).next kM g1).next kM g2).next kM g3).bel; exact prt_F ((b0'.take m).below hb) hb.size) (fun a ha => by injection ha with ha; subst ha; show ¬ (W2.heap.size < Y.heap.size); omega) HM0.out (by omega) ?_
          intro A6 c6 W4 f6 q6 g4
          have z4 := g4.size
          have l6 := f6.lt
          have r6 : ∀ a, A6 = some a → a.block = W2.heap.size ∨ a.block = W3.heap.size := fun a ha => (q6 a ha).imp (fun ⟨b, hb, h⟩ => by injection hb with hb; subst hb; exact h) id
          refine hK.out _ _ (trivial) (fun hHeld => ?_)
          clear hK K
          try simp only [Act.put, List.setIfInBounds_toArray, List.set_cons_zero, List.set_cons_succ]
          refine wpAnyH_ready (rs := [9]) (by kernel_rfl) (by simp) ?_
          refine AllReadyH.cons (i := 9) (o := ⟨(some 153), _, _, _, _, _⟩) rfl (fun K hK => ?_) AllReadyH.nil
          refine step_append_new W4 rfl (.tmp 150) (.tmp 152) rfl A6 m c6 (l0.take m) rfl (f6) (some ⟨w31.heap.size, 0, none⟩) 1 1 rfl (fun i => i = w31.heap.size ∨ i < Y.heap.size) [l4] ((((f8).next g2).next g3).next g4) (fun a ha (h8 : a.block = w31.heap.size ∨ a.block < Y.heap.size) => by have h7 := r6 a ha; have h6 : a.block < W4.heap.size := l6 a ha; omega) rfl (by omega) ?_
          intro A9 c9 W5 f9 o9 _ _
          have hAll : Prt W5 W5.heap.size (some ⟨W1.heap.size, 0, none⟩) R := PrtF.prt ((((f1).next g3).next g4).off o9 fun i _ (h1 : W1.heap.size ≤ i ∧ i < W2.heap.size) ⟨a, ha, e⟩ => by have h7 := r6 a ha; have h6 : a.block < W4.heap.size := l6 a ha; omega)
          have hend := (((h30).next kM g1).next kM g2).bel
          have hb9 := f9.1
          refine hK.out _ _ (trivial) (fun hHeld => ?_)
          clear hK K
          try simp only [Act.put, List.setIfInBounds_toArray, List.set_cons_zero, List.set_cons_succ]
          refine wpAnyH_ready (rs := [10]) (by kernel_rfl) (by simp) ?_
          refine AllReadyH.cons (i := 10) (o := ⟨(some 154), _, _, _, _, _⟩) rfl (fun K hK => ?_) AllReadyH.nil
          go_simp
          have hsm := same_any W5 (some ⟨W1.heap.size, 0, none⟩) A9 R (l0.take m ++ [l4]) (m + 1) (m + 1) (m + 1) c9 hAll HL.out (PrtF.prt f9.prtF) f9.cap.2 (by omega)
          rw [show decide (R = l0.take m ++ [l4]) = true by rw [HRR.out]; simp] at hsm
          refine hsm.mono ?_
          rintro e W6 ⟨rfl, zz, rfl⟩
          refine hK.out _ _ (trivial) (fun hHeld => ?_)
          clear hK K
          try simp only [Act.put, List.setIfInBounds_toArray, List.set_cons_zero, List.set_cons_succ]
          refine wpAnyH_take (i := 11) (oi := ⟨(some 10), _, _, _, _, _⟩) (v := ?vt_8_1_2_6_9_10_11) rfl (by kernel_rfl) (by kernel_rfl) (by kernel_rfl) (fun _ _ _ h => h) (Or.inl ⟨by rfl, ?yt_8_1_2_6_9_10_11⟩) hHeld ?_
          case yt_8_1_2_6_9_10_11 => (intro W0 hSw; go_simp; try with_reducible rfl)
          try simp only [Act.put, List.setIfInBounds_toArray, List.set_cons_zero, List.set_cons_succ]
          refine wpAnyH_done (by kernel_rfl) ?_ _
          clear hHeld
          have hfin : Below w.heap.size w (W5.drewN zz) := by have h := hb0.trans ((hend.trans (hb9.mono hend.size)).mono hb0.size); exact ⟨h.os, h.tape, h.output, h.size, h.block⟩
          go_wp2
          go_ret
          exact ⟨rfl, hfin⟩
        · go_simp
          obtain ⟨W2, hV2⟩ : ∃ V, V = W1.alloc (.cells #[] 31) := ⟨_, rfl⟩
          rw [← hV2]
          have g2 : Below W1.heap.size W1 W2 := by rw [hV2]; exact (Below.refl _ _).alloc (Nat.le_refl _) _
          have z2 := g2.size
          have y2 : W1.heap.size < W2.heap.size := by rw [hV2]; simp
          have f2 : NewL W1 W2 (some ⟨W1.heap.size, 0, none⟩) 0 0 [] := by rw [hV2]; exact NewL.start _
          clear hV2
          refine hK.out _ _ (trivial) (fun hHeld => ?_)
          clear hK K
          try simp only [Act.put, List.setIfInBounds_toArray, List.set_cons_zero, List.set_cons_succ]
          refine wpAnyH_ready (rs := [1]) (by kernel_rfl) (by simp) ?_
          refine AllReadyH.cons (i := 1) (o := ⟨(some 145), _, _, _, _, _⟩) rfl (fun K hK => ?_) AllReadyH.nil
          go_simp
          refine (lw_all kM (((h30).next kM g1).next kM g2) (by rw [HL.out]; omega)).mono ?_
          rintro e W3 ⟨mr, rfl, hmr, hv, g3, _⟩
          obtain rfl : m + 1 = mr := HL.out.symm.trans hmr.out
          have z3 := g3.size
          have y3 : W2.heap.size < W3.heap.size := by obtain ⟨_, hv1, _⟩ := hv; exact (Array.getElem?_eq_some_iff.1 hv1).1
          have f1 : PrtF W3 (fun i => W2.heap.size ≤ i ∧ i < W3.heap.size) (some ⟨W2.heap.size, 0, none⟩) R := (all_prtF hv).mono fun i h1 h2 => ⟨h2, h1⟩
          clear hv
          refine hK.out _ _ (trivial) (fun hHeld => ?_)
          clear hK K
          try simp only [Act.put, List.setIfInBounds_toArray, List.set_cons_zero, List.set_cons_succ]
          refine wpAnyH_ready (rs := [6]) (by kernel_rfl) (by simp) ?_
          refine AllReadyH.cons (i := 6) (o := ⟨(some 150), _, _, _, _, _⟩) rfl (fun K hK => ?_) AllReadyH.nil
          refine step_append_empty W3 rfl (.tmp 146) (.tmp 149) rfl (some ⟨W1.heap.size, 0, none⟩) rfl ((f2).next g3) A0 m c0 rfl (fun i => i < Y.heap.size) (l0.take m) (by have hb := ((((h30).next kM g1).next kM g2).next kM g3).bel; exact prt_F ((b0'.take m).below hb) hb.size) (fun a ha => by injection ha with ha; subst ha; show ¬ (W1.heap.size < Y.heap.size); omega) HM0.out (by omega) ?_
          intro A6 c6 W4 f6 q6 g4
          have z4 := g4.size
          have l6 := f6.lt
          have r6 : ∀ a, A6 = some a → a.block = W1.heap.size ∨ a.block = W3.heap.size := fun a ha => (q6 a ha).imp (fun ⟨b, hb, h⟩ => by injection hb with hb; subst hb; exact h) id
          refine hK.out _ _ (trivial) (fun hHeld => ?_)
          clear hK K
          try simp only [Act.put, List.setIfInBounds_toArray, List.set_cons_zero, List.set_cons_succ]
          refine wpAnyH_ready (rs := [9]) (by kernel_rfl) (by simp) ?_
          refine AllReadyH.cons (i := 9) (o := ⟨(some 153), _, _, _, _, _⟩) rfl (fun K hK => ?_) AllReadyH.nil
          refine step_append_new W4 rfl (.tmp 150) (.tmp 152) rfl A6 m c6 (l0.take m) rfl (f6) (some ⟨w31.heap.size, 0, none⟩) 1 1 rfl (fun i => i = w31.heap.size ∨ i < Y.heap.size) [l4] ((((f8).next g2).next g3).next g4) (fun a ha (h8 : a.block = w31.heap.size ∨ a.block < Y.heap.size) => by have h7 := r6 a ha; have h6 : a.block < W4.heap.size := l6 a ha; omega) rfl (by omega) ?_
          intro A9 c9 W5 f9 o9 _ _
          have hAll : Prt W5 W5.heap.size (some ⟨W2.heap.size, 0, none⟩) R := PrtF.prt (((f1).next g4).off o9 fun i _ (h1 : W2.heap.size ≤ i ∧ i < W3.heap.size) ⟨a, ha, e⟩ => by have h7 := r6 a ha; have h6 : a.block < W4.heap.size := l6 a ha; omega)
          have hend := ((h30).next kM g1).bel
          have hb9 := f9.1
          refine hK.out _ _ (trivial) (fun hHeld => ?_)
          clear hK K
          try simp only [Act.put, List.setIfInBounds_toArray, List.set_cons_zero, List.set_cons_succ]
          refine wpAnyH_ready (rs := [10]) (by kernel_rfl) (by simp) ?_
          refine AllReadyH.cons (i := 10) (o := ⟨(some 154), _, _, _, _, _⟩) rfl (fun K hK => ?_) AllReadyH.nil
          go_simp
          have hsm := same_any W5 (some ⟨W2.heap.size, 0, none⟩) A9 R (l0.take m ++ [l4]) (m + 1) (m + 1) (m + 1) c9 hAll HL.out (PrtF.prt f9.prtF) f9.cap.2 (by omega)
          rw [show decide (R = l0.take m ++ [l4]) = true by rw [HRR.out]; simp] at hsm
          refine hsm.mono ?_
          rintro e W6 ⟨rfl, zz, rfl⟩
          refine hK.out _ _ (trivial) (fun hHeld => ?_)
          clear hK K
          try simp only [Act.put, List.setIfInBounds_toArray, List.set_cons_zero, List.set_cons_succ]
          refine wpAnyH_take (i := 11) (oi := ⟨(some 10), _, _, _, _, _⟩) (v := ?vt_8_2_1_6_9_10_11) rfl (by kernel_rfl) (by kernel_rfl) (by kernel_rfl) (fun _ _ _ h => h) (Or.inl ⟨by rfl, ?yt_8_2_1_6_9_10_11⟩) hHeld ?_
          case yt_8_2_1_6_9_10_11 => (intro W0 hSw; go_simp; try with_reducible rfl)
          try simp only [Act.put, List.setIfInBounds_toArray, List.set_cons_zero, List.set_cons_succ]
          refine wpAnyH_done (by kernel_rfl) ?_ _
          clear hHeld
          have hfin : Below w.heap.size w (W5.drewN zz) := by have h := hb0.trans ((hend.trans (hb9.mono hend.size)).mono hb0.size); exact ⟨h.os, h.tape, h.output, h.size, h.block⟩
          go_wp2
          go_ret
          exact ⟨rfl, hfin⟩
end Go.Proofs.YtaklbgikoeedbaaDoor
