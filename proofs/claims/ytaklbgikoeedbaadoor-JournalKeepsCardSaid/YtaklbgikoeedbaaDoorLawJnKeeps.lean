/-
  Law 14: a base that is kept, and what is added behind it, are there behind any fall. Conditions: none.
-/
import Derived.Test.YtaklbgikoeedbaaDoorPkF
namespace Go.Proofs.YtaklbgikoeedbaaDoor
open Go.RowKit

theorem str_ne {l m : List UInt8} (h : l = m) : (⟨l.toArray⟩ : ByteArray) = ⟨m.toArray⟩ := by rw [h]
set_option maxRecDepth 100000 in
set_option maxHeartbeats 8000000 in
theorem walk_JournalKeeps (w : World) (_ : Laid w) (A0 : Option Addr) (l0 : Rcs) (n0 c0 : Nat) (b0 : Prt w w.heap.size A0 l0) (e0 : l0.length = n0) (f0 : n0 ≤ c0) (A1 : Option Addr) (l1 : List UInt8) (n1 c1 : Nat) (b1 : Byt w w.heap.size A1 l1) (e1 : l1.length = n1) (_ : n1 ≤ c1)
    (A2 : Option Addr) (l2 : Rcs) (n2 c2 : Nat) (b2 : Prt w w.heap.size A2 l2) (e2 : l2.length = n2) (f2 : n2 ≤ c2) (u3 : Nat) (o3 : u3 < 18446744073709551616) (t4 : Int) (w4 : (Lit.int .i64 t4).wf = true) :
    Calls Tryd.prog 7 #[.slice A0 n0 c0, .slice A1 n1 c1, .slice A2 n2 c2, .int .u64 (u3 : Int), .int .i64 t4] w fun e w' => e = .returned (.bool true) ∧ Below w.heap.size w w' := by
  have hawk := jawake_any w
  have kc := fun (w : World) (C : Array Value) (n c : Nat) => Lib.run_convert_bytes_const (P := Tryd.prog) w 31 5 C n c Tryd.underlying31 Tryd.underlying5
  have ht : -9223372036854775808 ≤ t4 ∧ t4 ≤ 9223372036854775807 := by simpa [Lit.wf, IntKind.min, IntKind.max, IntKind.signed, IntKind.bits] using w4
  have ht2 : t4 < 9223372036854775808 := by omega
  have ht3 := ht.1
  have E0 := Lib.hid e0
  have E1 := Lib.hid e1
  have E2 := Lib.hid e2
  clear w4 e0 e1 e2 ht
  by_cases hn0 : 12 < n0
  · have hn0' : (12 : Int) < (n0 : Int) := by omega
    go_enter Tryd.func7, Tryd.ntmps7
    go_wp2_with fail
    refine hawk.mono ?_
    rintro e w0 ⟨rfl, hb0⟩
    clear hawk
    go_wp2
    go_ret
    exact ⟨rfl, hb0⟩
  have hn0' : ¬ (12 : Int) < (n0 : Int) := by omega
  by_cases hn2 : 12 < n2
  · have hn2' : (12 : Int) < (n2 : Int) := by omega
    go_enter Tryd.func7, Tryd.ntmps7
    go_wp2_with fail
    refine hawk.mono ?_
    rintro e w0 ⟨rfl, hb0⟩
    clear hawk
    go_wp2
    go_ret
    exact ⟨rfl, hb0⟩
  have hn2' : ¬ (12 : Int) < (n2 : Int) := by omega
  by_cases hn1 : 500 < n1
  · have hn1' : (500 : Int) < (n1 : Int) := by omega
    go_enter Tryd.func7, Tryd.ntmps7
    go_wp2_with fail
    refine hawk.mono ?_
    rintro e w0 ⟨rfl, hb0⟩
    clear hawk
    go_wp2
    go_ret
    exact ⟨rfl, hb0⟩
  have hn1' : ¬ (500 : Int) < (n1 : Int) := by omega
  have hnew := fun w0 => hold_new w0 262144 (by decide) (by decide)
  have kN := kNo
  have hcutw := run_cut_h (P := Tryd.prog) Tryd.underlying32 (show (Tryd.prog.info? 31).map (·.size) = some 1 by kernel_rfl)
  go_enter Tryd.func7, Tryd.ntmps7
  go_wp2_with fail
  refine hawk.mono ?_
  rintro e w0 ⟨rfl, hb0⟩
  clear hawk
  have b0' := (b0.below hb0).up hb0.size
  have b1' := (b1.below hb0).up hb0.size
  have b2' := (b2.below hb0).up hb0.size
  clear b0 b1 b2
  go_wp2_with fail
  go_loopw [11] (fun x wr => ∃ k : Nat, x = .int .i64 (k : Int) ∧ k ≤ n0 ∧ Vlt (∀ p ∈ l0.take k, p.length ≤ 200) ∧ wr = w0) (fun x _ => n0 - (intOf x).toNat)
  case atStart => exact ⟨0, rfl, Nat.zero_le _, vlt (fun p hp => (List.not_mem_nil hp).elim), rfl⟩
  case round =>
    obtain ⟨k, rfl, hk, hfew, rfl⟩ := hrel
    by_cases hlt : k < n0
    · obtain ⟨b, o, Aj, nj, cj, p, rfl, hblt, hcell, hpk, hpj, hcj, hbp⟩ := b0'.at_ (k := k) (by rw [E0.out]; exact hlt)
      by_cases hbg : 200 < nj
      · have hbg' : (200 : Int) < (nj : Int) := by omega
        clear hbp hfew hpk
        go_wp2
        go_ret
        exact ⟨rfl, hb0⟩
      · have hbg' : ¬ (200 : Int) < (nj : Int) := by omega
        have hfew2 := vlt (few_take hfew.out hpk.out (by rw [hpj.out]; omega))
        clear hbp hfew hpk
        go_wp2
        go_roundw
        case rel => exact ⟨k + 1, by go_num, by omega, hfew2, trivial⟩
        case measure => simp [intOf]; omega
    · obtain rfl : k = n0 := by omega
      have hF0 := vlt (show ∀ p ∈ l0, p.length ≤ 200 by
        have h := hfew.out
        rwa [List.take_of_length_le (by rw [E0.out]; exact Nat.le_refl _)] at h)
      clear hfew
      obtain ⟨Y0, hY0⟩ : ∃ Y0, Y0 = wr := ⟨_, rfl⟩
      subst hY0
      go_wp2_with fail
      go_loopw [12] (fun x wr => ∃ m : Nat, x = .int .i64 (m : Int) ∧ m ≤ n2 ∧ Vlt (∀ p ∈ l2.take m, p.length ≤ 200) ∧ wr = Y0) (fun x _ => n2 - (intOf x).toNat)
      case atStart => exact ⟨0, rfl, Nat.zero_le _, vlt (fun p hp => (List.not_mem_nil hp).elim), rfl⟩
      case round =>
        obtain ⟨m, rfl, hm, hfew, rfl⟩ := hrel
        by_cases hlt2 : m < n2
        · obtain ⟨b, o, Aj, nj, cj, p, rfl, hblt, hcell, hpk, hpj, hcj, hbp⟩ := b2'.at_ (k := m) (by rw [E2.out]; exact hlt2)
          by_cases hbg : 200 < nj
          · have hbg' : (200 : Int) < (nj : Int) := by omega
            clear hbp hfew hpk
            go_wp2
            go_ret
            exact ⟨rfl, hb0⟩
          · have hbg' : ¬ (200 : Int) < (nj : Int) := by omega
            have hfew2 := vlt (few_take hfew.out hpk.out (by rw [hpj.out]; omega))
            clear hbp hfew hpk
            go_wp2
            go_roundw
            case rel => exact ⟨m + 1, by go_num, by omega, hfew2, trivial⟩
            case measure => simp [intOf]; omega
        · obtain rfl : m = n2 := by omega
          have hF2 := vlt (show ∀ p ∈ l2, p.length ≤ 200 by
            have h := hfew.out
            rwa [List.take_of_length_le (by rw [E2.out]; exact Nat.le_refl _)] at h)
          clear hfew
          obtain ⟨Y, hY⟩ : ∃ Y, Y = wr := ⟨_, rfl⟩
          subst hY
          have hrb0 : (rb l0).length ≤ 204 * 12 := by
            have h := rb_le hF0.out
            rw [E0.out] at h
            exact Nat.le_trans h (Nat.mul_le_mul_left _ (by omega))
          have hrb2 : (rb l2).length ≤ 204 * 12 := by
            have h := rb_le hF2.out
            rw [E2.out] at h
            exact Nat.le_trans h (Nat.mul_le_mul_left _ (by omega))
          have HR0 := Lib.hid hrb0
          have HR2 := Lib.hid hrb2
          clear hrb0 hrb2
          have hnw := hnew Y
          clear hnew
          go_wp2_with fail
          refine hnw.mono ?_
          rintro e w1 ⟨d, rfl, h1⟩
          clear hnw
          have hop := lo_open kN (lo_new h1 (by decide)) (by decide)
          go_wp2_with fail
          refine hop.mono ?_
          rintro e w2 ⟨j, rfl, h2⟩
          have h3 : Lw Y w2 j d 262144 1000 0 1 [] [] 0 (KAnd (KAnd (KAnd KNo (KP A0 l0)) (KB A1 l1)) (KP A2 l2)) := (((h2.oldP b0').oldB b1').oldP b2').more (by decide) (by decide) (by decide)
          have kM : Kp (KAnd (KAnd (KAnd KNo (KP A0 l0)) (KB A1 l1)) (KP A2 l2)) := kAnd (kAnd (kAnd kNo (kP _ _)) (kB _ _)) (kP _ _)
          clear hop h1 h2
          have had := lw_add kM h3 A0 l0 k c0 (fun W F h => h.1.1.2) E0.out (by omega) (by decide) (few_ok hF0.out) (by decide) (by have := HR0.out; omega)
          clear h3
          go_wp2_with fail
          refine had.mono ?_
          rintro e w3 ⟨rfl, h4⟩
          have h5 : Lw Y w3 j d 262144 2000 3000 1 [] ([] ++ l0) 0 (KAnd (KAnd (KAnd KNo (KP A0 l0)) (KB A1 l1)) (KP A2 l2)) := h4.more (by omega) (by have := HR0.out; omega) (by decide)
          clear had h4
          have hke := lw_keep kM h5 A1 l1 n1 c1 (fun W F h => h.1.2) E1.out (by omega) (by decide) (by omega)
          clear h5
          go_wp2_with fail
          refine hke.mono ?_
          rintro e w4 ⟨rfl, h6⟩
          have h7 : Lw Y w4 j d 262144 3000 1000 1 l1 [] 0 (KAnd (KAnd (KAnd KNo (KP A0 l0)) (KB A1 l1)) (KP A2 l2)) := h6.more (by decide) (by omega) (by decide)
          clear hke h6
          have had := lw_add kM h7 A2 l2 m c2 (fun W F h => h.2) E2.out (by omega) (by decide) (few_ok hF2.out) (by decide) (by have := HR2.out; omega)
          clear h7
          go_wp2_with fail
          refine had.mono ?_
          rintro e w5 ⟨rfl, h8⟩
          have h9 : Lw Y w5 j d 262144 4000 4000 1 l1 l2 0 (KAnd (KAnd (KAnd KNo (KP A0 l0)) (KB A1 l1)) (KP A2 l2)) := h8.more (by omega) (by have := HR2.out; omega) (by decide)
          clear had h8
          have hsy := lw_sync kM h9
          clear h9
          go_wp2_with fail
          refine hsy.mono ?_
          rintro e w6 ⟨rfl, h10⟩
          rw [E2.out] at h10
          clear hsy
          obtain ⟨hb11, hp11⟩ := lit_one w6 [108, 97, 115, 116] #[.int .u8 108, .int .u8 97, .int .u8 115, .int .u8 116] (4, 5) 4 rfl rfl
          have h11 := h10.fresh kM hb11 (kP (some ⟨w6.heap.size + 1, 0, none⟩) [[108, 97, 115, 116]]) hp11
          have had := lw_add (kAnd kM (kP _ _)) h11 (some ⟨w6.heap.size + 1, 0, none⟩) [[108, 97, 115, 116]] 1 1 (fun W F h => h.2) rfl (by decide) (by decide) (fun p hp => by simp at hp; subst hp; decide) (by rw [E2.out]; omega) (by decide)
          clear h10 h11 hb11 hp11
          go_wp2_with fail
          refine had.mono ?_
          rintro e w7 ⟨rfl, h12⟩
          have h13 : Lw Y w7 j d 262144 5000 5000 1 l1 (l2 ++ [[108, 97, 115, 116]]) m (KAnd (KAnd (KAnd KNo (KP A0 l0)) (KB A1 l1)) (KP A2 l2)) := (h12.weak fun _ _ h => h.1).more (by decide) (by decide) (by decide)
          clear had h12
          have hcr := lw_crash kM h13 u3 t4.toNat t4 o3 rfl ht2 ht3
          clear h13
          go_wp2_with fail
          refine hcr.mono ?_
          rintro e w8 ⟨rfl, h14⟩
          clear hcr
          have hon := lc_on kM h14 (by decide) (by decide) (by decide)
          clear h14
          go_wp2_with fail
          refine hon.mono ?_
          rintro e w9 ⟨rfl, n, hn1', _, hn3', h15⟩
          have hn3 : n ≤ m + 1 := by rw [List.length_append, E2.out] at hn3'; exact hn3'
          clear hon hn3'
          have HW : Hid (((l2 ++ [[108, 97, 115, 116]]).take n).length = n) := show _ = _ by rw [List.length_take, List.length_append, E2.out]; exact Nat.min_eq_left hn3
          have hop := lo_open kM h15 (by rw [HW.out]; omega)
          clear h15
          go_wp2_with fail
          refine hop.mono ?_
          rintro e w10 ⟨j2, rfl, h16⟩
          clear hop
          have h17 : Lw Y w10 j2 d 262144 9000 5000 2 l1 ((l2 ++ [[108, 97, 115, 116]]).take n) n (KAnd (KAnd (KAnd KNo (KP A0 l0)) (KB A1 l1)) (KP A2 l2)) := by
            have h := h16.more (NB' := 9000) (B' := 5000) (LB' := 2) (by decide) (by decide) (by decide)
            rw [HW.out] at h; exact h
          clear h16
          obtain ⟨R, hR⟩ : ∃ R, R = (l2 ++ [[108, 97, 115, 116]]).take n := ⟨_, rfl⟩
          rw [← hR] at h17 HW
          have HRR := vlt hR
          clear hR
          have h18 := h17.drew kM
          have hby : Byt w10.drew w10.drew.heap.size A1 l1 := (h18.data kM).1.2.byt
          clear h17
          go_upto_region 22 with fail
          refine wp_region_held_drew (S := (fun W' => Byt W' W'.heap.size A1 l1)) (by kernel_rfl) (hby) (fun hHeld => ?_)
          refine wpAnyH_take (i := 0) (oi := ⟨(some 117), _, _, _, _, _⟩) (v := ?vq1_0) rfl (by kernel_rfl) (by kernel_rfl) (by kernel_rfl) (fun _ _ _ h => h) (Or.inl ⟨by rfl, ?yq1_0⟩) hHeld ?_
          case yq1_0 => (intro W0 hSw; go_simp; try with_reducible rfl)
          try simp only [Act.put, List.setIfInBounds_toArray, List.set_cons_zero, List.set_cons_succ]
          refine wpAnyH_take (i := 1) (oi := ⟨(some 118), _, _, _, _, _⟩) (v := ?vq1_1) rfl (by kernel_rfl) (by kernel_rfl) (by kernel_rfl) (fun _ _ _ h => h) (Or.inl ⟨by rfl, ?yq1_1⟩) hHeld ?_
          case yq1_1 => (intro W0 hSw; go_simp; try with_reducible rfl)
          try simp only [Act.put, List.setIfInBounds_toArray, List.set_cons_zero, List.set_cons_succ]
          refine wpAnyH_take (i := 2) (oi := ⟨(some 119), _, _, _, _, _⟩) (v := ?vq1_2) rfl (by kernel_rfl) (by kernel_rfl) (by kernel_rfl) (fun _ _ _ h => h) (Or.inl ⟨by rfl, ?yq1_2⟩) hHeld ?_
          case yq1_2 => (intro W0 hSw; go_simp; try with_reducible rfl)
          try simp only [Act.put, List.setIfInBounds_toArray, List.set_cons_zero, List.set_cons_succ]
          refine wpAnyH_take (i := 3) (oi := ⟨(some 120), _, _, _, _, _⟩) (v := ?vq1_3) rfl (by kernel_rfl) (by kernel_rfl) (by kernel_rfl) (fun _ _ _ h => h) (Or.inl ⟨by rfl, ?yq1_3⟩) hHeld ?_
          case yq1_3 => (intro W0 hSw; go_simp; try with_reducible rfl)
          try simp only [Act.put, List.setIfInBounds_toArray, List.set_cons_zero, List.set_cons_succ]
          refine wpAnyH_take (i := 4) (oi := ⟨(some 121), _, _, _, _, _⟩) (v := ?vq1_4) rfl (by kernel_rfl) (by kernel_rfl) (by kernel_rfl) (fun _ _ _ h => h) (Or.inl ⟨by rfl, ?yq1_4⟩) hHeld ?_
          case yq1_4 => (intro W0 hSw; go_simp; try with_reducible rfl)
          try simp only [Act.put, List.setIfInBounds_toArray, List.set_cons_zero, List.set_cons_succ]
          refine wpAnyH_take (i := 5) (oi := ⟨(some 122), _, _, _, _, _⟩) (v := ?vq1_5) rfl (by kernel_rfl) (by kernel_rfl) (by kernel_rfl) (fun _ _ _ h => h) (Or.inl ⟨by rfl, ?yq1_5⟩) hHeld ?_
          case yq1_5 => (intro W0 hSw; go_simp; try with_reducible rfl)
          try simp only [Act.put, List.setIfInBounds_toArray, List.set_cons_zero, List.set_cons_succ]
          refine wpAnyH_take (i := 6) (oi := ⟨(some 123), _, _, _, _, _⟩) (v := ?vq1_6) rfl (by kernel_rfl) (by kernel_rfl) (by kernel_rfl) (fun _ _ _ h => h) (Or.inl ⟨by rfl, ?yq1_6⟩) hHeld ?_
          case yq1_6 => (intro W0 hSw; go_simp; try with_reducible rfl)
          try simp only [Act.put, List.setIfInBounds_toArray, List.set_cons_zero, List.set_cons_succ]
          refine wpAnyH_take (i := 7) (oi := ⟨(some 124), _, _, _, _, _⟩) (v := ?vq1_7) rfl (by kernel_rfl) (by kernel_rfl) (by kernel_rfl) (fun _ _ _ h => h) (Or.inl ⟨by rfl, ?yq1_7⟩) hHeld ?_
          case yq1_7 => (intro W0 hSw; go_simp; try with_reducible rfl)
          try simp only [Act.put, List.setIfInBounds_toArray, List.set_cons_zero, List.set_cons_succ]
          refine wpAnyH_take (i := 10) (oi := ⟨(some 127), _, _, _, _, _⟩) (v := ?vq1_8) rfl (by kernel_rfl) (by kernel_rfl) (by kernel_rfl) (fun _ _ _ h => h) (Or.inl ⟨by rfl, ?yq1_8⟩) hHeld ?_
          case yq1_8 => (intro W0 hSw; go_simp; try with_reducible rfl)
          try simp only [Act.put, List.setIfInBounds_toArray, List.set_cons_zero, List.set_cons_succ]
          refine wpAnyH_take (i := 11) (oi := ⟨(some 128), _, _, _, _, _⟩) (v := ?vq1_9) rfl (by kernel_rfl) (by kernel_rfl) (by kernel_rfl) (fun _ _ _ h => h) (Or.inl ⟨by rfl, ?yq1_9⟩) hHeld ?_
          case yq1_9 => (intro W0 hSw; have hcx := conv_bytes (P := Tryd.prog) Tryd.underlying31 Tryd.underlying5 Tryd.underlying9 hSw n1 c1 E1.out; go_simp; try with_reducible rfl)
          try simp only [Act.put, List.setIfInBounds_toArray, List.set_cons_zero, List.set_cons_succ]
          refine wpAnyH_ready (rs := [8]) (by kernel_rfl) (by simp) ?_
          refine AllReadyH.cons (i := 8) (o := ⟨(some 125), _, _, _, _, _⟩) rfl (fun K hK => ?_) AllReadyH.nil
          go_simp
          refine (lw_base kM h18 (by rw [E1.out]; omega)).mono ?_
          rintro e w11 ⟨Ab, nb, cb, rfl, hbA, hnb, hncb, hb11, h19⟩
          refine hK.out _ _ ((hby.below hb11).up hb11.size) (fun hHeld => ?_)
          clear hK K
          try simp only [Act.put, List.setIfInBounds_toArray, List.set_cons_zero, List.set_cons_succ]
          refine held_more (S' := fun W => Below w11.heap.size w11 W) (fun W h => (((hby.below hb11).up hb11.size).below h).up h.size) _ _ _ _ ?_
          clear hHeld
          have hHeld : Below w11.heap.size w11 w11 := Below.refl _ _
          refine wpAnyH_take (i := 9) (oi := ⟨(some 126), _, _, _, _, _⟩) (v := ?vq1_10) rfl (by kernel_rfl) (by kernel_rfl) (by kernel_rfl) (fun _ _ _ h => h) (Or.inl ⟨by rfl, ?yq1_10⟩) hHeld ?_
          case yq1_10 => (intro W0 hSw; have hcx := conv_bytes (P := Tryd.prog) Tryd.underlying31 Tryd.underlying5 Tryd.underlying9 (hbA.below hSw) nb cb hnb.out; go_simp; try with_reducible rfl)
          try simp only [Act.put, List.setIfInBounds_toArray, List.set_cons_zero, List.set_cons_succ]
          refine wpAnyH_take (i := 12) (oi := ⟨(some 129), _, _, _, _, _⟩) (v := ?vq1_11) rfl (by kernel_rfl) (by kernel_rfl) (by kernel_rfl) (fun _ _ _ h => h) (Or.inl ⟨by rfl, ?yq1_11⟩) hHeld ?_
          case yq1_11 => (intro W0 hSw; go_simp; try with_reducible rfl)
          try simp only [Act.put, List.setIfInBounds_toArray, List.set_cons_zero, List.set_cons_succ]
          refine wpAnyH_take (i := 13) (oi := ⟨(some 130), _, _, _, _, _⟩) (v := ?vq1_12) rfl (by kernel_rfl) (by kernel_rfl) (by kernel_rfl) (fun _ _ _ h => h) (Or.inl ⟨by rfl, ?yq1_12⟩) hHeld ?_
          case yq1_12 => (intro W0 hSw; go_simp; try with_reducible rfl)
          try simp only [Act.put, List.setIfInBounds_toArray, List.set_cons_zero, List.set_cons_succ]
          refine wpAnyH_done (by kernel_rfl) ?_ _
          clear hHeld h18 hby hbA hnb hncb hb11
          have hal := lw_all kM h19 (by rw [HW.out]; omega)
          go_wp2_with fail
          refine hal.mono ?_
          rintro e w12 ⟨nr, rfl, hnr, _, hb12, h20⟩
          obtain rfl : n = nr := HW.out.symm.trans hnr.out
          clear hal h19 hnr hb12
          have hV := NewL.start w12
          have hp2 : PrtF (w12.alloc (.cells #[] 31)) (fun i => i < w12.heap.size) A2 l2 := (((h20.data kM).2).mono fun i hi _ => hi).off ((Off.refl (fun _ => False) w12).alloc _) fun _ _ _ h => h
          go_wp2_with (at_builtin; refine wp_append_new _ rfl (.tmp 134) (.tmp 135) rfl (some ⟨w12.heap.size, 0, none⟩) 0 0 [] rfl hV A2 m c2 rfl (fun i => i < w12.heap.size) l2 hp2 (fun a ha => by injection ha with ha; subst ha; exact Nat.lt_irrefl _) E2.out (by omega) ?_)
          intro Aq cq w13 hN13
          obtain ⟨hb14, hp14⟩ := lit_one w13 [108, 97, 115, 116] #[.int .u8 108, .int .u8 97, .int .u8 115, .int .u8 116] (4, 5) 4 rfl rfl
          have hN14 := hN13.next hb14
          clear hV hp2
          go_wp2_with (at_builtin; refine wp_append_new _ rfl (.tmp 136) (.tmp 139) rfl Aq m cq l2 rfl hN14 (some ⟨w13.heap.size + 1, 0, none⟩) 1 1 rfl (fun i => w13.heap.size ≤ i) [[108, 97, 115, 116]] hp14 (fun a ha => by have := hN13.lt a ha; omega) rfl (by omega) ?_)
          intro Aw cw w15 hN15
          have h21 := h20.next kM (hN15.1)
          obtain ⟨hcw, hlw⟩ := hN15.cap
          have hPw := PrtF.prt hN15.prtF
          have hWW := Lib.hid hlw
          clear hlw hN13 hN14 hN15 hp14 hb14 h20
          go_wp2_with fail
          have hnle : n ≤ cw := by omega
          have hcu := hcutw Aw (m + 1) cw n (n : Int) rfl hnle
          have h22 := h21.drew kM
          have hPw2 : Prt w15.drew w15.drew.heap.size Aw (l2 ++ [[108, 97, 115, 116]]) := hPw
          have hPw3 := hPw2.take n
          rw [← HRR.out] at hPw3
          clear h21 hPw hPw2
          have hal := lw_all kM h22 (by rw [HW.out]; omega)
          by_cases hnm : n = m
          · subst hnm
            refine wp_region_held_drew (S := (fun _ => True)) (by kernel_rfl) (trivial) (fun hHeld => ?_)
            refine wpAnyH_take (i := 0) (oi := ⟨(some 141), _, _, _, _, _⟩) (v := ?vq2_0) rfl (by kernel_rfl) (by kernel_rfl) (by kernel_rfl) (fun _ _ _ h => h) (Or.inl ⟨by rfl, ?yq2_0⟩) hHeld ?_
            case yq2_0 => (intro W0 hSw; go_simp; try with_reducible rfl)
            try simp only [Act.put, List.setIfInBounds_toArray, List.set_cons_zero, List.set_cons_succ]
            refine wpAnyH_take (i := 1) (oi := ⟨(some 142), _, _, _, _, _⟩) (v := ?vq2_1) rfl (by kernel_rfl) (by kernel_rfl) (by kernel_rfl) (fun _ _ _ h => h) (Or.inl ⟨by rfl, ?yq2_1⟩) hHeld ?_
            case yq2_1 => (intro W0 hSw; go_simp; try with_reducible rfl)
            try simp only [Act.put, List.setIfInBounds_toArray, List.set_cons_zero, List.set_cons_succ]
            refine wpAnyH_take (i := 2) (oi := ⟨(some 143), _, _, _, _, _⟩) (v := ?vq2_2) rfl (by kernel_rfl) (by kernel_rfl) (by kernel_rfl) (fun _ _ _ h => h) (Or.inl ⟨by rfl, ?yq2_2⟩) hHeld ?_
            case yq2_2 => (intro W0 hSw; go_simp; try with_reducible rfl)
            try simp only [Act.put, List.setIfInBounds_toArray, List.set_cons_zero, List.set_cons_succ]
            refine wpAnyH_take (i := 3) (oi := ⟨(some 144), _, _, _, _, _⟩) (v := ?vq2_3) rfl (by kernel_rfl) (by kernel_rfl) (by kernel_rfl) (fun _ _ _ h => h) (Or.inl ⟨by rfl, ?yq2_3⟩) hHeld ?_
            case yq2_3 => (intro W0 hSw; go_simp; try with_reducible rfl)
            try simp only [Act.put, List.setIfInBounds_toArray, List.set_cons_zero, List.set_cons_succ]
            refine wpAnyH_take (i := 4) (oi := ⟨(some 145), _, _, _, _, _⟩) (v := ?vq2_4) rfl (by kernel_rfl) (by kernel_rfl) (by kernel_rfl) (fun _ _ _ h => h) (Or.inl ⟨by rfl, ?yq2_4⟩) hHeld ?_
            case yq2_4 => (intro W0 hSw; go_simp; try with_reducible rfl)
            try simp only [Act.put, List.setIfInBounds_toArray, List.set_cons_zero, List.set_cons_succ]
            refine wpAnyH_take (i := 5) (oi := ⟨(some 146), _, _, _, _, _⟩) (v := undef) rfl (by kernel_rfl) (by kernel_rfl) (by kernel_rfl) (fun _ _ _ h => h) (Or.inr ⟨by rfl, rfl⟩) hHeld ?_
            try simp only [Act.put, List.setIfInBounds_toArray, List.set_cons_zero, List.set_cons_succ]
            refine wpAnyH_take (i := 6) (oi := ⟨(some 147), _, _, _, _, _⟩) (v := undef) rfl (by kernel_rfl) (by kernel_rfl) (by kernel_rfl) (fun _ _ _ h => h) (Or.inr ⟨by rfl, rfl⟩) hHeld ?_
            try simp only [Act.put, List.setIfInBounds_toArray, List.set_cons_zero, List.set_cons_succ]
            refine wpAnyH_take (i := 7) (oi := ⟨(some 148), _, _, _, _, _⟩) (v := undef) rfl (by kernel_rfl) (by kernel_rfl) (by kernel_rfl) (fun _ _ _ h => h) (Or.inr ⟨by rfl, rfl⟩) hHeld ?_
            try simp only [Act.put, List.setIfInBounds_toArray, List.set_cons_zero, List.set_cons_succ]
            refine wpAnyH_take (i := 8) (oi := ⟨(some 149), _, _, _, _, _⟩) (v := undef) rfl (by kernel_rfl) (by kernel_rfl) (by kernel_rfl) (fun _ _ _ h => h) (Or.inr ⟨by rfl, rfl⟩) hHeld ?_
            try simp only [Act.put, List.setIfInBounds_toArray, List.set_cons_zero, List.set_cons_succ]
            refine wpAnyH_take (i := 9) (oi := ⟨(some 150), _, _, _, _, _⟩) (v := undef) rfl (by kernel_rfl) (by kernel_rfl) (by kernel_rfl) (fun _ _ _ h => h) (Or.inr ⟨by rfl, rfl⟩) hHeld ?_
            try simp only [Act.put, List.setIfInBounds_toArray, List.set_cons_zero, List.set_cons_succ]
            refine wpAnyH_take (i := 10) (oi := ⟨(some 151), _, _, _, _, _⟩) (v := ?vq2_5) rfl (by kernel_rfl) (by kernel_rfl) (by kernel_rfl) (fun _ _ _ h => h) (Or.inl ⟨by rfl, ?yq2_5⟩) hHeld ?_
            case yq2_5 => (intro W0 hSw; go_simp; try with_reducible rfl)
            try simp only [Act.put, List.setIfInBounds_toArray, List.set_cons_zero, List.set_cons_succ]
            refine wpAnyH_take (i := 11) (oi := ⟨(some 152), _, _, _, _, _⟩) (v := ?vq2_6) rfl (by kernel_rfl) (by kernel_rfl) (by kernel_rfl) (fun _ _ _ h => h) (Or.inl ⟨by rfl, ?yq2_6⟩) hHeld ?_
            case yq2_6 => (intro W0 hSw; go_simp; try with_reducible rfl)
            try simp only [Act.put, List.setIfInBounds_toArray, List.set_cons_zero, List.set_cons_succ]
            refine wpAnyH_take (i := 12) (oi := ⟨(some 153), _, _, _, _, _⟩) (v := ?vq2_7) rfl (by kernel_rfl) (by kernel_rfl) (by kernel_rfl) (fun _ _ _ h => h) (Or.inl ⟨by rfl, ?yq2_7⟩) hHeld ?_
            case yq2_7 => (intro W0 hSw; go_simp; try with_reducible rfl)
            try simp only [Act.put, List.setIfInBounds_toArray, List.set_cons_zero, List.set_cons_succ]
            refine wpAnyH_take (i := 14) (oi := ⟨(some 155), _, _, _, _, _⟩) (v := ?vq2_8) rfl (by kernel_rfl) (by kernel_rfl) (by kernel_rfl) (fun _ _ _ h => h) (Or.inl ⟨by rfl, ?yq2_8⟩) hHeld ?_
            case yq2_8 => (intro W0 hSw; go_simp; try with_reducible rfl)
            try simp only [Act.put, List.setIfInBounds_toArray, List.set_cons_zero, List.set_cons_succ]
            refine wpAnyH_take (i := 15) (oi := ⟨(some 156), _, _, _, _, _⟩) (v := ?vq2_9) rfl (by kernel_rfl) (by kernel_rfl) (by kernel_rfl) (fun _ _ _ h => h) (Or.inl ⟨by rfl, ?yq2_9⟩) hHeld ?_
            case yq2_9 => (intro W0 hSw; go_simp; try with_reducible rfl)
            try simp only [Act.put, List.setIfInBounds_toArray, List.set_cons_zero, List.set_cons_succ]
            refine wpAnyH_take (i := 16) (oi := ⟨(some 157), _, _, _, _, _⟩) (v := ?vq2_10) rfl (by kernel_rfl) (by kernel_rfl) (by kernel_rfl) (fun _ _ _ h => h) (Or.inl ⟨by rfl, ?yq2_10⟩) hHeld ?_
            case yq2_10 => (intro W0 hSw; go_simp; try with_reducible rfl)
            try simp only [Act.put, List.setIfInBounds_toArray, List.set_cons_zero, List.set_cons_succ]
            refine wpAnyH_ready (rs := [13]) (by kernel_rfl) (by simp) ?_
            refine AllReadyH.cons (i := 13) (o := ⟨(some 154), _, _, _, _, _⟩) rfl (fun K hK => ?_) AllReadyH.nil
            go_simp
            refine hal.mono ?_
            rintro e w16 ⟨mr, rfl, hmr, hv, hb16, h23⟩
            obtain rfl : n = mr := HW.out.symm.trans hmr.out
            have hsm := same_any w16 (some ⟨w15.drew.heap.size, 0, none⟩) Aw R R (n) (n) (n) cw (all_prt hv) HW.out (hPw3.next hb16) HW.out (by omega)
            rw [show decide (R = R) = true by simp] at hsm
            clear hal
            refine hK.out _ _ (trivial) (fun hHeld => ?_)
            clear hK K
            try simp only [Act.put, List.setIfInBounds_toArray, List.set_cons_zero, List.set_cons_succ]
            refine wpAnyH_ready (rs := [17]) (by kernel_rfl) (by simp) ?_
            refine AllReadyH.cons (i := 17) (o := ⟨(some 158), _, _, _, _, _⟩) rfl (fun K hK => ?_) AllReadyH.nil
            go_simp
            refine hsm.mono ?_
            rintro e w17 ⟨rfl, z, rfl⟩
            clear hsm
            refine hK.out _ _ (trivial) (fun hHeld => ?_)
            clear hK K
            try simp only [Act.put, List.setIfInBounds_toArray, List.set_cons_zero, List.set_cons_succ]
            refine wpAnyH_take (i := 18) (oi := ⟨(some 159), _, _, _, _, _⟩) (v := ?vq2_11) rfl (by kernel_rfl) (by kernel_rfl) (by kernel_rfl) (fun _ _ _ h => h) (Or.inl ⟨by rfl, ?yq2_11⟩) hHeld ?_
            case yq2_11 => (intro W0 hSw; go_simp; try with_reducible rfl)
            try simp only [Act.put, List.setIfInBounds_toArray, List.set_cons_zero, List.set_cons_succ]
            refine wpAnyH_take (i := 19) (oi := ⟨(some 10), _, _, _, _, _⟩) (v := ?vq2_12) rfl (by kernel_rfl) (by kernel_rfl) (by kernel_rfl) (fun _ _ _ h => h) (Or.inl ⟨by rfl, ?yq2_12⟩) hHeld ?_
            case yq2_12 => (intro W0 hSw; go_simp; try with_reducible rfl)
            try simp only [Act.put, List.setIfInBounds_toArray, List.set_cons_zero, List.set_cons_succ]
            refine wpAnyH_done (by kernel_rfl) ?_ _
            clear hHeld
            have hend := hb0.trans (((h23.drewN kM z).bel).mono hb0.size)
            clear h22 h23 hv
            go_wp2
            go_ret
            exact ⟨rfl, hend⟩
          · obtain rfl : n = m + 1 := by omega
            have hb1 : (((m : Int) + 1) == (m : Int)) = false := by
              have : ¬ ((m : Int) + 1 = (m : Int)) := by omega
              simpa using this
            have hb2 : (((m + 1 : Nat) : Int) == (m : Int)) = false := hb1
            have hb3 : ¬ ((m : Int) + 1 = (m : Int)) := by omega
            have hcu2 := hcutw Aw (m + 1) cw (m + 1) ((m : Int) + 1) rfl (by omega)
            have hcw1 : (m : Int) + 1 ≤ (cw : Int) := by omega
            have hcw0 : (0 : Int) ≤ (m : Int) + 1 := by omega
            have hwr : IntKind.i64.wrap ((m : Int) + 1) = (m : Int) + 1 := IntWalk.i64_in _ (by omega)
            refine wp_region_held_drew (S := (fun _ => True)) (by kernel_rfl) (trivial) (fun hHeld => ?_)
            refine wpAnyH_take (i := 0) (oi := ⟨(some 141), _, _, _, _, _⟩) (v := ?vq3_0) rfl (by kernel_rfl) (by kernel_rfl) (by kernel_rfl) (fun _ _ _ h => h) (Or.inl ⟨by rfl, ?yq3_0⟩) hHeld ?_
            case yq3_0 => (intro W0 hSw; go_simp; try with_reducible rfl)
            try simp only [Act.put, List.setIfInBounds_toArray, List.set_cons_zero, List.set_cons_succ]
            refine wpAnyH_take (i := 1) (oi := ⟨(some 142), _, _, _, _, _⟩) (v := ?vq3_1) rfl (by kernel_rfl) (by kernel_rfl) (by kernel_rfl) (fun _ _ _ h => h) (Or.inl ⟨by rfl, ?yq3_1⟩) hHeld ?_
            case yq3_1 => (intro W0 hSw; go_simp; try with_reducible rfl)
            try simp only [Act.put, List.setIfInBounds_toArray, List.set_cons_zero, List.set_cons_succ]
            refine wpAnyH_take (i := 2) (oi := ⟨(some 143), _, _, _, _, _⟩) (v := ?vq3_2) rfl (by kernel_rfl) (by kernel_rfl) (by kernel_rfl) (fun _ _ _ h => h) (Or.inl ⟨by rfl, ?yq3_2⟩) hHeld ?_
            case yq3_2 => (intro W0 hSw; go_simp; try with_reducible rfl)
            try simp only [Act.put, List.setIfInBounds_toArray, List.set_cons_zero, List.set_cons_succ]
            refine wpAnyH_take (i := 3) (oi := ⟨(some 144), _, _, _, _, _⟩) (v := ?vq3_3) rfl (by kernel_rfl) (by kernel_rfl) (by kernel_rfl) (fun _ _ _ h => h) (Or.inl ⟨by rfl, ?yq3_3⟩) hHeld ?_
            case yq3_3 => (intro W0 hSw; go_simp; try with_reducible rfl)
            try simp only [Act.put, List.setIfInBounds_toArray, List.set_cons_zero, List.set_cons_succ]
            refine wpAnyH_take (i := 4) (oi := ⟨(some 145), _, _, _, _, _⟩) (v := ?vq3_4) rfl (by kernel_rfl) (by kernel_rfl) (by kernel_rfl) (fun _ _ _ h => h) (Or.inl ⟨by rfl, ?yq3_4⟩) hHeld ?_
            case yq3_4 => (intro W0 hSw; go_simp; try with_reducible rfl)
            try simp only [Act.put, List.setIfInBounds_toArray, List.set_cons_zero, List.set_cons_succ]
            refine wpAnyH_take (i := 5) (oi := ⟨(some 146), _, _, _, _, _⟩) (v := ?vq3_5) rfl (by kernel_rfl) (by kernel_rfl) (by kernel_rfl) (fun _ _ _ h => h) (Or.inl ⟨by rfl, ?yq3_5⟩) hHeld ?_
            case yq3_5 => (intro W0 hSw; go_simp; try with_reducible rfl)
            try simp only [Act.put, List.setIfInBounds_toArray, List.set_cons_zero, List.set_cons_succ]
            refine wpAnyH_take (i := 6) (oi := ⟨(some 147), _, _, _, _, _⟩) (v := ?vq3_6) rfl (by kernel_rfl) (by kernel_rfl) (by kernel_rfl) (fun _ _ _ h => h) (Or.inl ⟨by rfl, ?yq3_6⟩) hHeld ?_
            case yq3_6 => (intro W0 hSw; go_simp; try with_reducible rfl)
            try simp only [Act.put, List.setIfInBounds_toArray, List.set_cons_zero, List.set_cons_succ]
            refine wpAnyH_take (i := 7) (oi := ⟨(some 148), _, _, _, _, _⟩) (v := ?vq3_7) rfl (by kernel_rfl) (by kernel_rfl) (by kernel_rfl) (fun _ _ _ h => h) (Or.inl ⟨by rfl, ?yq3_7⟩) hHeld ?_
            case yq3_7 => (intro W0 hSw; go_simp; try with_reducible rfl)
            try simp only [Act.put, List.setIfInBounds_toArray, List.set_cons_zero, List.set_cons_succ]
            refine wpAnyH_take (i := 8) (oi := ⟨(some 149), _, _, _, _, _⟩) (v := ?vq3_8) rfl (by kernel_rfl) (by kernel_rfl) (by kernel_rfl) (fun _ _ _ h => h) (Or.inl ⟨by rfl, ?yq3_8⟩) hHeld ?_
            case yq3_8 => (intro W0 hSw; go_simp; try with_reducible rfl)
            try simp only [Act.put, List.setIfInBounds_toArray, List.set_cons_zero, List.set_cons_succ]
            refine wpAnyH_take (i := 9) (oi := ⟨(some 150), _, _, _, _, _⟩) (v := ?vq3_9) rfl (by kernel_rfl) (by kernel_rfl) (by kernel_rfl) (fun _ _ _ h => h) (Or.inl ⟨by rfl, ?yq3_9⟩) hHeld ?_
            case yq3_9 => (intro W0 hSw; go_simp; try with_reducible rfl)
            try simp only [Act.put, List.setIfInBounds_toArray, List.set_cons_zero, List.set_cons_succ]
            refine wpAnyH_take (i := 10) (oi := ⟨(some 151), _, _, _, _, _⟩) (v := ?vq3_10) rfl (by kernel_rfl) (by kernel_rfl) (by kernel_rfl) (fun _ _ _ h => h) (Or.inl ⟨by rfl, ?yq3_10⟩) hHeld ?_
            case yq3_10 => (intro W0 hSw; go_simp; try with_reducible rfl)
            try simp only [Act.put, List.setIfInBounds_toArray, List.set_cons_zero, List.set_cons_succ]
            refine wpAnyH_take (i := 11) (oi := ⟨(some 152), _, _, _, _, _⟩) (v := ?vq3_11) rfl (by kernel_rfl) (by kernel_rfl) (by kernel_rfl) (fun _ _ _ h => h) (Or.inl ⟨by rfl, ?yq3_11⟩) hHeld ?_
            case yq3_11 => (intro W0 hSw; go_simp; try with_reducible rfl)
            try simp only [Act.put, List.setIfInBounds_toArray, List.set_cons_zero, List.set_cons_succ]
            refine wpAnyH_take (i := 12) (oi := ⟨(some 153), _, _, _, _, _⟩) (v := ?vq3_12) rfl (by kernel_rfl) (by kernel_rfl) (by kernel_rfl) (fun _ _ _ h => h) (Or.inl ⟨by rfl, ?yq3_12⟩) hHeld ?_
            case yq3_12 => (intro W0 hSw; go_simp; try with_reducible rfl)
            try simp only [Act.put, List.setIfInBounds_toArray, List.set_cons_zero, List.set_cons_succ]
            refine wpAnyH_take (i := 14) (oi := ⟨(some 155), _, _, _, _, _⟩) (v := ?vq3_13) rfl (by kernel_rfl) (by kernel_rfl) (by kernel_rfl) (fun _ _ _ h => h) (Or.inl ⟨by rfl, ?yq3_13⟩) hHeld ?_
            case yq3_13 => (intro W0 hSw; go_simp; try with_reducible rfl)
            try simp only [Act.put, List.setIfInBounds_toArray, List.set_cons_zero, List.set_cons_succ]
            refine wpAnyH_take (i := 15) (oi := ⟨(some 156), _, _, _, _, _⟩) (v := ?vq3_14) rfl (by kernel_rfl) (by kernel_rfl) (by kernel_rfl) (fun _ _ _ h => h) (Or.inl ⟨by rfl, ?yq3_14⟩) hHeld ?_
            case yq3_14 => (intro W0 hSw; go_simp; try with_reducible rfl)
            try simp only [Act.put, List.setIfInBounds_toArray, List.set_cons_zero, List.set_cons_succ]
            refine wpAnyH_take (i := 16) (oi := ⟨(some 157), _, _, _, _, _⟩) (v := ?vq3_15) rfl (by kernel_rfl) (by kernel_rfl) (by kernel_rfl) (fun _ _ _ h => h) (Or.inl ⟨by rfl, ?yq3_15⟩) hHeld ?_
            case yq3_15 => (intro W0 hSw; go_simp; try with_reducible rfl)
            try simp only [Act.put, List.setIfInBounds_toArray, List.set_cons_zero, List.set_cons_succ]
            refine wpAnyH_ready (rs := [13]) (by kernel_rfl) (by simp) ?_
            refine AllReadyH.cons (i := 13) (o := ⟨(some 154), _, _, _, _, _⟩) rfl (fun K hK => ?_) AllReadyH.nil
            go_simp
            refine hal.mono ?_
            rintro e w16 ⟨mr, rfl, hmr, hv, hb16, h23⟩
            obtain rfl : m + 1 = mr := HW.out.symm.trans hmr.out
            have hsm := same_any w16 (some ⟨w15.drew.heap.size, 0, none⟩) Aw R R (m + 1) (m + 1) (m + 1) cw (all_prt hv) HW.out (hPw3.next hb16) HW.out (by omega)
            rw [show decide (R = R) = true by simp] at hsm
            clear hal
            refine hK.out _ _ (trivial) (fun hHeld => ?_)
            clear hK K
            try simp only [Act.put, List.setIfInBounds_toArray, List.set_cons_zero, List.set_cons_succ]
            refine wpAnyH_ready (rs := [17]) (by kernel_rfl) (by simp) ?_
            refine AllReadyH.cons (i := 17) (o := ⟨(some 158), _, _, _, _, _⟩) rfl (fun K hK => ?_) AllReadyH.nil
            go_simp
            refine hsm.mono ?_
            rintro e w17 ⟨rfl, z, rfl⟩
            clear hsm
            refine hK.out _ _ (trivial) (fun hHeld => ?_)
            clear hK K
            try simp only [Act.put, List.setIfInBounds_toArray, List.set_cons_zero, List.set_cons_succ]
            refine wpAnyH_take (i := 18) (oi := ⟨(some 159), _, _, _, _, _⟩) (v := ?vq3_16) rfl (by kernel_rfl) (by kernel_rfl) (by kernel_rfl) (fun _ _ _ h => h) (Or.inl ⟨by rfl, ?yq3_16⟩) hHeld ?_
            case yq3_16 => (intro W0 hSw; go_simp; try with_reducible rfl)
            try simp only [Act.put, List.setIfInBounds_toArray, List.set_cons_zero, List.set_cons_succ]
            refine wpAnyH_take (i := 19) (oi := ⟨(some 10), _, _, _, _, _⟩) (v := ?vq3_17) rfl (by kernel_rfl) (by kernel_rfl) (by kernel_rfl) (fun _ _ _ h => h) (Or.inl ⟨by rfl, ?yq3_17⟩) hHeld ?_
            case yq3_17 => (intro W0 hSw; go_simp; try with_reducible rfl)
            try simp only [Act.put, List.setIfInBounds_toArray, List.set_cons_zero, List.set_cons_succ]
            refine wpAnyH_done (by kernel_rfl) ?_ _
            clear hHeld
            have hend := hb0.trans (((h23.drewN kM z).bel).mono hb0.size)
            clear h22 h23 hv
            go_wp2
            go_ret
            exact ⟨rfl, hend⟩
end Go.Proofs.YtaklbgikoeedbaaDoor
