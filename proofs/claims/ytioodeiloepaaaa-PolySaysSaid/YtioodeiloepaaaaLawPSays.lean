/-
  PolySays: the law's Go text returns true, whatever the key, the parts and the bytes to clamp. Conditions: none beyond the row's own.
-/
import Derived.Test.YtioodeiloepaaaaRf5St2
import Derived.Test.YtioodeiloepaaaaEqB
namespace Go.Proofs.Ytioodeiloepaaaa
open Go.RowKit

set_option maxRecDepth 100000 in
set_option maxHeartbeats 4000000 in
theorem walk_PolySays (w : World) (key : List UInt8) (hk : key.length = 32) (A : Option Addr) (ps : List (List UInt8)) (n c : Nat) (hP : Prt w w.heap.size A ps) (hn : ps.length = n) (_ : n ≤ c) (r : List UInt8) (hr : r.length = 16) :
    Calls Try.prog 4 #[.agg (bv key).toArray, .slice A n c, .agg (bv r).toArray] w fun e w' => e = .returned (.bool true) ∧ Below w.heap.size w w' := by
  obtain ⟨W, hW, hgK, hgR, hbW, hsW⟩ := pair_new w (bv key).toArray (bv r).toArray 26 23
  have HW := Lib.hid hW
  have HK := Lib.hid hk
  have HR := Lib.hid hr
  have HN := Lib.hid hn
  have hs1 : w.heap.size + 1 < W.heap.size := by have := hsW.out; omega
  have hPW : Prt W w.heap.size A ps := hP.below hbW
  clear hW hk hr hn hP
  go_enter Try.func4, Try.ntmps4
  go_upto_region 1 with fail
  rw [HW.out]
  go_wp2_with fail
  refine (awake5_any W).mono ?_
  rintro e w1 ⟨rfl, hb1⟩
  have hgK1 : Hid (w1.heap[w.heap.size]? = some (.cells (bv key).toArray 26 (0, 0))) := (hb1.block _ (by omega)).trans hgK.out
  have hgR1 : Hid (w1.heap[w.heap.size + 1]? = some (.cells (bv r).toArray 23 (0, 0))) := (hb1.block _ hs1).trans hgR.out
  have hP1 : Prt w1 w1.heap.size A ps := ((hPW.up (by omega : w.heap.size ≤ W.heap.size)).below hb1).up hb1.size
  have hbw1 : Below w.heap.size w w1 := below_next hbW hbW.size hb1
  have hs2 : w.heap.size + 1 < w1.heap.size := by have := hb1.size; omega
  clear hgK hgR hPW hb1
  by_cases h6 : (6 : Int) < (n : Int)
  · go_wp2
    go_ret
    exact ⟨rfl, hbw1⟩
  have hn6 : n ≤ 6 := by omega
  go_wp2_with fail
  go_loopw [7] (fun i wr => ∃ k : Nat, k ≤ n ∧ i = .int .i64 (k : Int) ∧ Hid (∀ j p, ps[j]? = some p → j < k → p.length ≤ 150) ∧ w1 = wr) (fun i _ => n - (intOf i).toNat)
  case atStart => exact ⟨0, by omega, rfl, show ∀ _, _ from fun j p _ h => by omega, rfl⟩
  case round =>
    obtain ⟨k, hk, rfl, hall, rfl⟩ := hrel
    by_cases hlt : k < n
    · obtain ⟨b, o, Aj, nj, cj, p, hAeq, hbl, hcell, hget, hpl, hcj, hbt⟩ := hP1.at_ (k := k) (by rw [HN.out]; exact hlt)
      have hkn : (k : Int) < (n : Int) := by omega
      subst hAeq
      by_cases hbig : (150 : Int) < (nj : Int)
      · go_wp2
        go_ret
        exact ⟨rfl, hbw1⟩
      · have hall2 : Hid (∀ j p, ps[j]? = some p → j < k + 1 → p.length ≤ 150) := by
          show ∀ j p, _
          intro j q hj hjk
          by_cases hjk2 : j < k
          · exact hall.out j q hj hjk2
          · have : j = k := by omega
            subst this
            rw [hget.out] at hj
            injection hj with hj
            subst hj
            rw [hpl.out]; omega
        go_wp2
        exact ⟨⟨k + 1, by omega, by go_num, hall2, trivial⟩, by simp [intOf]; omega⟩
    · have hkn : ¬ (k : Int) < (n : Int) := by omega
      have hfl : ps.flatten.length ≤ 900 := by
        have h1 := flat_bound 150 ps (fun p hp => by
          obtain ⟨j, hj⟩ := List.getElem?_of_mem hp
          have hjl : j < ps.length := (List.getElem?_eq_some_iff.1 hj).1
          rw [HN.out] at hjl
          exact hall.out j p hj (by omega))
        rw [HN.out] at h1
        omega
      obtain ⟨F, hF⟩ : ∃ F, F = ps.flatten := ⟨_, rfl⟩
      obtain ⟨M, hM⟩ : ∃ M, M = F.length := ⟨_, rfl⟩
      have HF := vlt hF.symm
      have HM := Lib.hid hM.symm
      have hM9 : M ≤ 900 := by rw [hM, hF]; exact hfl
      obtain ⟨T, hT⟩ : ∃ T, T = tagOf key ps.flatten := ⟨_, rfl⟩
      have hTl : T.length = 16 := by rw [hT]; exact tagOf_len _ _
      have hT1 := vlt (show tagOf key ps.flatten = T from hT.symm)
      have hT2 := vlt (show tagOf key F = T by rw [hF]; exact hT.symm)
      obtain ⟨C, hC⟩ : ∃ C, C = clampOf r := ⟨_, rfl⟩
      have hCl : C.length = 16 := by rw [hC, clampOf_len]; exact HR.out
      have hC1 := vlt (show clampOf r = C from hC.symm)
      have hC2 := vlt (show clampOf C = C by rw [hC, clampOf_twice])
      have heq1 := eql_bytes_same Try.underlying23 Try.underlying5 Try.sizeByte T hTl
      have heq2 := eql_bytes_same Try.underlying23 Try.underlying5 Try.sizeByte C hCl
      have hrK := Lib.hid (range_byt (byt_row hgK1.out))
      have hrR := Lib.hid (range_byt (byt_row hgR1.out))
      have hl32 := Lib.hid (show (bv key).length = 32 by rw [bv_len]; exact HK.out)
      have hl16 := Lib.hid (show (bv r).length = 16 by rw [bv_len]; exact HR.out)
      have hPV : Prt w1.drew w1.drew.heap.size A ps := hP1
      have hBV : ∀ W', Below w1.heap.size w1 W' → Below w.heap.size w W' := fun W' h => below_next hbw1 hbw1.size h
      have HFL := Lib.hid hfl
      clear hF hM hT hTl hC hall hgK1 hgR1 hP1 hbw1 hfl
      generalize decide ((k : Int) < (n : Int)) = dk
      go_wp2_with fail
      refine wp_region_held_drew (S := (fun W' => Below w1.heap.size w1 W' ∧ W'.rangeAt w.heap.size 0 (bv key) ∧ W'.rangeAt (w.heap.size + 1) 0 (bv r))) (by kernel_rfl) (⟨(Below.refl _ _).drew, hrK.out, hrR.out⟩) (fun hHeld => ?_)
      refine wpAnyH_take (i := 0) (oi := ⟨(some 25), _, _, _, _, _⟩) (v := _) rfl (by kernel_rfl) (by kernel_rfl) (by kernel_rfl) (fun _ _ _ h => h) (yieldsIf_load_mid (by rfl) _ _ rfl w.heap.size 0 rfl (bv key) _ ((fun _ h => h.2.1)) (Try.underlying26) (rfl) (by rw [hl32.out]; kernel_rfl)) hHeld ?_
      try simp only [Act.put, List.setIfInBounds_toArray, List.set_cons_zero, List.set_cons_succ]
      refine wpAnyH_take (i := 1) (oi := ⟨(some 26), _, _, _, _, _⟩) (v := ?vq1_0) rfl (by kernel_rfl) (by kernel_rfl) (by kernel_rfl) (fun _ _ _ h => h) (Or.inl ⟨by rfl, ?yq1_0⟩) hHeld ?_
      case yq1_0 => (intro W0 hSw; go_simp; try with_reducible rfl)
      try simp only [Act.put, List.setIfInBounds_toArray, List.set_cons_zero, List.set_cons_succ]
      refine wpAnyH_take (i := 3) (oi := ⟨(some 28), _, _, _, _, _⟩) (v := _) rfl (by kernel_rfl) (by kernel_rfl) (by kernel_rfl) (fun _ _ _ h => h) (yieldsIf_load_mid (by rfl) _ _ rfl w.heap.size 0 rfl (bv key) _ ((fun _ h => h.2.1)) (Try.underlying26) (rfl) (by rw [hl32.out]; kernel_rfl)) hHeld ?_
      try simp only [Act.put, List.setIfInBounds_toArray, List.set_cons_zero, List.set_cons_succ]
      refine wpAnyH_take (i := 4) (oi := ⟨(some 29), _, _, _, _, _⟩) (v := ?vq1_1) rfl (by kernel_rfl) (by kernel_rfl) (by kernel_rfl) (fun _ _ _ h => h) (Or.inl ⟨by rfl, ?yq1_1⟩) hHeld ?_
      case yq1_1 => (intro W0 hSw; go_simp; try with_reducible rfl)
      try simp only [Act.put, List.setIfInBounds_toArray, List.set_cons_zero, List.set_cons_succ]
      refine wpAnyH_ready (rs := [2]) (by kernel_rfl) (by simp) ?_
      refine AllReadyH.cons (i := 2) (o := ⟨(some 27), _, _, _, _, _⟩) rfl (fun K hK => ?_) AllReadyH.nil
      refine step_tag (by rfl) (.tmp 25) (.tmp 26) rfl key A ps n c (by rfl) (by rfl) HK.out hPV HN.out (by have := HFL.out; omega) (by omega) ?_
      intro U1 u1
      rw [hT1.out]
      refine hK.out _ _ (⟨below_next hHeld.1 hHeld.1.size u1, range_below hHeld.2.1 (by have := hHeld.1.size; omega) u1, range_below hHeld.2.2 (by have := hHeld.1.size; omega) u1⟩) (fun hHeld => ?_)
      clear hK K
      try simp only [Act.put, List.setIfInBounds_toArray, List.set_cons_zero, List.set_cons_succ]
      refine wpAnyH_ready (rs := [5]) (by kernel_rfl) (by simp) ?_
      refine AllReadyH.cons (i := 5) (o := ⟨(some 30), _, _, _, _, _⟩) rfl (fun K hK => ?_) AllReadyH.nil
      refine step_join (by rfl) (.tmp 29) rfl A ps n c (by rfl) (hPV.next u1) HN.out F HF.out M HM.out (by omega) (by omega) ?_
      intro A5 c5 U2 f5 u2
      refine hK.out _ _ (⟨below_next hHeld.1 hHeld.1.size u2, range_below hHeld.2.1 (by have := hHeld.1.size; omega) u2, range_below hHeld.2.2 (by have := hHeld.1.size; omega) u2⟩) (fun hHeld => ?_)
      clear hK K
      try simp only [Act.put, List.setIfInBounds_toArray, List.set_cons_zero, List.set_cons_succ]
      refine wpAnyH_ready (rs := [6]) (by kernel_rfl) (by simp) ?_
      refine AllReadyH.cons (i := 6) (o := ⟨(some 31), _, _, _, _, _⟩) rfl (fun K hK => ?_) AllReadyH.nil
      refine step_rtag (by rfl) (.tmp 28) (.tmp 30) rfl key A5 F M c5 (by rfl) (by rfl) HK.out f5 HM.out (by omega) ?_
      intro U3 u3
      rw [hT2.out]
      refine hK.out _ _ (⟨below_next hHeld.1 hHeld.1.size u3, range_below hHeld.2.1 (by have := hHeld.1.size; omega) u3, range_below hHeld.2.2 (by have := hHeld.1.size; omega) u3⟩) (fun hHeld => ?_)
      clear hK K
      try simp only [Act.put, List.setIfInBounds_toArray, List.set_cons_zero, List.set_cons_succ]
      refine wpAnyH_take (i := 7) (oi := ⟨(some 32), _, _, _, _, _⟩) (v := ?vq1_2) rfl (by kernel_rfl) (by kernel_rfl) (by kernel_rfl) (fun _ _ _ h => h) (Or.inl ⟨by rfl, ?yq1_2⟩) hHeld ?_
      case yq1_2 => (intro W0 hSw; go_simp; try with_reducible rfl)
      try simp only [Act.put, List.setIfInBounds_toArray, List.set_cons_zero, List.set_cons_succ]
      refine wpAnyH_take (i := 8) (oi := ⟨(some 33), _, _, _, _, _⟩) (v := ?vq1_3) rfl (by kernel_rfl) (by kernel_rfl) (by kernel_rfl) (fun _ _ _ h => h) (Or.inl ⟨by rfl, ?yq1_3⟩) hHeld ?_
      case yq1_3 => (intro W0 hSw; go_simp; try with_reducible rfl)
      try simp only [Act.put, List.setIfInBounds_toArray, List.set_cons_zero, List.set_cons_succ]
      refine wpAnyH_take (i := 9) (oi := ⟨(some 34), _, _, _, _, _⟩) (v := _) rfl (by kernel_rfl) (by kernel_rfl) (by kernel_rfl) (fun _ _ _ h => h) (yieldsIf_load_mid (by rfl) _ _ rfl (w.heap.size + 1) 0 rfl (bv r) _ ((fun _ h => h.2.2)) (Try.underlying23) (rfl) (by rw [hl16.out]; kernel_rfl)) hHeld ?_
      try simp only [Act.put, List.setIfInBounds_toArray, List.set_cons_zero, List.set_cons_succ]
      refine wpAnyH_take (i := 11) (oi := ⟨(some 36), _, _, _, _, _⟩) (v := _) rfl (by kernel_rfl) (by kernel_rfl) (by kernel_rfl) (fun _ _ _ h => h) (yieldsIf_load_mid (by rfl) _ _ rfl (w.heap.size + 1) 0 rfl (bv r) _ ((fun _ h => h.2.2)) (Try.underlying23) (rfl) (by rw [hl16.out]; kernel_rfl)) hHeld ?_
      try simp only [Act.put, List.setIfInBounds_toArray, List.set_cons_zero, List.set_cons_succ]
      refine wpAnyH_ready (rs := [10]) (by kernel_rfl) (by simp) ?_
      refine AllReadyH.cons (i := 10) (o := ⟨(some 35), _, _, _, _, _⟩) rfl (fun K hK => ?_) AllReadyH.nil
      refine step_clamp (by rfl) (.tmp 34) rfl r (by rfl) HR.out ?_
      intro U4 u4
      rw [hC1.out]
      refine hK.out _ _ (⟨below_next hHeld.1 hHeld.1.size u4, range_below hHeld.2.1 (by have := hHeld.1.size; omega) u4, range_below hHeld.2.2 (by have := hHeld.1.size; omega) u4⟩) (fun hHeld => ?_)
      clear hK K
      try simp only [Act.put, List.setIfInBounds_toArray, List.set_cons_zero, List.set_cons_succ]
      refine wpAnyH_ready (rs := [12]) (by kernel_rfl) (by simp) ?_
      refine AllReadyH.cons (i := 12) (o := ⟨(some 37), _, _, _, _, _⟩) rfl (fun K hK => ?_) AllReadyH.nil
      refine step_rclamp (by rfl) (.tmp 36) rfl r (by rfl) HR.out ?_
      intro U5 u5
      rw [hC1.out]
      refine hK.out _ _ (⟨below_next hHeld.1 hHeld.1.size u5, range_below hHeld.2.1 (by have := hHeld.1.size; omega) u5, range_below hHeld.2.2 (by have := hHeld.1.size; omega) u5⟩) (fun hHeld => ?_)
      clear hK K
      try simp only [Act.put, List.setIfInBounds_toArray, List.set_cons_zero, List.set_cons_succ]
      refine wpAnyH_take (i := 13) (oi := ⟨(some 38), _, _, _, _, _⟩) (v := ?vq1_4) rfl (by kernel_rfl) (by kernel_rfl) (by kernel_rfl) (fun _ _ _ h => h) (Or.inl ⟨by rfl, ?yq1_4⟩) hHeld ?_
      case yq1_4 => (intro W0 hSw; go_simp; try with_reducible rfl)
      try simp only [Act.put, List.setIfInBounds_toArray, List.set_cons_zero, List.set_cons_succ]
      refine wpAnyH_take (i := 14) (oi := ⟨(some 39), _, _, _, _, _⟩) (v := ?vq1_5) rfl (by kernel_rfl) (by kernel_rfl) (by kernel_rfl) (fun _ _ _ h => h) (Or.inl ⟨by rfl, ?yq1_5⟩) hHeld ?_
      case yq1_5 => (intro W0 hSw; go_simp; try with_reducible rfl)
      try simp only [Act.put, List.setIfInBounds_toArray, List.set_cons_zero, List.set_cons_succ]
      refine wpAnyH_take (i := 15) (oi := ⟨(some 40), _, _, _, _, _⟩) (v := ?vq1_6) rfl (by kernel_rfl) (by kernel_rfl) (by kernel_rfl) (fun _ _ _ h => h) (Or.inl ⟨by rfl, ?yq1_6⟩) hHeld ?_
      case yq1_6 => (intro W0 hSw; go_simp; try with_reducible rfl)
      try simp only [Act.put, List.setIfInBounds_toArray, List.set_cons_zero, List.set_cons_succ]
      refine wpAnyH_take (i := 16) (oi := ⟨(some 41), _, _, _, _, _⟩) (v := _) rfl (by kernel_rfl) (by kernel_rfl) (by kernel_rfl) (fun _ _ _ h => h) (yieldsIf_load_mid (by rfl) _ _ rfl (w.heap.size + 1) 0 rfl (bv r) _ ((fun _ h => h.2.2)) (Try.underlying23) (rfl) (by rw [hl16.out]; kernel_rfl)) hHeld ?_
      try simp only [Act.put, List.setIfInBounds_toArray, List.set_cons_zero, List.set_cons_succ]
      refine wpAnyH_take (i := 19) (oi := ⟨(some 44), _, _, _, _, _⟩) (v := _) rfl (by kernel_rfl) (by kernel_rfl) (by kernel_rfl) (fun _ _ _ h => h) (yieldsIf_load_mid (by rfl) _ _ rfl (w.heap.size + 1) 0 rfl (bv r) _ ((fun _ h => h.2.2)) (Try.underlying23) (rfl) (by rw [hl16.out]; kernel_rfl)) hHeld ?_
      try simp only [Act.put, List.setIfInBounds_toArray, List.set_cons_zero, List.set_cons_succ]
      refine wpAnyH_ready (rs := [17]) (by kernel_rfl) (by simp) ?_
      refine AllReadyH.cons (i := 17) (o := ⟨(some 42), _, _, _, _, _⟩) rfl (fun K hK => ?_) AllReadyH.nil
      refine step_clamp (by rfl) (.tmp 41) rfl r (by rfl) HR.out ?_
      intro U6 u6
      rw [hC1.out]
      refine hK.out _ _ (⟨below_next hHeld.1 hHeld.1.size u6, range_below hHeld.2.1 (by have := hHeld.1.size; omega) u6, range_below hHeld.2.2 (by have := hHeld.1.size; omega) u6⟩) (fun hHeld => ?_)
      clear hK K
      try simp only [Act.put, List.setIfInBounds_toArray, List.set_cons_zero, List.set_cons_succ]
      refine wpAnyH_ready (rs := [18]) (by kernel_rfl) (by simp) ?_
      refine AllReadyH.cons (i := 18) (o := ⟨(some 43), _, _, _, _, _⟩) rfl (fun K hK => ?_) AllReadyH.nil
      refine step_clamp (by rfl) (.tmp 42) rfl C (by rfl) hCl ?_
      intro U7 u7
      rw [hC2.out]
      refine hK.out _ _ (⟨below_next hHeld.1 hHeld.1.size u7, range_below hHeld.2.1 (by have := hHeld.1.size; omega) u7, range_below hHeld.2.2 (by have := hHeld.1.size; omega) u7⟩) (fun hHeld => ?_)
      clear hK K
      try simp only [Act.put, List.setIfInBounds_toArray, List.set_cons_zero, List.set_cons_succ]
      refine wpAnyH_ready (rs := [20]) (by kernel_rfl) (by simp) ?_
      refine AllReadyH.cons (i := 20) (o := ⟨(some 45), _, _, _, _, _⟩) rfl (fun K hK => ?_) AllReadyH.nil
      refine step_clamp (by rfl) (.tmp 44) rfl r (by rfl) HR.out ?_
      intro U8 u8
      rw [hC1.out]
      refine hK.out _ _ (⟨below_next hHeld.1 hHeld.1.size u8, range_below hHeld.2.1 (by have := hHeld.1.size; omega) u8, range_below hHeld.2.2 (by have := hHeld.1.size; omega) u8⟩) (fun hHeld => ?_)
      clear hK K
      try simp only [Act.put, List.setIfInBounds_toArray, List.set_cons_zero, List.set_cons_succ]
      refine wpAnyH_take (i := 21) (oi := ⟨(some 46), _, _, _, _, _⟩) (v := ?vq1_7) rfl (by kernel_rfl) (by kernel_rfl) (by kernel_rfl) (fun _ _ _ h => h) (Or.inl ⟨by rfl, ?yq1_7⟩) hHeld ?_
      case yq1_7 => (intro W0 hSw; go_simp; try with_reducible rfl)
      try simp only [Act.put, List.setIfInBounds_toArray, List.set_cons_zero, List.set_cons_succ]
      refine wpAnyH_take (i := 22) (oi := ⟨(some 47), _, _, _, _, _⟩) (v := ?vq1_8) rfl (by kernel_rfl) (by kernel_rfl) (by kernel_rfl) (fun _ _ _ h => h) (Or.inl ⟨by rfl, ?yq1_8⟩) hHeld ?_
      case yq1_8 => (intro W0 hSw; go_simp; try with_reducible rfl)
      try simp only [Act.put, List.setIfInBounds_toArray, List.set_cons_zero, List.set_cons_succ]
      refine wpAnyH_take (i := 23) (oi := ⟨(some 6), _, _, _, _, _⟩) (v := ?vq1_9) rfl (by kernel_rfl) (by kernel_rfl) (by kernel_rfl) (fun _ _ _ h => h) (Or.inl ⟨by rfl, ?yq1_9⟩) hHeld ?_
      case yq1_9 => (intro W0 hSw; go_simp; try with_reducible rfl)
      try simp only [Act.put, List.setIfInBounds_toArray, List.set_cons_zero, List.set_cons_succ]
      refine wpAnyH_done (by kernel_rfl) ?_ _
      go_wp2_with fail
      go_ret
      exact ⟨rfl, hBV _ hHeld.1⟩
end Go.Proofs.Ytioodeiloepaaaa
