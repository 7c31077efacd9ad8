/-
  FieldInverts: the law's Go text returns true, whatever the input. Conditions: none beyond the row's own.
-/
import Derived.Test.YtpnodegmegpooaaFdY
import Derived.Test.YtpnodegmegpooaaNumP
namespace Go.Proofs.Ytpnodegmegpooaa
open Go.RowKit

set_option maxRecDepth 100000 in
set_option maxHeartbeats 4000000 in
theorem walk_FieldInverts (w : World) (a : List UInt8) (ha : a.length = 32) (b : List UInt8) (hb : b.length = 32) :
    Calls Try.prog 4 #[.agg (bv a).toArray, .agg (bv b).toArray] w fun e w' => e = .returned (.bool true) ∧ Below w.heap.size w w' := by
  have hzw := zero_word
  obtain ⟨ONE, dONE, HONE, lONE, wONE⟩ := const_word 1 (by decide)
  have hsONE := set_w1
  rw [← dONE] at hsONE
  have hnz := bv_z32_ne
  clear dONE
  obtain ⟨W, hW, hgA, hgB, hbW, hsW⟩ := pair_new w (bv a).toArray (bv b).toArray 23 23
  have HW := Lib.hid hW
  have HA := Lib.hid ha
  have HB := Lib.hid hb
  have HS := Lib.hid (bv_size a ha)
  have hs : w.heap.size + 1 < W.heap.size := by have := hsW.out; omega
  clear hW ha hb hsW
  go_enter Try.func4, Try.ntmps4
  go_upto_region 1 with fail
  rw [HW.out]
  go_wp2_with fail
  refine (awake7_any W).mono ?_
  rintro e V ⟨rfl, hbV⟩
  have hbw := below_next hbW hbW.size hbV
  have hgA1 := Lib.hid ((hbV.block _ (by omega)).trans hgA.out)
  have hgB1 := Lib.hid ((hbV.block _ (by omega)).trans hgB.out)
  have hs1 : w.heap.size + 1 < V.heap.size := by have := hbV.size; omega
  clear hgA hgB
  go_wp2_with (with_reducible refine wpList_load_row rfl 23 (.tmp 2) rfl w.heap.size rfl 23 (bv a).toArray (0, 0) _ hgA1.out Try.underlying23 rfl (by rw [HS.out]; kernel_rfl) ?_)
  refine (inv_any V a HA.out).mono ?_
  rintro e Y ⟨NI, rfl, eNI, HNI, hbY⟩
  have hbw1 := below_next hbw hbw.size hbY
  have hgA2 := Lib.hid ((hbY.block _ (by omega)).trans hgA1.out)
  have hgB2 := Lib.hid ((hbY.block _ (by omega)).trans hgB1.out)
  have hs2 : w.heap.size + 1 < Y.heap.size := by have := hbY.size; omega
  have HNS := Lib.hid (bv_size NI HNI.out)
  clear hgA1 hgB1
  go_upto_region 4 with ((with_reducible refine wpList_store_row rfl 23 (.tmp 5) (.tmp 9) rfl Y.heap.size (bv NI).toArray rfl rfl 23 _ (heap_alloc_new _ _) (by rw [HNS.out]; kernel_rfl) (by rw [HNS.out]; kernel_rfl) (all_oneCell_toArray (bv_one _)) ?_); rw [World.setRow_alloc_new])
  obtain ⟨X, hX⟩ : ∃ X, X = Y.alloc (.cells (bv NI).toArray 23) := ⟨_, rfl⟩
  rw [← hX]
  have hgA3 : Hid (X.heap[w.heap.size]? = some (.cells (bv a).toArray 23 (0, 0))) := by rw [hX]; exact (Below.heap_alloc _ _ _ (by omega)).trans hgA2.out
  have hgB3 : Hid (X.heap[w.heap.size + 1]? = some (.cells (bv b).toArray 23 (0, 0))) := by rw [hX]; exact (Below.heap_alloc _ _ _ (by omega)).trans hgB2.out
  have hgN3 : Hid (X.heap[Y.heap.size]? = some (.cells (bv NI).toArray 23 (0, 0))) := by rw [hX]; exact heap_alloc_new _ _
  have hbX : Below w.heap.size w X := by rw [hX]; exact hbw1.alloc hbw1.size _
  obtain ⟨G, hG⟩ : ∃ G, G = Y.heap.size := ⟨_, rfl⟩
  rw [← hG] at hgN3 ⊢
  clear hX hG hgA2 hgB2 hs1 hs2
  have hx0 : w.heap.size < X.heap.size := (Array.getElem?_eq_some_iff.1 hgA3.out).1
  have hx1 : w.heap.size + 1 < X.heap.size := (Array.getElem?_eq_some_iff.1 hgB3.out).1
  have hx2 : G < X.heap.size := (Array.getElem?_eq_some_iff.1 hgN3.out).1
  go_wp2_with (with_reducible refine wpList_load_row rfl 23 (.tmp 2) rfl w.heap.size rfl 23 (bv a).toArray (0, 0) _ hgA3.out Try.underlying23 rfl (by rw [HS.out]; kernel_rfl) ?_)
  refine (norm_any X a HA.out).mono ?_
  rintro e Z ⟨M, rfl, eM, HM, hbZ⟩
  have hbw2 := below_next hbX hbX.size hbZ
  have hgA := Lib.hid ((hbZ.block _ hx0).trans hgA3.out)
  have hgB := Lib.hid ((hbZ.block _ hx1).trans hgB3.out)
  have hgN := Lib.hid ((hbZ.block _ hx2).trans hgN3.out)
  have hs0 : w.heap.size < Z.heap.size := (Array.getElem?_eq_some_iff.1 hgA.out).1
  have hs1 : w.heap.size + 1 < Z.heap.size := (Array.getElem?_eq_some_iff.1 hgB.out).1
  have hs2 : G < Z.heap.size := (Array.getElem?_eq_some_iff.1 hgN.out).1
  clear hgA3 hgB3 hgN3 hx0 hx1 hx2
  have HMZ := vlt (show M = z32 ↔ ln a % FP = 0 by
    rw [eM.out, z32_wo]
    exact ⟨fun h => by have := wo_inj h; rwa [Nat.zero_mod] at this, fun h => wo_of (by rw [h, Nat.zero_mod])⟩)
  by_cases hz : M = z32
  · have hz0 := HMZ.out.1 hz
    obtain rfl : NI = z32 := by rw [eNI.out, z32_wo]; exact wo_of (by rw [inv_zero _ hz0, Nat.zero_mod])
    subst hz
    have hzz := eql_bytes_same (P := Try.prog) Try.underlying23 Try.underlying5 Try.sizeByte z32 z32_len
    clear hz0 HMZ
    go_wp2_with (with_reducible refine wpList_load_row rfl 23 (.tmp 5) rfl G rfl 23 (bv z32).toArray (0, 0) _ hgN.out Try.underlying23 rfl (by kernel_rfl) ?_)
    go_ret
    exact ⟨rfl, hbw2⟩
  · have hnz : ln a % FP ≠ 0 := fun h => hz (HMZ.out.2 h)
    have hzz : ∀ w0, (binOp .eql 23 (.agg (bv M).toArray) (.agg (bv z32).toArray)).run Try.prog w0 = .ok (.bool false) w0 := fun w0 => by
      rw [eql_bytes (P := Try.prog) Try.underlying23 Try.underlying5 Try.sizeByte M z32 HM.out z32_len w0, decide_eq_false hz]
    clear HMZ
    go_upto_region 6 with fail
    refine wp_region_held_drew (S := (fun W' => Below Z.heap.size Z W')) (by kernel_rfl) ((Below.refl _ _).drew) (fun hHeld => ?_)
    refine wpAnyH_take (i := 0) (oi := ⟨(some 17), _, _, _, _, _⟩) (v := _) rfl (by kernel_rfl) (by kernel_rfl) (by kernel_rfl) (fun _ _ _ h => h) (yieldsIf_load_mid (by rfl) _ _ rfl (w.heap.size) 0 rfl (bv a) _ (fun W' hW' => range_row ((hW'.block _ hs0).trans hgA.out)) (Try.underlying23) (rfl) (by rw [bv_len, HA.out]; kernel_rfl)) hHeld ?_
    try simp only [Act.put, List.setIfInBounds_toArray, List.set_cons_zero, List.set_cons_succ]
    refine wpAnyH_take (i := 1) (oi := ⟨(some 18), _, _, _, _, _⟩) (v := _) rfl (by kernel_rfl) (by kernel_rfl) (by kernel_rfl) (fun _ _ _ h => h) (yieldsIf_load_mid (by rfl) _ _ rfl G 0 rfl (bv NI) _ (fun W' hW' => range_row ((hW'.block _ hs2).trans hgN.out)) (Try.underlying23) (rfl) (by rw [bv_len, HNI.out]; kernel_rfl)) hHeld ?_
    try simp only [Act.put, List.setIfInBounds_toArray, List.set_cons_zero, List.set_cons_succ]
    refine wpAnyH_take (i := 3) (oi := ⟨(some 20), _, _, _, _, _⟩) (v := ?vq1_0) rfl (by kernel_rfl) (by kernel_rfl) (by kernel_rfl) (fun _ _ _ h => h) (Or.inl ⟨by rfl, ?yq1_0⟩) hHeld ?_
    case yq1_0 => (intro W0 hSw; go_simp; try with_reducible rfl)
    try simp only [Act.put, List.setIfInBounds_toArray, List.set_cons_zero, List.set_cons_succ]
    refine wpAnyH_ready (rs := [2]) (by kernel_rfl) (by simp) ?_
    refine AllReadyH.cons (i := 2) (o := ⟨(some 19), _, _, _, _, _⟩) rfl (fun K hK => ?_) AllReadyH.nil
    go_simp
    refine (mul_any _ a NI (HA.out) (HNI.out)).mono ?_
    rintro e w1 ⟨v19, rfl, e19, h19, hb1⟩
    refine hK.out _ _ (below_next hHeld hHeld.size hb1) (fun hHeld => ?_)
    clear hK K
    try simp only [Act.put, List.setIfInBounds_toArray, List.set_cons_zero, List.set_cons_succ]
    obtain rfl : ONE = v19 := Eq.symm (by rw [e19.out, wONE.out]; refine wo_of ?_; rw [eNI.out, ln_wo, Nat.mul_mod_mod]; exact inv_mul _ hnz)
    have q0 := eql_bytes_same (P := Try.prog) Try.underlying23 Try.underlying5 Try.sizeByte ONE (HONE.out)
    refine wpAnyH_take (i := 4) (oi := ⟨(some 21), _, _, _, _, _⟩) (v := ?vq1_1) rfl (by kernel_rfl) (by kernel_rfl) (by kernel_rfl) (fun _ _ _ h => h) (Or.inl ⟨by rfl, ?yq1_1⟩) hHeld ?_
    case yq1_1 => (intro W0 hSw; go_simp; try with_reducible rfl)
    try simp only [Act.put, List.setIfInBounds_toArray, List.set_cons_zero, List.set_cons_succ]
    refine wpAnyH_take (i := 5) (oi := ⟨(some 22), _, _, _, _, _⟩) (v := ?vq1_2) rfl (by kernel_rfl) (by kernel_rfl) (by kernel_rfl) (fun _ _ _ h => h) (Or.inl ⟨by rfl, ?yq1_2⟩) hHeld ?_
    case yq1_2 => (intro W0 hSw; go_simp; try with_reducible rfl)
    try simp only [Act.put, List.setIfInBounds_toArray, List.set_cons_zero, List.set_cons_succ]
    refine wpAnyH_take (i := 6) (oi := ⟨(some 23), _, _, _, _, _⟩) (v := _) rfl (by kernel_rfl) (by kernel_rfl) (by kernel_rfl) (fun _ _ _ h => h) (yieldsIf_load_mid (by rfl) _ _ rfl G 0 rfl (bv NI) _ (fun W' hW' => range_row ((hW'.block _ hs2).trans hgN.out)) (Try.underlying23) (rfl) (by rw [bv_len, HNI.out]; kernel_rfl)) hHeld ?_
    try simp only [Act.put, List.setIfInBounds_toArray, List.set_cons_zero, List.set_cons_succ]
    refine wpAnyH_take (i := 8) (oi := ⟨(some 25), _, _, _, _, _⟩) (v := _) rfl (by kernel_rfl) (by kernel_rfl) (by kernel_rfl) (fun _ _ _ h => h) (yieldsIf_load_mid (by rfl) _ _ rfl (w.heap.size) 0 rfl (bv a) _ (fun W' hW' => range_row ((hW'.block _ hs0).trans hgA.out)) (Try.underlying23) (rfl) (by rw [bv_len, HA.out]; kernel_rfl)) hHeld ?_
    try simp only [Act.put, List.setIfInBounds_toArray, List.set_cons_zero, List.set_cons_succ]
    refine wpAnyH_ready (rs := [7]) (by kernel_rfl) (by simp) ?_
    refine AllReadyH.cons (i := 7) (o := ⟨(some 24), _, _, _, _, _⟩) rfl (fun K hK => ?_) AllReadyH.nil
    go_simp
    refine (inv_any _ NI (HNI.out)).mono ?_
    rintro e w2 ⟨v24, rfl, e24, h24, hb2⟩
    refine hK.out _ _ (below_next hHeld hHeld.size hb2) (fun hHeld => ?_)
    clear hK K
    try simp only [Act.put, List.setIfInBounds_toArray, List.set_cons_zero, List.set_cons_succ]
    refine wpAnyH_ready (rs := [9]) (by kernel_rfl) (by simp) ?_
    refine AllReadyH.cons (i := 9) (o := ⟨(some 26), _, _, _, _, _⟩) rfl (fun K hK => ?_) AllReadyH.nil
    go_simp
    refine (norm_any _ a (HA.out)).mono ?_
    rintro e w3 ⟨v26, rfl, e26, h26, hb3⟩
    refine hK.out _ _ (below_next hHeld hHeld.size hb3) (fun hHeld => ?_)
    clear hK K
    try simp only [Act.put, List.setIfInBounds_toArray, List.set_cons_zero, List.set_cons_succ]
    obtain rfl : v24 = v26 := by rw [e24.out, e26.out]; refine wo_of ?_; rw [eNI.out, ln_wo, ← Nat.pow_mod]; exact inv_inv _ hnz
    have q1 := eql_bytes_same (P := Try.prog) Try.underlying23 Try.underlying5 Try.sizeByte v24 (h24.out)
    refine wpAnyH_take (i := 10) (oi := ⟨(some 27), _, _, _, _, _⟩) (v := ?vq1_3) rfl (by kernel_rfl) (by kernel_rfl) (by kernel_rfl) (fun _ _ _ h => h) (Or.inl ⟨by rfl, ?yq1_3⟩) hHeld ?_
    case yq1_3 => (intro W0 hSw; go_simp; try with_reducible rfl)
    try simp only [Act.put, List.setIfInBounds_toArray, List.set_cons_zero, List.set_cons_succ]
    refine wpAnyH_take (i := 11) (oi := ⟨(some 28), _, _, _, _, _⟩) (v := ?vq1_4) rfl (by kernel_rfl) (by kernel_rfl) (by kernel_rfl) (fun _ _ _ h => h) (Or.inl ⟨by rfl, ?yq1_4⟩) hHeld ?_
    case yq1_4 => (intro W0 hSw; go_simp; try with_reducible rfl)
    try simp only [Act.put, List.setIfInBounds_toArray, List.set_cons_zero, List.set_cons_succ]
    refine wpAnyH_take (i := 12) (oi := ⟨(some 29), _, _, _, _, _⟩) (v := ?vq1_5) rfl (by kernel_rfl) (by kernel_rfl) (by kernel_rfl) (fun _ _ _ h => h) (Or.inl ⟨by rfl, ?yq1_5⟩) hHeld ?_
    case yq1_5 => (intro W0 hSw; go_simp; try with_reducible rfl)
    try simp only [Act.put, List.setIfInBounds_toArray, List.set_cons_zero, List.set_cons_succ]
    refine wpAnyH_take (i := 13) (oi := ⟨(some 30), _, _, _, _, _⟩) (v := _) rfl (by kernel_rfl) (by kernel_rfl) (by kernel_rfl) (fun _ _ _ h => h) (yieldsIf_load_mid (by rfl) _ _ rfl (w.heap.size) 0 rfl (bv a) _ (fun W' hW' => range_row ((hW'.block _ hs0).trans hgA.out)) (Try.underlying23) (rfl) (by rw [bv_len, HA.out]; kernel_rfl)) hHeld ?_
    try simp only [Act.put, List.setIfInBounds_toArray, List.set_cons_zero, List.set_cons_succ]
    refine wpAnyH_take (i := 14) (oi := ⟨(some 31), _, _, _, _, _⟩) (v := _) rfl (by kernel_rfl) (by kernel_rfl) (by kernel_rfl) (fun _ _ _ h => h) (yieldsIf_load_mid (by rfl) _ _ rfl (w.heap.size + 1) 0 rfl (bv b) _ (fun W' hW' => range_row ((hW'.block _ hs1).trans hgB.out)) (Try.underlying23) (rfl) (by rw [bv_len, HB.out]; kernel_rfl)) hHeld ?_
    try simp only [Act.put, List.setIfInBounds_toArray, List.set_cons_zero, List.set_cons_succ]
    refine wpAnyH_take (i := 17) (oi := ⟨(some 34), _, _, _, _, _⟩) (v := ?vq1_6) rfl (by kernel_rfl) (by kernel_rfl) (by kernel_rfl) (fun _ _ _ h => h) (Or.inl ⟨by rfl, ?yq1_6⟩) hHeld ?_
    case yq1_6 => (intro W0 hSw; go_simp; try with_reducible rfl)
    try simp only [Act.put, List.setIfInBounds_toArray, List.set_cons_zero, List.set_cons_succ]
    refine wpAnyH_take (i := 19) (oi := ⟨(some 36), _, _, _, _, _⟩) (v := _) rfl (by kernel_rfl) (by kernel_rfl) (by kernel_rfl) (fun _ _ _ h => h) (yieldsIf_load_mid (by rfl) _ _ rfl G 0 rfl (bv NI) _ (fun W' hW' => range_row ((hW'.block _ hs2).trans hgN.out)) (Try.underlying23) (rfl) (by rw [bv_len, HNI.out]; kernel_rfl)) hHeld ?_
    try simp only [Act.put, List.setIfInBounds_toArray, List.set_cons_zero, List.set_cons_succ]
    refine wpAnyH_take (i := 20) (oi := ⟨(some 37), _, _, _, _, _⟩) (v := _) rfl (by kernel_rfl) (by kernel_rfl) (by kernel_rfl) (fun _ _ _ h => h) (yieldsIf_load_mid (by rfl) _ _ rfl (w.heap.size + 1) 0 rfl (bv b) _ (fun W' hW' => range_row ((hW'.block _ hs1).trans hgB.out)) (Try.underlying23) (rfl) (by rw [bv_len, HB.out]; kernel_rfl)) hHeld ?_
    try simp only [Act.put, List.setIfInBounds_toArray, List.set_cons_zero, List.set_cons_succ]
    refine wpAnyH_ready (rs := [15]) (by kernel_rfl) (by simp) ?_
    refine AllReadyH.cons (i := 15) (o := ⟨(some 32), _, _, _, _, _⟩) rfl (fun K hK => ?_) AllReadyH.nil
    go_simp
    refine (mul_any _ a b (HA.out) (HB.out)).mono ?_
    rintro e w4 ⟨v32, rfl, e32, h32, hb4⟩
    refine hK.out _ _ (below_next hHeld hHeld.size hb4) (fun hHeld => ?_)
    clear hK K
    try simp only [Act.put, List.setIfInBounds_toArray, List.set_cons_zero, List.set_cons_succ]
    refine wpAnyH_ready (rs := [16]) (by kernel_rfl) (by simp) ?_
    refine AllReadyH.cons (i := 16) (o := ⟨(some 33), _, _, _, _, _⟩) rfl (fun K hK => ?_) AllReadyH.nil
    go_simp
    refine (inv_any _ v32 (h32.out)).mono ?_
    rintro e w5 ⟨v33, rfl, e33, h33, hb5⟩
    refine hK.out _ _ (below_next hHeld hHeld.size hb5) (fun hHeld => ?_)
    clear hK K
    try simp only [Act.put, List.setIfInBounds_toArray, List.set_cons_zero, List.set_cons_succ]
    refine wpAnyH_ready (rs := [18]) (by kernel_rfl) (by simp) ?_
    refine AllReadyH.cons (i := 18) (o := ⟨(some 35), _, _, _, _, _⟩) rfl (fun K hK => ?_) AllReadyH.nil
    go_simp
    refine (mul_any _ v33 ONE (h33.out) (HONE.out)).mono ?_
    rintro e w6 ⟨v35, rfl, e35, h35, hb6⟩
    refine hK.out _ _ (below_next hHeld hHeld.size hb6) (fun hHeld => ?_)
    clear hK K
    try simp only [Act.put, List.setIfInBounds_toArray, List.set_cons_zero, List.set_cons_succ]
    refine wpAnyH_ready (rs := [21]) (by kernel_rfl) (by simp) ?_
    refine AllReadyH.cons (i := 21) (o := ⟨(some 38), _, _, _, _, _⟩) rfl (fun K hK => ?_) AllReadyH.nil
    go_simp
    refine (inv_any _ b (HB.out)).mono ?_
    rintro e w7 ⟨v38, rfl, e38, h38, hb7⟩
    refine hK.out _ _ (below_next hHeld hHeld.size hb7) (fun hHeld => ?_)
    clear hK K
    try simp only [Act.put, List.setIfInBounds_toArray, List.set_cons_zero, List.set_cons_succ]
    refine wpAnyH_ready (rs := [22]) (by kernel_rfl) (by simp) ?_
    refine AllReadyH.cons (i := 22) (o := ⟨(some 39), _, _, _, _, _⟩) rfl (fun K hK => ?_) AllReadyH.nil
    go_simp
    refine (mul_any _ NI v38 (HNI.out) (h38.out)).mono ?_
    rintro e w8 ⟨v39, rfl, e39, h39, hb8⟩
    refine hK.out _ _ (below_next hHeld hHeld.size hb8) (fun hHeld => ?_)
    clear hK K
    try simp only [Act.put, List.setIfInBounds_toArray, List.set_cons_zero, List.set_cons_succ]
    obtain rfl : v35 = v39 := by rw [e35.out, e39.out]; refine wo_of ?_; rw [eNI.out, e33.out, e38.out, ln_wo, ln_wo, ln_wo, lONE.out, Nat.mul_one, Nat.mod_mod, e32.out, ln_wo, ← Nat.pow_mod, Nat.mul_pow, ← Nat.mul_mod]
    have q2 := eql_bytes_same (P := Try.prog) Try.underlying23 Try.underlying5 Try.sizeByte v35 (h35.out)
    refine wpAnyH_take (i := 23) (oi := ⟨(some 40), _, _, _, _, _⟩) (v := ?vq1_7) rfl (by kernel_rfl) (by kernel_rfl) (by kernel_rfl) (fun _ _ _ h => h) (Or.inl ⟨by rfl, ?yq1_7⟩) hHeld ?_
    case yq1_7 => (intro W0 hSw; go_simp; try with_reducible rfl)
    try simp only [Act.put, List.setIfInBounds_toArray, List.set_cons_zero, List.set_cons_succ]
    refine wpAnyH_take (i := 24) (oi := ⟨(some 41), _, _, _, _, _⟩) (v := ?vq1_8) rfl (by kernel_rfl) (by kernel_rfl) (by kernel_rfl) (fun _ _ _ h => h) (Or.inl ⟨by rfl, ?yq1_8⟩) hHeld ?_
    case yq1_8 => (intro W0 hSw; go_simp; try with_reducible rfl)
    try simp only [Act.put, List.setIfInBounds_toArray, List.set_cons_zero, List.set_cons_succ]
    refine wpAnyH_take (i := 25) (oi := ⟨(some 4), _, _, _, _, _⟩) (v := ?vq1_9) rfl (by kernel_rfl) (by kernel_rfl) (by kernel_rfl) (fun _ _ _ h => h) (Or.inl ⟨by rfl, ?yq1_9⟩) hHeld ?_
    case yq1_9 => (intro W0 hSw; go_simp; try with_reducible rfl)
    try simp only [Act.put, List.setIfInBounds_toArray, List.set_cons_zero, List.set_cons_succ]
    refine wpAnyH_done (by kernel_rfl) ?_ _
    go_wp2
    go_ret
    exact ⟨rfl, below_next hbw2 hbw2.size hHeld⟩
end Go.Proofs.Ytpnodegmegpooaa
