/-
  FieldPowers: the law's Go text returns true, whatever the input. Conditions: none beyond the row's own.
-/
import Derived.Test.YtpnodegmegpooaaFdQ
import Derived.Test.YtpnodegmegpooaaNumP
namespace Go.Proofs.Ytpnodegmegpooaa
open Go.RowKit

set_option maxRecDepth 100000 in
set_option maxHeartbeats 4000000 in
theorem walk_FieldPowers (w : World) (a : List UInt8) (ha : a.length = 32) (n : Nat) (hn : n < 4294967296) (m : Nat) (hm : m < 4294967296) :
    Calls Try.prog 5 #[.agg (bv a).toArray, .int .u32 (n : Int), .int .u32 (m : Int)] w fun e w' => e = .returned (.bool true) ∧ Below w.heap.size w w' := by
  have hzw := zero_word
  obtain ⟨W, hW, hgA, hbW, hsW⟩ := one_new w (bv a).toArray 23
  have HW := Lib.hid hW
  have HA := Lib.hid ha
  have hs : w.heap.size < W.heap.size := by have := hsW.out; omega
  have hnz := bv_z32_ne
  have hsn := set_four_w n hn
  have hsm := set_four_w m hm
  have hss := set_five_w (n + m) (by omega)
  rw [Int.natCast_add] at hss
  obtain ⟨XN, dXN, HXN, lXN, _⟩ := const_word n (Nat.lt_trans hn (by decide))
  obtain ⟨XM, dXM, HXM, lXM, _⟩ := const_word m (Nat.lt_trans hm (by decide))
  obtain ⟨XS, dXS, HXS, lXS, _⟩ := const_word (n + m) (Nat.lt_trans (show n + m < 8589934592 by omega) (by decide))
  rw [← dXN] at hsn
  rw [← dXM] at hsm
  rw [← dXS] at hss
  clear dXN dXM dXS hW ha hsW
  go_enter Try.func5, Try.ntmps5
  go_upto_region 1 with fail
  rw [HW.out]
  go_wp2_with fail
  refine (awake7_any W).mono ?_
  rintro e V ⟨rfl, hbV'⟩
  have hbV := below_next hbW hbW.size hbV'
  have hgA := Lib.hid ((hbV'.block _ hs).trans hgA.out)
  have hs0 : w.heap.size < V.heap.size := (Array.getElem?_eq_some_iff.1 hgA.out).1
  go_upto_region 4 with ((with_reducible refine wpList_store_row rfl 23 (.tmp 7) (.tmp 24) rfl V.heap.size (bv XN).toArray rfl rfl 23 _ (heap_alloc_new _ _) (by rw [bv_size XN HXN.out]; kernel_rfl) (by rw [bv_size XN HXN.out]; kernel_rfl) (all_oneCell_toArray (bv_one _)) ?_); rw [World.setRow_alloc_new])
  obtain ⟨V1, hX⟩ : ∃ X, X = V.alloc (.cells (bv XN).toArray 23) := ⟨_, rfl⟩
  rw [← hX]
  have hbV1 : Below w.heap.size w V1 := by rw [hX]; exact hbV.alloc hbV.size _
  have gXN : Hid (V1.heap[V.heap.size]? = some (.cells (bv XN).toArray 23 (0, 0))) := by rw [hX]; exact heap_alloc_new _ _
  have hBV1 : Below V.heap.size V V1 := by rw [hX]; exact (Below.refl _ _).alloc (Nat.le_refl _) _
  obtain ⟨GXN, hG⟩ : ∃ G, G = V.heap.size := ⟨_, rfl⟩
  rw [← hG] at gXN ⊢
  have sXN : GXN < V1.heap.size := (Array.getElem?_eq_some_iff.1 gXN.out).1
  clear hG hX
  have hgA := Lib.hid ((hBV1.block _ hs0).trans hgA.out)
  have hs0 := Nat.lt_of_lt_of_le hs0 hBV1.size
  go_upto_region 5 with ((with_reducible refine wpList_store_row rfl 23 (.tmp 8) (.tmp 36) rfl V1.heap.size (bv XM).toArray rfl rfl 23 _ (heap_alloc_new _ _) (by rw [bv_size XM HXM.out]; kernel_rfl) (by rw [bv_size XM HXM.out]; kernel_rfl) (all_oneCell_toArray (bv_one _)) ?_); rw [World.setRow_alloc_new])
  obtain ⟨V2, hX⟩ : ∃ X, X = V1.alloc (.cells (bv XM).toArray 23) := ⟨_, rfl⟩
  rw [← hX]
  have hbV2 : Below w.heap.size w V2 := by rw [hX]; exact hbV1.alloc hbV1.size _
  have gXM : Hid (V2.heap[V1.heap.size]? = some (.cells (bv XM).toArray 23 (0, 0))) := by rw [hX]; exact heap_alloc_new _ _
  have hBV2 : Below V1.heap.size V1 V2 := by rw [hX]; exact (Below.refl _ _).alloc (Nat.le_refl _) _
  obtain ⟨GXM, hG⟩ : ∃ G, G = V1.heap.size := ⟨_, rfl⟩
  rw [← hG] at gXM ⊢
  have sXM : GXM < V2.heap.size := (Array.getElem?_eq_some_iff.1 gXM.out).1
  clear hG hX
  have hgA := Lib.hid ((hBV2.block _ hs0).trans hgA.out)
  have hs0 := Nat.lt_of_lt_of_le hs0 hBV2.size
  have gXN := Lib.hid ((hBV2.block _ sXN).trans gXN.out)
  have sXN := Nat.lt_of_lt_of_le sXN hBV2.size
  go_upto_region 7 with ((with_reducible refine wpList_store_row rfl 23 (.tmp 10) (.tmp 56) rfl V2.heap.size (bv XS).toArray rfl rfl 23 _ (heap_alloc_new _ _) (by rw [bv_size XS HXS.out]; kernel_rfl) (by rw [bv_size XS HXS.out]; kernel_rfl) (all_oneCell_toArray (bv_one _)) ?_); rw [World.setRow_alloc_new])
  obtain ⟨V3, hX⟩ : ∃ X, X = V2.alloc (.cells (bv XS).toArray 23) := ⟨_, rfl⟩
  rw [← hX]
  have hbV3 : Below w.heap.size w V3 := by rw [hX]; exact hbV2.alloc hbV2.size _
  have gXS : Hid (V3.heap[V2.heap.size]? = some (.cells (bv XS).toArray 23 (0, 0))) := by rw [hX]; exact heap_alloc_new _ _
  have hBV3 : Below V2.heap.size V2 V3 := by rw [hX]; exact (Below.refl _ _).alloc (Nat.le_refl _) _
  obtain ⟨GXS, hG⟩ : ∃ G, G = V2.heap.size := ⟨_, rfl⟩
  rw [← hG] at gXS ⊢
  have sXS : GXS < V3.heap.size := (Array.getElem?_eq_some_iff.1 gXS.out).1
  clear hG hX
  have hgA := Lib.hid ((hBV3.block _ hs0).trans hgA.out)
  have hs0 := Nat.lt_of_lt_of_le hs0 hBV3.size
  have gXN := Lib.hid ((hBV3.block _ sXN).trans gXN.out)
  have sXN := Nat.lt_of_lt_of_le sXN hBV3.size
  have gXM := Lib.hid ((hBV3.block _ sXM).trans gXM.out)
  have sXM := Nat.lt_of_lt_of_le sXM hBV3.size
  clear hsn hsm hss
  refine wp_region_held_drew (S := (fun W' => Below V3.heap.size V3 W')) (by kernel_rfl) ((Below.refl _ _).drew) (fun hHeld => ?_)
  refine wpAnyH_take (i := 0) (oi := ⟨(some 57), _, _, _, _, _⟩) (v := _) rfl (by kernel_rfl) (by kernel_rfl) (by kernel_rfl) (fun _ _ _ h => h) (yieldsIf_load_mid (by rfl) _ _ rfl (w.heap.size) 0 rfl (bv a) _ (fun W' hW' => range_row ((hW'.block _ hs0).trans hgA.out)) (Try.underlying23) (rfl) (by rw [bv_len, HA.out]; kernel_rfl)) hHeld ?_
  try simp only [Act.put, List.setIfInBounds_toArray, List.set_cons_zero, List.set_cons_succ]
  refine wpAnyH_take (i := 1) (oi := ⟨(some 58), _, _, _, _, _⟩) (v := _) rfl (by kernel_rfl) (by kernel_rfl) (by kernel_rfl) (fun _ _ _ h => h) (yieldsIf_load_mid (by rfl) _ _ rfl GXN 0 rfl (bv XN) _ (fun W' hW' => range_row ((hW'.block _ sXN).trans gXN.out)) (Try.underlying23) (rfl) (by rw [bv_len, HXN.out]; kernel_rfl)) hHeld ?_
  try simp only [Act.put, List.setIfInBounds_toArray, List.set_cons_zero, List.set_cons_succ]
  refine wpAnyH_take (i := 3) (oi := ⟨(some 60), _, _, _, _, _⟩) (v := _) rfl (by kernel_rfl) (by kernel_rfl) (by kernel_rfl) (fun _ _ _ h => h) (yieldsIf_load_mid (by rfl) _ _ rfl (w.heap.size) 0 rfl (bv a) _ (fun W' hW' => range_row ((hW'.block _ hs0).trans hgA.out)) (Try.underlying23) (rfl) (by rw [bv_len, HA.out]; kernel_rfl)) hHeld ?_
  try simp only [Act.put, List.setIfInBounds_toArray, List.set_cons_zero, List.set_cons_succ]
  refine wpAnyH_take (i := 4) (oi := ⟨(some 61), _, _, _, _, _⟩) (v := _) rfl (by kernel_rfl) (by kernel_rfl) (by kernel_rfl) (fun _ _ _ h => h) (yieldsIf_load_mid (by rfl) _ _ rfl GXM 0 rfl (bv XM) _ (fun W' hW' => range_row ((hW'.block _ sXM).trans gXM.out)) (Try.underlying23) (rfl) (by rw [bv_len, HXM.out]; kernel_rfl)) hHeld ?_
  try simp only [Act.put, List.setIfInBounds_toArray, List.set_cons_zero, List.set_cons_succ]
  refine wpAnyH_take (i := 7) (oi := ⟨(some 64), _, _, _, _, _⟩) (v := _) rfl (by kernel_rfl) (by kernel_rfl) (by kernel_rfl) (fun _ _ _ h => h) (yieldsIf_load_mid (by rfl) _ _ rfl (w.heap.size) 0 rfl (bv a) _ (fun W' hW' => range_row ((hW'.block _ hs0).trans hgA.out)) (Try.underlying23) (rfl) (by rw [bv_len, HA.out]; kernel_rfl)) hHeld ?_
  try simp only [Act.put, List.setIfInBounds_toArray, List.set_cons_zero, List.set_cons_succ]
  refine wpAnyH_take (i := 8) (oi := ⟨(some 65), _, _, _, _, _⟩) (v := _) rfl (by kernel_rfl) (by kernel_rfl) (by kernel_rfl) (fun _ _ _ h => h) (yieldsIf_load_mid (by rfl) _ _ rfl GXS 0 rfl (bv XS) _ (fun W' hW' => range_row ((hW'.block _ sXS).trans gXS.out)) (Try.underlying23) (rfl) (by rw [bv_len, HXS.out]; kernel_rfl)) hHeld ?_
  try simp only [Act.put, List.setIfInBounds_toArray, List.set_cons_zero, List.set_cons_succ]
  refine wpAnyH_ready (rs := [2]) (by kernel_rfl) (by simp) ?_
  refine AllReadyH.cons (i := 2) (o := ⟨(some 59), _, _, _, _, _⟩) rfl (fun K hK => ?_) AllReadyH.nil
  go_simp
  refine (pow_any _ a XN (HA.out) (HXN.out)).mono ?_
  rintro e w1 ⟨v59, rfl, e59, h59, hb1⟩
  refine hK.out _ _ (below_next hHeld hHeld.size hb1) (fun hHeld => ?_)
  clear hK K
  try simp only [Act.put, List.setIfInBounds_toArray, List.set_cons_zero, List.set_cons_succ]
  refine wpAnyH_ready (rs := [5]) (by kernel_rfl) (by simp) ?_
  refine AllReadyH.cons (i := 5) (o := ⟨(some 62), _, _, _, _, _⟩) rfl (fun K hK => ?_) AllReadyH.nil
  go_simp
  refine (pow_any _ a XM (HA.out) (HXM.out)).mono ?_
  rintro e w2 ⟨v62, rfl, e62, h62, hb2⟩
  refine hK.out _ _ (below_next hHeld hHeld.size hb2) (fun hHeld => ?_)
  clear hK K
  try simp only [Act.put, List.setIfInBounds_toArray, List.set_cons_zero, List.set_cons_succ]
  refine wpAnyH_ready (rs := [6]) (by kernel_rfl) (by simp) ?_
  refine AllReadyH.cons (i := 6) (o := ⟨(some 63), _, _, _, _, _⟩) rfl (fun K hK => ?_) AllReadyH.nil
  go_simp
  refine (mul_any _ v59 v62 (h59.out) (h62.out)).mono ?_
  rintro e w3 ⟨v63, rfl, e63, h63, hb3⟩
  refine hK.out _ _ (below_next hHeld hHeld.size hb3) (fun hHeld => ?_)
  clear hK K
  try simp only [Act.put, List.setIfInBounds_toArray, List.set_cons_zero, List.set_cons_succ]
  refine wpAnyH_ready (rs := [9]) (by kernel_rfl) (by simp) ?_
  refine AllReadyH.cons (i := 9) (o := ⟨(some 66), _, _, _, _, _⟩) rfl (fun K hK => ?_) AllReadyH.nil
  go_simp
  refine (pow_any _ a XS (HA.out) (HXS.out)).mono ?_
  rintro e w4 ⟨v66, rfl, e66, h66, hb4⟩
  refine hK.out _ _ (below_next hHeld hHeld.size hb4) (fun hHeld => ?_)
  clear hK K
  try simp only [Act.put, List.setIfInBounds_toArray, List.set_cons_zero, List.set_cons_succ]
  obtain rfl : v63 = v66 := by rw [e63.out, e66.out]; refine wo_of ?_; rw [e59.out, e62.out, ln_wo, ln_wo, lXN.out, lXM.out, lXS.out, Nat.pow_add, ← Nat.mul_mod]
  have q0 := eql_bytes_same (P := Try.prog) Try.underlying23 Try.underlying5 Try.sizeByte v63 (h63.out)
  refine wpAnyH_take (i := 10) (oi := ⟨(some 67), _, _, _, _, _⟩) (v := ?vq1_0) rfl (by kernel_rfl) (by kernel_rfl) (by kernel_rfl) (fun _ _ _ h => h) (Or.inl ⟨by rfl, ?yq1_0⟩) hHeld ?_
  case yq1_0 => (intro W0 hSw; go_simp; try with_reducible rfl)
  try simp only [Act.put, List.setIfInBounds_toArray, List.set_cons_zero, List.set_cons_succ]
  refine wpAnyH_take (i := 11) (oi := ⟨(some 68), _, _, _, _, _⟩) (v := ?vq1_1) rfl (by kernel_rfl) (by kernel_rfl) (by kernel_rfl) (fun _ _ _ h => h) (Or.inl ⟨by rfl, ?yq1_1⟩) hHeld ?_
  case yq1_1 => (intro W0 hSw; go_simp; try with_reducible rfl)
  try simp only [Act.put, List.setIfInBounds_toArray, List.set_cons_zero, List.set_cons_succ]
  refine wpAnyH_take (i := 12) (oi := ⟨(some 69), _, _, _, _, _⟩) (v := _) rfl (by kernel_rfl) (by kernel_rfl) (by kernel_rfl) (fun _ _ _ h => h) (yieldsIf_load_mid (by rfl) _ _ rfl (w.heap.size) 0 rfl (bv a) _ (fun W' hW' => range_row ((hW'.block _ hs0).trans hgA.out)) (Try.underlying23) (rfl) (by rw [bv_len, HA.out]; kernel_rfl)) hHeld ?_
  try simp only [Act.put, List.setIfInBounds_toArray, List.set_cons_zero, List.set_cons_succ]
  refine wpAnyH_take (i := 15) (oi := ⟨(some 72), _, _, _, _, _⟩) (v := _) rfl (by kernel_rfl) (by kernel_rfl) (by kernel_rfl) (fun _ _ _ h => h) (yieldsIf_load_mid (by rfl) _ _ rfl (w.heap.size) 0 rfl (bv a) _ (fun W' hW' => range_row ((hW'.block _ hs0).trans hgA.out)) (Try.underlying23) (rfl) (by rw [bv_len, HA.out]; kernel_rfl)) hHeld ?_
  try simp only [Act.put, List.setIfInBounds_toArray, List.set_cons_zero, List.set_cons_succ]
  refine wpAnyH_ready (rs := [13]) (by kernel_rfl) (by simp) ?_
  refine AllReadyH.cons (i := 13) (o := ⟨(some 70), _, _, _, _, _⟩) rfl (fun K hK => ?_) AllReadyH.nil
  go_simp
  refine (prime7_any _).mono ?_
  rintro e w5 ⟨PRM, rfl, ePRM, hPRM, hb5⟩
  refine hK.out _ _ (below_next hHeld hHeld.size hb5) (fun hHeld => ?_)
  clear hK K
  try simp only [Act.put, List.setIfInBounds_toArray, List.set_cons_zero, List.set_cons_succ]
  refine wpAnyH_ready (rs := [14]) (by kernel_rfl) (by simp) ?_
  refine AllReadyH.cons (i := 14) (o := ⟨(some 71), _, _, _, _, _⟩) rfl (fun K hK => ?_) AllReadyH.nil
  go_simp
  refine (pow_any _ a PRM (HA.out) (hPRM.out)).mono ?_
  rintro e w6 ⟨v71, rfl, e71, h71, hb6⟩
  refine hK.out _ _ (below_next hHeld hHeld.size hb6) (fun hHeld => ?_)
  clear hK K
  try simp only [Act.put, List.setIfInBounds_toArray, List.set_cons_zero, List.set_cons_succ]
  refine wpAnyH_ready (rs := [16]) (by kernel_rfl) (by simp) ?_
  refine AllReadyH.cons (i := 16) (o := ⟨(some 73), _, _, _, _, _⟩) rfl (fun K hK => ?_) AllReadyH.nil
  go_simp
  refine (norm_any _ a (HA.out)).mono ?_
  rintro e w7 ⟨v73, rfl, e73, h73, hb7⟩
  refine hK.out _ _ (below_next hHeld hHeld.size hb7) (fun hHeld => ?_)
  clear hK K
  try simp only [Act.put, List.setIfInBounds_toArray, List.set_cons_zero, List.set_cons_succ]
  obtain rfl : v71 = v73 := by rw [e71.out, e73.out]; refine wo_of ?_; rw [ePRM.out, wk, ln_le, Nat.mod_eq_of_lt (show FP < 256 ^ 32 by decide)]; exact fermat prFP (ln a)
  have q1 := eql_bytes_same (P := Try.prog) Try.underlying23 Try.underlying5 Try.sizeByte v71 (h71.out)
  refine wpAnyH_take (i := 17) (oi := ⟨(some 74), _, _, _, _, _⟩) (v := ?vq1_2) rfl (by kernel_rfl) (by kernel_rfl) (by kernel_rfl) (fun _ _ _ h => h) (Or.inl ⟨by rfl, ?yq1_2⟩) hHeld ?_
  case yq1_2 => (intro W0 hSw; go_simp; try with_reducible rfl)
  try simp only [Act.put, List.setIfInBounds_toArray, List.set_cons_zero, List.set_cons_succ]
  refine wpAnyH_take (i := 18) (oi := ⟨(some 75), _, _, _, _, _⟩) (v := ?vq1_3) rfl (by kernel_rfl) (by kernel_rfl) (by kernel_rfl) (fun _ _ _ h => h) (Or.inl ⟨by rfl, ?yq1_3⟩) hHeld ?_
  case yq1_3 => (intro W0 hSw; go_simp; try with_reducible rfl)
  try simp only [Act.put, List.setIfInBounds_toArray, List.set_cons_zero, List.set_cons_succ]
  refine wpAnyH_take (i := 19) (oi := ⟨(some 6), _, _, _, _, _⟩) (v := ?vq1_4) rfl (by kernel_rfl) (by kernel_rfl) (by kernel_rfl) (fun _ _ _ h => h) (Or.inl ⟨by rfl, ?yq1_4⟩) hHeld ?_
  case yq1_4 => (intro W0 hSw; go_simp; try with_reducible rfl)
  try simp only [Act.put, List.setIfInBounds_toArray, List.set_cons_zero, List.set_cons_succ]
  refine wpAnyH_done (by kernel_rfl) ?_ _
  go_wp2
  go_ret
  exact ⟨rfl, below_next hbV3 hbV3.size hHeld⟩
end Go.Proofs.Ytpnodegmegpooaa
