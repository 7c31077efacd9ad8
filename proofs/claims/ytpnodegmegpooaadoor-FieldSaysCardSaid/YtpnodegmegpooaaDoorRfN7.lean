/-
  Contracts of the document's own Norm, Good, Add, Sub, Mul, Power, Inv: each answer is the word of its number modulo the prime. Conditions: none.
-/
import Derived.Test.YtpnodegmegpooaaDoorRfV7
import Derived.Test.YtpnodegmegpooaaDoorRfO7
namespace Go.Proofs.YtpnodegmegpooaaDoor
open Go.RowKit

set_option maxHeartbeats 1000000 in
theorem rnorm_any (w : World) (a : List UInt8) (ha : a.length = 32) :
    Calls Tryd.prog 18 #[.agg (bv a).toArray] w fun e w' => ∃ l, e = .returned (.agg (bv l).toArray) ∧ Vlt (l = wo (ln a)) ∧ Hid (l.length = 32) ∧ Below w.heap.size w w' := by
  have hzw := zero_word
  obtain ⟨W, hW, hgA, hgZ, hbW, hsW⟩ := pair_new w (bv a).toArray (bv z32).toArray 24 24
  have HW := Lib.hid hW
  have HA := Lib.hid ha
  have HS := Lib.hid (bv_size a ha)
  have hs : w.heap.size + 1 < W.heap.size := by have := hsW.out; omega
  clear hW ha hsW
  go_enter Tryd.func18, Tryd.ntmps18
  go_upto_region 1 with fail
  rw [HW.out]
  go_wp2_with (with_reducible refine wpList_load_row rfl 24 (.tmp 1) rfl w.heap.size rfl 24 (bv a).toArray (0, 0) _ hgA.out Tryd.underlying24 rfl (by rw [HS.out]; kernel_rfl) ?_)
  refine (rin_any W a HA.out).mono ?_
  rintro e w1 ⟨x, rfl, e1, HX, hb1⟩
  have hbw1 := below_next hbW hbW.size hb1
  have hz1 : Hid (w1.heap[w.heap.size + 1]? = some (.cells (bv z32).toArray 24 (0, 0))) := (hb1.block _ (by omega)).trans hgZ.out
  have hs1 : w.heap.size + 1 < w1.heap.size := (Array.getElem?_eq_some_iff.1 hz1.out).1
  have hx := vlt (fv_in e1.out)
  clear e1
  go_wp2_with fail
  refine (rout_any w1 x hx.out.1 (ln a) hx.out.2).mono ?_
  rintro e w2 ⟨l, rfl, e9, HL, hb2⟩
  have hbw2 := below_next hbw1 hbw1.size hb2
  have hz2 : Hid (w2.heap[w.heap.size + 1]? = some (.cells (bv z32).toArray 24 (0, 0))) := (hb2.block _ (by omega)).trans hz1.out
  have hs2 : w.heap.size + 1 < w2.heap.size := (Array.getElem?_eq_some_iff.1 hz2.out).1
  have HE := vlt (show l = wo (ln a) from e9.out)
  clear e9
  have HLS := Lib.hid (bv_size l HL.out)
  go_wp2_with (with_reducible refine wpList_store_row rfl 24 (.tmp 2) (.tmp 5) rfl (w.heap.size + 1) (bv l).toArray rfl rfl 24 _ hz2.out (by rw [HLS.out]; kernel_rfl) (by rw [HLS.out]; kernel_rfl) (all_oneCell_toArray (bv_one _)) ?_)
  refine bodyPost_ret (v := .agg (bv l).toArray) (results_cell_row Tryd.results18 _ _ (w.heap.size + 1) 24 _ (0, 0) _ rfl (setRow_heap _ _ _ _ _ _ hz2.out) Tryd.underlying24 rfl (by rw [HLS.out]; kernel_rfl)) rfl ⟨l, rfl, HE, HL, below_setRow hbw2 (by omega) _⟩

set_option maxHeartbeats 1000000 in
theorem rinvw_any (w : World) (a : List UInt8) (ha : a.length = 32) :
    Calls Tryd.prog 25 #[.agg (bv a).toArray] w fun e w' => ∃ l, e = .returned (.agg (bv l).toArray) ∧ Vlt (l = wo (ln a ^ FP2)) ∧ Hid (l.length = 32) ∧ Below w.heap.size w w' := by
  have hzw := zero_word
  obtain ⟨W, hW, hgA, hgZ, hbW, hsW⟩ := pair_new w (bv a).toArray (bv z32).toArray 24 24
  have HW := Lib.hid hW
  have HA := Lib.hid ha
  have HS := Lib.hid (bv_size a ha)
  have hs : w.heap.size + 1 < W.heap.size := by have := hsW.out; omega
  clear hW ha hsW
  go_enter Tryd.func25, Tryd.ntmps25
  go_upto_region 1 with fail
  rw [HW.out]
  go_wp2_with (with_reducible refine wpList_load_row rfl 24 (.tmp 1) rfl w.heap.size rfl 24 (bv a).toArray (0, 0) _ hgA.out Tryd.underlying24 rfl (by rw [HS.out]; kernel_rfl) ?_)
  refine (rin_any W a HA.out).mono ?_
  rintro e w1 ⟨x, rfl, e1, HX, hb1⟩
  have hbw1 := below_next hbW hbW.size hb1
  have hz1 : Hid (w1.heap[w.heap.size + 1]? = some (.cells (bv z32).toArray 24 (0, 0))) := (hb1.block _ (by omega)).trans hgZ.out
  have hs1 : w.heap.size + 1 < w1.heap.size := (Array.getElem?_eq_some_iff.1 hz1.out).1
  have hx := vlt (fv_in e1.out)
  clear e1
  go_wp2_with fail
  refine (rinv_any w1 x (ln a) hx.out).mono ?_
  rintro e w2 ⟨y, rfl, hy, HY, hb2⟩
  have hbw2 := below_next hbw1 hbw1.size hb2
  have hz2 : Hid (w2.heap[w.heap.size + 1]? = some (.cells (bv z32).toArray 24 (0, 0))) := (hb2.block _ (by omega)).trans hz1.out
  have hs2 : w.heap.size + 1 < w2.heap.size := (Array.getElem?_eq_some_iff.1 hz2.out).1
  go_wp2_with fail
  refine (rout_any w2 y hy.out.1 (ln a ^ FP2) hy.out.2).mono ?_
  rintro e w3 ⟨l, rfl, e9, HL, hb3⟩
  have hbw3 := below_next hbw2 hbw2.size hb3
  have hz3 : Hid (w3.heap[w.heap.size + 1]? = some (.cells (bv z32).toArray 24 (0, 0))) := (hb3.block _ (by omega)).trans hz2.out
  have hs3 : w.heap.size + 1 < w3.heap.size := (Array.getElem?_eq_some_iff.1 hz3.out).1
  have HE := vlt (show l = wo (ln a ^ FP2) from e9.out)
  clear e9
  have HLS := Lib.hid (bv_size l HL.out)
  go_wp2_with (with_reducible refine wpList_store_row rfl 24 (.tmp 2) (.tmp 6) rfl (w.heap.size + 1) (bv l).toArray rfl rfl 24 _ hz3.out (by rw [HLS.out]; kernel_rfl) (by rw [HLS.out]; kernel_rfl) (all_oneCell_toArray (bv_one _)) ?_)
  refine bodyPost_ret (v := .agg (bv l).toArray) (results_cell_row Tryd.results25 _ _ (w.heap.size + 1) 24 _ (0, 0) _ rfl (setRow_heap _ _ _ _ _ _ hz3.out) Tryd.underlying24 rfl (by rw [HLS.out]; kernel_rfl)) rfl ⟨l, rfl, HE, HL, below_setRow hbw3 (by omega) _⟩

set_option maxHeartbeats 1000000 in
theorem radd_any (w : World) (a b : List UInt8) (ha : a.length = 32) (hb : b.length = 32) :
    Calls Tryd.prog 21 #[.agg (bv a).toArray, .agg (bv b).toArray] w fun e w' => ∃ l, e = .returned (.agg (bv l).toArray) ∧ Vlt (l = wo (ln a + ln b)) ∧ Hid (l.length = 32) ∧ Below w.heap.size w w' := by
  have hzw := zero_word
  obtain ⟨W, hW, hgA, hgB, hgZ, hbW, hsW⟩ := three_new w (bv a).toArray (bv b).toArray (bv z32).toArray 24 24 24
  have HW := Lib.hid hW
  have HA := Lib.hid ha
  have HB := Lib.hid hb
  have HAS := Lib.hid (show (bv a).length = 32 by rw [bv_len, ha])
  have HBS := Lib.hid (show (bv b).length = 32 by rw [bv_len, hb])
  have hs : w.heap.size + 2 < W.heap.size := by have := hsW.out; omega
  clear hW ha hb hsW
  go_enter Tryd.func21, Tryd.ntmps21
  go_upto_region 1 with fail
  rw [HW.out]
  refine wp_region_held_drew (S := (fun W' => W'.heap[w.heap.size]? = some (.cells (bv a).toArray 24 (0, 0)) ∧ W'.heap[w.heap.size + 1]? = some (.cells (bv b).toArray 24 (0, 0)))) (by kernel_rfl) (⟨hgA.out, hgB.out⟩) (fun hHeld => ?_)
  refine wpAnyH_take (i := 0) (oi := ⟨(some 5), _, _, _, _, _⟩) (v := _) rfl (by kernel_rfl) (by kernel_rfl) (by kernel_rfl) (fun _ _ _ h => h) (yieldsIf_load_mid (by rfl) _ _ rfl w.heap.size 0 rfl (bv a) _ (fun W' hW' => range_row hW'.1) (Tryd.underlying24) (rfl) (by rw [HAS.out]; kernel_rfl)) hHeld ?_
  try simp only [Act.put, List.setIfInBounds_toArray, List.set_cons_zero, List.set_cons_succ]
  refine wpAnyH_take (i := 2) (oi := ⟨(some 7), _, _, _, _, _⟩) (v := _) rfl (by kernel_rfl) (by kernel_rfl) (by kernel_rfl) (fun _ _ _ h => h) (yieldsIf_load_mid (by rfl) _ _ rfl (w.heap.size + 1) 0 rfl (bv b) _ (fun W' hW' => range_row hW'.2) (Tryd.underlying24) (rfl) (by rw [HBS.out]; kernel_rfl)) hHeld ?_
  try simp only [Act.put, List.setIfInBounds_toArray, List.set_cons_zero, List.set_cons_succ]
  refine wpAnyH_ready (rs := [1]) (by kernel_rfl) (by simp) ?_
  refine AllReadyH.cons (i := 1) (o := ⟨(some 6), _, _, _, _, _⟩) rfl (fun K hK => ?_) AllReadyH.nil
  go_simp
  refine (rin_any _ a HA.out).mono ?_
  rintro e w1 ⟨x, rfl, e1, HX, hb1d⟩
  have hb1 : Below W.heap.size W w1 := below_undrew hb1d
  refine hK.out _ _ (⟨(hb1.block _ (by omega)).trans hHeld.1, (hb1.block _ (by omega)).trans hHeld.2⟩) (fun hHeld => ?_)
  clear hK K
  try simp only [Act.put, List.setIfInBounds_toArray, List.set_cons_zero, List.set_cons_succ]
  have hbw1 := below_next hbW hbW.size hb1
  have hz1 : Hid (w1.heap[w.heap.size + 1 + 1]? = some (.cells (bv z32).toArray 24 (0, 0))) := (hb1.block _ (by omega)).trans hgZ.out
  have hs1 : w.heap.size + 2 < w1.heap.size := (Array.getElem?_eq_some_iff.1 hz1.out).1
  have hx := vlt (fv_in e1.out)
  clear e1
  refine wpAnyH_ready (rs := [3]) (by kernel_rfl) (by simp) ?_
  refine AllReadyH.cons (i := 3) (o := ⟨(some 8), _, _, _, _, _⟩) rfl (fun K hK => ?_) AllReadyH.nil
  go_simp
  refine (rin_any w1 b HB.out).mono ?_
  rintro e w2 ⟨y, rfl, e2, HY, hb2⟩
  refine hK.out _ _ (⟨(hb2.block _ (by omega)).trans hHeld.1, (hb2.block _ (by omega)).trans hHeld.2⟩) (fun hHeld => ?_)
  clear hK K
  try simp only [Act.put, List.setIfInBounds_toArray, List.set_cons_zero, List.set_cons_succ]
  have hbw2 := below_next hbw1 hbw1.size hb2
  have hz2 : Hid (w2.heap[w.heap.size + 1 + 1]? = some (.cells (bv z32).toArray 24 (0, 0))) := (hb2.block _ (by omega)).trans hz1.out
  have hs2 : w.heap.size + 2 < w2.heap.size := (Array.getElem?_eq_some_iff.1 hz2.out).1
  have hy := vlt (fv_in e2.out)
  clear e2
  refine wpAnyH_ready (rs := [4]) (by kernel_rfl) (by simp) ?_
  refine AllReadyH.cons (i := 4) (o := ⟨(some 9), _, _, _, _, _⟩) rfl (fun K hK => ?_) AllReadyH.nil
  go_simp
  refine (rplus_any w2 x y hx.out.1 hy.out.1).mono ?_
  rintro e w3 ⟨z, rfl, e3, HZ, hb3⟩
  refine hK.out _ _ (⟨(hb3.block _ (by omega)).trans hHeld.1, (hb3.block _ (by omega)).trans hHeld.2⟩) (fun hHeld => ?_)
  clear hK K
  try simp only [Act.put, List.setIfInBounds_toArray, List.set_cons_zero, List.set_cons_succ]
  have hbw3 := below_next hbw2 hbw2.size hb3
  have hz3 : Hid (w3.heap[w.heap.size + 1 + 1]? = some (.cells (bv z32).toArray 24 (0, 0))) := (hb3.block _ (by omega)).trans hz2.out
  have hs3 : w.heap.size + 2 < w3.heap.size := (Array.getElem?_eq_some_iff.1 hz3.out).1
  have hz := vlt (fv_add hx.out hy.out e3.out)
  clear e3
  refine wpAnyH_ready (rs := [5]) (by kernel_rfl) (by simp) ?_
  refine AllReadyH.cons (i := 5) (o := ⟨(some 10), _, _, _, _, _⟩) rfl (fun K hK => ?_) AllReadyH.nil
  go_simp
  refine (rout_any w3 z hz.out.1 (ln a + ln b) hz.out.2).mono ?_
  rintro e w4 ⟨l, rfl, e9, HL, hb4⟩
  refine hK.out _ _ (⟨(hb4.block _ (by omega)).trans hHeld.1, (hb4.block _ (by omega)).trans hHeld.2⟩) (fun hHeld => ?_)
  clear hK K
  try simp only [Act.put, List.setIfInBounds_toArray, List.set_cons_zero, List.set_cons_succ]
  have hbw4 := below_next hbw3 hbw3.size hb4
  have hz4 : Hid (w4.heap[w.heap.size + 1 + 1]? = some (.cells (bv z32).toArray 24 (0, 0))) := (hb4.block _ (by omega)).trans hz3.out
  have hs4 : w.heap.size + 2 < w4.heap.size := (Array.getElem?_eq_some_iff.1 hz4.out).1
  have HE := vlt (show l = wo (ln a + ln b) from e9.out)
  clear e9
  have HLS := Lib.hid (bv_size l HL.out)
  refine wpAnyH_ready (rs := [6]) (by kernel_rfl) (by simp) ?_
  refine AllReadyH.cons (i := 6) (o := ⟨none, _, _, _, _, _⟩) rfl (fun K hK => ?_) AllReadyH.nil
  refine step_store_row rfl 24 (.tmp 4) (.tmp 10) rfl (w.heap.size + 1 + 1) (bv l).toArray rfl rfl 24 _ hz4.out (by rw [HLS.out]; kernel_rfl) (by rw [HLS.out]; kernel_rfl) (all_oneCell_toArray (bv_one _)) ?_
  refine hK.out _ _ (⟨(setRow_other _ _ _ _ (by omega)).trans hHeld.1, (setRow_other _ _ _ _ (by omega)).trans hHeld.2⟩) (fun hHeld => ?_)
  clear hK K
  try simp only [Act.put]
  refine wpAnyH_done (by kernel_rfl) ?_ _
  go_wp2_with fail
  refine bodyPost_ret (v := .agg (bv l).toArray) (results_cell_row Tryd.results21 _ _ (w.heap.size + 1 + 1) 24 _ (0, 0) _ rfl (setRow_heap _ _ _ _ _ _ hz4.out) Tryd.underlying24 rfl (by rw [HLS.out]; kernel_rfl)) rfl ⟨l, rfl, HE, HL, below_setRow hbw4 (by omega) _⟩

set_option maxHeartbeats 1000000 in
theorem rsub_any (w : World) (a b : List UInt8) (ha : a.length = 32) (hb : b.length = 32) :
    Calls Tryd.prog 22 #[.agg (bv a).toArray, .agg (bv b).toArray] w fun e w' => ∃ l, e = .returned (.agg (bv l).toArray) ∧ Vlt (l = wo (subF (ln a) (ln b))) ∧ Hid (l.length = 32) ∧ Below w.heap.size w w' := by
  have hzw := zero_word
  obtain ⟨W, hW, hgA, hgB, hgZ, hbW, hsW⟩ := three_new w (bv a).toArray (bv b).toArray (bv z32).toArray 24 24 24
  have HW := Lib.hid hW
  have HA := Lib.hid ha
  have HB := Lib.hid hb
  have HAS := Lib.hid (show (bv a).length = 32 by rw [bv_len, ha])
  have HBS := Lib.hid (show (bv b).length = 32 by rw [bv_len, hb])
  have hs : w.heap.size + 2 < W.heap.size := by have := hsW.out; omega
  clear hW ha hb hsW
  go_enter Tryd.func22, Tryd.ntmps22
  go_upto_region 1 with fail
  rw [HW.out]
  refine wp_region_held_drew (S := (fun W' => W'.heap[w.heap.size]? = some (.cells (bv a).toArray 24 (0, 0)) ∧ W'.heap[w.heap.size + 1]? = some (.cells (bv b).toArray 24 (0, 0)))) (by kernel_rfl) (⟨hgA.out, hgB.out⟩) (fun hHeld => ?_)
  refine wpAnyH_take (i := 0) (oi := ⟨(some 5), _, _, _, _, _⟩) (v := _) rfl (by kernel_rfl) (by kernel_rfl) (by kernel_rfl) (fun _ _ _ h => h) (yieldsIf_load_mid (by rfl) _ _ rfl w.heap.size 0 rfl (bv a) _ (fun W' hW' => range_row hW'.1) (Tryd.underlying24) (rfl) (by rw [HAS.out]; kernel_rfl)) hHeld ?_
  try simp only [Act.put, List.setIfInBounds_toArray, List.set_cons_zero, List.set_cons_succ]
  refine wpAnyH_take (i := 2) (oi := ⟨(some 7), _, _, _, _, _⟩) (v := _) rfl (by kernel_rfl) (by kernel_rfl) (by kernel_rfl) (fun _ _ _ h => h) (yieldsIf_load_mid (by rfl) _ _ rfl (w.heap.size + 1) 0 rfl (bv b) _ (fun W' hW' => range_row hW'.2) (Tryd.underlying24) (rfl) (by rw [HBS.out]; kernel_rfl)) hHeld ?_
  try simp only [Act.put, List.setIfInBounds_toArray, List.set_cons_zero, List.set_cons_succ]
  refine wpAnyH_ready (rs := [1]) (by kernel_rfl) (by simp) ?_
  refine AllReadyH.cons (i := 1) (o := ⟨(some 6), _, _, _, _, _⟩) rfl (fun K hK => ?_) AllReadyH.nil
  go_simp
  refine (rin_any _ a HA.out).mono ?_
  rintro e w1 ⟨x, rfl, e1, HX, hb1d⟩
  have hb1 : Below W.heap.size W w1 := below_undrew hb1d
  refine hK.out _ _ (⟨(hb1.block _ (by omega)).trans hHeld.1, (hb1.block _ (by omega)).trans hHeld.2⟩) (fun hHeld => ?_)
  clear hK K
  try simp only [Act.put, List.setIfInBounds_toArray, List.set_cons_zero, List.set_cons_succ]
  have hbw1 := below_next hbW hbW.size hb1
  have hz1 : Hid (w1.heap[w.heap.size + 1 + 1]? = some (.cells (bv z32).toArray 24 (0, 0))) := (hb1.block _ (by omega)).trans hgZ.out
  have hs1 : w.heap.size + 2 < w1.heap.size := (Array.getElem?_eq_some_iff.1 hz1.out).1
  have hx := vlt (fv_in e1.out)
  clear e1
  refine wpAnyH_ready (rs := [3]) (by kernel_rfl) (by simp) ?_
  refine AllReadyH.cons (i := 3) (o := ⟨(some 8), _, _, _, _, _⟩) rfl (fun K hK => ?_) AllReadyH.nil
  go_simp
  refine (rin_any w1 b HB.out).mono ?_
  rintro e w2 ⟨y, rfl, e2, HY, hb2⟩
  refine hK.out _ _ (⟨(hb2.block _ (by omega)).trans hHeld.1, (hb2.block _ (by omega)).trans hHeld.2⟩) (fun hHeld => ?_)
  clear hK K
  try simp only [Act.put, List.setIfInBounds_toArray, List.set_cons_zero, List.set_cons_succ]
  have hbw2 := below_next hbw1 hbw1.size hb2
  have hz2 : Hid (w2.heap[w.heap.size + 1 + 1]? = some (.cells (bv z32).toArray 24 (0, 0))) := (hb2.block _ (by omega)).trans hz1.out
  have hs2 : w.heap.size + 2 < w2.heap.size := (Array.getElem?_eq_some_iff.1 hz2.out).1
  have hy := vlt (fv_in e2.out)
  clear e2
  refine wpAnyH_ready (rs := [4]) (by kernel_rfl) (by simp) ?_
  refine AllReadyH.cons (i := 4) (o := ⟨(some 9), _, _, _, _, _⟩) rfl (fun K hK => ?_) AllReadyH.nil
  go_simp
  refine (rminus_any w2 x y hx.out.1 hy.out.1).mono ?_
  rintro e w3 ⟨z, rfl, e3, HZ, hb3⟩
  refine hK.out _ _ (⟨(hb3.block _ (by omega)).trans hHeld.1, (hb3.block _ (by omega)).trans hHeld.2⟩) (fun hHeld => ?_)
  clear hK K
  try simp only [Act.put, List.setIfInBounds_toArray, List.set_cons_zero, List.set_cons_succ]
  have hbw3 := below_next hbw2 hbw2.size hb3
  have hz3 : Hid (w3.heap[w.heap.size + 1 + 1]? = some (.cells (bv z32).toArray 24 (0, 0))) := (hb3.block _ (by omega)).trans hz2.out
  have hs3 : w.heap.size + 2 < w3.heap.size := (Array.getElem?_eq_some_iff.1 hz3.out).1
  have hz := vlt (fv_sub hx.out hy.out e3.out)
  clear e3
  refine wpAnyH_ready (rs := [5]) (by kernel_rfl) (by simp) ?_
  refine AllReadyH.cons (i := 5) (o := ⟨(some 10), _, _, _, _, _⟩) rfl (fun K hK => ?_) AllReadyH.nil
  go_simp
  refine (rout_any w3 z hz.out.1 (subF (ln a) (ln b)) hz.out.2).mono ?_
  rintro e w4 ⟨l, rfl, e9, HL, hb4⟩
  refine hK.out _ _ (⟨(hb4.block _ (by omega)).trans hHeld.1, (hb4.block _ (by omega)).trans hHeld.2⟩) (fun hHeld => ?_)
  clear hK K
  try simp only [Act.put, List.setIfInBounds_toArray, List.set_cons_zero, List.set_cons_succ]
  have hbw4 := below_next hbw3 hbw3.size hb4
  have hz4 : Hid (w4.heap[w.heap.size + 1 + 1]? = some (.cells (bv z32).toArray 24 (0, 0))) := (hb4.block _ (by omega)).trans hz3.out
  have hs4 : w.heap.size + 2 < w4.heap.size := (Array.getElem?_eq_some_iff.1 hz4.out).1
  have HE := vlt (show l = wo (subF (ln a) (ln b)) from e9.out)
  clear e9
  have HLS := Lib.hid (bv_size l HL.out)
  refine wpAnyH_ready (rs := [6]) (by kernel_rfl) (by simp) ?_
  refine AllReadyH.cons (i := 6) (o := ⟨none, _, _, _, _, _⟩) rfl (fun K hK => ?_) AllReadyH.nil
  refine step_store_row rfl 24 (.tmp 4) (.tmp 10) rfl (w.heap.size + 1 + 1) (bv l).toArray rfl rfl 24 _ hz4.out (by rw [HLS.out]; kernel_rfl) (by rw [HLS.out]; kernel_rfl) (all_oneCell_toArray (bv_one _)) ?_
  refine hK.out _ _ (⟨(setRow_other _ _ _ _ (by omega)).trans hHeld.1, (setRow_other _ _ _ _ (by omega)).trans hHeld.2⟩) (fun hHeld => ?_)
  clear hK K
  try simp only [Act.put]
  refine wpAnyH_done (by kernel_rfl) ?_ _
  go_wp2_with fail
  refine bodyPost_ret (v := .agg (bv l).toArray) (results_cell_row Tryd.results22 _ _ (w.heap.size + 1 + 1) 24 _ (0, 0) _ rfl (setRow_heap _ _ _ _ _ _ hz4.out) Tryd.underlying24 rfl (by rw [HLS.out]; kernel_rfl)) rfl ⟨l, rfl, HE, HL, below_setRow hbw4 (by omega) _⟩

set_option maxHeartbeats 1000000 in
theorem rmul_any (w : World) (a b : List UInt8) (ha : a.length = 32) (hb : b.length = 32) :
    Calls Tryd.prog 23 #[.agg (bv a).toArray, .agg (bv b).toArray] w fun e w' => ∃ l, e = .returned (.agg (bv l).toArray) ∧ Vlt (l = wo (ln a * ln b)) ∧ Hid (l.length = 32) ∧ Below w.heap.size w w' := by
  have hzw := zero_word
  obtain ⟨W, hW, hgA, hgB, hgZ, hbW, hsW⟩ := three_new w (bv a).toArray (bv b).toArray (bv z32).toArray 24 24 24
  have HW := Lib.hid hW
  have HA := Lib.hid ha
  have HB := Lib.hid hb
  have HAS := Lib.hid (show (bv a).length = 32 by rw [bv_len, ha])
  have HBS := Lib.hid (show (bv b).length = 32 by rw [bv_len, hb])
  have hs : w.heap.size + 2 < W.heap.size := by have := hsW.out; omega
  clear hW ha hb hsW
  go_enter Tryd.func23, Tryd.ntmps23
  go_upto_region 1 with fail
  rw [HW.out]
  refine wp_region_held_drew (S := (fun W' => W'.heap[w.heap.size]? = some (.cells (bv a).toArray 24 (0, 0)) ∧ W'.heap[w.heap.size + 1]? = some (.cells (bv b).toArray 24 (0, 0)))) (by kernel_rfl) (⟨hgA.out, hgB.out⟩) (fun hHeld => ?_)
  refine wpAnyH_take (i := 0) (oi := ⟨(some 5), _, _, _, _, _⟩) (v := _) rfl (by kernel_rfl) (by kernel_rfl) (by kernel_rfl) (fun _ _ _ h => h) (yieldsIf_load_mid (by rfl) _ _ rfl w.heap.size 0 rfl (bv a) _ (fun W' hW' => range_row hW'.1) (Tryd.underlying24) (rfl) (by rw [HAS.out]; kernel_rfl)) hHeld ?_
  try simp only [Act.put, List.setIfInBounds_toArray, List.set_cons_zero, List.set_cons_succ]
  refine wpAnyH_take (i := 2) (oi := ⟨(some 7), _, _, _, _, _⟩) (v := _) rfl (by kernel_rfl) (by kernel_rfl) (by kernel_rfl) (fun _ _ _ h => h) (yieldsIf_load_mid (by rfl) _ _ rfl (w.heap.size + 1) 0 rfl (bv b) _ (fun W' hW' => range_row hW'.2) (Tryd.underlying24) (rfl) (by rw [HBS.out]; kernel_rfl)) hHeld ?_
  try simp only [Act.put, List.setIfInBounds_toArray, List.set_cons_zero, List.set_cons_succ]
  refine wpAnyH_ready (rs := [1]) (by kernel_rfl) (by simp) ?_
  refine AllReadyH.cons (i := 1) (o := ⟨(some 6), _, _, _, _, _⟩) rfl (fun K hK => ?_) AllReadyH.nil
  go_simp
  refine (rin_any _ a HA.out).mono ?_
  rintro e w1 ⟨x, rfl, e1, HX, hb1d⟩
  have hb1 : Below W.heap.size W w1 := below_undrew hb1d
  refine hK.out _ _ (⟨(hb1.block _ (by omega)).trans hHeld.1, (hb1.block _ (by omega)).trans hHeld.2⟩) (fun hHeld => ?_)
  clear hK K
  try simp only [Act.put, List.setIfInBounds_toArray, List.set_cons_zero, List.set_cons_succ]
  have hbw1 := below_next hbW hbW.size hb1
  have hz1 : Hid (w1.heap[w.heap.size + 1 + 1]? = some (.cells (bv z32).toArray 24 (0, 0))) := (hb1.block _ (by omega)).trans hgZ.out
  have hs1 : w.heap.size + 2 < w1.heap.size := (Array.getElem?_eq_some_iff.1 hz1.out).1
  have hx := vlt (fv_in e1.out)
  clear e1
  refine wpAnyH_ready (rs := [3]) (by kernel_rfl) (by simp) ?_
  refine AllReadyH.cons (i := 3) (o := ⟨(some 8), _, _, _, _, _⟩) rfl (fun K hK => ?_) AllReadyH.nil
  go_simp
  refine (rin_any w1 b HB.out).mono ?_
  rintro e w2 ⟨y, rfl, e2, HY, hb2⟩
  refine hK.out _ _ (⟨(hb2.block _ (by omega)).trans hHeld.1, (hb2.block _ (by omega)).trans hHeld.2⟩) (fun hHeld => ?_)
  clear hK K
  try simp only [Act.put, List.setIfInBounds_toArray, List.set_cons_zero, List.set_cons_succ]
  have hbw2 := below_next hbw1 hbw1.size hb2
  have hz2 : Hid (w2.heap[w.heap.size + 1 + 1]? = some (.cells (bv z32).toArray 24 (0, 0))) := (hb2.block _ (by omega)).trans hz1.out
  have hs2 : w.heap.size + 2 < w2.heap.size := (Array.getElem?_eq_some_iff.1 hz2.out).1
  have hy := vlt (fv_in e2.out)
  clear e2
  refine wpAnyH_ready (rs := [4]) (by kernel_rfl) (by simp) ?_
  refine AllReadyH.cons (i := 4) (o := ⟨(some 9), _, _, _, _, _⟩) rfl (fun K hK => ?_) AllReadyH.nil
  go_simp
  refine (rtimes_any w2 x y hx.out.1 hy.out.1).mono ?_
  rintro e w3 ⟨z, rfl, e3, HZ, hb3⟩
  refine hK.out _ _ (⟨(hb3.block _ (by omega)).trans hHeld.1, (hb3.block _ (by omega)).trans hHeld.2⟩) (fun hHeld => ?_)
  clear hK K
  try simp only [Act.put, List.setIfInBounds_toArray, List.set_cons_zero, List.set_cons_succ]
  have hbw3 := below_next hbw2 hbw2.size hb3
  have hz3 : Hid (w3.heap[w.heap.size + 1 + 1]? = some (.cells (bv z32).toArray 24 (0, 0))) := (hb3.block _ (by omega)).trans hz2.out
  have hs3 : w.heap.size + 2 < w3.heap.size := (Array.getElem?_eq_some_iff.1 hz3.out).1
  have hz := vlt (fv_mul hx.out hy.out e3.out)
  clear e3
  refine wpAnyH_ready (rs := [5]) (by kernel_rfl) (by simp) ?_
  refine AllReadyH.cons (i := 5) (o := ⟨(some 10), _, _, _, _, _⟩) rfl (fun K hK => ?_) AllReadyH.nil
  go_simp
  refine (rout_any w3 z hz.out.1 (ln a * ln b) hz.out.2).mono ?_
  rintro e w4 ⟨l, rfl, e9, HL, hb4⟩
  refine hK.out _ _ (⟨(hb4.block _ (by omega)).trans hHeld.1, (hb4.block _ (by omega)).trans hHeld.2⟩) (fun hHeld => ?_)
  clear hK K
  try simp only [Act.put, List.setIfInBounds_toArray, List.set_cons_zero, List.set_cons_succ]
  have hbw4 := below_next hbw3 hbw3.size hb4
  have hz4 : Hid (w4.heap[w.heap.size + 1 + 1]? = some (.cells (bv z32).toArray 24 (0, 0))) := (hb4.block _ (by omega)).trans hz3.out
  have hs4 : w.heap.size + 2 < w4.heap.size := (Array.getElem?_eq_some_iff.1 hz4.out).1
  have HE := vlt (show l = wo (ln a * ln b) from e9.out)
  clear e9
  have HLS := Lib.hid (bv_size l HL.out)
  refine wpAnyH_ready (rs := [6]) (by kernel_rfl) (by simp) ?_
  refine AllReadyH.cons (i := 6) (o := ⟨none, _, _, _, _, _⟩) rfl (fun K hK => ?_) AllReadyH.nil
  refine step_store_row rfl 24 (.tmp 4) (.tmp 10) rfl (w.heap.size + 1 + 1) (bv l).toArray rfl rfl 24 _ hz4.out (by rw [HLS.out]; kernel_rfl) (by rw [HLS.out]; kernel_rfl) (all_oneCell_toArray (bv_one _)) ?_
  refine hK.out _ _ (⟨(setRow_other _ _ _ _ (by omega)).trans hHeld.1, (setRow_other _ _ _ _ (by omega)).trans hHeld.2⟩) (fun hHeld => ?_)
  clear hK K
  try simp only [Act.put]
  refine wpAnyH_done (by kernel_rfl) ?_ _
  go_wp2_with fail
  refine bodyPost_ret (v := .agg (bv l).toArray) (results_cell_row Tryd.results23 _ _ (w.heap.size + 1 + 1) 24 _ (0, 0) _ rfl (setRow_heap _ _ _ _ _ _ hz4.out) Tryd.underlying24 rfl (by rw [HLS.out]; kernel_rfl)) rfl ⟨l, rfl, HE, HL, below_setRow hbw4 (by omega) _⟩

set_option maxHeartbeats 1000000 in
theorem rpow_any (w : World) (a b : List UInt8) (ha : a.length = 32) (hb : b.length = 32) :
    Calls Tryd.prog 24 #[.agg (bv a).toArray, .agg (bv b).toArray] w fun e w' => ∃ l, e = .returned (.agg (bv l).toArray) ∧ Vlt (l = wo (ln a ^ ln b)) ∧ Hid (l.length = 32) ∧ Below w.heap.size w w' := by
  have hzw := zero_word
  obtain ⟨W, hW, hgA, hgB, hgZ, hbW, hsW⟩ := three_new w (bv a).toArray (bv b).toArray (bv z32).toArray 24 24 24
  have HW := Lib.hid hW
  have HA := Lib.hid ha
  have HB := Lib.hid hb
  have HAS := Lib.hid (show (bv a).length = 32 by rw [bv_len, ha])
  have HBS := Lib.hid (show (bv b).length = 32 by rw [bv_len, hb])
  have hs : w.heap.size + 2 < W.heap.size := by have := hsW.out; omega
  clear hW ha hb hsW
  go_enter Tryd.func24, Tryd.ntmps24
  go_upto_region 1 with fail
  rw [HW.out]
  refine wp_region_held_drew (S := (fun W' => W'.heap[w.heap.size]? = some (.cells (bv a).toArray 24 (0, 0)) ∧ W'.heap[w.heap.size + 1]? = some (.cells (bv b).toArray 24 (0, 0)))) (by kernel_rfl) (⟨hgA.out, hgB.out⟩) (fun hHeld => ?_)
  refine wpAnyH_take (i := 0) (oi := ⟨(some 5), _, _, _, _, _⟩) (v := _) rfl (by kernel_rfl) (by kernel_rfl) (by kernel_rfl) (fun _ _ _ h => h) (yieldsIf_load_mid (by rfl) _ _ rfl w.heap.size 0 rfl (bv a) _ (fun W' hW' => range_row hW'.1) (Tryd.underlying24) (rfl) (by rw [HAS.out]; kernel_rfl)) hHeld ?_
  try simp only [Act.put, List.setIfInBounds_toArray, List.set_cons_zero, List.set_cons_succ]
  refine wpAnyH_take (i := 2) (oi := ⟨(some 7), _, _, _, _, _⟩) (v := _) rfl (by kernel_rfl) (by kernel_rfl) (by kernel_rfl) (fun _ _ _ h => h) (yieldsIf_load_mid (by rfl) _ _ rfl (w.heap.size + 1) 0 rfl (bv b) _ (fun W' hW' => range_row hW'.2) (Tryd.underlying24) (rfl) (by rw [HBS.out]; kernel_rfl)) hHeld ?_
  try simp only [Act.put, List.setIfInBounds_toArray, List.set_cons_zero, List.set_cons_succ]
  refine wpAnyH_ready (rs := [1]) (by kernel_rfl) (by simp) ?_
  refine AllReadyH.cons (i := 1) (o := ⟨(some 6), _, _, _, _, _⟩) rfl (fun K hK => ?_) AllReadyH.nil
  go_simp
  refine (rin_any _ a HA.out).mono ?_
  rintro e w1 ⟨x, rfl, e1, HX, hb1d⟩
  have hb1 : Below W.heap.size W w1 := below_undrew hb1d
  refine hK.out _ _ (⟨(hb1.block _ (by omega)).trans hHeld.1, (hb1.block _ (by omega)).trans hHeld.2⟩) (fun hHeld => ?_)
  clear hK K
  try simp only [Act.put, List.setIfInBounds_toArray, List.set_cons_zero, List.set_cons_succ]
  have hbw1 := below_next hbW hbW.size hb1
  have hz1 : Hid (w1.heap[w.heap.size + 1 + 1]? = some (.cells (bv z32).toArray 24 (0, 0))) := (hb1.block _ (by omega)).trans hgZ.out
  have hs1 : w.heap.size + 2 < w1.heap.size := (Array.getElem?_eq_some_iff.1 hz1.out).1
  have hx := vlt (fv_in e1.out)
  clear e1
  refine wpAnyH_ready (rs := [3]) (by kernel_rfl) (by simp) ?_
  refine AllReadyH.cons (i := 3) (o := ⟨(some 8), _, _, _, _, _⟩) rfl (fun K hK => ?_) AllReadyH.nil
  go_simp
  refine (rpower_any w1 x hx.out.1 b HB.out).mono ?_
  rintro e w2 ⟨z, rfl, e3, HZ, hb2⟩
  refine hK.out _ _ (⟨(hb2.block _ (by omega)).trans hHeld.1, (hb2.block _ (by omega)).trans hHeld.2⟩) (fun hHeld => ?_)
  clear hK K
  try simp only [Act.put, List.setIfInBounds_toArray, List.set_cons_zero, List.set_cons_succ]
  have hbw2 := below_next hbw1 hbw1.size hb2
  have hz2 : Hid (w2.heap[w.heap.size + 1 + 1]? = some (.cells (bv z32).toArray 24 (0, 0))) := (hb2.block _ (by omega)).trans hz1.out
  have hs2 : w.heap.size + 2 < w2.heap.size := (Array.getElem?_eq_some_iff.1 hz2.out).1
  have hz := vlt (fv_pow hx.out e3.out)
  clear e3
  refine wpAnyH_ready (rs := [4]) (by kernel_rfl) (by simp) ?_
  refine AllReadyH.cons (i := 4) (o := ⟨(some 9), _, _, _, _, _⟩) rfl (fun K hK => ?_) AllReadyH.nil
  go_simp
  refine (rout_any w2 z hz.out.1 (ln a ^ ln b) hz.out.2).mono ?_
  rintro e w3 ⟨l, rfl, e9, HL, hb3⟩
  refine hK.out _ _ (⟨(hb3.block _ (by omega)).trans hHeld.1, (hb3.block _ (by omega)).trans hHeld.2⟩) (fun hHeld => ?_)
  clear hK K
  try simp only [Act.put, List.setIfInBounds_toArray, List.set_cons_zero, List.set_cons_succ]
  have hbw3 := below_next hbw2 hbw2.size hb3
  have hz3 : Hid (w3.heap[w.heap.size + 1 + 1]? = some (.cells (bv z32).toArray 24 (0, 0))) := (hb3.block _ (by omega)).trans hz2.out
  have hs3 : w.heap.size + 2 < w3.heap.size := (Array.getElem?_eq_some_iff.1 hz3.out).1
  have HE := vlt (show l = wo (ln a ^ ln b) from e9.out)
  clear e9
  have HLS := Lib.hid (bv_size l HL.out)
  refine wpAnyH_ready (rs := [5]) (by kernel_rfl) (by simp) ?_
  refine AllReadyH.cons (i := 5) (o := ⟨none, _, _, _, _, _⟩) rfl (fun K hK => ?_) AllReadyH.nil
  refine step_store_row rfl 24 (.tmp 4) (.tmp 9) rfl (w.heap.size + 1 + 1) (bv l).toArray rfl rfl 24 _ hz3.out (by rw [HLS.out]; kernel_rfl) (by rw [HLS.out]; kernel_rfl) (all_oneCell_toArray (bv_one _)) ?_
  refine hK.out _ _ (⟨(setRow_other _ _ _ _ (by omega)).trans hHeld.1, (setRow_other _ _ _ _ (by omega)).trans hHeld.2⟩) (fun hHeld => ?_)
  clear hK K
  try simp only [Act.put]
  refine wpAnyH_done (by kernel_rfl) ?_ _
  go_wp2_with fail
  refine bodyPost_ret (v := .agg (bv l).toArray) (results_cell_row Tryd.results24 _ _ (w.heap.size + 1 + 1) 24 _ (0, 0) _ rfl (setRow_heap _ _ _ _ _ _ hz3.out) Tryd.underlying24 rfl (by rw [HLS.out]; kernel_rfl)) rfl ⟨l, rfl, HE, HL, below_setRow hbw3 (by omega) _⟩

set_option maxHeartbeats 1000000 in
theorem rgood_any (w : World) (a : List UInt8) (ha : a.length = 32) :
    Calls Tryd.prog 19 #[.agg (bv a).toArray] w fun e w' => ∃ b, e = .returned (.bool b) ∧ Vlt (b = decide (wo (ln a) = a)) ∧ Below w.heap.size w w' := by
  obtain ⟨W, hW, hgA, hbW, hsW⟩ := one_new w (bv a).toArray 24
  have HW := Lib.hid hW
  have HA := Lib.hid ha
  have HAS := Lib.hid (show (bv a).length = 32 by rw [bv_len, ha])
  have hs : w.heap.size < W.heap.size := by have := hsW.out; omega
  clear hW ha hsW
  go_enter Tryd.func19, Tryd.ntmps19
  go_upto_region 1 with fail
  rw [HW.out]
  refine wp_region_held_drew (S := (fun W' => W'.heap[w.heap.size]? = some (.cells (bv a).toArray 24 (0, 0)))) (by kernel_rfl) (hgA.out) (fun hHeld => ?_)
  refine wpAnyH_take (i := 0) (oi := ⟨(some 3), _, _, _, _, _⟩) (v := _) rfl (by kernel_rfl) (by kernel_rfl) (by kernel_rfl) (fun _ _ _ h => h) (yieldsIf_load_mid (by rfl) _ _ rfl w.heap.size 0 rfl (bv a) _ (fun W' hW' => range_row hW') (Tryd.underlying24) (rfl) (by rw [HAS.out]; kernel_rfl)) hHeld ?_
  try simp only [Act.put, List.setIfInBounds_toArray, List.set_cons_zero, List.set_cons_succ]
  refine wpAnyH_take (i := 2) (oi := ⟨(some 5), _, _, _, _, _⟩) (v := _) rfl (by kernel_rfl) (by kernel_rfl) (by kernel_rfl) (fun _ _ _ h => h) (yieldsIf_load_mid (by rfl) _ _ rfl w.heap.size 0 rfl (bv a) _ (fun W' hW' => range_row hW') (Tryd.underlying24) (rfl) (by rw [HAS.out]; kernel_rfl)) hHeld ?_
  try simp only [Act.put, List.setIfInBounds_toArray, List.set_cons_zero, List.set_cons_succ]
  refine wpAnyH_ready (rs := [1]) (by kernel_rfl) (by simp) ?_
  refine AllReadyH.cons (i := 1) (o := ⟨(some 4), _, _, _, _, _⟩) rfl (fun K hK => ?_) AllReadyH.nil
  go_simp
  refine (rnorm_any _ a HA.out).mono ?_
  rintro e w1 ⟨l, rfl, e1, HL, hb1d⟩
  have hb1 : Below W.heap.size W w1 := below_undrew hb1d
  refine hK.out _ _ ((hb1.block _ hs).trans hHeld) (fun hHeld => ?_)
  clear hK K
  try simp only [Act.put, List.setIfInBounds_toArray, List.set_cons_zero, List.set_cons_succ]
  have heq := eql_bytes (P := Tryd.prog) Tryd.underlying24 Tryd.underlying5 Tryd.sizeByte l a HL.out HA.out
  have HE := vlt (show decide (l = a) = decide (wo (ln a) = a) by rw [e1.out])
  generalize decide (l = a) = b at *
  refine wpAnyH_take (i := 3) (oi := ⟨(some 6), _, _, _, _, _⟩) (v := ?vq5_0) rfl (by kernel_rfl) (by kernel_rfl) (by kernel_rfl) (fun _ _ _ h => h) (Or.inl ⟨by rfl, ?yq5_0⟩) hHeld ?_
  case yq5_0 => (intro W0 hSw; go_simp; try with_reducible rfl)
  try simp only [Act.put, List.setIfInBounds_toArray, List.set_cons_zero, List.set_cons_succ]
  refine wpAnyH_take (i := 4) (oi := ⟨(some 2), _, _, _, _, _⟩) (v := ?vq5_1) rfl (by kernel_rfl) (by kernel_rfl) (by kernel_rfl) (fun _ _ _ h => h) (Or.inl ⟨by rfl, ?yq5_1⟩) hHeld ?_
  case yq5_1 => (intro W0 hSw; go_simp; try with_reducible rfl)
  try simp only [Act.put, List.setIfInBounds_toArray, List.set_cons_zero, List.set_cons_succ]
  refine wpAnyH_done (by kernel_rfl) ?_ _
  go_wp2
  go_ret
  exact ⟨b, rfl, HE, below_next hbW hbW.size hb1⟩
end Go.Proofs.YtpnodegmegpooaaDoor
