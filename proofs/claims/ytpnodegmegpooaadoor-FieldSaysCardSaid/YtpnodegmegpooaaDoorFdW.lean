/-
  Contracts of field's Norm, Add, Sub, Mul, Power, Inv: each answer is the word of its number modulo the prime. Conditions: none.
-/
import Derived.Test.YtpnodegmegpooaaDoorFdV
import Derived.Test.YtpnodegmegpooaaDoorFdT
import Derived.Test.YtpnodegmegpooaaDoorFdP
import Derived.Test.YtpnodegmegpooaaDoorEqB
namespace Go.Proofs.YtpnodegmegpooaaDoor
open Go.RowKit

theorem range_row {w : World} {g : Nat} {l : List Value} {t : TypeId} (hg : w.heap[g]? = some (.cells l.toArray t (0, 0))) : w.rangeAt g 0 l := by
  intro j v hj
  rw [Nat.zero_add, cell_of_row _ _ _ _ _ _ hg]
  simpa using hj
theorem bv_size (l : List UInt8) (h : l.length = 32) : (bv l).toArray.size = 32 := by simp [bv_len, h]

set_option maxHeartbeats 1000000 in
theorem norm_any (w : World) (a : List UInt8) (ha : a.length = 32) :
    Calls Tryd.prog 9 #[.agg (bv a).toArray] w fun e w' => ∃ l, e = .returned (.agg (bv l).toArray) ∧ Vlt (l = wo (ln a)) ∧ Hid (l.length = 32) ∧ Below w.heap.size w w' := by
  have hzw := zero_word
  obtain ⟨W, hW, hgA, hgZ, hbW, hsW⟩ := pair_new w (bv a).toArray (bv z32).toArray 24 24
  have HW := Lib.hid hW
  have HA := Lib.hid ha
  have HS := Lib.hid (bv_size a ha)
  have hs : w.heap.size + 1 < W.heap.size := by have := hsW.out; omega
  clear hW ha hsW
  go_enter Tryd.func9, Tryd.ntmps9
  go_upto_region 1 with fail
  rw [HW.out]
  go_wp2_with (with_reducible refine wpList_load_row rfl 24 (.tmp 1) rfl w.heap.size rfl 24 (bv a).toArray (0, 0) _ hgA.out Tryd.underlying24 rfl (by rw [HS.out]; kernel_rfl) ?_)
  refine (numberOf_any W a HA.out).mono ?_
  rintro e w1 ⟨a0, a1, a2, a3, rfl, e1, ⟨la0, la1, la2, la3⟩, hb1⟩
  have hbw1 := below_next hbW hbW.size hb1
  have hz1 : Hid (w1.heap[w.heap.size + 1]? = some (.cells (bv z32).toArray 24 (0, 0))) := (hb1.block _ (by omega)).trans hgZ.out
  have hs1 : w.heap.size + 1 < w1.heap.size := (Array.getElem?_eq_some_iff.1 hz1.out).1
  go_wp2_with fail
  refine (told_any w1 a0 a1 a2 a3 la0 la1 la2 la3).mono ?_
  rintro e w2 ⟨l, rfl, e2, HL, hb2⟩
  have HE := vlt (show l = wo (ln a) by rw [e2.out, e1.out, wo])
  clear e1 e2
  have hbw2 := below_next hbw1 hbw1.size hb2
  have hz2 : Hid (w2.heap[w.heap.size + 1]? = some (.cells (bv z32).toArray 24 (0, 0))) := (hb2.block _ (by omega)).trans hz1.out
  have HLS := Lib.hid (bv_size l HL.out)
  go_wp2_with (with_reducible refine wpList_store_row rfl 24 (.tmp 2) (.tmp 5) rfl (w.heap.size + 1) (bv l).toArray rfl rfl 24 _ hz2.out (by rw [HLS.out]; kernel_rfl) (by rw [HLS.out]; kernel_rfl) (all_oneCell_toArray (bv_one _)) ?_)
  refine bodyPost_ret (v := .agg (bv l).toArray) (results_cell_row Tryd.results9 _ _ (w.heap.size + 1) 24 _ (0, 0) _ rfl (setRow_heap _ _ _ _ _ _ hz2.out) Tryd.underlying24 rfl (by rw [HLS.out]; kernel_rfl)) rfl ⟨l, rfl, HE, HL, below_setRow hbw2 (by omega) _⟩

set_option maxHeartbeats 1000000 in
theorem add_any (w : World) (a b : List UInt8) (ha : a.length = 32) (hb : b.length = 32) :
    Calls Tryd.prog 20 #[.agg (bv a).toArray, .agg (bv b).toArray] w fun e w' => ∃ l, e = .returned (.agg (bv l).toArray) ∧ Vlt (l = wo (ln a + ln b)) ∧ Hid (l.length = 32) ∧ Below w.heap.size w w' := by
  have hzw := zero_word
  obtain ⟨W, hW, hgA, hgB, hgZ, hbW, hsW⟩ := three_new w (bv a).toArray (bv b).toArray (bv z32).toArray 24 24 24
  have HW := Lib.hid hW
  have HA := Lib.hid ha
  have HB := Lib.hid hb
  have HAS := Lib.hid (show (bv a).length = 32 by rw [bv_len, ha])
  have HBS := Lib.hid (show (bv b).length = 32 by rw [bv_len, hb])
  have hs : w.heap.size + 2 < W.heap.size := by have := hsW.out; omega
  clear hW ha hb hsW
  go_enter Tryd.func20, Tryd.ntmps20
  go_upto_region 1 with fail
  rw [HW.out]
  refine wp_region_held_drew (S := (fun W' => W'.heap[w.heap.size]? = some (.cells (bv a).toArray 24 (0, 0)) ∧ W'.heap[w.heap.size + 1]? = some (.cells (bv b).toArray 24 (0, 0)))) (by kernel_rfl) (⟨hgA.out, hgB.out⟩) (fun hHeld => ?_)
  refine wpAnyH_take (i := 0) (oi := ⟨(some 5), _, _, _, _, _⟩) (v := _) rfl (by kernel_rfl) (by kernel_rfl) (by kernel_rfl) (fun _ _ _ h => h) (yieldsIf_load_mid (by rfl) _ _ rfl w.heap.size 0 rfl (bv a) _ (fun W' hW' => range_row hW'.1) (Tryd.underlying24) (rfl) (by rw [HAS.out]; kernel_rfl)) hHeld ?_
  try simp only [Act.put, List.setIfInBounds_toArray, List.set_cons_zero, List.set_cons_succ]
  refine wpAnyH_take (i := 2) (oi := ⟨(some 7), _, _, _, _, _⟩) (v := _) rfl (by kernel_rfl) (by kernel_rfl) (by kernel_rfl) (fun _ _ _ h => h) (yieldsIf_load_mid (by rfl) _ _ rfl (w.heap.size + 1) 0 rfl (bv b) _ (fun W' hW' => range_row hW'.2) (Tryd.underlying24) (rfl) (by rw [HBS.out]; kernel_rfl)) hHeld ?_
  try simp only [Act.put, List.setIfInBounds_toArray, List.set_cons_zero, List.set_cons_succ]
  refine wpAnyH_ready (rs := [1]) (by kernel_rfl) (by simp) ?_
  refine AllReadyH.cons (i := 1) (o := ⟨(some 6), _, _, _, _, _⟩) rfl (fun K hK => ?_) AllReadyH.nil
  go_simp
  refine (numberOf_any _ a HA.out).mono ?_
  rintro e w1 ⟨a0, a1, a2, a3, rfl, e1, ⟨la0, la1, la2, la3⟩, hb1d⟩
  have hb1 : Below W.heap.size W w1 := below_undrew hb1d
  refine hK.out _ _ (⟨(hb1.block _ (by omega)).trans hHeld.1, (hb1.block _ (by omega)).trans hHeld.2⟩) (fun hHeld => ?_)
  clear hK K
  try simp only [Act.put, List.setIfInBounds_toArray, List.set_cons_zero, List.set_cons_succ]
  have hbw1 := below_next hbW hbW.size hb1
  have hz1 : Hid (w1.heap[w.heap.size + 2]? = some (.cells (bv z32).toArray 24 (0, 0))) := (hb1.block _ (by omega)).trans hgZ.out
  have hs1 : w.heap.size + 2 < w1.heap.size := (Array.getElem?_eq_some_iff.1 hz1.out).1
  refine wpAnyH_ready (rs := [3]) (by kernel_rfl) (by simp) ?_
  refine AllReadyH.cons (i := 3) (o := ⟨(some 8), _, _, _, _, _⟩) rfl (fun K hK => ?_) AllReadyH.nil
  go_simp
  refine (numberOf_any w1 b HB.out).mono ?_
  rintro e w2 ⟨b0, b1, b2, b3, rfl, e2, ⟨lb0, lb1, lb2, lb3⟩, hb2⟩
  refine hK.out _ _ (⟨(hb2.block _ (by omega)).trans hHeld.1, (hb2.block _ (by omega)).trans hHeld.2⟩) (fun hHeld => ?_)
  clear hK K
  try simp only [Act.put, List.setIfInBounds_toArray, List.set_cons_zero, List.set_cons_succ]
  have hbw2 := below_next hbw1 hbw1.size hb2
  have hz2 : Hid (w2.heap[w.heap.size + 2]? = some (.cells (bv z32).toArray 24 (0, 0))) := (hb2.block _ (by omega)).trans hz1.out
  have hs2 : w.heap.size + 2 < w2.heap.size := (Array.getElem?_eq_some_iff.1 hz2.out).1
  refine wpAnyH_ready (rs := [4]) (by kernel_rfl) (by simp) ?_
  refine AllReadyH.cons (i := 4) (o := ⟨(some 9), _, _, _, _, _⟩) rfl (fun K hK => ?_) AllReadyH.nil
  go_simp
  refine (plus_any w2 a0 a1 a2 a3 b0 b1 b2 b3 la0 la1 la2 la3 lb0 lb1 lb2 lb3).mono ?_
  rintro e w3 ⟨c0, c1, c2, c3, rfl, e3, ⟨lc0, lc1, lc2, lc3⟩, hb3⟩
  refine hK.out _ _ (⟨(hb3.block _ (by omega)).trans hHeld.1, (hb3.block _ (by omega)).trans hHeld.2⟩) (fun hHeld => ?_)
  clear hK K
  try simp only [Act.put, List.setIfInBounds_toArray, List.set_cons_zero, List.set_cons_succ]
  have hbw3 := below_next hbw2 hbw2.size hb3
  have hz3 : Hid (w3.heap[w.heap.size + 2]? = some (.cells (bv z32).toArray 24 (0, 0))) := (hb3.block _ (by omega)).trans hz2.out
  have hs3 : w.heap.size + 2 < w3.heap.size := (Array.getElem?_eq_some_iff.1 hz3.out).1
  refine wpAnyH_ready (rs := [5]) (by kernel_rfl) (by simp) ?_
  refine AllReadyH.cons (i := 5) (o := ⟨(some 10), _, _, _, _, _⟩) rfl (fun K hK => ?_) AllReadyH.nil
  go_simp
  refine (told_any w3 c0 c1 c2 c3 lc0 lc1 lc2 lc3).mono ?_
  rintro e w4 ⟨l, rfl, e4, HL, hb4⟩
  refine hK.out _ _ (⟨(hb4.block _ (by omega)).trans hHeld.1, (hb4.block _ (by omega)).trans hHeld.2⟩) (fun hHeld => ?_)
  clear hK K
  try simp only [Act.put, List.setIfInBounds_toArray, List.set_cons_zero, List.set_cons_succ]
  have hbw4 := below_next hbw3 hbw3.size hb4
  have hz4 : Hid (w4.heap[w.heap.size + 1 + 1]? = some (.cells (bv z32).toArray 24 (0, 0))) := (hb4.block _ (by omega)).trans hz3.out
  have HE := vlt (show l = wo (ln a + ln b) by rw [e4.out, wo, e3.out, e1.out, e2.out])
  clear e1 e2 e3 e4
  have HLS := Lib.hid (bv_size l HL.out)
  refine wpAnyH_ready (rs := [6]) (by kernel_rfl) (by simp) ?_
  refine AllReadyH.cons (i := 6) (o := ⟨none, _, _, _, _, _⟩) rfl (fun K hK => ?_) AllReadyH.nil
  refine step_store_row rfl 24 (.tmp 4) (.tmp 10) rfl (w.heap.size + 1 + 1) (bv l).toArray rfl rfl 24 _ hz4.out (by rw [HLS.out]; kernel_rfl) (by rw [HLS.out]; kernel_rfl) (all_oneCell_toArray (bv_one _)) ?_
  refine hK.out _ _ (⟨(setRow_other _ _ _ _ (by omega)).trans hHeld.1, (setRow_other _ _ _ _ (by omega)).trans hHeld.2⟩) (fun hHeld => ?_)
  clear hK K
  try simp only [Act.put]
  refine wpAnyH_done (by kernel_rfl) ?_ _
  go_wp2_with fail
  refine bodyPost_ret (v := .agg (bv l).toArray) (results_cell_row Tryd.results20 _ _ (w.heap.size + 1 + 1) 24 _ (0, 0) _ rfl (setRow_heap _ _ _ _ _ _ hz4.out) Tryd.underlying24 rfl (by rw [HLS.out]; kernel_rfl)) rfl ⟨l, rfl, HE, HL, below_setRow hbw4 (by omega) _⟩

set_option maxHeartbeats 1000000 in
theorem mul_any (w : World) (a b : List UInt8) (ha : a.length = 32) (hb : b.length = 32) :
    Calls Tryd.prog 15 #[.agg (bv a).toArray, .agg (bv b).toArray] w fun e w' => ∃ l, e = .returned (.agg (bv l).toArray) ∧ Vlt (l = wo (ln a * ln b)) ∧ Hid (l.length = 32) ∧ Below w.heap.size w w' := by
  have hzw := zero_word
  obtain ⟨W, hW, hgA, hgB, hgZ, hbW, hsW⟩ := three_new w (bv a).toArray (bv b).toArray (bv z32).toArray 24 24 24
  have HW := Lib.hid hW
  have HA := Lib.hid ha
  have HB := Lib.hid hb
  have HAS := Lib.hid (show (bv a).length = 32 by rw [bv_len, ha])
  have HBS := Lib.hid (show (bv b).length = 32 by rw [bv_len, hb])
  have hs : w.heap.size + 2 < W.heap.size := by have := hsW.out; omega
  clear hW ha hb hsW
  go_enter Tryd.func15, Tryd.ntmps15
  go_upto_region 1 with fail
  rw [HW.out]
  refine wp_region_held_drew (S := (fun W' => W'.heap[w.heap.size]? = some (.cells (bv a).toArray 24 (0, 0)) ∧ W'.heap[w.heap.size + 1]? = some (.cells (bv b).toArray 24 (0, 0)))) (by kernel_rfl) (⟨hgA.out, hgB.out⟩) (fun hHeld => ?_)
  refine wpAnyH_take (i := 0) (oi := ⟨(some 5), _, _, _, _, _⟩) (v := _) rfl (by kernel_rfl) (by kernel_rfl) (by kernel_rfl) (fun _ _ _ h => h) (yieldsIf_load_mid (by rfl) _ _ rfl w.heap.size 0 rfl (bv a) _ (fun W' hW' => range_row hW'.1) (Tryd.underlying24) (rfl) (by rw [HAS.out]; kernel_rfl)) hHeld ?_
  try simp only [Act.put, List.setIfInBounds_toArray, List.set_cons_zero, List.set_cons_succ]
  refine wpAnyH_take (i := 2) (oi := ⟨(some 7), _, _, _, _, _⟩) (v := _) rfl (by kernel_rfl) (by kernel_rfl) (by kernel_rfl) (fun _ _ _ h => h) (yieldsIf_load_mid (by rfl) _ _ rfl (w.heap.size + 1) 0 rfl (bv b) _ (fun W' hW' => range_row hW'.2) (Tryd.underlying24) (rfl) (by rw [HBS.out]; kernel_rfl)) hHeld ?_
  try simp only [Act.put, List.setIfInBounds_toArray, List.set_cons_zero, List.set_cons_succ]
  refine wpAnyH_ready (rs := [1]) (by kernel_rfl) (by simp) ?_
  refine AllReadyH.cons (i := 1) (o := ⟨(some 6), _, _, _, _, _⟩) rfl (fun K hK => ?_) AllReadyH.nil
  go_simp
  refine (numberOf_any _ a HA.out).mono ?_
  rintro e w1 ⟨a0, a1, a2, a3, rfl, e1, ⟨la0, la1, la2, la3⟩, hb1d⟩
  have hb1 : Below W.heap.size W w1 := below_undrew hb1d
  refine hK.out _ _ (⟨(hb1.block _ (by omega)).trans hHeld.1, (hb1.block _ (by omega)).trans hHeld.2⟩) (fun hHeld => ?_)
  clear hK K
  try simp only [Act.put, List.setIfInBounds_toArray, List.set_cons_zero, List.set_cons_succ]
  have hbw1 := below_next hbW hbW.size hb1
  have hz1 : Hid (w1.heap[w.heap.size + 2]? = some (.cells (bv z32).toArray 24 (0, 0))) := (hb1.block _ (by omega)).trans hgZ.out
  have hs1 : w.heap.size + 2 < w1.heap.size := (Array.getElem?_eq_some_iff.1 hz1.out).1
  refine wpAnyH_ready (rs := [3]) (by kernel_rfl) (by simp) ?_
  refine AllReadyH.cons (i := 3) (o := ⟨(some 8), _, _, _, _, _⟩) rfl (fun K hK => ?_) AllReadyH.nil
  go_simp
  refine (numberOf_any w1 b HB.out).mono ?_
  rintro e w2 ⟨b0, b1, b2, b3, rfl, e2, ⟨lb0, lb1, lb2, lb3⟩, hb2⟩
  refine hK.out _ _ (⟨(hb2.block _ (by omega)).trans hHeld.1, (hb2.block _ (by omega)).trans hHeld.2⟩) (fun hHeld => ?_)
  clear hK K
  try simp only [Act.put, List.setIfInBounds_toArray, List.set_cons_zero, List.set_cons_succ]
  have hbw2 := below_next hbw1 hbw1.size hb2
  have hz2 : Hid (w2.heap[w.heap.size + 2]? = some (.cells (bv z32).toArray 24 (0, 0))) := (hb2.block _ (by omega)).trans hz1.out
  have hs2 : w.heap.size + 2 < w2.heap.size := (Array.getElem?_eq_some_iff.1 hz2.out).1
  refine wpAnyH_ready (rs := [4]) (by kernel_rfl) (by simp) ?_
  refine AllReadyH.cons (i := 4) (o := ⟨(some 9), _, _, _, _, _⟩) rfl (fun K hK => ?_) AllReadyH.nil
  go_simp
  refine (times_any w2 a0 a1 a2 a3 b0 b1 b2 b3 la0 la1 la2 la3 lb0 lb1 lb2 lb3).mono ?_
  rintro e w3 ⟨c0, c1, c2, c3, rfl, e3, ⟨lc0, lc1, lc2, lc3⟩, hb3⟩
  refine hK.out _ _ (⟨(hb3.block _ (by omega)).trans hHeld.1, (hb3.block _ (by omega)).trans hHeld.2⟩) (fun hHeld => ?_)
  clear hK K
  try simp only [Act.put, List.setIfInBounds_toArray, List.set_cons_zero, List.set_cons_succ]
  have hbw3 := below_next hbw2 hbw2.size hb3
  have hz3 : Hid (w3.heap[w.heap.size + 2]? = some (.cells (bv z32).toArray 24 (0, 0))) := (hb3.block _ (by omega)).trans hz2.out
  have hs3 : w.heap.size + 2 < w3.heap.size := (Array.getElem?_eq_some_iff.1 hz3.out).1
  refine wpAnyH_ready (rs := [5]) (by kernel_rfl) (by simp) ?_
  refine AllReadyH.cons (i := 5) (o := ⟨(some 10), _, _, _, _, _⟩) rfl (fun K hK => ?_) AllReadyH.nil
  go_simp
  refine (told_any w3 c0 c1 c2 c3 lc0 lc1 lc2 lc3).mono ?_
  rintro e w4 ⟨l, rfl, e4, HL, hb4⟩
  refine hK.out _ _ (⟨(hb4.block _ (by omega)).trans hHeld.1, (hb4.block _ (by omega)).trans hHeld.2⟩) (fun hHeld => ?_)
  clear hK K
  try simp only [Act.put, List.setIfInBounds_toArray, List.set_cons_zero, List.set_cons_succ]
  have hbw4 := below_next hbw3 hbw3.size hb4
  have hz4 : Hid (w4.heap[w.heap.size + 1 + 1]? = some (.cells (bv z32).toArray 24 (0, 0))) := (hb4.block _ (by omega)).trans hz3.out
  have HE := vlt (show l = wo (ln a * ln b) by rw [e4.out, wo, e3.out, e1.out, e2.out])
  clear e1 e2 e3 e4
  have HLS := Lib.hid (bv_size l HL.out)
  refine wpAnyH_ready (rs := [6]) (by kernel_rfl) (by simp) ?_
  refine AllReadyH.cons (i := 6) (o := ⟨none, _, _, _, _, _⟩) rfl (fun K hK => ?_) AllReadyH.nil
  refine step_store_row rfl 24 (.tmp 4) (.tmp 10) rfl (w.heap.size + 1 + 1) (bv l).toArray rfl rfl 24 _ hz4.out (by rw [HLS.out]; kernel_rfl) (by rw [HLS.out]; kernel_rfl) (all_oneCell_toArray (bv_one _)) ?_
  refine hK.out _ _ (⟨(setRow_other _ _ _ _ (by omega)).trans hHeld.1, (setRow_other _ _ _ _ (by omega)).trans hHeld.2⟩) (fun hHeld => ?_)
  clear hK K
  try simp only [Act.put]
  refine wpAnyH_done (by kernel_rfl) ?_ _
  go_wp2_with fail
  refine bodyPost_ret (v := .agg (bv l).toArray) (results_cell_row Tryd.results15 _ _ (w.heap.size + 1 + 1) 24 _ (0, 0) _ rfl (setRow_heap _ _ _ _ _ _ hz4.out) Tryd.underlying24 rfl (by rw [HLS.out]; kernel_rfl)) rfl ⟨l, rfl, HE, HL, below_setRow hbw4 (by omega) _⟩

set_option maxHeartbeats 1000000 in
theorem sub_any (w : World) (a b : List UInt8) (ha : a.length = 32) (hb : b.length = 32) :
    Calls Tryd.prog 16 #[.agg (bv a).toArray, .agg (bv b).toArray] w fun e w' => ∃ l, e = .returned (.agg (bv l).toArray) ∧ Vlt (l = wo (subF (ln a) (ln b))) ∧ Hid (l.length = 32) ∧ Below w.heap.size w w' := by
  have hzw := zero_word
  obtain ⟨W, hW, hgA, hgB, hgZ, hbW, hsW⟩ := three_new w (bv a).toArray (bv b).toArray (bv z32).toArray 24 24 24
  have HW := Lib.hid hW
  have HA := Lib.hid ha
  have HB := Lib.hid hb
  have HAS := Lib.hid (show (bv a).length = 32 by rw [bv_len, ha])
  have HBS := Lib.hid (show (bv b).length = 32 by rw [bv_len, hb])
  have hs : w.heap.size + 2 < W.heap.size := by have := hsW.out; omega
  clear hW ha hb hsW
  go_enter Tryd.func16, Tryd.ntmps16
  go_upto_region 1 with fail
  rw [HW.out]
  refine wp_region_held_drew (S := (fun W' => W'.heap[w.heap.size]? = some (.cells (bv a).toArray 24 (0, 0)) ∧ W'.heap[w.heap.size + 1]? = some (.cells (bv b).toArray 24 (0, 0)))) (by kernel_rfl) (⟨hgA.out, hgB.out⟩) (fun hHeld => ?_)
  refine wpAnyH_take (i := 0) (oi := ⟨(some 5), _, _, _, _, _⟩) (v := _) rfl (by kernel_rfl) (by kernel_rfl) (by kernel_rfl) (fun _ _ _ h => h) (yieldsIf_load_mid (by rfl) _ _ rfl w.heap.size 0 rfl (bv a) _ (fun W' hW' => range_row hW'.1) (Tryd.underlying24) (rfl) (by rw [HAS.out]; kernel_rfl)) hHeld ?_
  try simp only [Act.put, List.setIfInBounds_toArray, List.set_cons_zero, List.set_cons_succ]
  refine wpAnyH_take (i := 2) (oi := ⟨(some 7), _, _, _, _, _⟩) (v := _) rfl (by kernel_rfl) (by kernel_rfl) (by kernel_rfl) (fun _ _ _ h => h) (yieldsIf_load_mid (by rfl) _ _ rfl (w.heap.size + 1) 0 rfl (bv b) _ (fun W' hW' => range_row hW'.2) (Tryd.underlying24) (rfl) (by rw [HBS.out]; kernel_rfl)) hHeld ?_
  try simp only [Act.put, List.setIfInBounds_toArray, List.set_cons_zero, List.set_cons_succ]
  refine wpAnyH_ready (rs := [1]) (by kernel_rfl) (by simp) ?_
  refine AllReadyH.cons (i := 1) (o := ⟨(some 6), _, _, _, _, _⟩) rfl (fun K hK => ?_) AllReadyH.nil
  go_simp
  refine (numberOf_any _ a HA.out).mono ?_
  rintro e w1 ⟨a0, a1, a2, a3, rfl, e1, ⟨la0, la1, la2, la3⟩, hb1d⟩
  have hb1 : Below W.heap.size W w1 := below_undrew hb1d
  refine hK.out _ _ (⟨(hb1.block _ (by omega)).trans hHeld.1, (hb1.block _ (by omega)).trans hHeld.2⟩) (fun hHeld => ?_)
  clear hK K
  try simp only [Act.put, List.setIfInBounds_toArray, List.set_cons_zero, List.set_cons_succ]
  have hbw1 := below_next hbW hbW.size hb1
  have hz1 : Hid (w1.heap[w.heap.size + 2]? = some (.cells (bv z32).toArray 24 (0, 0))) := (hb1.block _ (by omega)).trans hgZ.out
  have hs1 : w.heap.size + 2 < w1.heap.size := (Array.getElem?_eq_some_iff.1 hz1.out).1
  refine wpAnyH_ready (rs := [3]) (by kernel_rfl) (by simp) ?_
  refine AllReadyH.cons (i := 3) (o := ⟨(some 8), _, _, _, _, _⟩) rfl (fun K hK => ?_) AllReadyH.nil
  go_simp
  refine (numberOf_any w1 b HB.out).mono ?_
  rintro e w2 ⟨b0, b1, b2, b3, rfl, e2, ⟨lb0, lb1, lb2, lb3⟩, hb2⟩
  refine hK.out _ _ (⟨(hb2.block _ (by omega)).trans hHeld.1, (hb2.block _ (by omega)).trans hHeld.2⟩) (fun hHeld => ?_)
  clear hK K
  try simp only [Act.put, List.setIfInBounds_toArray, List.set_cons_zero, List.set_cons_succ]
  have hbw2 := below_next hbw1 hbw1.size hb2
  have hz2 : Hid (w2.heap[w.heap.size + 2]? = some (.cells (bv z32).toArray 24 (0, 0))) := (hb2.block _ (by omega)).trans hz1.out
  have hs2 : w.heap.size + 2 < w2.heap.size := (Array.getElem?_eq_some_iff.1 hz2.out).1
  refine wpAnyH_ready (rs := [4]) (by kernel_rfl) (by simp) ?_
  refine AllReadyH.cons (i := 4) (o := ⟨(some 9), _, _, _, _, _⟩) rfl (fun K hK => ?_) AllReadyH.nil
  go_simp
  refine (minus_any w2 a0 a1 a2 a3 b0 b1 b2 b3 la0 la1 la2 la3 lb0 lb1 lb2 lb3).mono ?_
  rintro e w3 ⟨c0, c1, c2, c3, rfl, e3, ⟨lc0, lc1, lc2, lc3⟩, hb3⟩
  refine hK.out _ _ (⟨(hb3.block _ (by omega)).trans hHeld.1, (hb3.block _ (by omega)).trans hHeld.2⟩) (fun hHeld => ?_)
  clear hK K
  try simp only [Act.put, List.setIfInBounds_toArray, List.set_cons_zero, List.set_cons_succ]
  have hbw3 := below_next hbw2 hbw2.size hb3
  have hz3 : Hid (w3.heap[w.heap.size + 2]? = some (.cells (bv z32).toArray 24 (0, 0))) := (hb3.block _ (by omega)).trans hz2.out
  have hs3 : w.heap.size + 2 < w3.heap.size := (Array.getElem?_eq_some_iff.1 hz3.out).1
  refine wpAnyH_ready (rs := [5]) (by kernel_rfl) (by simp) ?_
  refine AllReadyH.cons (i := 5) (o := ⟨(some 10), _, _, _, _, _⟩) rfl (fun K hK => ?_) AllReadyH.nil
  go_simp
  refine (told_any w3 c0 c1 c2 c3 lc0 lc1 lc2 lc3).mono ?_
  rintro e w4 ⟨l, rfl, e4, HL, hb4⟩
  refine hK.out _ _ (⟨(hb4.block _ (by omega)).trans hHeld.1, (hb4.block _ (by omega)).trans hHeld.2⟩) (fun hHeld => ?_)
  clear hK K
  try simp only [Act.put, List.setIfInBounds_toArray, List.set_cons_zero, List.set_cons_succ]
  have hbw4 := below_next hbw3 hbw3.size hb4
  have hz4 : Hid (w4.heap[w.heap.size + 1 + 1]? = some (.cells (bv z32).toArray 24 (0, 0))) := (hb4.block _ (by omega)).trans hz3.out
  have HE := vlt (show l = wo (subF (ln a) (ln b)) by rw [e4.out, wo, ← subF_of (show (n4 c0 c1 c2 c3 + ln b) % FP = ln a % FP by rw [← e1.out, ← e2.out]; exact e3.out)])
  clear e1 e2 e3 e4
  have HLS := Lib.hid (bv_size l HL.out)
  refine wpAnyH_ready (rs := [6]) (by kernel_rfl) (by simp) ?_
  refine AllReadyH.cons (i := 6) (o := ⟨none, _, _, _, _, _⟩) rfl (fun K hK => ?_) AllReadyH.nil
  refine step_store_row rfl 24 (.tmp 4) (.tmp 10) rfl (w.heap.size + 1 + 1) (bv l).toArray rfl rfl 24 _ hz4.out (by rw [HLS.out]; kernel_rfl) (by rw [HLS.out]; kernel_rfl) (all_oneCell_toArray (bv_one _)) ?_
  refine hK.out _ _ (⟨(setRow_other _ _ _ _ (by omega)).trans hHeld.1, (setRow_other _ _ _ _ (by omega)).trans hHeld.2⟩) (fun hHeld => ?_)
  clear hK K
  try simp only [Act.put]
  refine wpAnyH_done (by kernel_rfl) ?_ _
  go_wp2_with fail
  refine bodyPost_ret (v := .agg (bv l).toArray) (results_cell_row Tryd.results16 _ _ (w.heap.size + 1 + 1) 24 _ (0, 0) _ rfl (setRow_heap _ _ _ _ _ _ hz4.out) Tryd.underlying24 rfl (by rw [HLS.out]; kernel_rfl)) rfl ⟨l, rfl, HE, HL, below_setRow hbw4 (by omega) _⟩

set_option maxHeartbeats 1000000 in
theorem pow_any (w : World) (a b : List UInt8) (ha : a.length = 32) (hb : b.length = 32) :
    Calls Tryd.prog 14 #[.agg (bv a).toArray, .agg (bv b).toArray] w fun e w' => ∃ l, e = .returned (.agg (bv l).toArray) ∧ Vlt (l = wo (ln a ^ ln b)) ∧ Hid (l.length = 32) ∧ Below w.heap.size w w' := by
  have hzw := zero_word
  obtain ⟨W, hW, hgA, hgB, hgZ, hbW, hsW⟩ := three_new w (bv a).toArray (bv b).toArray (bv z32).toArray 24 24 24
  have HW := Lib.hid hW
  have HA := Lib.hid ha
  have HB := Lib.hid hb
  have HAS := Lib.hid (show (bv a).length = 32 by rw [bv_len, ha])
  have HBS := Lib.hid (show (bv b).length = 32 by rw [bv_len, hb])
  have hs : w.heap.size + 2 < W.heap.size := by have := hsW.out; omega
  clear hW ha hb hsW
  go_enter Tryd.func14, Tryd.ntmps14
  go_upto_region 1 with fail
  rw [HW.out]
  refine wp_region_held_drew (S := (fun W' => W'.heap[w.heap.size]? = some (.cells (bv a).toArray 24 (0, 0)) ∧ W'.heap[w.heap.size + 1]? = some (.cells (bv b).toArray 24 (0, 0)))) (by kernel_rfl) (⟨hgA.out, hgB.out⟩) (fun hHeld => ?_)
  refine wpAnyH_take (i := 0) (oi := ⟨(some 5), _, _, _, _, _⟩) (v := _) rfl (by kernel_rfl) (by kernel_rfl) (by kernel_rfl) (fun _ _ _ h => h) (yieldsIf_load_mid (by rfl) _ _ rfl w.heap.size 0 rfl (bv a) _ (fun W' hW' => range_row hW'.1) (Tryd.underlying24) (rfl) (by rw [HAS.out]; kernel_rfl)) hHeld ?_
  try simp only [Act.put, List.setIfInBounds_toArray, List.set_cons_zero, List.set_cons_succ]
  refine wpAnyH_take (i := 2) (oi := ⟨(some 7), _, _, _, _, _⟩) (v := _) rfl (by kernel_rfl) (by kernel_rfl) (by kernel_rfl) (fun _ _ _ h => h) (yieldsIf_load_mid (by rfl) _ _ rfl (w.heap.size + 1) 0 rfl (bv b) _ (fun W' hW' => range_row hW'.2) (Tryd.underlying24) (rfl) (by rw [HBS.out]; kernel_rfl)) hHeld ?_
  try simp only [Act.put, List.setIfInBounds_toArray, List.set_cons_zero, List.set_cons_succ]
  refine wpAnyH_ready (rs := [1]) (by kernel_rfl) (by simp) ?_
  refine AllReadyH.cons (i := 1) (o := ⟨(some 6), _, _, _, _, _⟩) rfl (fun K hK => ?_) AllReadyH.nil
  go_simp
  refine (numberOf_any _ a HA.out).mono ?_
  rintro e w1 ⟨a0, a1, a2, a3, rfl, e1, ⟨la0, la1, la2, la3⟩, hb1d⟩
  have hb1 : Below W.heap.size W w1 := below_undrew hb1d
  refine hK.out _ _ (⟨(hb1.block _ (by omega)).trans hHeld.1, (hb1.block _ (by omega)).trans hHeld.2⟩) (fun hHeld => ?_)
  clear hK K
  try simp only [Act.put, List.setIfInBounds_toArray, List.set_cons_zero, List.set_cons_succ]
  have hbw1 := below_next hbW hbW.size hb1
  have hz1 : Hid (w1.heap[w.heap.size + 2]? = some (.cells (bv z32).toArray 24 (0, 0))) := (hb1.block _ (by omega)).trans hgZ.out
  have hs1 : w.heap.size + 2 < w1.heap.size := (Array.getElem?_eq_some_iff.1 hz1.out).1
  refine wpAnyH_ready (rs := [3]) (by kernel_rfl) (by simp) ?_
  refine AllReadyH.cons (i := 3) (o := ⟨(some 8), _, _, _, _, _⟩) rfl (fun K hK => ?_) AllReadyH.nil
  go_simp
  refine (numberOf_any w1 b HB.out).mono ?_
  rintro e w2 ⟨b0, b1, b2, b3, rfl, e2, ⟨lb0, lb1, lb2, lb3⟩, hb2⟩
  refine hK.out _ _ (⟨(hb2.block _ (by omega)).trans hHeld.1, (hb2.block _ (by omega)).trans hHeld.2⟩) (fun hHeld => ?_)
  clear hK K
  try simp only [Act.put, List.setIfInBounds_toArray, List.set_cons_zero, List.set_cons_succ]
  have hbw2 := below_next hbw1 hbw1.size hb2
  have hz2 : Hid (w2.heap[w.heap.size + 2]? = some (.cells (bv z32).toArray 24 (0, 0))) := (hb2.block _ (by omega)).trans hz1.out
  have hs2 : w.heap.size + 2 < w2.heap.size := (Array.getElem?_eq_some_iff.1 hz2.out).1
  refine wpAnyH_ready (rs := [4]) (by kernel_rfl) (by simp) ?_
  refine AllReadyH.cons (i := 4) (o := ⟨(some 9), _, _, _, _, _⟩) rfl (fun K hK => ?_) AllReadyH.nil
  go_simp
  refine (power_any w2 a0 a1 a2 a3 b0 b1 b2 b3 la0 la1 la2 la3 lb0 lb1 lb2 lb3).mono ?_
  rintro e w3 ⟨c0, c1, c2, c3, rfl, e3, ⟨lc0, lc1, lc2, lc3⟩, hb3⟩
  refine hK.out _ _ (⟨(hb3.block _ (by omega)).trans hHeld.1, (hb3.block _ (by omega)).trans hHeld.2⟩) (fun hHeld => ?_)
  clear hK K
  try simp only [Act.put, List.setIfInBounds_toArray, List.set_cons_zero, List.set_cons_succ]
  have hbw3 := below_next hbw2 hbw2.size hb3
  have hz3 : Hid (w3.heap[w.heap.size + 2]? = some (.cells (bv z32).toArray 24 (0, 0))) := (hb3.block _ (by omega)).trans hz2.out
  have hs3 : w.heap.size + 2 < w3.heap.size := (Array.getElem?_eq_some_iff.1 hz3.out).1
  refine wpAnyH_ready (rs := [5]) (by kernel_rfl) (by simp) ?_
  refine AllReadyH.cons (i := 5) (o := ⟨(some 10), _, _, _, _, _⟩) rfl (fun K hK => ?_) AllReadyH.nil
  go_simp
  refine (told_any w3 c0 c1 c2 c3 lc0 lc1 lc2 lc3).mono ?_
  rintro e w4 ⟨l, rfl, e4, HL, hb4⟩
  refine hK.out _ _ (⟨(hb4.block _ (by omega)).trans hHeld.1, (hb4.block _ (by omega)).trans hHeld.2⟩) (fun hHeld => ?_)
  clear hK K
  try simp only [Act.put, List.setIfInBounds_toArray, List.set_cons_zero, List.set_cons_succ]
  have hbw4 := below_next hbw3 hbw3.size hb4
  have hz4 : Hid (w4.heap[w.heap.size + 1 + 1]? = some (.cells (bv z32).toArray 24 (0, 0))) := (hb4.block _ (by omega)).trans hz3.out
  have HE := vlt (show l = wo (ln a ^ ln b) by rw [e4.out, wo, e3.out, e1.out, e2.out])
  clear e1 e2 e3 e4
  have HLS := Lib.hid (bv_size l HL.out)
  refine wpAnyH_ready (rs := [6]) (by kernel_rfl) (by simp) ?_
  refine AllReadyH.cons (i := 6) (o := ⟨none, _, _, _, _, _⟩) rfl (fun K hK => ?_) AllReadyH.nil
  refine step_store_row rfl 24 (.tmp 4) (.tmp 10) rfl (w.heap.size + 1 + 1) (bv l).toArray rfl rfl 24 _ hz4.out (by rw [HLS.out]; kernel_rfl) (by rw [HLS.out]; kernel_rfl) (all_oneCell_toArray (bv_one _)) ?_
  refine hK.out _ _ (⟨(setRow_other _ _ _ _ (by omega)).trans hHeld.1, (setRow_other _ _ _ _ (by omega)).trans hHeld.2⟩) (fun hHeld => ?_)
  clear hK K
  try simp only [Act.put]
  refine wpAnyH_done (by kernel_rfl) ?_ _
  go_wp2_with fail
  refine bodyPost_ret (v := .agg (bv l).toArray) (results_cell_row Tryd.results14 _ _ (w.heap.size + 1 + 1) 24 _ (0, 0) _ rfl (setRow_heap _ _ _ _ _ _ hz4.out) Tryd.underlying24 rfl (by rw [HLS.out]; kernel_rfl)) rfl ⟨l, rfl, HE, HL, below_setRow hbw4 (by omega) _⟩

end Go.Proofs.YtpnodegmegpooaaDoor
