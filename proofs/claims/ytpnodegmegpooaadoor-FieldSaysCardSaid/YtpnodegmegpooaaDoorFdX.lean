/-
  Contracts of field's Inv, Of, Good. Conditions: Of's number has 64 bits.
-/
import Derived.Test.YtpnodegmegpooaaDoorFdW
import Derived.Test.YtpnodegmegpooaaDoorEqG
namespace Go.Proofs.YtpnodegmegpooaaDoor
open Go.RowKit

/-- The prime, less two. -/
def FP2 : Nat := 57896044618658097711785492504343953926634992332820282019728792003956564819947
theorem fp2_n4 : n4 18446744073709551595 18446744073709551615 18446744073709551615 9223372036854775807 = FP2 := by decide
set_option maxHeartbeats 1000000 in
theorem inv_any (w : World) (a : List UInt8) (ha : a.length = 32) :
    Calls Tryd.prog 13 #[.agg (bv a).toArray] w fun e w' => ∃ l, e = .returned (.agg (bv l).toArray) ∧ Vlt (l = wo (ln a ^ FP2)) ∧ Hid (l.length = 32) ∧ Below w.heap.size w w' := by
  have hzw := zero_word
  obtain ⟨W, hW, hgA, hgZ, hbW, hsW⟩ := pair_new w (bv a).toArray (bv z32).toArray 24 24
  have HW := Lib.hid hW
  have HA := Lib.hid ha
  have HS := Lib.hid (bv_size a ha)
  have hs : w.heap.size + 1 < W.heap.size := by have := hsW.out; omega
  clear hW ha hsW
  go_enter Tryd.func13, Tryd.ntmps13
  go_upto_region 1 with fail
  rw [HW.out]
  go_wp2_with (with_reducible refine wpList_load_row rfl 24 (.tmp 1) rfl w.heap.size rfl 24 (bv a).toArray (0, 0) _ hgA.out Tryd.underlying24 rfl (by rw [HS.out]; kernel_rfl) ?_)
  refine (numberOf_any W a HA.out).mono ?_
  rintro e w1 ⟨a0, a1, a2, a3, rfl, e1, ⟨la0, la1, la2, la3⟩, hb1⟩
  have hbw1 := below_next hbW hbW.size hb1
  have hz1 : Hid (w1.heap[w.heap.size + 1]? = some (.cells (bv z32).toArray 24 (0, 0))) := (hb1.block _ (by omega)).trans hgZ.out
  have hs1 : w.heap.size + 1 < w1.heap.size := (Array.getElem?_eq_some_iff.1 hz1.out).1
  go_wp2_with fail
  refine (beneath_255 w1).mono ?_
  rintro e w2 ⟨rfl, hb2⟩
  have hbw2 := below_next hbw1 hbw1.size hb2
  have hz2 : Hid (w2.heap[w.heap.size + 1]? = some (.cells (bv z32).toArray 24 (0, 0))) := (hb2.block _ (by omega)).trans hz1.out
  have hs2 : w.heap.size + 1 < w2.heap.size := (Array.getElem?_eq_some_iff.1 hz2.out).1
  go_wp2_with fail
  refine (power_any w2 a0 a1 a2 a3 18446744073709551595 18446744073709551615 18446744073709551615 9223372036854775807 la0 la1 la2 la3 (by decide) (by decide) (by decide) (by decide)).mono ?_
  rintro e w3 ⟨c0, c1, c2, c3, rfl, e2, ⟨lc0, lc1, lc2, lc3⟩, hb3⟩
  have hbw3 := below_next hbw2 hbw2.size hb3
  have hz3 : Hid (w3.heap[w.heap.size + 1]? = some (.cells (bv z32).toArray 24 (0, 0))) := (hb3.block _ (by omega)).trans hz2.out
  have hs3 : w.heap.size + 1 < w3.heap.size := (Array.getElem?_eq_some_iff.1 hz3.out).1
  go_wp2_with fail
  refine (told_any w3 c0 c1 c2 c3 lc0 lc1 lc2 lc3).mono ?_
  rintro e w4 ⟨l, rfl, e3, HL, hb4⟩
  have HE := vlt (show l = wo (ln a ^ FP2) by rw [e3.out, wo, e2.out, e1.out, fp2_n4])
  clear e1 e2 e3
  have hbw4 := below_next hbw3 hbw3.size hb4
  have hz4 : Hid (w4.heap[w.heap.size + 1]? = some (.cells (bv z32).toArray 24 (0, 0))) := (hb4.block _ (by omega)).trans hz3.out
  have HLS := Lib.hid (bv_size l HL.out)
  go_wp2_with (with_reducible refine wpList_store_row rfl 24 (.tmp 2) (.tmp 7) rfl (w.heap.size + 1) (bv l).toArray rfl rfl 24 _ hz4.out (by rw [HLS.out]; kernel_rfl) (by rw [HLS.out]; kernel_rfl) (all_oneCell_toArray (bv_one _)) ?_)
  refine bodyPost_ret (v := .agg (bv l).toArray) (results_cell_row Tryd.results13 _ _ (w.heap.size + 1) 24 _ (0, 0) _ rfl (setRow_heap _ _ _ _ _ _ hz4.out) Tryd.underlying24 rfl (by rw [HLS.out]; kernel_rfl)) rfl ⟨l, rfl, HE, HL, below_setRow hbw4 (by omega) _⟩

theorem neg64 (m : Nat) (hm : m < 18446744073709551616) : IntKind.u64.wrap (-IntKind.u64.wrap (-(m : Int))) = (m : Int) := by
  simp [IntKind.wrap, IntKind.bits, IntKind.signed]
  omega
theorem zero_n4v : n4 0 0 0 0 = 0 := by decide
theorem one_n4v (m : Nat) : n4 m 0 0 0 = m := by simp only [n4]; omega
set_option maxHeartbeats 1000000 in
theorem of_any (w : World) (n : Int) (hlo : -9223372036854775808 ≤ n) (hhi : n ≤ 9223372036854775807) :
    Calls Tryd.prog 8 #[.int .i64 n] w fun e w' => ∃ l, e = .returned (.agg (bv l).toArray) ∧ Vlt (l = wo (ofF n)) ∧ Hid (l.length = 32) ∧ Below w.heap.size w w' := by
  have hzw := zero_word
  have hzn := zero_n4
  obtain ⟨W, hW, hgZ, hbW, hsW⟩ := one_new w (bv z32).toArray 24
  have HW := Lib.hid hW
  have hs : w.heap.size < W.heap.size := by have := hsW.out; omega
  clear hW hsW
  by_cases hn : n < 0
  · obtain ⟨m, hm⟩ : ∃ m : Nat, n = -(m : Int) := ⟨n.natAbs, by omega⟩
    subst hm
    go_enter Tryd.func8, Tryd.ntmps8
    go_upto_region 1 with fail
    rw [HW.out]
    go_wp2_with fail
    rw [neg64 m (by omega)]
    refine (minus_any W 0 0 0 0 m 0 0 0 (by decide) (by decide) (by decide) (by decide) (by simp only [B64]; omega) (by decide) (by decide) (by decide)).mono ?_
    rintro e w1 ⟨c0, c1, c2, c3, rfl, e1, ⟨lc0, lc1, lc2, lc3⟩, hb1⟩
    have hbw1 := below_next hbW hbW.size hb1
    have hz1 : Hid (w1.heap[w.heap.size]? = some (.cells (bv z32).toArray 24 (0, 0))) := (hb1.block _ hs).trans hgZ.out
    have hs1 : w.heap.size < w1.heap.size := (Array.getElem?_eq_some_iff.1 hz1.out).1
    go_wp2_with fail
    refine (told_any w1 c0 c1 c2 c3 lc0 lc1 lc2 lc3).mono ?_
    rintro e w2 ⟨l, rfl, e2, HL, hb2⟩
    have HE := vlt (show l = wo (ofF (-(m : Int))) by
      have h1 := e1.out
      rw [one_n4v, zero_n4v] at h1
      rw [e2.out, wo, ofF_neg, ← subF_of h1])
    clear e1 e2
    have hbw2 := below_next hbw1 hbw1.size hb2
    have hz2 : Hid (w2.heap[w.heap.size]? = some (.cells (bv z32).toArray 24 (0, 0))) := (hb2.block _ hs1).trans hz1.out
    have HLS := Lib.hid (bv_size l HL.out)
    go_wp2_with (with_reducible refine wpList_store_row rfl 24 (.tmp 2) (.tmp 11) rfl w.heap.size (bv l).toArray rfl rfl 24 _ hz2.out (by rw [HLS.out]; kernel_rfl) (by rw [HLS.out]; kernel_rfl) (all_oneCell_toArray (bv_one _)) ?_)
    refine bodyPost_ret (v := .agg (bv l).toArray) (results_cell_row Tryd.results8 _ _ w.heap.size 24 _ (0, 0) _ rfl (setRow_heap _ _ _ _ _ _ hz2.out) Tryd.underlying24 rfl (by rw [HLS.out]; kernel_rfl)) rfl ⟨l, rfl, HE, HL, below_setRow hbw2 (by omega) _⟩
  · obtain ⟨m, hm⟩ : ∃ m : Nat, n = (m : Int) := ⟨n.natAbs, by omega⟩
    subst hm
    go_enter Tryd.func8, Tryd.ntmps8
    go_upto_region 1 with fail
    rw [HW.out]
    go_wp2_with fail
    refine (told_any W m 0 0 0 (by simp only [B64]; omega) (by decide) (by decide) (by decide)).mono ?_
    rintro e w2 ⟨l, rfl, e2, HL, hb2⟩
    have HE := vlt (show l = wo (ofF (m : Int)) by rw [e2.out, wo, one_n4v, ofF_nat, Nat.mod_mod])
    clear e2
    have hbw2 := below_next hbW hbW.size hb2
    have hz2 : Hid (w2.heap[w.heap.size]? = some (.cells (bv z32).toArray 24 (0, 0))) := (hb2.block _ hs).trans hgZ.out
    have HLS := Lib.hid (bv_size l HL.out)
    go_wp2_with (with_reducible refine wpList_store_row rfl 24 (.tmp 2) (.tmp 15) rfl w.heap.size (bv l).toArray rfl rfl 24 _ hz2.out (by rw [HLS.out]; kernel_rfl) (by rw [HLS.out]; kernel_rfl) (all_oneCell_toArray (bv_one _)) ?_)
    refine bodyPost_ret (v := .agg (bv l).toArray) (results_cell_row Tryd.results8 _ _ w.heap.size 24 _ (0, 0) _ rfl (setRow_heap _ _ _ _ _ _ hz2.out) Tryd.underlying24 rfl (by rw [HLS.out]; kernel_rfl)) rfl ⟨l, rfl, HE, HL, below_setRow hbw2 (by omega) _⟩

set_option maxHeartbeats 1000000 in
theorem good_any (w : World) (a : List UInt8) (ha : a.length = 32) :
    Calls Tryd.prog 11 #[.agg (bv a).toArray] w fun e w' => ∃ b, e = .returned (.bool b) ∧ Vlt (b = decide (wo (ln a) = a)) ∧ Below w.heap.size w w' := by
  obtain ⟨W, hW, hgA, hbW, hsW⟩ := one_new w (bv a).toArray 24
  have HW := Lib.hid hW
  have HA := Lib.hid ha
  have HAS := Lib.hid (show (bv a).length = 32 by rw [bv_len, ha])
  have hs : w.heap.size < W.heap.size := by have := hsW.out; omega
  clear hW ha hsW
  go_enter Tryd.func11, Tryd.ntmps11
  go_upto_region 1 with fail
  rw [HW.out]
  refine wp_region_held_drew (S := (fun W' => W'.heap[w.heap.size]? = some (.cells (bv a).toArray 24 (0, 0)))) (by kernel_rfl) (hgA.out) (fun hHeld => ?_)
  refine wpAnyH_take (i := 0) (oi := ⟨(some 3), _, _, _, _, _⟩) (v := _) rfl (by kernel_rfl) (by kernel_rfl) (by kernel_rfl) (fun _ _ _ h => h) (yieldsIf_load_mid (by rfl) _ _ rfl w.heap.size 0 rfl (bv a) _ (fun W' hW' => range_row hW') (Tryd.underlying24) (rfl) (by rw [HAS.out]; kernel_rfl)) hHeld ?_
  try simp only [Act.put, List.setIfInBounds_toArray, List.set_cons_zero, List.set_cons_succ]
  refine wpAnyH_take (i := 2) (oi := ⟨(some 5), _, _, _, _, _⟩) (v := _) rfl (by kernel_rfl) (by kernel_rfl) (by kernel_rfl) (fun _ _ _ h => h) (yieldsIf_load_mid (by rfl) _ _ rfl w.heap.size 0 rfl (bv a) _ (fun W' hW' => range_row hW') (Tryd.underlying24) (rfl) (by rw [HAS.out]; kernel_rfl)) hHeld ?_
  try simp only [Act.put, List.setIfInBounds_toArray, List.set_cons_zero, List.set_cons_succ]
  refine wpAnyH_ready (rs := [1]) (by kernel_rfl) (by simp) ?_
  refine AllReadyH.cons (i := 1) (o := ⟨(some 4), _, _, _, _, _⟩) rfl (fun K hK => ?_) AllReadyH.nil
  go_simp
  refine (norm_any _ a HA.out).mono ?_
  rintro e w1 ⟨l, rfl, e1, HL, hb1d⟩
  have hb1 : Below W.heap.size W w1 := below_undrew hb1d
  refine hK.out _ _ ((hb1.block _ hs).trans hHeld) (fun hHeld => ?_)
  clear hK K
  try simp only [Act.put, List.setIfInBounds_toArray, List.set_cons_zero, List.set_cons_succ]
  have heq := eql_bytes (P := Tryd.prog) Tryd.underlying24 Tryd.underlying5 Tryd.sizeByte l a HL.out HA.out
  have HE := vlt (show decide (l = a) = decide (wo (ln a) = a) by rw [e1.out])
  generalize decide (l = a) = b at *
  refine wpAnyH_take (i := 3) (oi := ⟨(some 6), _, _, _, _, _⟩) (v := ?vq1_0) rfl (by kernel_rfl) (by kernel_rfl) (by kernel_rfl) (fun _ _ _ h => h) (Or.inl ⟨by rfl, ?yq1_0⟩) hHeld ?_
  case yq1_0 => (intro W0 hSw; go_simp; try with_reducible rfl)
  try simp only [Act.put, List.setIfInBounds_toArray, List.set_cons_zero, List.set_cons_succ]
  refine wpAnyH_take (i := 4) (oi := ⟨(some 2), _, _, _, _, _⟩) (v := ?vq1_1) rfl (by kernel_rfl) (by kernel_rfl) (by kernel_rfl) (fun _ _ _ h => h) (Or.inl ⟨by rfl, ?yq1_1⟩) hHeld ?_
  case yq1_1 => (intro W0 hSw; go_simp; try with_reducible rfl)
  try simp only [Act.put, List.setIfInBounds_toArray, List.set_cons_zero, List.set_cons_succ]
  refine wpAnyH_done (by kernel_rfl) ?_ _
  go_wp2
  go_ret
  exact ⟨b, rfl, HE, below_next hbW hbW.size hb1⟩
end Go.Proofs.YtpnodegmegpooaaDoor
