/-
  Contracts of field's folded, plus, beneath and minus. Conditions: what goes over is at most 38.
-/
import Derived.Test.YtpnodegmegpooaaDoorFdA
namespace Go.Proofs.YtpnodegmegpooaaDoor
open Go.RowKit

theorem fp_mod {x y q : Nat} (h : x = y + FP * q) : x % FP = y % FP := by rw [h, Nat.add_mul_mod_self_left]
theorem fold_sum (N v B o C o2 : Nat) (hv : v ≤ 38) (h1 : B + 115792089237316195423570985008687907853269984665640564039457584007913129639936 * o = N + n4 (38 * v) 0 0 0) (h2 : C + 115792089237316195423570985008687907853269984665640564039457584007913129639936 * o2 = B + n4 (38 * o) 0 0 0)
    (hN : N < 115792089237316195423570985008687907853269984665640564039457584007913129639936) (hB : B < 115792089237316195423570985008687907853269984665640564039457584007913129639936) :
    C % FP = (N + 115792089237316195423570985008687907853269984665640564039457584007913129639936 * v) % FP := by
  refine (fp_mod (q := 2 * v + 2 * o) ?_).symm
  rw [fp_eq]
  simp only [n4] at *
  omega
theorem built_one (a : Nat) : Tryd.prog.built 35 [(0, .int .u64 (a : Int))] = some (u64v [a, 0, 0, 0]).toArray := by kernel_rfl
theorem built_n4 (a b c d : Nat) : Tryd.prog.built 35 [(0, .int .u64 (a : Int)), (1, .int .u64 (b : Int)), (2, .int .u64 (c : Int)), (3, .int .u64 (d : Int))] = some (u64v [a, b, c, d]).toArray := by kernel_rfl
theorem built_z4 : Tryd.prog.built 35 [] = some (u64v [0, 0, 0, 0]).toArray := by kernel_rfl

set_option maxHeartbeats 1000000 in
theorem folded_any (w : World) (a0 a1 a2 a3 v : Nat) (ha0 : a0 < B64) (ha1 : a1 < B64) (ha2 : a2 < B64) (ha3 : a3 < B64) (hv : v ≤ 38) :
    Calls Tryd.prog 46 #[.agg (u64v [a0, a1, a2, a3]).toArray, .int .u64 (v : Int)] w fun e w' => ∃ c0 c1 c2 c3 : Nat, e = .returned (.agg (u64v [c0, c1, c2, c3]).toArray) ∧
      Vlt (n4 c0 c1 c2 c3 % FP = (n4 a0 a1 a2 a3 + 115792089237316195423570985008687907853269984665640564039457584007913129639936 * v) % FP) ∧ (c0 < B64 ∧ c1 < B64 ∧ c2 < B64 ∧ c3 < B64) ∧ Below w.heap.size w w' := by
  have hzn := zero_n4
  obtain ⟨W, hW, hgA, hgZ, hbW, hsW⟩ := pair_new w (u64v [a0, a1, a2, a3]).toArray (u64v z4).toArray 35 35
  have HW := Lib.hid hW
  have hs1 : w.heap.size + 1 < W.heap.size := by have := hsW.out; omega
  clear hW
  have hv64 : 38 * v < B64 := by simp only [B64]; omega
  have ev : (38 : Int) * (v : Int) = ((38 * v : Nat) : Int) := by omega
  have hcall := sum_any W a0 a1 a2 a3 (38 * v) 0 0 0 ha0 ha1 ha2 ha3 hv64 (by decide) (by decide) (by decide)
  have hbt := built_one (38 * v)
  have hN := n4_lt a0 a1 a2 a3 ha0 ha1 ha2 ha3
  have hFS := fold_sum (n4 a0 a1 a2 a3) v
  generalize 38 * v = u at *
  go_enter Tryd.func46, Tryd.ntmps46
  go_upto_region 1 with fail
  rw [HW.out]
  go_wp2_with (first
    | (with_reducible refine wpList_load_row rfl 35 (.tmp 2) rfl w.heap.size rfl 35 (u64v [a0, a1, a2, a3]).toArray (0, 0) _ hgA.out Tryd.underlying35 rfl (by kernel_rfl) ?_)
    | (with_reducible refine wpList_build_to rfl 35 _ rfl [(0, .int .u64 (u : Int))] (by rw [← ev]; rfl) _ hbt ?_))
  refine hcall.mono ?_
  rintro e w1 ⟨b0, b1, b2, b3, o, rfl, e1, ⟨lb0, lb1, lb2, lb3⟩, lo, hb1⟩
  have hg1 : Hid (w1.heap[w.heap.size]? = some (.cells (u64v [a0, a1, a2, a3]).toArray 35 (0, 0))) := (hb1.block _ (by omega)).trans hgA.out
  have hz1 : Hid (w1.heap[w.heap.size + 1]? = some (.cells (u64v z4).toArray 35 (0, 0))) := (hb1.block _ (by omega)).trans hgZ.out
  have hbw := below_next hbW hbW.size hb1
  have hs2 : w.heap.size + 1 < w1.heap.size := by have := hb1.size; omega
  go_upto_region 2 with (with_reducible refine wpList_store_row rfl 35 (.tmp 2) (.tmp 11) rfl w.heap.size (u64v [b0, b1, b2, b3]).toArray rfl rfl 35 _ hg1.out (by kernel_rfl) (by kernel_rfl) (all_oneCell_toArray (u64v_one _)) ?_)
  obtain ⟨w2, hw2⟩ : ∃ w2, w2 = w1.setRow w.heap.size (u64v [b0, b1, b2, b3]).toArray := ⟨_, rfl⟩
  rw [← hw2]
  have hg2 : Hid (w2.heap[w.heap.size]? = some (.cells (u64v [b0, b1, b2, b3]).toArray 35 (0, 0))) := by rw [hw2]; exact setRow_heap _ _ _ _ _ _ hg1.out
  have hb2 : Below w.heap.size w w2 := by rw [hw2]; exact below_setRow hbw (by omega) _
  have hz2 : Hid (w2.heap[w.heap.size + 1]? = some (.cells (u64v z4).toArray 35 (0, 0))) := by rw [hw2]; exact (setRow_other _ _ _ _ (by omega)).trans hz1.out
  have hs3 : w.heap.size + 1 < w2.heap.size := by rw [hw2]; simpa [World.setRow] using hs2
  clear hw2 hg1 hz1 hbw hs2
  have ho64 : 38 * o < B64 := by simp only [B64]; omega
  have eo : (38 : Int) * (o : Int) = ((38 * o : Nat) : Int) := by omega
  have hcall2 := sum_any w2 b0 b1 b2 b3 (38 * o) 0 0 0 lb0 lb1 lb2 lb3 ho64 (by decide) (by decide) (by decide)
  have hFS2 := hFS (n4 b0 b1 b2 b3) o
  have hB := n4_lt b0 b1 b2 b3 lb0 lb1 lb2 lb3
  generalize 38 * o = u2 at *
  go_wp2_with (first
    | (with_reducible refine wpList_load_row rfl 35 (.tmp 2) rfl w.heap.size rfl 35 (u64v [b0, b1, b2, b3]).toArray (0, 0) _ hg2.out Tryd.underlying35 rfl (by kernel_rfl) ?_))
  refine hcall2.mono ?_
  rintro e w3 ⟨c0, c1, c2, c3, o2, rfl, e2, ⟨lc0, lc1, lc2, lc3⟩, _, hb3⟩
  have HE := vlt (hFS2 (n4 c0 c1 c2 c3) o2 hv e1.out e2.out hN hB)
  clear e1 e2 hFS hFS2
  have hg3 : Hid (w3.heap[w.heap.size]? = some (.cells (u64v [b0, b1, b2, b3]).toArray 35 (0, 0))) := (hb3.block _ (by omega)).trans hg2.out
  have hz3 : Hid (w3.heap[w.heap.size + 1]? = some (.cells (u64v z4).toArray 35 (0, 0))) := (hb3.block _ (by omega)).trans hz2.out
  have hbw3 := below_next hb2 (by omega) hb3
  have hs4 : w.heap.size + 1 < w3.heap.size := by have := hb3.size; omega
  go_upto_region 3 with (with_reducible refine wpList_store_row rfl 35 (.tmp 2) (.tmp 19) rfl w.heap.size (u64v [c0, c1, c2, c3]).toArray rfl rfl 35 _ hg3.out (by kernel_rfl) (by kernel_rfl) (all_oneCell_toArray (u64v_one _)) ?_)
  obtain ⟨w4, hw4⟩ : ∃ w4, w4 = w3.setRow w.heap.size (u64v [c0, c1, c2, c3]).toArray := ⟨_, rfl⟩
  rw [← hw4]
  have hg4 : Hid (w4.heap[w.heap.size]? = some (.cells (u64v [c0, c1, c2, c3]).toArray 35 (0, 0))) := by rw [hw4]; exact setRow_heap _ _ _ _ _ _ hg3.out
  have hb4 : Below w.heap.size w w4 := by rw [hw4]; exact below_setRow hbw3 (by omega) _
  have hz4 : Hid (w4.heap[w.heap.size + 1]? = some (.cells (u64v z4).toArray 35 (0, 0))) := by rw [hw4]; exact (setRow_other _ _ _ _ (by omega)).trans hz3.out
  clear hw4 hg3 hz3
  go_wp2_with (first
    | (with_reducible refine wpList_load_row rfl 35 (.tmp 2) rfl w.heap.size rfl 35 (u64v [c0, c1, c2, c3]).toArray (0, 0) _ hg4.out Tryd.underlying35 rfl (by kernel_rfl) ?_)
    | (with_reducible refine wpList_store_row rfl 35 (.tmp 4) (.tmp 21) rfl (w.heap.size + 1) (u64v [c0, c1, c2, c3]).toArray rfl rfl 35 _ hz4.out (by kernel_rfl) (by kernel_rfl) (all_oneCell_toArray (u64v_one _)) ?_))
  refine bodyPost_ret (v := .agg (u64v [c0, c1, c2, c3]).toArray) (results_cell_row Tryd.results46 _ _ (w.heap.size + 1) 35 _ (0, 0) _ rfl (setRow_heap _ _ _ _ _ _ hz4.out) Tryd.underlying35 rfl (by kernel_rfl)) rfl ⟨c0, c1, c2, c3, rfl, HE, ⟨lc0, lc1, lc2, lc3⟩, below_setRow hb4 (by omega) _⟩

set_option maxHeartbeats 1000000 in
theorem plus_any (w : World) (a0 a1 a2 a3 b0 b1 b2 b3 : Nat) (ha0 : a0 < B64) (ha1 : a1 < B64) (ha2 : a2 < B64) (ha3 : a3 < B64) (hb0 : b0 < B64) (hb1 : b1 < B64) (hb2 : b2 < B64) (hb3 : b3 < B64) :
    Calls Tryd.prog 37 #[.agg (u64v [a0, a1, a2, a3]).toArray, .agg (u64v [b0, b1, b2, b3]).toArray] w fun e w' => ∃ c0 c1 c2 c3 : Nat, e = .returned (.agg (u64v [c0, c1, c2, c3]).toArray) ∧
      Vlt (n4 c0 c1 c2 c3 % FP = (n4 a0 a1 a2 a3 + n4 b0 b1 b2 b3) % FP) ∧ (c0 < B64 ∧ c1 < B64 ∧ c2 < B64 ∧ c3 < B64) ∧ Below w.heap.size w w' := by
  have hzn := zero_n4
  obtain ⟨W, hW, hgA, hgB, hgZ, hbW, hsW⟩ := three_new w (u64v [a0, a1, a2, a3]).toArray (u64v [b0, b1, b2, b3]).toArray (u64v z4).toArray 35 35 35
  have HW := Lib.hid hW
  have hs1 : w.heap.size + 2 < W.heap.size := by have := hsW.out; omega
  clear hW
  go_enter Tryd.func37, Tryd.ntmps37
  go_upto_region 1 with fail
  rw [HW.out]
  go_wp2_with (first
    | (with_reducible refine wpList_load_row rfl 35 (.tmp 2) rfl w.heap.size rfl 35 (u64v [a0, a1, a2, a3]).toArray (0, 0) _ hgA.out Tryd.underlying35 rfl (by kernel_rfl) ?_)
    | (with_reducible refine wpList_load_row rfl 35 (.tmp 3) rfl (w.heap.size + 1) rfl 35 (u64v [b0, b1, b2, b3]).toArray (0, 0) _ hgB.out Tryd.underlying35 rfl (by kernel_rfl) ?_))
  refine (sum_any W a0 a1 a2 a3 b0 b1 b2 b3 ha0 ha1 ha2 ha3 hb0 hb1 hb2 hb3).mono ?_
  rintro e w1 ⟨s0, s1, s2, s3, o, rfl, e1, ⟨ls0, ls1, ls2, ls3⟩, lo, hb1'⟩
  have hz1 : Hid (w1.heap[w.heap.size + 1 + 1]? = some (.cells (u64v z4).toArray 35 (0, 0))) := (hb1'.block _ (by omega)).trans hgZ.out
  have hbw := below_next hbW hbW.size hb1'
  have hs2 : w.heap.size + 2 < w1.heap.size := by have := hb1'.size; omega
  go_wp2_with fail
  refine (folded_any w1 s0 s1 s2 s3 o ls0 ls1 ls2 ls3 (by omega)).mono ?_
  rintro e w2 ⟨c0, c1, c2, c3, rfl, e2, lc, hb2'⟩
  have HE := vlt (show n4 c0 c1 c2 c3 % FP = (n4 a0 a1 a2 a3 + n4 b0 b1 b2 b3) % FP by rw [e2.out, e1.out])
  clear e1 e2
  have hz2 : Hid (w2.heap[w.heap.size + 1 + 1]? = some (.cells (u64v z4).toArray 35 (0, 0))) := (hb2'.block _ (by omega)).trans hz1.out
  have hbw2 := below_next hbw hbw.size hb2'
  go_wp2_with (with_reducible refine wpList_store_row rfl 35 (.tmp 4) (.tmp 10) rfl (w.heap.size + 1 + 1) (u64v [c0, c1, c2, c3]).toArray rfl rfl 35 _ hz2.out (by kernel_rfl) (by kernel_rfl) (all_oneCell_toArray (u64v_one _)) ?_)
  refine bodyPost_ret (v := .agg (u64v [c0, c1, c2, c3]).toArray) (results_cell_row Tryd.results37 _ _ (w.heap.size + 1 + 1) 35 _ (0, 0) _ rfl (setRow_heap _ _ _ _ _ _ hz2.out) Tryd.underlying35 rfl (by kernel_rfl)) rfl ⟨c0, c1, c2, c3, rfl, HE, lc, below_setRow hbw2 (by omega) _⟩

end Go.Proofs.YtpnodegmegpooaaDoor
