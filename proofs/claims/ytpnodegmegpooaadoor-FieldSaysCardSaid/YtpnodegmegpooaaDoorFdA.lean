/-
  Contracts of bits.Mul64, field's step, sum and row. Conditions: none.
-/
import Derived.Test.YtpnodegmegpooaaDoorFdS
import Derived.Test.YtpnodegmegpooaaDoorReg
namespace Go.Proofs.YtpnodegmegpooaaDoor
open Go.RowKit

theorem zero_n4 (w : World) : (zeroValue 35).run Tryd.prog w = .ok (.agg (u64v z4).toArray) w := by kernel_rfl
theorem add_run (args : Array Value) (w : World) : (callFunc 53 args).run Tryd.prog w = ((add64Entry args).run Tryd.prog w).andThen fun v w1 => .ok (.value v) w1 :=
  run_callFunc_extern Tryd.func53 (by kernel_rfl) (by kernel_rfl) (by kernel_rfl) (by kernel_rfl) args w

theorem lowN (a : Nat) (ha : a < 18446744073709551616) : bits .and .u64 (a : Int) 4294967295 = ((a % 4294967296 : Nat) : Int) := by
  have h := u64_and_nat a 4294967295 ha (by decide)
  rw [show ((4294967295 : Nat) : Int) = 4294967295 from rfl] at h
  rw [h, show (4294967295 : Nat) = 2 ^ 32 - 1 by decide, Nat.and_two_pow_sub_one_eq_mod, show (2 : Nat) ^ 32 = 4294967296 by decide]
theorem divN (a : Nat) : (a : Int) / 4294967296 = ((a / 4294967296 : Nat) : Int) := by omega
theorem mulN (a b : Nat) : (a : Int) * (b : Int) = ((a * b : Nat) : Int) := (Int.natCast_mul a b).symm
theorem addN (a b : Nat) : (a : Int) + (b : Int) = ((a + b : Nat) : Int) := (Int.natCast_add a b).symm
theorem wrapN (a : Nat) (ha : a < 18446744073709551616) : IntKind.u64.wrap (a : Int) = (a : Int) := by rw [wrap64, Nat.mod_eq_of_lt ha]
set_option maxHeartbeats 1000000 in
theorem mul64_any (w : World) (x y : Nat) (hx : x < B64) (hy : y < B64) :
    Calls Tryd.prog 54 #[.int .u64 (x : Int), .int .u64 (y : Int)] w fun e w' => ∃ h l : Nat, e = .returned (.tuple #[.int .u64 (h : Int), .int .u64 (l : Int)]) ∧ Vlt (l + 18446744073709551616 * h = x * y) ∧ h < B64 ∧ l < B64 ∧ w = w' := by
  obtain ⟨bd, bt, bw, hhi⟩ := Lib.mul64_hi x y hx hy
  have hxy : x * y / 18446744073709551616 < 18446744073709551616 := by
    have h1 : x * y ≤ 18446744073709551615 * 18446744073709551615 := Nat.mul_le_mul (by simp only [B64] at *; omega) (by simp only [B64] at *; omega)
    omega
  have HF := vlt (show x * y % 18446744073709551616 + 18446744073709551616 * (x * y / 18446744073709551616) = x * y by omega)
  have ba := Lib.half_mul_le (a := x / 4294967296) (b := y / 4294967296) (by simp only [B64] at *; omega) (by simp only [B64] at *; omega)
  have bb := Lib.half_mul_le (a := x / 4294967296) (b := y % 4294967296) (by simp only [B64] at *; omega) (by omega)
  have bc := Lib.half_mul_le (a := x % 4294967296) (b := y / 4294967296) (by omega) (by simp only [B64] at *; omega)
  have hhi2 := hhi
  rw [← hhi2] at hxy
  have hlm : x * y % 18446744073709551616 < B64 := Nat.mod_lt _ (by decide)
  have HH := vlt hhi
  clear hhi hhi2
  go_enter Tryd.func54, Tryd.ntmps54
  go_wp2
  simp only [lowN x hx, lowN y hy, divN, mulN, addN, wrapN _ bd, wrapN _ (Nat.lt_of_le_of_lt bb (by decide)), wrapN _ bt, lowN _ bt, wrapN _ (Nat.lt_of_le_of_lt bc (by decide)), wrapN _ bw, wrapN _ (Nat.lt_of_le_of_lt ba (by decide)), wrapN _ (Nat.lt_of_le_of_lt (Nat.le_add_right _ _) hxy), wrapN _ hxy, wrap64 (x * y)]
  go_ret2
  exact ⟨_, _, rfl, vlt (by rw [HH.out]; exact HF.out), by simp only [B64]; omega, hlm, rfl⟩

set_option maxHeartbeats 1000000 in
theorem step_any (w : World) (v x y z : Nat) (hv : v < B64) (hx : x < B64) (hy : y < B64) (hz : z < B64) :
    Calls Tryd.prog 52 #[.int .u64 (v : Int), .int .u64 (x : Int), .int .u64 (y : Int), .int .u64 (z : Int)] w fun e w' => ∃ h l : Nat, e = .returned (.tuple #[.int .u64 (h : Int), .int .u64 (l : Int)]) ∧ Vlt (l + 18446744073709551616 * h = v * x + y + z) ∧ h < B64 ∧ l < B64 ∧ w = w' := by
  go_enter Tryd.func52, Tryd.ntmps52
  go_wp2_with fail
  refine (mul64_any w v x hv hx).mono ?_
  rintro e w' ⟨h, l, rfl, he, lh, ll, rfl⟩
  obtain ⟨s1, o1, r1, e1, ls1, lo1⟩ := add64_ex0 add_run l y ll hy
  obtain ⟨s2, o2, r2, e2, ls2, lo2⟩ := add64_ex0 add_run s1 z ls1 hz
  have hb : h + o1 + o2 < 18446744073709551616 := by
    have h1 : v * x ≤ 18446744073709551615 * 18446744073709551615 := Nat.mul_le_mul (by simp only [B64] at *; omega) (by simp only [B64] at *; omega)
    have h2 := he.out
    have h3 := e1.out
    have h4 := e2.out
    simp only [B64] at *
    generalize v * x = p at *
    omega
  have HE := vlt (show s2 + 18446744073709551616 * (h + o1 + o2) = v * x + y + z by have h2 := he.out; have h3 := e1.out; have h4 := e2.out; generalize v * x = p at *; omega)
  have hb1 : h + o1 < 18446744073709551616 := by omega
  clear he e1 e2
  go_wp2
  rw [show (h : Int) + (o1 : Int) + (o2 : Int) = ((h + o1 + o2 : Nat) : Int) by omega]
  go_ret2
  exact ⟨_, s2, rfl, HE, hb, ls2, rfl⟩

set_option maxHeartbeats 2000000 in
theorem sum_any (w : World) (a0 a1 a2 a3 b0 b1 b2 b3 : Nat) (ha0 : a0 < B64) (ha1 : a1 < B64) (ha2 : a2 < B64) (ha3 : a3 < B64) (hb0 : b0 < B64) (hb1 : b1 < B64) (hb2 : b2 < B64) (hb3 : b3 < B64) :
    Calls Tryd.prog 47 #[.agg (u64v [a0, a1, a2, a3]).toArray, .agg (u64v [b0, b1, b2, b3]).toArray] w fun e w' => ∃ c0 c1 c2 c3 o : Nat, e = .returned (.tuple #[.agg (u64v [c0, c1, c2, c3]).toArray, .int .u64 (o : Int)]) ∧
      Vlt (n4 c0 c1 c2 c3 + 115792089237316195423570985008687907853269984665640564039457584007913129639936 * o = n4 a0 a1 a2 a3 + n4 b0 b1 b2 b3) ∧ (c0 < B64 ∧ c1 < B64 ∧ c2 < B64 ∧ c3 < B64) ∧ o ≤ 1 ∧ Below w.heap.size w w' := by
  have hzn := zero_n4
  obtain ⟨W, hW, hgA, hgB, hgZ, hbW, hsW⟩ := three_new w (u64v [a0, a1, a2, a3]).toArray (u64v [b0, b1, b2, b3]).toArray (u64v z4).toArray 35 35 35
  have HW := Lib.hid hW
  have hs1 : w.heap.size + 2 < W.heap.size := by have := hsW.out; omega
  clear hW
  obtain ⟨c0, o0, r0, e0, lc0, lo0⟩ := add64_ex0 add_run a0 b0 ha0 hb0
  obtain ⟨c1, o1, r1, e1, lc1, lo1⟩ := add64_ex add_run a1 b1 o0 ha1 hb1 lo0
  obtain ⟨c2, o2, r2, e2, lc2, lo2⟩ := add64_ex add_run a2 b2 o1 ha2 hb2 lo1
  obtain ⟨c3, o3, r3, e3, lc3, lo3⟩ := add64_ex add_run a3 b3 o2 ha3 hb3 lo2
  have HE := vlt (sum4 a0 a1 a2 a3 b0 b1 b2 b3 c0 c1 c2 c3 o0 o1 o2 o3 e0.out e1.out e2.out e3.out)
  clear e0 e1 e2 e3
  go_enter Tryd.func47, Tryd.ntmps47
  go_upto_region 1 with fail
  rw [HW.out]
  have ca0 : W.cell? ⟨w.heap.size, 0, none⟩ = some (.int .u64 (a0 : Int)) := long_at hgA.out 0 (by simp)
  have ca1 : W.cell? ⟨w.heap.size, 1, none⟩ = some (.int .u64 (a1 : Int)) := long_at hgA.out 1 (by simp)
  have ca2 : W.cell? ⟨w.heap.size, 2, none⟩ = some (.int .u64 (a2 : Int)) := long_at hgA.out 2 (by simp)
  have ca3 : W.cell? ⟨w.heap.size, 3, none⟩ = some (.int .u64 (a3 : Int)) := long_at hgA.out 3 (by simp)
  have cb0 : W.cell? ⟨w.heap.size + 1, 0, none⟩ = some (.int .u64 (b0 : Int)) := long_at hgB.out 0 (by simp)
  have cb1 : W.cell? ⟨w.heap.size + 1, 1, none⟩ = some (.int .u64 (b1 : Int)) := long_at hgB.out 1 (by simp)
  have cb2 : W.cell? ⟨w.heap.size + 1, 2, none⟩ = some (.int .u64 (b2 : Int)) := long_at hgB.out 2 (by simp)
  have cb3 : W.cell? ⟨w.heap.size + 1, 3, none⟩ = some (.int .u64 (b3 : Int)) := long_at hgB.out 3 (by simp)
  have f0 : W.frozen? ⟨w.heap.size, 0, none⟩ = false := frozen_of_row _ _ _ _ _ hgA.out
  have f1 : W.frozen? ⟨w.heap.size, 1, none⟩ = false := frozen_of_row _ _ _ _ _ hgA.out
  have f2 : W.frozen? ⟨w.heap.size, 2, none⟩ = false := frozen_of_row _ _ _ _ _ hgA.out
  have f3 : W.frozen? ⟨w.heap.size, 3, none⟩ = false := frozen_of_row _ _ _ _ _ hgA.out
  go_upto_region 6 with fail
  obtain ⟨w3, hw3, hg3, hb3⟩ := set_four rfl hgA.out c0 c1 c2 c3
  rw [hw3]
  have hz3 : Hid (w3.heap[w.heap.size + 1 + 1]? = some (.cells (u64v z4).toArray 35 (0, 0))) := (hb3.block _ (by omega) (by intro e; injection e; omega)).trans hgZ.out
  have hbw : Below w.heap.size w w3 := But.below hbW hb3 (by omega) (by omega)
  clear hw3 ca0 ca1 ca2 ca3 cb0 cb1 cb2 cb3 f0 f1 f2 f3
  go_wp2_with (first
    | (with_reducible refine wpList_load_row rfl 35 (.tmp 2) rfl w.heap.size rfl 35 (u64v [c0, c1, c2, c3]).toArray (0, 0) _ hg3.out Tryd.underlying35 rfl (by kernel_rfl) ?_)
    | (with_reducible refine wpList_store_row rfl 35 (.tmp 4) (.tmp 46) rfl (w.heap.size + 1 + 1) (u64v [c0, c1, c2, c3]).toArray rfl rfl 35 _ hz3.out (by kernel_rfl) (by kernel_rfl) (all_oneCell_toArray (u64v_one _)) ?_))
  refine bodyPost_ret (v := .tuple #[.agg (u64v [c0, c1, c2, c3]).toArray, .int .u64 (o3 : Int)]) (results_row_tmp Tryd.results47 _ _ (w.heap.size + 1 + 1) 35 _ (0, 0) _ rfl (setRow_heap _ _ _ _ _ _ hz3.out) Tryd.underlying35 rfl (by kernel_rfl) _ rfl) rfl ⟨c0, c1, c2, c3, o3, rfl, HE, ⟨lc0, lc1, lc2, lc3⟩, lo3, below_setRow hbw (by omega) _⟩

set_option maxHeartbeats 2000000 in
theorem row_any (w : World) (v a0 a1 a2 a3 b0 b1 b2 b3 : Nat) (hv : v < B64) (ha0 : a0 < B64) (ha1 : a1 < B64) (ha2 : a2 < B64) (ha3 : a3 < B64) (hb0 : b0 < B64) (hb1 : b1 < B64) (hb2 : b2 < B64) (hb3 : b3 < B64) :
    Calls Tryd.prog 45 #[.agg (u64v [a0, a1, a2, a3]).toArray, .int .u64 (v : Int), .agg (u64v [b0, b1, b2, b3]).toArray] w fun e w' => ∃ c0 c1 c2 c3 o : Nat, e = .returned (.tuple #[.agg (u64v [c0, c1, c2, c3]).toArray, .int .u64 (o : Int)]) ∧
      Vlt (n4 c0 c1 c2 c3 + 115792089237316195423570985008687907853269984665640564039457584007913129639936 * o = v * n4 a0 a1 a2 a3 + n4 b0 b1 b2 b3) ∧ (c0 < B64 ∧ c1 < B64 ∧ c2 < B64 ∧ c3 < B64) ∧ o < B64 ∧ Below w.heap.size w w' := by
  have hzn := zero_n4
  obtain ⟨W, hW, hgA, hgB, hgZ, hbW, hsW⟩ := three_new w (u64v [a0, a1, a2, a3]).toArray (u64v [b0, b1, b2, b3]).toArray (u64v z4).toArray 35 35 35
  have HW := Lib.hid hW
  have hs1 : w.heap.size + 2 < W.heap.size := by have := hsW.out; omega
  clear hW
  have ca0 : W.cell? ⟨w.heap.size, 0, none⟩ = some (.int .u64 (a0 : Int)) := long_at hgA.out 0 (by simp)
  have ca1 : W.cell? ⟨w.heap.size, 1, none⟩ = some (.int .u64 (a1 : Int)) := long_at hgA.out 1 (by simp)
  have ca2 : W.cell? ⟨w.heap.size, 2, none⟩ = some (.int .u64 (a2 : Int)) := long_at hgA.out 2 (by simp)
  have ca3 : W.cell? ⟨w.heap.size, 3, none⟩ = some (.int .u64 (a3 : Int)) := long_at hgA.out 3 (by simp)
  have cb0 : W.cell? ⟨w.heap.size + 1, 0, none⟩ = some (.int .u64 (b0 : Int)) := long_at hgB.out 0 (by simp)
  have cb1 : W.cell? ⟨w.heap.size + 1, 1, none⟩ = some (.int .u64 (b1 : Int)) := long_at hgB.out 1 (by simp)
  have cb2 : W.cell? ⟨w.heap.size + 1, 2, none⟩ = some (.int .u64 (b2 : Int)) := long_at hgB.out 2 (by simp)
  have cb3 : W.cell? ⟨w.heap.size + 1, 3, none⟩ = some (.int .u64 (b3 : Int)) := long_at hgB.out 3 (by simp)
  have f0 : W.frozen? ⟨w.heap.size, 0, none⟩ = false := frozen_of_row _ _ _ _ _ hgA.out
  have f1 : W.frozen? ⟨w.heap.size, 1, none⟩ = false := frozen_of_row _ _ _ _ _ hgA.out
  have f2 : W.frozen? ⟨w.heap.size, 2, none⟩ = false := frozen_of_row _ _ _ _ _ hgA.out
  have f3 : W.frozen? ⟨w.heap.size, 3, none⟩ = false := frozen_of_row _ _ _ _ _ hgA.out
  go_enter Tryd.func45, Tryd.ntmps45
  go_upto_region 1 with fail
  rw [HW.out]
  go_wp2_with fail
  refine (step_any _ v a0 b0 0 hv ha0 hb0 (by decide)).mono ?_
  rintro e w' ⟨o0, c0, rfl, e0, lo0, lc0, rfl⟩
  go_wp2_with fail
  refine (step_any _ v a1 b1 o0 hv ha1 hb1 lo0).mono ?_
  rintro e w' ⟨o1, c1, rfl, e1, lo1, lc1, rfl⟩
  go_wp2_with fail
  refine (step_any _ v a2 b2 o1 hv ha2 hb2 lo1).mono ?_
  rintro e w' ⟨o2, c2, rfl, e2, lo2, lc2, rfl⟩
  go_wp2_with fail
  refine (step_any _ v a3 b3 o2 hv ha3 hb3 lo2).mono ?_
  rintro e w' ⟨o3, c3, rfl, e3, lo3, lc3, rfl⟩
  have HE := vlt (row4 v a0 a1 a2 a3 b0 b1 b2 b3 c0 c1 c2 c3 o0 o1 o2 o3 e0.out e1.out e2.out e3.out)
  clear e0 e1 e2 e3
  go_upto_region 6 with fail
  obtain ⟨w3, hw3, hg3, hb3⟩ := set_four rfl hgA.out c0 c1 c2 c3
  rw [hw3]
  have hz3 : Hid (w3.heap[w.heap.size + 1 + 1]? = some (.cells (u64v z4).toArray 35 (0, 0))) := (hb3.block _ (by omega) (by intro e; injection e; omega)).trans hgZ.out
  have hbw : Below w.heap.size w w3 := But.below hbW hb3 (by omega) (by omega)
  clear hw3 ca0 ca1 ca2 ca3 cb0 cb1 cb2 cb3 f0 f1 f2 f3
  go_wp2_with (first
    | (with_reducible refine wpList_load_row rfl 35 (.tmp 3) rfl w.heap.size rfl 35 (u64v [c0, c1, c2, c3]).toArray (0, 0) _ hg3.out Tryd.underlying35 rfl (by kernel_rfl) ?_)
    | (with_reducible refine wpList_store_row rfl 35 (.tmp 6) (.tmp 52) rfl (w.heap.size + 1 + 1) (u64v [c0, c1, c2, c3]).toArray rfl rfl 35 _ hz3.out (by kernel_rfl) (by kernel_rfl) (all_oneCell_toArray (u64v_one _)) ?_))
  refine bodyPost_ret (v := .tuple #[.agg (u64v [c0, c1, c2, c3]).toArray, .int .u64 (o3 : Int)]) (results_row_tmp Tryd.results45 _ _ (w.heap.size + 1 + 1) 35 _ (0, 0) _ rfl (setRow_heap _ _ _ _ _ _ hz3.out) Tryd.underlying35 rfl (by kernel_rfl) _ rfl) rfl ⟨c0, c1, c2, c3, o3, rfl, HE, ⟨lc0, lc1, lc2, lc3⟩, lo3, below_setRow hbw (by omega) _⟩
end Go.Proofs.YtpnodegmegpooaaDoor
