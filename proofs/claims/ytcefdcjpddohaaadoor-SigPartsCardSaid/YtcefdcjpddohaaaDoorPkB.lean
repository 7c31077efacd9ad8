/-
  Words and contracts that other texts share, several in one text. No statement of the seat is proved here. Conditions: as each contract says.
  The bytes of a number in four pieces: words that the contract of told uses. No statement is proved here. Conditions: none.
  Words as numbers modulo the prime: no statement is proved here. Conditions: none.
  Contracts of field's step, sum and row. Conditions: none.
  Contracts of field's folded, plus, beneath and minus. Conditions: what goes over is at most 38.
  Contract of octet.FromLittle: the number that up to eight bytes tell, EARG of more. Conditions: the slice is shorter than 2^47 bytes.
  The beginning of an array behind a pointer. No statement is proved here. Conditions: none.
  Contracts of field's beneath, minus and numberOf. Conditions: a word has 32 bytes.
  A result's cells, read and written: words that other texts share. No statement is proved here. Conditions: none.
  Contract of field's told: the number modulo the prime, its 32 bytes. Conditions: none.
-/
import Derived.Test.YtcefdcjpddohaaaDoorPkA
import Derived.LoopTactic
import Derived.RegionTactic
import Derived.Deep.QuietTactic
import Derived.BigQuiet
import Derived.BigRegion
import Derived.Laws.BitsAllLaws
namespace Go.Proofs.YtcefdcjpddohaaaDoor
open Go.RowKit

/-- The first k bytes of each piece. -/
def quart (a b c d k : Nat) : List UInt8 := uptoB 8 (le a k) ++ (uptoB 8 (le b k) ++ (uptoB 8 (le c k) ++ uptoB 8 (le d k)))
theorem uptoB_put (n : Nat) (l : List UInt8) (x : UInt8) (h : l.length < n) : (uptoB n l).set l.length x = uptoB n (l ++ [x]) := by
  obtain ⟨m, hm⟩ : ∃ m, n - l.length = m + 1 := ⟨n - l.length - 1, by omega⟩
  rw [uptoB, uptoB, List.set_append_right _ _ (Nat.le_refl _), Nat.sub_self, hm, List.replicate_succ, List.set_cons_zero, List.length_append, List.append_assoc]
  congr 3
  simp; omega
theorem le_put (a k : Nat) (h : k < 8) : (uptoB 8 (le a k)).set k (UInt8.ofNat (a / 2 ^ (8 * k))) = uptoB 8 (le a (k + 1)) := by
  have h1 := uptoB_put 8 (le a k) (UInt8.ofNat (a / 2 ^ (8 * k))) (by rw [le_len]; exact h)
  rw [le_len] at h1
  exact h1
theorem set_r8 (A B : List UInt8) (j : Nat) (x : UInt8) (h : A.length = 8) : (A ++ B).set (j + 8) x = A ++ B.set j x := by
  rw [List.set_append_right _ _ (by omega), h, Nat.add_sub_cancel]
theorem set_l8 (A B : List UInt8) (j : Nat) (x : UInt8) (h : A.length = 8) (hj : j < 8) : (A ++ B).set j x = A.set j x ++ B := List.set_append_left _ _ (by omega)
theorem quart_set (a b c d k : Nat) (h : k < 8) : ((((quart a b c d k).set k (UInt8.ofNat (a / 2 ^ (8 * k)))).set (k + 8) (UInt8.ofNat (b / 2 ^ (8 * k)))).set (k + 16) (UInt8.ofNat (c / 2 ^ (8 * k)))).set (k + 24) (UInt8.ofNat (d / 2 ^ (8 * k))) = quart a b c d (k + 1) := by
  have hl : ∀ v j, j ≤ 8 → (uptoB 8 (le v j)).length = 8 := fun v j hj => uptoB_len 8 _ (by rw [le_len]; exact hj)
  have l0 := hl a k (by omega)
  have l1 := hl b k (by omega)
  have l2 := hl c k (by omega)
  have l0' := hl a (k + 1) (by omega)
  have l1' := hl b (k + 1) (by omega)
  have l2' := hl c (k + 1) (by omega)
  simp only [quart]
  rw [set_l8 _ _ _ _ l0 h, le_put a k h, set_r8 _ _ _ _ l0', set_l8 _ _ _ _ l1 h, le_put b k h, show k + 16 = k + 8 + 8 from rfl, set_r8 _ _ _ _ l0', set_r8 _ _ _ _ l1', set_l8 _ _ _ _ l2 h, le_put c k h,
    show k + 24 = k + 8 + 8 + 8 from rfl, set_r8 _ _ _ _ l0', set_r8 _ _ _ _ l1', set_r8 _ _ _ _ l2', le_put d k h]
theorem byte_low (a r n k : Nat) (h : k < n) : UInt8.ofNat ((a + 2 ^ (8 * n) * r) / 2 ^ (8 * k)) = UInt8.ofNat (a / 2 ^ (8 * k)) := by
  obtain ⟨m, rfl⟩ : ∃ m, n = k + 1 + m := ⟨n - (k + 1), by omega⟩
  have e : 2 ^ (8 * (k + 1 + m)) * r = 2 ^ (8 * k) * (256 * (2 ^ (8 * m) * r)) := by
    rw [show 8 * (k + 1 + m) = 8 * k + (8 + 8 * m) by omega, Nat.pow_add, Nat.pow_add, show (2 : Nat) ^ 8 = 256 by decide]
    grind
  rw [e, Nat.add_mul_div_left _ _ (Nat.two_pow_pos _)]
  apply UInt8.toNat_inj.1
  simp [UInt8.toNat_ofNat']
theorem le_low (a r n : Nat) : ∀ k, k ≤ n → le (a + 2 ^ (8 * n) * r) k = le a k
  | 0, _ => rfl
  | k + 1, h => by rw [le, le, le_low a r n k (by omega), byte_low a r n k (by omega)]
theorem le_join (a r m : Nat) (ha : a < 18446744073709551616) : le (a + 18446744073709551616 * r) (8 + m) = le a 8 ++ le r m := by
  have h := le_low a r 8 8 (Nat.le_refl _)
  rw [show (2 : Nat) ^ (8 * 8) = 18446744073709551616 by decide] at h
  rw [le_add, h, show (2 : Nat) ^ (8 * 8) = 18446744073709551616 by decide, Nat.add_mul_div_left _ _ (by decide), Nat.div_eq_of_lt ha, Nat.zero_add]
theorem quart_all (a b c d : Nat) (ha : a < 18446744073709551616) (hb : b < 18446744073709551616) (hc : c < 18446744073709551616) : quart a b c d 8 = le (n4 a b c d) 32 := by
  rw [quart, uptoB_all _ _ (le_len _ _), uptoB_all _ _ (le_len _ _), uptoB_all _ _ (le_len _ _), uptoB_all _ _ (le_len _ _)]
  rw [show n4 a b c d = a + 18446744073709551616 * (b + 18446744073709551616 * (c + 18446744073709551616 * d)) by simp only [n4]; omega, show (32 : Nat) = 8 + (8 + (8 + 8)) from rfl, le_join _ _ _ ha, le_join _ _ _ hb, le_join _ _ _ hc]
end Go.Proofs.YtcefdcjpddohaaaDoor
namespace Go.Proofs.YtcefdcjpddohaaaDoor
open Go.RowKit

/-- The word of a number. -/
def wo (N : Nat) : List UInt8 := le (N % FP) 32
theorem wo_len (N : Nat) : (wo N).length = 32 := le_len _ _
theorem fp_pos : 0 < FP := by decide
theorem ln_wo (N : Nat) : ln (wo N) = N % FP := by
  rw [wo, ln_le, Nat.mod_eq_of_lt (Nat.lt_trans (Nat.mod_lt _ fp_pos) (by decide))]
theorem wo_of {N M : Nat} (h : N % FP = M % FP) : wo N = wo M := by rw [wo, wo, h]
theorem wo_ln (l : List UInt8) (h : l.length = 32) (h2 : ln l < FP) : wo (ln l) = l := ln_inj _ _ (by rw [wo_len, h]) (by rw [ln_wo, Nat.mod_eq_of_lt h2])
theorem wo_inj {N M : Nat} (h : wo N = wo M) : N % FP = M % FP := by rw [← ln_wo, ← ln_wo, h]
/-- Less, modulo the prime; a whole number, modulo the prime. -/
def subF (x y : Nat) : Nat := x + (FP - y % FP)
theorem subF_of {c b a : Nat} (h : (c + b) % FP = a % FP) : c % FP = subF a b % FP := by
  have hb : b % FP < FP := Nat.mod_lt _ fp_pos
  have h1 : (c + b + (FP - b % FP)) % FP = subF a b % FP := by rw [subF, Nat.add_mod, h, ← Nat.add_mod]
  rw [← h1]
  have h2 : c + b + (FP - b % FP) = c + FP * (b / FP + 1) := by
    have := Nat.div_add_mod b FP
    rw [Nat.mul_add, Nat.mul_one]
    omega
  rw [h2, Nat.add_mul_mod_self_left]
theorem subF_add (a b : Nat) : (subF a b + b) % FP = a % FP := by
  have hb : b % FP < FP := Nat.mod_lt _ fp_pos
  have h2 : subF a b + b = a + FP * (b / FP + 1) := by
    have := Nat.div_add_mod b FP
    rw [subF, Nat.mul_add, Nat.mul_one]
    omega
  rw [h2, Nat.add_mul_mod_self_left]
theorem subF_mod (a b : Nat) : subF (a % FP) (b % FP) % FP = subF a b % FP := by
  simp only [subF, Nat.mod_mod, Nat.mod_add_mod]
def ofF (n : Int) : Nat := (n % (FP : Int)).toNat
theorem ofF_nat (n : Nat) : ofF (n : Int) = n % FP := by
  rw [ofF]; omega
theorem ofF_neg (n : Nat) : ofF (-(n : Int)) % FP = subF 0 n % FP := by
  have h : (ofF (-(n : Int)) + n) % FP = 0 % FP := by
    have hp : (0 : Int) < (FP : Int) := by decide
    have h1 := Int.emod_nonneg (-(n : Int)) (Int.ne_of_gt hp)
    have h2 : ((ofF (-(n : Int)) : Nat) : Int) = -(n : Int) % (FP : Int) := Int.toNat_of_nonneg h1
    have h3 : (((ofF (-(n : Int)) + n) % FP : Nat) : Int) = 0 := by
      rw [Int.natCast_emod, Int.natCast_add, h2, Int.emod_add_emod, Int.add_left_neg, Int.zero_emod]
    rw [Nat.zero_mod]
    omega
  exact subF_of h
theorem ofF_int (n : Int) : ((ofF n : Nat) : Int) = n % (FP : Int) := Int.toNat_of_nonneg (Int.emod_nonneg _ (by decide))
theorem ofF_lt (n : Int) : ofF n < FP := by
  have h1 := Int.emod_lt_of_pos n (show (0 : Int) < (FP : Int) by decide)
  have h2 := ofF_int n
  omega
theorem ofF_add (a b : Int) : (ofF a + ofF b) % FP = ofF (a + b) % FP := by
  have h : (((ofF a + ofF b) % FP : Nat) : Int) = ((ofF (a + b) % FP : Nat) : Int) := by
    rw [Int.natCast_emod, Int.natCast_emod, Int.natCast_add, ofF_int, ofF_int, ofF_int, ← Int.add_emod, Int.emod_emod]
  exact Int.ofNat.inj h
theorem ofF_mul (a b : Int) : (ofF a * ofF b) % FP = ofF (a * b) % FP := by
  have h : (((ofF a * ofF b) % FP : Nat) : Int) = ((ofF (a * b) % FP : Nat) : Int) := by
    rw [Int.natCast_emod, Int.natCast_emod, Int.natCast_mul, ofF_int, ofF_int, ofF_int, ← Int.mul_emod, Int.emod_emod]
  exact Int.ofNat.inj h
theorem ofF_sub (a b : Int) : subF (ofF a) (ofF b) % FP = ofF (a - b) % FP := by
  refine (subF_of ?_).symm
  rw [ofF_add, Int.sub_add_cancel]
theorem ofF_inj (a b : Int) (ha : -4294967296 < a) (ha2 : a < 4294967296) (hb : -4294967296 < b) (hb2 : b < 4294967296) (h : ofF a = ofF b) : a = b := by
  have h1 : a % (FP : Int) = b % (FP : Int) := by rw [← ofF_int, ← ofF_int, h]
  rw [show (FP : Int) = 57896044618658097711785492504343953926634992332820282019728792003956564819949 from rfl] at h1
  omega
theorem prod32 (a b : Int) (ha : -2147483648 ≤ a) (ha2 : a ≤ 2147483647) (hb : -2147483648 ≤ b) (hb2 : b ≤ 2147483647) : -4611686018427387904 ≤ a * b ∧ a * b ≤ 4611686018427387904 := by
  have h : (a * b).natAbs ≤ 2147483648 * 2147483648 := by
    rw [Int.natAbs_mul]
    exact Nat.mul_le_mul (by omega) (by omega)
  omega
end Go.Proofs.YtcefdcjpddohaaaDoor
namespace Go.Proofs.YtcefdcjpddohaaaDoor
open Go.RowKit

theorem zero_n4 (w : World) : (zeroValue 96).run Tryd.prog w = .ok (.agg (u64v z4).toArray) w := by kernel_rfl
set_option maxRecDepth 100000 in
set_option maxHeartbeats 1000000 in
theorem step_any (w : World) (v x y z : Nat) (hv : v < B64) (hx : x < B64) (hy : y < B64) (hz : z < B64) :
    Calls Tryd.prog 79 #[.int .u64 (v : Int), .int .u64 (x : Int), .int .u64 (y : Int), .int .u64 (z : Int)] w fun e w' => ∃ h l : Nat, e = .returned (.tuple #[.int .u64 (h : Int), .int .u64 (l : Int)]) ∧ Vlt (l + 18446744073709551616 * h = v * x + y + z) ∧ h < B64 ∧ l < B64 ∧ w = w' := by
  go_enter Tryd.func79, Tryd.ntmps79
  go_wp2_with fail
  refine (mul64_any w v x hv hx).mono ?_
  rintro e w' ⟨h, l, rfl, he, lh, ll, rfl⟩
  obtain ⟨s1, o1, r1, e1, ls1, lo1⟩ := add64_ex0 add_run l y ll hy
  obtain ⟨s2, o2, r2, e2, ls2, lo2⟩ := add64_ex0 add_run s1 z ls1 hz
  have hb : h + o1 + o2 < 18446744073709551616 := by
    have h1 : v * x ≤ 18446744073709551615 * 18446744073709551615 := Nat.mul_le_mul (by simp only [B64] at *; omega) (by simp only [B64] at *; omega)
    have h2 := he.out
    have h3 := e1.out
    have h4 := e2.out
    simp only [B64] at *
    generalize v * x = p at *
    omega
  have HE := vlt (show s2 + 18446744073709551616 * (h + o1 + o2) = v * x + y + z by have h2 := he.out; have h3 := e1.out; have h4 := e2.out; generalize v * x = p at *; omega)
  have hb1 : h + o1 < 18446744073709551616 := by omega
  clear he e1 e2
  go_wp2
  rw [show (h : Int) + (o1 : Int) + (o2 : Int) = ((h + o1 + o2 : Nat) : Int) by omega]
  go_ret2
  exact ⟨_, s2, rfl, HE, hb, ls2, rfl⟩

set_option maxRecDepth 100000 in
set_option maxHeartbeats 2000000 in
theorem sum_any (w : World) (a0 a1 a2 a3 b0 b1 b2 b3 : Nat) (ha0 : a0 < B64) (ha1 : a1 < B64) (ha2 : a2 < B64) (ha3 : a3 < B64) (hb0 : b0 < B64) (hb1 : b1 < B64) (hb2 : b2 < B64) (hb3 : b3 < B64) :
    Calls Tryd.prog 74 #[.agg (u64v [a0, a1, a2, a3]).toArray, .agg (u64v [b0, b1, b2, b3]).toArray] w fun e w' => ∃ c0 c1 c2 c3 o : Nat, e = .returned (.tuple #[.agg (u64v [c0, c1, c2, c3]).toArray, .int .u64 (o : Int)]) ∧
      Vlt (n4 c0 c1 c2 c3 + 115792089237316195423570985008687907853269984665640564039457584007913129639936 * o = n4 a0 a1 a2 a3 + n4 b0 b1 b2 b3) ∧ (c0 < B64 ∧ c1 < B64 ∧ c2 < B64 ∧ c3 < B64) ∧ o ≤ 1 ∧ Below w.heap.size w w' := by
  have hzn := zero_n4
  obtain ⟨W, hW, hgA, hgB, hgZ, hbW, hsW⟩ := three_new w (u64v [a0, a1, a2, a3]).toArray (u64v [b0, b1, b2, b3]).toArray (u64v z4).toArray 96 96 96
  have HW := Lib.hid hW
  have hs1 : w.heap.size + 2 < W.heap.size := by have := hsW.out; omega
  clear hW
  obtain ⟨c0, o0, r0, e0, lc0, lo0⟩ := add64_ex0 add_run a0 b0 ha0 hb0
  obtain ⟨c1, o1, r1, e1, lc1, lo1⟩ := add64_ex add_run a1 b1 o0 ha1 hb1 lo0
  obtain ⟨c2, o2, r2, e2, lc2, lo2⟩ := add64_ex add_run a2 b2 o1 ha2 hb2 lo1
  obtain ⟨c3, o3, r3, e3, lc3, lo3⟩ := add64_ex add_run a3 b3 o2 ha3 hb3 lo2
  have HE := vlt (sum4 a0 a1 a2 a3 b0 b1 b2 b3 c0 c1 c2 c3 o0 o1 o2 o3 e0.out e1.out e2.out e3.out)
  clear e0 e1 e2 e3
  go_enter Tryd.func74, Tryd.ntmps74
  go_upto_region 1 with fail
  rw [HW.out]
  have ca0 : W.cell? ⟨w.heap.size, 0, none⟩ = some (.int .u64 (a0 : Int)) := long_at hgA.out 0 (by simp)
  have ca1 : W.cell? ⟨w.heap.size, 1, none⟩ = some (.int .u64 (a1 : Int)) := long_at hgA.out 1 (by simp)
  have ca2 : W.cell? ⟨w.heap.size, 2, none⟩ = some (.int .u64 (a2 : Int)) := long_at hgA.out 2 (by simp)
  have ca3 : W.cell? ⟨w.heap.size, 3, none⟩ = some (.int .u64 (a3 : Int)) := long_at hgA.out 3 (by simp)
  have cb0 : W.cell? ⟨w.heap.size + 1, 0, none⟩ = some (.int .u64 (b0 : Int)) := long_at hgB.out 0 (by simp)
  have cb1 : W.cell? ⟨w.heap.size + 1, 1, none⟩ = some (.int .u64 (b1 : Int)) := long_at hgB.out 1 (by simp)
  have cb2 : W.cell? ⟨w.heap.size + 1, 2, none⟩ = some (.int .u64 (b2 : Int)) := long_at hgB.out 2 (by simp)
  have cb3 : W.cell? ⟨w.heap.size + 1, 3, none⟩ = some (.int .u64 (b3 : Int)) := long_at hgB.out 3 (by simp)
  have f0 : W.frozen? ⟨w.heap.size, 0, none⟩ = false := frozen_of_row _ _ _ _ _ hgA.out
  have f1 : W.frozen? ⟨w.heap.size, 1, none⟩ = false := frozen_of_row _ _ _ _ _ hgA.out
  have f2 : W.frozen? ⟨w.heap.size, 2, none⟩ = false := frozen_of_row _ _ _ _ _ hgA.out
  have f3 : W.frozen? ⟨w.heap.size, 3, none⟩ = false := frozen_of_row _ _ _ _ _ hgA.out
  go_upto_region 6 with fail
  obtain ⟨w3, hw3, hg3, hb3⟩ := set_four rfl hgA.out c0 c1 c2 c3
  rw [hw3]
  have hz3 : Hid (w3.heap[w.heap.size + 1 + 1]? = some (.cells (u64v z4).toArray 96 (0, 0))) := (hb3.block _ (by omega) (by intro e; injection e; omega)).trans hgZ.out
  have hbw : Below w.heap.size w w3 := But.below hbW hb3 (by omega) (by omega)
  clear hw3 ca0 ca1 ca2 ca3 cb0 cb1 cb2 cb3 f0 f1 f2 f3
  go_wp2_with (first
    | (with_reducible refine wpList_load_row rfl 96 (.tmp 2) rfl w.heap.size rfl 96 (u64v [c0, c1, c2, c3]).toArray (0, 0) _ hg3.out Tryd.underlying96 rfl (by kernel_rfl) ?_)
    | (with_reducible refine wpList_store_row rfl 96 (.tmp 4) (.tmp 46) rfl (w.heap.size + 1 + 1) (u64v [c0, c1, c2, c3]).toArray rfl rfl 96 _ hz3.out (by kernel_rfl) (by kernel_rfl) (all_oneCell_toArray (u64v_one _)) ?_))
  refine bodyPost_ret (v := .tuple #[.agg (u64v [c0, c1, c2, c3]).toArray, .int .u64 (o3 : Int)]) (results_row_tmp Tryd.results74 _ _ (w.heap.size + 1 + 1) 96 _ (0, 0) _ rfl (setRow_heap _ _ _ _ _ _ hz3.out) Tryd.underlying96 rfl (by kernel_rfl) _ rfl) rfl ⟨c0, c1, c2, c3, o3, rfl, HE, ⟨lc0, lc1, lc2, lc3⟩, lo3, below_setRow hbw (by omega) _⟩

set_option maxRecDepth 100000 in
set_option maxHeartbeats 2000000 in
theorem row_any (w : World) (v a0 a1 a2 a3 b0 b1 b2 b3 : Nat) (hv : v < B64) (ha0 : a0 < B64) (ha1 : a1 < B64) (ha2 : a2 < B64) (ha3 : a3 < B64) (hb0 : b0 < B64) (hb1 : b1 < B64) (hb2 : b2 < B64) (hb3 : b3 < B64) :
    Calls Tryd.prog 75 #[.agg (u64v [a0, a1, a2, a3]).toArray, .int .u64 (v : Int), .agg (u64v [b0, b1, b2, b3]).toArray] w fun e w' => ∃ c0 c1 c2 c3 o : Nat, e = .returned (.tuple #[.agg (u64v [c0, c1, c2, c3]).toArray, .int .u64 (o : Int)]) ∧
      Vlt (n4 c0 c1 c2 c3 + 115792089237316195423570985008687907853269984665640564039457584007913129639936 * o = v * n4 a0 a1 a2 a3 + n4 b0 b1 b2 b3) ∧ (c0 < B64 ∧ c1 < B64 ∧ c2 < B64 ∧ c3 < B64) ∧ o < B64 ∧ Below w.heap.size w w' := by
  have hzn := zero_n4
  obtain ⟨W, hW, hgA, hgB, hgZ, hbW, hsW⟩ := three_new w (u64v [a0, a1, a2, a3]).toArray (u64v [b0, b1, b2, b3]).toArray (u64v z4).toArray 96 96 96
  have HW := Lib.hid hW
  have hs1 : w.heap.size + 2 < W.heap.size := by have := hsW.out; omega
  clear hW
  have ca0 : W.cell? ⟨w.heap.size, 0, none⟩ = some (.int .u64 (a0 : Int)) := long_at hgA.out 0 (by simp)
  have ca1 : W.cell? ⟨w.heap.size, 1, none⟩ = some (.int .u64 (a1 : Int)) := long_at hgA.out 1 (by simp)
  have ca2 : W.cell? ⟨w.heap.size, 2, none⟩ = some (.int .u64 (a2 : Int)) := long_at hgA.out 2 (by simp)
  have ca3 : W.cell? ⟨w.heap.size, 3, none⟩ = some (.int .u64 (a3 : Int)) := long_at hgA.out 3 (by simp)
  have cb0 : W.cell? ⟨w.heap.size + 1, 0, none⟩ = some (.int .u64 (b0 : Int)) := long_at hgB.out 0 (by simp)
  have cb1 : W.cell? ⟨w.heap.size + 1, 1, none⟩ = some (.int .u64 (b1 : Int)) := long_at hgB.out 1 (by simp)
  have cb2 : W.cell? ⟨w.heap.size + 1, 2, none⟩ = some (.int .u64 (b2 : Int)) := long_at hgB.out 2 (by simp)
  have cb3 : W.cell? ⟨w.heap.size + 1, 3, none⟩ = some (.int .u64 (b3 : Int)) := long_at hgB.out 3 (by simp)
  have f0 : W.frozen? ⟨w.heap.size, 0, none⟩ = false := frozen_of_row _ _ _ _ _ hgA.out
  have f1 : W.frozen? ⟨w.heap.size, 1, none⟩ = false := frozen_of_row _ _ _ _ _ hgA.out
  have f2 : W.frozen? ⟨w.heap.size, 2, none⟩ = false := frozen_of_row _ _ _ _ _ hgA.out
  have f3 : W.frozen? ⟨w.heap.size, 3, none⟩ = false := frozen_of_row _ _ _ _ _ hgA.out
  go_enter Tryd.func75, Tryd.ntmps75
  go_upto_region 1 with fail
  rw [HW.out]
  go_wp2_with fail
  refine (step_any _ v a0 b0 0 hv ha0 hb0 (by decide)).mono ?_
  rintro e w' ⟨o0, c0, rfl, e0, lo0, lc0, rfl⟩
  go_wp2_with fail
  refine (step_any _ v a1 b1 o0 hv ha1 hb1 lo0).mono ?_
  rintro e w' ⟨o1, c1, rfl, e1, lo1, lc1, rfl⟩
  go_wp2_with fail
  refine (step_any _ v a2 b2 o1 hv ha2 hb2 lo1).mono ?_
  rintro e w' ⟨o2, c2, rfl, e2, lo2, lc2, rfl⟩
  go_wp2_with fail
  refine (step_any _ v a3 b3 o2 hv ha3 hb3 lo2).mono ?_
  rintro e w' ⟨o3, c3, rfl, e3, lo3, lc3, rfl⟩
  have HE := vlt (row4 v a0 a1 a2 a3 b0 b1 b2 b3 c0 c1 c2 c3 o0 o1 o2 o3 e0.out e1.out e2.out e3.out)
  clear e0 e1 e2 e3
  go_upto_region 6 with fail
  obtain ⟨w3, hw3, hg3, hb3⟩ := set_four rfl hgA.out c0 c1 c2 c3
  rw [hw3]
  have hz3 : Hid (w3.heap[w.heap.size + 1 + 1]? = some (.cells (u64v z4).toArray 96 (0, 0))) := (hb3.block _ (by omega) (by intro e; injection e; omega)).trans hgZ.out
  have hbw : Below w.heap.size w w3 := But.below hbW hb3 (by omega) (by omega)
  clear hw3 ca0 ca1 ca2 ca3 cb0 cb1 cb2 cb3 f0 f1 f2 f3
  go_wp2_with (first
    | (with_reducible refine wpList_load_row rfl 96 (.tmp 3) rfl w.heap.size rfl 96 (u64v [c0, c1, c2, c3]).toArray (0, 0) _ hg3.out Tryd.underlying96 rfl (by kernel_rfl) ?_)
    | (with_reducible refine wpList_store_row rfl 96 (.tmp 6) (.tmp 52) rfl (w.heap.size + 1 + 1) (u64v [c0, c1, c2, c3]).toArray rfl rfl 96 _ hz3.out (by kernel_rfl) (by kernel_rfl) (all_oneCell_toArray (u64v_one _)) ?_))
  refine bodyPost_ret (v := .tuple #[.agg (u64v [c0, c1, c2, c3]).toArray, .int .u64 (o3 : Int)]) (results_row_tmp Tryd.results75 _ _ (w.heap.size + 1 + 1) 96 _ (0, 0) _ rfl (setRow_heap _ _ _ _ _ _ hz3.out) Tryd.underlying96 rfl (by kernel_rfl) _ rfl) rfl ⟨c0, c1, c2, c3, o3, rfl, HE, ⟨lc0, lc1, lc2, lc3⟩, lo3, below_setRow hbw (by omega) _⟩
end Go.Proofs.YtcefdcjpddohaaaDoor
namespace Go.Proofs.YtcefdcjpddohaaaDoor
open Go.RowKit

theorem fp_mod {x y q : Nat} (h : x = y + FP * q) : x % FP = y % FP := by rw [h, Nat.add_mul_mod_self_left]
theorem fold_sum (N v B o C o2 : Nat) (hv : v ≤ 38) (h1 : B + 115792089237316195423570985008687907853269984665640564039457584007913129639936 * o = N + n4 (38 * v) 0 0 0) (h2 : C + 115792089237316195423570985008687907853269984665640564039457584007913129639936 * o2 = B + n4 (38 * o) 0 0 0)
    (hN : N < 115792089237316195423570985008687907853269984665640564039457584007913129639936) (hB : B < 115792089237316195423570985008687907853269984665640564039457584007913129639936) :
    C % FP = (N + 115792089237316195423570985008687907853269984665640564039457584007913129639936 * v) % FP := by
  refine (fp_mod (q := 2 * v + 2 * o) ?_).symm
  rw [fp_eq]
  simp only [n4] at *
  omega
theorem built_one (a : Nat) : Tryd.prog.built 96 [(0, .int .u64 (a : Int))] = some (u64v [a, 0, 0, 0]).toArray := by kernel_rfl
theorem built_n4 (a b c d : Nat) : Tryd.prog.built 96 [(0, .int .u64 (a : Int)), (1, .int .u64 (b : Int)), (2, .int .u64 (c : Int)), (3, .int .u64 (d : Int))] = some (u64v [a, b, c, d]).toArray := by kernel_rfl
theorem built_z4 : Tryd.prog.built 96 [] = some (u64v [0, 0, 0, 0]).toArray := by kernel_rfl

set_option maxRecDepth 100000 in
set_option maxHeartbeats 1000000 in
theorem folded_any (w : World) (a0 a1 a2 a3 v : Nat) (ha0 : a0 < B64) (ha1 : a1 < B64) (ha2 : a2 < B64) (ha3 : a3 < B64) (hv : v ≤ 38) :
    Calls Tryd.prog 76 #[.agg (u64v [a0, a1, a2, a3]).toArray, .int .u64 (v : Int)] w fun e w' => ∃ c0 c1 c2 c3 : Nat, e = .returned (.agg (u64v [c0, c1, c2, c3]).toArray) ∧
      Vlt (n4 c0 c1 c2 c3 % FP = (n4 a0 a1 a2 a3 + 115792089237316195423570985008687907853269984665640564039457584007913129639936 * v) % FP) ∧ (c0 < B64 ∧ c1 < B64 ∧ c2 < B64 ∧ c3 < B64) ∧ Below w.heap.size w w' := by
  have hzn := zero_n4
  obtain ⟨W, hW, hgA, hgZ, hbW, hsW⟩ := pair_new w (u64v [a0, a1, a2, a3]).toArray (u64v z4).toArray 96 96
  have HW := Lib.hid hW
  have hs1 : w.heap.size + 1 < W.heap.size := by have := hsW.out; omega
  clear hW
  have hv64 : 38 * v < B64 := by simp only [B64]; omega
  have ev : (38 : Int) * (v : Int) = ((38 * v : Nat) : Int) := by omega
  have hcall := sum_any W a0 a1 a2 a3 (38 * v) 0 0 0 ha0 ha1 ha2 ha3 hv64 (by decide) (by decide) (by decide)
  have hbt := built_one (38 * v)
  have hN := n4_lt a0 a1 a2 a3 ha0 ha1 ha2 ha3
  have hFS := fold_sum (n4 a0 a1 a2 a3) v
  generalize 38 * v = u at *
  go_enter Tryd.func76, Tryd.ntmps76
  go_upto_region 1 with fail
  rw [HW.out]
  go_wp2_with (first
    | (with_reducible refine wpList_load_row rfl 96 (.tmp 2) rfl w.heap.size rfl 96 (u64v [a0, a1, a2, a3]).toArray (0, 0) _ hgA.out Tryd.underlying96 rfl (by kernel_rfl) ?_)
    | (with_reducible refine wpList_build_to rfl 96 _ rfl [(0, .int .u64 (u : Int))] (by rw [← ev]; rfl) _ hbt ?_))
  refine hcall.mono ?_
  rintro e w1 ⟨b0, b1, b2, b3, o, rfl, e1, ⟨lb0, lb1, lb2, lb3⟩, lo, hb1⟩
  have hg1 : Hid (w1.heap[w.heap.size]? = some (.cells (u64v [a0, a1, a2, a3]).toArray 96 (0, 0))) := (hb1.block _ (by omega)).trans hgA.out
  have hz1 : Hid (w1.heap[w.heap.size + 1]? = some (.cells (u64v z4).toArray 96 (0, 0))) := (hb1.block _ (by omega)).trans hgZ.out
  have hbw := below_next hbW hbW.size hb1
  have hs2 : w.heap.size + 1 < w1.heap.size := by have := hb1.size; omega
  go_upto_region 2 with (with_reducible refine wpList_store_row rfl 96 (.tmp 2) (.tmp 11) rfl w.heap.size (u64v [b0, b1, b2, b3]).toArray rfl rfl 96 _ hg1.out (by kernel_rfl) (by kernel_rfl) (all_oneCell_toArray (u64v_one _)) ?_)
  obtain ⟨w2, hw2⟩ : ∃ w2, w2 = w1.setRow w.heap.size (u64v [b0, b1, b2, b3]).toArray := ⟨_, rfl⟩
  rw [← hw2]
  have hg2 : Hid (w2.heap[w.heap.size]? = some (.cells (u64v [b0, b1, b2, b3]).toArray 96 (0, 0))) := by rw [hw2]; exact setRow_heap _ _ _ _ _ _ hg1.out
  have hb2 : Below w.heap.size w w2 := by rw [hw2]; exact below_setRow hbw (by omega) _
  have hz2 : Hid (w2.heap[w.heap.size + 1]? = some (.cells (u64v z4).toArray 96 (0, 0))) := by rw [hw2]; exact (setRow_other _ _ _ _ (by omega)).trans hz1.out
  have hs3 : w.heap.size + 1 < w2.heap.size := by rw [hw2]; simpa [World.setRow] using hs2
  clear hw2 hg1 hz1 hbw hs2
  have ho64 : 38 * o < B64 := by simp only [B64]; omega
  have eo : (38 : Int) * (o : Int) = ((38 * o : Nat) : Int) := by omega
  have hcall2 := sum_any w2 b0 b1 b2 b3 (38 * o) 0 0 0 lb0 lb1 lb2 lb3 ho64 (by decide) (by decide) (by decide)
  have hFS2 := hFS (n4 b0 b1 b2 b3) o
  have hB := n4_lt b0 b1 b2 b3 lb0 lb1 lb2 lb3
  generalize 38 * o = u2 at *
  go_wp2_with (first
    | (with_reducible refine wpList_load_row rfl 96 (.tmp 2) rfl w.heap.size rfl 96 (u64v [b0, b1, b2, b3]).toArray (0, 0) _ hg2.out Tryd.underlying96 rfl (by kernel_rfl) ?_))
  refine hcall2.mono ?_
  rintro e w3 ⟨c0, c1, c2, c3, o2, rfl, e2, ⟨lc0, lc1, lc2, lc3⟩, _, hb3⟩
  have HE := vlt (hFS2 (n4 c0 c1 c2 c3) o2 hv e1.out e2.out hN hB)
  clear e1 e2 hFS hFS2
  have hg3 : Hid (w3.heap[w.heap.size]? = some (.cells (u64v [b0, b1, b2, b3]).toArray 96 (0, 0))) := (hb3.block _ (by omega)).trans hg2.out
  have hz3 : Hid (w3.heap[w.heap.size + 1]? = some (.cells (u64v z4).toArray 96 (0, 0))) := (hb3.block _ (by omega)).trans hz2.out
  have hbw3 := below_next hb2 (by omega) hb3
  have hs4 : w.heap.size + 1 < w3.heap.size := by have := hb3.size; omega
  go_upto_region 3 with (with_reducible refine wpList_store_row rfl 96 (.tmp 2) (.tmp 19) rfl w.heap.size (u64v [c0, c1, c2, c3]).toArray rfl rfl 96 _ hg3.out (by kernel_rfl) (by kernel_rfl) (all_oneCell_toArray (u64v_one _)) ?_)
  obtain ⟨w4, hw4⟩ : ∃ w4, w4 = w3.setRow w.heap.size (u64v [c0, c1, c2, c3]).toArray := ⟨_, rfl⟩
  rw [← hw4]
  have hg4 : Hid (w4.heap[w.heap.size]? = some (.cells (u64v [c0, c1, c2, c3]).toArray 96 (0, 0))) := by rw [hw4]; exact setRow_heap _ _ _ _ _ _ hg3.out
  have hb4 : Below w.heap.size w w4 := by rw [hw4]; exact below_setRow hbw3 (by omega) _
  have hz4 : Hid (w4.heap[w.heap.size + 1]? = some (.cells (u64v z4).toArray 96 (0, 0))) := by rw [hw4]; exact (setRow_other _ _ _ _ (by omega)).trans hz3.out
  clear hw4 hg3 hz3
  go_wp2_with (first
    | (with_reducible refine wpList_load_row rfl 96 (.tmp 2) rfl w.heap.size rfl 96 (u64v [c0, c1, c2, c3]).toArray (0, 0) _ hg4.out Tryd.underlying96 rfl (by kernel_rfl) ?_)
    | (with_reducible refine wpList_store_row rfl 96 (.tmp 4) (.tmp 21) rfl (w.heap.size + 1) (u64v [c0, c1, c2, c3]).toArray rfl rfl 96 _ hz4.out (by kernel_rfl) (by kernel_rfl) (all_oneCell_toArray (u64v_one _)) ?_))
  refine bodyPost_ret (v := .agg (u64v [c0, c1, c2, c3]).toArray) (results_cell_row Tryd.results76 _ _ (w.heap.size + 1) 96 _ (0, 0) _ rfl (setRow_heap _ _ _ _ _ _ hz4.out) Tryd.underlying96 rfl (by kernel_rfl)) rfl ⟨c0, c1, c2, c3, rfl, HE, ⟨lc0, lc1, lc2, lc3⟩, below_setRow hb4 (by omega) _⟩

set_option maxRecDepth 100000 in
set_option maxHeartbeats 1000000 in
theorem plus_any (w : World) (a0 a1 a2 a3 b0 b1 b2 b3 : Nat) (ha0 : a0 < B64) (ha1 : a1 < B64) (ha2 : a2 < B64) (ha3 : a3 < B64) (hb0 : b0 < B64) (hb1 : b1 < B64) (hb2 : b2 < B64) (hb3 : b3 < B64) :
    Calls Tryd.prog 70 #[.agg (u64v [a0, a1, a2, a3]).toArray, .agg (u64v [b0, b1, b2, b3]).toArray] w fun e w' => ∃ c0 c1 c2 c3 : Nat, e = .returned (.agg (u64v [c0, c1, c2, c3]).toArray) ∧
      Vlt (n4 c0 c1 c2 c3 % FP = (n4 a0 a1 a2 a3 + n4 b0 b1 b2 b3) % FP) ∧ (c0 < B64 ∧ c1 < B64 ∧ c2 < B64 ∧ c3 < B64) ∧ Below w.heap.size w w' := by
  have hzn := zero_n4
  obtain ⟨W, hW, hgA, hgB, hgZ, hbW, hsW⟩ := three_new w (u64v [a0, a1, a2, a3]).toArray (u64v [b0, b1, b2, b3]).toArray (u64v z4).toArray 96 96 96
  have HW := Lib.hid hW
  have hs1 : w.heap.size + 2 < W.heap.size := by have := hsW.out; omega
  clear hW
  go_enter Tryd.func70, Tryd.ntmps70
  go_upto_region 1 with fail
  rw [HW.out]
  go_wp2_with (first
    | (with_reducible refine wpList_load_row rfl 96 (.tmp 2) rfl w.heap.size rfl 96 (u64v [a0, a1, a2, a3]).toArray (0, 0) _ hgA.out Tryd.underlying96 rfl (by kernel_rfl) ?_)
    | (with_reducible refine wpList_load_row rfl 96 (.tmp 3) rfl (w.heap.size + 1) rfl 96 (u64v [b0, b1, b2, b3]).toArray (0, 0) _ hgB.out Tryd.underlying96 rfl (by kernel_rfl) ?_))
  refine (sum_any W a0 a1 a2 a3 b0 b1 b2 b3 ha0 ha1 ha2 ha3 hb0 hb1 hb2 hb3).mono ?_
  rintro e w1 ⟨s0, s1, s2, s3, o, rfl, e1, ⟨ls0, ls1, ls2, ls3⟩, lo, hb1'⟩
  have hz1 : Hid (w1.heap[w.heap.size + 1 + 1]? = some (.cells (u64v z4).toArray 96 (0, 0))) := (hb1'.block _ (by omega)).trans hgZ.out
  have hbw := below_next hbW hbW.size hb1'
  have hs2 : w.heap.size + 2 < w1.heap.size := by have := hb1'.size; omega
  go_wp2_with fail
  refine (folded_any w1 s0 s1 s2 s3 o ls0 ls1 ls2 ls3 (by omega)).mono ?_
  rintro e w2 ⟨c0, c1, c2, c3, rfl, e2, lc, hb2'⟩
  have HE := vlt (show n4 c0 c1 c2 c3 % FP = (n4 a0 a1 a2 a3 + n4 b0 b1 b2 b3) % FP by rw [e2.out, e1.out])
  clear e1 e2
  have hz2 : Hid (w2.heap[w.heap.size + 1 + 1]? = some (.cells (u64v z4).toArray 96 (0, 0))) := (hb2'.block _ (by omega)).trans hz1.out
  have hbw2 := below_next hbw hbw.size hb2'
  go_wp2_with (with_reducible refine wpList_store_row rfl 96 (.tmp 4) (.tmp 10) rfl (w.heap.size + 1 + 1) (u64v [c0, c1, c2, c3]).toArray rfl rfl 96 _ hz2.out (by kernel_rfl) (by kernel_rfl) (all_oneCell_toArray (u64v_one _)) ?_)
  refine bodyPost_ret (v := .agg (u64v [c0, c1, c2, c3]).toArray) (results_cell_row Tryd.results70 _ _ (w.heap.size + 1 + 1) 96 _ (0, 0) _ rfl (setRow_heap _ _ _ _ _ _ hz2.out) Tryd.underlying96 rfl (by kernel_rfl)) rfl ⟨c0, c1, c2, c3, rfl, HE, lc, below_setRow hbw2 (by omega) _⟩

end Go.Proofs.YtcefdcjpddohaaaDoor
namespace Go.Proofs.YtcefdcjpddohaaaDoor
open Go.RowKit

set_option maxRecDepth 100000 in
theorem fromLittle_ok (A : Option Addr) (l : List UInt8) (n c : Nat) (w : World) (ha : Byt w w.heap.size A l) (hl : l.length = n) (h8 : n ≤ 8) :
    Calls Tryd.prog 42 #[.slice A n c] w fun e w' => e = .returned (.tuple #[.int .u64 (ln l : Int), .int .i64 0]) ∧ w = w' := by
  have HL := Lib.hid hl
  clear hl
  go_enter Tryd.func42, Tryd.ntmps42
  go_wp2
  go_loop [4, 5, 6, 12] (fun t _ _ i => ∃ k V : Nat, k ≤ n ∧ i = .int .i64 (k : Int) ∧ t = .int .u64 (V : Int) ∧ V = ln (l.take k)) (fun _ _ _ i => n - (intOf i).toNat)
  case atStart => exact ⟨0, 0, Nat.zero_le _, rfl, rfl, by simp [ln]⟩
  case round =>
    obtain ⟨k, V, hk, rfl, rfl, hV⟩ := hrel
    have HV := Lib.hid hV
    by_cases hlt : k < n
    · have hb := Lib.hid (ln_lt k (l.take k) (by rw [List.length_take, HL.out]; omega))
      clear hV
      obtain ⟨g, o, x, rfl, hg, hx, hcell, hget⟩ := ha.at_ (k := k) (by rw [HL.out]; exact hlt)
      go_wp2
      have hlen : (l.take k).length = k := by rw [List.length_take, HL.out]; omega
      exact ⟨⟨k + 1, V + x * 256 ^ k, by omega, by go_num, by rw [or_high k V x (by omega) (by rw [HV.out]; exact hb.out) hx], by rw [take_at hget.out, ln_snoc, ← HV.out, hlen]; simp [Nat.mod_eq_of_lt hx]⟩, by simp [intOf]; omega⟩
    · obtain rfl : k = n := by omega
      clear hV
      go_wp2
      go_ret2
      have e : V = ln l := by rw [HV.out, List.take_of_length_le (by rw [HL.out]; exact Nat.le_refl _)]
      rw [e]
      exact ⟨rfl, rfl⟩

set_option maxRecDepth 100000 in
theorem fromLittle_no (A : Option Addr) (n c : Nat) (w : World) (h8 : 8 < n) :
    Calls Tryd.prog 42 #[.slice A n c] w fun e w' => e = .returned (.tuple #[.int .u64 0, .int .i64 1]) ∧ w = w' := by
  go_enter Tryd.func42, Tryd.ntmps42
  go_wp2
  go_ret2
  exact ⟨rfl, rfl⟩
end Go.Proofs.YtcefdcjpddohaaaDoor
namespace Go.Proofs.YtcefdcjpddohaaaDoor
open Go.RowKit

theorem cut_h {P : Program} {t e n : Nat} (hu : P.underlying t = some (.array n e)) (hs : (P.info? e).map (·.size) = some 1) (g o : Nat) (hi : Nat) (H : Int) (hH : H = (hi : Int)) (h2 : hi ≤ n) (h3 : 0 < n) (w : World) :
    (Instr.sliceAt t (.pointer (some ⟨g, o, none⟩)) none (some (.int .i64 H)) none).run P w = .ok (.slice (some ⟨g, o, none⟩) hi n) w := by
  subst hH
  obtain ⟨i, hi', hi2⟩ := Option.map_eq_some_iff.1 hs
  have ht : P.underlying t = some (.array (P.arrayLen t) (P.elem t)) := by simp [Program.arrayLen, Program.elem, hu]
  have hn : P.arrayLen t = n := by simp [Program.arrayLen, hu]
  have he : P.elem t = e := by simp [Program.elem, hu]
  rw [run_sliceAt_array_h w t _ ht .i64 _ (by omega) (by omega), hn, he]
  simp [sizeOf, typeInfo, hi', hi2, slicedAt, addr_add, show ¬ n = 0 by omega]
end Go.Proofs.YtcefdcjpddohaaaDoor
namespace Go.Proofs.YtcefdcjpddohaaaDoor
open Go.RowKit

set_option maxRecDepth 100000 in
theorem beneath_256 (w : World) :
    Calls Tryd.prog 69 #[.int .i64 256, .int .u64 75] w fun e w' => e = .returned (.agg (u64v [18446744073709551541, 18446744073709551615, 18446744073709551615, 18446744073709551615]).toArray) ∧ Below w.heap.size w w' := by
  have hzn := zero_n4
  obtain ⟨W, hW, hgZ, hbW, hsW⟩ := one_new w (u64v z4).toArray 96
  have HW := Lib.hid hW
  have hs1 : w.heap.size < W.heap.size := by have := hsW.out; omega
  clear hW
  go_enter Tryd.func69, Tryd.ntmps69
  go_upto_region 1 with fail
  rw [HW.out]
  go_wp2_with (with_reducible refine wpList_store_row rfl 96 (.tmp 4) (.tmp 10) rfl w.heap.size (u64v [18446744073709551541, 18446744073709551615, 18446744073709551615, 18446744073709551615]).toArray rfl rfl 96 _ hgZ.out (by kernel_rfl) (by kernel_rfl) (all_oneCell_toArray (u64v_one _)) ?_)
  refine bodyPost_ret (v := .agg (u64v [18446744073709551541, 18446744073709551615, 18446744073709551615, 18446744073709551615]).toArray) (results_cell_row Tryd.results69 _ _ w.heap.size 96 _ (0, 0) _ rfl (setRow_heap _ _ _ _ _ _ hgZ.out) Tryd.underlying96 rfl (by kernel_rfl)) rfl ⟨rfl, below_setRow hbW (by omega) _⟩
set_option maxRecDepth 100000 in
theorem beneath_255 (w : World) :
    Calls Tryd.prog 69 #[.int .i64 255, .int .u64 21] w fun e w' => e = .returned (.agg (u64v [18446744073709551595, 18446744073709551615, 18446744073709551615, 9223372036854775807]).toArray) ∧ Below w.heap.size w w' := by
  have hzn := zero_n4
  obtain ⟨W, hW, hgZ, hbW, hsW⟩ := one_new w (u64v z4).toArray 96
  have HW := Lib.hid hW
  have hs1 : w.heap.size < W.heap.size := by have := hsW.out; omega
  clear hW
  go_enter Tryd.func69, Tryd.ntmps69
  go_upto_region 1 with fail
  rw [HW.out]
  go_wp2_with (with_reducible refine wpList_store_row rfl 96 (.tmp 4) (.tmp 10) rfl w.heap.size (u64v [18446744073709551595, 18446744073709551615, 18446744073709551615, 9223372036854775807]).toArray rfl rfl 96 _ hgZ.out (by kernel_rfl) (by kernel_rfl) (all_oneCell_toArray (u64v_one _)) ?_)
  refine bodyPost_ret (v := .agg (u64v [18446744073709551595, 18446744073709551615, 18446744073709551615, 9223372036854775807]).toArray) (results_cell_row Tryd.results69 _ _ w.heap.size 96 _ (0, 0) _ rfl (setRow_heap _ _ _ _ _ _ hgZ.out) Tryd.underlying96 rfl (by kernel_rfl)) rfl ⟨rfl, below_setRow hbW (by omega) _⟩
set_option maxRecDepth 100000 in
theorem beneath_252 (w : World) :
    Calls Tryd.prog 69 #[.int .i64 252, .int .u64 2] w fun e w' => e = .returned (.agg (u64v [18446744073709551614, 18446744073709551615, 18446744073709551615, 1152921504606846975]).toArray) ∧ Below w.heap.size w w' := by
  have hzn := zero_n4
  obtain ⟨W, hW, hgZ, hbW, hsW⟩ := one_new w (u64v z4).toArray 96
  have HW := Lib.hid hW
  have hs1 : w.heap.size < W.heap.size := by have := hsW.out; omega
  clear hW
  go_enter Tryd.func69, Tryd.ntmps69
  go_upto_region 1 with fail
  rw [HW.out]
  go_wp2_with (with_reducible refine wpList_store_row rfl 96 (.tmp 4) (.tmp 10) rfl w.heap.size (u64v [18446744073709551614, 18446744073709551615, 18446744073709551615, 1152921504606846975]).toArray rfl rfl 96 _ hgZ.out (by kernel_rfl) (by kernel_rfl) (all_oneCell_toArray (u64v_one _)) ?_)
  refine bodyPost_ret (v := .agg (u64v [18446744073709551614, 18446744073709551615, 18446744073709551615, 1152921504606846975]).toArray) (results_cell_row Tryd.results69 _ _ w.heap.size 96 _ (0, 0) _ rfl (setRow_heap _ _ _ _ _ _ hgZ.out) Tryd.underlying96 rfl (by kernel_rfl)) rfl ⟨rfl, below_setRow hbW (by omega) _⟩

theorem minus_sum (a b0 b1 b2 b3 T C : Nat) (hb0 : b0 < B64) (hb1 : b1 < B64) (hb2 : b2 < B64) (hb3 : b3 < B64) (h1 : T % FP = (a + n4 (18446744073709551615 - b0) (18446744073709551615 - b1) (18446744073709551615 - b2) (18446744073709551615 - b3)) % FP)
    (h2 : C % FP = (T + n4 18446744073709551541 18446744073709551615 18446744073709551615 18446744073709551615) % FP) : (C + n4 b0 b1 b2 b3) % FP = a % FP := by
  rw [fp_eq] at *
  simp only [n4, B64] at *
  omega
set_option maxRecDepth 100000 in
set_option maxHeartbeats 1000000 in
theorem minus_any (w : World) (a0 a1 a2 a3 b0 b1 b2 b3 : Nat) (ha0 : a0 < B64) (ha1 : a1 < B64) (ha2 : a2 < B64) (ha3 : a3 < B64) (hb0 : b0 < B64) (hb1 : b1 < B64) (hb2 : b2 < B64) (hb3 : b3 < B64) :
    Calls Tryd.prog 64 #[.agg (u64v [a0, a1, a2, a3]).toArray, .agg (u64v [b0, b1, b2, b3]).toArray] w fun e w' => ∃ c0 c1 c2 c3 : Nat, e = .returned (.agg (u64v [c0, c1, c2, c3]).toArray) ∧
      Vlt ((n4 c0 c1 c2 c3 + n4 b0 b1 b2 b3) % FP = n4 a0 a1 a2 a3 % FP) ∧ (c0 < B64 ∧ c1 < B64 ∧ c2 < B64 ∧ c3 < B64) ∧ Below w.heap.size w w' := by
  have hzn := zero_n4
  obtain ⟨W, hW, hgA, hgB, hgZ, hbW, hsW⟩ := three_new w (u64v [a0, a1, a2, a3]).toArray (u64v [b0, b1, b2, b3]).toArray (u64v z4).toArray 96 96 96
  have HW := Lib.hid hW
  have hs1 : w.heap.size + 2 < W.heap.size := by have := hsW.out; omega
  clear hW
  have cb0 : W.cell? ⟨w.heap.size + 1, 0, none⟩ = some (.int .u64 (b0 : Int)) := long_at hgB.out 0 (by simp)
  have cb1 : W.cell? ⟨w.heap.size + 1, 1, none⟩ = some (.int .u64 (b1 : Int)) := long_at hgB.out 1 (by simp)
  have cb2 : W.cell? ⟨w.heap.size + 1, 2, none⟩ = some (.int .u64 (b2 : Int)) := long_at hgB.out 2 (by simp)
  have cb3 : W.cell? ⟨w.heap.size + 1, 3, none⟩ = some (.int .u64 (b3 : Int)) := long_at hgB.out 3 (by simp)
  go_enter Tryd.func64, Tryd.ntmps64
  go_upto_region 1 with fail
  rw [HW.out]
  go_wp2_with (first
    | (with_reducible refine wpList_load_row rfl 96 (.tmp 2) rfl w.heap.size rfl 96 (u64v [a0, a1, a2, a3]).toArray (0, 0) _ hgA.out Tryd.underlying96 rfl (by kernel_rfl) ?_))
  rw [turn64 b0 hb0, turn64 b1 hb1, turn64 b2 hb2, turn64 b3 hb3]
  have HM := fun T C => minus_sum (n4 a0 a1 a2 a3) b0 b1 b2 b3 T C hb0 hb1 hb2 hb3
  have l0 : 18446744073709551615 - b0 < B64 := by simp only [B64]; omega
  have l1 : 18446744073709551615 - b1 < B64 := by simp only [B64]; omega
  have l2 : 18446744073709551615 - b2 < B64 := by simp only [B64]; omega
  have l3 : 18446744073709551615 - b3 < B64 := by simp only [B64]; omega
  generalize 18446744073709551615 - b0 = d0 at *
  generalize 18446744073709551615 - b1 = d1 at *
  generalize 18446744073709551615 - b2 = d2 at *
  generalize 18446744073709551615 - b3 = d3 at *
  refine (plus_any W a0 a1 a2 a3 d0 d1 d2 d3 ha0 ha1 ha2 ha3 l0 l1 l2 l3).mono ?_
  rintro e w1 ⟨t0, t1, t2, t3, rfl, e1, ⟨lt0, lt1, lt2, lt3⟩, hb1'⟩
  have hz1 : Hid (w1.heap[w.heap.size + 1 + 1]? = some (.cells (u64v z4).toArray 96 (0, 0))) := (hb1'.block _ (by omega)).trans hgZ.out
  have hbw := below_next hbW hbW.size hb1'
  have hs2 : w.heap.size + 2 < w1.heap.size := by have := hb1'.size; omega
  go_wp2_with fail
  refine (beneath_256 w1).mono ?_
  rintro e w2 ⟨rfl, hb2'⟩
  have hz2 : Hid (w2.heap[w.heap.size + 1 + 1]? = some (.cells (u64v z4).toArray 96 (0, 0))) := (hb2'.block _ (by omega)).trans hz1.out
  have hbw2 := below_next hbw hbw.size hb2'
  have hs3 : w.heap.size + 2 < w2.heap.size := by have := hb2'.size; omega
  go_wp2_with fail
  refine (plus_any w2 t0 t1 t2 t3 18446744073709551541 18446744073709551615 18446744073709551615 18446744073709551615 lt0 lt1 lt2 lt3 (by decide) (by decide) (by decide) (by decide)).mono ?_
  rintro e w3 ⟨c0, c1, c2, c3, rfl, e2, lc, hb3'⟩
  have HE := vlt (HM _ _ e1.out e2.out)
  clear e1 e2 HM
  have hz3 : Hid (w3.heap[w.heap.size + 1 + 1]? = some (.cells (u64v z4).toArray 96 (0, 0))) := (hb3'.block _ (by omega)).trans hz2.out
  have hbw3 := below_next hbw2 hbw2.size hb3'
  go_wp2_with (with_reducible refine wpList_store_row rfl 96 (.tmp 4) (.tmp 21) rfl (w.heap.size + 1 + 1) (u64v [c0, c1, c2, c3]).toArray rfl rfl 96 _ hz3.out (by kernel_rfl) (by kernel_rfl) (all_oneCell_toArray (u64v_one _)) ?_)
  refine bodyPost_ret (v := .agg (u64v [c0, c1, c2, c3]).toArray) (results_cell_row Tryd.results64 _ _ (w.heap.size + 1 + 1) 96 _ (0, 0) _ rfl (setRow_heap _ _ _ _ _ _ hz3.out) Tryd.underlying96 rfl (by kernel_rfl)) rfl ⟨c0, c1, c2, c3, rfl, HE, lc, below_setRow hbw3 (by omega) _⟩

theorem ln_four (b : List UInt8) (h : b.length = 32) : n4 (ln ((b.drop 0).take 8)) (ln ((b.drop 8).take 8)) (ln ((b.drop 16).take 8)) (ln ((b.drop 24).take 8)) = ln b := by
  have h1 := ln_split b 8 (by omega)
  have h2 : ln ((b.drop 8).take 8) + 256 ^ 8 * ln (b.drop 16) = ln (b.drop 8) := by have := ln_split (b.drop 8) 8 (by simp; omega); rw [List.drop_drop] at this; exact this
  have h3 : ln ((b.drop 16).take 8) + 256 ^ 8 * ln (b.drop 24) = ln (b.drop 16) := by have := ln_split (b.drop 16) 8 (by simp; omega); rw [List.drop_drop] at this; exact this
  have h4 : (b.drop 24).take 8 = b.drop 24 := List.take_of_length_le (by simp; omega)
  rw [h4, List.drop_zero, ← h1, ← h2, ← h3]
  simp only [n4]
  omega
set_option maxRecDepth 100000 in
set_option maxHeartbeats 1000000 in
theorem numberOf_any (w : World) (b : List UInt8) (hb : b.length = 32) :
    Calls Tryd.prog 63 #[.agg (bv b).toArray] w fun e w' => ∃ a0 a1 a2 a3, e = .returned (.agg (u64v [a0, a1, a2, a3]).toArray) ∧ Vlt (n4 a0 a1 a2 a3 = ln b) ∧ (a0 < B64 ∧ a1 < B64 ∧ a2 < B64 ∧ a3 < B64) ∧ Below w.heap.size w w' := by
  have hzn := zero_n4
  obtain ⟨W, hW, hgA, hgZ, hbW, hsW⟩ := pair_new w (bv b).toArray (u64v z4).toArray 23 96
  have HW := Lib.hid hW
  have HB := Lib.hid hb
  have hs1 : w.heap.size + 1 < W.heap.size := by have := hsW.out; omega
  clear hW hb
  have hc1 := cut_h Tryd.underlying23 Tryd.sizeByte w.heap.size 0 8 8 rfl (by decide) (by decide)
  have hc2 := cut_lh Tryd.underlying23 Tryd.sizeByte w.heap.size 0 8 16 8 16 rfl rfl (by decide) (by decide) (by decide)
  have hc3 := cut_lh Tryd.underlying23 Tryd.sizeByte w.heap.size 0 16 24 16 24 rfl rfl (by decide) (by decide) (by decide)
  have hc4 := cut_l Tryd.underlying23 Tryd.sizeByte w.heap.size 0 24 24 rfl (by decide)
  go_enter Tryd.func63, Tryd.ntmps63
  go_upto_region 1 with fail
  rw [HW.out]
  have hb1 := byt_mid hgA.out 0 8
  have hb2 := byt_mid hgA.out 8 8
  have hb3 := byt_mid hgA.out 16 8
  have hb4 := byt_mid hgA.out 24 8
  have hl1 : ((b.drop 0).take 8).length = 8 := by simp [HB.out]
  have hl2 : ((b.drop 8).take 8).length = 8 := by simp [HB.out]
  have hl3 : ((b.drop 16).take 8).length = 8 := by simp [HB.out]
  have hl4 : ((b.drop 24).take 8).length = 8 := by simp [HB.out]
  have q1 := ln_lt 8 _ hl1
  have q2 := ln_lt 8 _ hl2
  have q3 := ln_lt 8 _ hl3
  have q4 := ln_lt 8 _ hl4
  have hsum := vlt (ln_four b HB.out)
  generalize (b.drop 0).take 8 = b1 at *
  generalize (b.drop 8).take 8 = b2 at *
  generalize (b.drop 16).take 8 = b3 at *
  generalize (b.drop 24).take 8 = b4 at *
  go_wp2_with fail
  refine (fromLittle_ok _ b1 8 32 W hb1 hl1 (by decide)).mono ?_
  rintro e w' ⟨rfl, rfl⟩
  go_wp2_with fail
  refine (fromLittle_ok _ b2 8 24 W hb2 hl2 (by decide)).mono ?_
  rintro e w' ⟨rfl, rfl⟩
  go_wp2_with fail
  refine (fromLittle_ok _ b3 8 16 W hb3 hl3 (by decide)).mono ?_
  rintro e w' ⟨rfl, rfl⟩
  go_wp2_with fail
  refine (fromLittle_ok _ b4 8 8 W hb4 hl4 (by decide)).mono ?_
  rintro e w' ⟨rfl, rfl⟩
  generalize ln b1 = x0 at *
  generalize ln b2 = x1 at *
  generalize ln b3 = x2 at *
  generalize ln b4 = x3 at *
  go_wp2_with (with_reducible refine wpList_store_row rfl 96 (.tmp 2) (.tmp 35) rfl (w.heap.size + 1) (u64v [x0, x1, x2, x3]).toArray rfl rfl 96 _ hgZ.out (by kernel_rfl) (by kernel_rfl) (all_oneCell_toArray (u64v_one _)) ?_)
  refine bodyPost_ret (v := .agg (u64v [x0, x1, x2, x3]).toArray) (results_cell_row Tryd.results63 _ _ (w.heap.size + 1) 96 _ (0, 0) _ rfl (setRow_heap _ _ _ _ _ _ hgZ.out) Tryd.underlying96 rfl (by kernel_rfl)) rfl ⟨x0, x1, x2, x3, rfl, hsum, ⟨q1, q2, q3, q4⟩, below_setRow hbW (by omega) _⟩
end Go.Proofs.YtcefdcjpddohaaaDoor
namespace Go.Proofs.YtcefdcjpddohaaaDoor
open Go.RowKit

/-- A cell of a result, free to be written; what stands there behind a store. -/
theorem Res.cell {w : World} {base E g n c : Nat} {l : List UInt8} (h : Res w base E (some ⟨g, 0, none⟩) n c l) {j : Nat} (hj : j < n) : ∃ u, w.cell? ⟨g, j, none⟩ = some u := by
  have h1 := World.ownsRow.cellAt h j (by omega)
  have h2 : j < (bv l).length := by rw [bv_len, h.len]; exact hj
  exact ⟨_, h1.trans (List.getElem?_eq_getElem h2)⟩
theorem Res.free {w : World} {base E g n c : Nat} {l : List UInt8} (h : Res w base E (some ⟨g, 0, none⟩) n c l) (j : Nat) : w.frozen? ⟨g, j, none⟩ = false := World.ownsRow.frozenAt h j
theorem Res.put {w : World} {base E g n c : Nat} {l : List UInt8} (h : Res w base E (some ⟨g, 0, none⟩) n c l) (j : Nat) (b : UInt8) (x : Int) (hx : x = (b.toNat : Int)) :
    Res (w.setCell ⟨g, j, none⟩ (.int .u8 x)) base E (some ⟨g, 0, none⟩) n c (l.set j b) := by
  subst hx
  have h1 := (World.ownsRow.stored h j (.int .u8 (b.toNat : Int))).1
  rw [bv_set] at h1
  exact h1
theorem Res.made {w1 : World} {base E g n : Nat} (hg : w1.heap[g]? = some (.cells (bv (List.replicate n 0)).toArray E (0, 0))) (hb : base ≤ g) (hn : n ≤ 281474976710656) :
    Res w1 base E (some ⟨g, 0, none⟩) n n (List.replicate n 0) :=
  Res.row hb hg (Nat.le_refl _) hn (by simp [bv]) (by simp) (by simp [bv_take])

end Go.Proofs.YtcefdcjpddohaaaDoor
namespace Go.Proofs.YtcefdcjpddohaaaDoor
open Go.RowKit

theorem low63 (a : Nat) (ha : a < B64) : bits .and .u64 (a : Int) 9223372036854775807 = ((a % 9223372036854775808 : Nat) : Int) := by
  have h := u64_and_nat a 9223372036854775807 ha (by decide)
  rw [show ((9223372036854775807 : Nat) : Int) = 9223372036854775807 from rfl] at h
  rw [h, show (9223372036854775807 : Nat) = 2 ^ 63 - 1 by decide, Nat.and_two_pow_sub_one_eq_mod, show (2 : Nat) ^ 63 = 9223372036854775808 by decide]
/-- The number, brought below the prime. -/
theorem fp_mod' {x r q : Nat} (h : x = r + FP * q) (hr : r < FP) : r = x % FP := by rw [h, Nat.add_mul_mod_self_left, Nat.mod_eq_of_lt hr]
theorem told_num (a0 a1 a2 a3 M o1 p0 p1 p2 p3 o2 x0 x1 x2 x3 o3 : Nat) (ha0 : a0 < B64) (ha1 : a1 < B64) (ha2 : a2 < B64) (ha3 : a3 < B64) (hp0 : p0 < B64) (hp1 : p1 < B64) (hp2 : p2 < B64) (hp3 : p3 < B64) (hx0 : x0 < B64) (hx1 : x1 < B64) (hx2 : x2 < B64) (hx3 : x3 < B64)
    (h1 : M + 115792089237316195423570985008687907853269984665640564039457584007913129639936 * o1 = n4 a0 a1 a2 (a3 % 9223372036854775808) + n4 (19 * (a3 / 9223372036854775808)) 0 0 0)
    (h2 : n4 p0 p1 p2 p3 + 115792089237316195423570985008687907853269984665640564039457584007913129639936 * o2 = M + n4 19 0 0 0)
    (h3 : n4 x0 x1 x2 x3 + 115792089237316195423570985008687907853269984665640564039457584007913129639936 * o3 = M + n4 (19 * (p3 / 9223372036854775808)) 0 0 0) :
    n4 x0 x1 x2 (x3 % 9223372036854775808) = n4 a0 a1 a2 a3 % FP := by
  obtain ⟨t, ht⟩ : ∃ t, t = a3 / 9223372036854775808 := ⟨_, rfl⟩
  obtain ⟨l, hl⟩ : ∃ l, l = a3 % 9223372036854775808 := ⟨_, rfl⟩
  obtain ⟨s, hs⟩ : ∃ s, s = p3 / 9223372036854775808 := ⟨_, rfl⟩
  obtain ⟨y, hy⟩ : ∃ y, y = x3 % 9223372036854775808 := ⟨_, rfl⟩
  rw [← ht, ← hl] at h1
  rw [← hs] at h3
  rw [← hy]
  have t1 : t ≤ 1 := by simp only [B64] at *; omega
  have s1 : s ≤ 1 := by simp only [B64] at *; omega
  simp only [n4, B64] at *
  have q1 : o1 = 0 := by omega
  subst q1
  have hM : M < 57896044618658097711785492504343953926634992332820282019728792003956564819988 := by omega
  have q2 : o2 = 0 := by omega
  subst q2
  have q3 : o3 = 0 := by omega
  subst q3

  obtain ⟨m, hm⟩ : ∃ m, m = x3 / 9223372036854775808 := ⟨_, rfl⟩
  have hx : x3 = 9223372036854775808 * m + y := by omega
  have hp : p3 = 9223372036854775808 * s + p3 % 9223372036854775808 := by omega
  have ha : a3 = 9223372036854775808 * t + l := by omega
  have ly : y < 9223372036854775808 := by omega
  have lp : p3 % 9223372036854775808 < 9223372036854775808 := by omega
  generalize p3 % 9223372036854775808 = r at *
  clear ht hl hs hy hm
  subst hx hp ha
  have s01 : s = 0 ∨ s = 1 := by omega
  refine fp_mod' (q := t + s) ?_ ?_
  · rw [fp_eq]
    rcases s01 with rfl | rfl
    · have hm0 : m = 0 := by omega
      subst hm0
      omega
    · have hm0 : m = 1 := by omega
      subst hm0
      omega
  · rw [fp_eq]
    rcases s01 with rfl | rfl
    · have hm0 : m = 0 := by omega
      subst hm0
      omega
    · have hm0 : m = 1 := by omega
      subst hm0
      omega

theorem quart_len (a b c d k : Nat) (h : k ≤ 8) : (quart a b c d k).length = 32 := by
  simp only [quart, List.length_append]
  rw [uptoB_len _ _ (by rw [le_len]; exact h), uptoB_len _ _ (by rw [le_len]; exact h), uptoB_len _ _ (by rw [le_len]; exact h), uptoB_len _ _ (by rw [le_len]; exact h)]
theorem quart_cells {w : World} {g : Nat} {t : TypeId} {a b c d k : Nat} (hg : w.heap[g]? = some (.cells (bv (quart a b c d k)).toArray t (0, 0))) (hk : k < 8) :
    (∃ u, w.cell? ⟨g, k, none⟩ = some u) ∧ (∃ u, w.cell? ⟨g, k + 8, none⟩ = some u) ∧ (∃ u, w.cell? ⟨g, k + 16, none⟩ = some u) ∧ (∃ u, w.cell? ⟨g, k + 24, none⟩ = some u) := by
  have hl := quart_len a b c d k (by omega)
  have h : ∀ j, j < 32 → ∃ u, w.cell? ⟨g, j, none⟩ = some u := by
    intro j hj
    rw [cell_of_row _ _ _ _ _ _ hg]
    exact ⟨_, List.getElem?_toArray .. ▸ List.getElem?_eq_getElem (by rw [bv_len, hl]; exact hj)⟩
  exact ⟨h _ (by omega), h _ (by omega), h _ (by omega), h _ (by omega)⟩
set_option maxRecDepth 100000 in
set_option maxHeartbeats 2000000 in
theorem told_any (w : World) (a0 a1 a2 a3 : Nat) (ha0 : a0 < B64) (ha1 : a1 < B64) (ha2 : a2 < B64) (ha3 : a3 < B64) :
    Calls Tryd.prog 65 #[.agg (u64v [a0, a1, a2, a3]).toArray] w fun e w' => ∃ l : List UInt8, e = .returned (.agg (bv l).toArray) ∧ Vlt (l = le (n4 a0 a1 a2 a3 % FP) 32) ∧ Hid (l.length = 32) ∧ Below w.heap.size w w' := by
  have hzn := zero_n4
  have hzw := zero_word
  obtain ⟨W, hW, hgA, hgZ, hbW, hsW⟩ := pair_new w (u64v [a0, a1, a2, a3]).toArray (bv z32).toArray 96 23
  have HW := Lib.hid hW
  have hs1 : w.heap.size + 1 < W.heap.size := by have := hsW.out; omega
  clear hW
  have ca3 : W.cell? ⟨w.heap.size, 3, none⟩ = some (.int .u64 (a3 : Int)) := long_at hgA.out 3 (by simp)
  have f3 : W.frozen? ⟨w.heap.size, 3, none⟩ = false := frozen_of_row _ _ _ _ _ hgA.out
  have HT := fun M o1 p0 p1 p2 p3 o2 x0 x1 x2 x3 o3 => told_num a0 a1 a2 a3 M o1 p0 p1 p2 p3 o2 x0 x1 x2 x3 o3 ha0 ha1 ha2 ha3
  have em := low63 a3 ha3
  have et : (a3 : Int) / 9223372036854775808 = ((a3 / 9223372036854775808 : Nat) : Int) := by omega
  have hr : Hid ((W.setCell ⟨w.heap.size, 3, none⟩ (.int .u64 ((a3 % 9223372036854775808 : Nat) : Int))).heap[w.heap.size]? = some (.cells (u64v [a0, a1, a2, a3 % 9223372036854775808]).toArray 96 (0, 0))) := by
    have h1 := (world_set_cell hgA.out 3 (.int .u64 ((a3 % 9223372036854775808 : Nat) : Int))).out
    rw [u64v_set] at h1
    exact h1
  have hr2 : Below w.heap.size w (W.setCell ⟨w.heap.size, 3, none⟩ (.int .u64 ((a3 % 9223372036854775808 : Nat) : Int))) := But.below hbW ((But.refl _ W).set _) (by omega) (by omega)
  have hr3 : Hid ((W.setCell ⟨w.heap.size, 3, none⟩ (.int .u64 ((a3 % 9223372036854775808 : Nat) : Int))).heap[w.heap.size + 1]? = some (.cells (bv z32).toArray 23 (0, 0))) := (((But.refl w.heap.size W).set _).block _ (by omega) (by intro e; injection e; omega)).trans hgZ.out
  have lt : a3 / 9223372036854775808 ≤ 1 := by simp only [B64] at *; omega
  have lm : a3 % 9223372036854775808 < B64 := by simp only [B64] at *; omega
  generalize a3 % 9223372036854775808 = m at *
  generalize a3 / 9223372036854775808 = t at *
  go_enter Tryd.func65, Tryd.ntmps65
  go_upto_region 1 with fail
  rw [HW.out]
  go_upto_region 3 with fail
  generalize W.setCell ⟨w.heap.size, 3, none⟩ (.int .u64 (m : Int)) = W1 at *
  have hs2 : w.heap.size + 1 < W1.heap.size := (Array.getElem?_eq_some_iff.1 hr3.out).1
  clear ca3 f3 hgA hgZ hbW hsW hs1 em et
  have et : (19 : Int) * (t : Int) = ((19 * t : Nat) : Int) := by omega
  have lt19 : 19 * t < B64 := by simp only [B64]; omega
  have hcall := sum_any W1 a0 a1 a2 m (19 * t) 0 0 0 ha0 ha1 ha2 lm lt19 (by decide) (by decide) (by decide)
  generalize 19 * t = t19 at *
  go_wp2_with (with_reducible refine wpList_load_row rfl 96 (.tmp 1) rfl w.heap.size rfl 96 (u64v [a0, a1, a2, m]).toArray (0, 0) _ hr.out Tryd.underlying96 rfl (by kernel_rfl) ?_)
  refine hcall.mono ?_
  rintro e w1 ⟨b0, b1, b2, b3, o1, rfl, e1, ⟨lb0, lb1, lb2, lb3⟩, _, hb1⟩
  clear hcall
  have hg1 : Hid (w1.heap[w.heap.size]? = some (.cells (u64v [a0, a1, a2, m]).toArray 96 (0, 0))) := (hb1.block _ (by omega)).trans hr.out
  have hz1 : Hid (w1.heap[w.heap.size + 1]? = some (.cells (bv z32).toArray 23 (0, 0))) := (hb1.block _ (by omega)).trans hr3.out
  have hbw := below_next hr2 (by omega) hb1
  have hs3 : w.heap.size + 1 < w1.heap.size := by have := hb1.size; omega
  clear hr hr2 hr3
  go_upto_region 4 with (with_reducible refine wpList_store_row rfl 96 (.tmp 1) (.tmp 21) rfl w.heap.size (u64v [b0, b1, b2, b3]).toArray rfl rfl 96 _ hg1.out (by kernel_rfl) (by kernel_rfl) (all_oneCell_toArray (u64v_one _)) ?_)
  obtain ⟨w2, hw2⟩ : ∃ w2, w2 = w1.setRow w.heap.size (u64v [b0, b1, b2, b3]).toArray := ⟨_, rfl⟩
  rw [← hw2]
  have hg2 : Hid (w2.heap[w.heap.size]? = some (.cells (u64v [b0, b1, b2, b3]).toArray 96 (0, 0))) := by rw [hw2]; exact setRow_heap _ _ _ _ _ _ hg1.out
  have hb2 : Below w.heap.size w w2 := by rw [hw2]; exact below_setRow hbw (by omega) _
  have hz2 : Hid (w2.heap[w.heap.size + 1]? = some (.cells (bv z32).toArray 23 (0, 0))) := by rw [hw2]; exact (setRow_other _ _ _ _ (by omega)).trans hz1.out
  have hs4 : w.heap.size + 1 < w2.heap.size := (Array.getElem?_eq_some_iff.1 hz2.out).1
  clear hw2 hg1 hz1 hbw hb1 hs3 hs2
  go_wp2_with (with_reducible refine wpList_load_row rfl 96 (.tmp 1) rfl w.heap.size rfl 96 (u64v [b0, b1, b2, b3]).toArray (0, 0) _ hg2.out Tryd.underlying96 rfl (by kernel_rfl) ?_)
  refine (sum_any w2 b0 b1 b2 b3 19 0 0 0 lb0 lb1 lb2 lb3 (by decide) (by decide) (by decide) (by decide)).mono ?_
  rintro e w3 ⟨p0, p1, p2, p3, o2, rfl, e2, ⟨lp0, lp1, lp2, lp3⟩, _, hb3⟩
  have hg3 : Hid (w3.heap[w.heap.size]? = some (.cells (u64v [b0, b1, b2, b3]).toArray 96 (0, 0))) := (hb3.block _ (by omega)).trans hg2.out
  have hz3 : Hid (w3.heap[w.heap.size + 1]? = some (.cells (bv z32).toArray 23 (0, 0))) := (hb3.block _ (by omega)).trans hz2.out
  have hbw3 := below_next hb2 (by omega) hb3
  have hs5 : w.heap.size + 1 < w3.heap.size := (Array.getElem?_eq_some_iff.1 hz3.out).1
  clear hg2 hz2 hb2 hb3 hs4
  go_upto_region 5 with ((with_reducible refine wpList_store_row rfl 96 (.tmp 4) (.tmp 27) rfl w3.heap.size (u64v [p0, p1, p2, p3]).toArray rfl rfl 96 _ (heap_alloc_new _ _) (by kernel_rfl) (by kernel_rfl) (all_oneCell_toArray (u64v_one _)) ?_); rw [World.setRow_alloc_new])
  obtain ⟨w4, hw4⟩ : ∃ w4, w4 = w3.alloc (.cells (u64v [p0, p1, p2, p3]).toArray 96) := ⟨_, rfl⟩
  rw [← hw4]
  have hg4 : Hid (w4.heap[w.heap.size]? = some (.cells (u64v [b0, b1, b2, b3]).toArray 96 (0, 0))) := by rw [hw4]; exact (Below.heap_alloc _ _ _ (by omega)).trans hg3.out
  have hz4 : Hid (w4.heap[w.heap.size + 1]? = some (.cells (bv z32).toArray 23 (0, 0))) := by rw [hw4]; exact (Below.heap_alloc _ _ _ (by omega)).trans hz3.out
  have hp4 : Hid (w4.heap[w3.heap.size]? = some (.cells (u64v [p0, p1, p2, p3]).toArray 96 (0, 0))) := by rw [hw4]; exact heap_alloc_new _ _
  have hb4 : Below w.heap.size w w4 := by rw [hw4]; exact hbw3.alloc hbw3.size _
  have hs6 : w.heap.size + 1 < w4.heap.size := (Array.getElem?_eq_some_iff.1 hz4.out).1
  obtain ⟨G, hG⟩ : ∃ G, G = w3.heap.size := ⟨_, rfl⟩
  rw [← hG] at hp4 ⊢
  clear hG hw4 hg3 hz3 hbw3 hs5
  have cp3 : w4.cell? ⟨G, 3, none⟩ = some (.int .u64 (p3 : Int)) := long_at hp4.out 3 (by simp)
  have ep : (p3 : Int) / 9223372036854775808 = ((p3 / 9223372036854775808 : Nat) : Int) := by omega
  have ls : p3 / 9223372036854775808 ≤ 1 := by simp only [B64] at *; omega
  have HT2 := fun o1 o2 x0 x1 x2 x3 o3 => HT (n4 b0 b1 b2 b3) o1 p0 p1 p2 p3 o2 x0 x1 x2 x3 o3
  clear HT
  generalize p3 / 9223372036854775808 = s at *
  have es : (19 : Int) * (s : Int) = ((19 * s : Nat) : Int) := by omega
  have ls19 : 19 * s < B64 := by simp only [B64]; omega
  have hcall := sum_any w4 b0 b1 b2 b3 (19 * s) 0 0 0 lb0 lb1 lb2 lb3 ls19 (by decide) (by decide) (by decide)
  generalize 19 * s = s19 at *
  go_wp2_with (with_reducible refine wpList_load_row rfl 96 (.tmp 1) rfl w.heap.size rfl 96 (u64v [b0, b1, b2, b3]).toArray (0, 0) _ hg4.out Tryd.underlying96 rfl (by kernel_rfl) ?_)
  refine hcall.mono ?_
  rintro e w5 ⟨x0, x1, x2, x3, o3, rfl, e3, ⟨lx0, lx1, lx2, lx3⟩, _, hb5⟩
  clear hcall
  have HR := vlt (HT2 o1 o2 x0 x1 x2 x3 o3 lp0 lp1 lp2 lp3 lx0 lx1 lx2 lx3 e1.out e2.out e3.out)
  clear e1 e2 e3 HT2
  have hg5 : Hid (w5.heap[w.heap.size]? = some (.cells (u64v [b0, b1, b2, b3]).toArray 96 (0, 0))) := (hb5.block _ (by omega)).trans hg4.out
  have hz5 : Hid (w5.heap[w.heap.size + 1]? = some (.cells (bv z32).toArray 23 (0, 0))) := (hb5.block _ (by omega)).trans hz4.out
  have hbw5 := below_next hb4 (by omega) hb5
  have hs7 : w.heap.size + 1 < w5.heap.size := (Array.getElem?_eq_some_iff.1 hz5.out).1
  clear hg4 hz4 hb4 hb5 hs6 hp4 cp3
  go_upto_region 6 with (with_reducible refine wpList_store_row rfl 96 (.tmp 1) (.tmp 37) rfl w.heap.size (u64v [x0, x1, x2, x3]).toArray rfl rfl 96 _ hg5.out (by kernel_rfl) (by kernel_rfl) (all_oneCell_toArray (u64v_one _)) ?_)
  obtain ⟨w6, hw6⟩ : ∃ w6, w6 = w5.setRow w.heap.size (u64v [x0, x1, x2, x3]).toArray := ⟨_, rfl⟩
  rw [← hw6]
  have hg6 : Hid (w6.heap[w.heap.size]? = some (.cells (u64v [x0, x1, x2, x3]).toArray 96 (0, 0))) := by rw [hw6]; exact setRow_heap _ _ _ _ _ _ hg5.out
  have hb6 : Below w.heap.size w w6 := by rw [hw6]; exact below_setRow hbw5 (by omega) _
  have hz6 : Hid (w6.heap[w.heap.size + 1]? = some (.cells (bv z32).toArray 23 (0, 0))) := by rw [hw6]; exact (setRow_other _ _ _ _ (by omega)).trans hz5.out
  have hs8 : w.heap.size + 1 < w6.heap.size := (Array.getElem?_eq_some_iff.1 hz6.out).1
  clear hw6 hg5 hz5 hbw5 hs7
  have cx3 : w6.cell? ⟨w.heap.size, 3, none⟩ = some (.int .u64 (x3 : Int)) := long_at hg6.out 3 (by simp)
  have fx3 : w6.frozen? ⟨w.heap.size, 3, none⟩ = false := frozen_of_row _ _ _ _ _ hg6.out
  have em := low63 x3 lx3
  have ln3 : x3 % 9223372036854775808 < B64 := by simp only [B64] at *; omega
  generalize x3 % 9223372036854775808 = n at *
  go_upto_region 7 with fail
  have hg7 : Hid ((w6.setCell ⟨w.heap.size, 3, none⟩ (.int .u64 (n : Int))).heap[w.heap.size]? = some (.cells (u64v [x0, x1, x2, n]).toArray 96 (0, 0))) := by
    have h1 := (world_set_cell hg6.out 3 (.int .u64 (n : Int))).out
    rw [u64v_set] at h1
    exact h1
  have hb7 : Below w.heap.size w (w6.setCell ⟨w.heap.size, 3, none⟩ (.int .u64 (n : Int))) := But.below hb6 ((But.refl _ w6).set _) (by omega) (by omega)
  have hz7 : Hid ((w6.setCell ⟨w.heap.size, 3, none⟩ (.int .u64 (n : Int))).heap[w.heap.size + 1]? = some (.cells (bv z32).toArray 23 (0, 0))) := (((But.refl w.heap.size w6).set _).block _ (by omega) (by intro e; injection e; omega)).trans hz6.out
  generalize w6.setCell ⟨w.heap.size, 3, none⟩ (.int .u64 (n : Int)) = w7 at *
  clear hg6 hb6 hz6 cx3 fx3 em hs8 lx3
  have hs9 : w.heap.size + 1 < w7.heap.size := (Array.getElem?_eq_some_iff.1 hz7.out).1
  go_upto_region 8 with fail
  obtain ⟨V, hV⟩ : ∃ V, V = w7.alloc (.cells (bv z32).toArray 23) := ⟨_, rfl⟩
  rw [← hV]
  obtain ⟨Gz, hGz⟩ : ∃ Gz, Gz = w7.heap.size := ⟨_, rfl⟩
  have hgV : Hid (V.heap[w.heap.size]? = some (.cells (u64v [x0, x1, x2, n]).toArray 96 (0, 0))) := by rw [hV]; exact (Below.heap_alloc _ _ _ (by omega)).trans hg7.out
  have hzV : Hid (V.heap[w.heap.size + 1]? = some (.cells (bv z32).toArray 23 (0, 0))) := by rw [hV]; exact (Below.heap_alloc _ _ _ (by omega)).trans hz7.out
  have hoV : Hid (V.heap[Gz]? = some (.cells (bv z32).toArray 23 (0, 0))) := by rw [hV, hGz]; exact heap_alloc_new _ _
  have hbV : Below w.heap.size w V := by rw [hV]; exact hb7.alloc hb7.size _
  have hGz2 : w.heap.size + 1 < Gz := by rw [hGz]; exact hs9
  have hsV : w.heap.size + 1 < V.heap.size := (Array.getElem?_eq_some_iff.1 hzV.out).1
  rw [← hGz]
  clear hGz hV hg7 hz7 hb7 hs9
  go_wp2_with fail
  go_loopw [43] (fun i wr => ∃ k : Nat, k ≤ 8 ∧ i = .int .i64 (k : Int) ∧ Hid (wr.heap[Gz]? = some (.cells (bv (quart x0 x1 x2 n k)).toArray 23 (0, 0))) ∧ But Gz V wr) (fun i _ => 8 - (intOf i).toNat)
  case atStart => exact ⟨0, by omega, rfl, hoV, But.refl _ _⟩
  case round =>
    obtain ⟨k, hk, rfl, hg, hbt⟩ := hrel
    have hgn : Hid (wr.heap[w.heap.size]? = some (.cells (u64v [x0, x1, x2, n]).toArray 96 (0, 0))) := (hbt.block _ (by omega) (by intro e; injection e; omega)).trans hgV.out
    by_cases hlt : k < 8
    · have c0 : wr.cell? ⟨w.heap.size, 0, none⟩ = some (.int .u64 (x0 : Int)) := long_at hgn.out 0 (by simp)
      have c1 : wr.cell? ⟨w.heap.size, 1, none⟩ = some (.int .u64 (x1 : Int)) := long_at hgn.out 1 (by simp)
      have c2 : wr.cell? ⟨w.heap.size, 2, none⟩ = some (.int .u64 (x2 : Int)) := long_at hgn.out 2 (by simp)
      have c3 : wr.cell? ⟨w.heap.size, 3, none⟩ = some (.int .u64 (n : Int)) := long_at hgn.out 3 (by simp)
      have f0 : wr.frozen? ⟨Gz, k, none⟩ = false := frozen_of_row _ _ _ _ _ hg.out
      have f1 : wr.frozen? ⟨Gz, k + 8, none⟩ = false := frozen_of_row _ _ _ _ _ hg.out
      have f2 : wr.frozen? ⟨Gz, k + 16, none⟩ = false := frozen_of_row _ _ _ _ _ hg.out
      have f3 : wr.frozen? ⟨Gz, k + 24, none⟩ = false := frozen_of_row _ _ _ _ _ hg.out
      obtain ⟨⟨u0, hu0⟩, ⟨u1, hu1⟩, ⟨u2, hu2⟩, ⟨u3, hu3⟩⟩ := quart_cells hg.out hlt
      have hset := (world_set_cell (world_set_cell (world_set_cell (world_set_cell hg.out k (.int .u8 ((x0 : Int) / 2 ^ (8 * k) % 256))).out (k + 8) (.int .u8 ((x1 : Int) / 2 ^ (8 * k) % 256))).out (k + 16) (.int .u8 ((x2 : Int) / 2 ^ (8 * k) % 256))).out (k + 24) (.int .u8 ((n : Int) / 2 ^ (8 * k) % 256))).out
      rw [byte_of x0 (8 * k), byte_of x1 (8 * k), byte_of x2 (8 * k), byte_of n (8 * k), bv_set, bv_set, bv_set, bv_set, quart_set _ _ _ _ _ hlt, ← byte_of x0 (8 * k), ← byte_of x1 (8 * k), ← byte_of x2 (8 * k), ← byte_of n (8 * k)] at hset
      have HSET := Lib.hid hset
      clear hset
      go_wp2_with fail
      go_region
      go_wp2
      go_roundw
      case rel => exact ⟨k + 1, by omega, by go_num, HSET.out, ((((hbt.set _).set _).set _).set _).drew⟩
      case measure => simp [intOf]; omega
    · obtain ⟨T, hT⟩ : ∃ T, T = quart x0 x1 x2 n k := ⟨_, rfl⟩
      have hk8 : k = 8 := by omega
      rw [← hT] at hg
      have HTL := Lib.hid (show T.length = 32 by rw [hT, quart_len _ _ _ _ _ hk])
      have HTE := vlt (show T = le (n4 a0 a1 a2 a3 % FP) 32 by rw [hT, hk8, quart_all _ _ _ _ lx0 lx1 lx2, HR.out])
      clear hT hk8
      have hsz := Lib.hid (show (bv T).toArray.size = 32 by simp [bv_len, HTL.out])
      have hz : Hid (wr.heap[w.heap.size + 1]? = some (.cells (bv z32).toArray 23 (0, 0))) := (hbt.block _ (by omega) (by intro e; injection e; omega)).trans hzV.out
      have hbw : Below w.heap.size w wr := But.below hbV hbt (by omega) (by omega)
      go_wp2_with (first
        | (with_reducible refine wpList_load_row rfl 23 (.tmp 6) rfl Gz rfl 23 (bv T).toArray (0, 0) _ hg.out Tryd.underlying23 rfl (by rw [hsz.out]; kernel_rfl) ?_)
        | (with_reducible refine wpList_store_row rfl 23 (.tmp 2) (.tmp 82) rfl (w.heap.size + 1) (bv T).toArray rfl rfl 23 _ hz.out (by rw [hsz.out]; kernel_rfl) (by rw [hsz.out]; kernel_rfl) (all_oneCell_toArray (bv_one _)) ?_))
      refine bodyPost_ret (v := .agg (bv T).toArray) (results_cell_row Tryd.results65 _ _ (w.heap.size + 1) 23 _ (0, 0) _ rfl (setRow_heap _ _ _ _ _ _ hz.out) Tryd.underlying23 rfl (by rw [hsz.out]; kernel_rfl)) rfl ⟨T, rfl, HTE, HTL, below_setRow hbw (by omega) _⟩
end Go.Proofs.YtcefdcjpddohaaaDoor
