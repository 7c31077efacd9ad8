/-
  Words as numbers modulo the prime: no statement is proved here. Conditions: none.
-/
import Derived.Test.YtpnodegmegpooaaDoorFdL
namespace Go.Proofs.YtpnodegmegpooaaDoor
open Go.RowKit

theorem ln_le (v : Nat) : ∀ n, ln (le v n) = v % 256 ^ n
  | 0 => by simp [ln, le, Nat.mod_one]
  | n + 1 => by
    rw [le, ln_snoc, ln_le v n, le_len, Nat.pow_succ, Nat.mod_mul, Nat.pow_mul, show (2 : Nat) ^ 8 = 256 by decide, UInt8.toNat_ofNat', show (2 : Nat) ^ 8 = 256 by decide, Nat.mul_comm (256 ^ n)]
theorem ln_inj : ∀ (l m : List UInt8), l.length = m.length → ln l = ln m → l = m
  | [], [], _, _ => rfl
  | a :: l, b :: m, h, e => by
    have h1 := a.toNat_lt
    have h2 := b.toNat_lt
    simp only [ln] at e
    have e1 : a.toNat = b.toNat := by omega
    have e2 : ln l = ln m := by omega
    rw [UInt8.toNat_inj.1 e1, ln_inj l m (by simpa using h) e2]
/-- The word of a number. -/
def wo (N : Nat) : List UInt8 := le (N % FP) 32
theorem wo_len (N : Nat) : (wo N).length = 32 := le_len _ _
theorem fp_pos : 0 < FP := by decide
theorem ln_wo (N : Nat) : ln (wo N) = N % FP := by
  rw [wo, ln_le, Nat.mod_eq_of_lt (Nat.lt_trans (Nat.mod_lt _ fp_pos) (by decide))]
theorem wo_of {N M : Nat} (h : N % FP = M % FP) : wo N = wo M := by rw [wo, wo, h]
theorem wo_ln (l : List UInt8) (h : l.length = 32) (h2 : ln l < FP) : wo (ln l) = l := ln_inj _ _ (by rw [wo_len, h]) (by rw [ln_wo, Nat.mod_eq_of_lt h2])
theorem wo_inj {N M : Nat} (h : wo N = wo M) : N % FP = M % FP := by rw [← ln_wo, ← ln_wo, h]
/-- Less, modulo the prime; a whole number, modulo the prime. -/
def subF (x y : Nat) : Nat := x + (FP - y % FP)
theorem subF_of {c b a : Nat} (h : (c + b) % FP = a % FP) : c % FP = subF a b % FP := by
  have hb : b % FP < FP := Nat.mod_lt _ fp_pos
  have h1 : (c + b + (FP - b % FP)) % FP = subF a b % FP := by rw [subF, Nat.add_mod, h, ← Nat.add_mod]
  rw [← h1]
  have h2 : c + b + (FP - b % FP) = c + FP * (b / FP + 1) := by
    have := Nat.div_add_mod b FP
    rw [Nat.mul_add, Nat.mul_one]
    omega
  rw [h2, Nat.add_mul_mod_self_left]
theorem subF_add (a b : Nat) : (subF a b + b) % FP = a % FP := by
  have hb : b % FP < FP := Nat.mod_lt _ fp_pos
  have h2 : subF a b + b = a + FP * (b / FP + 1) := by
    have := Nat.div_add_mod b FP
    rw [subF, Nat.mul_add, Nat.mul_one]
    omega
  rw [h2, Nat.add_mul_mod_self_left]
theorem subF_mod (a b : Nat) : subF (a % FP) (b % FP) % FP = subF a b % FP := by
  simp only [subF, Nat.mod_mod, Nat.mod_add_mod]
def ofF (n : Int) : Nat := (n % (FP : Int)).toNat
theorem ofF_nat (n : Nat) : ofF (n : Int) = n % FP := by
  rw [ofF]; omega
theorem ofF_neg (n : Nat) : ofF (-(n : Int)) % FP = subF 0 n % FP := by
  have h : (ofF (-(n : Int)) + n) % FP = 0 % FP := by
    have hp : (0 : Int) < (FP : Int) := by decide
    have h1 := Int.emod_nonneg (-(n : Int)) (Int.ne_of_gt hp)
    have h2 : ((ofF (-(n : Int)) : Nat) : Int) = -(n : Int) % (FP : Int) := Int.toNat_of_nonneg h1
    have h3 : (((ofF (-(n : Int)) + n) % FP : Nat) : Int) = 0 := by
      rw [Int.natCast_emod, Int.natCast_add, h2, Int.emod_add_emod, Int.add_left_neg, Int.zero_emod]
    rw [Nat.zero_mod]
    omega
  exact subF_of h
theorem ofF_int (n : Int) : ((ofF n : Nat) : Int) = n % (FP : Int) := Int.toNat_of_nonneg (Int.emod_nonneg _ (by decide))
theorem ofF_lt (n : Int) : ofF n < FP := by
  have h1 := Int.emod_lt_of_pos n (show (0 : Int) < (FP : Int) by decide)
  have h2 := ofF_int n
  omega
theorem ofF_add (a b : Int) : (ofF a + ofF b) % FP = ofF (a + b) % FP := by
  have h : (((ofF a + ofF b) % FP : Nat) : Int) = ((ofF (a + b) % FP : Nat) : Int) := by
    rw [Int.natCast_emod, Int.natCast_emod, Int.natCast_add, ofF_int, ofF_int, ofF_int, ← Int.add_emod, Int.emod_emod]
  exact Int.ofNat.inj h
theorem ofF_mul (a b : Int) : (ofF a * ofF b) % FP = ofF (a * b) % FP := by
  have h : (((ofF a * ofF b) % FP : Nat) : Int) = ((ofF (a * b) % FP : Nat) : Int) := by
    rw [Int.natCast_emod, Int.natCast_emod, Int.natCast_mul, ofF_int, ofF_int, ofF_int, ← Int.mul_emod, Int.emod_emod]
  exact Int.ofNat.inj h
theorem ofF_sub (a b : Int) : subF (ofF a) (ofF b) % FP = ofF (a - b) % FP := by
  refine (subF_of ?_).symm
  rw [ofF_add, Int.sub_add_cancel]
theorem ofF_inj (a b : Int) (ha : -4294967296 < a) (ha2 : a < 4294967296) (hb : -4294967296 < b) (hb2 : b < 4294967296) (h : ofF a = ofF b) : a = b := by
  have h1 : a % (FP : Int) = b % (FP : Int) := by rw [← ofF_int, ← ofF_int, h]
  rw [show (FP : Int) = 57896044618658097711785492504343953926634992332820282019728792003956564819949 from rfl] at h1
  omega
theorem prod32 (a b : Int) (ha : -2147483648 ≤ a) (ha2 : a ≤ 2147483647) (hb : -2147483648 ≤ b) (hb2 : b ≤ 2147483647) : -4611686018427387904 ≤ a * b ∧ a * b ≤ 4611686018427387904 := by
  have h : (a * b).natAbs ≤ 2147483648 * 2147483648 := by
    rw [Int.natAbs_mul]
    exact Nat.mul_le_mul (by omega) (by omega)
  omega
end Go.Proofs.YtpnodegmegpooaaDoor
