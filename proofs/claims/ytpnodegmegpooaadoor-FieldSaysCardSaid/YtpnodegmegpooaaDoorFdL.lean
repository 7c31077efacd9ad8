/-
  The bytes of a number in four pieces: words that the contract of told uses. No statement is proved here. Conditions: none.
-/
import Derived.Test.YtpnodegmegpooaaDoorFdC
import Derived.Test.YtpnodegmegpooaaDoorOctBD
namespace Go.Proofs.YtpnodegmegpooaaDoor
open Go.RowKit

/-- The first k bytes of each piece. -/
def quart (a b c d k : Nat) : List UInt8 := uptoB 8 (le a k) ++ (uptoB 8 (le b k) ++ (uptoB 8 (le c k) ++ uptoB 8 (le d k)))
theorem uptoB_put (n : Nat) (l : List UInt8) (x : UInt8) (h : l.length < n) : (uptoB n l).set l.length x = uptoB n (l ++ [x]) := by
  obtain ⟨m, hm⟩ : ∃ m, n - l.length = m + 1 := ⟨n - l.length - 1, by omega⟩
  rw [uptoB, uptoB, List.set_append_right _ _ (Nat.le_refl _), Nat.sub_self, hm, List.replicate_succ, List.set_cons_zero, List.length_append, List.append_assoc]
  congr 3
  simp; omega
theorem le_put (a k : Nat) (h : k < 8) : (uptoB 8 (le a k)).set k (UInt8.ofNat (a / 2 ^ (8 * k))) = uptoB 8 (le a (k + 1)) := by
  have h1 := uptoB_put 8 (le a k) (UInt8.ofNat (a / 2 ^ (8 * k))) (by rw [le_len]; exact h)
  rw [le_len] at h1
  exact h1
theorem set_r8 (A B : List UInt8) (j : Nat) (x : UInt8) (h : A.length = 8) : (A ++ B).set (j + 8) x = A ++ B.set j x := by
  rw [List.set_append_right _ _ (by omega), h, Nat.add_sub_cancel]
theorem set_l8 (A B : List UInt8) (j : Nat) (x : UInt8) (h : A.length = 8) (hj : j < 8) : (A ++ B).set j x = A.set j x ++ B := List.set_append_left _ _ (by omega)
theorem quart_set (a b c d k : Nat) (h : k < 8) : ((((quart a b c d k).set k (UInt8.ofNat (a / 2 ^ (8 * k)))).set (k + 8) (UInt8.ofNat (b / 2 ^ (8 * k)))).set (k + 16) (UInt8.ofNat (c / 2 ^ (8 * k)))).set (k + 24) (UInt8.ofNat (d / 2 ^ (8 * k))) = quart a b c d (k + 1) := by
  have hl : ∀ v j, j ≤ 8 → (uptoB 8 (le v j)).length = 8 := fun v j hj => uptoB_len 8 _ (by rw [le_len]; exact hj)
  have l0 := hl a k (by omega)
  have l1 := hl b k (by omega)
  have l2 := hl c k (by omega)
  have l0' := hl a (k + 1) (by omega)
  have l1' := hl b (k + 1) (by omega)
  have l2' := hl c (k + 1) (by omega)
  simp only [quart]
  rw [set_l8 _ _ _ _ l0 h, le_put a k h, set_r8 _ _ _ _ l0', set_l8 _ _ _ _ l1 h, le_put b k h, show k + 16 = k + 8 + 8 from rfl, set_r8 _ _ _ _ l0', set_r8 _ _ _ _ l1', set_l8 _ _ _ _ l2 h, le_put c k h,
    show k + 24 = k + 8 + 8 + 8 from rfl, set_r8 _ _ _ _ l0', set_r8 _ _ _ _ l1', set_r8 _ _ _ _ l2', le_put d k h]
theorem le_add (v n m : Nat) : le v (n + m) = le v n ++ le (v / 2 ^ (8 * n)) m := by
  induction m with
  | zero => simp [le]
  | succ m ih => rw [← Nat.add_assoc, le, le, ih, List.append_assoc, Nat.div_div_eq_div_mul, ← Nat.pow_add, Nat.mul_add]
theorem byte_low (a r n k : Nat) (h : k < n) : UInt8.ofNat ((a + 2 ^ (8 * n) * r) / 2 ^ (8 * k)) = UInt8.ofNat (a / 2 ^ (8 * k)) := by
  obtain ⟨m, rfl⟩ : ∃ m, n = k + 1 + m := ⟨n - (k + 1), by omega⟩
  have e : 2 ^ (8 * (k + 1 + m)) * r = 2 ^ (8 * k) * (256 * (2 ^ (8 * m) * r)) := by
    rw [show 8 * (k + 1 + m) = 8 * k + (8 + 8 * m) by omega, Nat.pow_add, Nat.pow_add, show (2 : Nat) ^ 8 = 256 by decide]
    grind
  rw [e, Nat.add_mul_div_left _ _ (Nat.two_pow_pos _)]
  apply UInt8.toNat_inj.1
  simp [UInt8.toNat_ofNat']
theorem le_low (a r n : Nat) : ∀ k, k ≤ n → le (a + 2 ^ (8 * n) * r) k = le a k
  | 0, _ => rfl
  | k + 1, h => by rw [le, le, le_low a r n k (by omega), byte_low a r n k (by omega)]
theorem le_join (a r m : Nat) (ha : a < 18446744073709551616) : le (a + 18446744073709551616 * r) (8 + m) = le a 8 ++ le r m := by
  have h := le_low a r 8 8 (Nat.le_refl _)
  rw [show (2 : Nat) ^ (8 * 8) = 18446744073709551616 by decide] at h
  rw [le_add, h, show (2 : Nat) ^ (8 * 8) = 18446744073709551616 by decide, Nat.add_mul_div_left _ _ (by decide), Nat.div_eq_of_lt ha, Nat.zero_add]
theorem quart_all (a b c d : Nat) (ha : a < 18446744073709551616) (hb : b < 18446744073709551616) (hc : c < 18446744073709551616) : quart a b c d 8 = le (n4 a b c d) 32 := by
  rw [quart, uptoB_all _ _ (le_len _ _), uptoB_all _ _ (le_len _ _), uptoB_all _ _ (le_len _ _), uptoB_all _ _ (le_len _ _)]
  rw [show n4 a b c d = a + 18446744073709551616 * (b + 18446744073709551616 * (c + 18446744073709551616 * d)) by simp only [n4]; omega, show (32 : Nat) = 8 + (8 + (8 + 8)) from rfl, le_join _ _ _ ha, le_join _ _ _ hb, le_join _ _ _ hc]
end Go.Proofs.YtpnodegmegpooaaDoor
