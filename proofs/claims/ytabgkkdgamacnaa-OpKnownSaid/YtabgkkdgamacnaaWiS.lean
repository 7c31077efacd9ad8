/-
  Numbers in groups of seven bits, as lists of bytes: words for the walks of wire and of the document's own. No statement is proved here. Conditions: none.
-/
import Derived.Test.YtabgkkdgamacnaaBase
namespace Go.Proofs.Ytabgkkdgamacnaa
open Go.RowKit

def grN : Nat → Nat → List UInt8
  | 0, v => [UInt8.ofNat v]
  | f + 1, v => if v < 128 then [UInt8.ofNat v] else UInt8.ofNat (v % 128 + 128) :: grN f (v / 128)
def gr (v : Nat) : List UInt8 := grN 8 v
theorem grN_small (f v : Nat) (h : v < 128) : grN f v = [UInt8.ofNat v] := by
  cases f with
  | zero => rfl
  | succ f => rw [grN, if_pos h]
theorem grN_more (f v : Nat) (h : ¬ v < 128) : grN (f + 1) v = UInt8.ofNat (v % 128 + 128) :: grN f (v / 128) := by rw [grN, if_neg h]
theorem grN_pos (f v : Nat) : 1 ≤ (grN f v).length := by
  cases f with
  | zero => exact Nat.le_refl _
  | succ f =>
    rw [grN]
    split
    · exact Nat.le_refl _
    · simp
theorem grN_le (f : Nat) : ∀ v, (grN f v).length ≤ f + 1 := by
  induction f with
  | zero => intro v; exact Nat.le_refl _
  | succ f ih =>
    intro v
    rw [grN]
    split
    · simp
    · have := ih (v / 128)
      rw [List.length_cons]; omega
theorem grN_mono (f : Nat) : ∀ a b, a ≤ b → (grN f a).length ≤ (grN f b).length := by
  induction f with
  | zero => intro a b _; exact Nat.le_refl _
  | succ f ih =>
    intro a b h
    rw [grN, grN]
    by_cases ha : a < 128
    · rw [if_pos ha]
      by_cases hb : b < 128
      · rw [if_pos hb]; exact Nat.le_refl _
      · rw [if_neg hb]; simp
    · rw [if_neg ha, if_neg (by omega), List.length_cons, List.length_cons]
      exact Nat.succ_le_succ (ih _ _ (Nat.div_le_div_right h))
theorem gr_pos (v : Nat) : 1 ≤ (gr v).length := grN_pos 8 v
theorem gr_le (v : Nat) : (gr v).length ≤ 9 := grN_le 8 v
theorem gr_mono (a b : Nat) (h : a ≤ b) : (gr a).length ≤ (gr b).length := grN_mono 8 a b h
/-- The number that bytes begin with, and how many bytes it takes: none, if they begin with none. -/
def frL : List UInt8 → Nat → Nat → Nat × Nat
  | [], _, _ => (0, 0)
  | c :: r, i, v => if 128 ≤ c.toNat then frL r (i + 1) (v + c.toNat % 128 * 2 ^ (7 * i)) else if c.toNat = 0 ∧ 0 < i then (0, 0) else (v + c.toNat * 2 ^ (7 * i), i + 1)
def frontOf (l : List UInt8) : Nat × Nat := frL (l.take 9) 0 0
theorem frL_gr (f : Nat) : ∀ (v : Nat) (rest : List UInt8) (i a : Nat), v < 2 ^ (7 * (f + 1)) → (v ≠ 0 ∨ i = 0) → frL (grN f v ++ rest) i a = (a + v * 2 ^ (7 * i), i + (grN f v).length) := by
  have small : ∀ (f v : Nat) (rest : List UInt8) (i a : Nat), v < 128 → (v ≠ 0 ∨ i = 0) → frL (grN f v ++ rest) i a = (a + v * 2 ^ (7 * i), i + (grN f v).length) := by
    intro f v rest i a h h0
    rw [grN_small f v h]
    have e : (UInt8.ofNat v).toNat = v := by simp; omega
    rw [List.singleton_append, frL, e, if_neg (by omega), if_neg (by omega)]
    rfl
  induction f with
  | zero => intro v rest i a h h0; exact small 0 v rest i a (by simpa using h) h0
  | succ f ih =>
    intro v rest i a h h0
    by_cases hv : v < 128
    · exact small _ v rest i a hv h0
    · rw [grN_more f v hv]
      have e : (UInt8.ofNat (v % 128 + 128)).toNat = v % 128 + 128 := by simp; omega
      have hd : v / 128 < 2 ^ (7 * (f + 1)) := by
        have : 2 ^ (7 * (f + 1 + 1)) = 2 ^ (7 * (f + 1)) * 128 := by rw [show 7 * (f + 1 + 1) = 7 * (f + 1) + 7 by omega, Nat.pow_add]
        rw [this] at h
        exact Nat.div_lt_of_lt_mul (by rw [Nat.mul_comm]; exact h)
      rw [List.cons_append, frL, e, if_pos (by omega), ih (v / 128) rest (i + 1) _ hd (.inl (by omega)), List.length_cons]
      have e2 : (v % 128 + 128) % 128 = v % 128 := by omega
      have e3 : 2 ^ (7 * (i + 1)) = 128 * 2 ^ (7 * i) := by rw [show 7 * (i + 1) = 7 * i + 7 by omega, Nat.pow_add, Nat.mul_comm]
      rw [e2, e3, Nat.add_assoc]
      refine Prod.ext ?_ (by show _ = _; simp only; omega)
      show a + (v % 128 * 2 ^ (7 * i) + v / 128 * (128 * 2 ^ (7 * i))) = a + v * 2 ^ (7 * i)
      rw [← Nat.mul_assoc, ← Nat.add_mul]
      congr 2; omega
theorem front_gr (v : Nat) (hv : v < 9223372036854775808) (rest : List UInt8) : frontOf (gr v ++ rest) = (v, (gr v).length) := by
  have hl := gr_le v
  rw [frontOf, List.take_append, List.take_of_length_le hl]
  have h := frL_gr 8 v (rest.take (9 - (gr v).length)) 0 0 (by simpa using hv) (.inr rfl)
  rw [show grN 8 v = gr v from rfl] at h
  rw [h]
  simp
theorem frL_bound : ∀ (l : List UInt8) (i a : Nat), a < 2 ^ (7 * i) → (frL l i a).1 < 2 ^ (7 * (i + l.length)) ∧ (frL l i a).2 ≤ i + l.length
  | [], i, a, h => ⟨Nat.two_pow_pos _, Nat.zero_le _⟩
  | c :: r, i, a, h => by
    have hp : 2 ^ (7 * (i + 1)) = 128 * 2 ^ (7 * i) := by rw [show 7 * (i + 1) = 7 * i + 7 by omega, Nat.pow_add, Nat.mul_comm]
    have hmore : ∀ x, x < 128 → a + x * 2 ^ (7 * i) < 2 ^ (7 * (i + 1)) := by
      intro x hx
      have : x * 2 ^ (7 * i) ≤ 127 * 2 ^ (7 * i) := Nat.mul_le_mul_right _ (by omega)
      omega
    rw [frL]
    split
    · have h2 := frL_bound r (i + 1) _ (hmore (c.toNat % 128) (Nat.mod_lt _ (by decide)))
      rw [List.length_cons, show i + (r.length + 1) = i + 1 + r.length by omega]
      exact h2
    · split
      · exact ⟨Nat.two_pow_pos _, Nat.zero_le _⟩
      · refine ⟨Nat.lt_of_lt_of_le (hmore c.toNat (by omega)) (Nat.pow_le_pow_right (by decide) ?_), ?_⟩
        · rw [List.length_cons]; omega
        · rw [List.length_cons]; show i + 1 ≤ _; omega
theorem front_lt (l : List UInt8) : (frontOf l).1 < 9223372036854775808 := by
  have h := (frL_bound (l.take 9) 0 0 (by decide)).1
  refine Nat.lt_of_lt_of_le h ?_
  have : (l.take 9).length ≤ 9 := by rw [List.length_take]; omega
  exact Nat.le_trans (Nat.pow_le_pow_right (by decide) (show 7 * (0 + (l.take 9).length) ≤ 63 by omega)) (by decide)
theorem front_len (l : List UInt8) : (frontOf l).2 ≤ l.length := by
  have h := (frL_bound (l.take 9) 0 0 (by decide)).2
  rw [List.length_take] at h
  rw [frontOf]; omega
theorem or_add (a x k : Nat) (h : a < 2 ^ k) : a ||| (x * 2 ^ k) = a + x * 2 ^ k := by
  rw [Nat.mul_comm x, Nat.or_comm, ← Nat.two_pow_add_eq_or_of_lt h, Nat.add_comm]
end Go.Proofs.Ytabgkkdgamacnaa
