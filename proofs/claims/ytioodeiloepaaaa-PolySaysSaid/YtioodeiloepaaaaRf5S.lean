/-
  Numbers of seventeen bytes, as lists: no statement is proved here. Conditions: none.
-/
import Derived.Test.YtioodeiloepaaaaPlS
namespace Go.Proofs.Ytioodeiloepaaaa
open Go.RowKit

def lvN : List Nat → Nat
  | [] => 0
  | a :: r => a + 256 * lvN r
theorem lvN_snoc (l : List Nat) (b : Nat) : lvN (l ++ [b]) = lvN l + b * 256 ^ l.length := by
  induction l with
  | nil => simp [lvN]
  | cons a r ih =>
    simp only [List.cons_append, lvN, ih, List.length_cons, Nat.pow_succ]
    grind
theorem lvN_take (l : List Nat) (k : Nat) (h : k < l.length) : lvN (l.take (k + 1)) = lvN (l.take k) + natAt l k * 256 ^ k := by
  rw [List.take_succ_eq_append_getElem h, lvN_snoc]
  simp [natAt, h, Nat.min_eq_left (Nat.le_of_lt h)]
theorem lvN_set (l : List Nat) (k v : Nat) (h : k < l.length) : lvN (l.set k v) + natAt l k * 256 ^ k = lvN l + v * 256 ^ k := by
  induction l generalizing k with
  | nil => simp at h
  | cons a r ih =>
    cases k with
    | zero => simp [lvN, natAt]; omega
    | succ k =>
      have h1 := ih k (by simpa using h)
      simp only [List.set_cons_succ, lvN, Nat.pow_succ]
      have e : natAt (a :: r) (k + 1) = natAt r k := by simp [natAt]
      rw [e]
      generalize lvN (r.set k v) = x at *
      generalize lvN r = y at *
      generalize 256 ^ k = P at *
      grind
theorem lvN_le (B : Nat) : ∀ l : List Nat, (∀ x ∈ l, x ≤ B) → 255 * lvN l + B ≤ B * 256 ^ l.length
  | [], _ => by simp [lvN]
  | a :: r, h => by
    have h1 := lvN_le B r (fun x hx => h x (by simp [hx]))
    have h2 := h a (by simp)
    simp only [lvN, List.length_cons, Nat.pow_succ]
    rw [← Nat.mul_assoc]
    generalize lvN r = L at *
    generalize B * 256 ^ r.length = Q at *
    omega
theorem lvN_lt (l : List Nat) (h : ∀ x ∈ l, x < 256) : lvN l < 256 ^ l.length := by
  have h1 := lvN_le 255 l (fun x hx => by have := h x hx; omega)
  omega
theorem natAt_set (l : List Nat) (k j v : Nat) (h : k < l.length) : natAt (l.set k v) j = if j = k then v else natAt l j := by
  simp only [natAt, List.getD_eq_getElem?_getD, List.getElem?_set]
  by_cases hj : k = j
  · subst hj; simp [h]
  · simp [hj, Ne.symm hj]
theorem lvN_nat (l : List Nat) (b : Nat) : lvN l = lvN (l.take b) + 256 ^ (min b l.length) * lvN (l.drop b) := by
  induction l generalizing b with
  | nil => simp [lvN]
  | cons a r ih =>
    cases b with
    | zero => simp [lvN]
    | succ b =>
      have := ih b
      simp only [List.take_succ_cons, List.drop_succ_cons, lvN, List.length_cons, Nat.add_min_add_right, Nat.pow_succ]
      grind
theorem up136 (v j : Nat) : v * 256 ^ (j + 17) = 320 * v * 256 ^ j + PP * (64 * v * 256 ^ j) := by
  rw [Nat.pow_add, show (256 : Nat) ^ 17 = 64 * (PP + 5) by decide]
  generalize 256 ^ j = P
  grind

/-- One step of a sum. -/
theorem plus_val (X Y A B : List Nat) (k c v : Nat) (hY : Y.length = 17) (hA : A.length = 17) (hB : B.length = 17) (hk : k < 17) (hv : v = c + (natAt A k + natAt B k))
    (hinv : lvN (X.take k) + c * 256 ^ k = lvN (A.take k) + lvN (B.take k)) (hY1 : Y.take k = X.take k) (q d : Nat) (hY2 : natAt Y k = q) (hq : v = q + 256 * d) :
    lvN (Y.take (k + 1)) + d * 256 ^ (k + 1) = lvN (A.take (k + 1)) + lvN (B.take (k + 1)) := by
  rw [lvN_take Y k (by omega), lvN_take A k (by omega), lvN_take B k (by omega), hY1, hY2, Nat.pow_succ]
  subst hv
  generalize lvN (X.take k) = x at *
  generalize lvN (A.take k) = a at *
  generalize lvN (B.take k) = b at *
  generalize 256 ^ k = P at *
  have e : (c + (natAt A k + natAt B k)) * P = (q + 256 * d) * P := by rw [hq]
  grind
theorem take_set_lt (X : List Nat) (k v : Nat) : (X.set k v).take k = X.take k := by
  rw [List.take_set, List.set_eq_of_length_le (by simp; omega)]
/-- One product more. -/
theorem times_val (p S v j i k : Nat) (hp : p % PP = S % PP) (h : i + k = j ∨ i + k = j + 17) :
    (p + (if i + k = j then v else 320 * v) * 256 ^ j) % PP = (S + v * 256 ^ (i + k)) % PP := by
  rcases h with h | h
  · rw [if_pos h, h, Nat.add_mod, hp, ← Nat.add_mod]
  · rw [if_neg (by omega), h, up136, ← Nat.add_assoc, Nat.add_mul_mod_self_left, Nat.add_mod, hp, ← Nat.add_mod]
/-- A turn of carrying. -/
theorem turn_val (V X c : Nat) (h : X + c * 1361129467683753853853498429727072845824 = V) (hX : X < 1361129467683753853853498429727072845824) :
    c = V / 1361129467683753853853498429727072845824 ∧ (X + 5 * c) % PP = V % PP := by
  constructor
  · omega
  · have e : V = X + 5 * c + PP * c := by rw [← h]; simp only [PP]; omega
    rw [e, Nat.add_mul_mod_self_left]
theorem least_val (V g : Nat) (h : g = V + 5) (hV : V < 1361129467683753853853498429727072845824) :
    (1361129467683753853853498429727072845824 ≤ g → g - 1361129467683753853853498429727072845824 = V % PP) ∧ (g < 1361129467683753853853498429727072845824 → V = V % PP) := by
  simp only [PP]
  constructor <;> intro h1 <;> omega
end Go.Proofs.Ytioodeiloepaaaa
