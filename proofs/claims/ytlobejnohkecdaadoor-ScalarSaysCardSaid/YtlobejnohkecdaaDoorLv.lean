/-
  Numbers of bytes, as lists of numbers: no statement is proved here. Conditions: none.
-/
import Derived.Test.YtlobejnohkecdaaDoorNew
namespace Go.Proofs.YtlobejnohkecdaaDoor
open Go.RowKit

def lvN : List Nat → Nat
  | [] => 0
  | a :: r => a + 256 * lvN r
theorem lvN_snoc (l : List Nat) (b : Nat) : lvN (l ++ [b]) = lvN l + b * 256 ^ l.length := by
  induction l with
  | nil => simp [lvN]
  | cons a r ih =>
    simp only [List.cons_append, lvN, ih, List.length_cons, Nat.pow_succ]
    grind
theorem lvN_take (l : List Nat) (k : Nat) (h : k < l.length) : lvN (l.take (k + 1)) = lvN (l.take k) + natAt l k * 256 ^ k := by
  rw [List.take_succ_eq_append_getElem h, lvN_snoc]
  simp [natAt, h, Nat.min_eq_left (Nat.le_of_lt h)]
theorem lvN_set (l : List Nat) (k v : Nat) (h : k < l.length) : lvN (l.set k v) + natAt l k * 256 ^ k = lvN l + v * 256 ^ k := by
  induction l generalizing k with
  | nil => simp at h
  | cons a r ih =>
    cases k with
    | zero => simp [lvN, natAt]; omega
    | succ k =>
      have h1 := ih k (by simpa using h)
      simp only [List.set_cons_succ, lvN, Nat.pow_succ]
      have e : natAt (a :: r) (k + 1) = natAt r k := by simp [natAt]
      rw [e]
      generalize lvN (r.set k v) = x at *
      generalize lvN r = y at *
      generalize 256 ^ k = P at *
      grind
theorem lvN_le (B : Nat) : ∀ l : List Nat, (∀ x ∈ l, x ≤ B) → 255 * lvN l + B ≤ B * 256 ^ l.length
  | [], _ => by simp [lvN]
  | a :: r, h => by
    have h1 := lvN_le B r (fun x hx => h x (by simp [hx]))
    have h2 := h a (by simp)
    simp only [lvN, List.length_cons, Nat.pow_succ]
    rw [← Nat.mul_assoc]
    generalize lvN r = L at *
    generalize B * 256 ^ r.length = Q at *
    omega
theorem lvN_lt (l : List Nat) (h : ∀ x ∈ l, x < 256) : lvN l < 256 ^ l.length := by
  have h1 := lvN_le 255 l (fun x hx => by have := h x hx; omega)
  omega
theorem natAt_set (l : List Nat) (k j v : Nat) (h : k < l.length) : natAt (l.set k v) j = if j = k then v else natAt l j := by
  simp only [natAt, List.getD_eq_getElem?_getD, List.getElem?_set]
  by_cases hj : k = j
  · subst hj; simp [h]
  · simp [hj, Ne.symm hj]
theorem lvN_nat (l : List Nat) (b : Nat) : lvN l = lvN (l.take b) + 256 ^ (min b l.length) * lvN (l.drop b) := by
  induction l generalizing b with
  | nil => simp [lvN]
  | cons a r ih =>
    cases b with
    | zero => simp [lvN]
    | succ b =>
      have := ih b
      simp only [List.take_succ_cons, List.drop_succ_cons, lvN, List.length_cons, Nat.add_min_add_right, Nat.pow_succ]
      grind
theorem take_set_lt (X : List Nat) (k v : Nat) : (X.set k v).take k = X.take k := by
  rw [List.take_set, List.set_eq_of_length_le (by simp; omega)]
/-- A byte as a number. -/
def nb (l : List UInt8) (k : Nat) : Nat := (l.getD k 0).toNat
theorem nb_lt (l : List UInt8) (k : Nat) : nb l k < 256 := (l.getD k 0).toNat_lt
theorem nb_at {l : List UInt8} {k : Nat} (h : k < l.length) : l[k]? = some (UInt8.ofNat (nb l k)) := by
  rw [List.getElem?_eq_getElem h, nb, List.getD_eq_getElem?_getD, List.getElem?_eq_getElem h]; simp
end Go.Proofs.YtlobejnohkecdaaDoor
