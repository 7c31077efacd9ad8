/-
  Digits read: words that other texts share. No statement is proved here. Conditions: none.
-/
import Derived.Test.YtioodeiloepaaaaHexS
namespace Go.Proofs.Ytioodeiloepaaaa
open Go.RowKit

/-- One digit's number. -/
def nib (c : Nat) : Option Nat := if 48 ≤ c ∧ c ≤ 57 then some (c - 48) else if 97 ≤ c ∧ c ≤ 102 then some (c - 87) else none
theorem nib_lt {c x : Nat} (h : nib c = some x) : x < 16 := by
  unfold nib at h
  split at h
  · simp at h; omega
  · split at h
    · simp at h; omega
    · cases h

/-- Two digits a byte, or none. -/
def unhex : List UInt8 → Option (List UInt8)
  | [] => some []
  | [_] => none
  | a :: b :: r => match nib a.toNat, nib b.toNat, unhex r with
    | some x, some y, some l => some (UInt8.ofNat (16 * x + y) :: l)
    | _, _, _ => none

/-- Digits 2k and 2k+1 are digits, and tell x and y. -/
def Dig (s : List UInt8) (k x y : Nat) : Prop := ∃ a b, s[2 * k]? = some a ∧ s[2 * k + 1]? = some b ∧ nib a.toNat = some x ∧ nib b.toNat = some y

theorem unhex_some : ∀ (s l : List UInt8), unhex s = some l → s.length = 2 * l.length ∧ ∀ k, k < l.length → ∃ x y, Dig s k x y ∧ l[k]? = some (UInt8.ofNat (16 * x + y))
  | [], l, h => by
    simp [unhex] at h; subst h; simp
  | [_], l, h => by simp [unhex] at h
  | a :: b :: r, l, h => by
    unfold unhex at h
    split at h
    · rename_i x y l' hx hy hr
      simp at h; subst h
      obtain ⟨h1, h2⟩ := unhex_some r l' hr
      refine ⟨by simp; omega, fun k hk => ?_⟩
      cases k with
      | zero => exact ⟨x, y, ⟨a, b, by simp, by simp, hx, hy⟩, by simp⟩
      | succ k =>
        obtain ⟨x', y', ⟨a', b', q1, q2, q3, q4⟩, q5⟩ := h2 k (by simpa using hk)
        refine ⟨x', y', ⟨a', b', ?_, ?_, q3, q4⟩, by simpa using q5⟩
        · rw [show 2 * (k + 1) = 2 * k + 2 from by omega]; simpa using q1
        · rw [show 2 * (k + 1) + 1 = 2 * k + 1 + 2 from by omega]; simpa using q2
    · cases h

theorem unhex_none : ∀ (s : List UInt8), unhex s = none → s.length % 2 = 1 ∨ ∃ j, 2 * j + 1 < s.length ∧ (∀ k, k < j → ∃ x y, Dig s k x y) ∧ ∃ a b, s[2 * j]? = some a ∧ s[2 * j + 1]? = some b ∧ (nib a.toNat = none ∨ nib b.toNat = none)
  | [], h => by simp [unhex] at h
  | [_], h => by simp
  | a :: b :: r, h => by
    unfold unhex at h
    split at h
    · cases h
    · rename_i hno
      cases hx : nib a.toNat with
      | none => exact .inr ⟨0, by simp, by simp, a, b, by simp, by simp, .inl hx⟩
      | some x =>
        cases hy : nib b.toNat with
        | none => exact .inr ⟨0, by simp, by simp, a, b, by simp, by simp, .inr hy⟩
        | some y =>
          cases hr : unhex r with
          | some l => exact absurd hr (by intro hr; exact hno x y l hx hy hr)
          | none =>
            rcases unhex_none r hr with h1 | ⟨j, h1, h2, a', b', h3, h4, h5⟩
            · left; simp; omega
            · refine .inr ⟨j + 1, by simp; omega, fun k hk => ?_, a', b', ?_, ?_, h5⟩
              · cases k with
                | zero => exact ⟨x, y, a, b, by simp, by simp, hx, hy⟩
                | succ k =>
                  obtain ⟨x', y', a2, b2, q1, q2, q3, q4⟩ := h2 k (by omega)
                  refine ⟨x', y', a2, b2, ?_, ?_, q3, q4⟩
                  · rw [show 2 * (k + 1) = 2 * k + 2 from by omega]; simpa using q1
                  · rw [show 2 * (k + 1) + 1 = 2 * k + 1 + 2 from by omega]; simpa using q2
              · rw [show 2 * (j + 1) = 2 * j + 2 from by omega]; simpa using h3
              · rw [show 2 * (j + 1) + 1 = 2 * j + 1 + 2 from by omega]; simpa using h4

theorem byte_at {s : ByteArray} {k : Nat} {a : UInt8} (h : s.data.toList[k]? = some a) : ∃ hk : k < s.size, s[k] = a := by
  obtain ⟨hk, h2⟩ := List.getElem?_eq_some_iff.1 h
  exact ⟨by have h3 := hk; rw [Array.length_toList] at h3; exact h3, by rw [← h2]; rfl⟩
end Go.Proofs.Ytioodeiloepaaaa
