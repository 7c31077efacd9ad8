/-
  Numbers read one behind the other, as lists of bytes, by wire's reader and by the document's own. No statement is proved here. Conditions: none.
-/
import Derived.Test.YtabgkkdgamacnaaVcD
import Derived.Test.YtabgkkdgamacnaaWiR
namespace Go.Proofs.Ytabgkkdgamacnaa
open Go.RowKit

/-- One number of at most m read: the number, what is left, whether it is bad. -/
def rd1 (m : Nat) (s : List UInt8 × Bool) : Int × List UInt8 × Bool :=
  if (frontOf s.1).2 = 0 ∨ m < (frontOf s.1).1 then (0, [], true) else ((frontOf s.1).1, s.1.drop (frontOf s.1).2, s.2)
def rdk (m : Nat) : Nat → List UInt8 × Bool → List Int × List UInt8 × Bool
  | 0, s => ([], s)
  | k + 1, s => ((rdk m k s).1 ++ [(rd1 m (rdk m k s).2).1], (rd1 m (rdk m k s).2).2)
theorem rdk_len (m : Nat) (s : List UInt8 × Bool) : ∀ k, (rdk m k s).1.length = k
  | 0 => rfl
  | k + 1 => by rw [rdk, List.length_append, rdk_len m s k]; rfl
/-- Eight numbers, noughts if it is bad then. -/
def vrd (s : List UInt8 × Bool) : List Int × List UInt8 × Bool :=
  if (rdk 1099511627776 8 s).2.2 = true then (z8, (rdk 1099511627776 8 s).2) else rdk 1099511627776 8 s
theorem vrd_len (s : List UInt8 × Bool) : (vrd s).1.length = 8 := by
  rw [vrd]; split
  · rfl
  · exact rdk_len _ _ _
/-- The same by the document's own reader: where it stands in the bytes B. -/
def rd1R (B : List UInt8) (m : Nat) (s : Nat × Bool) : Int × Nat × Bool :=
  if s.2 = true then (0, s.1, true) else
  if (frontOf (B.drop s.1)).2 = 0 ∨ m < (frontOf (B.drop s.1)).1 then (0, s.1, true) else ((frontOf (B.drop s.1)).1, s.1 + (frontOf (B.drop s.1)).2, false)
def rdkR (B : List UInt8) (m : Nat) : Nat → Nat × Bool → List Int × Nat × Bool
  | 0, s => ([], s)
  | k + 1, s => ((rdkR B m k s).1 ++ [(rd1R B m (rdkR B m k s).2).1], (rd1R B m (rdkR B m k s).2).2)
theorem rdkR_len (B : List UInt8) (m : Nat) (s : Nat × Bool) : ∀ k, (rdkR B m k s).1.length = k
  | 0 => rfl
  | k + 1 => by rw [rdkR, List.length_append, rdkR_len B m s k]; rfl
def vrdR (B : List UInt8) (s : Nat × Bool) : List Int × Nat × Bool :=
  if (rdkR B 1099511627776 8 s).2.2 = true then (z8, (rdkR B 1099511627776 8 s).2) else rdkR B 1099511627776 8 s
/-- Both readers stand at one place. -/
def Alike (B : List UInt8) (s : List UInt8 × Bool) (t : Nat × Bool) : Prop := s.2 = t.2 ∧ t.1 ≤ B.length ∧ s.1 = if s.2 = true then [] else B.drop t.1
theorem alike_rd1 {B : List UInt8} {m : Nat} {s : List UInt8 × Bool} {t : Nat × Bool} (h : Alike B s t) : (rd1 m s).1 = (rd1R B m t).1 ∧ Alike B (rd1 m s).2 (rd1R B m t).2 := by
  obtain ⟨l, bad⟩ := s
  obtain ⟨i, bad'⟩ := t
  obtain ⟨rfl, h2, h3⟩ := h
  cases bad
  · simp only [Bool.false_eq_true, if_false] at h3
    subst h3
    have hl := front_len (B.drop i)
    rw [List.length_drop] at hl
    rw [rd1, rd1R]
    simp only [Bool.false_eq_true, if_false]
    by_cases hc : (frontOf (B.drop i)).2 = 0 ∨ m < (frontOf (B.drop i)).1
    · rw [if_pos hc, if_pos hc]
      exact ⟨rfl, rfl, h2, rfl⟩
    · rw [if_neg hc, if_neg hc]
      refine ⟨rfl, rfl, ?_, ?_⟩
      · show i + _ ≤ _
        have h2' : i ≤ B.length := h2
        omega
      · show (B.drop i).drop _ = _
        rw [List.drop_drop]; rfl
  · simp only [if_true] at h3
    subst h3
    exact ⟨rfl, rfl, h2, rfl⟩
theorem alike_rdk {B : List UInt8} {m : Nat} {s : List UInt8 × Bool} {t : Nat × Bool} (h : Alike B s t) : ∀ k, (rdk m k s).1 = (rdkR B m k t).1 ∧ Alike B (rdk m k s).2 (rdkR B m k t).2
  | 0 => ⟨rfl, h⟩
  | k + 1 => by
    have h1 := alike_rdk h k (m := m)
    have h2 := alike_rd1 (m := m) h1.2
    refine ⟨?_, h2.2⟩
    rw [rdk, rdkR, h1.1, h2.1]
theorem alike_vrd {B : List UInt8} {s : List UInt8 × Bool} {t : Nat × Bool} (h : Alike B s t) : (vrd s).1 = (vrdR B t).1 ∧ Alike B (vrd s).2 (vrdR B t).2 := by
  have h1 := alike_rdk h 8 (m := 1099511627776)
  rw [vrd, vrdR]
  generalize rdk 1099511627776 8 s = p at h1 ⊢
  generalize rdkR B 1099511627776 8 t = q at h1 ⊢
  rw [← h1.2.1]
  by_cases hb : p.2.2 = true
  · rw [if_pos hb, if_pos hb]; exact ⟨rfl, h1.2⟩
  · rw [if_neg hb, if_neg hb]; exact h1
/-- At the end of the bytes, both or none. -/
theorem alike_end {B : List UInt8} {s : List UInt8 × Bool} {t : Nat × Bool} (h : Alike B s t) : (!s.2 && decide (s.1.length = 0)) = (!t.2 && decide (t.1 = B.length)) := by
  obtain ⟨h1, h2, h3⟩ := h
  rw [h3, ← h1]
  cases s.2
  · simp only [Bool.false_eq_true, if_false, Bool.not_false, Bool.true_and, List.length_drop]
    apply decide_eq_decide.2
    omega
  · rfl
/-- What is written is read. -/
theorem vput_cons (x : Int) (r : List Int) : vput (x :: r) = gr x.toNat ++ vput r := rfl
theorem rdk_put {a : List Int} (hg : vgood a = true) (rest : List UInt8) : ∀ k, k ≤ a.length → rdk 1099511627776 k (vput a ++ rest, false) = (a.take k, vput (a.drop k) ++ rest, false)
  | 0, _ => rfl
  | k + 1, hk => by
    have h1 := rdk_put hg rest k (by omega)
    have hx := (vgood_iff a).1 hg k (by omega)
    have hd : a.drop k = iat a k :: a.drop (k + 1) := by
      rw [List.drop_eq_getElem_cons (by omega), show iat a k = a[k] by simp [iat, show k < a.length by omega]]
    have hf := front_gr (iat a k).toNat (by omega) (vput (a.drop (k + 1)) ++ rest)
    have hp := gr_pos (iat a k).toNat
    rw [rdk, h1, hd, vput_cons, List.append_assoc, rd1]
    simp only
    rw [hf]
    simp only
    rw [if_neg (by omega), List.drop_left, List.take_succ_eq_append_getElem (by omega), show a[k] = iat a k by simp [iat, show k < a.length by omega]]
    rw [show ((iat a k).toNat : Int) = iat a k by omega]
theorem vrd_put {a : List Int} (ha : a.length = 8) (hg : vgood a = true) : vrd (vput a, false) = (a, [], false) := by
  have h := rdk_put hg [] 8 (by omega)
  rw [List.append_nil, List.take_of_length_le (by omega), List.drop_eq_nil_of_le (by omega)] at h
  rw [vrd, h]; rfl
theorem vrd_seven : vrd ([1, 2, 3, 4, 5, 6, 7], false) = (z8, [], true) := by decide +kernel
end Go.Proofs.Ytabgkkdgamacnaa
