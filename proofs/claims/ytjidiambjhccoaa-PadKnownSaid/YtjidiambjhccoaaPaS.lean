/-
  Buckets and padded bytes as numbers and lists. No statement is proved here. Conditions: none.
-/
import Derived.Test.YtjidiambjhccoaaCut
import Derived.Test.YtjidiambjhccoaaLit
import Derived.LoopTactic
namespace Go.Proofs.Ytjidiambjhccoaa
open Go.RowKit

/-- The least bucket above n, of n below 65536. -/
def bkt (n : Nat) : Nat :=
  if n < 64 then 64 else if n < 128 then 128 else if n < 256 then 256 else if n < 512 then 512 else if n < 1024 then 1024 else if n < 2048 then 2048 else if n < 4096 then 4096
  else if n < 8192 then 8192 else if n < 16384 then 16384 else if n < 32768 then 32768 else 65536
/-- One of the buckets. -/
def Pw (s : Nat) : Prop := s = 64 ∨ s = 128 ∨ s = 256 ∨ s = 512 ∨ s = 1024 ∨ s = 2048 ∨ s = 4096 ∨ s = 8192 ∨ s = 16384 ∨ s = 32768 ∨ s = 65536
theorem bkt_is {s n : Nat} (hs : Pw s) (h1 : s = 64 ∨ s ≤ 2 * n) (h2 : n < s) : s = bkt n := by
  unfold bkt
  rcases hs with h | h | h | h | h | h | h | h | h | h | h <;> subst h <;> (repeat' split) <;> omega
theorem pw_twice {s n : Nat} (hs : Pw s) (h1 : s ≤ n) (h2 : n < 65536) : Pw (2 * s) := by
  unfold Pw at *; omega
theorem pw_bkt (n : Nat) : Pw (bkt n) := by
  unfold bkt Pw; (repeat' split) <;> omega
theorem bkt_lt {n : Nat} (h : n < 65536) : n < bkt n := by unfold bkt; (repeat' split) <;> omega
theorem bkt_half (n : Nat) : bkt n = 64 ∨ bkt n ≤ 2 * n := by unfold bkt; (repeat' split) <;> omega
theorem pw_le {s : Nat} (h : Pw s) : 64 ≤ s ∧ s ≤ 65536 := by unfold Pw at h; omega

theorem pw_gap {s t : Nat} (hs : Pw s) (ht : Pw t) (h : s < t) : 2 * s ≤ t := by
  rcases hs with h | h | h | h | h | h | h | h | h | h | h <;> rcases ht with h | h | h | h | h | h | h | h | h | h | h <;> omega
theorem bkt_mono {a b : Nat} (h : a ≤ b) (hb : b < 65536) : bkt a ≤ bkt b := by
  have h1 := bkt_lt hb
  have h2 := bkt_half a
  have h3 := pw_gap (pw_bkt b) (pw_bkt a)
  have h4 := (pw_le (pw_bkt b)).1
  generalize bkt a = x at *
  generalize bkt b = y at *
  omega

/-- Bytes, a byte 128, and noughts up to the bucket. -/
def padOf (l : List UInt8) : List UInt8 := l ++ 128 :: List.replicate (bkt l.length - l.length - 1) 0
theorem padOf_len (l : List UInt8) (h : l.length < 65536) : (padOf l).length = bkt l.length := by
  have := bkt_lt h
  simp [padOf]; omega
/-- The mark's place is told by the bytes. -/
theorem mark_one {m m' : List UInt8} {j j' : Nat} (h : m ++ 128 :: List.replicate j 0 = m' ++ 128 :: List.replicate j' 0) : m = m' := by
  have hr : ∀ (k k' : Nat) (a a' : List UInt8), List.replicate k (0 : UInt8) ++ 128 :: a = List.replicate k' 0 ++ 128 :: a' → a = a' := by
    intro k
    induction k with
    | zero =>
      intro k' a a' e
      cases k' with
      | zero => simpa using e
      | succ k' => simp [List.replicate_succ] at e
    | succ k ih =>
      intro k' a a' e
      cases k' with
      | zero => simp [List.replicate_succ] at e
      | succ k' =>
        simp only [List.replicate_succ, List.cons_append, List.cons.injEq, true_and] at e
        exact ih k' a a' e
  have e := congrArg List.reverse h
  simp only [List.reverse_append, List.reverse_cons, List.reverse_replicate, List.append_assoc, List.cons_append, List.nil_append] at e
  have := hr j j' _ _ e
  exact List.reverse_inj.1 this
theorem padOf_one {l m : List UInt8} (h : padOf l = padOf m) : l = m := mark_one h
/-- What a mark with noughts behind it is, padded. -/
theorem pad_of_mark {m : List UInt8} {j : Nat} (h : bkt m.length = m.length + 1 + j) : m ++ 128 :: List.replicate j 0 = padOf m := by
  rw [padOf, h, show m.length + 1 + j - m.length - 1 = j by omega]
theorem fill_copy (l : List UInt8) (s : Nat) : splice (bv (List.replicate s 0)) 0 (bv l) = bv (l ++ List.replicate (s - l.length) 0) := by
  have e : List.drop (0 + (bv l).length) (bv (List.replicate s 0)) = bv (List.replicate (s - l.length) 0) := by
    rw [Nat.zero_add, bv_len, ← bv_rep, List.drop_replicate, bv_rep]
  rw [splice, e, bv_app, List.take_zero, List.nil_append]
theorem fill_mark (l : List UInt8) (h : l.length < 65536) : (l ++ List.replicate (bkt l.length - l.length) 0).set l.length 128 = padOf l := by
  have h1 := bkt_lt h
  rw [List.set_append_right _ _ (Nat.le_refl _), Nat.sub_self, padOf, show bkt l.length - l.length = (bkt l.length - l.length - 1) + 1 by omega, List.replicate_succ, List.set_cons_zero]
  congr 3
/-- What stands behind k is noughts: the mark, if there is one, stands at k. -/
theorem mark_no {l : List UInt8} {k : Nat} (hk : k < l.length) (h0 : l.drop (k + 1) = List.replicate (l.length - (k + 1)) 0) (hb : l[k]? ≠ some 0) (h1 : l[k]? ≠ some 128) (m : List UInt8) (j : Nat) : l ≠ m ++ 128 :: List.replicate j 0 := by
  intro e
  have hlen : l.length = m.length + 1 + j := by rw [e]; simp; omega
  rcases Nat.lt_trichotomy k m.length with h | h | h
  · have h3 : l[m.length]? = some 0 := by
      have := congrArg (fun x => x[m.length - (k + 1)]?) h0
      simp only [List.getElem?_drop] at this
      rw [show k + 1 + (m.length - (k + 1)) = m.length by omega, List.getElem?_replicate, if_pos (by omega)] at this
      exact this
    rw [e] at h3
    simp at h3
  · subst h
    rw [e] at h1
    simp at h1
  · rw [e, List.getElem?_append_right (by omega), show k - m.length = (k - m.length - 1) + 1 by omega, List.getElem?_cons_succ, List.getElem?_replicate, if_pos (by omega)] at hb
    exact hb rfl
theorem mark_none {l : List UInt8} {n : Nat} (h : l = List.replicate n 0) (m : List UInt8) (j : Nat) : l ≠ m ++ 128 :: List.replicate j 0 := by
  intro e
  have h3 : l[m.length]? = some 128 := by rw [e]; simp
  rw [h, List.getElem?_replicate] at h3
  split at h3 <;> simp at h3
theorem mark_yes {l : List UInt8} {k : Nat} (h0 : l.drop (k + 1) = List.replicate (l.length - (k + 1)) 0) (h1 : l[k]? = some 128) : l = l.take k ++ 128 :: List.replicate (l.length - (k + 1)) 0 := by
  obtain ⟨hk, h2⟩ := List.getElem?_eq_some_iff.1 h1
  rw [← h0, ← h2, ← List.drop_eq_getElem_cons hk, List.take_append_drop]
theorem zero_more {l : List UInt8} {k : Nat} (h0 : l.drop (k + 1) = List.replicate (l.length - (k + 1)) 0) (h1 : l[k]? = some 0) : l.drop k = List.replicate (l.length - k) 0 := by
  obtain ⟨hk, h2⟩ := List.getElem?_eq_some_iff.1 h1
  rw [List.drop_eq_getElem_cons hk, h2, h0, show l.length - k = (l.length - (k + 1)) + 1 by omega, List.replicate_succ]
end Go.Proofs.Ytjidiambjhccoaa
