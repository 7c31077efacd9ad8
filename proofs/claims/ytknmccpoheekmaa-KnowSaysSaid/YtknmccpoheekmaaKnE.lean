/-
  What All answers, reckoned. No statement is proved here. Conditions: none.
-/
import Derived.Test.YtknmccpoheekmaaKnC
namespace Go.Proofs.Ytknmccpoheekmaa
open Go.RowKit

def passT (S : List Stp) (h : List Bool) : List Bool := S.foldl (fun h s => if s.1.all (on h) = true then h.set s.2 true else h) h
def iterT (S : List Stp) : Nat → List Bool → List Bool
  | 0, h => h
  | k + 1, h => iterT S k (passT S h)
def closedB (S : List Stp) (h : List Bool) : Bool := S.all fun s => !(s.1.all (on h)) || on h s.2
theorem pass_sub : ∀ {S : List Stp} {h : List Bool} {p : Nat}, on h p = true → on (passT S h) p = true
  | [], _, _, hp => hp
  | s :: S, h, p, hp => by
    rw [passT, List.foldl_cons]
    refine pass_sub (S := S) ?_
    split
    · exact on_set.2 (.inr hp)
    · exact hp
theorem pass_low {R : Nat → Prop} : ∀ {S : List Stp} {h : List Bool}, Cl S R → (∀ p, on h p = true → R p) → ∀ p, on (passT S h) p = true → R p
  | [], _, _, hh => hh
  | s :: S, h, hc, hh => by
    rw [passT, List.foldl_cons]
    refine pass_low (S := S) (fun s' hs' => hc s' (by simp [hs'])) ?_
    intro p hp
    split at hp
    · rename_i ha
      rcases on_set.1 hp with ⟨e, _⟩ | hp
      · subst e
        exact hc s (by simp) fun a h1 => hh a (by rw [List.all_eq_true] at ha; exact ha a h1)
      · exact hh p hp
    · exact hh p hp
theorem iter_sub {S : List Stp} : ∀ {k : Nat} {h : List Bool} {p : Nat}, on h p = true → on (iterT S k h) p = true
  | 0, _, _, hp => hp
  | k + 1, _, _, hp => iter_sub (k := k) (pass_sub hp)
theorem iter_low {S : List Stp} {R : Nat → Prop} (hc : Cl S R) : ∀ {k : Nat} {h : List Bool}, (∀ p, on h p = true → R p) → ∀ p, on (iterT S k h) p = true → R p
  | 0, _, hh => hh
  | k + 1, _, hh => iter_low hc (k := k) (pass_low hc hh)
theorem iter_least {S : List Stp} {k : Nat} {b : List Bool} (hc : closedB S (iterT S k b) = true) : Least S (fun p => on b p = true) (fun p => on (iterT S k b) p = true) :=
  ⟨fun p hp => iter_sub hp, fun s hs ha => by
    rw [closedB, List.all_eq_true] at hc
    have := hc s hs
    rw [Bool.or_eq_true, Bool.not_eq_true'] at this
    rcases this with h | h
    · have h2 : s.1.all (on (iterT S k b)) = true := List.all_eq_true.2 ha
      rw [h2] at h; cases h
    · exact h, fun R' h1 h2 => iter_low h2 h1⟩
theorem places_ext {F : List Nat} {h h' : List Bool} (e : ∀ p, on h p = true ↔ on h' p = true) : ∀ n p, placesFrom F h p n = placesFrom F h' p n
  | 0, p => rfl
  | n + 1, p => by
    rw [placesFrom, placesFrom, places_ext e n (p + 1)]
    congr 1
    by_cases h1 : on h (F.getD p 0) = true
    · rw [if_pos h1, if_pos ((e _).1 h1)]
    · rw [if_neg h1, if_neg (fun h2 => h1 ((e _).2 h2))]
def kall (k : Nat) (t : List Th) (known : List Int) : List Int := if goodT t = true then placesT (firstsT t) (iterT (stepsT t) k (beginT (firstsT t) known)) else []
def kok (k : Nat) (t : List Th) (known : List Int) : Bool := !goodT t || closedB (stepsT t) (iterT (stepsT t) k (beginT (firstsT t) known))
/-- All's answer is what is reckoned, once k rounds are enough. -/
theorem all_is {t : List Th} {known l : List Int} (k : Nat) (h : AllIs t known l) (hk : kok k t known = true) : l = kall k t known := by
  rw [kall]
  cases hg : goodT t with
  | false => rw [h.bad hg, if_neg (by decide)]
  | true =>
    rw [if_pos rfl]
    obtain ⟨c, _, hL, hl⟩ := h.good hg
    rw [kok, hg] at hk
    have hi := iter_least (S := stepsT t) (k := k) (b := beginT (firstsT t) known) (by simpa using hk)
    rw [hl]
    exact places_ext (hL.one hi) _ _
theorem places_len (F : List Nat) (h : List Bool) : ∀ n p, (placesFrom F h p n).length ≤ n
  | 0, p => Nat.le_refl _
  | n + 1, p => by
    rw [placesFrom, List.length_append]
    have := places_len F h n (p + 1)
    split <;> simp <;> omega
theorem all_few {t : List Th} {known l : List Int} (h : AllIs t known l) : l.length ≤ 500 := by
  cases hg : goodT t with
  | false => rw [h.bad hg]; exact Nat.zero_le _
  | true =>
    obtain ⟨c, _, _, rfl⟩ := h.good hg
    have h1 := places_len (firstsT t) c (firstsT t).length 0
    have h2 := goodT_len hg
    rw [firstsT_len] at h1
    rw [placesT, firstsT_len]; omega
/-- Two answers to one question are one. -/
theorem all_one {t : List Th} {known l l' : List Int} (h : AllIs t known l) (h' : AllIs t known l') : l = l' := by
  cases hg : goodT t with
  | false => rw [h.bad hg, h'.bad hg]
  | true =>
    obtain ⟨c, _, hL, rfl⟩ := h.good hg
    obtain ⟨c', _, hL', rfl⟩ := h'.good hg
    exact places_ext (hL.one hL') _ _
end Go.Proofs.Ytknmccpoheekmaa
