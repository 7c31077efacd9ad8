/-
  All that can be known: steps, what is closed under them, the least such. No statement is proved here. Conditions: none.
-/
import Derived.Test.YtknmccpoheekmaaKnS
namespace Go.Proofs.Ytknmccpoheekmaa
open Go.RowKit

abbrev Stp := List Nat × Nat
def on (h : List Bool) (p : Nat) : Bool := h.getD p false
/-- The steps of one thing at its place. -/
def stepsAt (F : List Nat) (x : Th) (p : Nat) : List Stp :=
  let own := F.getD p 0
  if x.kind = 2 then [([own], nat F x.a), ([own], nat F x.b), ([nat F x.a, nat F x.b], own)]
  else if x.kind = 3 then [([own, nat F x.a], nat F x.b), ([nat F x.a, nat F x.b], own)]
  else if x.kind = 4 then [([nat F x.a], own)] else []
def stepsFrom (F : List Nat) (p : Nat) : List Th → List Stp
  | [] => []
  | x :: t => stepsAt F x p ++ stepsFrom F (p + 1) t
def stepsT (t : List Th) : List Stp := stepsFrom (firstsT t) 0 t
theorem stepsFrom_app (F : List Nat) (x : Th) : ∀ (t : List Th) (p : Nat), stepsFrom F p (t ++ [x]) = stepsFrom F p t ++ stepsAt F x (p + t.length)
  | [], p => by simp [stepsFrom]
  | y :: t, p => by
    rw [List.cons_append, stepsFrom, stepsFrom, stepsFrom_app F x t (p + 1), List.append_assoc]
    rw [show p + 1 + t.length = p + (y :: t).length by simp; omega]
theorem mem_stepsFrom {F : List Nat} {s : Stp} : ∀ {t : List Th} {p : Nat}, s ∈ stepsFrom F p t ↔ ∃ i x, t[i]? = some x ∧ s ∈ stepsAt F x (p + i)
  | [], p => by simp [stepsFrom]
  | y :: t, p => by
    rw [stepsFrom, List.mem_append, mem_stepsFrom]
    constructor
    · rintro (h | ⟨i, x, hi, h⟩)
      · exact ⟨0, y, rfl, h⟩
      · exact ⟨i + 1, x, by rw [List.getElem?_cons_succ]; exact hi, by rwa [show p + (i + 1) = p + 1 + i by omega]⟩
    · rintro ⟨i, x, hi, h⟩
      match i with
      | 0 => simp at hi; subst hi; exact .inl h
      | i + 1 => exact .inr ⟨i, x, by rwa [List.getElem?_cons_succ] at hi, by rwa [show p + 1 + i = p + (i + 1) by omega]⟩
/-- Closed under steps. -/
def Cl (S : List Stp) (R : Nat → Prop) : Prop := ∀ s ∈ S, (∀ a ∈ s.1, R a) → R s.2
structure Least (S : List Stp) (B R : Nat → Prop) : Prop where
  sub : ∀ p, B p → R p
  cl : Cl S R
  least : ∀ R' : Nat → Prop, (∀ p, B p → R' p) → Cl S R' → ∀ p, R p → R' p
theorem Least.one {S : List Stp} {B R R' : Nat → Prop} (h : Least S B R) (h' : Least S B R') : ∀ p, R p ↔ R' p := fun p =>
  ⟨h.least R' h'.sub h'.cl p, h'.least R h.sub h.cl p⟩
theorem Least.mono {S : List Stp} {B B' R R' : Nat → Prop} (h : Least S B R) (h' : Least S B' R') (hB : ∀ p, B p → B' p) : ∀ p, R p → R' p :=
  h.least R' (fun p hp => h'.sub p (hB p hp)) h'.cl
/-- What is known at the beginning. -/
def bstepK (F : List Nat) (h : List Bool) (k : Int) : List Bool := if below k F.length = true then h.set (nat F k) true else h
def beginT (F : List Nat) (known : List Int) : List Bool := known.foldl (bstepK F) (List.replicate F.length false)
theorem on_set {h : List Bool} {p q : Nat} : on (h.set p true) q = true ↔ (p = q ∧ q < h.length) ∨ on h q = true := by
  rw [on, on, List.getD_eq_getElem?_getD, List.getD_eq_getElem?_getD]
  by_cases e : p = q
  · subst e
    by_cases hp : p < h.length
    · simp [hp]
    · rw [List.getElem?_eq_none (by simp; omega), List.getElem?_eq_none (by omega)]; simp [hp]
  · rw [List.getElem?_set_ne e]; simp [e]
theorem begin_len (F : List Nat) : ∀ (known : List Int) (h : List Bool), (known.foldl (bstepK F) h).length = h.length
  | [], h => rfl
  | k :: known, h => by
    rw [List.foldl_cons, begin_len F known, bstepK]
    split
    · simp
    · rfl
theorem on_fold {F : List Nat} {p : Nat} : ∀ {known : List Int} {h : List Bool}, (∀ k, below k F.length = true → nat F k < h.length) →
    (on (known.foldl (bstepK F) h) p = true ↔ on h p = true ∨ ∃ k ∈ known, below k F.length = true ∧ nat F k = p)
  | [], h, _ => by simp
  | k :: known, h, hF => by
    have hl : (bstepK F h k).length = h.length := by rw [bstepK]; split <;> simp
    rw [List.foldl_cons, on_fold (by rw [hl]; exact hF)]
    constructor
    · rintro (h1 | ⟨j, hj, h2⟩)
      · rw [bstepK] at h1
        split at h1
        · rename_i hb
          rcases on_set.1 h1 with ⟨e, _⟩ | h1
          · exact .inr ⟨k, by simp, hb, e⟩
          · exact .inl h1
        · exact .inl h1
      · exact .inr ⟨j, by simp [hj], h2⟩
    · rintro (h1 | ⟨j, hj, h2, h3⟩)
      · left
        rw [bstepK]
        split
        · exact on_set.2 (.inr h1)
        · exact h1
      · rcases List.mem_cons.1 hj with rfl | hj
        · left
          rw [bstepK, if_pos h2]
          exact on_set.2 (.inl ⟨h3, by rw [← h3]; exact hF _ h2⟩)
        · exact .inr ⟨j, hj, h2, h3⟩
theorem on_begin {F : List Nat} {known : List Int} {p : Nat} (hF : ∀ k, below k F.length = true → nat F k < F.length) : on (beginT F known) p = true ↔ ∃ k ∈ known, below k F.length = true ∧ nat F k = p := by
  rw [beginT, on_fold (by simpa using hF)]
  have : on (List.replicate F.length false) p = false := by
    rw [on, List.getD_eq_getElem?_getD, List.getElem?_replicate]; split <;> rfl
  rw [this]; simp
/-- The places of all that is on. -/
def placesFrom (F : List Nat) (h : List Bool) : Nat → Nat → List Int
  | _, 0 => []
  | p, n + 1 => (if on h (F.getD p 0) = true then [(p : Int)] else []) ++ placesFrom F h (p + 1) n
def placesT (F : List Nat) (h : List Bool) : List Int := placesFrom F h 0 F.length
theorem places_app (F : List Nat) (h : List Bool) : ∀ (n p : Nat), placesFrom F h p (n + 1) = placesFrom F h p n ++ (if on h (F.getD (p + n) 0) = true then [((p + n : Nat) : Int)] else [])
  | 0, p => by simp [placesFrom]
  | n + 1, p => by
    rw [placesFrom, places_app F h n (p + 1), placesFrom, List.append_assoc]
    rw [show p + 1 + n = p + (n + 1) by omega]
theorem mem_places {F : List Nat} {h : List Bool} {x : Int} : ∀ {n p : Nat}, x ∈ placesFrom F h p n ↔ ∃ q : Nat, x = (q : Int) ∧ p ≤ q ∧ q < p + n ∧ on h (F.getD q 0) = true
  | 0, p => by simp [placesFrom]; omega
  | n + 1, p => by
    rw [placesFrom, List.mem_append, mem_places]
    constructor
    · rintro (h1 | ⟨q, h1, h2, h3, h4⟩)
      · split at h1
        · rename_i ho
          simp at h1
          exact ⟨p, h1, Nat.le_refl _, by omega, ho⟩
        · simp at h1
      · exact ⟨q, h1, by omega, by omega, h4⟩
    · rintro ⟨q, h1, h2, h3, h4⟩
      by_cases hq : q = p
      · subst hq
        left; rw [if_pos h4]; simp [h1]
      · exact .inr ⟨q, h1, by omega, by omega, h4⟩
/-- What All answers. -/
structure AllIs (t : List Th) (known l : List Int) : Prop where
  bad : goodT t = false → l = []
  good : goodT t = true → ∃ h : List Bool, h.length = t.length ∧ Least (stepsT t) (fun p => on (beginT (firstsT t) known) p = true) (fun p => on h p = true) ∧ l = placesT (firstsT t) h
end Go.Proofs.Ytknmccpoheekmaa
