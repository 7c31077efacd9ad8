/-
  All that can be known is something; contracts of All and Can at it. No statement is proved here. Conditions: fewer than 2^48 things, known ones.
-/
import Derived.Test.YtknmccpoheekmaaKnW
import Derived.Test.YtknmccpoheekmaaKnG
namespace Go.Proofs.Ytknmccpoheekmaa
open Go.RowKit

theorem all_there (t : List Th) (known : List Int) : ∃ l, AllIs t known l := by
  classical
  cases hg : goodT t with
  | false => exact ⟨[], ⟨fun _ => rfl, fun h => (by rw [hg] at h; cases h)⟩⟩
  | true =>
    let R : Nat → Prop := fun p => ∀ R' : Nat → Prop, (∀ q, on (beginT (firstsT t) known) q = true → R' q) → Cl (stepsT t) R' → R' p
    have hR : Least (stepsT t) (fun p => on (beginT (firstsT t) known) p = true) R := ⟨fun p hp R' h1 _ => h1 p hp, fun s hs ha R' h1 h2 => h2 s hs fun a hA => ha a hA R' h1 h2, fun R' h1 h2 p hp => hp R' h1 h2⟩
    have hlow := least_first hg hR
    let c : List Bool := (List.range (firstsT t).length).map fun p => decide (R p)
    have hc : ∀ p, on c p = true ↔ R p := by
      intro p
      rw [on, List.getD_eq_getElem?_getD, List.getElem?_map]
      by_cases hp : p < (firstsT t).length
      · rw [List.getElem?_range hp]; simp
      · rw [List.getElem?_eq_none (by simpa using Nat.le_of_not_lt hp)]
        simp only [Option.map_none, Option.getD_none, Bool.false_eq_true, false_iff]
        intro h
        have := (hlow p h).1
        rw [firstsT_len] at hp
        exact hp this
    refine ⟨placesT (firstsT t) c, ⟨fun h => (by rw [hg] at h; cases h), fun _ => ⟨c, by simp [c, firstsT_len], ⟨fun p hp => (hc p).2 (hR.sub p hp), fun s hs ha => (hc _).2 (hR.cl s hs fun a hA => (hc a).1 (ha a hA)), fun R' h1 h2 p hp => hR.least R' h1 h2 p ((hc p).1 hp)⟩, rfl⟩⟩⟩
section
variable {w : World} {A A2 : Option Addr} {t : List Th} {known l : List Int} {n m : Nat} (c c2 : Nat) (ht : ThP w w.heap.size A t) (hl : t.length = n) (hn : n ≤ 281474976710656) (h2 : InP w w.heap.size A2 known) (hm : known.length = m) (hmm : m ≤ 281474976710656)
include ht hl hn h2 hm hmm
set_option maxRecDepth 100000 in
theorem kcan_at (h : AllIs t known l) (x : Int) {o : Bool} (ho : decide (x ∈ l) = o) :
    Calls Try.prog 13 #[.slice A n c, .int .i64 x, .slice A2 m c2] w fun e w' => e = .returned (.bool o) ∧ Below w.heap.size w w' := by
  refine (kcan_any c c2 ht hl hn h2 hm hmm x).mono ?_
  rintro e w' ⟨l', rfl, hall, hb⟩
  rw [all_one hall.out h, ho]
  exact ⟨rfl, hb⟩
set_option maxRecDepth 100000 in
theorem kall_at (h : AllIs t known l) {q : Nat} (hq : l.length = q) :
    Calls Try.prog 11 #[.slice A n c, .slice A2 m c2] w fun e w' => ∃ A' c', e = .returned (.slice A' q c') ∧ InP w' w'.heap.size A' l ∧ Below w.heap.size w w' := by
  refine (kall_any c c2 ht hl hn h2 hm hmm).mono ?_
  rintro e w' ⟨A', c', l', rfl, hall, hi, hb⟩
  have he := all_one hall.out h
  subst he
  rw [hq]
  exact ⟨A', c', rfl, hi, hb⟩
end
theorem goodFrom_app : ∀ {t s : List Th} {p : Nat}, goodFrom p (t ++ s) = (goodFrom p t && goodFrom (p + t.length) s)
  | [], s, p => by simp [goodFrom]
  | x :: t, s, p => by
    rw [List.cons_append, goodFrom, goodFrom, goodFrom_app, Bool.and_assoc, List.length_cons, show p + 1 + t.length = p + (t.length + 1) by omega]
end Go.Proofs.Ytknmccpoheekmaa
