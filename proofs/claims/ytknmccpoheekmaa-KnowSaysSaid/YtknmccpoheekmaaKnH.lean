/-
  What a thing that is known tells, and what makes it. No statement is proved here. Conditions: a table that may be.
-/
import Derived.Test.YtknmccpoheekmaaKnG
namespace Go.Proofs.Ytknmccpoheekmaa
open Go.RowKit

theorem know_step {t : List Th} {i : Nat} {x : Th} (hi : t[i]? = some x) {s : Stp} (hs : s ∈ stepsAt (firstsT t) x i) {R : Nat → Prop} (hc : Cl (stepsT t) R) : (∀ a ∈ s.1, R a) → R s.2 :=
  hc s (mem_stepsFrom.2 ⟨i, x, hi, by rw [Nat.zero_add]; exact hs⟩)
/-- The places of what it is made of. -/
theorem parts_at {t : List Th} (hg : goodT t = true) {i : Nat} {x : Th} (hi : t[i]? = some x) (hk : x.kind = 2 ∨ x.kind = 3 ∨ x.kind = 4) : ∃ a : Nat, x.a = (a : Int) ∧ a < i ∧ (x.kind ≠ 4 → ∃ b : Nat, x.b = (b : Int) ∧ b < i) := by
  have hfit := goodT_at hg hi
  rw [fitsT, if_neg (by omega)] at hfit
  by_cases h23 : x.kind = 2 ∨ x.kind = 3
  · rw [if_pos h23, Bool.and_eq_true, below, below, Bool.and_eq_true, Bool.and_eq_true, decide_eq_true_iff, decide_eq_true_iff, decide_eq_true_iff, decide_eq_true_iff] at hfit
    exact ⟨x.a.toNat, by omega, by omega, fun _ => ⟨x.b.toNat, by omega, by omega⟩⟩
  · rw [if_neg h23, if_pos (by omega), below, Bool.and_eq_true, decide_eq_true_iff, decide_eq_true_iff] at hfit
    exact ⟨x.a.toNat, by omega, by omega, fun h => by omega⟩
section
variable {t : List Th} {known l : List Int} (hg : goodT t = true) (h : AllIs t known l) {i : Nat} {x : Th} (hi : t[i]? = some x)
include hg h
theorem know_own {k : Int} (hk : k ∈ known) (hb : below k (t.length : Int) = true) : k ∈ l := by
  obtain ⟨c, _, hL, rfl⟩ := h.good hg
  have hb2 := hb
  rw [below, Bool.and_eq_true, decide_eq_true_iff, decide_eq_true_iff] at hb2
  refine mem_places.2 ⟨k.toNat, by omega, Nat.zero_le _, by rw [firstsT_len]; omega, hL.sub _ ((on_begin (first_low hg)).2 ⟨k, hk, by rw [firstsT_len]; exact hb, rfl⟩)⟩
theorem know_mem : ∃ R : Nat → Prop, Cl (stepsT t) R ∧ ∀ q : Nat, q < t.length → ((q : Int) ∈ l ↔ R ((firstsT t).getD q 0)) := by
  obtain ⟨c, _, hL, rfl⟩ := h.good hg
  refine ⟨_, hL.cl, fun q hq => ⟨fun hm => ?_, fun hm => mem_places.2 ⟨q, rfl, Nat.zero_le _, by rw [firstsT_len]; omega, hm⟩⟩⟩
  obtain ⟨q', e, _, _, h4⟩ := mem_places.1 hm
  have : q = q' := by omega
  rw [this]; exact h4
include hi
/-- Both make it. -/
theorem know_made (hk : x.kind = 2 ∨ x.kind = 3) (ha : x.a ∈ l) (hb : x.b ∈ l) : (i : Int) ∈ l := by
  have hil := (List.getElem?_eq_some_iff.1 hi).1
  obtain ⟨R, hc, hm⟩ := know_mem hg h
  obtain ⟨a, ea, ha2, hbb⟩ := parts_at hg hi (by omega)
  obtain ⟨b, eb, hb2⟩ := hbb (by omega)
  rw [ea] at ha
  rw [eb] at hb
  rw [hm a (by omega)] at ha
  rw [hm b (by omega)] at hb
  rw [hm i hil]
  refine know_step hi (s := ([nat (firstsT t) x.a, nat (firstsT t) x.b], (firstsT t).getD i 0)) ?_ hc fun p hp => ?_
  · rw [stepsAt]
    rcases hk with h2 | h3
    · rw [if_pos h2]; simp
    · rw [if_neg (by omega), if_pos h3]; simp
  · simp only [List.mem_cons, List.not_mem_nil, or_false] at hp
    rcases hp with rfl | rfl
    · rw [nat, ea, Int.toNat_natCast]; exact ha
    · rw [nat, eb, Int.toNat_natCast]; exact hb
/-- The key of what is known. -/
theorem know_key (hk : x.kind = 4) (ha : x.a ∈ l) : (i : Int) ∈ l := by
  have hil := (List.getElem?_eq_some_iff.1 hi).1
  obtain ⟨R, hc, hm⟩ := know_mem hg h
  obtain ⟨a, ea, ha2, _⟩ := parts_at hg hi (by omega)
  rw [ea] at ha
  rw [hm a (by omega)] at ha
  rw [hm i hil]
  refine know_step hi (s := ([nat (firstsT t) x.a], (firstsT t).getD i 0)) ?_ hc fun p hp => ?_
  · rw [stepsAt, if_neg (by omega), if_neg (by omega), if_pos hk]; simp
  · simp only [List.mem_cons, List.not_mem_nil, or_false] at hp
    subst hp
    rw [nat, ea, Int.toNat_natCast]; exact ha
/-- Both of what is known. -/
theorem know_split (hk : x.kind = 2) (ho : (i : Int) ∈ l) : x.a ∈ l ∧ x.b ∈ l := by
  have hil := (List.getElem?_eq_some_iff.1 hi).1
  obtain ⟨R, hc, hm⟩ := know_mem hg h
  obtain ⟨a, ea, ha2, hbb⟩ := parts_at hg hi (by omega)
  obtain ⟨b, eb, hb2⟩ := hbb (by omega)
  rw [hm i hil] at ho
  rw [ea, eb, hm a (by omega), hm b (by omega)]
  constructor
  · have this : R (nat (firstsT t) x.a) := know_step hi (s := ([(firstsT t).getD i 0], nat (firstsT t) x.a)) (by rw [stepsAt, if_pos hk]; simp) hc fun p hp => by
      simp only [List.mem_cons, List.not_mem_nil, or_false] at hp
      subst hp; exact ho
    rw [nat, ea, Int.toNat_natCast] at this; exact this
  · have this : R (nat (firstsT t) x.b) := know_step hi (s := ([(firstsT t).getD i 0], nat (firstsT t) x.b)) (by rw [stepsAt, if_pos hk]; simp) hc fun p hp => by
      simp only [List.mem_cons, List.not_mem_nil, or_false] at hp
      subst hp; exact ho
    rw [nat, eb, Int.toNat_natCast] at this; exact this
/-- What is sealed, of who has the key. -/
theorem know_open (hk : x.kind = 3) (ho : (i : Int) ∈ l) (ha : x.a ∈ l) : x.b ∈ l := by
  have hil := (List.getElem?_eq_some_iff.1 hi).1
  obtain ⟨R, hc, hm⟩ := know_mem hg h
  obtain ⟨a, ea, ha2, hbb⟩ := parts_at hg hi (by omega)
  obtain ⟨b, eb, hb2⟩ := hbb (by omega)
  rw [hm i hil] at ho
  rw [ea, hm a (by omega)] at ha
  rw [eb, hm b (by omega)]
  have this : R (nat (firstsT t) x.b) := know_step hi (s := ([(firstsT t).getD i 0, nat (firstsT t) x.a], nat (firstsT t) x.b)) (by rw [stepsAt, if_neg (by omega), if_pos hk]; simp) hc fun p hp => by
    simp only [List.mem_cons, List.not_mem_nil, or_false] at hp
    rcases hp with rfl | rfl
    · exact ho
    · rw [nat, ea, Int.toNat_natCast]; exact ha
  rw [nat, eb, Int.toNat_natCast] at this; exact this
end
end Go.Proofs.Ytknmccpoheekmaa
