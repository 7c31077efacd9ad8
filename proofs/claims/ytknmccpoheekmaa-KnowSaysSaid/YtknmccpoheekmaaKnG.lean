/-
  What follows of all that can be known: more known, known again, nothing known. No statement is proved here. Conditions: none.
-/
import Derived.Test.YtknmccpoheekmaaKnL
import Derived.Test.YtknmccpoheekmaaKnE
namespace Go.Proofs.Ytknmccpoheekmaa
open Go.RowKit

theorem first_low {t : List Th} (hg : goodT t = true) : ∀ k : Int, below k (firstsT t).length = true → nat (firstsT t) k < (firstsT t).length := by
  intro k hk
  rw [firstsT_len] at hk ⊢
  rw [below, Bool.and_eq_true, decide_eq_true_iff, decide_eq_true_iff] at hk
  have := (firsts_is hg).low k.toNat (by omega)
  rw [nat]; omega
/-- What is on are first places, all of the table. -/
theorem least_first {t : List Th} (hg : goodT t = true) {known : List Int} {R : Nat → Prop} (h : Least (stepsT t) (fun p => on (beginT (firstsT t) known) p = true) R) : ∀ p, R p → p < t.length ∧ (firstsT t).getD p 0 = p := by
  have hF := firsts_is hg
  have tw : ∀ k : Int, below k t.length = true → nat (firstsT t) k < t.length ∧ (firstsT t).getD (nat (firstsT t) k) 0 = nat (firstsT t) k := by
    intro k hk
    have h1 := first_low hg k (by rw [firstsT_len]; exact hk)
    rw [firstsT_len] at h1
    rw [below, Bool.and_eq_true, decide_eq_true_iff, decide_eq_true_iff] at hk
    exact ⟨h1, hF.twice (by omega)⟩
  refine h.least _ (fun p hp => ?_) fun s hs _ => ?_
  · obtain ⟨k, _, hk, rfl⟩ := (on_begin (first_low hg)).1 hp
    exact tw k (by rw [firstsT_len] at hk; exact hk)
  · obtain ⟨i, x, hi, hs⟩ := mem_stepsFrom.1 hs
    rw [Nat.zero_add] at hs
    have hil := (List.getElem?_eq_some_iff.1 hi).1
    have hfit := goodT_at hg hi
    have hown : (firstsT t).getD i 0 < t.length ∧ (firstsT t).getD ((firstsT t).getD i 0) 0 = (firstsT t).getD i 0 := ⟨by have := hF.low i hil; omega, hF.twice hil⟩
    have up : ∀ k : Int, below k (i : Int) = true → below k (t.length : Int) = true := by
      intro k h
      rw [below, Bool.and_eq_true, decide_eq_true_iff, decide_eq_true_iff] at h ⊢
      omega
    rw [fitsT] at hfit
    rw [stepsAt] at hs
    split at hs
    · rename_i h2
      rw [if_neg (by omega), if_pos (.inl h2), Bool.and_eq_true] at hfit
      have ha := tw _ (up _ hfit.1)
      have hb := tw _ (up _ hfit.2)
      simp only [List.mem_cons, List.not_mem_nil, or_false] at hs
      rcases hs with rfl | rfl | rfl
      · exact ha
      · exact hb
      · exact hown
    · split at hs
      · rename_i h3
        rw [if_neg (by omega), if_pos (.inr h3), Bool.and_eq_true] at hfit
        have hb := tw _ (up _ hfit.2)
        simp only [List.mem_cons, List.not_mem_nil, or_false] at hs
        rcases hs with rfl | rfl
        · exact hb
        · exact hown
      · split at hs
        · simp only [List.mem_cons, List.not_mem_nil, or_false] at hs
          rcases hs with rfl
          exact hown
        · simp at hs
theorem know_more {t : List Th} {a b x y : List Int} (hx : AllIs t a x) (hy : AllIs t (a ++ b) y) : ∀ p ∈ x, p ∈ y := by
  intro p hp
  cases hg : goodT t with
  | false => rw [hx.bad hg] at hp; cases hp
  | true =>
    obtain ⟨c, _, hL, rfl⟩ := hx.good hg
    obtain ⟨c', _, hL', rfl⟩ := hy.good hg
    obtain ⟨q, h1, h2, h3, h4⟩ := mem_places.1 hp
    refine mem_places.2 ⟨q, h1, h2, h3, hL.mono hL' (fun r hr => ?_) _ h4⟩
    obtain ⟨k, hk, hk2⟩ := (on_begin (first_low hg)).1 hr
    exact (on_begin (first_low hg)).2 ⟨k, by simp [hk], hk2⟩
theorem know_again {t : List Th} {a x x' : List Int} (hx : AllIs t a x) (hx' : AllIs t x x') : x' = x := by
  cases hg : goodT t with
  | false => rw [hx.bad hg, hx'.bad hg]
  | true =>
    obtain ⟨c, _, hL, rfl⟩ := hx.good hg
    obtain ⟨c', _, hL', rfl⟩ := hx'.good hg
    have hF := firsts_is hg
    refine places_ext (fun p => ⟨?_, ?_⟩) _ _
    · refine hL'.least (fun p => on c p = true) (fun q hq => ?_) hL.cl p
      obtain ⟨k, hk, hk2, rfl⟩ := (on_begin (first_low hg)).1 hq
      obtain ⟨q, rfl, h2, h3, h4⟩ := mem_places.1 hk
      rw [nat, Int.toNat_natCast]; exact h4
    · intro hp
      have h1 := least_first hg hL p hp
      refine hL'.sub p ((on_begin (first_low hg)).2 ⟨(p : Int), mem_places.2 ⟨p, rfl, Nat.zero_le _, by rw [Nat.zero_add, firstsT_len]; exact h1.1, by rw [h1.2]; exact hp⟩, ?_, ?_⟩)
      · rw [firstsT_len, below, Bool.and_eq_true, decide_eq_true_iff, decide_eq_true_iff]; omega
      · rw [nat, Int.toNat_natCast]; exact h1.2
theorem know_none {t : List Th} {l : List Int} (h : AllIs t [] l) : l = [] := by
  cases hg : goodT t with
  | false => exact h.bad hg
  | true =>
    obtain ⟨c, _, hL, rfl⟩ := h.good hg
    have hno : ∀ p, on c p = true → False := hL.least (fun _ => False) (fun p hp => by
      obtain ⟨k, hk, _⟩ := (on_begin (first_low hg)).1 hp
      cases hk) fun s hs ha => by
        obtain ⟨i, x, _, hs⟩ := mem_stepsFrom.1 hs
        rw [stepsAt] at hs
        split at hs
        · simp only [List.mem_cons, List.not_mem_nil, or_false] at hs
          rcases hs with rfl | rfl | rfl <;> exact ha _ (List.mem_cons_self ..)
        · split at hs
          · simp only [List.mem_cons, List.not_mem_nil, or_false] at hs
            rcases hs with rfl | rfl <;> exact ha _ (List.mem_cons_self ..)
          · split at hs
            · simp only [List.mem_cons, List.not_mem_nil, or_false] at hs
              rcases hs with rfl
              exact ha _ (List.mem_cons_self ..)
            · simp at hs
    refine List.eq_nil_iff_forall_not_mem.2 fun p hp => ?_
    obtain ⟨q, _, _, _, h4⟩ := mem_places.1 hp
    exact hno _ h4
end Go.Proofs.Ytknmccpoheekmaa
