/-
  What stands sealed by a key that is known nowhere stays unknown. No statement is proved here. Conditions: a table that may be.
-/
import Derived.Test.YtknmccpoheekmaaKnH
namespace Go.Proofs.Ytknmccpoheekmaa
open Go.RowKit

theorem plain_kind {F : List Nat} {x : Th} {p : Nat} (h : x.kind = 1 ∨ x.kind = 2 ∨ x.kind = 3 ∨ x.kind = 4) : (plainT F x p).kind = x.kind := by
  rw [plainT]
  split
  · rename_i h1; exact h1.symm
  · split
    · rfl
    · show (4 : Int) = x.kind
      omega
theorem fits_kind {x : Th} {p : Int} (h : fitsT x p = true) : x.kind = 1 ∨ x.kind = 2 ∨ x.kind = 3 ∨ x.kind = 4 := by
  rw [fitsT] at h
  by_cases h1 : x.kind = 1
  · exact .inl h1
  · rw [if_neg h1] at h
    by_cases h23 : x.kind = 2 ∨ x.kind = 3
    · omega
    · rw [if_neg h23] at h
      split at h
      · omega
      · cases h
/-- The first place of a thing, and what stands there. -/
theorem first_at {t : List Th} (hg : goodT t = true) {i : Nat} {x : Th} (hi : t[i]? = some x) : ∃ y, t[(firstsT t).getD i 0]? = some y ∧ (firstsT t).getD i 0 ≤ i ∧ y.kind = x.kind ∧ plainT (firstsT t) y ((firstsT t).getD i 0) = plainT (firstsT t) x i := by
  have hF := firsts_is hg
  have hil := (List.getElem?_eq_some_iff.1 hi).1
  have hlow := hF.low i hil
  obtain ⟨y, hy⟩ : ∃ y, t[(firstsT t).getD i 0]? = some y := ⟨_, List.getElem?_eq_getElem (by omega)⟩
  have he := hF.eq i hil
  rw [hF.plain i x hi, hF.plain _ y hy] at he
  injection he with he
  refine ⟨y, hy, hlow, ?_, he⟩
  rw [← plain_kind (F := firstsT t) (p := (firstsT t).getD i 0) (fits_kind (goodT_at hg hy)), he, plain_kind (fits_kind (goodT_at hg hi))]
theorem secret_own {t : List Th} (hg : goodT t = true) {i : Nat} {x : Th} (hi : t[i]? = some x) (hk : x.kind = 1) : (firstsT t).getD i 0 = i := by
  obtain ⟨y, _, _, h3, h4⟩ := first_at hg hi
  rw [plainT, plainT, if_pos (h3.trans hk), if_pos hk] at h4
  injection h4 with _ h4
  exact_mod_cast h4
/-- A box behind a table: its key and what lies in it are secrets that stand there alone. -/
theorem sealed_own {t : List Th} {n : Nat} (hg : goodT t = true) (h0 : t[n]? = some ⟨1, 0, 0, 0⟩) (h1 : t[n + 1]? = some ⟨1, 0, 0, 0⟩) (h2 : t[n + 2]? = some ⟨3, n, ((n + 1 : Nat) : Int), 0⟩) : (firstsT t).getD (n + 2) 0 = n + 2 := by
  have e0 := secret_own hg h0 rfl
  have e1 := secret_own hg h1 rfl
  obtain ⟨y, hy, hle, h3, h4⟩ := first_at hg h2
  have h3 : y.kind = 3 := h3
  have hF := firsts_is hg
  obtain ⟨a, ea, ha, hb⟩ := parts_at hg hy (.inr (.inl h3))
  obtain ⟨b, eb, hb2⟩ := hb (by omega)
  have hql := (List.getElem?_eq_some_iff.1 hy).1
  have hlb := hF.low b (by omega)
  rw [plainT, plainT, if_neg (by omega), if_pos (.inr h3), if_neg (show ¬ (3 : Int) = 1 by decide), if_pos (.inr rfl)] at h4
  injection h4 with _ _ h5 _
  rw [nat, nat, eb, Int.toNat_natCast, Int.toNat_natCast, e1] at h5
  omega
theorem sealed_stays {t : List Th} {known l : List Int} {n : Nat} (hg : goodT t = true) (hl : t.length = n + 3) (h0 : t[n]? = some ⟨1, 0, 0, 0⟩) (h1 : t[n + 1]? = some ⟨1, 0, 0, 0⟩) (h2 : t[n + 2]? = some ⟨3, n, ((n + 1 : Nat) : Int), 0⟩)
    (hk : ∀ k ∈ known, below k t.length = true → k < (n : Int) ∨ k = ((n + 2 : Nat) : Int)) (h : AllIs t known l) : (n : Int) ∉ l ∧ ((n + 1 : Nat) : Int) ∉ l := by
  have e0 := secret_own hg h0 rfl
  have e1 := secret_own hg h1 rfl
  have e2 := sealed_own hg h0 h1 h2
  have hF := firsts_is hg
  obtain ⟨c, _, hL, rfl⟩ := h.good hg
  have hlow : ∀ k : Int, below k (n : Int) = true → nat (firstsT t) k < n := by
    intro k hk
    rw [below, Bool.and_eq_true, decide_eq_true_iff, decide_eq_true_iff] at hk
    have := hF.low k.toNat (by omega)
    rw [nat]; omega
  have hR := hL.least (fun p => p < n ∨ p = n + 2) (fun p hp => ?_) (fun s hs ha => ?_)
  · constructor
    · intro hm
      obtain ⟨q, e, _, _, h4⟩ := mem_places.1 hm
      have : q = n := by omega
      subst this
      rw [e0] at h4
      have := hR _ h4
      omega
    · intro hm
      obtain ⟨q, e, _, _, h4⟩ := mem_places.1 hm
      have : q = n + 1 := by omega
      subst this
      rw [e1] at h4
      have := hR _ h4
      omega
  · obtain ⟨k, hkm, hb, rfl⟩ := (on_begin (first_low hg)).1 hp
    rw [firstsT_len] at hb
    have hb2 := hb
    rw [below, Bool.and_eq_true, decide_eq_true_iff, decide_eq_true_iff] at hb2
    rcases hk k hkm hb with h | h
    · exact .inl (hlow k (by rw [below, Bool.and_eq_true, decide_eq_true_iff, decide_eq_true_iff]; omega))
    · right; rw [h, nat, Int.toNat_natCast, e2]
  · obtain ⟨i, x, hi, hs⟩ := mem_stepsFrom.1 hs
    rw [Nat.zero_add] at hs
    have hil := (List.getElem?_eq_some_iff.1 hi).1
    have hfit := goodT_at hg hi
    by_cases hin : i < n
    · left
      have hown := hF.low i hil
      have up : ∀ k : Int, below k (i : Int) = true → below k (n : Int) = true := by
        intro k h
        rw [below, Bool.and_eq_true, decide_eq_true_iff, decide_eq_true_iff] at h ⊢
        omega
      rw [fitsT] at hfit
      rw [stepsAt] at hs
      split at hs
      · rename_i h2k
        rw [if_neg (by omega), if_pos (.inl h2k), Bool.and_eq_true] at hfit
        have h6 := hlow _ (up _ hfit.1)
        have h7 := hlow _ (up _ hfit.2)
        simp only [List.mem_cons, List.not_mem_nil, or_false] at hs
        rcases hs with rfl | rfl | rfl <;> (dsimp only; omega)
      · split at hs
        · rename_i h3k
          rw [if_neg (by omega), if_pos (.inr h3k), Bool.and_eq_true] at hfit
          have h7 := hlow _ (up _ hfit.2)
          simp only [List.mem_cons, List.not_mem_nil, or_false] at hs
          rcases hs with rfl | rfl <;> (dsimp only; omega)
        · split at hs
          · simp only [List.mem_cons, List.not_mem_nil, or_false] at hs
            rcases hs with rfl
            dsimp only; omega
          · simp at hs
    · rcases (show i = n ∨ i = n + 1 ∨ i = n + 2 by omega) with rfl | rfl | rfl
      · rw [h0] at hi; injection hi with hi; subst hi; simp [stepsAt] at hs
      · rw [h1] at hi; injection hi with hi; subst hi; simp [stepsAt] at hs
      · rw [h2] at hi
        injection hi with hi
        subst hi
        rw [stepsAt, if_neg (show ¬ (3 : Int) = 2 by decide), if_pos rfl] at hs
        have ea : nat (firstsT t) ((n : Nat) : Int) = n := by rw [nat, Int.toNat_natCast, e0]
        simp only [List.mem_cons, List.not_mem_nil, or_false] at hs
        rcases hs with rfl | rfl
        · have := ha (nat (firstsT t) (n : Int)) (by simp)
          rw [ea] at this; omega
        · right; exact e2
end Go.Proofs.Ytknmccpoheekmaa
