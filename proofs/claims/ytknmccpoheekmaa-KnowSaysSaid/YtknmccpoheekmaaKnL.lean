/-
  The rounds of know's All: what a round keeps. No statement is proved here. Conditions: none.
-/
import Derived.Test.YtknmccpoheekmaaKnO
namespace Go.Proofs.Ytknmccpoheekmaa
open Go.RowKit

def offs : List Bool → Nat
  | [] => 0
  | b :: h => (if b = true then 0 else 1) + offs h
theorem offs_le : ∀ h : List Bool, offs h ≤ h.length
  | [] => Nat.le_refl _
  | b :: h => by rw [offs, List.length_cons]; have := offs_le h; split <;> omega
theorem offs_set : ∀ {h : List Bool} {p : Nat}, p < h.length → on h p = false → offs (h.set p true) + 1 = offs h
  | [], p, hp, _ => by simp at hp
  | b :: h, 0, _, ho => by
    have hb : b = false := by simpa [on] using ho
    subst hb
    rw [List.set_cons_zero, offs, offs]; simp; omega
  | b :: h, p + 1, hp, ho => by
    rw [List.set_cons_succ, offs, offs]
    have := offs_set (h := h) (p := p) (by simpa using hp) (by simpa [on] using ho)
    omega
/-- What is on throughout: begin is, and nothing that a closed set lacks. -/
structure KI (S : List Stp) (b0 h : List Bool) (n : Nat) : Prop where
  len : h.length = n
  sub : ∀ p, on b0 p = true → on h p = true
  low : ∀ R' : Nat → Prop, (∀ p, on b0 p = true → R' p) → Cl S R' → ∀ p, on h p = true → R' p
theorem KI.nil {S : List Stp} {b0 : List Bool} {n : Nat} (hl : b0.length = n) : KI S b0 b0 n := ⟨hl, fun _ h => h, fun _ h1 _ p hp => h1 p hp⟩
theorem KI.set {S : List Stp} {b0 h : List Bool} {n : Nat} {s : Stp} (hk : KI S b0 h n) (hs : s ∈ S) (ha : ∀ a ∈ s.1, on h a = true) : KI S b0 (h.set s.2 true) n :=
  ⟨by rw [List.length_set]; exact hk.len, fun p hp => on_set.2 (.inr (hk.sub p hp)), fun R' h1 h2 p hp => by
    rcases on_set.1 hp with ⟨e, _⟩ | hp
    · subst e
      exact h2 s hs fun a h3 => hk.low R' h1 h2 a (ha a h3)
    · exact hk.low R' h1 h2 p hp⟩
/-- Within a round: j steps are done. -/
structure KM (S : List Stp) (b0 h0 h : List Bool) (n j : Nat) (more : Bool) : Prop where
  ki : KI S b0 h n
  no : more = false → h = h0 ∧ ∀ s ∈ S.take j, (∀ a ∈ s.1, on h a = true) → on h s.2 = true
  yes : more = true → offs h < offs h0
theorem KM.nil {S : List Stp} {b0 h0 : List Bool} {n : Nat} (h : KI S b0 h0 n) : KM S b0 h0 h0 n 0 false := ⟨h, fun _ => ⟨rfl, fun s hs => by simp at hs⟩, fun h => (by cases h)⟩
theorem KM.skip {S : List Stp} {b0 h0 h : List Bool} {n j : Nat} {more : Bool} {s : Stp} (hk : KM S b0 h0 h n j more) (hs : S[j]? = some s) (hc : (∀ a ∈ s.1, on h a = true) → on h s.2 = true) : KM S b0 h0 h n (j + 1) more :=
  ⟨hk.ki, fun hm => ⟨(hk.no hm).1, fun s' hs' => by
    rw [List.take_add_one, hs, List.mem_append] at hs'
    rcases hs' with hs' | hs'
    · exact (hk.no hm).2 s' hs'
    · simp at hs'; subst hs'; exact hc⟩, hk.yes⟩
theorem KM.set {S : List Stp} {b0 h0 h : List Bool} {n j : Nat} {more : Bool} {s : Stp} (hk : KM S b0 h0 h n j more) (hs : S[j]? = some s) (ha : ∀ a ∈ s.1, on h a = true) (ho : on h s.2 = false) (hn : s.2 < n) : KM S b0 h0 (h.set s.2 true) n (j + 1) true :=
  ⟨hk.ki.set (List.mem_of_getElem? hs) ha, fun h => (by cases h), fun _ => by
    have h1 := offs_set (h := h) (p := s.2) (by rw [hk.ki.len]; exact hn) ho
    cases hm : more with
    | true => have := hk.yes hm; omega
    | false => rw [(hk.no hm).1] at h1 ⊢; omega⟩
theorem KM.closed {S : List Stp} {b0 h0 h : List Bool} {n j : Nat} (hk : KM S b0 h0 h n j false) (hj : S.length ≤ j) : Least S (fun p => on b0 p = true) (fun p => on h p = true) :=
  ⟨hk.ki.sub, fun s hs ha => (hk.no rfl).2 s (by rw [List.take_of_length_le hj]; exact hs) ha, hk.ki.low⟩
theorem steps_low {t : List Th} (hg : goodT t = true) : ∀ s ∈ stepsT t, s.2 < t.length ∧ ∀ a ∈ s.1, a < t.length := by
  have hF := firsts_is hg
  have hfn : ∀ k : Int, below k t.length = true → nat (firstsT t) k < t.length := by
    intro k hk
    rw [below, Bool.and_eq_true, decide_eq_true_iff, decide_eq_true_iff] at hk
    have := hF.low k.toNat (by omega)
    rw [nat]; omega
  intro s hs
  obtain ⟨i, x, hi, hs⟩ := mem_stepsFrom.1 hs
  rw [Nat.zero_add] at hs
  have hil := (List.getElem?_eq_some_iff.1 hi).1
  have hfit := goodT_at hg hi
  have hown : (firstsT t).getD i 0 < t.length := by have := hF.low i hil; omega
  have up : ∀ k : Int, below k (i : Int) = true → below k (t.length : Int) = true := by
    intro k h
    rw [below, Bool.and_eq_true, decide_eq_true_iff, decide_eq_true_iff] at h ⊢
    omega
  rw [fitsT] at hfit
  rw [stepsAt] at hs
  split at hs
  · rename_i h2
    rw [if_neg (by omega), if_pos (.inl h2), Bool.and_eq_true] at hfit
    have ha := hfn _ (up _ hfit.1)
    have hb := hfn _ (up _ hfit.2)
    simp only [List.mem_cons, List.not_mem_nil, or_false] at hs
    rcases hs with rfl | rfl | rfl <;> (simp only [List.mem_cons, List.not_mem_nil, or_false, forall_eq_or_imp, forall_eq]; omega)
  · split at hs
    · rename_i h3
      rw [if_neg (by omega), if_pos (.inr h3), Bool.and_eq_true] at hfit
      have ha := hfn _ (up _ hfit.1)
      have hb := hfn _ (up _ hfit.2)
      simp only [List.mem_cons, List.not_mem_nil, or_false] at hs
      rcases hs with rfl | rfl <;> (simp only [List.mem_cons, List.not_mem_nil, or_false, forall_eq_or_imp, forall_eq]; omega)
    · split at hs
      · rename_i h2 h3 h4
        rw [if_neg (by omega), if_neg (by omega), if_pos h4] at hfit
        have ha := hfn _ (up _ hfit)
        simp only [List.mem_cons, List.not_mem_nil, or_false] at hs
        rcases hs with rfl
        simp only [List.mem_cons, List.not_mem_nil, or_false, forall_eq]; omega
      · simp at hs
theorem stepsAt_few (F : List Nat) (x : Th) (p : Nat) : (stepsAt F x p).length ≤ 3 ∧ ∀ s ∈ stepsAt F x p, s.1.length ≤ 2 := by
  simp only [stepsAt]
  split
  · exact ⟨by simp, fun s hs => by
      simp only [List.mem_cons, List.not_mem_nil, or_false] at hs
      rcases hs with rfl | rfl | rfl <;> simp⟩
  · split
    · exact ⟨by simp, fun s hs => by
        simp only [List.mem_cons, List.not_mem_nil, or_false] at hs
        rcases hs with rfl | rfl <;> simp⟩
    · split
      · exact ⟨by simp, fun s hs => by
          simp only [List.mem_cons, List.not_mem_nil, or_false] at hs
          rcases hs with rfl
          simp⟩
      · exact ⟨by simp, fun s hs => by simp at hs⟩
theorem stepsFrom_few (F : List Nat) : ∀ (t : List Th) (p : Nat), (stepsFrom F p t).length ≤ 3 * t.length
  | [], p => by simp [stepsFrom]
  | x :: t, p => by
    rw [stepsFrom, List.length_append, List.length_cons]
    have := (stepsAt_few F x p).1
    have := stepsFrom_few F t (p + 1)
    omega
theorem steps_asks {t : List Th} : ∀ s ∈ stepsT t, s.1.length ≤ 2 := fun s hs => by
  obtain ⟨i, x, _, h⟩ := mem_stepsFrom.1 hs
  exact (stepsAt_few _ x _).2 s h
theorem Stw.at_ {w : World} {B n c : Nat} {A : Option Addr} {S : List Stp} (h : Stw w B A n c S) {j : Nat} (hj : j < n) :
    ∃ G s g, A = some ⟨G, 0, none⟩ ∧ Hid (S[j]? = some s) ∧ B ≤ G ∧ G < w.heap.size ∧ B ≤ g ∧ Hid (w.heap[g]? = some (.cells (nvI s.1).toArray 3 (0, 0))) ∧ w.cell? ⟨G, j * 2, none⟩ = some (.slice (some ⟨g, 0, none⟩) s.1.length s.1.length) ∧ w.cell? ⟨G, j * 2 + 1, none⟩ = some (.int .i64 (s.2 : Int)) := by
  obtain ⟨gs, h1, h2, h3, h4, h5⟩ := h
  rcases h3.2 with ⟨_, h0⟩ | ⟨G, cap, cur, hv, _, hg, _, _, _, ht⟩
  · omega
  · simp only [Value.slice.injEq] at hv
    obtain ⟨rfl, _, rfl⟩ := hv
    have hjs : j < S.length := by omega
    have hjg : j < gs.length := by omega
    have h6 := h5 j S[j] gs[j] (List.getElem?_eq_getElem hjs) (List.getElem?_eq_getElem hjg)
    have hat : ∀ {S : List Stp} {gs : List Nat} {j : Nat} {s : Stp} {g : Nat}, S[j]? = some s → gs[j]? = some g → (cellsS S gs)[j * 2]? = some (.slice (some ⟨g, 0, none⟩) s.1.length s.1.length) ∧ (cellsS S gs)[j * 2 + 1]? = some (.int .i64 (s.2 : Int)) := by
      intro S
      induction S with
      | nil => intro gs j s g hs; simp at hs
      | cons y S ih =>
        intro gs j s g hs hg
        cases gs with
        | nil => simp at hg
        | cons z gs =>
          match j with
          | 0 => simp at hs hg; subst hs hg; exact ⟨rfl, rfl⟩
          | j + 1 =>
            rw [List.getElem?_cons_succ] at hs hg
            have := ih hs hg
            rw [cellsS, show (j + 1) * 2 = j * 2 + 2 by omega, show j * 2 + 2 + 1 = j * 2 + 1 + 2 by omega]
            exact this
    have h7 := hat (List.getElem?_eq_getElem hjs) (List.getElem?_eq_getElem hjg)
    have hcell : ∀ k v, k < n * 2 → (cellsS S gs)[k]? = some v → w.cell? ⟨G, k, none⟩ = some v := fun k v hk hv => by
      rw [cell_of_row _ _ _ _ _ _ hg]
      rw [← ht, List.getElem?_take, if_pos hk] at hv
      simpa using hv
    exact ⟨G, S[j], gs[j], rfl, List.getElem?_eq_getElem hjs, (h4 _ rfl).1, (Array.getElem?_eq_some_iff.1 hg).1, h6.1, h6.2, hcell _ _ (by omega) h7.1, hcell _ _ (by omega) h7.2⟩
end Go.Proofs.Ytknmccpoheekmaa
