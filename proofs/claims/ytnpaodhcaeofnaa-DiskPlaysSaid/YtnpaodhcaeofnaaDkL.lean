/-
  Lists of named things: what a look, a change, a deletion do. No statement is proved here. Conditions: none.
-/
import Derived.Test.YtnpaodhcaeofnaaDkS
namespace Go.Proofs.Ytnpaodhcaeofnaa

section
variable {α β : Type}
def getL (L : List (ByteArray × α)) (s : ByteArray) : Option α := (L.find? fun x => decide (x.1 = s)).map (·.2)
def upd (L : List (ByteArray × α)) (s : ByteArray) (h : α → α) : List (ByteArray × α) := L.map fun x => if x.1 = s then (x.1, h x.2) else x
def del (L : List (ByteArray × α)) (s : ByteArray) : List (ByteArray × α) := L.filter fun x => decide (¬ x.1 = s)
def onL (k : α → β) (L : List (ByteArray × α)) : List (ByteArray × β) := L.map fun x => (x.1, k x.2)
def sumL (f : α → Nat) (L : List (ByteArray × α)) : Nat := (L.map fun x => f x.2).sum
def One (L : List (ByteArray × α)) : Prop := L.Pairwise fun x y => x.1 ≠ y.1

theorem getL_nil (s : ByteArray) : getL ([] : List (ByteArray × α)) s = none := rfl
theorem getL_cons (x : ByteArray × α) (L : List (ByteArray × α)) (s : ByteArray) : getL (x :: L) s = if x.1 = s then some x.2 else getL L s := by
  unfold getL
  by_cases h : x.1 = s <;> simp [h]
theorem getL_app (L M : List (ByteArray × α)) (s : ByteArray) : getL (L ++ M) s = (getL L s).or (getL M s) := by
  induction L with
  | nil => simp [getL_nil]
  | cons x L ih => simp only [List.cons_append, getL_cons, ih]; split <;> simp
theorem getL_onL (k : α → β) (L : List (ByteArray × α)) (s : ByteArray) : getL (onL k L) s = (getL L s).map k := by
  induction L with
  | nil => rfl
  | cons x L ih =>
    have e : onL k (x :: L) = (x.1, k x.2) :: onL k L := rfl
    rw [e, getL_cons, getL_cons, ih]
    split <;> rfl
theorem getL_upd (L : List (ByteArray × α)) (s t : ByteArray) (h : α → α) : getL (upd L s h) t = if t = s then (getL L s).map h else getL L t := by
  induction L with
  | nil => by_cases e : t = s <;> simp [upd, getL_nil, e]
  | cons x L ih =>
    have e : upd (x :: L) s h = (if x.1 = s then (x.1, h x.2) else x) :: upd L s h := rfl
    rw [e, getL_cons, getL_cons, getL_cons, ih]
    by_cases h1 : x.1 = s
    · by_cases h2 : t = s
      · simp [h1, h2]
      · have h3 : ¬ s = t := fun e => h2 e.symm
        simp [h1, h2, h3]
    · by_cases h2 : t = s
      · subst h2; simp [h1]
      · simp [h1, h2]
theorem getL_del (L : List (ByteArray × α)) (s t : ByteArray) : getL (del L s) t = if t = s then none else getL L t := by
  induction L with
  | nil => by_cases e : t = s <;> simp [del, getL_nil, e]
  | cons x L ih =>
    by_cases h1 : x.1 = s
    · have e : del (x :: L) s = del L s := by simp [del, h1]
      rw [e, ih, getL_cons]
      by_cases h2 : t = s
      · simp [h2]
      · have h3 : ¬ x.1 = t := fun e => h2 (by rw [← e, h1])
        simp [h2, h3]
    · have e : del (x :: L) s = x :: del L s := by simp [del, h1]
      rw [e, getL_cons, ih, getL_cons]
      by_cases h2 : t = s
      · subst h2; simp [h1]
      · simp [h2]
theorem onL_upd (k : α → β) (L : List (ByteArray × α)) (s : ByteArray) (h : α → α) (h' : β → β) (hc : ∀ a, k (h a) = h' (k a)) : onL k (upd L s h) = upd (onL k L) s h' := by
  simp only [onL, upd, List.map_map]
  refine List.map_congr_left fun x _ => ?_
  by_cases e : x.1 = s <;> simp [e, hc]
theorem onL_upd_at (k : α → β) (L : List (ByteArray × α)) (s : ByteArray) (h : α → α) (h' : β → β) (hc : ∀ a, getL L s = some a → k (h a) = h' (k a)) (h1 : One L) : onL k (upd L s h) = upd (onL k L) s h' := by
  induction L with
  | nil => rfl
  | cons x L ih =>
    have h2 := List.pairwise_cons.1 h1
    have e1 : onL k (upd (x :: L) s h) = ((if x.1 = s then (x.1, h x.2) else x).1, k (if x.1 = s then (x.1, h x.2) else x).2) :: onL k (upd L s h) := rfl
    have e2 : upd (onL k (x :: L)) s h' = (if x.1 = s then (x.1, h' (k x.2)) else (x.1, k x.2)) :: upd (onL k L) s h' := rfl
    rw [e1, e2]
    by_cases e : x.1 = s
    · have hx := hc x.2 (by rw [getL_cons, if_pos e])
      have hrest : ∀ y ∈ L, ¬ y.1 = s := fun y hy he => h2.1 y hy (by rw [e, he])
      have e3 : upd L s h = L := by
        unfold upd
        conv => rhs; rw [← List.map_id L]
        exact List.map_congr_left fun y hy => by simp [hrest y hy]
      have e4 : upd (onL k L) s h' = onL k L := by
        unfold upd
        conv => rhs; rw [← List.map_id (onL k L)]
        refine List.map_congr_left fun y hy => ?_
        obtain ⟨z, hz, rfl⟩ := List.mem_map.1 hy
        simp [hrest z hz]
      rw [e3, e4]; simp [e, hx]
    · rw [ih (fun a ha => hc a (by rw [getL_cons, if_neg e]; exact ha)) h2.2]
      simp [e]
theorem onL_del (k : α → β) (L : List (ByteArray × α)) (s : ByteArray) : onL k (del L s) = del (onL k L) s := by
  induction L with
  | nil => rfl
  | cons x L ih =>
    by_cases h1 : x.1 = s
    · simp [del, onL, h1]; simpa [del, onL] using ih
    · simp [del, onL, h1]; simpa [del, onL] using ih
theorem onL_app (k : α → β) (L M : List (ByteArray × α)) : onL k (L ++ M) = onL k L ++ onL k M := by simp [onL]
theorem mem_getL {L : List (ByteArray × α)} {s : ByteArray} {a : α} (h : getL L s = some a) : (s, a) ∈ L := by
  induction L with
  | nil => cases h
  | cons x L ih =>
    rw [getL_cons] at h
    by_cases e : x.1 = s
    · rw [if_pos e] at h
      injection h with h
      subst e h
      exact List.mem_cons_self
    · rw [if_neg e] at h
      exact List.mem_cons_of_mem _ (ih h)
theorem getL_mem {L : List (ByteArray × α)} (h1 : One L) {x : ByteArray × α} (h : x ∈ L) : getL L x.1 = some x.2 := by
  induction L with
  | nil => cases h
  | cons y L ih =>
    have h2 := List.pairwise_cons.1 h1
    rw [getL_cons]
    rcases List.mem_cons.1 h with rfl | h
    · rw [if_pos rfl]
    · rw [if_neg (h2.1 x h), ih h2.2 h]
theorem One.onL {L : List (ByteArray × α)} (h : One L) (k : α → β) : One (onL k L) := by
  unfold One Go.Proofs.Ytnpaodhcaeofnaa.onL
  rw [List.pairwise_map]; exact h
theorem One.upd {L : List (ByteArray × α)} (h : One L) (s : ByteArray) (k : α → α) : One (upd L s k) := by
  unfold One Go.Proofs.Ytnpaodhcaeofnaa.upd
  rw [List.pairwise_map]
  have e : ∀ z : ByteArray × α, (if z.1 = s then (z.1, k z.2) else z).1 = z.1 := fun z => by split <;> rfl
  refine h.imp fun {x y} hne => ?_
  rw [e, e]; exact hne
theorem One.del {L : List (ByteArray × α)} (h : One L) (s : ByteArray) : One (del L s) := h.filter _
theorem One.snoc {L : List (ByteArray × α)} (h : One L) {s : ByteArray} (hs : getL L s = none) (a : α) : One (L ++ [(s, a)]) := by
  refine List.pairwise_append.2 ⟨h, by simp, fun x hx y hy e => ?_⟩
  rw [List.mem_singleton] at hy
  subst hy
  have h2 := getL_mem h hx
  rw [show x.1 = s from e, hs] at h2
  cases h2
theorem sumL_upd (f : α → Nat) {L : List (ByteArray × α)} (h1 : One L) {s : ByteArray} {a : α} (hg : getL L s = some a) (h : α → α) : sumL f (upd L s h) + f a = sumL f L + f (h a) := by
  induction L with
  | nil => cases hg
  | cons x L ih =>
    have h2 := List.pairwise_cons.1 h1
    rw [getL_cons] at hg
    have e1 : sumL f (Go.Proofs.Ytnpaodhcaeofnaa.upd (x :: L) s h) = f (if x.1 = s then (x.1, h x.2) else x).2 + sumL f (Go.Proofs.Ytnpaodhcaeofnaa.upd L s h) := by simp [sumL, Go.Proofs.Ytnpaodhcaeofnaa.upd]
    have e2 : sumL f (x :: L) = f x.2 + sumL f L := by simp [sumL]
    rw [e1, e2]
    by_cases e : x.1 = s
    · rw [if_pos e] at hg
      injection hg with hg
      have e3 : Go.Proofs.Ytnpaodhcaeofnaa.upd L s h = L := by
        unfold Go.Proofs.Ytnpaodhcaeofnaa.upd
        conv => rhs; rw [← List.map_id L]
        exact List.map_congr_left fun y hy => by simp [show ¬ y.1 = s from fun he => h2.1 y hy (by rw [e, he])]
      rw [e3]; simp [e, hg]; omega
    · rw [if_neg e] at hg
      have := ih h2.2 hg
      simp [e]; omega
theorem del_none {L : List (ByteArray × α)} {s : ByteArray} (h : getL L s = none) : del L s = L := by
  induction L with
  | nil => rfl
  | cons x L ih =>
    rw [getL_cons] at h
    by_cases e : x.1 = s
    · rw [if_pos e] at h; cases h
    · rw [if_neg e] at h
      have := ih h
      simp [del, e]; simpa [del] using this
theorem sumL_del (f : α → Nat) {L : List (ByteArray × α)} (h1 : One L) {s : ByteArray} {a : α} (hg : getL L s = some a) : sumL f (del L s) + f a = sumL f L := by
  induction L with
  | nil => cases hg
  | cons x L ih =>
    have h2 := List.pairwise_cons.1 h1
    rw [getL_cons] at hg
    have e2 : sumL f (x :: L) = f x.2 + sumL f L := by simp [sumL]
    rw [e2]
    by_cases e : x.1 = s
    · rw [if_pos e] at hg
      injection hg with hg
      have hn : getL L s = none := by
        cases hq : getL L s with
        | none => rfl
        | some b => exact absurd e (h2.1 _ (mem_getL hq))
      have e3 : del (x :: L) s = del L s := by simp [del, e]
      rw [e3, del_none hn, hg]; omega
    · rw [if_neg e] at hg
      have e3 : del (x :: L) s = x :: del L s := by simp [del, e]
      have := ih h2.2 hg
      have e4 : sumL f (x :: del L s) = f x.2 + sumL f (del L s) := by simp [sumL]
      rw [e3, e4]; omega
theorem sumL_app (f : α → Nat) (L M : List (ByteArray × α)) : sumL f (L ++ M) = sumL f L + sumL f M := by simp [sumL]
theorem sumL_onL (f : β → Nat) (k : α → β) (L : List (ByteArray × α)) : sumL f (onL k L) = sumL (fun a => f (k a)) L := by simp [sumL, onL, Function.comp_def]
theorem sumL_get (f : α → Nat) {L : List (ByteArray × α)} {s : ByteArray} {a : α} (h : getL L s = some a) : f a ≤ sumL f L := by
  induction L with
  | nil => cases h
  | cons x L ih =>
    rw [getL_cons] at h
    have e2 : sumL f (x :: L) = f x.2 + sumL f L := by simp [sumL]
    by_cases e : x.1 = s
    · rw [if_pos e] at h; injection h with h; rw [e2, h]; omega
    · rw [if_neg e] at h; have := ih h; omega
/-- The sum over those that are done. -/
theorem sumL_some (f : α → Nat) {L : List (ByteArray × α)} (h1 : One L) (p q : ByteArray → Bool) {s : ByteArray} {a : α} (hg : getL L s = some a) (hp : p s = false) (hq : ∀ t, q t = (p t || decide (t = s))) :
    (L.map fun x => if q x.1 then f x.2 else 0).sum = (L.map fun x => if p x.1 then f x.2 else 0).sum + f a := by
  induction L with
  | nil => cases hg
  | cons x L ih =>
    have h2 := List.pairwise_cons.1 h1
    rw [getL_cons] at hg
    simp only [List.map_cons, List.sum_cons]
    by_cases e : x.1 = s
    · rw [if_pos e] at hg
      injection hg with hg
      have e3 : (L.map fun x => if q x.1 then f x.2 else 0) = L.map fun x => if p x.1 then f x.2 else 0 := by
        refine List.map_congr_left fun y hy => ?_
        have : ¬ y.1 = s := fun he => h2.1 y hy (by rw [e, he])
        rw [hq]; simp [this]
      rw [e3, hq, e, hp, hg]; simp; omega
    · rw [if_neg e] at hg
      rw [ih h2.2 hg, hq]
      simp [e]; omega
end
end Go.Proofs.Ytnpaodhcaeofnaa
