/-
  Who can know what, as lists: what is the same, what one step tells, what all steps tell. No statement is proved here. Conditions: none.
-/
import Derived.RowKit
namespace Go.Proofs.Ytknmccpoheekmaa
open Go.RowKit

structure Th where
  kind : Int
  a : Int
  b : Int
  n : Int
theorem Th.same {x y : Th} (h1 : x.kind = y.kind) (h2 : x.a = y.a) (h3 : x.b = y.b) (h4 : x.n = y.n) : x = y := by
  cases x; cases y; simp_all
instance : DecidableEq Th := fun x y =>
  if h : x.kind = y.kind ∧ x.a = y.a ∧ x.b = y.b ∧ x.n = y.n then isTrue (Th.same h.1 h.2.1 h.2.2.1 h.2.2.2) else isFalse fun e => h (by subst e; exact ⟨rfl, rfl, rfl, rfl⟩)
def below (p e : Int) : Bool := decide (0 ≤ p) && decide (p < e)
def fitsT (x : Th) (p : Int) : Bool :=
  if x.kind = 1 then true else if x.kind = 2 ∨ x.kind = 3 then below x.a p && below x.b p else if x.kind = 4 then below x.a p else false
/-- May it be? -/
def goodFrom (p : Nat) : List Th → Bool
  | [] => true
  | x :: t => fitsT x p && goodFrom (p + 1) t
def goodT (t : List Th) : Bool := decide (t.length ≤ 500) && goodFrom 0 t
theorem goodFrom_at : ∀ {t : List Th} {p i : Nat} {x : Th}, goodFrom p t = true → t[i]? = some x → fitsT x ((p + i : Nat) : Int) = true
  | [], _, _, _, _, h => by simp at h
  | y :: t, p, 0, x, hg, h => by
    rw [goodFrom, Bool.and_eq_true] at hg
    simp only [List.getElem?_cons_zero, Option.some.injEq] at h
    rw [← h]; exact hg.1
  | y :: t, p, i + 1, x, hg, h => by
    rw [goodFrom, Bool.and_eq_true] at hg
    rw [List.getElem?_cons_succ] at h
    have := goodFrom_at hg.2 h
    rwa [show p + 1 + i = p + (i + 1) by omega] at this
theorem goodFrom_of : ∀ {t : List Th} {p : Nat}, (∀ i x, t[i]? = some x → fitsT x ((p + i : Nat) : Int) = true) → goodFrom p t = true
  | [], _, _ => rfl
  | y :: t, p, h => by
    rw [goodFrom, Bool.and_eq_true]
    refine ⟨h 0 y rfl, goodFrom_of fun i x hi => ?_⟩
    have := h (i + 1) x (by rwa [List.getElem?_cons_succ])
    rwa [show p + (i + 1) = p + 1 + i by omega] at this
theorem goodFrom_no {t : List Th} {i : Nat} {x : Th} (hx : t[i]? = some x) (hf : fitsT x (i : Int) = false) : goodFrom 0 t = false := by
  cases h : goodFrom 0 t with
  | false => rfl
  | true =>
    have := goodFrom_at h hx
    rw [Nat.zero_add, hf] at this
    exact this.symm
theorem goodT_at {t : List Th} {i : Nat} {x : Th} (h : goodT t = true) (hx : t[i]? = some x) : fitsT x (i : Int) = true := by
  rw [goodT, Bool.and_eq_true] at h
  have := goodFrom_at h.2 hx
  rwa [Nat.zero_add] at this
theorem goodT_len {t : List Th} (h : goodT t = true) : t.length ≤ 500 := by
  rw [goodT, Bool.and_eq_true, decide_eq_true_iff] at h; exact h.1

/-! What is the same: the first place of each. -/
def nat (l : List Nat) (k : Int) : Nat := l.getD k.toNat 0
def plainT (first : List Nat) (x : Th) (p : Nat) : Th :=
  if x.kind = 1 then ⟨1, p, 0, 0⟩ else if x.kind = 2 ∨ x.kind = 3 then ⟨x.kind, nat first x.a, nat first x.b, 0⟩ else ⟨4, nat first x.a, 0, x.n⟩
/-- The place of the first that is equal. -/
def idx (x : Th) : List Th → Nat
  | [] => 0
  | y :: l => if y = x then 0 else idx x l + 1
theorem idx_le {x : Th} : ∀ {l : List Th}, idx x l ≤ l.length
  | [] => Nat.le_refl _
  | y :: l => by rw [idx]; split; omega; have := idx_le (x := x) (l := l); simp; omega
theorem idx_at {x : Th} : ∀ {l : List Th}, x ∈ l → l[idx x l]? = some x ∧ ∀ j, j < idx x l → l[j]? ≠ some x
  | [], h => absurd h (by simp)
  | y :: l, h => by
    rw [idx]
    split
    · rename_i e; exact ⟨by rw [e]; rfl, fun j hj => by omega⟩
    · rename_i e
      have hm : x ∈ l := by
        rcases List.mem_cons.1 h with h | h
        · exact absurd h.symm e
        · exact h
      have ih := idx_at hm
      refine ⟨by rw [List.getElem?_cons_succ]; exact ih.1, fun j hj => ?_⟩
      match j with
      | 0 => simpa using e
      | j + 1 => rw [List.getElem?_cons_succ]; exact ih.2 j (by omega)
theorem idx_is {x : Th} {l : List Th} {k : Nat} (h1 : l[k]? = some x) (h2 : ∀ j, j < k → l[j]? ≠ some x) : idx x l = k := by
  have hm := List.mem_of_getElem? h1
  have h := idx_at hm
  rcases Nat.lt_trichotomy (idx x l) k with hlt | he | hlt
  · exact absurd h.1 (h2 _ hlt)
  · exact he
  · exact absurd h1 (h.2 _ hlt)
def fstep (s : List Nat × List Th) (x : Th) : List Nat × List Th :=
  let y := plainT s.1 x s.1.length
  (s.1 ++ [idx y (s.2 ++ [y])], s.2 ++ [y])
def fstate (t : List Th) : List Nat × List Th := t.foldl fstep ([], [])
def firstsT (t : List Th) : List Nat := (fstate t).1
theorem fstate_step {t : List Th} {i : Nat} {x : Th} (hx : t[i]? = some x) : fstate (t.take (i + 1)) = fstep (fstate (t.take i)) x := by
  rw [List.take_add_one, hx, fstate, fstate, List.foldl_append]; rfl
theorem fstate_app (t : List Th) (x : Th) : fstate (t ++ [x]) = fstep (fstate t) x := by rw [fstate, fstate, List.foldl_append]; rfl
theorem fstate_len : ∀ (n : Nat) (t : List Th), t.length = n → (fstate t).1.length = n ∧ (fstate t).2.length = n := by
  intro n
  induction n with
  | zero => intro t h; have := List.eq_nil_of_length_eq_zero h; subst this; exact ⟨rfl, rfl⟩
  | succ n ih =>
    intro t h
    have hne : t ≠ [] := fun e => by subst e; simp at h
    rw [← List.dropLast_concat_getLast hne, fstate_app]
    have h1 := ih t.dropLast (by simp; omega)
    simp only [fstep, List.length_append, List.length_cons, List.length_nil]
    omega
theorem firstsT_len (t : List Th) : (firstsT t).length = t.length := (fstate_len _ t rfl).1
/-- What the firsts of a table are, in words. -/
structure FirstIs (t : List Th) (F : List Nat) (P : List Th) : Prop where
  lf : F.length = t.length
  lp : P.length = t.length
  plain : ∀ p x, t[p]? = some x → P[p]? = some (plainT F x p)
  low : ∀ p, p < t.length → F.getD p 0 ≤ p
  eq : ∀ p, p < t.length → P[F.getD p 0]? = P[p]?
  least : ∀ p q, p < t.length → q < F.getD p 0 → P[q]? ≠ P[p]?
theorem nat_app {F G : List Nat} {k : Int} (h : below k F.length = true) : nat (F ++ G) k = nat F k := by
  rw [below, Bool.and_eq_true, decide_eq_true_iff, decide_eq_true_iff] at h
  rw [nat, nat, List.getD_eq_getElem?_getD, List.getD_eq_getElem?_getD, List.getElem?_append_left (by omega)]
theorem plain_app {F G : List Nat} {x : Th} {p : Nat} (hx : fitsT x (p : Int) = true) (hp : p ≤ F.length) : plainT (F ++ G) x p = plainT F x p := by
  have up : ∀ k, below k (p : Int) = true → below k (F.length : Int) = true := by
    intro k h
    rw [below, Bool.and_eq_true, decide_eq_true_iff, decide_eq_true_iff] at h ⊢
    omega
  rw [fitsT] at hx
  rw [plainT, plainT]
  split
  · rfl
  · rename_i h1
    rw [if_neg h1] at hx
    split
    · rename_i h2
      rw [if_pos h2, Bool.and_eq_true] at hx
      rw [nat_app (up _ hx.1), nat_app (up _ hx.2)]
    · rename_i h2
      rw [if_neg h2] at hx
      split at hx
      · rw [nat_app (up _ hx)]
      · cases hx
theorem first_is : ∀ (n : Nat) (t : List Th), t.length = n → (∀ (p : Nat) x, t[p]? = some x → fitsT x (p : Int) = true) → FirstIs t (fstate t).1 (fstate t).2 := by
  intro n
  induction n with
  | zero =>
    intro t h _
    have := List.eq_nil_of_length_eq_zero h
    subst this
    exact ⟨rfl, rfl, fun p x h => by simp at h, fun p h => by simp at h, fun p h => by simp at h, fun p q h => by simp at h⟩
  | succ n ih =>
    intro t h hg
    have hne : t ≠ [] := fun e => by subst e; simp at h
    obtain ⟨u, x, rfl⟩ : ∃ u x, t = u ++ [x] := ⟨_, _, (List.dropLast_concat_getLast hne).symm⟩
    have hu : u.length = n := by simpa using h
    have hgu : ∀ (p : Nat) y, u[p]? = some y → fitsT y (p : Int) = true := fun p y hy => hg p y (by rw [List.getElem?_append_left (List.getElem?_eq_some_iff.1 hy).1]; exact hy)
    have hx : fitsT x (n : Int) = true := hg n x (by rw [← hu]; simp)
    have h1 := ih u hu hgu
    rw [fstate_app]
    generalize hF : (fstate u).1 = F at *
    generalize hP : (fstate u).2 = P at *
    have lf := h1.lf
    have lp := h1.lp
    rw [hu] at lf lp
    have hfs : fstep (fstate u) x = (F ++ [idx (plainT F x n) (P ++ [plainT F x n])], P ++ [plainT F x n]) := by
      rw [fstep, hF, hP, lf]
    rw [hfs]
    generalize hy : plainT F x n = y
    have hmem : y ∈ P ++ [y] := by simp
    have hi := idx_at hmem
    have hil : idx y (P ++ [y]) ≤ n := by
      by_cases hle : idx y (P ++ [y]) ≤ n
      · exact hle
      · exact absurd (show (P ++ [y])[n]? = some y by rw [← lp]; simp) (hi.2 n (by omega))
    have gd : ∀ p, p < n → (F ++ [idx y (P ++ [y])]).getD p 0 = F.getD p 0 := fun p hp => by
      rw [List.getD_eq_getElem?_getD, List.getD_eq_getElem?_getD, List.getElem?_append_left (by omega)]
    have gn : (F ++ [idx y (P ++ [y])]).getD n 0 = idx y (P ++ [y]) := by
      rw [List.getD_eq_getElem?_getD, List.getElem?_append_right (by omega), lf, Nat.sub_self]; rfl
    have pl : ∀ q, q < n → (P ++ [y])[q]? = P[q]? := fun q hq => List.getElem?_append_left (by omega)
    have pn : (P ++ [y])[n]? = some y := by rw [← lp]; simp
    refine ⟨by simp [lf, hu], by simp [lp, hu], fun p z hz => ?_, fun p hp => ?_, fun p hp => ?_, fun p q hp hq => ?_⟩
    · by_cases hpn : p < n
      · rw [List.getElem?_append_left (by omega)] at hz
        rw [pl p hpn, h1.plain p z hz, plain_app (hgu p z hz) (by omega)]
      · have : p = n := by
          have := (List.getElem?_eq_some_iff.1 hz).1
          simp [hu] at this; omega
        subst this
        have hz2 : z = x := by
          rw [← hu] at hz; simp at hz; exact hz.symm
        rw [pn, hz2, plain_app hx (by omega), hy]
    · simp only [List.length_append, List.length_cons, List.length_nil, hu] at hp
      by_cases hpn : p < n
      · rw [gd p hpn]; exact h1.low p (by omega)
      · have : p = n := by omega
        subst this
        rw [gn]; exact hil
    · simp only [List.length_append, List.length_cons, List.length_nil, hu] at hp
      by_cases hpn : p < n
      · have hl := h1.low p (by omega)
        rw [gd p hpn, pl p hpn, pl _ (by omega), h1.eq p (by omega)]
      · have : p = n := by omega
        subst this
        rw [gn, hi.1, pn]
    · simp only [List.length_append, List.length_cons, List.length_nil, hu] at hp
      by_cases hpn : p < n
      · rw [gd p hpn] at hq
        have hl := h1.low p (by omega)
        rw [pl p hpn, pl q (by omega)]
        exact h1.least p q (by omega) hq
      · have : p = n := by omega
        subst this
        rw [gn] at hq
        rw [pn]
        exact hi.2 q hq
theorem firsts_is {t : List Th} (h : goodT t = true) : FirstIs t (firstsT t) (fstate t).2 := first_is _ t rfl fun _ _ hx => goodT_at h hx
section
variable {t : List Th} {F : List Nat} {P : List Th} (h : FirstIs t F P)
include h
theorem FirstIs.twice {p : Nat} (hp : p < t.length) : F.getD (F.getD p 0) 0 = F.getD p 0 := by
  have h1 := h.low p hp
  have h2 := h.low (F.getD p 0) (by omega)
  have h3 := h.eq p hp
  have h4 := h.eq (F.getD p 0) (by omega)
  by_cases hlt : F.getD (F.getD p 0) 0 < F.getD p 0
  · exact absurd (h4.trans h3) (h.least p _ hp hlt)
  · omega
theorem FirstIs.same {p q : Nat} (hp : p < t.length) (hq : q < t.length) : F.getD p 0 = F.getD q 0 ↔ P[p]? = P[q]? := by
  constructor
  · intro e
    rw [← h.eq p hp, e, h.eq q hq]
  · intro e
    rcases Nat.lt_trichotomy (F.getD p 0) (F.getD q 0) with hlt | he | hlt
    · exact absurd ((h.eq p hp).trans e) (h.least q _ hq hlt)
    · exact he
    · exact absurd ((h.eq q hq).trans e.symm) (h.least p _ hp hlt)
end
end Go.Proofs.Ytknmccpoheekmaa
