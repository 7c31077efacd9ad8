/-
  Words and contracts that other texts share, several in one text. No statement of the seat is proved here. Conditions: as each contract says.
  Regions that draw their order and make new variables, and lists of slices, beside a chain of calls, each at whatever moment: one walk for all the orders. No statement is proved here. Conditions: as each law says.
  Contracts of scalar's Good and Sub. Conditions: the package's own number lies as the program's text lays it.
  The base's order is a prime, so the base's multiples are as many as it: words for signatures. No statement is proved here. Conditions: none.
  Multiples of the base reckoned by the kernel: those of the first case of RFC 8032's signatures. No statement is proved here. Conditions: none.
  The first case of RFC 8032: its numbers off its sums, reckoned by the kernel. No statement is proved here. Conditions: none.
  Words for signatures: lists of slices that regions make; keys and signatures as lists of bytes. No statement is proved here. Conditions: none.
  Contract of sig's ofBase. Conditions: the packages' own numbers lie as the program's text lays them.
  Contract of sig's spread: a seed's number and its own bytes. Conditions: the packages' own numbers lie as the program's text lays them.
-/
import Derived.Test.YtcefdcjpddohaaaDoorPkF
import Derived.Test.YtcefdcjpddohaaaDoorPkK
import Derived.Test.YtcefdcjpddohaaaDoorPkD
import Derived.Test.YtcefdcjpddohaaaDoorPkL
import Derived.Great.Walk
namespace Go.Proofs.YtcefdcjpddohaaaDoor
open Go.RowKit

/-- A new variable of a region: its operation, its slot, its type, what it first holds. -/
structure NewX where
  i : Nat
  d : Nat
  ty : TypeId
  z : Array Value
  v : Nat → Value
/-- The new variables that are made: in the list of what came up, in the slots, in the world. -/
def markDX (l : Array Bool) (D : List (NewX × Nat)) : Array Bool := D.foldr (fun x l => l.setIfInBounds x.1.i true) l
def markAX (l : Array Bool) (A : List NewX) : Array Bool := A.foldr (fun x l => l.setIfInBounds x.i true) l
def putX (a : Act) (D : List (NewX × Nat)) : Act := D.foldr (fun x a => a.put (some x.1.d) (x.1.v x.2)) a
structure HoldX (B : Nat) (w : World) (D : List (NewX × Nat)) : Prop where
  row : ∀ x ∈ D, w.heap[x.2]? = some (.cells x.1.z x.1.ty (0, 0))
  new : ∀ x ∈ D, B ≤ x.2
  nodup : (D.map (·.2)).Nodup
theorem HoldX.next {B : Nat} {w w' : World} {D : List (NewX × Nat)} (h : HoldX B w D) (hb : Below w.heap.size w w') : HoldX B w' D :=
  ⟨fun x hx => (hb.block _ (Array.getElem?_eq_some_iff.1 (h.row x hx)).1).trans (h.row x hx), h.new, h.nodup⟩
theorem HoldX.more {B : Nat} {w : World} {D : List (NewX × Nat)} (h : HoldX B w D) (hB : B ≤ w.heap.size) (x : NewX) : HoldX B (w.alloc (.cells x.z x.ty)) ((x, w.heap.size) :: D) := by
  refine ⟨fun y hy => ?_, fun y hy => ?_, ?_⟩
  · rcases List.mem_cons.1 hy with rfl | hy
    · exact heap_alloc_new _ _
    · exact (Below.heap_alloc _ _ _ (Array.getElem?_eq_some_iff.1 (h.row y hy)).1).trans (h.row y hy)
  · rcases List.mem_cons.1 hy with rfl | hy
    · exact hB
    · exact h.new y hy
  · rw [List.map_cons, List.nodup_cons]
    refine ⟨fun hm => ?_, h.nodup⟩
    obtain ⟨y, hy, he⟩ := List.mem_map.1 hm
    have h1 := (Array.getElem?_eq_some_iff.1 (h.row y hy)).1
    have h2 : y.2 = w.heap.size := he
    omega
theorem markDX_set (l : Array Bool) (i : Nat) : ∀ D : List (NewX × Nat), markDX (l.setIfInBounds i true) D = (markDX l D).setIfInBounds i true
  | [] => rfl
  | x :: D => by
    show (markDX (l.setIfInBounds i true) D).setIfInBounds x.1.i true = ((markDX l D).setIfInBounds x.1.i true).setIfInBounds i true
    rw [markDX_set l i D, set_comm]
theorem markDX_A (l : Array Bool) : ∀ D : List (NewX × Nat), markDX l D = markAX l (D.map (·.1))
  | [] => rfl
  | x :: D => by
    show (markDX l D).setIfInBounds x.1.i true = (markAX l (D.map (·.1))).setIfInBounds x.1.i true
    rw [markDX_A l D]
theorem markAX_un (l : Array Bool) (j : Nat) : ∀ A : List NewX, (∀ x ∈ A, x.i ≠ j) → ∀ b, (markAX l A).getD j b = l.getD j b
  | [], _, _ => rfl
  | x :: A, h, b => by
    show ((markAX l A).setIfInBounds x.i true).getD j b = l.getD j b
    rw [getD_set_ne b (h x (List.mem_cons_self ..)), markAX_un l j A (fun y hy => h y (List.mem_cons_of_mem _ hy)) b]
theorem markAX_size (l : Array Bool) : ∀ A : List NewX, (markAX l A).size = l.size
  | [] => rfl
  | x :: A => by
    show ((markAX l A).setIfInBounds x.i true).size = l.size
    rw [set_size, markAX_size l A]
theorem markAX_in (l : Array Bool) {x : NewX} : ∀ A : List NewX, x ∈ A → (markAX l A).getD x.i true = true
  | y :: A, h => by
    show ((markAX l A).setIfInBounds y.i true).getD x.i true = true
    by_cases hi : y.i = x.i
    · rw [hi]
      rcases Nat.lt_or_ge x.i (markAX l A).size with h' | h'
      · simp [h']
      · simp [h']
    · rw [getD_set_ne true hi]
      rcases List.mem_cons.1 h with rfl | h
      · exact absurd rfl hi
      · exact markAX_in l A h
theorem markAX_more (l : Array Bool) {j : Nat} {A C : List NewX} (hs : ∀ x ∈ A, x ∈ C) (h : (markAX l A).getD j false = true) : (markAX l C).getD j false = true := by
  have hlt : j < l.size := by
    rw [← markAX_size l A]
    rcases Nat.lt_or_ge j (markAX l A).size with h' | h'
    · exact h'
    · simp [Array.getElem?_eq_none h'] at h
  by_cases hm : ∃ x ∈ C, x.i = j
  · obtain ⟨x, hx, rfl⟩ := hm
    have h2 := markAX_in l C hx
    have h3 : x.i < (markAX l C).size := by rw [markAX_size]; exact hlt
    simp [h3] at h2 ⊢
    exact h2
  · have hn : ∀ x ∈ C, x.i ≠ j := fun x hx e => hm ⟨x, hx, e⟩
    rw [markAX_un l j C hn false]
    rwa [markAX_un l j A (fun x hx => hn x (hs x hx)) false] at h

theorem putX_cons (a : Act) (x : NewX × Nat) (D : List (NewX × Nat)) : putX a (x :: D) = (putX a D).put (some x.1.d) (x.1.v x.2) := rfl
section
variable {P : Program} {ops : Array Oper} {Q : Exit → Act → World → Prop} {md : Region.Mode} {S : World → Prop}
theorem ready_markAX {j : Nat} {l : Array Bool} (hj : j ∈ Region.ready md ops l) : ∀ A : List NewX, (∀ x ∈ A, x.i ≠ j) → j ∈ Region.ready md ops (markAX l A)
  | [], _ => hj
  | x :: A, h => ready_mono (ready_markAX hj A fun y hy => h y (List.mem_cons_of_mem _ hy)) (Ne.symm (h x (List.mem_cons_self ..)))
/-- What may come up is a new variable that is not made yet, or may come up when all are made. -/
theorem readyX_sub {j : Nat} {l : Array Bool} {al pend : List NewX} {A : List NewX} (hp : (A ++ pend).Perm al) (hj : j ∈ Region.ready md ops (markAX l A)) :
    (∃ x ∈ pend, x.i = j) ∨ j ∈ Region.ready md ops (markAX l al) := by
  by_cases hm : ∃ x ∈ pend, x.i = j
  · exact .inl hm
  · right
    obtain ⟨h0, o, ho, hall⟩ := mem_ready.1 hj
    have hA : ∀ x ∈ A, x.i ≠ j := fun x hx e => by
      have h1 := markAX_in l A hx
      rw [e, h0] at h1; cases h1
    have hal : ∀ x ∈ al, x.i ≠ j := fun x hx e => by
      rcases List.mem_append.1 (hp.symm.subset hx) with h | h
      · exact hA x h e
      · exact hm ⟨x, h, e⟩
    refine mem_ready.2 ⟨?_, o, ho, fun e he hb => markAX_more l (fun x hx => hp.subset (List.mem_append_left _ hx)) (hall e he hb)⟩
    rw [markAX_un l j al hal true, ← markAX_un l j A hA true]
    exact h0
/-- Whatever new variables are made already, and wherever they lie. -/
def wpMixX (P : Program) (md : Region.Mode) (ops : Array Oper) (Q : Exit → Act → World → Prop) (S : World → Prop) (B : Nat) (al : List NewX) (fuel : Nat) (listed : Array Bool) (a : Act) : Prop :=
  ∀ D pend, (D.map (·.1) ++ pend).Perm al → ∀ w, S w → B ≤ w.heap.size → HoldX B w D → wpAnyH P md ops Q S (fuel + pend.length) (markDX listed D) (putX a D) w
theorem mixX_start {B : Nat} {al : List NewX} {fuel n : Nat} {listed : Array Bool} {a : Act} {w : World} (hn : n = fuel + al.length) (hS : S w) (hB : B ≤ w.heap.size)
    (h : wpMixX P md ops Q S B al fuel listed a) : wpAnyH P md ops Q S n listed a w := by
  subst hn
  exact h [] al (List.Perm.refl _) w hS hB ⟨fun _ h => (by cases h), fun _ h => (by cases h), List.nodup_nil⟩
/-- A new variable comes up. -/
def MakesX (P : Program) (ops : Array Oper) (al : List NewX) (a : Act) (x : NewX) : Prop :=
  ∃ o, ops[x.i]? = some o ∧ (∀ y ∈ al, y.i ≠ x.i → y.d ∉ o.looksAt ops ∧ o.dst ≠ some y.d) ∧ (∀ cs b, o.op ≠ .select cs b) ∧
    ∀ (Q : Exit → Act → World → Prop) (K : Act → World → Prop) (w : World), K (a.put (some x.d) (x.v w.heap.size)) (w.alloc (.cells x.z x.ty)) → if Region.wanted o (yielded ops a.tmps) = true then Oper.wp P o a w K Q else K (a.put o.dst undef) w
/-- An operation and the slots of the new variables do not touch. -/
def apartX (ops : Array Oper) (al : List NewX) (o : Oper) : Bool := al.all fun x => !(o.looksAt ops).contains x.d && o.dst != some x.d
theorem wp_putX_all {o : Oper} {w : World} (hsel : ∀ cs b, o.op ≠ .select cs b) (hQ : ∀ d v x a w, Q (.panic x) a w → Q (.panic x) (a.put (some d) v) w) :
    ∀ (D : List (NewX × Nat)) (a : Act) (K K' : Act → World → Prop), (∀ x ∈ D, x.1.d ∉ o.looksAt ops ∧ o.dst ≠ some x.1.d) → (∀ a1 w1, K a1 w1 → K' (putX a1 D) w1) →
      (if Region.wanted o (yielded ops a.tmps) = true then Oper.wp P o a w K Q else K (a.put o.dst undef) w) →
      if Region.wanted o (yielded ops (putX a D).tmps) = true then Oper.wp P o (putX a D) w K' Q else K' ((putX a D).put o.dst undef) w
  | [], a, K, K', _, hK, h => by
    have e : K = K ∧ ∀ a1 w1, K a1 w1 → K' a1 w1 := ⟨rfl, hK⟩
    show if Region.wanted o (yielded ops a.tmps) = true then Oper.wp P o a w K' Q else K' (a.put o.dst undef) w
    split
    · rename_i hw; rw [if_pos hw] at h; exact Oper.wp_mono e.2 h
    · rename_i hw; rw [if_neg hw] at h; exact e.2 _ _ h
  | x :: D, a, K, K', hap, hK, h => by
    have h1 := hap x (List.mem_cons_self ..)
    exact wp_put_one (K := fun a1 w1 => ∃ a2, K a2 w1 ∧ a1 = putX a2 D) h1.1 hsel h1.2 (hQ x.1.d _) (fun a1 w1 ⟨a2, hk, e⟩ => by subst e; exact hK a2 w1 hk)
      (wp_putX_all hsel hQ D a K _ (fun y hy => hap y (List.mem_cons_of_mem _ hy)) (fun a1 w1 hk => ⟨a1, hk, rfl⟩) h)
theorem putX_at (d : Nat) (v : Value) : ∀ (D : List (NewX × Nat)) (a : Act), (∀ x ∈ D, x.1.d ≠ d) → (putX a D).put (some d) v = putX (a.put (some d) v) D
  | [], _, _ => rfl
  | x :: D, a, h => by
    rw [putX_cons, putX_cons, ← putX_at d v D a (fun y hy => h y (List.mem_cons_of_mem _ hy))]
    exact Act.put_comm _ _ _ fun e he hh => by injection he with he; injection hh with hh; exact h x (List.mem_cons_self ..) (by omega)
theorem apart_of {al pend : List NewX} {D : List (NewX × Nat)} {x : NewX} {f : NewX → Nat} (hnd : (al.map f).Nodup) (hp : (D.map (·.1) ++ pend).Perm al) (hx : x ∈ pend) : ∀ y ∈ D.map (·.1), f y ≠ f x := fun y hy e => by
  have h3 : ((D.map (·.1) ++ pend).map f).Nodup := (hp.map _).nodup_iff.2 hnd
  rw [List.map_append, List.nodup_append] at h3
  exact h3.2.2 (f y) (List.mem_map.2 ⟨y, hy, rfl⟩) (f x) (List.mem_map.2 ⟨x, hx, rfl⟩) e
theorem mixX_new {B : Nat} {al pend : List NewX} {fuel n : Nat} {listed : Array Bool} {a : Act} {D : List (NewX × Nat)} {w : World} {x : NewX} (hnd : (al.map (·.i)).Nodup) (hnd2 : (al.map (·.d)).Nodup) (hQ : ∀ d v x a w, Q (.panic x) a w → Q (.panic x) (a.put (some d) v) w)
    (hm : MakesX P ops al a x) (hx : x ∈ pend) (hl : pend.length = n + 1)
    (hp : (D.map (·.1) ++ pend).Perm al) (hSa : S (w.alloc (.cells x.z x.ty))) (hB : B ≤ w.heap.size) (hh : HoldX B w D)
    (ih : ∀ (D : List (NewX × Nat)) (pend : List NewX) (w : World), pend.length = n → (D.map (·.1) ++ pend).Perm al → S w → B ≤ w.heap.size → HoldX B w D → wpAnyH P md ops Q S (fuel + n) (markDX listed D) (putX a D) w) :
    wpOp P ops Q x.i (fun a' w' => S w' ∧ wpAnyH P md ops Q S (fuel + n) ((markDX listed D).setIfInBounds x.i true) a' w') (putX a D) w := by
  have hi := apart_of hnd hp hx
  have hd := apart_of hnd2 hp hx
  obtain ⟨o, ho, hap, hsel, hw⟩ := hm
  have hap' : ∀ y ∈ D, y.1.d ∉ o.looksAt ops ∧ o.dst ≠ some y.1.d := fun y hy =>
    hap y.1 (hp.subset (List.mem_append_left _ (List.mem_map.2 ⟨y, hy, rfl⟩))) (hi _ (List.mem_map.2 ⟨y, hy, rfl⟩))
  refine wpOp_step ho fun K' hK => ?_
  refine wp_putX_all (K := fun a' w' => a' = a.put (some x.d) (x.v w.heap.size) ∧ w' = w.alloc (.cells x.z x.ty)) hsel hQ D a _ hap' ?_ (hw Q _ w ⟨rfl, rfl⟩)
  rintro a1 w1 ⟨rfl, rfl⟩
  refine hK _ _ ⟨hSa, ?_⟩
  obtain ⟨s, t, rfl⟩ := List.append_of_mem hx
  have h2 := ih ((x, w.heap.size) :: D) (s ++ t) (w.alloc (.cells x.z x.ty)) ?_ ?_ hSa ?_ (hh.more hB x)
  · rw [putX_cons, putX_at _ _ D a (fun y hy => hd _ (List.mem_map.2 ⟨y, hy, rfl⟩))] at h2
    exact h2
  · simp only [List.length_append, List.length_cons] at hl ⊢; omega
  · refine List.Perm.trans ?_ hp
    show (x :: (D.map (·.1) ++ (s ++ t))).Perm _
    have h1 : (D.map (·.1) ++ (s ++ x :: t)).Perm (x :: (D.map (·.1) ++ (s ++ t))) := by
      rw [← List.append_assoc, ← List.append_assoc]
      exact List.perm_middle
    exact h1.symm
  · simp; omega
/-- The next call of the chain. -/
theorem mixX_call {B : Nat} {al : List NewX} {fuel : Nat} {listed : Array Bool} {a : Act} {i : Nat} {o : Oper} (ho : ops[i]? = some o) (hs : Region.noSelect ops = true) (hap : apartX ops al o = true)
    (hr : Region.ready md ops (markAX listed al) = [i]) (hin : (Region.ready md ops listed).contains i = true) (hnd : (al.map (·.i)).Nodup) (hnd2 : (al.map (·.d)).Nodup) (hm : ∀ x ∈ al, MakesX P ops al a x) (hSa : ∀ w, ∀ x ∈ al, S w → S (w.alloc (.cells x.z x.ty)))
    (hQ : ∀ d v x a w, Q (.panic x) a w → Q (.panic x) (a.put (some d) v) w)
    (h : ∀ w, S w → B ≤ w.heap.size → ∀ K : Act → World → Prop, Shut (∀ v w', S w' → Below w.heap.size w w' → wpMixX P md ops Q S B al fuel (listed.setIfInBounds i true) (a.put o.dst v) → K (a.put o.dst v) w') →
      if Region.wanted o (yielded ops a.tmps) = true then Oper.wp P o a w K Q else K (a.put o.dst undef) w) : wpMixX P md ops Q S B al (fuel + 1) listed a := by
  have hin' : i ∈ Region.ready md ops listed := by simpa using hin
  have hni : ∀ x ∈ al, x.i ≠ i := fun x hx e => by
    have h1 : i ∈ Region.ready md ops (markAX listed al) := by rw [hr]; exact List.mem_singleton.2 rfl
    have h2 := (mem_ready.1 h1).1
    rw [← e, markAX_in listed al hx] at h2
    cases h2
  suffices hall : ∀ (n : Nat) (D : List (NewX × Nat)) (pend : List NewX) (w : World), pend.length = n → (D.map (·.1) ++ pend).Perm al → S w → B ≤ w.heap.size → HoldX B w D → wpAnyH P md ops Q S (fuel + 1 + n) (markDX listed D) (putX a D) w by
    intro D pend hp w hS hB hh
    exact hall pend.length D pend w rfl hp hS hB hh
  intro n
  induction n with
  | zero =>
    intro D pend w hl hp hS hB hh
    have hap' : ∀ x ∈ D, x.1.d ∉ o.looksAt ops ∧ o.dst ≠ some x.1.d := fun x hx => by
      have h1 := List.all_eq_true.1 hap x.1 (hp.subset (List.mem_append_left _ (List.mem_map.2 ⟨x, hx, rfl⟩)))
      simpa using h1
    have hDal : ∀ x ∈ D.map (·.1), x ∈ al := fun x hx => hp.subset (List.mem_append_left _ hx)
    refine wpH_next (fun h0 => ?_) fun j hj => ?_
    · have := ready_markAX hin' (D.map (·.1)) (fun x hx => hni x (hDal x hx))
      rw [← markDX_A, h0] at this; cases this
    · rw [markDX_A] at hj
      rcases readyX_sub hp hj with ⟨x, hx, _⟩ | hj2
      · rw [List.eq_nil_of_length_eq_zero hl] at hx; cases hx
      · rw [hr] at hj2
        obtain rfl := List.mem_singleton.1 hj2
        refine wpOp_step ho fun K' hK => ?_
        refine wp_putX_all (K := fun a' w' => ∃ v, a' = a.put o.dst v ∧ S w' ∧ Below w.heap.size w w' ∧ wpMixX P md ops Q S B al fuel (listed.setIfInBounds j true) (a.put o.dst v)) (Region.noSelect_spec hs j o · · ho) hQ D a _ hap' ?_ (h w hS hB _ fun v w' h1 h2 h3 => ⟨v, rfl, h1, h2, h3⟩)
        rintro a1 w1 ⟨v, rfl, hS1, hb1, hM⟩
        refine hK _ _ ⟨hS1, ?_⟩
        have := hM D pend hp w1 hS1 (Nat.le_trans hB hb1.size) (hh.next hb1)
        rwa [hl, markDX_set] at this
  | succ n ih =>
    intro D pend w hl hp hS hB hh
    have hap' : ∀ x ∈ D, x.1.d ∉ o.looksAt ops ∧ o.dst ≠ some x.1.d := fun x hx => by
      have h1 := List.all_eq_true.1 hap x.1 (hp.subset (List.mem_append_left _ (List.mem_map.2 ⟨x, hx, rfl⟩)))
      simpa using h1
    have hDal : ∀ x ∈ D.map (·.1), x ∈ al := fun x hx => hp.subset (List.mem_append_left _ hx)
    refine wpH_next (fun h0 => ?_) fun j hj => ?_
    · have := ready_markAX hin' (D.map (·.1)) (fun x hx => hni x (hDal x hx))
      rw [← markDX_A, h0] at this; cases this
    · rw [markDX_A] at hj
      rcases readyX_sub hp hj with ⟨x, hx, rfl⟩ | hj2
      · have hxa : x ∈ al := hp.subset (List.mem_append_right _ hx)
        exact mixX_new (fuel := fuel + 1) hnd hnd2 hQ (hm x hxa) hx hl hp (hSa w x hxa hS) hB hh ih
      · rw [hr] at hj2
        obtain rfl := List.mem_singleton.1 hj2
        refine wpOp_step ho fun K' hK => ?_
        refine wp_putX_all (K := fun a' w' => ∃ v, a' = a.put o.dst v ∧ S w' ∧ Below w.heap.size w w' ∧ wpMixX P md ops Q S B al fuel (listed.setIfInBounds j true) (a.put o.dst v)) (Region.noSelect_spec hs j o · · ho) hQ D a _ hap' ?_ (h w hS hB _ fun v w' h1 h2 h3 => ⟨v, rfl, h1, h2, h3⟩)
        rintro a1 w1 ⟨v, rfl, hS1, hb1, hM⟩
        refine hK _ _ ⟨hS1, ?_⟩
        have := hM D pend hp w1 hS1 (Nat.le_trans hB hb1.size) (hh.next hb1)
        rw [hl, markDX_set] at this
        have e : (fuel + 1).add n = fuel + (n + 1) := by show fuel + 1 + n = _; omega
        rw [e]
        exact this
theorem putX_perm {D D' : List (NewX × Nat)} (hp : D.Perm D') : ∀ a : Act, (D.map (·.1.d)).Nodup → putX a D = putX a D' := by
  induction hp with
  | nil => exact fun _ _ => rfl
  | cons x _ ih =>
    intro a hn
    rw [putX_cons, putX_cons, ih a (List.nodup_cons.1 hn).2]
  | swap x y l =>
    intro a hn
    rw [putX_cons, putX_cons, putX_cons, putX_cons]
    refine Act.put_comm _ _ _ fun d hd => ?_
    simp only [List.map_cons, List.nodup_cons, List.mem_cons] at hn
    injection hd with hd
    intro he
    injection he with he
    exact hn.1 (.inl (by omega))
  | trans h1 _ ih1 ih2 =>
    intro a hn
    rw [ih1 a hn, ih2 a ((h1.map _).nodup_iff.1 hn)]
theorem markDX_perm {D D' : List (NewX × Nat)} (hp : D.Perm D') : ∀ l : Array Bool, markDX l D = markDX l D' := by
  induction hp with
  | nil => exact fun _ => rfl
  | cons x _ ih =>
    intro l
    show (markDX l _).setIfInBounds _ _ = (markDX l _).setIfInBounds _ _
    rw [ih l]
  | swap x y t => intro l; exact set_comm _ _ _
  | trans _ _ ih1 ih2 => intro l; rw [ih1 l, ih2 l]
/-- All are made: the stores wait for each of them. -/
theorem mixX_end {B : Nat} {al : List NewX} {fuel : Nat} {listed : Array Bool} {a : Act} (hr : ((Region.ready md ops (markAX listed al)).all fun j => al.all fun x => Region.waitsFor md ops j x.i) = true)
    (hin : (al.all fun x => (Region.ready md ops listed).contains x.i) = true) (hQ : ∀ d v x a w, Q (.panic x) a w → Q (.panic x) (a.put (some d) v) w) (hnd : (al.map (·.i)).Nodup) (hnd2 : (al.map (·.d)).Nodup) (hm : ∀ x ∈ al, MakesX P ops al a x) (hSa : ∀ w, ∀ x ∈ al, S w → S (w.alloc (.cells x.z x.ty)))
    (h : ∀ D : List (NewX × Nat), D.map (·.1) = al → ∀ w, S w → B ≤ w.heap.size → HoldX B w D → wpAnyH P md ops Q S fuel (markDX listed D) (putX a D) w) : wpMixX P md ops Q S B al fuel listed a := by
  have hin' : ∀ x ∈ al, x.i ∈ Region.ready md ops listed := fun x hx => by
    have := List.all_eq_true.1 hin x hx
    simpa using this
  suffices hall : ∀ (n : Nat) (D : List (NewX × Nat)) (pend : List NewX) (w : World), pend.length = n → (D.map (·.1) ++ pend).Perm al → S w → B ≤ w.heap.size → HoldX B w D → wpAnyH P md ops Q S (fuel + n) (markDX listed D) (putX a D) w by
    intro D pend hp w hS hB hh
    exact hall pend.length D pend w rfl hp hS hB hh
  intro n
  induction n with
  | zero =>
    intro D pend w hl hp hS hB hh
    rw [List.eq_nil_of_length_eq_zero hl, List.append_nil] at hp
    obtain ⟨D', h1, h2⟩ := turn_back hp D rfl
    have h3 : (D'.map (·.1.d)).Nodup := by
      have : D'.map (·.1.d) = (D'.map (·.1)).map (·.d) := by rw [List.map_map]; rfl
      rw [this, h2]; exact hnd2
    rw [← markDX_perm h1, ← putX_perm h1 a h3]
    refine h D' h2 w hS hB ⟨fun x hx => hh.row x (h1.subset hx), fun x hx => hh.new x (h1.subset hx), (h1.map _).nodup_iff.2 hh.nodup⟩
  | succ n ih =>
    intro D pend w hl hp hS hB hh
    have hnd3 : ((D.map (·.1) ++ pend).map (·.i)).Nodup := (hp.map _).nodup_iff.2 hnd
    have hapart : ∀ x ∈ pend, ∀ y ∈ D.map (·.1), y.i ≠ x.i := fun x hx y hy e => by
      rw [List.map_append, List.nodup_append] at hnd3
      exact hnd3.2.2 y.i (List.mem_map.2 ⟨y, hy, rfl⟩) x.i (List.mem_map.2 ⟨x, hx, rfl⟩) e
    obtain ⟨x0, hx0⟩ : ∃ x, x ∈ pend := by
      cases pend with
      | nil => simp at hl
      | cons x t => exact ⟨x, List.mem_cons_self ..⟩
    have hready : ∀ x ∈ pend, x.i ∈ Region.ready md ops (markDX listed D) := fun x hx => by
      rw [markDX_A]
      exact ready_markAX (hin' x (hp.subset (List.mem_append_right _ hx))) _ (hapart x hx)
    refine wpH_next (fun h0 => ?_) fun j hj => ?_
    · have := hready x0 hx0
      rw [h0] at this; cases this
    · have hj' := hj
      rw [markDX_A] at hj
      rcases readyX_sub hp hj with ⟨x, hx, rfl⟩ | hj2
      · have hxa : x ∈ al := hp.subset (List.mem_append_right _ hx)
        exact mixX_new hnd hnd2 hQ (hm x hxa) hx hl hp (hSa w x hxa hS) hB hh ih
      · exfalso
        have h1 := List.all_eq_true.1 hr j hj2
        have h2 := List.all_eq_true.1 h1 x0 (hp.subset (List.mem_append_right _ hx0))
        obtain ⟨oj, hoj, e, he, hb, hon⟩ := Region.waitsFor_spec h2
        obtain ⟨_, o, ho, hall⟩ := mem_ready.1 hj'
        obtain rfl := Option.some.inj (hoj.symm.trans ho)
        have h3 := hall e he hb
        rw [hon, getD_two (mem_ready.1 (hready x0 hx0)).1] at h3
        cases h3
end
theorem markAX_back (l : Array Bool) {j : Nat} : ∀ A : List NewX, (markAX l A).getD j true = false → l.getD j true = false
  | [], h => h
  | x :: A, h => by
    have h1 : ((markAX l A).setIfInBounds x.i true).getD j true = false := h
    by_cases hi : x.i = j
    · subst hi
      rcases Nat.lt_or_ge x.i (markAX l A).size with h' | h'
      · simp [h'] at h1
      · simp [h'] at h1
    · rw [getD_set_ne true hi] at h1
      exact markAX_back l A h1
section
variable {P : Program} {ops : Array Oper} {Q : Exit → Act → World → Prop} {md : Region.Mode} {S : World → Prop}
theorem yields_putX {o : Oper} {v : Value} (hsel : ∀ cs b, o.op ≠ .select cs b) : ∀ (D : List (NewX × Nat)) (a : Act), (∀ x ∈ D, x.1.d ∉ o.looksAt ops ∧ o.dst ≠ some x.1.d) → YieldsIf P ops S o v a → YieldsIf P ops S o v (putX a D)
  | [], _, _, h => h
  | x :: D, a, hap, h => by
    have h1 := (hap x (List.mem_cons_self ..)).1
    have h2 : ∀ e, some x.1.d = some e → e ∉ o.looksAt ops := fun e he => by injection he with he; exact he ▸ h1
    exact (yields_putX hsel D a (fun y hy => hap y (List.mem_cons_of_mem _ hy)) h).of_same (execOp_put o hsel _ _ _ h2) (wanted_put o _ _ _ h2)
theorem putX_put {o : Oper} {v : Value} : ∀ (D : List (NewX × Nat)) (a : Act), (∀ x ∈ D, x.1.d ∉ o.looksAt ops ∧ o.dst ≠ some x.1.d) → (putX a D).put o.dst v = putX (a.put o.dst v) D
  | [], _, _ => rfl
  | x :: D, a, hap => by
    have h1 := (hap x (List.mem_cons_self ..)).2
    rw [putX_cons, putX_cons, ← putX_put D a (fun y hy => hap y (List.mem_cons_of_mem _ hy))]
    exact Act.put_comm _ _ _ fun d hd => by injection hd with hd; exact hd ▸ h1
/-- An operation that yields in every world that meets S is taken first, new variables pending. -/
theorem mixX_take {B : Nat} {al : List NewX} {fuel : Nat} {listed : Array Bool} {a : Act} {i : Nat} {o : Oper} {v : Value} (ho : ops[i]? = some o) (hs : Region.noSelect ops = true) (hap : apartX ops al o = true)
    (hf : Region.free md ops listed i = true) (hin : (Region.ready md ops listed).contains i = true) (hni : (al.all fun x => x.i != i) = true) (hQ : ∀ c a w, Q (.panic c) (a.put o.dst v) w → Q (.panic c) a w) (hy : YieldsIf P ops S o v a)
    (h : wpMixX P md ops Q S B al fuel (listed.setIfInBounds i true) (a.put o.dst v)) : wpMixX P md ops Q S B al (fuel + 1) listed a := by
  intro D pend hp w hS hB hh
  have hDal : ∀ x ∈ D.map (·.1), x ∈ al := fun x hx => hp.subset (List.mem_append_left _ hx)
  have hap' : ∀ x ∈ D, x.1.d ∉ o.looksAt ops ∧ o.dst ≠ some x.1.d := fun x hx => by
    have h1 := List.all_eq_true.1 hap x.1 (hDal _ (List.mem_map.2 ⟨x, hx, rfl⟩))
    simpa using h1
  have hni' : ∀ x ∈ D.map (·.1), x.i ≠ i := fun x hx => by
    have h1 := List.all_eq_true.1 hni x (hDal x hx)
    simpa using h1
  have hfree := Region.free_spec ho hf
  have e : fuel + 1 + pend.length = (fuel + pend.length) + 1 := by omega
  rw [e]
  refine wpAnyH_first ho (Region.noSelect_spec hs) hQ _ _ _ _ (fun j oj hj hji hun hno => hfree j oj hj hji ?_ hno) ?_ (yields_putX (fun cs b => Region.noSelect_spec hs i o cs b ho) D a hap' hy) hS ?_
  · rw [markDX_A] at hun
    exact markAX_back listed _ hun
  · rw [markDX_A]
    exact ready_markAX (by simpa using hin) _ hni'
  · rw [← markDX_set, putX_put D a hap']
    exact h D pend hp w hS hB hh
end
theorem x_two {D : List (NewX × Nat)} {x y : NewX} (h : D.map (·.1) = [x, y]) : ∃ g1 g2, D = [(x, g1), (y, g2)] := by
  match D, h with
  | [(a, g1), (b, g2)], h =>
    simp only [List.map_cons, List.map_nil, List.cons.injEq, and_true] at h
    obtain ⟨rfl, rfl⟩ := h
    exact ⟨g1, g2, rfl⟩
theorem x_one {D : List (NewX × Nat)} {x : NewX} (h : D.map (·.1) = [x]) : ∃ g1, D = [(x, g1)] := by
  match D, h with
  | [(a, g1)], h =>
    simp only [List.map_cons, List.map_nil, List.cons.injEq, and_true] at h
    obtain rfl := h
    exact ⟨g1, rfl⟩
theorem x_three {D : List (NewX × Nat)} {x y z : NewX} (h : D.map (·.1) = [x, y, z]) : ∃ g1 g2 g3, D = [(x, g1), (y, g2), (z, g3)] := by
  match D, h with
  | [(a, g1), (b, g2), (c, g3)], h =>
    simp only [List.map_cons, List.map_nil, List.cons.injEq, and_true] at h
    obtain ⟨rfl, rfl, rfl⟩ := h
    exact ⟨g1, g2, g3, rfl⟩
section
variable {P : Program} {ops : Array Oper} {Q : Exit → Act → World → Prop} {md : Region.Mode} {S : World → Prop}
/-- One more is ready to be made. -/
theorem mixX_add {B : Nat} {al : List NewX} {fuel : Nat} {listed : Array Bool} {a : Act} (x : NewX) (h : wpMixX P md ops Q S B (x :: al) fuel listed a) : wpMixX P md ops Q S B al (fuel + 1) listed a := by
  intro D pend hp w hS hB hh
  have h2 := h D (x :: pend) ((List.perm_middle (a := x) (l₁ := D.map (·.1)) (l₂ := pend)).trans (hp.cons x)) w hS hB hh
  have e : fuel + 1 + pend.length = fuel + (x :: pend).length := by simp only [List.length_cons]; omega
  rw [e]; exact h2
/-- None is left. -/
theorem mixX_nil {B : Nat} {fuel : Nat} {listed : Array Bool} {a : Act} (h : ∀ w, S w → B ≤ w.heap.size → wpAnyH P md ops Q S fuel listed a w) : wpMixX P md ops Q S B [] fuel listed a := by
  intro D pend hp w hS hB hh
  have h0 := hp.eq_nil
  obtain ⟨h1, h2⟩ := List.append_eq_nil_iff.1 h0
  subst h2
  have h3 : D = [] := by simpa using h1
  subst h3
  exact h w hS hB
/-- The call that takes what the first of the list made. -/
theorem mixX_call1 {B : Nat} {x : NewX} {al : List NewX} {fuel : Nat} {listed : Array Bool} {a : Act} {i : Nat} {o : Oper} (ho : ops[i]? = some o) (hs : Region.noSelect ops = true) (hap : apartX ops al o = true)
    (hr : Region.ready md ops (markAX listed (x :: al)) = [i]) (hin : (Region.ready md ops (listed.setIfInBounds x.i true)).contains i = true) (hxr : (Region.ready md ops listed).contains x.i = true) (hw : Region.waitsFor md ops i x.i = true)
    (hnd : ((x :: al).map (·.i)).Nodup) (hnd2 : ((x :: al).map (·.d)).Nodup) (hm : ∀ y ∈ x :: al, MakesX P ops (x :: al) a y) (hSa : ∀ w, ∀ y ∈ x :: al, S w → S (w.alloc (.cells y.z y.ty)))
    (hQ : ∀ d v x a w, Q (.panic x) a w → Q (.panic x) (a.put (some d) v) w)
    (h : ∀ g w, S w → B ≤ w.heap.size → w.heap[g]? = some (.cells x.z x.ty (0, 0)) → B ≤ g → ∀ K : Act → World → Prop, Shut (∀ v w', S w' → Below w.heap.size w w' → wpMixX P md ops Q S B al fuel ((listed.setIfInBounds x.i true).setIfInBounds i true) ((a.put (some x.d) (x.v g)).put o.dst v) → K ((a.put (some x.d) (x.v g)).put o.dst v) w') →
      if Region.wanted o (yielded ops (a.put (some x.d) (x.v g)).tmps) = true then Oper.wp P o (a.put (some x.d) (x.v g)) w K Q else K ((a.put (some x.d) (x.v g)).put o.dst undef) w) : wpMixX P md ops Q S B (x :: al) (fuel + 1) listed a := by
  have hin' : i ∈ Region.ready md ops (listed.setIfInBounds x.i true) := by simpa using hin
  have hxr' : x.i ∈ Region.ready md ops listed := by simpa using hxr
  have hni : ∀ y ∈ x :: al, y.i ≠ i := fun y hy e => by
    have h1 : i ∈ Region.ready md ops (markAX listed (x :: al)) := by rw [hr]; exact List.mem_singleton.2 rfl
    have h2 := (mem_ready.1 h1).1
    rw [← e, markAX_in listed (x :: al) hy] at h2
    cases h2
  -- the call, where x is made
  have hit : ∀ (n : Nat) (D : List (NewX × Nat)) (pend : List NewX) (w : World), pend.length = n → (D.map (·.1) ++ pend).Perm (x :: al) → S w → B ≤ w.heap.size → HoldX B w D → x ∈ D.map (·.1) →
      wpOp P ops Q i (fun a' w' => S w' ∧ wpAnyH P md ops Q S (fuel + n) ((markDX listed D).setIfInBounds i true) a' w') (putX a D) w := by
    intro n D pend w hl hp hS hB hh hxD
    obtain ⟨p, hpD, rfl⟩ := List.mem_map.1 hxD
    obtain ⟨x, g⟩ := p
    obtain ⟨s, t, rfl⟩ := List.append_of_mem hpD
    have hperm : (s ++ (x, g) :: t).Perm ((x, g) :: (s ++ t)) := List.perm_middle
    have hp2 : (((s ++ t).map (·.1)) ++ pend).Perm al := by
      have h1 : (x :: (((s ++ t).map (·.1)) ++ pend)).Perm (x :: al) := by
        refine List.Perm.trans ?_ hp
        have h2 := (hperm.map (·.1)).append_right pend
        exact h2.symm
      exact h1.cons_inv
    have hdn : (((s ++ (x, g) :: t).map (·.1.d))).Nodup := by
      have h1 : (((s ++ (x, g) :: t).map (·.1)) ++ pend).map (·.d) = (s ++ (x, g) :: t).map (·.1.d) ++ pend.map (·.d) := by rw [List.map_append, List.map_map]; rfl
      have h2 := (hp.map (·.d)).nodup_iff.2 hnd2
      rw [h1] at h2
      exact (List.nodup_append.1 h2).1
    have hdx : ∀ y ∈ s ++ t, y.1.d ≠ x.d := fun y hy e => by
      have h1 := (hperm.map (·.1.d)).nodup_iff.1 hdn
      rw [List.map_cons, List.nodup_cons] at h1
      exact h1.1 (List.mem_map.2 ⟨y, hy, e⟩)
    have eput : putX a (s ++ (x, g) :: t) = putX (a.put (some x.d) (x.v g)) (s ++ t) := by
      rw [putX_perm hperm a hdn, putX_cons, putX_at _ _ _ _ hdx]
    have emark : markDX listed (s ++ (x, g) :: t) = markDX (listed.setIfInBounds x.i true) (s ++ t) := by
      rw [markDX_perm hperm, markDX_set]; rfl
    have hap' : ∀ y ∈ s ++ t, y.1.d ∉ o.looksAt ops ∧ o.dst ≠ some y.1.d := fun y hy => by
      have h1 := List.all_eq_true.1 hap y.1 (hp2.subset (List.mem_append_left _ (List.mem_map.2 ⟨y, hy, rfl⟩)))
      simpa using h1
    have hh2 : HoldX B w (s ++ t) := ⟨fun y hy => hh.row y (hperm.symm.subset (List.mem_cons_of_mem _ hy)), fun y hy => hh.new y (hperm.symm.subset (List.mem_cons_of_mem _ hy)), by
      have h1 := (hperm.map (·.2)).nodup_iff.1 hh.nodup
      exact (List.nodup_cons.1 h1).2⟩
    rw [eput, emark]
    refine wpOp_step ho fun K' hK => ?_
    refine wp_putX_all (K := fun a' w' => ∃ v, a' = (a.put (some x.d) (x.v g)).put o.dst v ∧ S w' ∧ Below w.heap.size w w' ∧ wpMixX P md ops Q S B al fuel ((listed.setIfInBounds x.i true).setIfInBounds i true) ((a.put (some x.d) (x.v g)).put o.dst v)) (Region.noSelect_spec hs i o · · ho) hQ (s ++ t) _ _ hap' ?_
      (h g w hS hB (hh.row (x, g) hpD) (hh.new (x, g) hpD) _ fun v w' h1 h2 h3 => ⟨v, rfl, h1, h2, h3⟩)
    rintro a1 w1 ⟨v, rfl, hS1, hb1, hM⟩
    refine hK _ _ ⟨hS1, ?_⟩
    have := hM (s ++ t) pend hp2 w1 hS1 (Nat.le_trans hB hb1.size) (hh2.next hb1)
    rwa [hl, markDX_set] at this
  have hreadyi : ∀ (D : List (NewX × Nat)) (pend : List NewX), (D.map (·.1) ++ pend).Perm (x :: al) → x ∈ D.map (·.1) → i ∈ Region.ready md ops (markDX listed D) := by
    intro D pend hp hxD
    obtain ⟨p, hpD, rfl⟩ := List.mem_map.1 hxD
    obtain ⟨x, g⟩ := p
    obtain ⟨s, t, rfl⟩ := List.append_of_mem hpD
    have hperm : (s ++ (x, g) :: t).Perm ((x, g) :: (s ++ t)) := List.perm_middle
    have emark : markDX listed (s ++ (x, g) :: t) = markDX (listed.setIfInBounds x.i true) (s ++ t) := by
      rw [markDX_perm hperm, markDX_set]; rfl
    rw [emark, markDX_A]
    refine ready_markAX hin' _ fun y hy => hni y ?_
    obtain ⟨q, hq, rfl⟩ := List.mem_map.1 hy
    exact hp.subset (List.mem_append_left _ (List.mem_map.2 ⟨q, hperm.symm.subset (List.mem_cons_of_mem _ hq), rfl⟩))
  suffices hall : ∀ (n : Nat) (D : List (NewX × Nat)) (pend : List NewX) (w : World), pend.length = n → (D.map (·.1) ++ pend).Perm (x :: al) → S w → B ≤ w.heap.size → HoldX B w D → wpAnyH P md ops Q S (fuel + 1 + n) (markDX listed D) (putX a D) w by
    intro D pend hp w hS hB hh
    exact hall pend.length D pend w rfl hp hS hB hh
  intro n
  induction n with
  | zero =>
    intro D pend w hl hp hS hB hh
    have hp0 := List.eq_nil_of_length_eq_zero hl
    have hxD : x ∈ D.map (·.1) := by
      have h1 := hp.symm.subset (List.mem_cons_self ..)
      rw [hp0, List.append_nil] at h1
      exact h1
    refine wpH_next (fun h0 => ?_) fun j hj => ?_
    · have := hreadyi D pend hp hxD
      rw [h0] at this; cases this
    · rw [markDX_A] at hj
      rcases readyX_sub hp hj with ⟨y, hy, _⟩ | hj2
      · rw [hp0] at hy; cases hy
      · rw [hr] at hj2
        obtain rfl := List.mem_singleton.1 hj2
        exact hit 0 D pend w hl hp hS hB hh hxD
  | succ n ih =>
    intro D pend w hl hp hS hB hh
    by_cases hxD : x ∈ D.map (·.1)
    · refine wpH_next (fun h0 => ?_) fun j hj => ?_
      · have := hreadyi D pend hp hxD
        rw [h0] at this; cases this
      · rw [markDX_A] at hj
        rcases readyX_sub hp hj with ⟨y, hy, rfl⟩ | hj2
        · have hya : y ∈ x :: al := hp.subset (List.mem_append_right _ hy)
          exact mixX_new (fuel := fuel + 1) hnd hnd2 hQ (hm y hya) hy hl hp (hSa w y hya hS) hB hh ih
        · rw [hr] at hj2
          obtain rfl := List.mem_singleton.1 hj2
          have h2 := hit (n + 1) D pend w hl hp hS hB hh hxD
          have e : (fuel + 1).add n = fuel + (n + 1) := by show fuel + 1 + n = _; omega
          rw [e]
          exact h2
    · have hxp : x ∈ pend := by
        rcases List.mem_append.1 (hp.symm.subset (List.mem_cons_self ..)) with h1 | h1
        · exact absurd h1 hxD
        · exact h1
      have hxu : x.i ∈ Region.ready md ops (markDX listed D) := by
        rw [markDX_A]
        exact ready_markAX hxr' _ (apart_of hnd hp hxp)
      refine wpH_next (fun h0 => ?_) fun j hj => ?_
      · rw [h0] at hxu; cases hxu
      · have hj' := hj
        rw [markDX_A] at hj
        rcases readyX_sub hp hj with ⟨y, hy, rfl⟩ | hj2
        · have hya : y ∈ x :: al := hp.subset (List.mem_append_right _ hy)
          exact mixX_new (fuel := fuel + 1) hnd hnd2 hQ (hm y hya) hy hl hp (hSa w y hya hS) hB hh ih
        · exfalso
          rw [hr] at hj2
          obtain rfl := List.mem_singleton.1 hj2
          obtain ⟨oj, hoj, e, he, hb, hon⟩ := Region.waitsFor_spec hw
          obtain ⟨_, o', ho', hall⟩ := mem_ready.1 hj'
          obtain rfl := Option.some.inj (hoj.symm.trans ho')
          have h3 := hall e he hb
          rw [hon, getD_two (mem_ready.1 hxu).1] at h3
          cases h3
end
/-- The operation that makes a new variable; one that makes a list of slices. -/
theorem makesX_new {P : Program} {ops : Array Oper} {al : List NewX} {a : Act} {i d : Nat} {ty : TypeId} {z : List Value} {o : Oper} (ho : ops[i]? = some o) (hap : (al.all fun y => y.i == i || (!(o.looksAt ops).contains y.d && o.dst != some y.d)) = true) (hop : o.op = .alloc ty) (hd : o.dst = some d) (hg : o.guard = none)
    (hz : ∀ w, (zeroValue ty).run P w = .ok (.agg z.toArray) w) : MakesX P ops al a ⟨i, d, ty, z.toArray, fun g => .pointer (some ⟨g, 0, none⟩)⟩ := by
  refine ⟨o, ho, fun y hy hne => ?_, fun cs b h => (by rw [hop] at h; cases h), fun Q K w h => ?_⟩
  · have h1 := List.all_eq_true.1 hap y hy
    simp only [Bool.or_eq_true, beq_iff_eq] at h1
    rcases h1 with h1 | h1
    · exact absurd h1 hne
    · simpa using h1
  · have hw : Region.wanted o (yielded ops a.tmps) = true := by simp [Region.wanted, hg]
    rw [if_pos hw]
    unfold Oper.wp
    simp [execOp, hop, Instr.alloc, hz, newVar, newRow, Value.cells]
    rw [Oper.upon_value, hd]
    exact h
theorem makesX_as {P : Program} {ops : Array Oper} {al : List NewX} {a : Act} {x : NewX} {o : Oper} (ho : ops[x.i]? = some o) (hap : (al.all fun y => y.i == x.i || (!(o.looksAt ops).contains y.d && o.dst != some y.d)) = true) (hsel : ∀ cs b, o.op ≠ .select cs b)
    (h : ∀ (Q : Exit → Act → World → Prop) (K : Act → World → Prop) (w : World), K (a.put (some x.d) (x.v w.heap.size)) (w.alloc (.cells x.z x.ty)) → if Region.wanted o (yielded ops a.tmps) = true then Oper.wp P o a w K Q else K (a.put o.dst undef) w) : MakesX P ops al a x := by
  refine ⟨o, ho, fun y hy hne => ?_, hsel, h⟩
  have h1 := List.all_eq_true.1 hap y hy
  simp only [Bool.or_eq_true, beq_iff_eq] at h1
  rcases h1 with h1 | h1
  · exact absurd h1 hne
  · simpa using h1
end Go.Proofs.YtcefdcjpddohaaaDoor
namespace Go.Proofs.YtcefdcjpddohaaaDoor
open Go.RowKit

set_option maxRecDepth 100000 in
set_option maxHeartbeats 1000000 in
theorem lgood_any (w : World) (hla : LaidO w) (a : List UInt8) (ha : a.length = 32) :
    Calls Tryd.prog 20 #[.agg (bv a).toArray] w fun e w' => ∃ b, e = .returned (.bool b) ∧ Vlt (b = decide (ln a < FL)) ∧ Below w.heap.size w w' := by
  obtain ⟨W, hW, hgA, hbW, hsW⟩ := one_new w (bv a).toArray 23
  have HW := Lib.hid hW
  have HA := Lib.hid ha
  have HAS := Lib.hid (show (bv a).length = 32 by rw [bv_len, ha])
  have hlaW := hla.below hla.2 hbW
  have hs : w.heap.size < W.heap.size := by have := hsW.out; omega
  clear hW ha hsW hla
  go_enter Tryd.func20, Tryd.ntmps20
  go_upto_region 1 with fail
  rw [HW.out]
  refine wp_region_held_drew (S := (fun W' => W'.heap[w.heap.size]? = some (.cells (bv a).toArray 23 (0, 0)))) (by kernel_rfl) (hgA.out) (fun hHeld => ?_)
  refine wpAnyH_take (i := 0) (oi := ⟨(some 3), _, _, _, _, _⟩) (v := _) rfl (by kernel_rfl) (by kernel_rfl) (by kernel_rfl) (fun _ _ _ h => h) (yieldsIf_load_mid (by rfl) _ _ rfl w.heap.size 0 rfl (bv a) _ (fun W' hW' => range_row hW') (Tryd.underlying23) (rfl) (by rw [HAS.out]; kernel_rfl)) hHeld ?_
  try simp only [Act.put, List.setIfInBounds_toArray, List.set_cons_zero, List.set_cons_succ]
  refine wpAnyH_take (i := 2) (oi := ⟨(some 5), _, _, _, _, _⟩) (v := _) rfl (by kernel_rfl) (by kernel_rfl) (by kernel_rfl) (fun _ _ _ h => h) (yieldsIf_load_mid (by rfl) _ _ rfl w.heap.size 0 rfl (bv a) _ (fun W' hW' => range_row hW') (Tryd.underlying23) (rfl) (by rw [HAS.out]; kernel_rfl)) hHeld ?_
  try simp only [Act.put, List.setIfInBounds_toArray, List.set_cons_zero, List.set_cons_succ]
  refine wpAnyH_ready (rs := [1]) (by kernel_rfl) (by simp) ?_
  refine AllReadyH.cons (i := 1) (o := ⟨(some 4), _, _, _, _, _⟩) rfl (fun K hK => ?_) AllReadyH.nil
  go_simp
  refine (lnorm_any W.drew ⟨hlaW.1, hlaW.2⟩ a HA.out).mono ?_
  rintro e w1 ⟨l, rfl, e1, HL, hb1d⟩
  have hb1 : Below W.heap.size W w1 := below_undrew hb1d
  refine hK.out _ _ ((hb1.block _ hs).trans hHeld) (fun hHeld => ?_)
  clear hK K
  try simp only [Act.put, List.setIfInBounds_toArray, List.set_cons_zero, List.set_cons_succ]
  have heq := eql_bytes (P := Tryd.prog) Tryd.underlying23 Tryd.underlying5 Tryd.sizeByte l a HL.out HA.out
  have HE := vlt (show decide (l = a) = decide (ln a < FL) by rw [e1.out]; exact decide_eq_decide.2 (wl_iff a HA.out))
  generalize decide (l = a) = b at *
  refine wpAnyH_take (i := 3) (oi := ⟨(some 6), _, _, _, _, _⟩) (v := ?vq1_0) rfl (by kernel_rfl) (by kernel_rfl) (by kernel_rfl) (fun _ _ _ h => h) (Or.inl ⟨by rfl, ?yq1_0⟩) hHeld ?_
  case yq1_0 => (intro W0 hSw; go_simp; try with_reducible rfl)
  try simp only [Act.put, List.setIfInBounds_toArray, List.set_cons_zero, List.set_cons_succ]
  refine wpAnyH_take (i := 4) (oi := ⟨(some 2), _, _, _, _, _⟩) (v := ?vq1_1) rfl (by kernel_rfl) (by kernel_rfl) (by kernel_rfl) (fun _ _ _ h => h) (Or.inl ⟨by rfl, ?yq1_1⟩) hHeld ?_
  case yq1_1 => (intro W0 hSw; go_simp; try with_reducible rfl)
  try simp only [Act.put, List.setIfInBounds_toArray, List.set_cons_zero, List.set_cons_succ]
  refine wpAnyH_done (by kernel_rfl) ?_ _
  go_wp2
  go_ret
  exact ⟨b, rfl, HE, below_next hbW hbW.size hb1⟩
end Go.Proofs.YtcefdcjpddohaaaDoor
namespace Go.Proofs.YtcefdcjpddohaaaDoor

theorem pr531581 : Pr 531581 := prime_tri (k := 729) (by decide) (by decide +kernel) (by decide)
theorem pr1224481 : Pr 1224481 := prime_tri (k := 1106) (by decide) (by decide +kernel) (by decide)
theorem prU : Pr 1257559732178653 :=
  prime_pair (by decide) pr531581 pr1224481 (by decide) (pock_by 64 (by decide) (by decide +kernel) pr531581 (by decide +kernel) (by decide +kernel) (by decide +kernel)) (pock_by 64 (by decide) (by decide +kernel) pr1224481 (by decide +kernel) (by decide +kernel) (by decide +kernel)) (by decide +kernel)
theorem prT : Pr 4434155615661930479 :=
  prime_one (by decide) (pock_by 64 (by decide) (by decide +kernel) prU (by decide +kernel) (by decide +kernel) (by decide +kernel)) (by decide +kernel)
theorem prS : Pr 172054593956031949258510691 :=
  prime_one (by decide) (pock_by 128 (by decide) (by decide +kernel) prT (by decide +kernel) (by decide +kernel) (by decide +kernel)) (by decide +kernel)
theorem prR : Pr 19757330305831588566944191468367130476339 :=
  prime_one (by decide) (pock_by 256 (by decide) (by decide +kernel) prS (by decide +kernel) (by decide +kernel) (by decide +kernel)) (by decide +kernel)
theorem prQ : Pr 276602624281642239937218680557139826668747 :=
  prime_one (by decide) (pock_by 256 (by decide) (by decide +kernel) prR (by decide +kernel) (by decide +kernel) (by decide +kernel)) (by decide +kernel)
theorem prL : Pr FL :=
  prime_one (by decide) (pock_by 256 (by decide) (by decide +kernel) prQ (by decide +kernel) (by decide +kernel) (by decide +kernel)) (by decide +kernel)
/-- What is nothing by two numbers of times is nothing by their greatest common divisor. -/
theorem mulE_gcd {P : PtE} (h : OnP P) : ∀ m n : Nat, mulE m P = zE → mulE n P = zE → mulE (Nat.gcd m n) P = zE := by
  intro m n
  induction m, n using Nat.gcd.induction with
  | H0 n => intro _ h2; rwa [Nat.gcd_zero_left]
  | H1 m n hm ih =>
    intro h1 h2
    rw [Nat.gcd_rec]
    refine ih ?_ h1
    rw [← mulE_mod h h1 n] at h2
    exact h2
theorem bE_ne : bE ≠ zE := by
  intro h
  have h1 := congrArg encE h
  rw [bE_enc, zE_enc] at h1
  exact absurd h1 (by decide +kernel)
theorem mulE_nought {k : Nat} (h : mulE k bE = zE) : k % FL = 0 := by
  rcases prL.2 (Nat.gcd FL k) (Nat.gcd_dvd_left _ _) with h1 | h1
  · exfalso
    have h2 := mulE_gcd bE_on FL k order_is h
    rw [h1, mulE_one bE_on] at h2
    exact bE_ne h2
  · exact Nat.mod_eq_zero_of_dvd (h1 ▸ Nat.gcd_dvd_right FL k)
theorem addE_cancel {P Q R : PtE} (hP : OnP P) (hQ : OnP Q) (hR : OnP R) (h : addE P R = addE Q R) : P = Q := by
  have h1 := congrArg (fun X => addE X (negE R)) h
  simp only [addE_assoc hP hR (negE_on hR), addE_assoc hQ hR (negE_on hR), addE_neg hR, addE_zero hP, addE_zero hQ] at h1
  exact h1
/-- So many times and so many times are one only where the numbers are one modulo the order. -/
theorem mulE_inj {a b : Nat} (h : mulE a bE = mulE b bE) : a % FL = b % FL := by
  have main : ∀ a b : Nat, a ≤ b → mulE a bE = mulE b bE → a % FL = b % FL := fun a b hab h => by
    have e : b = (b - a) + a := by omega
    rw [e, mulE_add bE_on] at h
    have h1 : addE zE (mulE a bE) = addE (mulE (b - a) bE) (mulE a bE) := by rw [zero_addE (mulE_on bE_on a)]; exact h
    have h2 := addE_cancel zE_on (mulE_on bE_on _) (mulE_on bE_on _) h1
    have h3 := mulE_nought h2.symm
    rw [e, Nat.add_mod, h3, Nat.zero_add, Nat.mod_mod]
  rcases Nat.le_total a b with h1 | h1
  · exact main a b h1 h
  · exact (main b a h1 h.symm).symm
end Go.Proofs.YtcefdcjpddohaaaDoor
namespace Go.Proofs.YtcefdcjpddohaaaDoor

/-- Four numbers tell a point with given numbers. -/
theorem enc_by {n x y : Nat} {Q : Nat × Nat × Nat × Nat} (hn : n < 2 ^ 256) (hQ : pm bN 256 n = Q) (hx : Q.1 % FP = x * Q.2.2.1 % FP) (hy : Q.2.1 % FP = y * Q.2.2.1 % FP) : mulE n bE = (cF x, cF y) := by
  have h := pm_rep bE_on bN_rep 256 n hn
  rw [hQ] at h
  have e1 : (mulE n bE).1 * cF Q.2.2.1 = cF x * cF Q.2.2.1 := by rw [← h.x, ← cF_mul, cF_eq]; exact hx
  have e2 : (mulE n bE).2 * cF Q.2.2.1 = cF y * cF Q.2.2.1 := by rw [← h.y, ← cF_mul, cF_eq]; exact hy
  exact Prod.ext (fld25519.cancel h.z e1) (fld25519.cancel h.z e2)
/-- The number of the first seed; its key. -/
def nRfa : Nat := 36144925721603087658594284515452164870581325872720374094707712194495455132720
def xRfa : Nat := 38815646466658113194383306759739515082307681141926459231621296960732224964046
def yRfa : Nat := 11903303657706407974989296177215005343713679411332034699907763981919547054807
theorem nRfa_mul : mulE nRfa bE = (cF xRfa, cF yRfa) := enc_by (Q := pm bN 256 nRfa) (by decide +kernel) rfl (by decide +kernel) (by decide +kernel)
theorem nRfa_enc : encE (mulE nRfa bE) = [215, 90, 152, 1, 130, 177, 10, 183, 213, 75, 254, 211, 201, 100, 7, 58, 14, 225, 114, 243, 218, 166, 35, 37, 175, 2, 26, 104, 247, 7, 81, 26] := by rw [nRfa_mul]; decide +kernel
/-- The number of the first half of its signature of no bytes. -/
def nRfr : Nat := 2015312323900227545039973048451112962192803170366412514267238242679089760755
def xRfr : Nat := 44370630452101398467924320556439323233869374150616132215183787387252341590058
def yRfr : Nat := 38448863731492799660668882834560725606410712239157980760146247592118262650597
theorem nRfr_mul : mulE nRfr bE = (cF xRfr, cF yRfr) := enc_by (Q := pm bN 256 nRfr) (by decide +kernel) rfl (by decide +kernel) (by decide +kernel)
theorem nRfr_enc : encE (mulE nRfr bE) = [229, 86, 67, 0, 195, 96, 172, 114, 144, 134, 226, 204, 128, 110, 130, 138, 132, 135, 127, 30, 184, 229, 217, 116, 216, 115, 224, 101, 34, 73, 1, 85] := by rw [nRfr_mul]; decide +kernel
end Go.Proofs.YtcefdcjpddohaaaDoor
namespace Go.Proofs.YtcefdcjpddohaaaDoor

/-- A seed's number: three low bits away, the highest away, the next one set. -/
def clampL (l : List UInt8) : List UInt8 := (l.set 0 (l.getD 0 0 &&& 248)).set 31 (l.getD 31 0 &&& 127 ||| 64)
theorem clampL_len (l : List UInt8) : (clampL l).length = l.length := by simp [clampL]
theorem rfa_is : ln (clampL (rfcLong.take 32)) = nRfa := by decide +kernel
theorem rfr_is : ln rfcNext % FL = nRfr := by decide +kernel
/-- What is signed is so: r and k times a, taken together, is both sums of the base's multiples. -/
theorem sign_is (r a k : Nat) : mulE ((r + k * a) % FL) bE = addE (mulE r bE) (mulE k (mulE a bE)) := by
  rw [mulE_FL, mulE_add bE_on, Nat.mul_comm k a, mulE_mul bE_on]
theorem sign_mod (r a k : Nat) : mulE ((r % FL + (k % FL * (a % FL)) % FL) % FL) bE = addE (mulE r bE) (mulE k (mulE a bE)) := by
  have h : (r % FL + (k % FL * (a % FL)) % FL) % FL = (r + k * a) % FL := by rw [← Nat.mul_mod, ← Nat.add_mod]
  rw [h, sign_is]
/-- Another second half is no signature. -/
theorem second_only {n s : Nat} {X : PtE} (hn : n < FL) (hs : s < FL) (h1 : mulE s bE = X) (h2 : mulE n bE = X) : n = s := by
  have h := mulE_inj (h2.trans h1.symm)
  rwa [Nat.mod_eq_of_lt hn, Nat.mod_eq_of_lt hs] at h
end Go.Proofs.YtcefdcjpddohaaaDoor
namespace Go.Proofs.YtcefdcjpddohaaaDoor
open Go.RowKit

/-- The operation that makes a list of slices. -/
theorem makesX_list {P : Program} {ops : Array Oper} {al : List NewX} {a : Act} {i d n : Nat} {t e : TypeId} {parts : Array (Nat × Operand)} {cells : List Value} {o : Oper} (ho : ops[i]? = some o) (hap : (al.all fun y => y.i == i || (!(o.looksAt ops).contains y.d && o.dst != some y.d)) = true)
    (hop : o.op = .buildSlice t n parts) (hd : o.dst = some d) (hw : Region.wanted o (yielded ops a.tmps) = true) (hu : P.underlying t = some (.slice e)) (lst : List (Nat × Value)) (hp : (parts.toList.map fun (i, x) => (i, a.eval x)) = lst) (hf : P.builtSlice e n lst = some cells.toArray) :
    MakesX P ops al a ⟨i, d, e, cells.toArray, fun g => .slice (some ⟨g, 0, none⟩) n n⟩ := by
  refine makesX_as (x := ⟨i, d, e, cells.toArray, fun g => .slice (some ⟨g, 0, none⟩) n n⟩) ho hap (fun cs b h => (by rw [hop] at h; cases h)) fun Q K w h => ?_
  rw [if_pos hw]
  have hp2 : (parts.map fun (i, x) => (i, a.eval x)).toList = lst := by rw [Array.toList_map]; exact hp
  clear hp
  subst hp2
  unfold Program.builtSlice at hf
  cases hie : P.info? e with
  | none => simp [hie] at hf
  | some ie =>
    simp only [hie] at hf
    cases hz : ie.zero with
    | none => simp [hz] at hf
    | some z =>
      simp only [hz] at hf
      by_cases hc : n * ie.size > 2 ^ 24 ∨ n * ie.size = 0
      · simp [hc] at hf
      · rw [if_neg hc] at hf
        refine wp_buildSlice t e n parts hop cells.toArray ie z hu hie hz (fun h' => hc (Or.inl h')) (fun h' => hc (Or.inr h')) hf ?_
        rw [hd]
        exact h
theorem bs_one (A : Option Addr) (n c : Nat) : Tryd.prog.builtSlice 24 1 [(0, .slice A n c)] = some [Value.slice A n c].toArray := by kernel_rfl
theorem bs_two (A B : Option Addr) (n c m d : Nat) : Tryd.prog.builtSlice 24 2 [(0, .slice A n c), (1, .slice B m d)] = some [Value.slice A n c, Value.slice B m d].toArray := by kernel_rfl
theorem bs_three (A B C : Option Addr) (n c m d k f : Nat) : Tryd.prog.builtSlice 24 3 [(0, .slice A n c), (1, .slice B m d), (2, .slice C k f)] = some [Value.slice A n c, Value.slice B m d, Value.slice C k f].toArray := by kernel_rfl

theorem HiG.up {g g' : Nat} (h : HiG g) (hg : g ≤ g') : HiG g' := ⟨Nat.lt_of_lt_of_le h.1 hg, Nat.lt_of_lt_of_le h.2.1 hg, Nat.lt_of_lt_of_le h.2.2.1 hg, Nat.lt_of_lt_of_le h.2.2.2.1 hg, Nat.lt_of_lt_of_le h.2.2.2.2 hg⟩
theorem zero_s64 (w : World) : (zeroValue 27).run Tryd.prog w = .ok (.agg (bv z64).toArray) w := by kernel_rfl
theorem zero_sig (w : World) : (zeroValue 28).run Tryd.prog w = .ok (.agg (bv z64).toArray) w := by kernel_rfl
/-- The number of many bytes below L. -/
def hsh (m : List UInt8) : List UInt8 := wl (ln (longSum m))
theorem hsh_is (ps : List (List UInt8)) : hashOf ps = hsh ps.flatten := rfl
def secL (seed : List UInt8) : List UInt8 := clampL ((longSum seed).take 32)
def ownL (seed : List UInt8) : List UInt8 := (longSum seed).drop 32
theorem secL_len (seed : List UInt8) : (secL seed).length = 32 := by rw [secL, clampL_len, List.length_take, longSum_len]; rfl
theorem ownL_len (seed : List UInt8) : (ownL seed).length = 32 := by rw [ownL, List.length_drop, longSum_len]
/-- The base, so many times. -/
def baseL (l : List UInt8) : List UInt8 := encE (mulE (ln l) bE)
def pubL (seed : List UInt8) : List UInt8 := baseL (secL seed)
def onceL (seed m : List UInt8) : List UInt8 := hsh (ownL seed ++ m)
def halfL (seed m : List UInt8) : List UInt8 := baseL (onceL seed m)
def restL (seed m : List UInt8) : List UInt8 := wl (ln (onceL seed m) + ln (wl (ln (hsh (halfL seed m ++ (pubL seed ++ m))) * ln (secL seed))))
def signL (seed m : List UInt8) : List UInt8 := halfL seed m ++ restL seed m
theorem baseL_len (l : List UInt8) : (baseL l).length = 32 := encE_len _
theorem halfL_len (seed m : List UInt8) : (halfL seed m).length = 32 := baseL_len _
theorem signL_len (seed m : List UInt8) : (signL seed m).length = 64 := by rw [signL, List.length_append, halfL, baseL_len, restL, wl_len]
theorem flat1 (u : List UInt8) (ps : List (List UInt8)) : ([u] ++ ps).flatten = u ++ ps.flatten := by simp
theorem flat2 (u v : List UInt8) (ps : List (List UInt8)) : ([u, v] ++ ps).flatten = u ++ (v ++ ps.flatten) := by simp
/-- What Verify answers. -/
def VerIs (pub s m : List UInt8) (ok : Bool) : Prop :=
  ok = true ↔ ∃ P R, PtIs pub (some P) ∧ PtIs (s.take 32) (some R) ∧ ln (s.drop 32) < FL ∧ addE R (mulE (ln (hsh (s.take 32 ++ (pub ++ m)))) P) = mulE (ln (s.drop 32)) bE
theorem gd_yes {a : List UInt8} {P : PtE} {ok : Bool} (h : PtIs a (some P)) (k : GdIs a ok) : ok = true := by
  obtain ⟨o, h1, h2⟩ := k
  obtain rfl := ptIs_only h1 h
  exact h2
theorem gd_no {a : List UInt8} {ok : Bool} (h : ¬ ∃ P, PtIs a (some P)) (k : GdIs a ok) : ok = false := by
  obtain ⟨o, h1, h2⟩ := k
  cases o with
  | none => exact h2
  | some P => exact absurd ⟨P, h1⟩ h
theorem mu_yes {n : Nat} {a l : List UInt8} {k : Int} {P : PtE} (h : PtIs a (some P)) (m : MuIs n a l k) : l = encE (mulE n P) ∧ k = 0 := by
  obtain ⟨o, h1, h2, h3⟩ := m
  obtain rfl := ptIs_only h1 h
  exact ⟨h2, h3⟩
theorem ad_yes {a b l : List UInt8} {k : Int} {P Q : PtE} (h : PtIs a (some P)) (h' : PtIs b (some Q)) (m : AdIs a b l k) : l = encE (addE P Q) ∧ k = 0 := by
  obtain ⟨o, p, h1, h2, h3, h4⟩ := m
  obtain rfl := ptIs_only h1 h
  obtain rfl := ptIs_only h2 h'
  exact ⟨h3, h4⟩
theorem ver_a {p s m : List UInt8} (h : ¬ ∃ P, PtIs p (some P)) : VerIs p s m false := ⟨fun h => (by cases h), fun ⟨P, _, h1, _⟩ => absurd ⟨P, h1⟩ h⟩
theorem ver_b {p s m : List UInt8} (h : ¬ ∃ R, PtIs (s.take 32) (some R)) : VerIs p s m false := ⟨fun h => (by cases h), fun ⟨_, R, _, h1, _⟩ => absurd ⟨R, h1⟩ h⟩
theorem ver_c {p s m : List UInt8} (h : ¬ ln (s.drop 32) < FL) : VerIs p s m false := ⟨fun h => (by cases h), fun ⟨_, _, _, _, h1, _⟩ => absurd h1 h⟩
theorem ver_d {p s m k : List UInt8} {P R : PtE} (h1 : PtIs p (some P)) (h2 : PtIs (s.take 32) (some R)) (h3 : ln (s.drop 32) < FL) (hk : k = hsh (s.take 32 ++ (p ++ m))) {x y : List UInt8} (hx : x = encE (addE R (mulE (ln k) P))) (hy : y = baseL (s.drop 32)) : VerIs p s m (decide (x = y)) := by
  have hon : OnP (addE R (mulE (ln k) P)) := addE_on h2.1 (mulE_on h1.1 _)
  have e : x = y ↔ addE R (mulE (ln k) P) = mulE (ln (s.drop 32)) bE := by
    rw [hx, hy]
    exact ⟨fun h => encE_inj hon (mulE_on bE_on _) h, fun h => congrArg encE h⟩
  rw [hk] at e
  clear hx hy hon
  unfold VerIs
  rw [decide_eq_true_iff, e]
  clear e hk
  constructor
  · exact fun h => ⟨P, R, h1, h2, h3, h⟩
  · rintro ⟨P', R', h1', h2', _, h4⟩
    have e1 : P' = P := Option.some.inj (ptIs_only h1' h1)
    have e2 : R' = R := Option.some.inj (ptIs_only h2' h2)
    rw [← e1, ← e2]
    exact h4
theorem sign_sum (r a k : Nat) : mulE ((r + k * a % FL) % FL) bE = addE (mulE r bE) (mulE k (mulE a bE)) := by
  rw [Nat.add_mod_mod, sign_is]
/-- What was signed is so. -/
theorem ver_sign (s m : List UInt8) : VerIs (pubL s) (signL s m) m true := by
  have hf : (signL s m).take 32 = halfL s m := by rw [signL, List.take_left' (halfL_len s m)]
  have hr : (signL s m).drop 32 = restL s m := by rw [signL, List.drop_left' (halfL_len s m)]
  have hl : ln (restL s m) = (ln (onceL s m) + ln (hsh (halfL s m ++ (pubL s ++ m))) * ln (secL s) % FL) % FL := by rw [restL, ln_wl, ln_wl]
  refine ⟨fun _ => ⟨mulE (ln (secL s)) bE, mulE (ln (onceL s m)) bE, ptIs_enc (mulE_on bE_on _), ?_, ?_, ?_⟩, fun _ => rfl⟩
  · rw [hf]; exact ptIs_enc (mulE_on bE_on _)
  · rw [hr, hl]; exact Nat.mod_lt _ (by decide)
  · rw [hf, hr, hl]
    exact (sign_sum _ _ _).symm
end Go.Proofs.YtcefdcjpddohaaaDoor
namespace Go.Proofs.YtcefdcjpddohaaaDoor
open Go.RowKit

theorem mul_base {n : Nat} {b l : List UInt8} {k : Int} (hb : b = encE bE) (h : MuIs n b l k) : l = encE (mulE n bE) ∧ k = 0 := by
  obtain ⟨o, h1, h2, h3⟩ := h
  subst hb
  obtain rfl := ptIs_only h1 (ptIs_enc bE_on)
  exact ⟨h2, h3⟩
set_option maxRecDepth 100000 in
set_option maxHeartbeats 4000000 in
theorem ofBase_any (w : World) (hla : LaidG w) (n : List UInt8) (hn : n.length = 32) :
    Calls Tryd.prog 14 #[.agg (bv n).toArray] w fun e w' => ∃ l, e = .returned (.agg (bv l).toArray) ∧ Vlt (l = baseL n) ∧ Hid (l.length = 32) ∧ Below w.heap.size w w' := by
  have hzw := zero_word
  obtain ⟨V0, hW, gb0_V0, gb1_V0, hb_V0, hsW⟩ := pair_new w (bv n).toArray (bv z32).toArray 23 23
  have HW := Lib.hid hW
  have Hhn := Lib.hid hn
  have sb0_V0 := row_size gb0_V0
  have sb1_V0 := row_size gb1_V0
  have hlaV0 := hla.next hb_V0
  have hHG := hla.hi (Nat.le_refl _)
  clear hla
  clear hW hsW hn
  go_enter Tryd.func14, Tryd.ntmps14
  go_upto_region 1 with fail
  rw [HW.out]
  refine wp_region_held_drew (S := fun W' => Below V0.heap.size V0 W') (by kernel_rfl) ((Below.refl _ _).drew) (fun hHeld => ?_)
  refine wpAnyH_take (i := 0) (oi := ⟨(some 6), _, _, _, _, _⟩) (v := _) rfl (by kernel_rfl) (by kernel_rfl) (by kernel_rfl) (fun _ _ _ h => h) (yieldsIf_load_mid (by rfl) _ _ rfl (w.heap.size) 0 rfl (bv n) _ (fun W' hW' => range_row ((hW'.block _ sb0_V0).trans gb0_V0.out)) (Tryd.underlying23) rfl (by rw [bv_len, Hhn.out]; kernel_rfl)) hHeld ?_
  try simp only [pu]
  refine mixX_start (B := V0.heap.size) (al := [⟨6, 3, 23, ((bv z32)).toArray, fun g => .pointer (some ⟨g, 0, none⟩)⟩]) (fuel := 7) rfl hHeld (hHeld.size) ?_
  clear hHeld
  refine mixX_call (i := 1) (o := ⟨(some 7), _, _, _, _, _⟩) rfl (by kernel_rfl) (by kernel_rfl) (by kernel_rfl) (by kernel_rfl) (by simp) (by simp) (fun x hx => by simp only [List.mem_cons, List.not_mem_nil, or_false] at hx; rcases hx with rfl <;> first | exact makesX_new rfl (by kernel_rfl) rfl rfl rfl zero_word) (fun W x _ h => h.alloc h.size _) (fun _ _ _ _ _ h => h) (fun X1 hHeld hBX K hK => ?_)
  try simp only [pu]
  go_simp
  refine (pbase_any _).mono ?_
  rintro e W1 ⟨B, rfl, eB, hB, hb1⟩
  refine hK.out _ _ (below_next hHeld hHeld.size hb1) hb1 ?_
  clear hK K hHeld hBX hb1
  try simp only [pu]
  refine mixX_call (i := 2) (o := ⟨(some 8), _, _, _, _, _⟩) rfl (by kernel_rfl) (by kernel_rfl) (by kernel_rfl) (by kernel_rfl) (by simp) (by simp) (fun x hx => by simp only [List.mem_cons, List.not_mem_nil, or_false] at hx; rcases hx with rfl <;> first | exact makesX_new rfl (by kernel_rfl) rfl rfl rfl zero_word) (fun W x _ h => h.alloc h.size _) (fun _ _ _ _ _ h => h) (fun X2 hHeld hBX K hK => ?_)
  try simp only [pu]
  go_simp
  refine (pmul_any _ (hlaV0.next hHeld).p n B Hhn.out hB.out).mono ?_
  rintro e W2 ⟨l, k1, rfl, eM, hl, hb2⟩
  refine hK.out _ _ (below_next hHeld hHeld.size hb2) hb2 ?_
  clear hK K hHeld hBX hb2
  try simp only [pu]
  have HF := vlt (mul_base eB.out eM.out)
  clear eB eM
  refine mixX_take (i := 3) (o := ⟨(some 5), _, _, _, _, _⟩) (v := ?vy1_3) rfl (by kernel_rfl) (by kernel_rfl) (by kernel_rfl) (by kernel_rfl) (by kernel_rfl) (fun _ _ _ h => h) (Or.inl ⟨by rfl, ?y1_3⟩) ?_
  case y1_3 => (intro W0 hSw; go_simp; try with_reducible rfl)
  try simp only [pu]
  refine mixX_take (i := 4) (o := ⟨(some 9), _, _, _, _, _⟩) (v := .agg (bv l).toArray) rfl (by kernel_rfl) (by kernel_rfl) (by kernel_rfl) (by kernel_rfl) (by kernel_rfl) (fun _ _ _ h => h) (Or.inl ⟨by rfl, ?y1_4⟩) ?_
  case y1_4 => (intro W0 hSw; go_simp; try with_reducible rfl)
  try simp only [pu]
  refine mixX_take (i := 5) (o := ⟨(some 10), _, _, _, _, _⟩) (v := .int .i64 k1) rfl (by kernel_rfl) (by kernel_rfl) (by kernel_rfl) (by kernel_rfl) (by kernel_rfl) (fun _ _ _ h => h) (Or.inl ⟨by rfl, ?y1_5⟩) ?_
  case y1_5 => (intro W0 hSw; go_simp; try with_reducible rfl)
  try simp only [pu]
  refine mixX_end (by kernel_rfl) (by kernel_rfl) (fun _ _ _ _ _ h => h) (by simp) (by simp) (fun x hx => by simp only [List.mem_cons, List.not_mem_nil, or_false] at hx; rcases hx with rfl <;> first | exact makesX_new rfl (by kernel_rfl) rfl rfl rfl zero_word) (fun W x _ h => h.alloc h.size _) (fun D hD W3 hHeld hBX hHo => ?_)
  obtain ⟨G3, rfl⟩ := x_one hD
  have xG3 : Hid (W3.heap[G3]? = some (.cells ((bv z32)).toArray 23 (0, 0))) := hHo.row (⟨6, 3, 23, ((bv z32)).toArray, fun g => .pointer (some ⟨g, 0, none⟩)⟩, G3) (by simp)
  have lG3 : V0.heap.size ≤ G3 := hHo.new (⟨6, 3, 23, ((bv z32)).toArray, fun g => .pointer (some ⟨g, 0, none⟩)⟩, G3) (by simp)
  clear hHo hBX hD
  simp only [markDX, putX, List.foldr_cons, List.foldr_nil, pu, List.setIfInBounds_toArray, List.set_cons_zero, List.set_cons_succ]
  refine wpAnyH_ready (rs := [7]) (by kernel_rfl) (by simp) ?_
  refine AllReadyH.cons (i := 7) (o := ⟨none, _, _, _, _, _⟩) rfl (fun K hK => ?_) AllReadyH.nil
  refine step_row (by rfl) 23 (.tmp 3) (.tmp 9) rfl G3 (bv l) rfl rfl 23 _ xG3.out (by rw [bv_len, hl.out]; kernel_rfl) (by rw [List.size_toArray, bv_len, bv_len, hl.out, z32_len]) (bv_one _) ?_
  intro W4 yG3 kG3
  refine hK.out _ _ (But.below hHeld kG3 lG3 hHeld.size) (fun hHeld => ?_)
  clear hK K kG3 xG3
  have xG3 := yG3
  clear yG3
  try simp only [pu]
  refine wpAnyH_take (i := 8) (oi := ⟨(some 4), _, _, _, _, _⟩) (v := .int .i64 k1) rfl (by kernel_rfl) (by kernel_rfl) (by kernel_rfl) (fun _ _ _ h => h) (Or.inl ⟨by rfl, ?y1_8⟩) hHeld ?_
  case y1_8 => (intro W0 hSw; go_simp; try with_reducible rfl)
  try simp only [pu]
  refine wpAnyH_done (by kernel_rfl) ?_ _
  obtain ⟨V1, rV1⟩ : ∃ X, X = W4 := ⟨_, rfl⟩
  subst rV1
  have gb0_V1 := row_next2 gb0_V0 hHeld
  have sb0_V1 := row_size gb0_V1
  have gb1_V1 := row_next2 gb1_V0 hHeld
  have sb1_V1 := row_size gb1_V1
  have hb_V1 := below_next hb_V0 hb_V0.size hHeld
  have hlaV1 := hlaV0.next hHeld
  have gn3_V1 := xG3
  have sn3_V1 := row_size gn3_V1
  clear xG3
  have wG3 : w.heap.size + 2 ≤ G3 := by omega
  clear hHeld hb_V0 hlaV0 sb0_V0 gb0_V0 sb1_V0 gb1_V0 lG3
  go_upto_region 2 with fail
  refine plain_start_c (S := fun W' => Below V1.heap.size V1 W') 1 (by kernel_rfl) (Below.refl _ _) (fun hHeld => ?_)
  refine c_read (i := 0) (oi := ⟨(some 11), _, _, _, _, _⟩) (v := _) rfl (by decide) (by kernel_rfl) (by kernel_rfl) (by kernel_rfl) (by kernel_rfl) (by kernel_rfl) (fun _ _ _ h => h) (yieldsIf_load_mid (by rfl) _ _ rfl G3 0 rfl (bv l) _ (fun W' hW' => range_row ((hW'.block _ sn3_V1).trans gn3_V1.out)) (Tryd.underlying23) rfl (by rw [bv_len, hl.out]; kernel_rfl)) hHeld ?_
  try simp only [pu]
  refine c_call (S' := fun _ => True) (o := ⟨none, _, _, _, _, _⟩) (by kernel_rfl) (by kernel_rfl) rfl (fun K hK => ?_)
  have cb0_0 := row_next2 gb0_V1 hHeld
  have cb1_0 := row_next2 gb1_V1 hHeld
  have cn3_0 := row_next2 gn3_V1 hHeld
  have cb_0 := below_next hb_V1 hb_V1.size hHeld
  have cl_0 := hlaV1.next hHeld
  clear hHeld
  refine step_row (by rfl) 23 (.tmp 2) (.tmp 11) rfl (w.heap.size + 1) (bv l) rfl rfl 23 _ cb1_0.out (by rw [bv_len, hl.out]; kernel_rfl) (by rw [List.size_toArray, bv_len, z32_len, bv_len, hl.out]) (bv_one _) ?_
  intro W5 cb1_1 kR
  refine hK.out _ _ trivial (fun hHeld => ?_)
  have cb0_1 := row_but cb0_0 kR (by omega)
  have cn3_1 := row_but cn3_0 kR (by omega)
  have cb_1 := But.below cb_0 kR (by omega) cb_0.size
  have cl_1 := cl_0.but (hHG.up (by omega)) kR
  clear hK K kR cb_0 cb0_0 cb1_0 cn3_0 cl_0
  try simp only [pu]
  refine wpAnyH_done (by kernel_rfl) ?_ _
  obtain ⟨V2, rV2⟩ : ∃ X, X = W5 := ⟨_, rfl⟩
  subst rV2
  have gb0_V2 := cb0_1
  have sb0_V2 := row_size gb0_V2
  have gb1_V2 := cb1_1
  have sb1_V2 := row_size gb1_V2
  have gn3_V2 := cn3_1
  have sn3_V2 := row_size gn3_V2
  have hb_V2 := cb_1
  have hlaV2 := cl_1
  clear hHeld cb_1 hb_V1 cl_1 hlaV1 cb0_1 cb1_1 cn3_1 sb0_V1 sb1_V1 sn3_V1 gb0_V1 gb1_V1 gn3_V1
  have HE := vlt (show l = baseL n from HF.out.1)
  go_wp2_with fail
  refine bodyPost_ret (v := .agg (bv l).toArray) (results_cell_row Tryd.results14 _ _ (w.heap.size + 1) 23 _ (0, 0) _ rfl gb1_V2.out Tryd.underlying23 rfl (by rw [List.size_toArray, bv_len, hl.out]; kernel_rfl)) rfl ⟨l, rfl, HE, hl, hb_V2⟩
end Go.Proofs.YtcefdcjpddohaaaDoor
namespace Go.Proofs.YtcefdcjpddohaaaDoor
open Go.RowKit

theorem results_rows {P : Program} {fn : Func} {p q : Tmp} {ty ty2 : TypeId} (h : fn.results = #[.cell p ty, .cell q ty2]) (tmps : Array Value) (w : World)
    (g : Nat) (t : TypeId) (cs : Array Value) (fr : Nat × Nat) (d : TypeDesc) (hp : tmps.getD p undef = .pointer (some ⟨g, 0, none⟩)) (hg : w.heap[g]? = some (.cells cs t fr))
    (hu : P.underlying ty = some d) (hd : (match d with | .struct _ | .array _ _ => true | _ => false) = true) (hi : (P.info? ty).map (·.size) = some cs.size)
    (g2 : Nat) (t2 : TypeId) (cs2 : Array Value) (fr2 : Nat × Nat) (d2 : TypeDesc) (hp2 : tmps.getD q undef = .pointer (some ⟨g2, 0, none⟩)) (hg2 : w.heap[g2]? = some (.cells cs2 t2 fr2))
    (hu2 : P.underlying ty2 = some d2) (hd2 : (match d2 with | .struct _ | .array _ _ => true | _ => false) = true) (hi2 : (P.info? ty2).map (·.size) = some cs2.size) :
    (results fn tmps).run P w = .ok (.tuple #[.agg cs, .agg cs2]) w := by
  have hp' : tmps[p]?.getD undef = .pointer (some ⟨g, 0, none⟩) := by simpa using hp
  have hq' : tmps[q]?.getD undef = .pointer (some ⟨g2, 0, none⟩) := by simpa using hp2
  simp [results, h, hp', hq', asAddr, run_loadVar_row w g t ty cs fr d hg hu hd hi, run_loadVar_row w g2 t2 ty2 cs2 fr2 d2 hg2 hu2 hd2 hi2, Sem.run_bind, Result.andThen]
theorem at_cell {w : World} {g : Nat} {l : List UInt8} {t : TypeId} (hg : w.heap[g]? = some (.cells (bv l).toArray t (0, 0))) (k : Nat) (hk : k < l.length) : w.cell? ⟨g, k, none⟩ = some (.int .u8 (((l.getD k 0).toNat : Nat) : Int)) :=
  byte_cell hg (by simp [List.getElem?_eq_getElem hk])
theorem and248 (b : UInt8) : bits .and .u8 ((b.toNat : Nat) : Int) 248 = (((b &&& 248).toNat : Nat) : Int) := by
  have h := u8_and_nat b.toNat 248 (UInt8.toNat_lt _) (by decide)
  rw [UInt8.toNat_and]; exact h
theorem and127 (b : UInt8) : bits .and .u8 ((b.toNat : Nat) : Int) 127 = (((b &&& 127).toNat : Nat) : Int) := by
  have h := u8_and_nat b.toNat 127 (UInt8.toNat_lt _) (by decide)
  rw [UInt8.toNat_and]; exact h
theorem or64 (b : UInt8) : bits .or .u8 ((b.toNat : Nat) : Int) 64 = (((b ||| 64).toNat : Nat) : Int) := by
  have h := u8_or_nat b.toNat 64 (UInt8.toNat_lt _) (by decide)
  rw [UInt8.toNat_or]; exact h
theorem clamp_two (l : List UInt8) : (l.set 0 (l.getD 0 0 &&& 248)).set 31 ((l.set 0 (l.getD 0 0 &&& 248)).getD 31 0 &&& 127 ||| 64) = clampL l := by
  have h : (l.set 0 (l.getD 0 0 &&& 248)).getD 31 0 = l.getD 31 0 := by simp
  rw [h, clampL]
set_option maxRecDepth 100000 in
set_option maxHeartbeats 4000000 in
theorem spread_any (w : World) (hla : LaidG w) (s : List UInt8) (hs : s.length = 32) :
    Calls Tryd.prog 13 #[.agg (bv s).toArray] w fun e w' => ∃ u v, e = .returned (.tuple #[.agg (bv u).toArray, .agg (bv v).toArray]) ∧ Vlt (u = secL s ∧ v = ownL s) ∧ Hid (u.length = 32) ∧ Hid (v.length = 32) ∧ Below w.heap.size w w' := by
  have hzw := zero_word
  have hz64 := zero_s64
  obtain ⟨V0, hW, gb0_V0, gb1_V0, gb2_V0, hb_V0, hsW⟩ := three_new w (bv s).toArray (bv z32).toArray (bv z32).toArray 23 23 23
  have HW := Lib.hid hW
  have Hhs := Lib.hid hs
  have sb0_V0 := row_size gb0_V0
  have sb1_V0 := row_size gb1_V0
  have sb2_V0 := row_size gb2_V0
  have hlaV0 := hla.next hb_V0
  have hHG := hla.hi (Nat.le_refl _)
  clear hla
  clear hW hsW hs
  go_enter Tryd.func13, Tryd.ntmps13
  go_upto_region 1 with fail
  rw [HW.out]
  refine plain_start (S := fun W' => Below V0.heap.size V0 W') (by kernel_rfl) (Below.refl _ _) (fun hHeld => ?_)
  have hcut0 := cut_all Tryd.underlying23 Tryd.sizeByte (w.heap.size) 0 (by decide)
  refine wpAnyH_take (i := 0) (oi := ⟨(some 5), _, _, _, _, _⟩) (v := .slice (some ⟨w.heap.size, 0, none⟩) 32 32) rfl (by kernel_rfl) (by kernel_rfl) (by kernel_rfl) (fun _ _ _ h => h) (Or.inl ⟨by rfl, ?y1_0⟩) hHeld ?_
  case y1_0 => (intro W0 hSw; go_simp; try simp only [hcut0]; try with_reducible rfl)
  try simp only [pu]
  clear hcut0
  refine mixX_start (B := V0.heap.size) (al := [⟨1, 6, 24, [Value.slice (some ⟨w.heap.size, 0, none⟩) 32 32].toArray, fun g => .slice (some ⟨g, 0, none⟩) 1 1⟩, ⟨3, 4, 27, ((bv z64)).toArray, fun g => .pointer (some ⟨g, 0, none⟩)⟩]) (fuel := 2) rfl hHeld (hHeld.size) ?_
  clear hHeld
  refine mixX_call1 (i := 2) (o := ⟨(some 7), _, _, _, _, _⟩) rfl (by kernel_rfl) (by kernel_rfl) (by kernel_rfl) (by kernel_rfl) (by kernel_rfl) (by kernel_rfl) (by simp) (by simp) (fun x hx => by simp only [List.mem_cons, List.not_mem_nil, or_false] at hx; rcases hx with rfl | rfl <;> first | exact makesX_new rfl (by kernel_rfl) rfl rfl rfl zero_s64 | exact makesX_list (cells := [Value.slice (some ⟨w.heap.size, 0, none⟩) 32 32]) rfl (by kernel_rfl) rfl rfl (by rfl) Tryd.underlying38 [(0, Value.slice (some ⟨w.heap.size, 0, none⟩) 32 32)] (by rfl) (bs_one (some ⟨w.heap.size, 0, none⟩) 32 32)) (fun W x _ h => h.alloc h.size _) (fun _ _ _ _ _ h => h) (fun g2 X1 hHeld hBX hg hBg K hK => ?_)
  have hL2 := Lst.row1 (l1 := s) hg (byt_row (row_next2 gb0_V0 hHeld)) (Hhs.out) (Nat.le_refl _)
  clear hg hBg
  try simp only [pu]
  go_simp
  refine (long_any _ (some ⟨g2, 0, none⟩) [s] 1 1 hL2.prt rfl (hlaV0.next hHeld).l (by simp [Hhs.out]) (by decide)).mono ?_
  rintro e W1 ⟨X, rfl, eX, hX, hb1⟩
  refine hK.out _ _ (below_next hHeld hHeld.size hb1) hb1 ?_
  clear hK K hHeld hBX hb1 hL2
  try simp only [pu]
  refine mixX_end (by kernel_rfl) (by kernel_rfl) (fun _ _ _ _ _ h => h) (by simp) (by simp) (fun x hx => by simp only [List.mem_cons, List.not_mem_nil, or_false] at hx; rcases hx with rfl <;> first | exact makesX_new rfl (by kernel_rfl) rfl rfl rfl zero_s64) (fun W x _ h => h.alloc h.size _) (fun D hD W2 hHeld hBX hHo => ?_)
  obtain ⟨G4, rfl⟩ := x_one hD
  have xG4 : Hid (W2.heap[G4]? = some (.cells ((bv z64)).toArray 27 (0, 0))) := hHo.row (⟨3, 4, 27, ((bv z64)).toArray, fun g => .pointer (some ⟨g, 0, none⟩)⟩, G4) (by simp)
  have lG4 : V0.heap.size ≤ G4 := hHo.new (⟨3, 4, 27, ((bv z64)).toArray, fun g => .pointer (some ⟨g, 0, none⟩)⟩, G4) (by simp)
  clear hHo hBX hD
  simp only [markDX, putX, List.foldr_cons, List.foldr_nil, pu, List.setIfInBounds_toArray, List.set_cons_zero, List.set_cons_succ]
  refine wpAnyH_ready (rs := [4]) (by kernel_rfl) (by simp) ?_
  refine AllReadyH.cons (i := 4) (o := ⟨none, _, _, _, _, _⟩) rfl (fun K hK => ?_) AllReadyH.nil
  refine step_row (by rfl) 27 (.tmp 4) (.tmp 7) rfl G4 (bv X) rfl rfl 27 _ xG4.out (by rw [bv_len, hX.out]; kernel_rfl) (by rw [List.size_toArray, bv_len, bv_len, hX.out, z64_len]) (bv_one _) ?_
  intro W3 yG4 kG4
  refine hK.out _ _ (But.below hHeld kG4 lG4 hHeld.size) (fun hHeld => ?_)
  clear hK K kG4 xG4
  have xG4 := yG4
  clear yG4
  try simp only [pu]
  refine wpAnyH_done (by kernel_rfl) ?_ _
  obtain ⟨V1, rV1⟩ : ∃ X, X = W3 := ⟨_, rfl⟩
  subst rV1
  have gb0_V1 := row_next2 gb0_V0 hHeld
  have sb0_V1 := row_size gb0_V1
  have gb1_V1 := row_next2 gb1_V0 hHeld
  have sb1_V1 := row_size gb1_V1
  have gb2_V1 := row_next2 gb2_V0 hHeld
  have sb2_V1 := row_size gb2_V1
  have hb_V1 := below_next hb_V0 hb_V0.size hHeld
  have hlaV1 := hlaV0.next hHeld
  have gn4_V1 := xG4
  have sn4_V1 := row_size gn4_V1
  clear xG4
  have wG4 : w.heap.size + 3 ≤ G4 := by omega
  clear hHeld hb_V0 hlaV0 sb0_V0 gb0_V0 sb1_V0 gb1_V0 sb2_V0 gb2_V0 lG4
  obtain ⟨u, du⟩ : ∃ u, u = sub X 0 32 := ⟨_, rfl⟩
  obtain ⟨v, dv⟩ : ∃ v, v = sub X 32 32 := ⟨_, rfl⟩
  have hu := Lib.hid (show u.length = 32 by rw [du]; exact sub_len _ _ _ (by rw [hX.out]; decide))
  have hv := Lib.hid (show v.length = 32 by rw [dv]; exact sub_len _ _ _ (by rw [hX.out]; decide))
  have hfl : [s].flatten = s := by simp
  have HU := vlt (show u = (longSum s).take 32 by rw [du, eX.out, hfl]; rfl)
  have HV := vlt (show v = ownL s by rw [dv, ownL, eX.out, hfl, sub]; exact List.take_of_length_le (by rw [List.length_drop, longSum_len]; decide))
  have ru : ∀ W, But (w.heap.size + 1) V1 W → W.rangeAt G4 0 (bv u) := fun W h => by rw [du]; exact range_sub (row_but gn4_V1 h (by omega)).out
  have rv : ∀ W, But (w.heap.size + 1) V1 W → W.rangeAt G4 32 (bv v) := fun W h => by rw [dv]; exact range_sub (row_but gn4_V1 h (by omega)).out
  clear du dv eX hfl
  have hc0 := cut_h Tryd.underlying27 Tryd.sizeByte G4 0 32 32 rfl (by decide) (by decide)
  have hc3 := cut_l Tryd.underlying27 Tryd.sizeByte G4 0 32 32 rfl (by decide)
  go_upto_region 2 with fail
  refine c_start (S := fun W' => But (w.heap.size + 1) V1 W') 7 (by kernel_rfl) ((But.refl _ _).drew) (fun hHeld => ?_)
  refine c_take (i := 0) (oi := ⟨(some 8), _, _, _, _, _⟩) (v := .slice (some ⟨G4, 0, none⟩) 32 64) rfl (by decide) (by kernel_rfl) (by kernel_rfl) (by kernel_rfl) (fun _ _ _ h => h) (Or.inl ⟨by rfl, ?y2_0⟩) hHeld ?_
  case y2_0 => (intro W0 hSw; go_simp; try simp only [hc0]; try with_reducible rfl)
  try simp only [pu]
  refine c_take (i := 1) (oi := ⟨(some 9), _, _, _, _, _⟩) (v := .pointer (some ⟨G4, 0, none⟩)) rfl (by decide) (by kernel_rfl) (by kernel_rfl) (by kernel_rfl) (fun _ _ _ h => h) (Or.inl ⟨by rfl, ?y2_1⟩) hHeld ?_
  case y2_1 => (intro W0 hSw; go_simp; rw [run_arrayAt (P := Tryd.prog) W0 23 5 32 (some ⟨G4, 0, none⟩) 32 64 Tryd.underlying23 (by decide)]; rfl)
  try simp only [pu]
  refine c_read (i := 2) (oi := ⟨(some 10), _, _, _, _, _⟩) (v := _) rfl (by decide) (by kernel_rfl) (by kernel_rfl) (by kernel_rfl) (by kernel_rfl) (by kernel_rfl) (fun _ _ _ h => h) (yieldsIf_load_mid (by rfl) _ _ rfl G4 0 rfl (bv u) _ (fun W' hW' => ru W' hW') (Tryd.underlying23) rfl (by rw [bv_len, hu.out]; kernel_rfl)) hHeld ?_
  try simp only [pu]
  refine c_take (i := 3) (oi := ⟨(some 11), _, _, _, _, _⟩) (v := .slice (some ⟨G4, 32, none⟩) 32 32) rfl (by decide) (by kernel_rfl) (by kernel_rfl) (by kernel_rfl) (fun _ _ _ h => h) (Or.inl ⟨by rfl, ?y2_3⟩) hHeld ?_
  case y2_3 => (intro W0 hSw; go_simp; try simp only [hc3]; try with_reducible rfl)
  try simp only [pu]
  refine c_take (i := 4) (oi := ⟨(some 12), _, _, _, _, _⟩) (v := .pointer (some ⟨G4, 32, none⟩)) rfl (by decide) (by kernel_rfl) (by kernel_rfl) (by kernel_rfl) (fun _ _ _ h => h) (Or.inl ⟨by rfl, ?y2_4⟩) hHeld ?_
  case y2_4 => (intro W0 hSw; go_simp; rw [run_arrayAt (P := Tryd.prog) W0 23 5 32 (some ⟨G4, 32, none⟩) 32 32 Tryd.underlying23 (by decide)]; rfl)
  try simp only [pu]
  refine c_read (i := 5) (oi := ⟨(some 13), _, _, _, _, _⟩) (v := _) rfl (by decide) (by kernel_rfl) (by kernel_rfl) (by kernel_rfl) (by kernel_rfl) (by kernel_rfl) (fun _ _ _ h => h) (yieldsIf_load_mid (by rfl) _ _ rfl G4 32 rfl (bv v) _ (fun W' hW' => rv W' hW') (Tryd.underlying23) rfl (by rw [bv_len, hv.out]; kernel_rfl)) hHeld ?_
  try simp only [pu]
  refine c_step (i := 6) (o := ⟨none, _, _, _, _, _⟩) (by kernel_rfl) rfl (fun K hK => ?_)
  refine step_row (by rfl) 23 (.tmp 2) (.tmp 10) rfl (w.heap.size + 1) (bv u) rfl rfl 23 _ (show V1.drew.heap[w.heap.size + 1]? = _ from gb1_V1.out) (by rw [bv_len, hu.out]; kernel_rfl) (by rw [List.size_toArray, bv_len, z32_len, bv_len, hu.out]) (bv_one _) ?_
  intro W2 y1 k1
  have hS2 := hHeld.trans k1
  refine hK.out _ _ hS2 (fun hHeld => ?_)
  clear hK K k1 hS2
  try simp only [pu]
  refine c_call (S' := fun _ => True) (o := ⟨none, _, _, _, _, _⟩) (by kernel_rfl) (by kernel_rfl) rfl (fun K hK => ?_)
  have g2 := row_but gb2_V1 hHeld (by omega)
  refine step_row (by rfl) 23 (.tmp 3) (.tmp 13) rfl (w.heap.size + 2) (bv v) rfl rfl 23 _ g2.out (by rw [bv_len, hv.out]; kernel_rfl) (by rw [List.size_toArray, bv_len, z32_len, bv_len, hv.out]) (bv_one _) ?_
  intro V2 gb2_V2 k2
  refine hK.out _ _ trivial (fun _ => ?_)
  have gb1_V2 := row_but y1 k2 (by omega)
  have hb_V2 := But.below (But.below hb_V1 hHeld (by omega) hb_V1.size) k2 (by omega) ((But.below hb_V1 hHeld (by omega) hb_V1.size).size)
  clear hK K k2 y1 g2 hHeld ru rv hc0 hc3 gb0_V1 gb1_V1 gb2_V1 gn4_V1 hlaV1 sb0_V1 sb1_V1 sb2_V1 sn4_V1 hb_V1
  refine wpAnyH_done (by kernel_rfl) ?_ _
  have c0 := at_cell gb1_V2.out 0 (by rw [hu.out]; decide)
  have f0 : V2.frozen? ⟨w.heap.size + 1, 0, none⟩ = false := frozen_of_row _ _ _ _ _ gb1_V2.out
  obtain ⟨u1, d1⟩ : ∃ u1, u1 = u.set 0 (u.getD 0 0 &&& 248) := ⟨_, rfl⟩
  have hu1 := Lib.hid (show u1.length = 32 by rw [d1, List.length_set]; exact hu.out)
  have h1 := (world_set_cell gb1_V2.out 0 (.int .u8 (((u.getD 0 0 &&& 248).toNat : Nat) : Int))).out
  rw [bv_set, ← d1] at h1
  have k1 := (But.refl (w.heap.size + 1) V2).set (i := 0) (.int .u8 (((u.getD 0 0 &&& 248).toNat : Nat) : Int))
  have HU1 := vlt d1
  clear d1
  have e1 := and248 (u.getD 0 0)
  have hb256 := UInt8.toNat_lt (u.getD 0 0)
  obtain ⟨V3, hV3⟩ : ∃ W, W = V2.setCell ⟨w.heap.size + 1, 0, none⟩ (.int .u8 (((u.getD 0 0 &&& 248).toNat : Nat) : Int)) := ⟨_, rfl⟩
  rw [← hV3] at h1 k1
  generalize hy : (u.getD 0 0 &&& 248).toNat = y at *
  generalize hx : (u.getD 0 0).toNat = x at *
  have HV3 := Lib.hid hV3
  clear hx hy hV3
  go_upto_region 4 with fail
  rw [← HV3.out]
  clear HV3 c0 f0 e1 hb256
  have gb1_V3 : Hid (V3.heap[w.heap.size + 1]? = some (.cells (bv u1).toArray 23 (0, 0))) := h1
  have gb2_V3 := row_but gb2_V2 k1 (by omega)
  have hb_V3 := But.below hb_V2 k1 (by omega) hb_V2.size
  clear h1 k1 gb1_V2 gb2_V2 hb_V2
  have c0 := at_cell gb1_V3.out 31 (by rw [hu1.out]; decide)
  have f0 : V3.frozen? ⟨w.heap.size + 1, 31, none⟩ = false := frozen_of_row _ _ _ _ _ gb1_V3.out
  obtain ⟨u2, d1⟩ : ∃ u2, u2 = u1.set 31 (u1.getD 31 0 &&& 127 ||| 64) := ⟨_, rfl⟩
  have hu2 := Lib.hid (show u2.length = 32 by rw [d1, List.length_set]; exact hu1.out)
  have h1 := (world_set_cell gb1_V3.out 31 (.int .u8 (((u1.getD 31 0 &&& 127 ||| 64).toNat : Nat) : Int))).out
  rw [bv_set, ← d1] at h1
  have k1 := (But.refl (w.heap.size + 1) V3).set (i := 31) (.int .u8 (((u1.getD 31 0 &&& 127 ||| 64).toNat : Nat) : Int))
  have HE := vlt (show u2 = secL s ∧ v = ownL s from ⟨by rw [d1, HU1.out, secL, clamp_two, HU.out], HV.out⟩)
  clear d1 HU1 HU HV
  have e1 := and127 (u1.getD 31 0)
  have e2 := or64 (u1.getD 31 0 &&& 127)
  have hb256 := UInt8.toNat_lt (u1.getD 31 0)
  have hb257 := UInt8.toNat_lt (u1.getD 31 0 &&& 127)
  obtain ⟨V4, hV4⟩ : ∃ W, W = V3.setCell ⟨w.heap.size + 1, 31, none⟩ (.int .u8 (((u1.getD 31 0 &&& 127 ||| 64).toNat : Nat) : Int)) := ⟨_, rfl⟩
  rw [← hV4] at h1 k1
  generalize hz : (u1.getD 31 0 &&& 127 ||| 64).toNat = z at *
  generalize hy : (u1.getD 31 0 &&& 127).toNat = y at *
  generalize hx : (u1.getD 31 0).toNat = x at *
  have HV4 := Lib.hid hV4
  clear hx hy hz hV4
  go_upto_region 5 with fail
  rw [← HV4.out]
  clear HV4 c0 f0 e1 e2 hb256 hb257
  have gb1_V4 : Hid (V4.heap[w.heap.size + 1]? = some (.cells (bv u2).toArray 23 (0, 0))) := h1
  have gb2_V4 := row_but gb2_V3 k1 (by omega)
  have hb_V4 := But.below hb_V3 k1 (by omega) hb_V3.size
  have sb1_V4 := row_size gb1_V4
  have sb2_V4 := row_size gb2_V4
  clear h1 k1 gb1_V3 gb2_V3 hb_V3
  refine wp_region_held_drew (S := fun W' => Below V4.heap.size V4 W') (by kernel_rfl) ((Below.refl _ _).drew) (fun hHeld => ?_)
  refine wpAnyH_take (i := 0) (oi := ⟨(some 23), _, _, _, _, _⟩) (v := _) rfl (by kernel_rfl) (by kernel_rfl) (by kernel_rfl) (fun _ _ _ h => h) (yieldsIf_load_mid (by rfl) _ _ rfl (w.heap.size + 1) 0 rfl (bv u2) _ (fun W' hW' => range_row ((hW'.block _ sb1_V4).trans gb1_V4.out)) (Tryd.underlying23) rfl (by rw [bv_len, hu2.out]; kernel_rfl)) hHeld ?_
  try simp only [pu]
  refine wpAnyH_take (i := 1) (oi := ⟨(some 24), _, _, _, _, _⟩) (v := _) rfl (by kernel_rfl) (by kernel_rfl) (by kernel_rfl) (fun _ _ _ h => h) (yieldsIf_load_mid (by rfl) _ _ rfl (w.heap.size + 2) 0 rfl (bv v) _ (fun W' hW' => range_row ((hW'.block _ sb2_V4).trans gb2_V4.out)) (Tryd.underlying23) rfl (by rw [bv_len, hv.out]; kernel_rfl)) hHeld ?_
  try simp only [pu]
  refine wpAnyH_ready (rs := [2]) (by kernel_rfl) (by simp) ?_
  refine AllReadyH.cons (i := 2) (o := ⟨none, _, _, _, _, _⟩) rfl (fun K hK => ?_) AllReadyH.nil
  refine step_same (by rfl) 23 (.tmp 2) (.tmp 23) rfl (w.heap.size + 1) (bv u2) rfl rfl 23 (row_next2 gb1_V4 hHeld).out (by rw [bv_len, hu2.out]; kernel_rfl) (bv_one _) ?_
  intro W4 kR
  refine hK.out _ _ (below_next hHeld hHeld.size kR) (fun hHeld => ?_)
  clear hK K kR
  try simp only [pu]
  refine wpAnyH_ready (rs := [3]) (by kernel_rfl) (by simp) ?_
  refine AllReadyH.cons (i := 3) (o := ⟨none, _, _, _, _, _⟩) rfl (fun K hK => ?_) AllReadyH.nil
  refine step_same (by rfl) 23 (.tmp 3) (.tmp 24) rfl (w.heap.size + 2) (bv v) rfl rfl 23 (row_next2 gb2_V4 hHeld).out (by rw [bv_len, hv.out]; kernel_rfl) (bv_one _) ?_
  intro W5 kR
  refine hK.out _ _ (below_next hHeld hHeld.size kR) (fun hHeld => ?_)
  clear hK K kR
  try simp only [pu]
  refine wpAnyH_done (by kernel_rfl) ?_ _
  obtain ⟨V5, rV5⟩ : ∃ X, X = W5 := ⟨_, rfl⟩
  subst rV5
  have gb1_V5 := row_next2 gb1_V4 hHeld
  have sb1_V5 := row_size gb1_V5
  have gb2_V5 := row_next2 gb2_V4 hHeld
  have sb2_V5 := row_size gb2_V5
  have hb_V5 := below_next hb_V4 hb_V4.size hHeld
  clear hHeld hb_V4 sb1_V4 sb2_V4
  clear gb1_V4 gb2_V4
  go_wp2_with fail
  refine bodyPost_ret (v := .tuple #[.agg (bv u2).toArray, .agg (bv v).toArray]) (results_rows Tryd.results13 _ _ (w.heap.size + 1) 23 _ (0, 0) _ rfl gb1_V5.out Tryd.underlying23 rfl (by rw [bv_size u2 hu2.out]; kernel_rfl) (w.heap.size + 2) 23 _ (0, 0) _ rfl gb2_V5.out Tryd.underlying23 rfl (by rw [bv_size v hv.out]; kernel_rfl)) rfl ⟨u2, v, rfl, HE, hu2, hv, hb_V5⟩
end Go.Proofs.YtcefdcjpddohaaaDoor
