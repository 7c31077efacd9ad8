/-
  Regions that draw their order and make new variables beside a chain of calls, each at whatever moment: one walk for all the orders. No statement is proved here. Conditions: as each law says.
-/
import Derived.Test.YtknmccpoheekmaaMem
import Derived.StillTail
import Derived.Deep.RegionHeld3
namespace Go.Proofs.Ytknmccpoheekmaa
open Go.RowKit

/-- What a slot holds behind a put: one word for 'simp only'. -/
theorem pu : (∀ (a : Act) (d : Nat) (v : Value), a.put (some d) v = { a with tmps := a.tmps.setIfInBounds d v }) ∧ (∀ (a : Act) (v : Value), a.put none v = a) ∧
    (∀ (l : List Value) (i : Nat) (v : Value), l.toArray.setIfInBounds i v = (l.set i v).toArray) ∧ (∀ (x v : Value) (l : List Value), (x :: l).set 0 v = v :: l) ∧ (∀ (x v : Value) (l : List Value) (i : Nat), (x :: l).set (i + 1) v = x :: l.set i v) :=
  ⟨fun _ _ _ => rfl, fun _ _ => rfl, fun _ _ _ => by simp, fun _ _ _ => rfl, fun _ _ _ _ => rfl⟩
/-- A new variable of a region: its operation, its slot, its type, what it first holds. -/
structure NewV where
  i : Nat
  d : Nat
  ty : TypeId
  z : Array Value
/-- The new variables that are made: in the list of what came up, in the slots, in the world. -/
def markD (l : Array Bool) (D : List (NewV × Nat)) : Array Bool := D.foldr (fun x l => l.setIfInBounds x.1.i true) l
def markA (l : Array Bool) (A : List NewV) : Array Bool := A.foldr (fun x l => l.setIfInBounds x.i true) l
def putD (a : Act) (D : List (NewV × Nat)) : Act := D.foldr (fun x a => a.put (some x.1.d) (.pointer (some ⟨x.2, 0, none⟩))) a
structure HoldD (B : Nat) (w : World) (D : List (NewV × Nat)) : Prop where
  row : ∀ x ∈ D, w.heap[x.2]? = some (.cells x.1.z x.1.ty (0, 0))
  new : ∀ x ∈ D, B ≤ x.2
  nodup : (D.map (·.2)).Nodup
theorem HoldD.next {B : Nat} {w w' : World} {D : List (NewV × Nat)} (h : HoldD B w D) (hb : Below w.heap.size w w') : HoldD B w' D :=
  ⟨fun x hx => (hb.block _ (Array.getElem?_eq_some_iff.1 (h.row x hx)).1).trans (h.row x hx), h.new, h.nodup⟩
theorem HoldD.more {B : Nat} {w : World} {D : List (NewV × Nat)} (h : HoldD B w D) (hB : B ≤ w.heap.size) (x : NewV) : HoldD B (w.alloc (.cells x.z x.ty)) ((x, w.heap.size) :: D) := by
  refine ⟨fun y hy => ?_, fun y hy => ?_, ?_⟩
  · rcases List.mem_cons.1 hy with rfl | hy
    · exact heap_alloc_new _ _
    · exact (Below.heap_alloc _ _ _ (Array.getElem?_eq_some_iff.1 (h.row y hy)).1).trans (h.row y hy)
  · rcases List.mem_cons.1 hy with rfl | hy
    · exact hB
    · exact h.new y hy
  · rw [List.map_cons, List.nodup_cons]
    refine ⟨fun hm => ?_, h.nodup⟩
    obtain ⟨y, hy, he⟩ := List.mem_map.1 hm
    have h1 := (Array.getElem?_eq_some_iff.1 (h.row y hy)).1
    have h2 : y.2 = w.heap.size := he
    omega
theorem set_comm (l : Array Bool) (i j : Nat) : (l.setIfInBounds i true).setIfInBounds j true = (l.setIfInBounds j true).setIfInBounds i true := by
  by_cases h : i = j
  · rw [h]
  · rw [Array.setIfInBounds_comm _ _ h]
theorem markD_set (l : Array Bool) (i : Nat) : ∀ D : List (NewV × Nat), markD (l.setIfInBounds i true) D = (markD l D).setIfInBounds i true
  | [] => rfl
  | x :: D => by
    show (markD (l.setIfInBounds i true) D).setIfInBounds x.1.i true = ((markD l D).setIfInBounds x.1.i true).setIfInBounds i true
    rw [markD_set l i D, set_comm]
theorem markD_A (l : Array Bool) : ∀ D : List (NewV × Nat), markD l D = markA l (D.map (·.1))
  | [] => rfl
  | x :: D => by
    show (markD l D).setIfInBounds x.1.i true = (markA l (D.map (·.1))).setIfInBounds x.1.i true
    rw [markD_A l D]
theorem markA_un (l : Array Bool) (j : Nat) : ∀ A : List NewV, (∀ x ∈ A, x.i ≠ j) → ∀ b, (markA l A).getD j b = l.getD j b
  | [], _, _ => rfl
  | x :: A, h, b => by
    show ((markA l A).setIfInBounds x.i true).getD j b = l.getD j b
    rw [getD_set_ne b (h x (List.mem_cons_self ..)), markA_un l j A (fun y hy => h y (List.mem_cons_of_mem _ hy)) b]
theorem getD_two {l : Array Bool} {j : Nat} (h : l.getD j true = false) : l.getD j false = false := by
  rcases Nat.lt_or_ge j l.size with h' | h'
  · simp [h'] at h ⊢; exact h
  · simp [Array.getElem?_eq_none h'] at h
theorem set_size (l : Array Bool) (i : Nat) : (l.setIfInBounds i true).size = l.size := by simp
theorem markA_size (l : Array Bool) : ∀ A : List NewV, (markA l A).size = l.size
  | [] => rfl
  | x :: A => by
    show ((markA l A).setIfInBounds x.i true).size = l.size
    rw [set_size, markA_size l A]
theorem markA_in (l : Array Bool) {x : NewV} : ∀ A : List NewV, x ∈ A → (markA l A).getD x.i true = true
  | y :: A, h => by
    show ((markA l A).setIfInBounds y.i true).getD x.i true = true
    by_cases hi : y.i = x.i
    · rw [hi]
      rcases Nat.lt_or_ge x.i (markA l A).size with h' | h'
      · simp [h']
      · simp [h']
    · rw [getD_set_ne true hi]
      rcases List.mem_cons.1 h with rfl | h
      · exact absurd rfl hi
      · exact markA_in l A h
theorem markA_more (l : Array Bool) {j : Nat} {A C : List NewV} (hs : ∀ x ∈ A, x ∈ C) (h : (markA l A).getD j false = true) : (markA l C).getD j false = true := by
  have hlt : j < l.size := by
    rw [← markA_size l A]
    rcases Nat.lt_or_ge j (markA l A).size with h' | h'
    · exact h'
    · simp [Array.getElem?_eq_none h'] at h
  by_cases hm : ∃ x ∈ C, x.i = j
  · obtain ⟨x, hx, rfl⟩ := hm
    have h2 := markA_in l C hx
    have h3 : x.i < (markA l C).size := by rw [markA_size]; exact hlt
    simp [h3] at h2 ⊢
    exact h2
  · have hn : ∀ x ∈ C, x.i ≠ j := fun x hx e => hm ⟨x, hx, e⟩
    rw [markA_un l j C hn false]
    rwa [markA_un l j A (fun x hx => hn x (hs x hx)) false] at h

theorem putD_cons (a : Act) (x : NewV × Nat) (D : List (NewV × Nat)) : putD a (x :: D) = (putD a D).put (some x.1.d) (.pointer (some ⟨x.2, 0, none⟩)) := rfl
section
variable {P : Program} {ops : Array Oper} {Q : Exit → Act → World → Prop} {md : Region.Mode} {S : World → Prop}
theorem ready_markA {j : Nat} {l : Array Bool} (hj : j ∈ Region.ready md ops l) : ∀ A : List NewV, (∀ x ∈ A, x.i ≠ j) → j ∈ Region.ready md ops (markA l A)
  | [], _ => hj
  | x :: A, h => ready_mono (ready_markA hj A fun y hy => h y (List.mem_cons_of_mem _ hy)) (Ne.symm (h x (List.mem_cons_self ..)))
/-- What may come up is a new variable that is not made yet, or may come up when all are made. -/
theorem ready_sub {j : Nat} {l : Array Bool} {al pend : List NewV} {A : List NewV} (hp : (A ++ pend).Perm al) (hj : j ∈ Region.ready md ops (markA l A)) :
    (∃ x ∈ pend, x.i = j) ∨ j ∈ Region.ready md ops (markA l al) := by
  by_cases hm : ∃ x ∈ pend, x.i = j
  · exact .inl hm
  · right
    obtain ⟨h0, o, ho, hall⟩ := mem_ready.1 hj
    have hA : ∀ x ∈ A, x.i ≠ j := fun x hx e => by
      have h1 := markA_in l A hx
      rw [e, h0] at h1; cases h1
    have hal : ∀ x ∈ al, x.i ≠ j := fun x hx e => by
      rcases List.mem_append.1 (hp.symm.subset hx) with h | h
      · exact hA x h e
      · exact hm ⟨x, h, e⟩
    refine mem_ready.2 ⟨?_, o, ho, fun e he hb => markA_more l (fun x hx => hp.subset (List.mem_append_left _ hx)) (hall e he hb)⟩
    rw [markA_un l j al hal true, ← markA_un l j A hA true]
    exact h0
/-- Whatever new variables are made already, and wherever they lie. -/
def wpMix (P : Program) (md : Region.Mode) (ops : Array Oper) (Q : Exit → Act → World → Prop) (S : World → Prop) (B : Nat) (al : List NewV) (fuel : Nat) (listed : Array Bool) (a : Act) : Prop :=
  ∀ D pend, (D.map (·.1) ++ pend).Perm al → ∀ w, S w → B ≤ w.heap.size → HoldD B w D → wpAnyH P md ops Q S (fuel + pend.length) (markD listed D) (putD a D) w
theorem mix_start {B : Nat} {al : List NewV} {fuel n : Nat} {listed : Array Bool} {a : Act} {w : World} (hn : n = fuel + al.length) (hS : S w) (hB : B ≤ w.heap.size)
    (h : wpMix P md ops Q S B al fuel listed a) : wpAnyH P md ops Q S n listed a w := by
  subst hn
  exact h [] al (List.Perm.refl _) w hS hB ⟨fun _ h => (by cases h), fun _ h => (by cases h), List.nodup_nil⟩
/-- A new variable comes up. -/
def MakesV (P : Program) (ops : Array Oper) (x : NewV) : Prop :=
  ∀ (Q : Exit → Act → World → Prop) (K : Act → World → Prop) (a : Act) (w : World), K (a.put (some x.d) (.pointer (some ⟨w.heap.size, 0, none⟩))) (w.alloc (.cells x.z x.ty)) → wpOp P ops Q x.i K a w
theorem mix_new {B : Nat} {al pend : List NewV} {fuel n : Nat} {listed : Array Bool} {a : Act} {D : List (NewV × Nat)} {w : World} {x : NewV} (hm : MakesV P ops x) (hx : x ∈ pend) (hl : pend.length = n + 1)
    (hp : (D.map (·.1) ++ pend).Perm al) (hSa : S (w.alloc (.cells x.z x.ty))) (hB : B ≤ w.heap.size) (hh : HoldD B w D)
    (ih : ∀ (D : List (NewV × Nat)) (pend : List NewV) (w : World), pend.length = n → (D.map (·.1) ++ pend).Perm al → S w → B ≤ w.heap.size → HoldD B w D → wpAnyH P md ops Q S (fuel + n) (markD listed D) (putD a D) w) :
    wpOp P ops Q x.i (fun a' w' => S w' ∧ wpAnyH P md ops Q S (fuel + n) ((markD listed D).setIfInBounds x.i true) a' w') (putD a D) w := by
  obtain ⟨s, t, rfl⟩ := List.append_of_mem hx
  refine hm Q _ _ _ ⟨hSa, ?_⟩
  refine ih ((x, w.heap.size) :: D) (s ++ t) _ ?_ ?_ hSa ?_ (hh.more hB x)
  · simp only [List.length_append, List.length_cons] at hl ⊢; omega
  · refine List.Perm.trans ?_ hp
    show (x :: (D.map (·.1) ++ (s ++ t))).Perm _
    have h1 : (D.map (·.1) ++ (s ++ x :: t)).Perm (x :: (D.map (·.1) ++ (s ++ t))) := by
      rw [← List.append_assoc, ← List.append_assoc]
      exact List.perm_middle
    exact h1.symm
  · simp; omega
theorem wpH_next {fuel : Nat} {listed : Array Bool} {a : Act} {w : World} (hne : Region.ready md ops listed ≠ [])
    (h : ∀ i ∈ Region.ready md ops listed, wpOp P ops Q i (fun a' w' => S w' ∧ wpAnyH P md ops Q S fuel (listed.setIfInBounds i true) a' w') a w) : wpAnyH P md ops Q S (fuel + 1) listed a w :=
  ⟨fun h0 => absurd h0 hne, h⟩
theorem wp_put_one {o : Oper} {a : Act} {w : World} {d : Nat} {v : Value} {K K' : Act → World → Prop} (hl : d ∉ o.looksAt ops) (hsel : ∀ cs b, o.op ≠ .select cs b) (hd : o.dst ≠ some d)
    (hQ : ∀ x a w, Q (.panic x) a w → Q (.panic x) (a.put (some d) v) w) (hK : ∀ a1 w1, K a1 w1 → K' (a1.put (some d) v) w1)
    (h : if Region.wanted o (yielded ops a.tmps) = true then Oper.wp P o a w K Q else K (a.put o.dst undef) w) :
    if Region.wanted o (yielded ops (a.put (some d) v).tmps) = true then Oper.wp P o (a.put (some d) v) w K' Q else K' ((a.put (some d) v).put o.dst undef) w := by
  have h1 : ∀ e, some d = some e → e ∉ o.looksAt ops := fun e he => by injection he with he; exact he ▸ hl
  have h2 : ∀ e, (some d : Option Tmp) = some e → o.dst ≠ some e := fun e he => by injection he with he; exact he ▸ hd
  rw [wanted_put o a (some d) v h1]
  split
  · rename_i hw
    rw [if_pos hw] at h
    unfold Oper.wp at *
    rw [execOp_put o hsel a (some d) v h1]
    generalize (execOp a.eval o).run P w = r at *
    cases r with
    | ok n w' =>
      cases n <;> simp only [Oper.upon] at h ⊢
      case value u => rw [Act.put_comm a v u h2]; exact hK _ _ h
      case skip => rw [Act.put_comm a v undef h2]; exact hK _ _ h
      case defer e =>
        rw [Act.put_defers, Act.put_comm _ v undef h2]
        exact hK _ _ h
      case enter f args =>
        refine Calls.mono h fun e w'' he => ?_
        cases e with
        | returned u => show K' _ _; rw [Act.put_comm a v u h2]; exact hK _ _ he
        | panicked c => exact hQ _ _ _ he
        | outgrown => exact he
      case row row args => exact Rows.mono h fun u w'' he => by rw [Act.put_comm a v u h2]; exact hK _ _ he
    | halt x w' =>
      cases x <;> simp only [Oper.upon] at h ⊢
      case panic u => exact hQ _ _ _ h
  · rename_i hw
    rw [if_neg hw] at h
    rw [Act.put_comm a v undef h2]
    exact hK _ _ h
/-- An operation and the slots of the new variables do not touch. -/
def apartV (ops : Array Oper) (al : List NewV) (o : Oper) : Bool := al.all fun x => !(o.looksAt ops).contains x.d && o.dst != some x.d
theorem wp_put_all {o : Oper} {w : World} (hsel : ∀ cs b, o.op ≠ .select cs b) (hQ : ∀ d v x a w, Q (.panic x) a w → Q (.panic x) (a.put (some d) v) w) :
    ∀ (D : List (NewV × Nat)) (a : Act) (K K' : Act → World → Prop), (∀ x ∈ D, x.1.d ∉ o.looksAt ops ∧ o.dst ≠ some x.1.d) → (∀ a1 w1, K a1 w1 → K' (putD a1 D) w1) →
      (if Region.wanted o (yielded ops a.tmps) = true then Oper.wp P o a w K Q else K (a.put o.dst undef) w) →
      if Region.wanted o (yielded ops (putD a D).tmps) = true then Oper.wp P o (putD a D) w K' Q else K' ((putD a D).put o.dst undef) w
  | [], a, K, K', _, hK, h => by
    have e : K = K ∧ ∀ a1 w1, K a1 w1 → K' a1 w1 := ⟨rfl, hK⟩
    show if Region.wanted o (yielded ops a.tmps) = true then Oper.wp P o a w K' Q else K' (a.put o.dst undef) w
    split
    · rename_i hw; rw [if_pos hw] at h; exact Oper.wp_mono e.2 h
    · rename_i hw; rw [if_neg hw] at h; exact e.2 _ _ h
  | x :: D, a, K, K', hap, hK, h => by
    have h1 := hap x (List.mem_cons_self ..)
    exact wp_put_one (K := fun a1 w1 => ∃ a2, K a2 w1 ∧ a1 = putD a2 D) h1.1 hsel h1.2 (hQ x.1.d _) (fun a1 w1 ⟨a2, hk, e⟩ => by subst e; exact hK a2 w1 hk)
      (wp_put_all hsel hQ D a K _ (fun y hy => hap y (List.mem_cons_of_mem _ hy)) (fun a1 w1 hk => ⟨a1, hk, rfl⟩) h)
/-- The next call of the chain. -/
theorem mix_call {B : Nat} {al : List NewV} {fuel : Nat} {listed : Array Bool} {a : Act} {i : Nat} {o : Oper} (ho : ops[i]? = some o) (hs : Region.noSelect ops = true) (hap : apartV ops al o = true)
    (hr : Region.ready md ops (markA listed al) = [i]) (hin : (Region.ready md ops listed).contains i = true) (hm : ∀ x ∈ al, MakesV P ops x) (hSa : ∀ w, ∀ x ∈ al, S w → S (w.alloc (.cells x.z x.ty)))
    (hQ : ∀ d v x a w, Q (.panic x) a w → Q (.panic x) (a.put (some d) v) w)
    (h : ∀ w, S w → B ≤ w.heap.size → ∀ K : Act → World → Prop, Shut (∀ v w', S w' → Below w.heap.size w w' → wpMix P md ops Q S B al fuel (listed.setIfInBounds i true) (a.put o.dst v) → K (a.put o.dst v) w') →
      if Region.wanted o (yielded ops a.tmps) = true then Oper.wp P o a w K Q else K (a.put o.dst undef) w) : wpMix P md ops Q S B al (fuel + 1) listed a := by
  have hin' : i ∈ Region.ready md ops listed := by simpa using hin
  have hni : ∀ x ∈ al, x.i ≠ i := fun x hx e => by
    have h1 : i ∈ Region.ready md ops (markA listed al) := by rw [hr]; exact List.mem_singleton.2 rfl
    have h2 := (mem_ready.1 h1).1
    rw [← e, markA_in listed al hx] at h2
    cases h2
  suffices hall : ∀ (n : Nat) (D : List (NewV × Nat)) (pend : List NewV) (w : World), pend.length = n → (D.map (·.1) ++ pend).Perm al → S w → B ≤ w.heap.size → HoldD B w D → wpAnyH P md ops Q S (fuel + 1 + n) (markD listed D) (putD a D) w by
    intro D pend hp w hS hB hh
    exact hall pend.length D pend w rfl hp hS hB hh
  intro n
  induction n with
  | zero =>
    intro D pend w hl hp hS hB hh
    have hap' : ∀ x ∈ D, x.1.d ∉ o.looksAt ops ∧ o.dst ≠ some x.1.d := fun x hx => by
      have h1 := List.all_eq_true.1 hap x.1 (hp.subset (List.mem_append_left _ (List.mem_map.2 ⟨x, hx, rfl⟩)))
      simpa using h1
    have hDal : ∀ x ∈ D.map (·.1), x ∈ al := fun x hx => hp.subset (List.mem_append_left _ hx)
    refine wpH_next (fun h0 => ?_) fun j hj => ?_
    · have := ready_markA hin' (D.map (·.1)) (fun x hx => hni x (hDal x hx))
      rw [← markD_A, h0] at this; cases this
    · rw [markD_A] at hj
      rcases ready_sub hp hj with ⟨x, hx, _⟩ | hj2
      · rw [List.eq_nil_of_length_eq_zero hl] at hx; cases hx
      · rw [hr] at hj2
        obtain rfl := List.mem_singleton.1 hj2
        refine wpOp_step ho fun K' hK => ?_
        refine wp_put_all (K := fun a' w' => ∃ v, a' = a.put o.dst v ∧ S w' ∧ Below w.heap.size w w' ∧ wpMix P md ops Q S B al fuel (listed.setIfInBounds j true) (a.put o.dst v)) (Region.noSelect_spec hs j o · · ho) hQ D a _ hap' ?_ (h w hS hB _ fun v w' h1 h2 h3 => ⟨v, rfl, h1, h2, h3⟩)
        rintro a1 w1 ⟨v, rfl, hS1, hb1, hM⟩
        refine hK _ _ ⟨hS1, ?_⟩
        have := hM D pend hp w1 hS1 (Nat.le_trans hB hb1.size) (hh.next hb1)
        rwa [hl, markD_set] at this
  | succ n ih =>
    intro D pend w hl hp hS hB hh
    have hap' : ∀ x ∈ D, x.1.d ∉ o.looksAt ops ∧ o.dst ≠ some x.1.d := fun x hx => by
      have h1 := List.all_eq_true.1 hap x.1 (hp.subset (List.mem_append_left _ (List.mem_map.2 ⟨x, hx, rfl⟩)))
      simpa using h1
    have hDal : ∀ x ∈ D.map (·.1), x ∈ al := fun x hx => hp.subset (List.mem_append_left _ hx)
    refine wpH_next (fun h0 => ?_) fun j hj => ?_
    · have := ready_markA hin' (D.map (·.1)) (fun x hx => hni x (hDal x hx))
      rw [← markD_A, h0] at this; cases this
    · rw [markD_A] at hj
      rcases ready_sub hp hj with ⟨x, hx, rfl⟩ | hj2
      · have hxa : x ∈ al := hp.subset (List.mem_append_right _ hx)
        exact mix_new (fuel := fuel + 1) (hm x hxa) hx hl hp (hSa w x hxa hS) hB hh ih
      · rw [hr] at hj2
        obtain rfl := List.mem_singleton.1 hj2
        refine wpOp_step ho fun K' hK => ?_
        refine wp_put_all (K := fun a' w' => ∃ v, a' = a.put o.dst v ∧ S w' ∧ Below w.heap.size w w' ∧ wpMix P md ops Q S B al fuel (listed.setIfInBounds j true) (a.put o.dst v)) (Region.noSelect_spec hs j o · · ho) hQ D a _ hap' ?_ (h w hS hB _ fun v w' h1 h2 h3 => ⟨v, rfl, h1, h2, h3⟩)
        rintro a1 w1 ⟨v, rfl, hS1, hb1, hM⟩
        refine hK _ _ ⟨hS1, ?_⟩
        have := hM D pend hp w1 hS1 (Nat.le_trans hB hb1.size) (hh.next hb1)
        rw [hl, markD_set] at this
        have e : (fuel + 1).add n = fuel + (n + 1) := by show fuel + 1 + n = _; omega
        rw [e]
        exact this
/-- A list whose names are a turn of another: turned alike. -/
theorem turn_back {α β : Type} {f : α → β} {l1 l2 : List β} (hp : l1.Perm l2) : ∀ D : List α, D.map f = l1 → ∃ D' : List α, D'.Perm D ∧ D'.map f = l2 := by
  induction hp with
  | nil => exact fun D hD => ⟨D, List.Perm.refl _, hD⟩
  | cons x _ ih =>
    intro D hD
    match D, hD with
    | d :: D1, hD =>
      simp only [List.map_cons, List.cons.injEq] at hD
      obtain ⟨D2, h1, h2⟩ := ih D1 hD.2
      exact ⟨d :: D2, h1.cons d, by rw [List.map_cons, hD.1, h2]⟩
  | swap x y l =>
    intro D hD
    match D, hD with
    | d :: e :: D1, hD =>
      simp only [List.map_cons, List.cons.injEq] at hD
      exact ⟨e :: d :: D1, List.Perm.swap _ _ _, by rw [List.map_cons, List.map_cons, hD.1, hD.2.1, hD.2.2]⟩
  | trans _ _ ih1 ih2 =>
    intro D hD
    obtain ⟨D1, h1, h2⟩ := ih1 D hD
    obtain ⟨D2, h3, h4⟩ := ih2 D1 h2
    exact ⟨D2, h3.trans h1, h4⟩
theorem putD_perm {D D' : List (NewV × Nat)} (hp : D.Perm D') : ∀ a : Act, (D.map (·.1.d)).Nodup → putD a D = putD a D' := by
  induction hp with
  | nil => exact fun _ _ => rfl
  | cons x _ ih =>
    intro a hn
    rw [putD_cons, putD_cons, ih a (List.nodup_cons.1 hn).2]
  | swap x y l =>
    intro a hn
    rw [putD_cons, putD_cons, putD_cons, putD_cons]
    refine Act.put_comm _ _ _ fun d hd => ?_
    simp only [List.map_cons, List.nodup_cons, List.mem_cons] at hn
    injection hd with hd
    intro he
    injection he with he
    exact hn.1 (.inl (by omega))
  | trans h1 _ ih1 ih2 =>
    intro a hn
    rw [ih1 a hn, ih2 a ((h1.map _).nodup_iff.1 hn)]
theorem markD_perm {D D' : List (NewV × Nat)} (hp : D.Perm D') : ∀ l : Array Bool, markD l D = markD l D' := by
  induction hp with
  | nil => exact fun _ => rfl
  | cons x _ ih =>
    intro l
    show (markD l _).setIfInBounds _ _ = (markD l _).setIfInBounds _ _
    rw [ih l]
  | swap x y t => intro l; exact set_comm _ _ _
  | trans _ _ ih1 ih2 => intro l; rw [ih1 l, ih2 l]
/-- All are made: the stores wait for each of them. -/
theorem mix_end {B : Nat} {al : List NewV} {fuel : Nat} {listed : Array Bool} {a : Act} (hr : ((Region.ready md ops (markA listed al)).all fun j => al.all fun x => Region.waitsFor md ops j x.i) = true)
    (hin : (al.all fun x => (Region.ready md ops listed).contains x.i) = true) (hnd : (al.map (·.i)).Nodup) (hnd2 : (al.map (·.d)).Nodup) (hm : ∀ x ∈ al, MakesV P ops x) (hSa : ∀ w, ∀ x ∈ al, S w → S (w.alloc (.cells x.z x.ty)))
    (h : ∀ D : List (NewV × Nat), D.map (·.1) = al → ∀ w, S w → B ≤ w.heap.size → HoldD B w D → wpAnyH P md ops Q S fuel (markD listed D) (putD a D) w) : wpMix P md ops Q S B al fuel listed a := by
  have hin' : ∀ x ∈ al, x.i ∈ Region.ready md ops listed := fun x hx => by
    have := List.all_eq_true.1 hin x hx
    simpa using this
  suffices hall : ∀ (n : Nat) (D : List (NewV × Nat)) (pend : List NewV) (w : World), pend.length = n → (D.map (·.1) ++ pend).Perm al → S w → B ≤ w.heap.size → HoldD B w D → wpAnyH P md ops Q S (fuel + n) (markD listed D) (putD a D) w by
    intro D pend hp w hS hB hh
    exact hall pend.length D pend w rfl hp hS hB hh
  intro n
  induction n with
  | zero =>
    intro D pend w hl hp hS hB hh
    rw [List.eq_nil_of_length_eq_zero hl, List.append_nil] at hp
    obtain ⟨D', h1, h2⟩ := turn_back hp D rfl
    have h3 : (D'.map (·.1.d)).Nodup := by
      have : D'.map (·.1.d) = (D'.map (·.1)).map (·.d) := by rw [List.map_map]; rfl
      rw [this, h2]; exact hnd2
    rw [← markD_perm h1, ← putD_perm h1 a h3]
    refine h D' h2 w hS hB ⟨fun x hx => hh.row x (h1.subset hx), fun x hx => hh.new x (h1.subset hx), (h1.map _).nodup_iff.2 hh.nodup⟩
  | succ n ih =>
    intro D pend w hl hp hS hB hh
    have hnd3 : ((D.map (·.1) ++ pend).map (·.i)).Nodup := (hp.map _).nodup_iff.2 hnd
    have hapart : ∀ x ∈ pend, ∀ y ∈ D.map (·.1), y.i ≠ x.i := fun x hx y hy e => by
      rw [List.map_append, List.nodup_append] at hnd3
      exact hnd3.2.2 y.i (List.mem_map.2 ⟨y, hy, rfl⟩) x.i (List.mem_map.2 ⟨x, hx, rfl⟩) e
    obtain ⟨x0, hx0⟩ : ∃ x, x ∈ pend := by
      cases pend with
      | nil => simp at hl
      | cons x t => exact ⟨x, List.mem_cons_self ..⟩
    have hready : ∀ x ∈ pend, x.i ∈ Region.ready md ops (markD listed D) := fun x hx => by
      rw [markD_A]
      exact ready_markA (hin' x (hp.subset (List.mem_append_right _ hx))) _ (hapart x hx)
    refine wpH_next (fun h0 => ?_) fun j hj => ?_
    · have := hready x0 hx0
      rw [h0] at this; cases this
    · have hj' := hj
      rw [markD_A] at hj
      rcases ready_sub hp hj with ⟨x, hx, rfl⟩ | hj2
      · have hxa : x ∈ al := hp.subset (List.mem_append_right _ hx)
        exact mix_new (hm x hxa) hx hl hp (hSa w x hxa hS) hB hh ih
      · exfalso
        have h1 := List.all_eq_true.1 hr j hj2
        have h2 := List.all_eq_true.1 h1 x0 (hp.subset (List.mem_append_right _ hx0))
        obtain ⟨oj, hoj, e, he, hb, hon⟩ := Region.waitsFor_spec h2
        obtain ⟨_, o, ho, hall⟩ := mem_ready.1 hj'
        obtain rfl := Option.some.inj (hoj.symm.trans ho)
        have h3 := hall e he hb
        rw [hon, getD_two (mem_ready.1 (hready x0 hx0)).1] at h3
        cases h3
end
theorem markA_back (l : Array Bool) {j : Nat} : ∀ A : List NewV, (markA l A).getD j true = false → l.getD j true = false
  | [], h => h
  | x :: A, h => by
    have h1 : ((markA l A).setIfInBounds x.i true).getD j true = false := h
    by_cases hi : x.i = j
    · subst hi
      rcases Nat.lt_or_ge x.i (markA l A).size with h' | h'
      · simp [h'] at h1
      · simp [h'] at h1
    · rw [getD_set_ne true hi] at h1
      exact markA_back l A h1
section
variable {P : Program} {ops : Array Oper} {Q : Exit → Act → World → Prop} {md : Region.Mode} {S : World → Prop}
theorem yields_putD {o : Oper} {v : Value} (hsel : ∀ cs b, o.op ≠ .select cs b) : ∀ (D : List (NewV × Nat)) (a : Act), (∀ x ∈ D, x.1.d ∉ o.looksAt ops ∧ o.dst ≠ some x.1.d) → YieldsIf P ops S o v a → YieldsIf P ops S o v (putD a D)
  | [], _, _, h => h
  | x :: D, a, hap, h => by
    have h1 := (hap x (List.mem_cons_self ..)).1
    have h2 : ∀ e, some x.1.d = some e → e ∉ o.looksAt ops := fun e he => by injection he with he; exact he ▸ h1
    exact (yields_putD hsel D a (fun y hy => hap y (List.mem_cons_of_mem _ hy)) h).of_same (execOp_put o hsel _ _ _ h2) (wanted_put o _ _ _ h2)
theorem putD_put {o : Oper} {v : Value} : ∀ (D : List (NewV × Nat)) (a : Act), (∀ x ∈ D, x.1.d ∉ o.looksAt ops ∧ o.dst ≠ some x.1.d) → (putD a D).put o.dst v = putD (a.put o.dst v) D
  | [], _, _ => rfl
  | x :: D, a, hap => by
    have h1 := (hap x (List.mem_cons_self ..)).2
    rw [putD_cons, putD_cons, ← putD_put D a (fun y hy => hap y (List.mem_cons_of_mem _ hy))]
    exact Act.put_comm _ _ _ fun d hd => by injection hd with hd; exact hd ▸ h1
/-- An operation that yields in every world that meets S is taken first, new variables pending. -/
theorem mix_take {B : Nat} {al : List NewV} {fuel : Nat} {listed : Array Bool} {a : Act} {i : Nat} {o : Oper} {v : Value} (ho : ops[i]? = some o) (hs : Region.noSelect ops = true) (hap : apartV ops al o = true)
    (hf : Region.free md ops listed i = true) (hin : (Region.ready md ops listed).contains i = true) (hni : (al.all fun x => x.i != i) = true) (hQ : ∀ c a w, Q (.panic c) (a.put o.dst v) w → Q (.panic c) a w) (hy : YieldsIf P ops S o v a)
    (h : wpMix P md ops Q S B al fuel (listed.setIfInBounds i true) (a.put o.dst v)) : wpMix P md ops Q S B al (fuel + 1) listed a := by
  intro D pend hp w hS hB hh
  have hDal : ∀ x ∈ D.map (·.1), x ∈ al := fun x hx => hp.subset (List.mem_append_left _ hx)
  have hap' : ∀ x ∈ D, x.1.d ∉ o.looksAt ops ∧ o.dst ≠ some x.1.d := fun x hx => by
    have h1 := List.all_eq_true.1 hap x.1 (hDal _ (List.mem_map.2 ⟨x, hx, rfl⟩))
    simpa using h1
  have hni' : ∀ x ∈ D.map (·.1), x.i ≠ i := fun x hx => by
    have h1 := List.all_eq_true.1 hni x (hDal x hx)
    simpa using h1
  have hfree := Region.free_spec ho hf
  have e : fuel + 1 + pend.length = (fuel + pend.length) + 1 := by omega
  rw [e]
  refine wpAnyH_first ho (Region.noSelect_spec hs) hQ _ _ _ _ (fun j oj hj hji hun hno => hfree j oj hj hji ?_ hno) ?_ (yields_putD (fun cs b => Region.noSelect_spec hs i o cs b ho) D a hap' hy) hS ?_
  · rw [markD_A] at hun
    exact markA_back listed _ hun
  · rw [markD_A]
    exact ready_markA (by simpa using hin) _ hni'
  · rw [← markD_set, putD_put D a hap']
    exact h D pend hp w hS hB hh
end
theorem v_two {D : List (NewV × Nat)} {x y : NewV} (h : D.map (·.1) = [x, y]) : ∃ g1 g2, D = [(x, g1), (y, g2)] := by
  match D, h with
  | [(a, g1), (b, g2)], h =>
    simp only [List.map_cons, List.map_nil, List.cons.injEq, and_true] at h
    obtain ⟨rfl, rfl⟩ := h
    exact ⟨g1, g2, rfl⟩
theorem v_one {D : List (NewV × Nat)} {x : NewV} (h : D.map (·.1) = [x]) : ∃ g1, D = [(x, g1)] := by
  match D, h with
  | [(a, g1)], h =>
    simp only [List.map_cons, List.map_nil, List.cons.injEq, and_true] at h
    obtain rfl := h
    exact ⟨g1, rfl⟩
theorem v_three {D : List (NewV × Nat)} {x y z : NewV} (h : D.map (·.1) = [x, y, z]) : ∃ g1 g2 g3, D = [(x, g1), (y, g2), (z, g3)] := by
  match D, h with
  | [(a, g1), (b, g2), (c, g3)], h =>
    simp only [List.map_cons, List.map_nil, List.cons.injEq, and_true] at h
    obtain ⟨rfl, rfl, rfl⟩ := h
    exact ⟨g1, g2, g3, rfl⟩
theorem v_four {D : List (NewV × Nat)} {x y z u : NewV} (h : D.map (·.1) = [x, y, z, u]) : ∃ g1 g2 g3 g4, D = [(x, g1), (y, g2), (z, g3), (u, g4)] := by
  match D, h with
  | [(a, g1), (b, g2), (c, g3), (d, g4)], h =>
    simp only [List.map_cons, List.map_nil, List.cons.injEq, and_true] at h
    obtain ⟨rfl, rfl, rfl, rfl⟩ := h
    exact ⟨g1, g2, g3, g4, rfl⟩
/-- The operation that makes a new variable. -/
theorem makes_new {P : Program} {ops : Array Oper} {i d : Nat} {ty : TypeId} {z : List Value} {o : Oper} (ho : ops[i]? = some o) (hop : o.op = .alloc ty) (hd : o.dst = some d) (hg : o.guard = none)
    (hz : ∀ w, (zeroValue ty).run P w = .ok (.agg z.toArray) w) : MakesV P ops ⟨i, d, ty, z.toArray⟩ := by
  intro Q K a w h
  unfold wpOp
  simp only [ho]
  have hw : Region.wanted o (yielded ops a.tmps) = true := by simp [Region.wanted, hg]
  rw [if_pos hw]
  refine .inl ?_
  unfold Oper.wp
  simp [execOp, hop, Instr.alloc, hz, newVar, newRow, Value.cells]
  rw [Oper.upon_value, hd]
  exact h
end Go.Proofs.Ytknmccpoheekmaa
