/-
  Words and contracts that other texts share, several in one text. No statement of the seat is proved here. Conditions: as each contract says.
  Stores into the midst of a block, and pieces of a row: words that the contracts of other texts share. No statement is proved here. Conditions: none.
  Regions that draw their order and make new variables beside a chain of calls, each at whatever moment: one walk for all the orders. No statement is proved here. Conditions: as each law says.
  Laws on regions that draw their order, for the texts of this seat: a condition on the world that is held only till operation c has come up (a load that c waits for may be taken first, though the region writes its cell behind c). Conditions: none.
  Contracts of field's Add, Sub, Mul, Inv, Root, in numbers modulo the prime; words for regions of places. Conditions: Root's: the package's own number lies as the program's text lays it.
  Contract of point's placeAt. Conditions: none.
  Contracts of point's written and told: a place's 32 bytes. Conditions: the numbers are below the prime.
-/
import Derived.Test.YtcefdcjpddohaaaDoorPkA
import Derived.Deep.RegionLaw
import Derived.Laws.IdiomCopy
import Derived.Laws.CopyRow
import Derived.StillTail
import Derived.Deep.RegionHeld3
import Derived.Test.YtcefdcjpddohaaaDoorPkE
import Derived.Test.YtcefdcjpddohaaaDoorPkC
namespace Go.Proofs.YtcefdcjpddohaaaDoor
open Go.RowKit

theorem setCells_row {w : World} {g o : Nat} {cs : List Value} {t : TypeId} (hg : w.heap[g]? = some (.cells cs.toArray t (0, 0))) (vs : List Value) (hfit : o + vs.length ≤ cs.length) (h1 : ∀ v ∈ vs, v.oneCell' = true) :
    w.setCells g o vs = w.setRow g (splice cs o vs).toArray := by
  have a := run_storeCells_cells (P := Tryd.prog) g o vs 0 w (fun j hj => by rw [cell_of_row _ _ _ _ _ _ hg]; simp; omega) (fun j hj => frozen_of_row _ _ _ _ _ hg) h1
  have b := run_storeCells_at (P := Tryd.prog) g o t vs 0 cs.toArray w hg (by simp; omega) h1
  rw [a] at b
  injection b with _ b
  simpa [splice] using b
/-- A whole array is stored into the midst of a block that is known whole, as one step of a region that draws its order. -/
theorem step_store_mid {P : Program} {ops : Array Oper} {o : Oper} {a : Act} {w : World} {K : Act → World → Prop} {Q : Exit → Act → World → Prop} {E : Prop} (hgd : o.guard = none) (ty : TypeId) (x y : Operand) (ho : o.op = .store ty x y)
    (g off : Nat) (cells : List Value) (hx : a.eval x = .pointer (some ⟨g, off, none⟩)) (hy : a.eval y = .agg cells.toArray) (cur : List Value) (t : TypeId) (hg : w.heap[g]? = some (.cells cur.toArray t (0, 0)))
    (hfit : off + cells.length ≤ cur.length) (hi : (P.info? ty).map (·.size) = some cells.length) (h1 : ∀ v ∈ cells, v.oneCell' = true) (w0 : World) (hb : But g w0 w)
    (h : ∀ w', Hid (w'.heap[g]? = some (.cells (splice cur off cells).toArray t (0, 0))) → But g w0 w' → K (a.put o.dst undef) w') :
    if Region.wanted o (yielded ops a.tmps) = true then Oper.wp P o a w K Q else E := by
  have hw : Region.wanted o (yielded ops a.tmps) = true := by simp [Region.wanted, hgd]
  rw [if_pos hw]
  refine wp_store_mid ty x y ho g off cells.toArray hx hy (fun j hj => ⟨?_, frozen_of_row _ _ _ _ _ hg⟩) (by simpa using hi) (all_oneCell_toArray h1) ?_
  · rw [cell_of_row _ _ _ _ _ _ hg]
    simp at hj ⊢; omega
  · have e := setCells_row hg cells hfit h1
    show K _ (w.setCells g off cells)
    rw [e]
    exact h _ (setRow_heap _ _ _ _ _ _ hg) (hb.row _)
theorem splice_mid (A B C x : List Value) (a k : Nat) (ha : a = A.length + k) (h : k + x.length ≤ B.length) : splice (A ++ (B ++ C)) a x = A ++ (splice B k x ++ C) := by
  subst ha
  simp only [splice]
  have e1 : List.take (A.length + k) (A ++ (B ++ C)) = A ++ List.take k B := by
    rw [List.take_append, List.take_of_length_le (by omega), Nat.add_sub_cancel_left, List.take_append_of_le_length (by omega)]
  have e2 : List.drop (A.length + k + x.length) (A ++ (B ++ C)) = List.drop (k + x.length) B ++ C := by
    rw [List.drop_append, List.drop_of_length_le (by omega), List.nil_append, show A.length + k + x.length - A.length = k + x.length by omega, List.drop_append_of_le_length (by omega)]
  rw [e1, e2]
  simp
theorem range_part {w : World} {g : Nat} {t : TypeId} (A B C : List Value) (hg : w.heap[g]? = some (.cells (A ++ (B ++ C)).toArray t (0, 0))) (a : Nat) (ha : A.length = a) : w.rangeAt g a B := by
  intro j v hj
  have hjl := (List.getElem?_eq_some_iff.1 hj).1
  rw [cell_of_row _ _ _ _ _ _ hg]
  simp only [List.getElem?_toArray]
  rw [List.getElem?_append_right (by omega), ← ha, Nat.add_sub_cancel_left, List.getElem?_append_left hjl]
  exact hj
end Go.Proofs.YtcefdcjpddohaaaDoor
namespace Go.Proofs.YtcefdcjpddohaaaDoor
open Go.RowKit

/-- What a slot holds behind a put: one word for 'simp only'. -/
theorem pu : (∀ (a : Act) (d : Nat) (v : Value), a.put (some d) v = { a with tmps := a.tmps.setIfInBounds d v }) ∧ (∀ (a : Act) (v : Value), a.put none v = a) ∧
    (∀ (l : List Value) (i : Nat) (v : Value), l.toArray.setIfInBounds i v = (l.set i v).toArray) ∧ (∀ (x v : Value) (l : List Value), (x :: l).set 0 v = v :: l) ∧ (∀ (x v : Value) (l : List Value) (i : Nat), (x :: l).set (i + 1) v = x :: l.set i v) :=
  ⟨fun _ _ _ => rfl, fun _ _ => rfl, fun _ _ _ => by simp, fun _ _ _ => rfl, fun _ _ _ _ => rfl⟩
/-- A new variable of a region: its operation, its slot, its type, what it first holds. -/
structure NewV where
  i : Nat
  d : Nat
  ty : TypeId
  z : Array Value
/-- The new variables that are made: in the list of what came up, in the slots, in the world. -/
def markD (l : Array Bool) (D : List (NewV × Nat)) : Array Bool := D.foldr (fun x l => l.setIfInBounds x.1.i true) l
def markA (l : Array Bool) (A : List NewV) : Array Bool := A.foldr (fun x l => l.setIfInBounds x.i true) l
def putD (a : Act) (D : List (NewV × Nat)) : Act := D.foldr (fun x a => a.put (some x.1.d) (.pointer (some ⟨x.2, 0, none⟩))) a
structure HoldD (B : Nat) (w : World) (D : List (NewV × Nat)) : Prop where
  row : ∀ x ∈ D, w.heap[x.2]? = some (.cells x.1.z x.1.ty (0, 0))
  new : ∀ x ∈ D, B ≤ x.2
  nodup : (D.map (·.2)).Nodup
theorem HoldD.next {B : Nat} {w w' : World} {D : List (NewV × Nat)} (h : HoldD B w D) (hb : Below w.heap.size w w') : HoldD B w' D :=
  ⟨fun x hx => (hb.block _ (Array.getElem?_eq_some_iff.1 (h.row x hx)).1).trans (h.row x hx), h.new, h.nodup⟩
theorem HoldD.more {B : Nat} {w : World} {D : List (NewV × Nat)} (h : HoldD B w D) (hB : B ≤ w.heap.size) (x : NewV) : HoldD B (w.alloc (.cells x.z x.ty)) ((x, w.heap.size) :: D) := by
  refine ⟨fun y hy => ?_, fun y hy => ?_, ?_⟩
  · rcases List.mem_cons.1 hy with rfl | hy
    · exact heap_alloc_new _ _
    · exact (Below.heap_alloc _ _ _ (Array.getElem?_eq_some_iff.1 (h.row y hy)).1).trans (h.row y hy)
  · rcases List.mem_cons.1 hy with rfl | hy
    · exact hB
    · exact h.new y hy
  · rw [List.map_cons, List.nodup_cons]
    refine ⟨fun hm => ?_, h.nodup⟩
    obtain ⟨y, hy, he⟩ := List.mem_map.1 hm
    have h1 := (Array.getElem?_eq_some_iff.1 (h.row y hy)).1
    have h2 : y.2 = w.heap.size := he
    omega
theorem set_comm (l : Array Bool) (i j : Nat) : (l.setIfInBounds i true).setIfInBounds j true = (l.setIfInBounds j true).setIfInBounds i true := by
  by_cases h : i = j
  · rw [h]
  · rw [Array.setIfInBounds_comm _ _ h]
theorem markD_set (l : Array Bool) (i : Nat) : ∀ D : List (NewV × Nat), markD (l.setIfInBounds i true) D = (markD l D).setIfInBounds i true
  | [] => rfl
  | x :: D => by
    show (markD (l.setIfInBounds i true) D).setIfInBounds x.1.i true = ((markD l D).setIfInBounds x.1.i true).setIfInBounds i true
    rw [markD_set l i D, set_comm]
theorem markD_A (l : Array Bool) : ∀ D : List (NewV × Nat), markD l D = markA l (D.map (·.1))
  | [] => rfl
  | x :: D => by
    show (markD l D).setIfInBounds x.1.i true = (markA l (D.map (·.1))).setIfInBounds x.1.i true
    rw [markD_A l D]
theorem markA_un (l : Array Bool) (j : Nat) : ∀ A : List NewV, (∀ x ∈ A, x.i ≠ j) → ∀ b, (markA l A).getD j b = l.getD j b
  | [], _, _ => rfl
  | x :: A, h, b => by
    show ((markA l A).setIfInBounds x.i true).getD j b = l.getD j b
    rw [getD_set_ne b (h x (List.mem_cons_self ..)), markA_un l j A (fun y hy => h y (List.mem_cons_of_mem _ hy)) b]
theorem getD_two {l : Array Bool} {j : Nat} (h : l.getD j true = false) : l.getD j false = false := by
  rcases Nat.lt_or_ge j l.size with h' | h'
  · simp [h'] at h ⊢; exact h
  · simp [Array.getElem?_eq_none h'] at h
theorem set_size (l : Array Bool) (i : Nat) : (l.setIfInBounds i true).size = l.size := by simp
theorem markA_size (l : Array Bool) : ∀ A : List NewV, (markA l A).size = l.size
  | [] => rfl
  | x :: A => by
    show ((markA l A).setIfInBounds x.i true).size = l.size
    rw [set_size, markA_size l A]
theorem markA_in (l : Array Bool) {x : NewV} : ∀ A : List NewV, x ∈ A → (markA l A).getD x.i true = true
  | y :: A, h => by
    show ((markA l A).setIfInBounds y.i true).getD x.i true = true
    by_cases hi : y.i = x.i
    · rw [hi]
      rcases Nat.lt_or_ge x.i (markA l A).size with h' | h'
      · simp [h']
      · simp [h']
    · rw [getD_set_ne true hi]
      rcases List.mem_cons.1 h with rfl | h
      · exact absurd rfl hi
      · exact markA_in l A h
theorem markA_more (l : Array Bool) {j : Nat} {A C : List NewV} (hs : ∀ x ∈ A, x ∈ C) (h : (markA l A).getD j false = true) : (markA l C).getD j false = true := by
  have hlt : j < l.size := by
    rw [← markA_size l A]
    rcases Nat.lt_or_ge j (markA l A).size with h' | h'
    · exact h'
    · simp [Array.getElem?_eq_none h'] at h
  by_cases hm : ∃ x ∈ C, x.i = j
  · obtain ⟨x, hx, rfl⟩ := hm
    have h2 := markA_in l C hx
    have h3 : x.i < (markA l C).size := by rw [markA_size]; exact hlt
    simp [h3] at h2 ⊢
    exact h2
  · have hn : ∀ x ∈ C, x.i ≠ j := fun x hx e => hm ⟨x, hx, e⟩
    rw [markA_un l j C hn false]
    rwa [markA_un l j A (fun x hx => hn x (hs x hx)) false] at h

theorem putD_cons (a : Act) (x : NewV × Nat) (D : List (NewV × Nat)) : putD a (x :: D) = (putD a D).put (some x.1.d) (.pointer (some ⟨x.2, 0, none⟩)) := rfl
section
variable {P : Program} {ops : Array Oper} {Q : Exit → Act → World → Prop} {md : Region.Mode} {S : World → Prop}
theorem ready_markA {j : Nat} {l : Array Bool} (hj : j ∈ Region.ready md ops l) : ∀ A : List NewV, (∀ x ∈ A, x.i ≠ j) → j ∈ Region.ready md ops (markA l A)
  | [], _ => hj
  | x :: A, h => ready_mono (ready_markA hj A fun y hy => h y (List.mem_cons_of_mem _ hy)) (Ne.symm (h x (List.mem_cons_self ..)))
/-- What may come up is a new variable that is not made yet, or may come up when all are made. -/
theorem ready_sub {j : Nat} {l : Array Bool} {al pend : List NewV} {A : List NewV} (hp : (A ++ pend).Perm al) (hj : j ∈ Region.ready md ops (markA l A)) :
    (∃ x ∈ pend, x.i = j) ∨ j ∈ Region.ready md ops (markA l al) := by
  by_cases hm : ∃ x ∈ pend, x.i = j
  · exact .inl hm
  · right
    obtain ⟨h0, o, ho, hall⟩ := mem_ready.1 hj
    have hA : ∀ x ∈ A, x.i ≠ j := fun x hx e => by
      have h1 := markA_in l A hx
      rw [e, h0] at h1; cases h1
    have hal : ∀ x ∈ al, x.i ≠ j := fun x hx e => by
      rcases List.mem_append.1 (hp.symm.subset hx) with h | h
      · exact hA x h e
      · exact hm ⟨x, h, e⟩
    refine mem_ready.2 ⟨?_, o, ho, fun e he hb => markA_more l (fun x hx => hp.subset (List.mem_append_left _ hx)) (hall e he hb)⟩
    rw [markA_un l j al hal true, ← markA_un l j A hA true]
    exact h0
/-- Whatever new variables are made already, and wherever they lie. -/
def wpMix (P : Program) (md : Region.Mode) (ops : Array Oper) (Q : Exit → Act → World → Prop) (S : World → Prop) (B : Nat) (al : List NewV) (fuel : Nat) (listed : Array Bool) (a : Act) : Prop :=
  ∀ D pend, (D.map (·.1) ++ pend).Perm al → ∀ w, S w → B ≤ w.heap.size → HoldD B w D → wpAnyH P md ops Q S (fuel + pend.length) (markD listed D) (putD a D) w
theorem mix_start {B : Nat} {al : List NewV} {fuel n : Nat} {listed : Array Bool} {a : Act} {w : World} (hn : n = fuel + al.length) (hS : S w) (hB : B ≤ w.heap.size)
    (h : wpMix P md ops Q S B al fuel listed a) : wpAnyH P md ops Q S n listed a w := by
  subst hn
  exact h [] al (List.Perm.refl _) w hS hB ⟨fun _ h => (by cases h), fun _ h => (by cases h), List.nodup_nil⟩
/-- A new variable comes up. -/
def MakesV (P : Program) (ops : Array Oper) (x : NewV) : Prop :=
  ∀ (Q : Exit → Act → World → Prop) (K : Act → World → Prop) (a : Act) (w : World), K (a.put (some x.d) (.pointer (some ⟨w.heap.size, 0, none⟩))) (w.alloc (.cells x.z x.ty)) → wpOp P ops Q x.i K a w
theorem mix_new {B : Nat} {al pend : List NewV} {fuel n : Nat} {listed : Array Bool} {a : Act} {D : List (NewV × Nat)} {w : World} {x : NewV} (hm : MakesV P ops x) (hx : x ∈ pend) (hl : pend.length = n + 1)
    (hp : (D.map (·.1) ++ pend).Perm al) (hSa : S (w.alloc (.cells x.z x.ty))) (hB : B ≤ w.heap.size) (hh : HoldD B w D)
    (ih : ∀ (D : List (NewV × Nat)) (pend : List NewV) (w : World), pend.length = n → (D.map (·.1) ++ pend).Perm al → S w → B ≤ w.heap.size → HoldD B w D → wpAnyH P md ops Q S (fuel + n) (markD listed D) (putD a D) w) :
    wpOp P ops Q x.i (fun a' w' => S w' ∧ wpAnyH P md ops Q S (fuel + n) ((markD listed D).setIfInBounds x.i true) a' w') (putD a D) w := by
  obtain ⟨s, t, rfl⟩ := List.append_of_mem hx
  refine hm Q _ _ _ ⟨hSa, ?_⟩
  refine ih ((x, w.heap.size) :: D) (s ++ t) _ ?_ ?_ hSa ?_ (hh.more hB x)
  · simp only [List.length_append, List.length_cons] at hl ⊢; omega
  · refine List.Perm.trans ?_ hp
    show (x :: (D.map (·.1) ++ (s ++ t))).Perm _
    have h1 : (D.map (·.1) ++ (s ++ x :: t)).Perm (x :: (D.map (·.1) ++ (s ++ t))) := by
      rw [← List.append_assoc, ← List.append_assoc]
      exact List.perm_middle
    exact h1.symm
  · simp; omega
theorem wpH_next {fuel : Nat} {listed : Array Bool} {a : Act} {w : World} (hne : Region.ready md ops listed ≠ [])
    (h : ∀ i ∈ Region.ready md ops listed, wpOp P ops Q i (fun a' w' => S w' ∧ wpAnyH P md ops Q S fuel (listed.setIfInBounds i true) a' w') a w) : wpAnyH P md ops Q S (fuel + 1) listed a w :=
  ⟨fun h0 => absurd h0 hne, h⟩
theorem wp_put_one {o : Oper} {a : Act} {w : World} {d : Nat} {v : Value} {K K' : Act → World → Prop} (hl : d ∉ o.looksAt ops) (hsel : ∀ cs b, o.op ≠ .select cs b) (hd : o.dst ≠ some d)
    (hQ : ∀ x a w, Q (.panic x) a w → Q (.panic x) (a.put (some d) v) w) (hK : ∀ a1 w1, K a1 w1 → K' (a1.put (some d) v) w1)
    (h : if Region.wanted o (yielded ops a.tmps) = true then Oper.wp P o a w K Q else K (a.put o.dst undef) w) :
    if Region.wanted o (yielded ops (a.put (some d) v).tmps) = true then Oper.wp P o (a.put (some d) v) w K' Q else K' ((a.put (some d) v).put o.dst undef) w := by
  have h1 : ∀ e, some d = some e → e ∉ o.looksAt ops := fun e he => by injection he with he; exact he ▸ hl
  have h2 : ∀ e, (some d : Option Tmp) = some e → o.dst ≠ some e := fun e he => by injection he with he; exact he ▸ hd
  rw [wanted_put o a (some d) v h1]
  split
  · rename_i hw
    rw [if_pos hw] at h
    unfold Oper.wp at *
    rw [execOp_put o hsel a (some d) v h1]
    generalize (execOp a.eval o).run P w = r at *
    cases r with
    | ok n w' =>
      cases n <;> simp only [Oper.upon] at h ⊢
      case value u => rw [Act.put_comm a v u h2]; exact hK _ _ h
      case skip => rw [Act.put_comm a v undef h2]; exact hK _ _ h
      case defer e =>
        rw [Act.put_defers, Act.put_comm _ v undef h2]
        exact hK _ _ h
      case enter f args =>
        refine Calls.mono h fun e w'' he => ?_
        cases e with
        | returned u => show K' _ _; rw [Act.put_comm a v u h2]; exact hK _ _ he
        | panicked c => exact hQ _ _ _ he
        | outgrown => exact he
      case row row args => exact Rows.mono h fun u w'' he => by rw [Act.put_comm a v u h2]; exact hK _ _ he
    | halt x w' =>
      cases x <;> simp only [Oper.upon] at h ⊢
      case panic u => exact hQ _ _ _ h
  · rename_i hw
    rw [if_neg hw] at h
    rw [Act.put_comm a v undef h2]
    exact hK _ _ h
/-- An operation and the slots of the new variables do not touch. -/
def apartV (ops : Array Oper) (al : List NewV) (o : Oper) : Bool := al.all fun x => !(o.looksAt ops).contains x.d && o.dst != some x.d
theorem wp_put_all {o : Oper} {w : World} (hsel : ∀ cs b, o.op ≠ .select cs b) (hQ : ∀ d v x a w, Q (.panic x) a w → Q (.panic x) (a.put (some d) v) w) :
    ∀ (D : List (NewV × Nat)) (a : Act) (K K' : Act → World → Prop), (∀ x ∈ D, x.1.d ∉ o.looksAt ops ∧ o.dst ≠ some x.1.d) → (∀ a1 w1, K a1 w1 → K' (putD a1 D) w1) →
      (if Region.wanted o (yielded ops a.tmps) = true then Oper.wp P o a w K Q else K (a.put o.dst undef) w) →
      if Region.wanted o (yielded ops (putD a D).tmps) = true then Oper.wp P o (putD a D) w K' Q else K' ((putD a D).put o.dst undef) w
  | [], a, K, K', _, hK, h => by
    have e : K = K ∧ ∀ a1 w1, K a1 w1 → K' a1 w1 := ⟨rfl, hK⟩
    show if Region.wanted o (yielded ops a.tmps) = true then Oper.wp P o a w K' Q else K' (a.put o.dst undef) w
    split
    · rename_i hw; rw [if_pos hw] at h; exact Oper.wp_mono e.2 h
    · rename_i hw; rw [if_neg hw] at h; exact e.2 _ _ h
  | x :: D, a, K, K', hap, hK, h => by
    have h1 := hap x (List.mem_cons_self ..)
    exact wp_put_one (K := fun a1 w1 => ∃ a2, K a2 w1 ∧ a1 = putD a2 D) h1.1 hsel h1.2 (hQ x.1.d _) (fun a1 w1 ⟨a2, hk, e⟩ => by subst e; exact hK a2 w1 hk)
      (wp_put_all hsel hQ D a K _ (fun y hy => hap y (List.mem_cons_of_mem _ hy)) (fun a1 w1 hk => ⟨a1, hk, rfl⟩) h)
/-- The next call of the chain. -/
theorem mix_call {B : Nat} {al : List NewV} {fuel : Nat} {listed : Array Bool} {a : Act} {i : Nat} {o : Oper} (ho : ops[i]? = some o) (hs : Region.noSelect ops = true) (hap : apartV ops al o = true)
    (hr : Region.ready md ops (markA listed al) = [i]) (hin : (Region.ready md ops listed).contains i = true) (hm : ∀ x ∈ al, MakesV P ops x) (hSa : ∀ w, ∀ x ∈ al, S w → S (w.alloc (.cells x.z x.ty)))
    (hQ : ∀ d v x a w, Q (.panic x) a w → Q (.panic x) (a.put (some d) v) w)
    (h : ∀ w, S w → B ≤ w.heap.size → ∀ K : Act → World → Prop, Shut (∀ v w', S w' → Below w.heap.size w w' → wpMix P md ops Q S B al fuel (listed.setIfInBounds i true) (a.put o.dst v) → K (a.put o.dst v) w') →
      if Region.wanted o (yielded ops a.tmps) = true then Oper.wp P o a w K Q else K (a.put o.dst undef) w) : wpMix P md ops Q S B al (fuel + 1) listed a := by
  have hin' : i ∈ Region.ready md ops listed := by simpa using hin
  have hni : ∀ x ∈ al, x.i ≠ i := fun x hx e => by
    have h1 : i ∈ Region.ready md ops (markA listed al) := by rw [hr]; exact List.mem_singleton.2 rfl
    have h2 := (mem_ready.1 h1).1
    rw [← e, markA_in listed al hx] at h2
    cases h2
  suffices hall : ∀ (n : Nat) (D : List (NewV × Nat)) (pend : List NewV) (w : World), pend.length = n → (D.map (·.1) ++ pend).Perm al → S w → B ≤ w.heap.size → HoldD B w D → wpAnyH P md ops Q S (fuel + 1 + n) (markD listed D) (putD a D) w by
    intro D pend hp w hS hB hh
    exact hall pend.length D pend w rfl hp hS hB hh
  intro n
  induction n with
  | zero =>
    intro D pend w hl hp hS hB hh
    have hap' : ∀ x ∈ D, x.1.d ∉ o.looksAt ops ∧ o.dst ≠ some x.1.d := fun x hx => by
      have h1 := List.all_eq_true.1 hap x.1 (hp.subset (List.mem_append_left _ (List.mem_map.2 ⟨x, hx, rfl⟩)))
      simpa using h1
    have hDal : ∀ x ∈ D.map (·.1), x ∈ al := fun x hx => hp.subset (List.mem_append_left _ hx)
    refine wpH_next (fun h0 => ?_) fun j hj => ?_
    · have := ready_markA hin' (D.map (·.1)) (fun x hx => hni x (hDal x hx))
      rw [← markD_A, h0] at this; cases this
    · rw [markD_A] at hj
      rcases ready_sub hp hj with ⟨x, hx, _⟩ | hj2
      · rw [List.eq_nil_of_length_eq_zero hl] at hx; cases hx
      · rw [hr] at hj2
        obtain rfl := List.mem_singleton.1 hj2
        refine wpOp_step ho fun K' hK => ?_
        refine wp_put_all (K := fun a' w' => ∃ v, a' = a.put o.dst v ∧ S w' ∧ Below w.heap.size w w' ∧ wpMix P md ops Q S B al fuel (listed.setIfInBounds j true) (a.put o.dst v)) (Region.noSelect_spec hs j o · · ho) hQ D a _ hap' ?_ (h w hS hB _ fun v w' h1 h2 h3 => ⟨v, rfl, h1, h2, h3⟩)
        rintro a1 w1 ⟨v, rfl, hS1, hb1, hM⟩
        refine hK _ _ ⟨hS1, ?_⟩
        have := hM D pend hp w1 hS1 (Nat.le_trans hB hb1.size) (hh.next hb1)
        rwa [hl, markD_set] at this
  | succ n ih =>
    intro D pend w hl hp hS hB hh
    have hap' : ∀ x ∈ D, x.1.d ∉ o.looksAt ops ∧ o.dst ≠ some x.1.d := fun x hx => by
      have h1 := List.all_eq_true.1 hap x.1 (hp.subset (List.mem_append_left _ (List.mem_map.2 ⟨x, hx, rfl⟩)))
      simpa using h1
    have hDal : ∀ x ∈ D.map (·.1), x ∈ al := fun x hx => hp.subset (List.mem_append_left _ hx)
    refine wpH_next (fun h0 => ?_) fun j hj => ?_
    · have := ready_markA hin' (D.map (·.1)) (fun x hx => hni x (hDal x hx))
      rw [← markD_A, h0] at this; cases this
    · rw [markD_A] at hj
      rcases ready_sub hp hj with ⟨x, hx, rfl⟩ | hj2
      · have hxa : x ∈ al := hp.subset (List.mem_append_right _ hx)
        exact mix_new (fuel := fuel + 1) (hm x hxa) hx hl hp (hSa w x hxa hS) hB hh ih
      · rw [hr] at hj2
        obtain rfl := List.mem_singleton.1 hj2
        refine wpOp_step ho fun K' hK => ?_
        refine wp_put_all (K := fun a' w' => ∃ v, a' = a.put o.dst v ∧ S w' ∧ Below w.heap.size w w' ∧ wpMix P md ops Q S B al fuel (listed.setIfInBounds j true) (a.put o.dst v)) (Region.noSelect_spec hs j o · · ho) hQ D a _ hap' ?_ (h w hS hB _ fun v w' h1 h2 h3 => ⟨v, rfl, h1, h2, h3⟩)
        rintro a1 w1 ⟨v, rfl, hS1, hb1, hM⟩
        refine hK _ _ ⟨hS1, ?_⟩
        have := hM D pend hp w1 hS1 (Nat.le_trans hB hb1.size) (hh.next hb1)
        rw [hl, markD_set] at this
        have e : (fuel + 1).add n = fuel + (n + 1) := by show fuel + 1 + n = _; omega
        rw [e]
        exact this
/-- A list whose names are a turn of another: turned alike. -/
theorem turn_back {α β : Type} {f : α → β} {l1 l2 : List β} (hp : l1.Perm l2) : ∀ D : List α, D.map f = l1 → ∃ D' : List α, D'.Perm D ∧ D'.map f = l2 := by
  induction hp with
  | nil => exact fun D hD => ⟨D, List.Perm.refl _, hD⟩
  | cons x _ ih =>
    intro D hD
    match D, hD with
    | d :: D1, hD =>
      simp only [List.map_cons, List.cons.injEq] at hD
      obtain ⟨D2, h1, h2⟩ := ih D1 hD.2
      exact ⟨d :: D2, h1.cons d, by rw [List.map_cons, hD.1, h2]⟩
  | swap x y l =>
    intro D hD
    match D, hD with
    | d :: e :: D1, hD =>
      simp only [List.map_cons, List.cons.injEq] at hD
      exact ⟨e :: d :: D1, List.Perm.swap _ _ _, by rw [List.map_cons, List.map_cons, hD.1, hD.2.1, hD.2.2]⟩
  | trans _ _ ih1 ih2 =>
    intro D hD
    obtain ⟨D1, h1, h2⟩ := ih1 D hD
    obtain ⟨D2, h3, h4⟩ := ih2 D1 h2
    exact ⟨D2, h3.trans h1, h4⟩
theorem putD_perm {D D' : List (NewV × Nat)} (hp : D.Perm D') : ∀ a : Act, (D.map (·.1.d)).Nodup → putD a D = putD a D' := by
  induction hp with
  | nil => exact fun _ _ => rfl
  | cons x _ ih =>
    intro a hn
    rw [putD_cons, putD_cons, ih a (List.nodup_cons.1 hn).2]
  | swap x y l =>
    intro a hn
    rw [putD_cons, putD_cons, putD_cons, putD_cons]
    refine Act.put_comm _ _ _ fun d hd => ?_
    simp only [List.map_cons, List.nodup_cons, List.mem_cons] at hn
    injection hd with hd
    intro he
    injection he with he
    exact hn.1 (.inl (by omega))
  | trans h1 _ ih1 ih2 =>
    intro a hn
    rw [ih1 a hn, ih2 a ((h1.map _).nodup_iff.1 hn)]
theorem markD_perm {D D' : List (NewV × Nat)} (hp : D.Perm D') : ∀ l : Array Bool, markD l D = markD l D' := by
  induction hp with
  | nil => exact fun _ => rfl
  | cons x _ ih =>
    intro l
    show (markD l _).setIfInBounds _ _ = (markD l _).setIfInBounds _ _
    rw [ih l]
  | swap x y t => intro l; exact set_comm _ _ _
  | trans _ _ ih1 ih2 => intro l; rw [ih1 l, ih2 l]
/-- All are made: the stores wait for each of them. -/
theorem mix_end {B : Nat} {al : List NewV} {fuel : Nat} {listed : Array Bool} {a : Act} (hr : ((Region.ready md ops (markA listed al)).all fun j => al.all fun x => Region.waitsFor md ops j x.i) = true)
    (hin : (al.all fun x => (Region.ready md ops listed).contains x.i) = true) (hnd : (al.map (·.i)).Nodup) (hnd2 : (al.map (·.d)).Nodup) (hm : ∀ x ∈ al, MakesV P ops x) (hSa : ∀ w, ∀ x ∈ al, S w → S (w.alloc (.cells x.z x.ty)))
    (h : ∀ D : List (NewV × Nat), D.map (·.1) = al → ∀ w, S w → B ≤ w.heap.size → HoldD B w D → wpAnyH P md ops Q S fuel (markD listed D) (putD a D) w) : wpMix P md ops Q S B al fuel listed a := by
  have hin' : ∀ x ∈ al, x.i ∈ Region.ready md ops listed := fun x hx => by
    have := List.all_eq_true.1 hin x hx
    simpa using this
  suffices hall : ∀ (n : Nat) (D : List (NewV × Nat)) (pend : List NewV) (w : World), pend.length = n → (D.map (·.1) ++ pend).Perm al → S w → B ≤ w.heap.size → HoldD B w D → wpAnyH P md ops Q S (fuel + n) (markD listed D) (putD a D) w by
    intro D pend hp w hS hB hh
    exact hall pend.length D pend w rfl hp hS hB hh
  intro n
  induction n with
  | zero =>
    intro D pend w hl hp hS hB hh
    rw [List.eq_nil_of_length_eq_zero hl, List.append_nil] at hp
    obtain ⟨D', h1, h2⟩ := turn_back hp D rfl
    have h3 : (D'.map (·.1.d)).Nodup := by
      have : D'.map (·.1.d) = (D'.map (·.1)).map (·.d) := by rw [List.map_map]; rfl
      rw [this, h2]; exact hnd2
    rw [← markD_perm h1, ← putD_perm h1 a h3]
    refine h D' h2 w hS hB ⟨fun x hx => hh.row x (h1.subset hx), fun x hx => hh.new x (h1.subset hx), (h1.map _).nodup_iff.2 hh.nodup⟩
  | succ n ih =>
    intro D pend w hl hp hS hB hh
    have hnd3 : ((D.map (·.1) ++ pend).map (·.i)).Nodup := (hp.map _).nodup_iff.2 hnd
    have hapart : ∀ x ∈ pend, ∀ y ∈ D.map (·.1), y.i ≠ x.i := fun x hx y hy e => by
      rw [List.map_append, List.nodup_append] at hnd3
      exact hnd3.2.2 y.i (List.mem_map.2 ⟨y, hy, rfl⟩) x.i (List.mem_map.2 ⟨x, hx, rfl⟩) e
    obtain ⟨x0, hx0⟩ : ∃ x, x ∈ pend := by
      cases pend with
      | nil => simp at hl
      | cons x t => exact ⟨x, List.mem_cons_self ..⟩
    have hready : ∀ x ∈ pend, x.i ∈ Region.ready md ops (markD listed D) := fun x hx => by
      rw [markD_A]
      exact ready_markA (hin' x (hp.subset (List.mem_append_right _ hx))) _ (hapart x hx)
    refine wpH_next (fun h0 => ?_) fun j hj => ?_
    · have := hready x0 hx0
      rw [h0] at this; cases this
    · have hj' := hj
      rw [markD_A] at hj
      rcases ready_sub hp hj with ⟨x, hx, rfl⟩ | hj2
      · have hxa : x ∈ al := hp.subset (List.mem_append_right _ hx)
        exact mix_new (hm x hxa) hx hl hp (hSa w x hxa hS) hB hh ih
      · exfalso
        have h1 := List.all_eq_true.1 hr j hj2
        have h2 := List.all_eq_true.1 h1 x0 (hp.subset (List.mem_append_right _ hx0))
        obtain ⟨oj, hoj, e, he, hb, hon⟩ := Region.waitsFor_spec h2
        obtain ⟨_, o, ho, hall⟩ := mem_ready.1 hj'
        obtain rfl := Option.some.inj (hoj.symm.trans ho)
        have h3 := hall e he hb
        rw [hon, getD_two (mem_ready.1 (hready x0 hx0)).1] at h3
        cases h3
end
theorem markA_back (l : Array Bool) {j : Nat} : ∀ A : List NewV, (markA l A).getD j true = false → l.getD j true = false
  | [], h => h
  | x :: A, h => by
    have h1 : ((markA l A).setIfInBounds x.i true).getD j true = false := h
    by_cases hi : x.i = j
    · subst hi
      rcases Nat.lt_or_ge x.i (markA l A).size with h' | h'
      · simp [h'] at h1
      · simp [h'] at h1
    · rw [getD_set_ne true hi] at h1
      exact markA_back l A h1
section
variable {P : Program} {ops : Array Oper} {Q : Exit → Act → World → Prop} {md : Region.Mode} {S : World → Prop}
theorem yields_putD {o : Oper} {v : Value} (hsel : ∀ cs b, o.op ≠ .select cs b) : ∀ (D : List (NewV × Nat)) (a : Act), (∀ x ∈ D, x.1.d ∉ o.looksAt ops ∧ o.dst ≠ some x.1.d) → YieldsIf P ops S o v a → YieldsIf P ops S o v (putD a D)
  | [], _, _, h => h
  | x :: D, a, hap, h => by
    have h1 := (hap x (List.mem_cons_self ..)).1
    have h2 : ∀ e, some x.1.d = some e → e ∉ o.looksAt ops := fun e he => by injection he with he; exact he ▸ h1
    exact (yields_putD hsel D a (fun y hy => hap y (List.mem_cons_of_mem _ hy)) h).of_same (execOp_put o hsel _ _ _ h2) (wanted_put o _ _ _ h2)
theorem putD_put {o : Oper} {v : Value} : ∀ (D : List (NewV × Nat)) (a : Act), (∀ x ∈ D, x.1.d ∉ o.looksAt ops ∧ o.dst ≠ some x.1.d) → (putD a D).put o.dst v = putD (a.put o.dst v) D
  | [], _, _ => rfl
  | x :: D, a, hap => by
    have h1 := (hap x (List.mem_cons_self ..)).2
    rw [putD_cons, putD_cons, ← putD_put D a (fun y hy => hap y (List.mem_cons_of_mem _ hy))]
    exact Act.put_comm _ _ _ fun d hd => by injection hd with hd; exact hd ▸ h1
/-- An operation that yields in every world that meets S is taken first, new variables pending. -/
theorem mix_take {B : Nat} {al : List NewV} {fuel : Nat} {listed : Array Bool} {a : Act} {i : Nat} {o : Oper} {v : Value} (ho : ops[i]? = some o) (hs : Region.noSelect ops = true) (hap : apartV ops al o = true)
    (hf : Region.free md ops listed i = true) (hin : (Region.ready md ops listed).contains i = true) (hni : (al.all fun x => x.i != i) = true) (hQ : ∀ c a w, Q (.panic c) (a.put o.dst v) w → Q (.panic c) a w) (hy : YieldsIf P ops S o v a)
    (h : wpMix P md ops Q S B al fuel (listed.setIfInBounds i true) (a.put o.dst v)) : wpMix P md ops Q S B al (fuel + 1) listed a := by
  intro D pend hp w hS hB hh
  have hDal : ∀ x ∈ D.map (·.1), x ∈ al := fun x hx => hp.subset (List.mem_append_left _ hx)
  have hap' : ∀ x ∈ D, x.1.d ∉ o.looksAt ops ∧ o.dst ≠ some x.1.d := fun x hx => by
    have h1 := List.all_eq_true.1 hap x.1 (hDal _ (List.mem_map.2 ⟨x, hx, rfl⟩))
    simpa using h1
  have hni' : ∀ x ∈ D.map (·.1), x.i ≠ i := fun x hx => by
    have h1 := List.all_eq_true.1 hni x (hDal x hx)
    simpa using h1
  have hfree := Region.free_spec ho hf
  have e : fuel + 1 + pend.length = (fuel + pend.length) + 1 := by omega
  rw [e]
  refine wpAnyH_first ho (Region.noSelect_spec hs) hQ _ _ _ _ (fun j oj hj hji hun hno => hfree j oj hj hji ?_ hno) ?_ (yields_putD (fun cs b => Region.noSelect_spec hs i o cs b ho) D a hap' hy) hS ?_
  · rw [markD_A] at hun
    exact markA_back listed _ hun
  · rw [markD_A]
    exact ready_markA (by simpa using hin) _ hni'
  · rw [← markD_set, putD_put D a hap']
    exact h D pend hp w hS hB hh
end
theorem v_two {D : List (NewV × Nat)} {x y : NewV} (h : D.map (·.1) = [x, y]) : ∃ g1 g2, D = [(x, g1), (y, g2)] := by
  match D, h with
  | [(a, g1), (b, g2)], h =>
    simp only [List.map_cons, List.map_nil, List.cons.injEq, and_true] at h
    obtain ⟨rfl, rfl⟩ := h
    exact ⟨g1, g2, rfl⟩
theorem v_one {D : List (NewV × Nat)} {x : NewV} (h : D.map (·.1) = [x]) : ∃ g1, D = [(x, g1)] := by
  match D, h with
  | [(a, g1)], h =>
    simp only [List.map_cons, List.map_nil, List.cons.injEq, and_true] at h
    obtain rfl := h
    exact ⟨g1, rfl⟩
theorem v_three {D : List (NewV × Nat)} {x y z : NewV} (h : D.map (·.1) = [x, y, z]) : ∃ g1 g2 g3, D = [(x, g1), (y, g2), (z, g3)] := by
  match D, h with
  | [(a, g1), (b, g2), (c, g3)], h =>
    simp only [List.map_cons, List.map_nil, List.cons.injEq, and_true] at h
    obtain ⟨rfl, rfl, rfl⟩ := h
    exact ⟨g1, g2, g3, rfl⟩
theorem v_four {D : List (NewV × Nat)} {x y z u : NewV} (h : D.map (·.1) = [x, y, z, u]) : ∃ g1 g2 g3 g4, D = [(x, g1), (y, g2), (z, g3), (u, g4)] := by
  match D, h with
  | [(a, g1), (b, g2), (c, g3), (d, g4)], h =>
    simp only [List.map_cons, List.map_nil, List.cons.injEq, and_true] at h
    obtain ⟨rfl, rfl, rfl, rfl⟩ := h
    exact ⟨g1, g2, g3, g4, rfl⟩
/-- The operation that makes a new variable. -/
theorem makes_new {P : Program} {ops : Array Oper} {i d : Nat} {ty : TypeId} {z : List Value} {o : Oper} (ho : ops[i]? = some o) (hop : o.op = .alloc ty) (hd : o.dst = some d) (hg : o.guard = none)
    (hz : ∀ w, (zeroValue ty).run P w = .ok (.agg z.toArray) w) : MakesV P ops ⟨i, d, ty, z.toArray⟩ := by
  intro Q K a w h
  unfold wpOp
  simp only [ho]
  have hw : Region.wanted o (yielded ops a.tmps) = true := by simp [Region.wanted, hg]
  rw [if_pos hw]
  refine .inl ?_
  unfold Oper.wp
  simp [execOp, hop, Instr.alloc, hz, newVar, newRow, Value.cells]
  rw [Oper.upon_value, hd]
  exact h
end Go.Proofs.YtcefdcjpddohaaaDoor
namespace Go.Proofs.YtcefdcjpddohaaaDoor
open Go.RowKit

section
variable {P : Program} {ops : Array Oper} {Q : Exit → Act → World → Prop} {md : Region.Mode} {S : World → Prop} {c : Nat}
def wpAnyC (P : Program) (md : Region.Mode) (ops : Array Oper) (Q : Exit → Act → World → Prop) (S : World → Prop) (c : Nat) : Nat → Array Bool → Act → World → Prop
  | 0, listed, a, w => Region.ready md ops listed = [] ∧ Q .normal a w
  | fuel + 1, listed, a, w =>
    (Region.ready md ops listed = [] → Q .normal a w) ∧
    ∀ i ∈ Region.ready md ops listed, wpOp P ops Q i (fun a' w' => ((listed.setIfInBounds i true).getD c true = false → S w') ∧ wpAnyC P md ops Q S c fuel (listed.setIfInBounds i true) a' w') a w
theorem any_of_c : ∀ (fuel : Nat) (listed : Array Bool) (a : Act) (w : World), wpAnyC P md ops Q S c fuel listed a w → wpAny P md ops Q fuel listed a w
  | 0, _, _, _, h => h
  | fuel + 1, _, _, _, h => ⟨h.1, fun i hi => wpOp_mono (fun a' w' h' => any_of_c fuel _ a' w' h'.2) (h.2 i hi)⟩
theorem getD_stays {listed : Array Bool} {i c : Nat} (h : listed.getD c true = true) : (listed.setIfInBounds i true).getD c true = true := by
  by_cases hic : i = c
  · subst hic
    rcases Nat.lt_or_ge i listed.size with h' | h'
    · simp [h']
    · simp
  · rw [getD_set_ne true hic]; exact h
/-- Behind c another condition may be held, or none. -/
theorem c_of_held {S' : World → Prop} : ∀ (fuel : Nat) (listed : Array Bool) (a : Act) (w : World), listed.getD c true = true → wpAnyH P md ops Q S' fuel listed a w → wpAnyC P md ops Q S c fuel listed a w
  | 0, _, _, _, _, h => h
  | fuel + 1, _, _, _, hc, h => ⟨h.1, fun i hi => wpOp_mono (fun a' w' h' => ⟨fun h0 => (by rw [getD_stays hc] at h0; cases h0), c_of_held fuel _ a' w' (getD_stays hc) h'.2⟩) (h.2 i hi)⟩
theorem c_first {S' : World → Prop} {i : Nat} {oi : Oper} {v : Value} (hi : ops[i]? = some oi) (hsel : ∀ (j : Nat) (o : Oper) cs b, ops[j]? = some o → o.op ≠ .select cs b) (hci : i ≠ c)
    (hQ : ∀ x a w, Q (.panic x) (a.put oi.dst v) w → Q (.panic x) a w) :
    ∀ (fuel : Nat) (listed : Array Bool) (a : Act) (w : World),
      (∀ j oj, ops[j]? = some oj → j ≠ i → listed.getD j true = false → (∀ e ∈ oj.after, Region.binds md e = true → e.on ≠ i) → oi.apart ops oj = true) →
      i ∈ Region.ready md ops listed → YieldsIf P ops S' oi v a →
      ((∀ w, S' w) ∨ ((∀ w, S w → S' w) ∧ Region.waitsFor md ops c i = true ∧ listed.getD c true = false)) → (listed.getD c true = false → S w) →
      wpAnyC P md ops Q S c fuel (listed.setIfInBounds i true) (a.put oi.dst v) w → wpAnyC P md ops Q S c (fuel + 1) listed a w := by
  intro fuel
  induction fuel with
  | zero =>
    intro listed a w _ hr hy hcond hS H
    have hS' : S' w := hcond.elim (fun h => h w) (fun h => h.1 w (hS h.2.2))
    refine ⟨fun h => (by rw [h] at hr; cases hr), fun j hj => ?_⟩
    by_cases hji : j = i
    · subst hji; exact hy.wpOp hi hS' ⟨fun h0 => hS (by rwa [getD_set_ne true hci] at h0), H⟩
    · have := ready_mono hj hji
      rw [H.1] at this
      cases this
  | succ fuel ih =>
    intro listed a w hfree hr hy hcond hS H
    have hS' : S' w := hcond.elim (fun h => h w) (fun h => h.1 w (hS h.2.2))
    refine ⟨fun h => (by rw [h] at hr; cases hr), fun j hj => ?_⟩
    by_cases hji : j = i
    · subst hji; exact hy.wpOp hi hS' ⟨fun h0 => hS (by rwa [getD_set_ne true hci] at h0), H⟩
    · have h1 := H.2 j (ready_mono hj hji)
      obtain ⟨hjun, oj, hoj, hall⟩ := mem_ready.1 hj
      have hnot : ∀ e ∈ oj.after, Region.binds md e = true → e.on ≠ i := fun e he hb heq => by
        have h1 := hall e he hb
        have h0 := (mem_ready.1 hr).1
        rw [heq] at h1
        rcases Nat.lt_or_ge i listed.size with h' | h'
        · simp [h'] at h0 h1; rw [h0] at h1; cases h1
        · simp [Array.getElem?_eq_none h'] at h1
      have h2 := wpOp_putIf hoj (hfree j oj hoj hji hjun hnot) (fun cs b => hsel i oi cs b hi) (fun cs b => hsel j oj cs b hoj) hQ hy h1
      have hfree' : ∀ k ok, ops[k]? = some ok → k ≠ i → (listed.setIfInBounds j true).getD k true = false →
          (∀ e ∈ ok.after, Region.binds md e = true → e.on ≠ i) → oi.apart ops ok = true := fun k ok hk hki hun hno => by
        refine hfree k ok hk hki ?_ hno
        by_cases hjk : j = k
        · subst hjk; exact hjun
        · rw [getD_set_ne true hjk] at hun; exact hun
      have hcond' : (∀ w, S' w) ∨ ((∀ w, S w → S' w) ∧ Region.waitsFor md ops c i = true ∧ (listed.setIfInBounds j true).getD c true = false) := by
        rcases hcond with h | ⟨h3, h4, h5⟩
        · exact .inl h
        · have hjc : j ≠ c := by
            rintro rfl
            obtain ⟨oj', hoj', e, he, hb, hon⟩ := Region.waitsFor_spec h4
            obtain rfl := Option.some.inj (hoj'.symm.trans hoj)
            exact hnot e he hb hon
          exact .inr ⟨h3, h4, by rw [getD_set_ne true hjc]; exact h5⟩
      refine wpOp_mono (fun a' w' h3 => ?_) h2
      have hS3 : (listed.setIfInBounds j true).getD c true = false → S w' := fun h0 => h3.2.1 (by rw [Array.setIfInBounds_comm _ _ (Ne.symm hji), getD_set_ne true hci]; exact h0)
      refine ⟨hS3, ih (listed.setIfInBounds j true) a' w' hfree' (ready_mono hr (Ne.symm hji)) h3.1 hcond' hS3 ?_⟩
      rw [Array.setIfInBounds_comm _ _ hji]
      exact h3.2.2

/-- An operation that yields in whatever world. -/
theorem c_take {i : Nat} {oi : Oper} {v : Value} {fuel : Nat} {listed : Array Bool} {a : Act} {w : World} (hi : ops[i]? = some oi) (hci : i ≠ c)
    (hs : Region.noSelect ops = true) (hf : Region.free md ops listed i = true) (hr : (Region.ready md ops listed).contains i = true)
    (hQ : ∀ c a w, Q (.panic c) (a.put oi.dst v) w → Q (.panic c) a w) (hy : YieldsIf P ops (fun _ => True) oi v a) (hS : S w)
    (h : wpAnyC P md ops Q S c fuel (listed.setIfInBounds i true) (a.put oi.dst v) w) : wpAnyC P md ops Q S c (fuel + 1) listed a w :=
  c_first hi (Region.noSelect_spec hs) hci hQ fuel listed a w (Region.free_spec hi hf) (by simpa using hr) hy (.inl fun _ => trivial) (fun _ => hS) h
/-- An operation that yields in every world that meets S, and that c waits for. -/
theorem c_read {i : Nat} {oi : Oper} {v : Value} {fuel : Nat} {listed : Array Bool} {a : Act} {w : World} (hi : ops[i]? = some oi) (hci : i ≠ c)
    (hs : Region.noSelect ops = true) (hf : Region.free md ops listed i = true) (hr : (Region.ready md ops listed).contains i = true) (hw : Region.waitsFor md ops c i = true) (hun : listed.getD c true = false)
    (hQ : ∀ c a w, Q (.panic c) (a.put oi.dst v) w → Q (.panic c) a w) (hy : YieldsIf P ops S oi v a) (hS : S w)
    (h : wpAnyC P md ops Q S c fuel (listed.setIfInBounds i true) (a.put oi.dst v) w) : wpAnyC P md ops Q S c (fuel + 1) listed a w :=
  c_first hi (Region.noSelect_spec hs) hci hQ fuel listed a w (Region.free_spec hi hf) (by simpa using hr) hy (.inr ⟨fun _ h => h, hw, hun⟩) (fun _ => hS) h
/-- Another operation, where nothing else can come up; S stays. -/
theorem c_step {i : Nat} {o : Oper} {fuel : Nat} {listed : Array Bool} {a : Act} {w : World} (hr : Region.ready md ops listed = [i]) (ho : ops[i]? = some o)
    (h : ∀ K' : Act → World → Prop, Shut (∀ a w, S w → (S w → wpAnyC P md ops Q S c fuel (listed.setIfInBounds i true) a w) → K' a w) → if Region.wanted o (yielded ops a.tmps) = true then Oper.wp P o a w K' Q else K' (a.put o.dst undef) w) :
    wpAnyC P md ops Q S c (fuel + 1) listed a w := by
  refine ⟨fun h0 => (by rw [hr] at h0; cases h0), fun j hj => ?_⟩
  rw [hr] at hj
  obtain rfl : j = i := by simpa using hj
  exact wpOp_step ho (fun K' hK => h K' (fun a w hS hW => hK a w ⟨fun _ => hS, hW hS⟩))
/-- c itself, where nothing else can come up; behind it S' is held. -/
theorem c_call {S' : World → Prop} {o : Oper} {fuel : Nat} {listed : Array Bool} {a : Act} {w : World} (hr : Region.ready md ops listed = [c]) (hl : (listed.setIfInBounds c true).getD c true = true) (ho : ops[c]? = some o)
    (h : ∀ K' : Act → World → Prop, Shut (∀ a w, S' w → (S' w → wpAnyH P md ops Q S' fuel (listed.setIfInBounds c true) a w) → K' a w) → if Region.wanted o (yielded ops a.tmps) = true then Oper.wp P o a w K' Q else K' (a.put o.dst undef) w) :
    wpAnyC P md ops Q S c (fuel + 1) listed a w := by
  refine ⟨fun h0 => (by rw [hr] at h0; cases h0), fun i hi => ?_⟩
  rw [hr] at hi
  obtain rfl : i = c := by simpa using hi
  exact wpOp_step ho (fun K' hK => h K' (fun a w hS hW => hK a w ⟨fun h0 => (by rw [hl] at h0; cases h0), c_of_held fuel _ a w hl (hW hS)⟩))
theorem c_start {id : Nat} {a : Act} {w : World} (c : Nat) (hm : P.follows .mixedOrders = true) (hS : S w.drew)
    (h : S w.drew → wpAnyC P .any ops Q S c ops.size (Array.replicate ops.size false) a w.drew) : (Code.region id ops true).wp P Q a w :=
  wp_region_any hm (any_of_c _ _ _ _ (h hS))
end

/-- A number is stored into a block that is known whole, as one step of a region that draws its order. -/
theorem step_set {P : Program} {ops : Array Oper} {o : Oper} {a : Act} {w : World} {K : Act → World → Prop} {Q : Exit → Act → World → Prop} {E : Prop} (hgd : o.guard = none) (ty : TypeId) (x y : Operand) (ho : o.op = .store ty x y)
    (hs : (P.info? ty).map (·.size) = some 1) (g k : Nat) (hx : a.eval x = .pointer (some ⟨g, k, none⟩)) (kd : IntKind) (n : Int) (hy : a.eval y = .int kd n) (cs : List Value) (t : TypeId)
    (hg : w.heap[g]? = some (.cells cs.toArray t (0, 0))) (hk : k < cs.length) (w0 : World) (hb : But g w0 w)
    (h : ∀ w', Hid (w'.heap[g]? = some (.cells (cs.set k (.int kd n)).toArray t (0, 0))) → But g w0 w' → K (a.put o.dst undef) w') :
    if Region.wanted o (yielded ops a.tmps) = true then Oper.wp P o a w K Q else E := by
  have hw : Region.wanted o (yielded ops a.tmps) = true := by simp [Region.wanted, hgd]
  rw [if_pos hw]
  obtain ⟨i, hi', hi2⟩ := Option.map_eq_some_iff.1 hs
  have hc : w.cell? ⟨g, k, none⟩ = some cs[k] := by rw [cell_of_row _ _ _ _ _ _ hg]; simp [hk]
  have hf : w.frozen? ⟨g, k, none⟩ = false := frozen_of_row _ _ _ _ _ hg
  have h1 := heap_setCell_same w g k _ _ (.int kd n) hg
  have h2 := h (w.setCell ⟨g, k, none⟩ (.int kd n)) (show _ = _ by rw [h1]; simp) (hb.set _)
  unfold Oper.wp
  simp [execOp, ho, hx, hy, Instr.storeAt, Instr.sureAddr, storeVar, sizeOf, typeInfo, hi', hi2, Value.cells, storeCells, run_store_int, stored, hc, hf, addr_add]
  exact h2
end Go.Proofs.YtcefdcjpddohaaaDoor
namespace Go.Proofs.YtcefdcjpddohaaaDoor
open Go.RowKit

theorem fadd_any (w : World) (a b : List UInt8) (ha : a.length = 32) (hb : b.length = 32) :
    Calls Tryd.prog 54 #[.agg (bv a).toArray, .agg (bv b).toArray] w fun e w' => ∃ l, e = .returned (.agg (bv l).toArray) ∧ Vlt (cW l = cW a + cW b ∧ ln l < FP) ∧ Hid (l.length = 32) ∧ Below w.heap.size w w' := by
  refine (add_any w a b ha hb).mono ?_
  rintro e w' ⟨l, rfl, h, hl, hbw⟩
  exact ⟨l, rfl, vlt ⟨by rw [h.out, cW_wo, cF_add]; rfl, by rw [h.out]; exact cW_lt _⟩, hl, hbw⟩
theorem fsub_any (w : World) (a b : List UInt8) (ha : a.length = 32) (hb : b.length = 32) :
    Calls Tryd.prog 47 #[.agg (bv a).toArray, .agg (bv b).toArray] w fun e w' => ∃ l, e = .returned (.agg (bv l).toArray) ∧ Vlt (cW l = cW a - cW b ∧ ln l < FP) ∧ Hid (l.length = 32) ∧ Below w.heap.size w w' := by
  refine (sub_any w a b ha hb).mono ?_
  rintro e w' ⟨l, rfl, h, hl, hbw⟩
  exact ⟨l, rfl, vlt ⟨by rw [h.out, cW_wo, cF_sub]; rfl, by rw [h.out]; exact cW_lt _⟩, hl, hbw⟩
theorem fmul_any (w : World) (a b : List UInt8) (ha : a.length = 32) (hb : b.length = 32) :
    Calls Tryd.prog 48 #[.agg (bv a).toArray, .agg (bv b).toArray] w fun e w' => ∃ l, e = .returned (.agg (bv l).toArray) ∧ Vlt (cW l = cW a * cW b ∧ ln l < FP) ∧ Hid (l.length = 32) ∧ Below w.heap.size w w' := by
  refine (mul_any w a b ha hb).mono ?_
  rintro e w' ⟨l, rfl, h, hl, hbw⟩
  exact ⟨l, rfl, vlt ⟨by rw [h.out, cW_wo, cF_mul]; rfl, by rw [h.out]; exact cW_lt _⟩, hl, hbw⟩
theorem finv_any (w : World) (a : List UInt8) (ha : a.length = 32) :
    Calls Tryd.prog 52 #[.agg (bv a).toArray] w fun e w' => ∃ l, e = .returned (.agg (bv l).toArray) ∧ Vlt (cW l = ivF (cW a) ∧ ln l < FP) ∧ Hid (l.length = 32) ∧ Below w.heap.size w w' := by
  refine (inv_any w a ha).mono ?_
  rintro e w' ⟨l, rfl, h, hl, hbw⟩
  exact ⟨l, rfl, vlt ⟨by rw [h.out, cW_wo, cW, ivF_cF], by rw [h.out]; exact cW_lt _⟩, hl, hbw⟩
/-- The package's tables lie as its text lays them: field's number, the curve's. -/
def bendL : List UInt8 := [0xa3, 0x78, 0x59, 0x13, 0xca, 0x4d, 0xeb, 0x75, 0xab, 0xd8, 0x41, 0x41, 0x4d, 0x0a, 0x70, 0x00, 0x98, 0xe8, 0x79, 0x77, 0x79, 0x40, 0xc7, 0x8c, 0x73, 0xfe, 0x6f, 0x2b, 0xee, 0x6c, 0x03, 0x52]
theorem bendL_len : bendL.length = 32 := rfl
theorem bendL_is : cW bendL = cF dE := by rw [cW, show ln bendL = dE by decide +kernel]
structure LaidP (w : World) : Prop where
  turn : Laid w
  bend : ∀ (k : Nat) (x : UInt8), bendL[k]? = some x → w.cell? ⟨1, k, none⟩ = some (.int .u8 (x.toNat : Int))
  size : 1 < w.heap.size
theorem LaidP.below {w w' : World} {B : Nat} (h : LaidP w) (hB : 1 < B) (hB2 : 4 < B) (hb : Below B w w') : LaidP w' :=
  ⟨h.turn.below hB2 hb, fun k x hx => (World.cell?_of_block (hb.block 1 hB)).trans (h.bend k x hx), Nat.lt_of_lt_of_le h.size hb.size⟩
theorem LaidP.next {w w' : World} (h : LaidP w) (hb : Below w.heap.size w w') : LaidP w' := h.below h.size h.turn.2 hb
theorem LaidP.but {w w' : World} {g : Nat} (h : LaidP w) (hg : 1 < g) (hg2 : 4 < g) (hb : But g w w') : LaidP w' :=
  ⟨⟨fun k x hx => (World.cell?_of_block (hb.block 4 h.turn.2 (by intro e; injection e; omega))).trans (h.turn.1 k x hx), Nat.lt_of_lt_of_le h.turn.2 hb.size⟩,
    fun k x hx => (World.cell?_of_block (hb.block 1 h.size (by intro e; injection e with e; exact absurd e (Nat.ne_of_lt hg)))).trans (h.bend k x hx), Nat.lt_of_lt_of_le h.size hb.size⟩
theorem LaidP.range {w : World} (h : LaidP w) : w.rangeAt 1 0 (bv bendL) := by
  intro j v hj
  rw [bv_at] at hj
  obtain ⟨x, hx, rfl⟩ := Option.map_eq_some_iff.1 hj
  rw [Nat.zero_add]
  exact h.bend j x hx
theorem froot_any (w : World) (hla : LaidP w) (a : List UInt8) (ha : a.length = 32) (hlt : Vlt (ln a < FP)) :
    Calls Tryd.prog 62 #[.agg (bv a).toArray] w fun e w' => ∃ l ok, e = .returned (.tuple #[.agg (bv l).toArray, .bool ok]) ∧
      Vlt ((ok = true → cW l * cW l = cW a ∧ ln l % 2 = 0 ∧ ln l < FP) ∧ (ok = false → l = z32 ∧ ∀ x : Fin FP, x * x ≠ cW a)) ∧ Hid (l.length = 32) ∧ Below w.heap.size w w' := by
  refine (root_any w hla.turn a ha).mono ?_
  rintro e w' ⟨l, ok, rfl, h, hl, hbw⟩
  refine ⟨l, ok, rfl, vlt ⟨fun hk => ?_, fun hk => ?_⟩, hl, hbw⟩
  · subst hk; exact root_some_E rfl h.out
  · subst hk; exact ⟨root_no h.out, root_none_E rfl hlt.out h.out⟩

/-! ### Worlds -/
theorem row_but {w w' : World} {g c : Nat} {X : Obj} (h : Hid (w.heap[c]? = some X)) (hb : But g w w') (hne : c ≠ g) : Hid (w'.heap[c]? = some X) :=
  (hb.block c (Array.getElem?_eq_some_iff.1 h.out).1 (fun e => hne (by injection e))).trans h.out
theorem row_size {w : World} {c : Nat} {X : Obj} (h : Hid (w.heap[c]? = some X)) : c < w.heap.size := (Array.getElem?_eq_some_iff.1 h.out).1
theorem row_next2 {w w' : World} {c : Nat} {X : Obj} (h : Hid (w.heap[c]? = some X)) (hb : Below w.heap.size w w') : Hid (w'.heap[c]? = some X) :=
  (hb.block c (Array.getElem?_eq_some_iff.1 h.out).1).trans h.out
/-- In a world that keeps S's blocks. -/
theorem row_S {w w' : World} {g c : Nat} {X : Obj} (h : Hid (w.heap[c]? = some X)) (hb : But g w w') (hne : c ≠ g) : w'.heap[c]? = some X := (row_but h hb hne).out
theorem But.on {g n : Nat} {a w w' : World} (h : But g a w) (k : But n w w') (hn : a.heap.size ≤ n) : But g a w' :=
  ⟨k.os.trans h.os, k.tape.trans h.tape, k.output.trans h.output, Nat.le_trans h.size k.size, fun i hi hne => (k.block i (Nat.lt_of_lt_of_le hi h.size) (fun e => by injection e; omega)).trans (h.block i hi hne)⟩
theorem But.go {g : Nat} {a b c : World} (h : But g a b) (k : Below b.heap.size b c) : But g a c := h.below_to k (Nat.le_refl _)
/-- A whole row is stored, as one step. -/
theorem step_row {P : Program} {ops : Array Oper} {o : Oper} {a : Act} {w : World} {K : Act → World → Prop} {Q : Exit → Act → World → Prop} {E : Prop} (hgd : o.guard = none) (ty : TypeId) (x y : Operand) (ho : o.op = .store ty x y)
    (g : Nat) (cells : List Value) (hx : a.eval x = .pointer (some ⟨g, 0, none⟩)) (hy : a.eval y = .agg cells.toArray) (t : TypeId) (old : Array Value) (hg : w.heap[g]? = some (.cells old t (0, 0)))
    (hi : (P.info? ty).map (·.size) = some cells.length) (hold : old.size = cells.length) (h1 : ∀ v ∈ cells, v.oneCell' = true)
    (h : ∀ w', Hid (w'.heap[g]? = some (.cells cells.toArray t (0, 0))) → But g w w' → K (a.put o.dst undef) w') : if Region.wanted o (yielded ops a.tmps) = true then Oper.wp P o a w K Q else E :=
  step_store_row hgd ty x y ho g cells.toArray hx hy t old hg (by simpa using hi) (by simpa using hold) (all_oneCell_toArray h1)
    (h _ (setRow_heap _ _ _ _ _ _ hg) ((But.refl _ _).row _))
/-- What lies there is stored there again. -/
theorem step_same {P : Program} {ops : Array Oper} {o : Oper} {a : Act} {w : World} {K : Act → World → Prop} {Q : Exit → Act → World → Prop} {E : Prop} (hgd : o.guard = none) (ty : TypeId) (x y : Operand) (ho : o.op = .store ty x y)
    (g : Nat) (cells : List Value) (hx : a.eval x = .pointer (some ⟨g, 0, none⟩)) (hy : a.eval y = .agg cells.toArray) (t : TypeId) (hg : w.heap[g]? = some (.cells cells.toArray t (0, 0)))
    (hi : (P.info? ty).map (·.size) = some cells.length) (h1 : ∀ v ∈ cells, v.oneCell' = true)
    (h : ∀ w', Below w.heap.size w w' → K (a.put o.dst undef) w') : if Region.wanted o (yielded ops a.tmps) = true then Oper.wp P o a w K Q else E :=
  step_row hgd ty x y ho g cells hx hy t _ hg hi (by simp) h1 fun w' hr hb => h w' ⟨hb.os, hb.tape, hb.output, hb.size, fun i hi => by
    by_cases hig : i = g
    · rw [hig, hr.out, hg]
    · exact hb.block i hi (fun e => hig (by injection e))⟩
/-- A part of a row. -/
theorem range_sub {w : World} {g o n : Nat} {p : List UInt8} {t : TypeId} (hg : w.heap[g]? = some (.cells (bv p).toArray t (0, 0))) : w.rangeAt g o (bv (sub p o n)) := by
  intro j v hj
  rw [cell_of_row _ _ _ _ _ _ hg]
  simp only [List.getElem?_toArray]
  rw [bv_at] at hj ⊢
  obtain ⟨x, hx, rfl⟩ := Option.map_eq_some_iff.1 hj
  rw [sub, List.getElem?_take, List.getElem?_drop] at hx
  split at hx
  · rw [hx]; rfl
  · cases hx
/-- A region in the text's order, met as one whose order is open. -/
theorem plain_start {P : Program} {ops : Array Oper} {Q : Exit → Act → World → Prop} {S : World → Prop} {id : Nat} {a : Act} {w : World}
    (hl : Region.linearise.go .any ops ops.size 0 (Array.replicate ops.size false) [] = List.range ops.size) (hS : S w)
    (h : S w → wpAnyH P .any ops Q S ops.size (Array.replicate ops.size false) a w) : (Code.region id ops false).wp P Q a w :=
  wp_region (hl ▸ wpAny_sound ops.size 0 _ _ _ (wpAny_of_held _ _ _ _ (h hS)))
theorem plain_start_c {P : Program} {ops : Array Oper} {Q : Exit → Act → World → Prop} {S : World → Prop} {id : Nat} {a : Act} {w : World} (c : Nat)
    (hl : Region.linearise.go .any ops ops.size 0 (Array.replicate ops.size false) [] = List.range ops.size) (hS : S w)
    (h : S w → wpAnyC P .any ops Q S c ops.size (Array.replicate ops.size false) a w) : (Code.region id ops false).wp P Q a w :=
  wp_region (hl ▸ wpAny_sound ops.size 0 _ _ _ (any_of_c _ _ _ _ (h hS)))
section
variable {P : Program} {ops : Array Oper} {Q : Exit → Act → World → Prop} {md : Region.Mode} {S : World → Prop} {c : Nat}
theorem c_first2 {i k : Nat} {oi : Oper} {v : Value} (hi : ops[i]? = some oi) (hsel : ∀ (j : Nat) (o : Oper) cs b, ops[j]? = some o → o.op ≠ .select cs b) (hci : i ≠ c) (hki : i ≠ k)
    (hck : Region.waitsFor md ops c k = true) (hkw : Region.waitsFor md ops k i = true) (hQ : ∀ x a w, Q (.panic x) (a.put oi.dst v) w → Q (.panic x) a w) :
    ∀ (fuel : Nat) (listed : Array Bool) (a : Act) (w : World),
      (∀ j oj, ops[j]? = some oj → j ≠ i → listed.getD j true = false → (∀ e ∈ oj.after, Region.binds md e = true → e.on ≠ i) → oi.apart ops oj = true) →
      i ∈ Region.ready md ops listed → YieldsIf P ops S oi v a → listed.getD c true = false → listed.getD k true = false → (listed.getD c true = false → S w) →
      wpAnyC P md ops Q S c fuel (listed.setIfInBounds i true) (a.put oi.dst v) w → wpAnyC P md ops Q S c (fuel + 1) listed a w := by
  intro fuel
  induction fuel with
  | zero =>
    intro listed a w _ hr hy hc hk hS H
    refine ⟨fun h => (by rw [h] at hr; cases hr), fun j hj => ?_⟩
    by_cases hji : j = i
    · subst hji; exact hy.wpOp hi (hS hc) ⟨fun h0 => hS (by rwa [getD_set_ne true hci] at h0), H⟩
    · have := ready_mono hj hji
      rw [H.1] at this
      cases this
  | succ fuel ih =>
    intro listed a w hfree hr hy hc hk hS H
    refine ⟨fun h => (by rw [h] at hr; cases hr), fun j hj => ?_⟩
    by_cases hji : j = i
    · subst hji; exact hy.wpOp hi (hS hc) ⟨fun h0 => hS (by rwa [getD_set_ne true hci] at h0), H⟩
    · have h1 := H.2 j (ready_mono hj hji)
      obtain ⟨hjun, oj, hoj, hall⟩ := mem_ready.1 hj
      have hnot : ∀ e ∈ oj.after, Region.binds md e = true → e.on ≠ i := fun e he hb heq => by
        have h1 := hall e he hb
        have h0 := (mem_ready.1 hr).1
        rw [heq] at h1
        rcases Nat.lt_or_ge i listed.size with h' | h'
        · simp [h'] at h0 h1; rw [h0] at h1; cases h1
        · simp [Array.getElem?_eq_none h'] at h1
      have h2 := wpOp_putIf hoj (hfree j oj hoj hji hjun hnot) (fun cs b => hsel i oi cs b hi) (fun cs b => hsel j oj cs b hoj) hQ hy h1
      have hfree' : ∀ k ok, ops[k]? = some ok → k ≠ i → (listed.setIfInBounds j true).getD k true = false →
          (∀ e ∈ ok.after, Region.binds md e = true → e.on ≠ i) → oi.apart ops ok = true := fun k ok hk hki hun hno => by
        refine hfree k ok hk hki ?_ hno
        by_cases hjk : j = k
        · subst hjk; exact hjun
        · rw [getD_set_ne true hjk] at hun; exact hun
      have hjk : j ≠ k := by
        rintro rfl
        obtain ⟨oj', hoj', e, he, hb, hon⟩ := Region.waitsFor_spec hkw
        obtain rfl := Option.some.inj (hoj'.symm.trans hoj)
        exact hnot e he hb hon
      have hjc : j ≠ c := by
        rintro rfl
        obtain ⟨oj', hoj', e, he, hb, hon⟩ := Region.waitsFor_spec hck
        obtain rfl := Option.some.inj (hoj'.symm.trans hoj)
        have h3 := hall e he hb
        rw [hon, getD_two hk] at h3
        cases h3
      have hc' : (listed.setIfInBounds j true).getD c true = false := by rw [getD_set_ne true hjc]; exact hc
      have hk' : (listed.setIfInBounds j true).getD k true = false := by rw [getD_set_ne true hjk]; exact hk
      refine wpOp_mono (fun a' w' h3 => ?_) h2
      have hS3 : (listed.setIfInBounds j true).getD c true = false → S w' := fun h0 => h3.2.1 (by rw [Array.setIfInBounds_comm _ _ (Ne.symm hji), getD_set_ne true hci]; exact h0)
      refine ⟨hS3, ih (listed.setIfInBounds j true) a' w' hfree' (ready_mono hr (Ne.symm hji)) h3.1 hc' hk' hS3 ?_⟩
      rw [Array.setIfInBounds_comm _ _ hji]
      exact h3.2.2
/-- An operation that yields in every world that meets S; c waits for k, and k for it. -/
theorem c_read2 {i : Nat} (k : Nat) {oi : Oper} {v : Value} {fuel : Nat} {listed : Array Bool} {a : Act} {w : World} (hi : ops[i]? = some oi) (hci : i ≠ c) (hki : i ≠ k)
    (hs : Region.noSelect ops = true) (hf : Region.free md ops listed i = true) (hr : (Region.ready md ops listed).contains i = true) (hck : Region.waitsFor md ops c k = true) (hkw : Region.waitsFor md ops k i = true) (hun : listed.getD c true = false) (hk : listed.getD k true = false)
    (hQ : ∀ c a w, Q (.panic c) (a.put oi.dst v) w → Q (.panic c) a w) (hy : YieldsIf P ops S oi v a) (hS : S w)
    (h : wpAnyC P md ops Q S c fuel (listed.setIfInBounds i true) (a.put oi.dst v) w) : wpAnyC P md ops Q S c (fuel + 1) listed a w :=
  c_first2 hi (Region.noSelect_spec hs) hci hki hck hkw hQ fuel listed a w (Region.free_spec hi hf) (by simpa using hr) hy hun hk (fun _ => hS) h
end
/-- A struct built out of parts of equal length. -/
theorem fold_splice (v : List Value) : ∀ (k off : Nat) (cs : List Value), off + k + v.length ≤ cs.length →
    (v.zipIdx k).foldl (fun (cs : Array Value) x => cs.setIfInBounds (off + x.2) x.1) cs.toArray = (splice cs (off + k) v).toArray := by
  induction v with
  | nil => intro k off cs _; simp [splice]
  | cons c v ih =>
    intro k off cs h
    simp only [List.length_cons] at h
    rw [List.zipIdx_cons, List.foldl_cons]
    simp only [List.setIfInBounds_toArray]
    rw [ih (k + 1) off _ (by rw [List.length_set]; omega)]
    have hlt : off + k < cs.length := by omega
    have e1 : splice (cs.set (off + k) c) (off + (k + 1)) v = splice cs (off + k) (c :: v) := by
      rw [List.set_eq_take_append_cons_drop, if_pos hlt]
      simp only [splice]
      have hl : (List.take (off + k) cs).length = off + k := by rw [List.length_take]; omega
      rw [List.take_append, List.drop_append, hl, show off + (k + 1) - (off + k) = 1 by omega, show off + (k + 1) + v.length - (off + k) = v.length + 1 by omega, List.take_of_length_le (by omega),
        show List.drop (off + (k + 1) + v.length) (List.take (off + k) cs) = [] from List.drop_eq_nil_of_le (by rw [hl]; omega), List.nil_append, List.drop_succ_cons, List.drop_drop, show off + k + 1 + v.length = off + k + (v.length + 1) by omega]
      simp
    rw [e1]
theorem fill_part {place : Nat → Option (Nat × Nat)} (cs v : List Value) (i off : Nat) (rest : List (Nat × Value)) (hp : place i = some (off, v.length)) (hfit : off + v.length ≤ cs.length) :
    Instr.fill place cs.toArray ((i, .agg v.toArray) :: rest) = Instr.fill place (splice cs off v).toArray rest := by
  have h := fold_splice v 0 off cs (by simpa using hfit)
  rw [Instr.fill, hp]
  simp [Value.cells, show ¬ cs.length < off + v.length by omega]
  exact congrArg (fun x => Instr.fill place x rest) h
theorem splice_at (A B C x : List Value) (h : B.length = x.length) : splice (A ++ (B ++ C)) A.length x = A ++ (x ++ C) := by
  simp only [splice]
  rw [List.take_left', List.drop_append, List.drop_eq_nil_of_le (by omega), List.nil_append, show A.length + x.length - A.length = x.length by omega, List.drop_left' h]
  rfl
theorem built_parts {P : Program} {T : TypeId} {fs : Array Field} {it : TypeInfo} {z : Value} {n : Nat} {zs : List Value} (hi : P.info? T = some it) (hz : it.zero = some z) (hzc : z.cells = (zs ++ (zs ++ (zs ++ zs))).toArray) (hzl : zs.length = n) (hu : P.underlying T = some (.struct fs))
    (hp : fs.toList.mapM (fun f => (P.info? f.type).map fun i => (f.offset, i.size)) = some [(0, n), (n, n), (n + n, n), (n + n + n, n)]) (x y c t : List Value) (hx : x.length = n) (hy : y.length = n) (hc : c.length = n) (ht : t.length = n) :
    P.built T [(0, .agg x.toArray), (1, .agg y.toArray), (2, .agg c.toArray), (3, .agg t.toArray)] = some (x ++ (y ++ (c ++ t))).toArray := by
  unfold Program.built
  simp only [hi, hu, hz, hp]
  rw [hzc]
  have hl : ∀ a b c d : List Value, a.length = n → b.length = n → c.length = n → d.length = n → (a ++ (b ++ (c ++ d))).length = n + n + n + n := by intro a b c d h1 h2 h3 h4; simp [h1, h2, h3, h4]; omega
  rw [fill_part _ x 0 0 _ (by rw [hx]; rfl) (by rw [hl _ _ _ _ hzl hzl hzl hzl]; omega)]
  rw [show splice (zs ++ (zs ++ (zs ++ zs))) 0 x = x ++ (zs ++ (zs ++ zs)) from splice_at [] zs _ x (by omega)]
  rw [fill_part _ y 1 n _ (by rw [hy]; rfl) (by rw [hl _ _ _ _ hx hzl hzl hzl]; omega)]
  rw [show splice (x ++ (zs ++ (zs ++ zs))) n y = x ++ (y ++ (zs ++ zs)) by have h := splice_at x zs (zs ++ zs) y (by omega); rwa [hx] at h]
  rw [fill_part _ c 2 (n + n) _ (by rw [hc]; rfl) (by rw [hl _ _ _ _ hx hy hzl hzl]; omega)]
  rw [show splice (x ++ (y ++ (zs ++ zs))) (n + n) c = x ++ (y ++ (c ++ zs)) by have h := splice_at (x ++ y) zs zs c (by omega); rw [List.append_assoc, List.length_append, hx, hy] at h; rw [h, List.append_assoc]]
  rw [fill_part _ t 3 (n + n + n) _ (by rw [ht]; rfl) (by rw [hl _ _ _ _ hx hy hc hzl]; omega)]
  rw [show splice (x ++ (y ++ (c ++ zs))) (n + n + n) t = x ++ (y ++ (c ++ t)) by have h := splice_at (x ++ (y ++ c)) zs [] t (by omega); simp only [List.append_nil, List.append_assoc, List.length_append, hx, hy, hc] at h; rw [← h, Nat.add_assoc]]
  rfl
set_option maxRecDepth 100000 in
theorem built_place (x y c t : List UInt8) (hx : x.length = 32) (hy : y.length = 32) (hc : c.length = 32) (ht : t.length = 32) :
    Tryd.prog.built 64 [(0, .agg (bv x).toArray), (1, .agg (bv y).toArray), (2, .agg (bv c).toArray), (3, .agg (bv t).toArray)] = some (bv (x ++ (y ++ (c ++ t)))).toArray := by
  have h := built_parts (P := Tryd.prog) (T := 64) (n := 32) (zs := bv z32) (it := (Tryd.prog.info? 64).get (by kernel_rfl)) (z := .agg (bv (z32 ++ (z32 ++ (z32 ++ z32)))).toArray) (by kernel_rfl) (by kernel_rfl) (by kernel_rfl) rfl Tryd.underlying64 (by kernel_rfl) (bv x) (bv y) (bv c) (bv t) (by rw [bv_len, hx]) (by rw [bv_len, hy]) (by rw [bv_len, hc]) (by rw [bv_len, ht])
  rw [h]
  simp [bv]
end Go.Proofs.YtcefdcjpddohaaaDoor
namespace Go.Proofs.YtcefdcjpddohaaaDoor
open Go.RowKit

def z128 : List UInt8 := z32 ++ (z32 ++ (z32 ++ z32))
theorem z128_len : z128.length = 128 := by simp [z128, z32_len]
theorem zero_place (w : World) : (zeroValue 64).run Tryd.prog w = .ok (.agg (bv z128).toArray) w := by kernel_rfl
theorem quad_new (w : World) (a b c d : Array Value) (s t u v : TypeId) :
    ∃ W, (((w.alloc (.cells a s)).alloc (.cells b t)).alloc (.cells c u)).alloc (.cells d v) = W ∧ Hid (W.heap[w.heap.size]? = some (.cells a s (0, 0))) ∧ Hid (W.heap[w.heap.size + 1]? = some (.cells b t (0, 0))) ∧ Hid (W.heap[w.heap.size + 2]? = some (.cells c u (0, 0))) ∧
      Hid (W.heap[w.heap.size + 3]? = some (.cells d v (0, 0))) ∧ Below w.heap.size w W ∧ Hid (W.heap.size = w.heap.size + 4) := by
  obtain ⟨W3, h3, a1, a2, a3, hb, hs⟩ := three_new w a b c s t u
  obtain ⟨W5, h5, a4, hb5, hs5⟩ := one_new W3 d v
  refine ⟨W5, by rw [h3, h5], row_next2 a1 hb5, row_next2 a2 hb5, row_next2 a3 hb5, ?_, below_next hb hb.size hb5, ?_⟩
  · have := a4.out; rwa [hs.out] at this
  · have h1 := hs5.out; have h2 := hs.out; exact h1.trans (by omega)
theorem five_new (w : World) (a b c d f : Array Value) (s t u v x : TypeId) :
    ∃ W, ((((w.alloc (.cells a s)).alloc (.cells b t)).alloc (.cells c u)).alloc (.cells d v)).alloc (.cells f x) = W ∧ Hid (W.heap[w.heap.size]? = some (.cells a s (0, 0))) ∧ Hid (W.heap[w.heap.size + 1]? = some (.cells b t (0, 0))) ∧ Hid (W.heap[w.heap.size + 2]? = some (.cells c u (0, 0))) ∧
      Hid (W.heap[w.heap.size + 3]? = some (.cells d v (0, 0))) ∧ Hid (W.heap[w.heap.size + 4]? = some (.cells f x (0, 0))) ∧ Below w.heap.size w W ∧ Hid (W.heap.size = w.heap.size + 5) := by
  obtain ⟨W3, h3, a1, a2, a3, hb, hs⟩ := three_new w a b c s t u
  obtain ⟨W5, h5, a4, a5, hb5, hs5⟩ := pair_new W3 d f v x
  refine ⟨W5, by rw [h3, h5], row_next2 a1 hb5, row_next2 a2 hb5, row_next2 a3 hb5, ?_, ?_, below_next hb hb.size hb5, ?_⟩
  · have := a4.out; rwa [hs.out] at this
  · have := a5.out; rwa [hs.out] at this
  · have h1 := hs5.out; have h2 := hs.out; exact h1.trans (by omega)
set_option maxRecDepth 100000 in
set_option maxHeartbeats 4000000 in
theorem placeAt_any (w : World) (x u y v : List UInt8) (hx : x.length = 32) (hu : u.length = 32) (hy : y.length = 32) (hv : v.length = 32) :
    Calls Tryd.prog 55 #[.agg (bv x).toArray, .agg (bv u).toArray, .agg (bv y).toArray, .agg (bv v).toArray] w fun e w' => ∃ p, e = .returned (.agg (bv p).toArray) ∧
      Vlt (∃ a b c d, p = a ++ (b ++ (c ++ d)) ∧ a.length = 32 ∧ b.length = 32 ∧ c.length = 32 ∧ d.length = 32 ∧ cW a = cW x * cW v ∧ cW b = cW y * cW u ∧ cW c = cW u * cW v ∧ cW d = cW x * cW y) ∧ Hid (p.length = 128) ∧ Below w.heap.size w w' := by
  have hzw := zero_word
  have hzp := zero_place
  obtain ⟨V0, hW, gb0_V0, gb1_V0, gb2_V0, gb3_V0, gb4_V0, hb_V0, hsW⟩ := five_new w (bv x).toArray (bv u).toArray (bv y).toArray (bv v).toArray (bv z128).toArray 23 23 23 23 64
  have HW := Lib.hid hW
  have Hhx := Lib.hid hx
  have Hhu := Lib.hid hu
  have Hhy := Lib.hid hy
  have Hhv := Lib.hid hv
  have sb0_V0 := row_size gb0_V0
  have sb1_V0 := row_size gb1_V0
  have sb2_V0 := row_size gb2_V0
  have sb3_V0 := row_size gb3_V0
  have sb4_V0 := row_size gb4_V0
  clear hW hsW hx hu hy hv
  go_enter Tryd.func55, Tryd.ntmps55
  go_upto_region 1 with fail
  rw [HW.out]
  refine c_start (S := fun W' => Below V0.heap.size V0 W') 13 (by kernel_rfl) ((Below.refl _ _).drew) (fun hHeld => ?_)
  refine c_read (i := 0) (oi := ⟨(some 9), _, _, _, _, _⟩) (v := _) rfl (by decide) (by kernel_rfl) (by kernel_rfl) (by kernel_rfl) (by kernel_rfl) (by kernel_rfl) (fun _ _ _ h => h) (yieldsIf_load_mid (by rfl) _ _ rfl (w.heap.size) 0 rfl (bv x) _ (fun W' hW' => range_row ((hW'.block _ sb0_V0).trans gb0_V0.out)) (Tryd.underlying23) rfl (by rw [bv_len, Hhx.out]; kernel_rfl)) hHeld ?_
  try simp only [pu]
  refine c_read (i := 1) (oi := ⟨(some 10), _, _, _, _, _⟩) (v := _) rfl (by decide) (by kernel_rfl) (by kernel_rfl) (by kernel_rfl) (by kernel_rfl) (by kernel_rfl) (fun _ _ _ h => h) (yieldsIf_load_mid (by rfl) _ _ rfl (w.heap.size + 3) 0 rfl (bv v) _ (fun W' hW' => range_row ((hW'.block _ sb3_V0).trans gb3_V0.out)) (Tryd.underlying23) rfl (by rw [bv_len, Hhv.out]; kernel_rfl)) hHeld ?_
  try simp only [pu]
  refine c_read (i := 3) (oi := ⟨(some 12), _, _, _, _, _⟩) (v := _) rfl (by decide) (by kernel_rfl) (by kernel_rfl) (by kernel_rfl) (by kernel_rfl) (by kernel_rfl) (fun _ _ _ h => h) (yieldsIf_load_mid (by rfl) _ _ rfl (w.heap.size + 2) 0 rfl (bv y) _ (fun W' hW' => range_row ((hW'.block _ sb2_V0).trans gb2_V0.out)) (Tryd.underlying23) rfl (by rw [bv_len, Hhy.out]; kernel_rfl)) hHeld ?_
  try simp only [pu]
  refine c_read (i := 4) (oi := ⟨(some 13), _, _, _, _, _⟩) (v := _) rfl (by decide) (by kernel_rfl) (by kernel_rfl) (by kernel_rfl) (by kernel_rfl) (by kernel_rfl) (fun _ _ _ h => h) (yieldsIf_load_mid (by rfl) _ _ rfl (w.heap.size + 1) 0 rfl (bv u) _ (fun W' hW' => range_row ((hW'.block _ sb1_V0).trans gb1_V0.out)) (Tryd.underlying23) rfl (by rw [bv_len, Hhu.out]; kernel_rfl)) hHeld ?_
  try simp only [pu]
  refine c_read (i := 6) (oi := ⟨(some 15), _, _, _, _, _⟩) (v := _) rfl (by decide) (by kernel_rfl) (by kernel_rfl) (by kernel_rfl) (by kernel_rfl) (by kernel_rfl) (fun _ _ _ h => h) (yieldsIf_load_mid (by rfl) _ _ rfl (w.heap.size + 1) 0 rfl (bv u) _ (fun W' hW' => range_row ((hW'.block _ sb1_V0).trans gb1_V0.out)) (Tryd.underlying23) rfl (by rw [bv_len, Hhu.out]; kernel_rfl)) hHeld ?_
  try simp only [pu]
  refine c_read (i := 7) (oi := ⟨(some 16), _, _, _, _, _⟩) (v := _) rfl (by decide) (by kernel_rfl) (by kernel_rfl) (by kernel_rfl) (by kernel_rfl) (by kernel_rfl) (fun _ _ _ h => h) (yieldsIf_load_mid (by rfl) _ _ rfl (w.heap.size + 3) 0 rfl (bv v) _ (fun W' hW' => range_row ((hW'.block _ sb3_V0).trans gb3_V0.out)) (Tryd.underlying23) rfl (by rw [bv_len, Hhv.out]; kernel_rfl)) hHeld ?_
  try simp only [pu]
  refine c_read (i := 9) (oi := ⟨(some 18), _, _, _, _, _⟩) (v := _) rfl (by decide) (by kernel_rfl) (by kernel_rfl) (by kernel_rfl) (by kernel_rfl) (by kernel_rfl) (fun _ _ _ h => h) (yieldsIf_load_mid (by rfl) _ _ rfl (w.heap.size) 0 rfl (bv x) _ (fun W' hW' => range_row ((hW'.block _ sb0_V0).trans gb0_V0.out)) (Tryd.underlying23) rfl (by rw [bv_len, Hhx.out]; kernel_rfl)) hHeld ?_
  try simp only [pu]
  refine c_read (i := 10) (oi := ⟨(some 19), _, _, _, _, _⟩) (v := _) rfl (by decide) (by kernel_rfl) (by kernel_rfl) (by kernel_rfl) (by kernel_rfl) (by kernel_rfl) (fun _ _ _ h => h) (yieldsIf_load_mid (by rfl) _ _ rfl (w.heap.size + 2) 0 rfl (bv y) _ (fun W' hW' => range_row ((hW'.block _ sb2_V0).trans gb2_V0.out)) (Tryd.underlying23) rfl (by rw [bv_len, Hhy.out]; kernel_rfl)) hHeld ?_
  try simp only [pu]
  refine c_step (i := 2) (o := ⟨(some 11), _, _, _, _, _⟩) (by kernel_rfl) rfl (fun K hK => ?_)
  go_simp
  refine (fmul_any _ x v (Hhx.out) (Hhv.out)).mono ?_
  rintro e W1 ⟨v11, rfl, e11, h11, hb1⟩
  refine hK.out _ _ (below_next hHeld hHeld.size hb1) (fun hHeld => ?_)
  clear hK K hb1
  try simp only [pu]
  refine c_step (i := 5) (o := ⟨(some 14), _, _, _, _, _⟩) (by kernel_rfl) rfl (fun K hK => ?_)
  go_simp
  refine (fmul_any _ y u (Hhy.out) (Hhu.out)).mono ?_
  rintro e W2 ⟨v14, rfl, e14, h14, hb2⟩
  refine hK.out _ _ (below_next hHeld hHeld.size hb2) (fun hHeld => ?_)
  clear hK K hb2
  try simp only [pu]
  refine c_step (i := 8) (o := ⟨(some 17), _, _, _, _, _⟩) (by kernel_rfl) rfl (fun K hK => ?_)
  go_simp
  refine (fmul_any _ u v (Hhu.out) (Hhv.out)).mono ?_
  rintro e W3 ⟨v17, rfl, e17, h17, hb3⟩
  refine hK.out _ _ (below_next hHeld hHeld.size hb3) (fun hHeld => ?_)
  clear hK K hb3
  try simp only [pu]
  refine c_step (i := 11) (o := ⟨(some 20), _, _, _, _, _⟩) (by kernel_rfl) rfl (fun K hK => ?_)
  go_simp
  refine (fmul_any _ x y (Hhx.out) (Hhy.out)).mono ?_
  rintro e W4 ⟨v20, rfl, e20, h20, hb4⟩
  refine hK.out _ _ (below_next hHeld hHeld.size hb4) (fun hHeld => ?_)
  clear hK K hb4
  try simp only [pu]
  obtain ⟨p12, ep12⟩ : ∃ p, p = v11 ++ (v14 ++ (v17 ++ (v20))) := ⟨_, rfl⟩
  have bp12 := built_place v11 v14 v17 v20 (h11.out) (h14.out) (h17.out) (h20.out)
  rw [← ep12] at bp12
  have hp12 := Lib.hid (show p12.length = 128 by rw [ep12]; simp [h11.out, h14.out, h17.out, h20.out])
  have vp12 := vlt ep12
  clear ep12
  refine c_take (i := 12) (oi := ⟨(some 21), _, _, _, _, _⟩) (v := _) rfl (by decide) (by kernel_rfl) (by kernel_rfl) (by kernel_rfl) (fun _ _ _ h => h) (yields_build (by rfl) _ _ rfl [(0, .agg (bv v11).toArray), (1, .agg (bv v14).toArray), (2, .agg (bv v17).toArray), (3, .agg (bv v20).toArray)] (by rfl) _ bp12) hHeld ?_
  try simp only [pu]
  refine c_call (S' := fun _ => True) (o := ⟨none, _, _, _, _, _⟩) (by kernel_rfl) (by kernel_rfl) rfl (fun K hK => ?_)
  have cb0_0 := row_next2 gb0_V0 hHeld
  have cb1_0 := row_next2 gb1_V0 hHeld
  have cb2_0 := row_next2 gb2_V0 hHeld
  have cb3_0 := row_next2 gb3_V0 hHeld
  have cb4_0 := row_next2 gb4_V0 hHeld
  have cb_0 := below_next hb_V0 hb_V0.size hHeld
  clear hHeld
  refine step_row (by rfl) 64 (.tmp 8) (.tmp 21) rfl (w.heap.size + 4) (bv p12) rfl rfl 64 _ cb4_0.out (by rw [bv_len, hp12.out]; kernel_rfl) (by rw [List.size_toArray, bv_len, z128_len, bv_len, hp12.out]) (bv_one _) ?_
  intro W5 cb4_1 kR
  refine hK.out _ _ trivial (fun hHeld => ?_)
  have cb0_1 := row_but cb0_0 kR (by omega)
  have cb1_1 := row_but cb1_0 kR (by omega)
  have cb2_1 := row_but cb2_0 kR (by omega)
  have cb3_1 := row_but cb3_0 kR (by omega)
  have cb_1 := But.below cb_0 kR (by omega) cb_0.size
  clear hK K kR cb_0 cb0_0 cb1_0 cb2_0 cb3_0 cb4_0 
  try simp only [pu]
  refine wpAnyH_done (by kernel_rfl) ?_ _
  obtain ⟨V1, rV1⟩ : ∃ X, X = W5 := ⟨_, rfl⟩
  subst rV1
  have gb0_V1 := cb0_1
  have sb0_V1 := row_size gb0_V1
  have gb1_V1 := cb1_1
  have sb1_V1 := row_size gb1_V1
  have gb2_V1 := cb2_1
  have sb2_V1 := row_size gb2_V1
  have gb3_V1 := cb3_1
  have sb3_V1 := row_size gb3_V1
  have gb4_V1 := cb4_1
  have sb4_V1 := row_size gb4_V1
  have hb_V1 := cb_1
  clear hHeld cb_1 hb_V0  cb0_1 cb1_1 cb2_1 cb3_1 cb4_1 sb0_V0 sb1_V0 sb2_V0 sb3_V0 sb4_V0 gb0_V0 gb1_V0 gb2_V0 gb3_V0 gb4_V0
  have HF := vlt (show ∃ a b c d, p12 = a ++ (b ++ (c ++ d)) ∧ a.length = 32 ∧ b.length = 32 ∧ c.length = 32 ∧ d.length = 32 ∧ cW a = cW x * cW v ∧ cW b = cW y * cW u ∧ cW c = cW u * cW v ∧ cW d = cW x * cW y from ⟨v11, v14, v17, v20, vp12.out, h11.out, h14.out, h17.out, h20.out, e11.out.1, e14.out.1, e17.out.1, e20.out.1⟩)
  go_wp2_with fail
  refine bodyPost_ret (v := .agg (bv p12).toArray) (results_cell_row Tryd.results55 _ _ (w.heap.size + 4) 64 _ (0, 0) _ rfl gb4_V1.out Tryd.underlying64 rfl (by rw [List.size_toArray, bv_len, hp12.out]; kernel_rfl)) rfl ⟨p12, rfl, HF, hp12, hb_V1⟩
end Go.Proofs.YtcefdcjpddohaaaDoor
namespace Go.Proofs.YtcefdcjpddohaaaDoor
open Go.RowKit

/-- The highest byte apart. -/
theorem last_apart (l : List UInt8) (h : l.length = 32) : ∃ (m : List UInt8) (b : Nat), l = m ++ [UInt8.ofNat b] ∧ m.length = 31 ∧ b < 256 := by
  refine ⟨l.take 31, (l.getD 31 0).toNat, ?_, by rw [List.length_take, h]; rfl, UInt8.toNat_lt _⟩
  rw [UInt8.ofNat_toNat]
  conv => lhs; rw [← List.take_append_drop 31 l]
  congr 1
  have h1 : (l.drop 31).length = 1 := by rw [List.length_drop, h]
  have h2 : l.getD 31 0 = l[31]'(by omega) := by rw [List.getD_eq_getElem?_getD, List.getElem?_eq_getElem (by omega)]; rfl
  rw [List.drop_eq_getElem_cons (by omega : 31 < l.length), h2, List.drop_eq_nil_of_le (by omega)]
theorem set_last (m : List UInt8) (b c : UInt8) (h : m.length = 31) : (m ++ [b]).set 31 c = m ++ [c] := by
  rw [List.set_append_right _ _ (by omega), h]; rfl
theorem at_last (m : List UInt8) (b : UInt8) (h : m.length = 31) : (m ++ [b])[31]? = some b := by
  rw [List.getElem?_append_right (by omega), h]; rfl
theorem ln_tail : ∀ (l m : List UInt8), ln (l ++ m) = ln l + 256 ^ l.length * ln m
  | [], m => by simp [ln]
  | x :: l, m => by
    rw [List.cons_append, ln, ln, ln_tail l m, List.length_cons, Nat.pow_succ, Nat.mul_add, Nat.mul_comm (256 ^ l.length) 256, Nat.mul_assoc]
    omega
theorem ln_last (m : List UInt8) (b : Nat) (h : m.length = 31) (hb : b < 256) : ln (m ++ [UInt8.ofNat b]) = ln m + 256 ^ 31 * b := by
  rw [ln_tail, h]
  have : ln [UInt8.ofNat b] = b := by simp [ln]; omega
  rw [this]
theorem ln_31 (m : List UInt8) (h : m.length = 31) : ln m < 256 ^ 31 := ln_lt 31 m h
theorem written_ln (m : List UInt8) (b c : Nat) (h : m.length = 31) (hb : b < 256) (hy : ln (m ++ [UInt8.ofNat b]) < FP) (hc : c < 2) :
    b < 128 ∧ ln (m ++ [UInt8.ofNat (b + 128 * c)]) = ln (m ++ [UInt8.ofNat b]) + 57896044618658097711785492504343953926634992332820282019728792003956564819968 * c := by
  rw [ln_last m b h hb] at hy
  have hF : FP < 256 ^ 31 * 128 := by decide
  have h1 : b < 128 := by
    have : 256 ^ 31 * b < 256 ^ 31 * 128 := by omega
    exact Nat.lt_of_mul_lt_mul_left this
  rw [ln_last m _ h (by omega), ln_last m b h hb, Nat.mul_add]
  refine ⟨h1, ?_⟩
  rw [show (57896044618658097711785492504343953926634992332820282019728792003956564819968 : Nat) = 256 ^ 31 * 128 by decide, Nat.mul_assoc]
  omega
theorem enc_written (m : List UInt8) (b c : Nat) (x y : List UInt8) (hy : y = m ++ [UInt8.ofNat b]) (h : m.length = 31) (hb : b < 256) (hyl : ln y < FP) (hxl : ln x < FP) (hc : c = ln x % 2) : m ++ [UInt8.ofNat (b + 128 * c)] = encE (cW x, cW y) := by
  subst hy
  obtain ⟨_, h2⟩ := written_ln m b c h hb hyl (by omega)
  refine ln_inj _ _ (by rw [encE_len]; simp [h]) ?_
  rw [h2, ln_encE]
  show _ = (cW _).val + _ * ((cW x).val % 2)
  rw [cW, cW, cF_val, cF_val, Nat.mod_eq_of_lt hyl, Nat.mod_eq_of_lt hxl, hc]
theorem or_top (b c : Nat) (hb : b < 128) (hc : c < 2) : bits .or .u8 (b : Int) (((c : Int) * 128)) = ((b + 128 * c : Nat) : Int) := by
  have h : ∀ b < 128, ∀ c < 2, bits .or .u8 ((b : Nat) : Int) ((((c : Nat) : Int) * 128)) = ((b + 128 * c : Nat) : Int) := by decide +kernel
  exact h b hb c hc
set_option maxRecDepth 100000 in
set_option maxHeartbeats 4000000 in
theorem written_any (w : World) (x y : List UInt8) (hx : x.length = 32) (hxl : ln x < FP) (hy : y.length = 32) (hyl : ln y < FP) :
    Calls Tryd.prog 53 #[.agg (bv x).toArray, .agg (bv y).toArray] w fun e w' => ∃ l, e = .returned (.agg (bv l).toArray) ∧ Vlt (l = encE (cW x, cW y)) ∧ Hid (l.length = 32) ∧ Below w.heap.size w w' := by
  have hzw := zero_word
  obtain ⟨m, b, hym, hm, hb⟩ := last_apart y hy
  obtain ⟨c, hc, hx0, hcx⟩ := first_byte x hx
  have e1 := low8 c hc
  obtain ⟨d, hd⟩ : ∃ d, d = c % 2 := ⟨_, rfl⟩
  have hd2 : d < 2 := by omega
  rw [← hd] at e1 hcx
  clear hd
  have hE := vlt (enc_written m b d x y hym hm hb hyl hxl hcx)
  have hb7 := (written_ln m b d hm hb (by rw [← hym]; exact hyl) hd2).1
  have e2 := or_top b d hb7 hd2
  obtain ⟨n, hn⟩ : ∃ n, n = b + 128 * d := ⟨_, rfl⟩
  have hlt : n < 256 := by omega
  rw [← hn] at hE e2
  obtain ⟨z, hz⟩ : ∃ z, z = m ++ [UInt8.ofNat n] := ⟨_, rfl⟩
  have hzl := Lib.hid (show z.length = 32 by rw [hz]; simp [hm])
  rw [← hz] at hE
  obtain ⟨V0, hW, gx, gy, gr, hb0, hsW⟩ := three_new w (bv x).toArray (bv y).toArray (bv z32).toArray 23 23 23
  have HW := Lib.hid hW
  have sx := row_size gx
  have sy := row_size gy
  have sr := row_size gr
  have c31 : V0.cell? ⟨w.heap.size + 1, 31, none⟩ = some (.int .u8 (b : Int)) := by
    have h := byte_cell gy.out (show y[31]? = some (UInt8.ofNat b) by rw [hym]; exact at_last _ _ hm)
    rwa [UInt8.toNat_ofNat', show (2 : Nat) ^ 8 = 256 by decide, Nat.mod_eq_of_lt hb] at h
  have c0 : V0.cell? ⟨w.heap.size, 0, none⟩ = some (.int .u8 (c : Int)) := by
    have h := byte_cell gx.out hx0
    rwa [UInt8.toNat_ofNat', show (2 : Nat) ^ 8 = 256 by decide, Nat.mod_eq_of_lt hc] at h
  have f31 : V0.frozen? ⟨w.heap.size + 1, 31, none⟩ = false := frozen_of_row _ _ _ _ _ gy.out
  have hset : Hid ((V0.setCell ⟨w.heap.size + 1, 31, none⟩ (.int .u8 (n : Int))).heap[w.heap.size + 1]? = some (.cells (bv z).toArray 23 (0, 0))) := by
    have h := (world_set_cell gy.out 31 (.int .u8 (n : Int))).out
    rw [show (Value.int .u8 (n : Int)) = Value.int .u8 ((UInt8.ofNat n).toNat : Int) by rw [UInt8.toNat_ofNat', show (2 : Nat) ^ 8 = 256 by decide, Nat.mod_eq_of_lt hlt], bv_set, hym, set_last _ _ _ hm, ← hz] at h
    rwa [UInt8.toNat_ofNat', show (2 : Nat) ^ 8 = 256 by decide, Nat.mod_eq_of_lt hlt] at h
  clear hz hxl hyl hx0 hcx hW hsW hx hy hym hm hlt hn
  go_enter Tryd.func53, Tryd.ntmps53
  go_upto_region 1 with fail
  rw [HW.out]
  go_upto_region 2 with fail
  have hbt : But (w.heap.size + 1) V0 (V0.setCell ⟨w.heap.size + 1, 31, none⟩ (.int .u8 (n : Int))) := (But.refl _ _).set _
  have gr1 := row_but gr hbt (by omega)
  generalize V0.setCell ⟨w.heap.size + 1, 31, none⟩ (.int .u8 (n : Int)) = V1 at *
  have hb1 := But.below hb0 hbt (by omega) hb0.size
  clear gx gy gr sx sy sr c31 c0 f31 hbt hb0
  go_wp2_with (first
    | (with_reducible refine wpList_load_row rfl 23 (.tmp 3) rfl (w.heap.size + 1) rfl 23 (bv z).toArray (0, 0) _ hset.out Tryd.underlying23 rfl (by rw [bv_size z hzl.out]; kernel_rfl) ?_)
    | (with_reducible refine wpList_store_row rfl 23 (.tmp 4) (.tmp 13) rfl (w.heap.size + 2) (bv z).toArray rfl rfl 23 _ gr1.out (by rw [bv_size z hzl.out]; kernel_rfl) (by rw [bv_size z hzl.out]; kernel_rfl) (all_oneCell_toArray (bv_one _)) ?_))

  refine bodyPost_ret (v := .agg (bv z).toArray) (results_cell_row Tryd.results53 _ _ (w.heap.size + 2) 23 _ (0, 0) _ rfl (setRow_heap _ _ _ _ _ _ gr1.out) Tryd.underlying23 rfl (by rw [bv_size z hzl.out]; kernel_rfl)) rfl ⟨z, rfl, hE, hzl, below_setRow hb1 (by omega) _⟩
end Go.Proofs.YtcefdcjpddohaaaDoor
