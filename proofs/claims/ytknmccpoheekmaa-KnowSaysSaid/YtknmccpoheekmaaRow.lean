/-
  Known rows from world to world, whole rows stored, regions in the text's order met as drawn ones: words that other texts share. No statement is proved here. Conditions: none.
-/
import Derived.Test.YtknmccpoheekmaaMem
import Derived.StillTail
import Derived.Deep.RegionHeld3
namespace Go.Proofs.Ytknmccpoheekmaa
open Go.RowKit

theorem row_but {w w' : World} {g c : Nat} {X : Obj} (h : Hid (w.heap[c]? = some X)) (hb : But g w w') (hne : c ≠ g) : Hid (w'.heap[c]? = some X) :=
  (hb.block c (Array.getElem?_eq_some_iff.1 h.out).1 (fun e => hne (by injection e))).trans h.out
theorem row_size {w : World} {c : Nat} {X : Obj} (h : Hid (w.heap[c]? = some X)) : c < w.heap.size := (Array.getElem?_eq_some_iff.1 h.out).1
theorem row_next2 {w w' : World} {c : Nat} {X : Obj} (h : Hid (w.heap[c]? = some X)) (hb : Below w.heap.size w w') : Hid (w'.heap[c]? = some X) :=
  (hb.block c (Array.getElem?_eq_some_iff.1 h.out).1).trans h.out
/-- In a world that keeps S's blocks. -/
theorem row_S {w w' : World} {g c : Nat} {X : Obj} (h : Hid (w.heap[c]? = some X)) (hb : But g w w') (hne : c ≠ g) : w'.heap[c]? = some X := (row_but h hb hne).out
theorem But.on {g n : Nat} {a w w' : World} (h : But g a w) (k : But n w w') (hn : a.heap.size ≤ n) : But g a w' :=
  ⟨k.os.trans h.os, k.tape.trans h.tape, k.output.trans h.output, Nat.le_trans h.size k.size, fun i hi hne => (k.block i (Nat.lt_of_lt_of_le hi h.size) (fun e => by injection e; omega)).trans (h.block i hi hne)⟩
theorem But.go {g : Nat} {a b c : World} (h : But g a b) (k : Below b.heap.size b c) : But g a c := h.below_to k (Nat.le_refl _)
/-- A whole row is stored, as one step. -/
theorem step_row {P : Program} {ops : Array Oper} {o : Oper} {a : Act} {w : World} {K : Act → World → Prop} {Q : Exit → Act → World → Prop} {E : Prop} (hgd : o.guard = none) (ty : TypeId) (x y : Operand) (ho : o.op = .store ty x y)
    (g : Nat) (cells : List Value) (hx : a.eval x = .pointer (some ⟨g, 0, none⟩)) (hy : a.eval y = .agg cells.toArray) (t : TypeId) (old : Array Value) (hg : w.heap[g]? = some (.cells old t (0, 0)))
    (hi : (P.info? ty).map (·.size) = some cells.length) (hold : old.size = cells.length) (h1 : ∀ v ∈ cells, v.oneCell' = true)
    (h : ∀ w', Hid (w'.heap[g]? = some (.cells cells.toArray t (0, 0))) → But g w w' → K (a.put o.dst undef) w') : if Region.wanted o (yielded ops a.tmps) = true then Oper.wp P o a w K Q else E :=
  step_store_row hgd ty x y ho g cells.toArray hx hy t old hg (by simpa using hi) (by simpa using hold) (all_oneCell_toArray h1)
    (h _ (setRow_heap _ _ _ _ _ _ hg) ((But.refl _ _).row _))
/-- What lies there is stored there again. -/
theorem step_same {P : Program} {ops : Array Oper} {o : Oper} {a : Act} {w : World} {K : Act → World → Prop} {Q : Exit → Act → World → Prop} {E : Prop} (hgd : o.guard = none) (ty : TypeId) (x y : Operand) (ho : o.op = .store ty x y)
    (g : Nat) (cells : List Value) (hx : a.eval x = .pointer (some ⟨g, 0, none⟩)) (hy : a.eval y = .agg cells.toArray) (t : TypeId) (hg : w.heap[g]? = some (.cells cells.toArray t (0, 0)))
    (hi : (P.info? ty).map (·.size) = some cells.length) (h1 : ∀ v ∈ cells, v.oneCell' = true)
    (h : ∀ w', Below w.heap.size w w' → K (a.put o.dst undef) w') : if Region.wanted o (yielded ops a.tmps) = true then Oper.wp P o a w K Q else E :=
  step_row hgd ty x y ho g cells hx hy t _ hg hi (by simp) h1 fun w' hr hb => h w' ⟨hb.os, hb.tape, hb.output, hb.size, fun i hi => by
    by_cases hig : i = g
    · rw [hig, hr.out, hg]
    · exact hb.block i hi (fun e => hig (by injection e))⟩
/-- A region in the text's order, met as one whose order is open. -/
theorem plain_start {P : Program} {ops : Array Oper} {Q : Exit → Act → World → Prop} {S : World → Prop} {id : Nat} {a : Act} {w : World}
    (hl : Region.linearise.go .any ops ops.size 0 (Array.replicate ops.size false) [] = List.range ops.size) (hS : S w)
    (h : S w → wpAnyH P .any ops Q S ops.size (Array.replicate ops.size false) a w) : (Code.region id ops false).wp P Q a w :=
  wp_region (hl ▸ wpAny_sound ops.size 0 _ _ _ (wpAny_of_held _ _ _ _ (h hS)))
end Go.Proofs.Ytknmccpoheekmaa
