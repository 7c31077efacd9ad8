/-
  Stores into the midst of a block, and pieces of a row: words that the contracts of other texts share. No statement is proved here. Conditions: none.
-/
import Derived.Test.YtknmccpoheekmaaMem
import Derived.Deep.RegionLaw
import Derived.Laws.IdiomCopy
import Derived.Laws.CopyRow
namespace Go.Proofs.Ytknmccpoheekmaa
open Go.RowKit

theorem setCells_row {w : World} {g o : Nat} {cs : List Value} {t : TypeId} (hg : w.heap[g]? = some (.cells cs.toArray t (0, 0))) (vs : List Value) (hfit : o + vs.length ≤ cs.length) (h1 : ∀ v ∈ vs, v.oneCell' = true) :
    w.setCells g o vs = w.setRow g (splice cs o vs).toArray := by
  have a := run_storeCells_cells (P := Try.prog) g o vs 0 w (fun j hj => by rw [cell_of_row _ _ _ _ _ _ hg]; simp; omega) (fun j hj => frozen_of_row _ _ _ _ _ hg) h1
  have b := run_storeCells_at (P := Try.prog) g o t vs 0 cs.toArray w hg (by simp; omega) h1
  rw [a] at b
  injection b with _ b
  simpa [splice] using b
/-- A whole array is stored into the midst of a block that is known whole, as one step of a region that draws its order. -/
theorem step_store_mid {P : Program} {ops : Array Oper} {o : Oper} {a : Act} {w : World} {K : Act → World → Prop} {Q : Exit → Act → World → Prop} {E : Prop} (hgd : o.guard = none) (ty : TypeId) (x y : Operand) (ho : o.op = .store ty x y)
    (g off : Nat) (cells : List Value) (hx : a.eval x = .pointer (some ⟨g, off, none⟩)) (hy : a.eval y = .agg cells.toArray) (cur : List Value) (t : TypeId) (hg : w.heap[g]? = some (.cells cur.toArray t (0, 0)))
    (hfit : off + cells.length ≤ cur.length) (hi : (P.info? ty).map (·.size) = some cells.length) (h1 : ∀ v ∈ cells, v.oneCell' = true) (w0 : World) (hb : But g w0 w)
    (h : ∀ w', Hid (w'.heap[g]? = some (.cells (splice cur off cells).toArray t (0, 0))) → But g w0 w' → K (a.put o.dst undef) w') :
    if Region.wanted o (yielded ops a.tmps) = true then Oper.wp P o a w K Q else E := by
  have hw : Region.wanted o (yielded ops a.tmps) = true := by simp [Region.wanted, hgd]
  rw [if_pos hw]
  refine wp_store_mid ty x y ho g off cells.toArray hx hy (fun j hj => ⟨?_, frozen_of_row _ _ _ _ _ hg⟩) (by simpa using hi) (all_oneCell_toArray h1) ?_
  · rw [cell_of_row _ _ _ _ _ _ hg]
    simp at hj ⊢; omega
  · have e := setCells_row hg cells hfit h1
    show K _ (w.setCells g off cells)
    rw [e]
    exact h _ (setRow_heap _ _ _ _ _ _ hg) (hb.row _)
theorem splice_mid (A B C x : List Value) (a k : Nat) (ha : a = A.length + k) (h : k + x.length ≤ B.length) : splice (A ++ (B ++ C)) a x = A ++ (splice B k x ++ C) := by
  subst ha
  simp only [splice]
  have e1 : List.take (A.length + k) (A ++ (B ++ C)) = A ++ List.take k B := by
    rw [List.take_append, List.take_of_length_le (by omega), Nat.add_sub_cancel_left, List.take_append_of_le_length (by omega)]
  have e2 : List.drop (A.length + k + x.length) (A ++ (B ++ C)) = List.drop (k + x.length) B ++ C := by
    rw [List.drop_append, List.drop_of_length_le (by omega), List.nil_append, show A.length + k + x.length - A.length = k + x.length by omega, List.drop_append_of_le_length (by omega)]
  rw [e1, e2]
  simp
theorem range_part {w : World} {g : Nat} {t : TypeId} (A B C : List Value) (hg : w.heap[g]? = some (.cells (A ++ (B ++ C)).toArray t (0, 0))) (a : Nat) (ha : A.length = a) : w.rangeAt g a B := by
  intro j v hj
  have hjl := (List.getElem?_eq_some_iff.1 hj).1
  rw [cell_of_row _ _ _ _ _ _ hg]
  simp only [List.getElem?_toArray]
  rw [List.getElem?_append_right (by omega), ← ha, Nat.add_sub_cancel_left, List.getElem?_append_left hjl]
  exact hj
end Go.Proofs.Ytknmccpoheekmaa
