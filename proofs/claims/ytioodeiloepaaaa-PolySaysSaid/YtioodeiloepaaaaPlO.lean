/-
  poly's sum in memory, and one law on stores: words that the contracts of poly share. No statement is proved here. Conditions: none.
-/
import Derived.Test.YtioodeiloepaaaaPlC
import Derived.Test.YtioodeiloepaaaaPlT
import Derived.Deep.RegionLaw
import Derived.Laws.IdiomCopy
import Derived.Laws.CopyRow
namespace Go.Proofs.Ytioodeiloepaaaa
open Go.RowKit

theorem setCells_row {w : World} {g o : Nat} {cs : List Value} {t : TypeId} (hg : w.heap[g]? = some (.cells cs.toArray t (0, 0))) (vs : List Value) (hfit : o + vs.length ≤ cs.length) (h1 : ∀ v ∈ vs, v.oneCell' = true) :
    w.setCells g o vs = w.setRow g (splice cs o vs).toArray := by
  have a := run_storeCells_cells (P := Try.prog) g o vs 0 w (fun j hj => by rw [cell_of_row _ _ _ _ _ _ hg]; simp; omega) (fun j hj => frozen_of_row _ _ _ _ _ hg) h1
  have b := run_storeCells_at (P := Try.prog) g o t vs 0 cs.toArray w hg (by simp; omega) h1
  rw [a] at b
  injection b with _ b
  simpa [splice] using b
/-- A whole array is stored into the midst of a block that is known whole, as one step of a region that draws its order. -/
theorem step_store_mid {P : Program} {ops : Array Oper} {o : Oper} {a : Act} {w : World} {K : Act → World → Prop} {Q : Exit → Act → World → Prop} {E : Prop} (hgd : o.guard = none) (ty : TypeId) (x y : Operand) (ho : o.op = .store ty x y)
    (g off : Nat) (cells : List Value) (hx : a.eval x = .pointer (some ⟨g, off, none⟩)) (hy : a.eval y = .agg cells.toArray) (cur : List Value) (t : TypeId) (hg : w.heap[g]? = some (.cells cur.toArray t (0, 0)))
    (hfit : off + cells.length ≤ cur.length) (hi : (P.info? ty).map (·.size) = some cells.length) (h1 : ∀ v ∈ cells, v.oneCell' = true) (w0 : World) (hb : But g w0 w)
    (h : ∀ w', Hid (w'.heap[g]? = some (.cells (splice cur off cells).toArray t (0, 0))) → But g w0 w' → K (a.put o.dst undef) w') :
    if Region.wanted o (yielded ops a.tmps) = true then Oper.wp P o a w K Q else E := by
  have hw : Region.wanted o (yielded ops a.tmps) = true := by simp [Region.wanted, hgd]
  rw [if_pos hw]
  refine wp_store_mid ty x y ho g off cells.toArray hx hy (fun j hj => ⟨?_, frozen_of_row _ _ _ _ _ hg⟩) (by simpa using hi) (all_oneCell_toArray h1) ?_
  · rw [cell_of_row _ _ _ _ _ _ hg]
    simp at hj ⊢; omega
  · have e := setCells_row hg cells hfit h1
    show K _ (w.setCells g off cells)
    rw [e]
    exact h _ (setRow_heap _ _ _ _ _ _ hg) (hb.row _)
theorem splice_mid (A B C x : List Value) (a k : Nat) (ha : a = A.length + k) (h : k + x.length ≤ B.length) : splice (A ++ (B ++ C)) a x = A ++ (splice B k x ++ C) := by
  subst ha
  simp only [splice]
  have e1 : List.take (A.length + k) (A ++ (B ++ C)) = A ++ List.take k B := by
    rw [List.take_append, List.take_of_length_le (by omega), Nat.add_sub_cancel_left, List.take_append_of_le_length (by omega)]
  have e2 : List.drop (A.length + k + x.length) (A ++ (B ++ C)) = List.drop (k + x.length) B ++ C := by
    rw [List.drop_append, List.drop_of_length_le (by omega), List.nil_append, show A.length + k + x.length - A.length = k + x.length by omega, List.drop_append_of_le_length (by omega)]
  rw [e1, e2]
  simp
def sumP (rp t : List Nat) (rest : List UInt8) (n : Nat) : List Value := u64v rp ++ (u64v t ++ (bv rest ++ [.int .i64 (n : Int)]))
def PObj (w : World) (g : Nat) (rp t : List Nat) (rest : List UInt8) (n : Nat) : Prop := w.heap[g]? = some (.cells (sumP rp t rest n).toArray 44 (0, 0)) ∧ rp.length = 5 ∧ t.length = 5 ∧ rest.length = 16
theorem sumP_len {rp t : List Nat} {rest : List UInt8} {n : Nat} (h1 : rp.length = 5) (h2 : t.length = 5) (h3 : rest.length = 16) : (sumP rp t rest n).length = 27 := by
  simp [sumP, u64v_len, bv_len, h1, h2, h3]
theorem range_part {w : World} {g : Nat} {t : TypeId} (A B C : List Value) (hg : w.heap[g]? = some (.cells (A ++ (B ++ C)).toArray t (0, 0))) (a : Nat) (ha : A.length = a) : w.rangeAt g a B := by
  intro j v hj
  have hjl := (List.getElem?_eq_some_iff.1 hj).1
  rw [cell_of_row _ _ _ _ _ _ hg]
  simp only [List.getElem?_toArray]
  rw [List.getElem?_append_right (by omega), ← ha, Nat.add_sub_cancel_left, List.getElem?_append_left hjl]
  exact hj
section
variable {w w' : World} {g n B : Nat} {rp t : List Nat} {rest : List UInt8}
theorem PObj.lt (h : PObj w g rp t rest n) : g < w.heap.size := (Array.getElem?_eq_some_iff.1 h.1).1
theorem PObj.keep (h : PObj w g rp t rest n) (hb : w'.heap[g]? = w.heap[g]?) : PObj w' g rp t rest n := ⟨hb.trans h.1, h.2⟩
theorem PObj.below (h : PObj w g rp t rest n) (hB : g < B) (hb : Below B w w') : PObj w' g rp t rest n := h.keep (hb.block g hB)
theorem PObj.factor (h : PObj w g rp t rest n) : w.rangeAt g 0 (u64v rp) := range_part [] (u64v rp) _ h.1 0 rfl
theorem PObj.total (h : PObj w g rp t rest n) : w.rangeAt g 5 (u64v t) := range_part (u64v rp) (u64v t) _ h.1 5 (by rw [u64v_len, h.2.1])
theorem PObj.wait (h : PObj w g rp t rest n) : w.rangeAt g 10 (bv rest) :=
  range_part (u64v rp ++ u64v t) (bv rest) [.int .i64 (n : Int)] (by rw [List.append_assoc]; exact h.1) 10 (by rw [List.length_append, u64v_len, u64v_len, h.2.1, h.2.2.1])
theorem PObj.cnt (h : PObj w g rp t rest n) : w.cell? ⟨g, 26, none⟩ = some (.int .i64 (n : Int)) := by
  have h1 := range_part (u64v rp ++ (u64v t ++ bv rest)) [Value.int .i64 (n : Int)] [] (by rw [List.append_nil, List.append_assoc, List.append_assoc]; exact h.1) 26 (by rw [List.length_append, List.length_append, u64v_len, u64v_len, bv_len, h.2.1, h.2.2.1, h.2.2.2]) 0 _ rfl
  exact h1
theorem PObj.frozen (h : PObj w g rp t rest n) (j : Nat) : w.frozen? ⟨g, j, none⟩ = false := frozen_of_row w g j _ _ h.1
theorem sumP_total (h : rp.length = 5) (t' : List Nat) (h2 : t.length = 5) (h3 : t'.length = 5) : splice (sumP rp t rest n) 5 (u64v t') = sumP rp t' rest n := by
  rw [sumP, splice_mid (u64v rp) (u64v t) _ (u64v t') 5 0 (by rw [u64v_len, h]) (by rw [u64v_len, u64v_len, h2, h3]; decide)]
  have e : splice (u64v t) 0 (u64v t') = u64v t' := by simp [splice, u64v_len, h2, h3]
  rw [e, sumP]
theorem sumP_rest (h : rp.length = 5) (h2 : t.length = 5) (k : Nat) (x : List UInt8) (h3 : rest.length = 16) (hk : k + x.length ≤ 16) : splice (sumP rp t rest n) (10 + k) (bv x) = sumP rp t (rest.take k ++ (x ++ rest.drop (k + x.length))) n := by
  rw [sumP, ← List.append_assoc, splice_mid (u64v rp ++ u64v t) (bv rest) _ (bv x) (10 + k) k (by rw [List.length_append, u64v_len, u64v_len, h, h2]) (by rw [bv_len, bv_len, h3]; exact hk)]
  have e : splice (bv rest) k (bv x) = bv (rest.take k ++ (x ++ rest.drop (k + x.length))) := by
    simp [splice, bv, List.map_take, List.map_drop]
  rw [e, sumP, List.append_assoc]
theorem PObj.count (h : PObj w g rp t rest n) (k : Nat) : PObj (w.setCell ⟨g, 26, none⟩ (.int .i64 (k : Int))) g rp t rest k := by
  refine ⟨(world_set_cell h.1 26 _).out.trans ?_, h.2⟩
  have e : (sumP rp t rest n).set 26 (.int .i64 (k : Int)) = sumP rp t rest k := by
    simp only [sumP]
    rw [List.set_append_right _ _ (by rw [u64v_len, h.2.1]; decide), u64v_len, h.2.1, List.set_append_right _ _ (by rw [u64v_len, h.2.2.1]; decide), u64v_len, h.2.2.1, List.set_append_right _ _ (by rw [bv_len, h.2.2.2]; decide), bv_len, h.2.2.2]
    rfl
  rw [e]
theorem PObj.byte (h : PObj w g rp t rest n) (k : Nat) (b : UInt8) (hk : k < 16) : PObj (w.setCell ⟨g, 10 + k, none⟩ (.int .u8 (b.toNat : Int))) g rp t (rest.set k b) n := by
  refine ⟨(world_set_cell h.1 (10 + k) _).out.trans ?_, h.2.1, h.2.2.1, by rw [List.length_set]; exact h.2.2.2⟩
  have e : (sumP rp t rest n).set (10 + k) (.int .u8 (b.toNat : Int)) = sumP rp t (rest.set k b) n := by
    simp only [sumP]
    rw [List.set_append_right _ _ (by rw [u64v_len, h.2.1]; omega), u64v_len, h.2.1, List.set_append_right _ _ (by rw [u64v_len, h.2.2.1]; omega), u64v_len, h.2.2.1, show 10 + k - 5 - 5 = k by omega, List.set_append_left _ _ (by rw [bv_len, h.2.2.2]; exact hk), bv_set]
  rw [e]
end
end Go.Proofs.Ytioodeiloepaaaa
