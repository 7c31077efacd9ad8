/-
  Stores into an edit's fields. No statement is proved here. Conditions: the edit lies in a block of its own.
-/
import Derived.Test.YtabgkkdgamacnaaOpM
namespace Go.Proofs.Ytabgkkdgamacnaa
open Go.RowKit

theorem set_tail {e : Ed} (h : e.seen.length = 8) (k j : Nat) (hk : k = 10 + j) (u : Value) : e.cells.set k u = [.int .i64 e.dev, .int .i64 e.num] ++ (i64v e.seen ++ [.int .i64 e.kind, .string e.con, .string e.fld, .string e.val, .int .i64 e.time].set j u) := by
  subst hk
  rw [Ed.cells, List.set_append_right _ _ (by simp; omega), List.set_append_right _ _ (by simp [i64v_len, h]; omega)]
  simp only [List.length_cons, List.length_nil, i64v_len, h]
  congr 3; omega
section
variable {w : World} {g : Nat} {T : TypeId} {d n k t : Int} {s : List Int} {c f v : ByteArray}
theorem put_dev (h : Hid (w.heap[g]? = some (.cells (Ed.mk d n s k c f v t).cells.toArray T (0, 0)))) (x : Int) :
    Hid ((w.setCell ⟨g, 0, none⟩ (.int .i64 x)).heap[g]? = some (.cells (Ed.mk x n s k c f v t).cells.toArray T (0, 0))) := world_set_cell h.out 0 _
theorem put_num (h : Hid (w.heap[g]? = some (.cells (Ed.mk d n s k c f v t).cells.toArray T (0, 0)))) (x : Int) :
    Hid ((w.setCell ⟨g, 1, none⟩ (.int .i64 x)).heap[g]? = some (.cells (Ed.mk d x s k c f v t).cells.toArray T (0, 0))) := world_set_cell h.out 1 _
theorem put_kind (h : Hid (w.heap[g]? = some (.cells (Ed.mk d n s k c f v t).cells.toArray T (0, 0)))) (hs : s.length = 8) (x : Int) :
    Hid ((w.setCell ⟨g, 10, none⟩ (.int .i64 x)).heap[g]? = some (.cells (Ed.mk d n s x c f v t).cells.toArray T (0, 0))) := by
  have h2 := world_set_cell h.out 10 (.int .i64 x)
  rw [set_tail hs 10 0 rfl] at h2; exact h2
theorem put_con (h : Hid (w.heap[g]? = some (.cells (Ed.mk d n s k c f v t).cells.toArray T (0, 0)))) (hs : s.length = 8) (x : ByteArray) :
    Hid ((w.setCell ⟨g, 11, none⟩ (.string x)).heap[g]? = some (.cells (Ed.mk d n s k x f v t).cells.toArray T (0, 0))) := by
  have h2 := world_set_cell h.out 11 (.string x)
  rw [set_tail hs 11 1 rfl] at h2; exact h2
theorem put_fld (h : Hid (w.heap[g]? = some (.cells (Ed.mk d n s k c f v t).cells.toArray T (0, 0)))) (hs : s.length = 8) (x : ByteArray) :
    Hid ((w.setCell ⟨g, 12, none⟩ (.string x)).heap[g]? = some (.cells (Ed.mk d n s k c x v t).cells.toArray T (0, 0))) := by
  have h2 := world_set_cell h.out 12 (.string x)
  rw [set_tail hs 12 2 rfl] at h2; exact h2
theorem put_val (h : Hid (w.heap[g]? = some (.cells (Ed.mk d n s k c f v t).cells.toArray T (0, 0)))) (hs : s.length = 8) (x : ByteArray) :
    Hid ((w.setCell ⟨g, 13, none⟩ (.string x)).heap[g]? = some (.cells (Ed.mk d n s k c f x t).cells.toArray T (0, 0))) := by
  have h2 := world_set_cell h.out 13 (.string x)
  rw [set_tail hs 13 3 rfl] at h2; exact h2
theorem put_time (h : Hid (w.heap[g]? = some (.cells (Ed.mk d n s k c f v t).cells.toArray T (0, 0)))) (hs : s.length = 8) (x : Int) :
    Hid ((w.setCell ⟨g, 14, none⟩ (.int .i64 x)).heap[g]? = some (.cells (Ed.mk d n s k c f v x).cells.toArray T (0, 0))) := by
  have h2 := world_set_cell h.out 14 (.int .i64 x)
  rw [set_tail hs 14 4 rfl] at h2; exact h2
theorem put_seen (h : Hid (w.heap[g]? = some (.cells (Ed.mk d n s k c f v t).cells.toArray T (0, 0)))) (hs : s.length = 8) (x : List Int) (hx : x.length = 8) :
    Hid ((w.setCells g 2 (i64v x)).heap[g]? = some (.cells (Ed.mk d n x k c f v t).cells.toArray T (0, 0))) ∧ But g w (w.setCells g 2 (i64v x)) := by
  have e := setCells_row h.out (o := 2) (i64v x) (by rw [Ed.cells_len hs, i64v_len, hx]; decide) (i64v_one _)
  have e2 : splice (Ed.mk d n s k c f v t).cells 2 (i64v x) = (Ed.mk d n x k c f v t).cells := by
    rw [Ed.cells, splice_mid _ _ _ (i64v x) 2 0 rfl (by rw [i64v_len, i64v_len, hx, hs]; decide)]
    rw [show splice (i64v s) 0 (i64v x) = i64v x by
      simp only [splice, List.take_zero, List.nil_append]
      rw [List.drop_of_length_le (by rw [i64v_len, i64v_len, hx, hs]; decide), List.append_nil]]
    rfl
  rw [e2] at e
  rw [e]
  exact ⟨setRow_heap _ _ _ _ _ _ h.out, (But.refl _ _).row _⟩
theorem there_seen {e : Ed} (h : Hid (w.heap[g]? = some (.cells e.cells.toArray T (0, 0)))) (hs : e.seen.length = 8) (x : List Int) (hx : x.length = 8) : w.there g 2 (i64v x).toArray.size := by
  intro j hj
  rw [List.size_toArray, i64v_len, hx] at hj
  refine ⟨?_, frozen_of_row _ _ _ _ _ h.out⟩
  rw [ed_seen h j (by omega)]; rfl
end
def ed0 : Ed := ⟨0, 0, List.replicate 8 0, 0, ⟨#[]⟩, ⟨#[]⟩, ⟨#[]⟩, 0⟩
theorem ed0_len : ed0.seen.length = 8 := rfl
theorem zero_ed (w : World) : (zeroValue 28).run Try.prog w = .ok (.agg ed0.cells.toArray) w := by kernel_rfl
theorem built_ed0 : Try.prog.built 28 [] = some ed0.cells.toArray := by kernel_rfl
end Go.Proofs.Ytabgkkdgamacnaa
