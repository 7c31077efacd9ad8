/-
  Numbers with a sign as the cells of a row: words that other texts share. No statement is proved here. Conditions: none.
-/
import Derived.Test.YtknmccpoheekmaaMem
namespace Go.Proofs.Ytknmccpoheekmaa
open Go.RowKit

def iat (l : List Int) (k : Nat) : Int := l.getD k 0
theorem iat_at {l : List Int} {k : Nat} (h : k < l.length) : l[k]? = some (iat l k) := by simp [iat, List.getElem?_eq_getElem h]
theorem iat_set_other (l : List Int) (k j : Nat) (x : Int) (h : k ≠ j) : iat (l.set k x) j = iat l j := by
  rw [iat, iat, List.getD_eq_getElem?_getD, List.getD_eq_getElem?_getD, List.getElem?_set_ne h]
theorem Try.sizeI64 : (Try.prog.info? 2).map (·.size) = some 1 := by kernel_rfl
/-- Pieces as the cells of a row. -/
def i64v (l : List Int) : List Value := l.map fun x => Value.int .i64 x
theorem i64v_len (l : List Int) : (i64v l).length = l.length := by simp [i64v]
theorem i64v_at (l : List Int) (k : Nat) : (i64v l)[k]? = l[k]?.map fun x => Value.int .i64 x := by simp [i64v]
theorem i64v_set (l : List Int) (k : Nat) (x : Int) : (i64v l).set k (.int .i64 x) = i64v (l.set k x) := by simp [i64v, List.map_set]
theorem i64v_one (l : List Int) : ∀ u ∈ i64v l, u.oneCell' = true := by
  intro u hu
  obtain ⟨b, _, rfl⟩ := List.mem_map.1 hu
  rfl
theorem i64v_size (l : List Int) (h : l.length = 16) : (i64v l).toArray.size = 16 := by simp [i64v_len, h]
theorem int_at {w : World} {g : Nat} {l : List Int} {t : TypeId} (hg : w.heap[g]? = some (.cells (i64v l).toArray t (0, 0))) (k : Nat) (hk : k < l.length) : w.cell? ⟨g, k, none⟩ = some (.int .i64 (iat l k)) := by
  rw [cell_of_row _ _ _ _ _ _ hg]
  simp [i64v_at, iat, List.getElem?_eq_getElem hk]
theorem iat_set_same (l : List Int) (k : Nat) (x : Int) (h : k < l.length) : iat (l.set k x) k = x := by simp [iat, List.getD_eq_getElem?_getD, h]
end Go.Proofs.Ytknmccpoheekmaa
