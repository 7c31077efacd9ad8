/-
  Steps of a region that draws its order: a list of one or two lists. No statement is proved here. Conditions: none.
-/
import Derived.Test.YtioodeiloepaaaaPrt
import Derived.Test.YtioodeiloepaaaaReg
import Derived.Test.YtioodeiloepaaaaNew
namespace Go.Proofs.Ytioodeiloepaaaa
open Go.RowKit

theorem Byt.next {w w' : World} {A : Option Addr} {l : List UInt8} (h : Byt w w.heap.size A l) (hb : Below w.heap.size w w') : Byt w' w'.heap.size A l := (h.below hb).up hb.size
theorem row_next {w w' : World} {g : Nat} {cs : Array Value} {t : TypeId} (h : Hid (w.heap[g]? = some (.cells cs t (0, 0)))) (hb : Below w.heap.size w w') : Hid (w'.heap[g]? = some (.cells cs t (0, 0))) :=
  (hb.block _ (Array.getElem?_eq_some_iff.1 h.out).1).trans h.out
section
variable {ops : Array Oper} {o : Oper} {a : Act} {w : World} {K : Act → World → Prop} {Q : Exit → Act → World → Prop} {E : Prop}
theorem step_one (hw : Region.wanted o (yielded ops a.tmps) = true) (x : Operand) (ho : o.op = .buildSlice 30 1 #[(0, x)])
    (A : Option Addr) (l : List UInt8) (n c : Nat) (hx : a.eval x = .slice A n c) (ha : Byt w w.heap.size A l) (hl : l.length = n) (hc : n ≤ c)
    (h : ∀ D w', Prt w' w'.heap.size D [l] → Below w.heap.size w w' → K (a.put o.dst (.slice D 1 1)) w') : if Region.wanted o (yielded ops a.tmps) = true then Oper.wp Try.prog o a w K Q else E := by
  rw [if_pos hw]
  have h1 := h _ _ (Prt.one (E := 27) ha hl hc) ((Below.refl _ _).alloc (Nat.le_refl _) _)
  unfold Oper.wp
  simp only [execOp, ho, List.map_toArray, List.map_cons, List.map_nil, hx]
  clear h hx
  go_simp
  exact h1
theorem step_two (hw : Region.wanted o (yielded ops a.tmps) = true) (x y : Operand) (ho : o.op = .buildSlice 30 2 #[(0, x), (1, y)])
    (A D : Option Addr) (l m : List UInt8) (n c k d : Nat) (hx : a.eval x = .slice A n c) (hy : a.eval y = .slice D k d) (ha : Byt w w.heap.size A l) (hl : l.length = n) (hc : n ≤ c) (hd : Byt w w.heap.size D m) (hm : m.length = k) (hk : k ≤ d)
    (h : ∀ G w', Prt w' w'.heap.size G [l, m] → Below w.heap.size w w' → K (a.put o.dst (.slice G 2 2)) w') : if Region.wanted o (yielded ops a.tmps) = true then Oper.wp Try.prog o a w K Q else E := by
  rw [if_pos hw]
  have h1 := h _ _ (Prt.two (E := 27) ha hl hc hd hm hk) ((Below.refl _ _).alloc (Nat.le_refl _) _)
  unfold Oper.wp
  simp only [execOp, ho, List.map_toArray, List.map_cons, List.map_nil, hx, hy]
  clear h hx hy
  go_simp
  exact h1
end
end Go.Proofs.Ytioodeiloepaaaa
