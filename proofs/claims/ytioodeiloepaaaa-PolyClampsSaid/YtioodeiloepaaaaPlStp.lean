/-
  Steps of a region that draws its order: poly.Tag. No statement is proved here. Conditions: those of Tag.
-/
import Derived.Test.YtioodeiloepaaaaStp
import Derived.Test.YtioodeiloepaaaaPlW2
namespace Go.Proofs.Ytioodeiloepaaaa
open Go.RowKit

section
variable {ops : Array Oper} {o : Oper} {a : Act} {w : World} {K : Act → World → Prop} {Q : Exit → Act → World → Prop} {E : Prop}
theorem step_tag (hw : Region.wanted o (yielded ops a.tmps) = true) (x y : Operand) (ho : o.op = .call { callee := .value (.func 9), args := #[x, y], argTypes := #[26, 30] })
    (key : List UInt8) (D : Option Addr) (ps : List (List UInt8)) (k d : Nat) (hx : a.eval x = .agg (bv key).toArray) (hy : a.eval y = .slice D k d) (hkl : key.length = 32)
    (hP : Prt w w.heap.size D ps) (hk : ps.length = k) (hbig : ps.flatten.length ≤ 288230376151711744) (hk2 : k ≤ 140737488355328)
    (h : ∀ w', Below w.heap.size w w' → K (a.put o.dst (.agg (bv (tagOf key ps.flatten)).toArray)) w') : if Region.wanted o (yielded ops a.tmps) = true then Oper.wp Try.prog o a w K Q else E := by
  rw [if_pos hw]
  have htag := ptagAll_any w key D ps k d hkl hP hk hbig hk2
  unfold Oper.wp
  simp only [execOp, ho, resolve, List.map_toArray, List.map_cons, List.map_nil, hx, hy]
  clear hx hy
  go_simp
  refine htag.mono ?_
  rintro e w' ⟨rfl, hb⟩
  exact h w' hb
end
end Go.Proofs.Ytioodeiloepaaaa
