/-
  Steps of a region that draws its order: Clamp, the document's own Clamp, Join. No statement is proved here. Conditions: those of the calls.
-/
import Derived.Test.YtioodeiloepaaaaRf5Stp
import Derived.Test.YtioodeiloepaaaaRf5J
namespace Go.Proofs.Ytioodeiloepaaaa
open Go.RowKit

section
variable {ops : Array Oper} {o : Oper} {a : Act} {w : World} {K : Act → World → Prop} {Q : Exit → Act → World → Prop} {E : Prop}
theorem step_clamp (hw : Region.wanted o (yielded ops a.tmps) = true) (x : Operand) (ho : o.op = .call { callee := .value (.func 11), args := #[x], argTypes := #[23] })
    (l : List UInt8) (hx : a.eval x = .agg (bv l).toArray) (hl : l.length = 16)
    (h : ∀ w', Below w.heap.size w w' → K (a.put o.dst (.agg (bv (clampOf l)).toArray)) w') : if Region.wanted o (yielded ops a.tmps) = true then Oper.wp Try.prog o a w K Q else E := by
  rw [if_pos hw]
  have hcl := clamp_any w l hl
  unfold Oper.wp
  simp only [execOp, ho, resolve, List.map_toArray, List.map_cons, List.map_nil, hx]
  clear hx
  go_simp
  refine hcl.mono ?_
  rintro e w' ⟨rfl, hb⟩
  exact h w' hb
theorem step_rclamp (hw : Region.wanted o (yielded ops a.tmps) = true) (x : Operand) (ho : o.op = .call { callee := .value (.func 14), args := #[x], argTypes := #[23] })
    (l : List UInt8) (hx : a.eval x = .agg (bv l).toArray) (hl : l.length = 16)
    (h : ∀ w', Below w.heap.size w w' → K (a.put o.dst (.agg (bv (clampOf l)).toArray)) w') : if Region.wanted o (yielded ops a.tmps) = true then Oper.wp Try.prog o a w K Q else E := by
  rw [if_pos hw]
  have hcl := refClamp_any w l hl
  unfold Oper.wp
  simp only [execOp, ho, resolve, List.map_toArray, List.map_cons, List.map_nil, hx]
  clear hx
  go_simp
  refine hcl.mono ?_
  rintro e w' ⟨rfl, hb⟩
  exact h w' hb
theorem step_join (hw : Region.wanted o (yielded ops a.tmps) = true) (x : Operand) (ho : o.op = .call { callee := .value (.func 13), args := #[x], argTypes := #[30] })
    (A : Option Addr) (ps : List (List UInt8)) (n c : Nat) (hx : a.eval x = .slice A n c) (hP : Prt w w.heap.size A ps) (hn : ps.length = n) (F : List UInt8) (hF : ps.flatten = F) (M : Nat) (hM : F.length = M) (hbig : M ≤ 70368744177664) (hn2 : n ≤ 140737488355328)
    (h : ∀ A' c' w', Byt w' w'.heap.size A' F → Below w.heap.size w w' → K (a.put o.dst (.slice A' M c')) w') : if Region.wanted o (yielded ops a.tmps) = true then Oper.wp Try.prog o a w K Q else E := by
  rw [if_pos hw]
  have hj := rjoin_any w A ps n c hP hn F hF M hM hbig hn2
  unfold Oper.wp
  simp only [execOp, ho, resolve, List.map_toArray, List.map_cons, List.map_nil, hx]
  clear hx
  go_simp
  refine hj.mono ?_
  rintro e w' ⟨A', c', rfl, hr, hb⟩
  exact h A' c' w' hr.byt hb
end
theorem flat_bound (B : Nat) : ∀ ps : List (List UInt8), (∀ p ∈ ps, p.length ≤ B) → ps.flatten.length ≤ B * ps.length
  | [], _ => by simp
  | p :: r, h => by
    have h1 := flat_bound B r (fun q hq => h q (by simp [hq]))
    have h2 := h p (by simp)
    rw [List.flatten_cons, List.length_append, List.length_cons, Nat.mul_succ]; omega
end Go.Proofs.Ytioodeiloepaaaa
