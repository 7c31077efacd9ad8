/-
  Steps of a region that draws its order: poly.Tag. No statement is proved here. Conditions: those of Tag.
-/
import Derived.Test.YtioodeiloepaaaaStp
import Derived.Test.YtioodeiloepaaaaPlW2
namespace Go.Proofs.Ytioodeiloepaaaa
open Go.RowKit

/-- The tag of one part that lies somewhere. -/
theorem tag_slice (w : World) (key m : List UInt8) (A : Option Addr) (n c : Nat) (hA : Byt w w.heap.size A m) (hk : key.length = 32) (hn : m.length = n) (hc : n ≤ c) (hn2 : n ≤ 1048576) :
    Calls Try.prog 9 #[.agg (bv key).toArray, .slice (some ⟨w.heap.size, 0, none⟩) 1 1] (w.alloc (.cells #[.slice A n c] 27)) fun e w' => e = .returned (.agg (bv (tagOf key m)).toArray) ∧ Below w.heap.size w w' := by
  have b2 : Below w.heap.size w (w.alloc (.cells #[.slice A n c] 27)) := (Below.refl _ _).alloc (Nat.le_refl _) _
  have hp := Prt.one (E := 27) hA hn hc
  have e3 : [m].flatten = m := by simp
  have h := ptagAll_any _ key (some ⟨w.heap.size, 0, none⟩) [m] 1 1 hk hp rfl (by rw [e3]; omega) (by decide)
  rw [e3] at h
  exact h.mono fun _ _ ⟨h1, h2⟩ => ⟨h1, b2.trans (h2.mono b2.size)⟩
section
variable {ops : Array Oper} {o : Oper} {a : Act} {w : World} {K : Act → World → Prop} {Q : Exit → Act → World → Prop} {E : Prop}
theorem step_tag (hw : Region.wanted o (yielded ops a.tmps) = true) (x y : Operand) (ho : o.op = .call { callee := .value (.func 9), args := #[x, y], argTypes := #[26, 30] })
    (key : List UInt8) (D : Option Addr) (ps : List (List UInt8)) (k d : Nat) (hx : a.eval x = .agg (bv key).toArray) (hy : a.eval y = .slice D k d) (hkl : key.length = 32)
    (hP : Prt w w.heap.size D ps) (hk : ps.length = k) (hbig : ps.flatten.length ≤ 288230376151711744) (hk2 : k ≤ 140737488355328)
    (h : ∀ w', Below w.heap.size w w' → K (a.put o.dst (.agg (bv (tagOf key ps.flatten)).toArray)) w') : if Region.wanted o (yielded ops a.tmps) = true then Oper.wp Try.prog o a w K Q else E := by
  rw [if_pos hw]
  have htag := ptagAll_any w key D ps k d hkl hP hk hbig hk2
  unfold Oper.wp
  simp only [execOp, ho, resolve, List.map_toArray, List.map_cons, List.map_nil, hx, hy]
  clear hx hy
  go_simp
  refine htag.mono ?_
  rintro e w' ⟨rfl, hb⟩
  exact h w' hb
end
end Go.Proofs.Ytioodeiloepaaaa
