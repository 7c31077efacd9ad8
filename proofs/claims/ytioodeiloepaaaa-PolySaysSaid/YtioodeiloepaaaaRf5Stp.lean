/-
  Steps of a region that draws its order: the document's own Tag, a new row of noughts. No statement is proved here. Conditions: those of Tag.
-/
import Derived.Test.YtioodeiloepaaaaRf5W
import Derived.Test.YtioodeiloepaaaaPlStp
namespace Go.Proofs.Ytioodeiloepaaaa
open Go.RowKit

section
variable {ops : Array Oper} {o : Oper} {a : Act} {w : World} {K : Act → World → Prop} {Q : Exit → Act → World → Prop} {E : Prop}
theorem step_rtag (hw : Region.wanted o (yielded ops a.tmps) = true) (x y : Operand) (ho : o.op = .call { callee := .value (.func 12), args := #[x, y], argTypes := #[26, 27] })
    (key : List UInt8) (A : Option Addr) (b : List UInt8) (n c : Nat) (hx : a.eval x = .agg (bv key).toArray) (hy : a.eval y = .slice A n c) (hkl : key.length = 32)
    (hb : Byt w w.heap.size A b) (hl : b.length = n) (hn : n ≤ 1099511627776)
    (h : ∀ w', Below w.heap.size w w' → K (a.put o.dst (.agg (bv (tagOf key b)).toArray)) w') : if Region.wanted o (yielded ops a.tmps) = true then Oper.wp Try.prog o a w K Q else E := by
  rw [if_pos hw]
  have htag := rtag_any w key hkl A b n c hb hl hn
  unfold Oper.wp
  simp only [execOp, ho, resolve, List.map_toArray, List.map_cons, List.map_nil, hx, hy]
  clear hx hy
  go_simp
  refine htag.mono ?_
  rintro e w' ⟨rfl, hb⟩
  exact h w' hb
theorem step_make (hw : Region.wanted o (yielded ops a.tmps) = true) (x y : Operand) (ho : o.op = .makeSlice 27 x y) (k : Nat) (hx : a.eval x = .int .i64 (k : Int)) (hy : a.eval y = .int .i64 (k : Int)) (hk : k ≤ 281474976710656)
    (h : ∀ A w', Byt w' w'.heap.size A (List.replicate k 0) → Below w.heap.size w w' → K (a.put o.dst (.slice A k k)) w') : if Region.wanted o (yielded ops a.tmps) = true then Oper.wp Try.prog o a w K Q else E := by
  rw [if_pos hw]
  obtain ⟨i0, hi, hz0, hz1, hz2⟩ := info_parts Try.infoByte
  obtain ⟨w1, hrun, hg1, hb1, hs1⟩ := make_bytes (P := Try.prog) Try.underlying27 hi hz0 hz1 hz2 k k (k : Int) (k : Int) rfl rfl (Nat.le_refl _) hk w
  have h1 := h _ _ (byt_row hg1.out) hb1.out
  unfold Oper.wp
  simp only [execOp, ho, hx, hy, Sem.run_bind, hrun, Result.andThen_ok]
  exact h1
end
end Go.Proofs.Ytioodeiloepaaaa
