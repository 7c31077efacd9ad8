/-
  A text turned into bytes: new memory. No statement is proved here. Conditions: none.
-/
import Derived.Test.YtabgkkdgamacnaaCut
import Derived.Lib.ConvBytes
namespace Go.Proofs.Ytabgkkdgamacnaa
open Go.RowKit

theorem bytesWorld_below (w : World) (e : TypeId) (s : ByteArray) : Below w.heap.size w (Lib.bytesWorld w e s) :=
  ⟨rfl, rfl, rfl, by rw [Lib.bytesWorld_size]; omega, fun k hk => Lib.bytesWorld_at_old w e s k hk⟩
theorem bytesWorld_byt (w : World) (e : TypeId) (s : ByteArray) : Byt (Lib.bytesWorld w e s) (Lib.bytesWorld w e s).heap.size (some ⟨w.heap.size, 0, none⟩) s.data.toList := by
  refine .inr ⟨w.heap.size, 0, rfl, by rw [Lib.bytesWorld_size]; omega, fun j b hj => ?_⟩
  have hjl : j < s.size := by
    have := (List.getElem?_eq_some_iff.1 hj).1
    rw [Array.length_toList] at this; exact this
  rw [Nat.zero_add, Lib.bytesWorld_cell w e s j hjl]
  simp [hj]

section
variable {P : Program} {ops : Array Oper} {o : Oper} {a : Act} {w : World} {K : Act → World → Prop} {Q : Exit → Act → World → Prop} {E : Prop}
theorem step_conv (hw : Region.wanted o (yielded ops a.tmps) = true) (S T e : TypeId) (x : Operand) (ho : o.op = .convert S T x) (hS : P.underlying S = some .string) (hT : P.underlying T = some (.slice e)) (he : P.underlying e = some (.int .u8))
    (s : ByteArray) (hx : a.eval x = .string s)
    (h : ∀ A c w', Byt w' w'.heap.size A s.data.toList → s.size ≤ c → Below w.heap.size w w' → K (a.put o.dst (.slice A s.size c)) w') : if Region.wanted o (yielded ops a.tmps) = true then Oper.wp P o a w K Q else E := by
  rw [if_pos hw]
  unfold Oper.wp
  simp only [execOp, ho, hx, Sem.run_bind, Lib.run_convert_string_bytes w S T e s hS hT he, Result.andThen_ok]
  exact h _ _ _ (bytesWorld_byt w e s) (grownCap_ge w s.size 0 e) (bytesWorld_below w e s)
end
end Go.Proofs.Ytabgkkdgamacnaa
