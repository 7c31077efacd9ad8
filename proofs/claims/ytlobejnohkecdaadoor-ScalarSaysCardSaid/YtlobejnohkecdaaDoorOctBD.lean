/-
  The lowest bytes of a number, as lists: words that other texts share. No statement is proved here. Conditions: none.
-/
import Derived.Test.YtlobejnohkecdaaDoorOctA
import Derived.LoopTactic
import Derived.Laws.Shifts
import Derived.Laws.ShiftsVar
namespace Go.Proofs.YtlobejnohkecdaaDoor
open Go.RowKit

/-- The lowest n bytes of v, the lowest first; the highest first. -/
def le (v : Nat) : Nat → List UInt8
  | 0 => []
  | n + 1 => le v n ++ [UInt8.ofNat (v / 2 ^ (8 * n))]
def be (v : Nat) : Nat → List UInt8
  | 0 => []
  | n + 1 => UInt8.ofNat (v / 2 ^ (8 * n)) :: be v n
theorem le_len (v n : Nat) : (le v n).length = n := by induction n with | zero => rfl | succ n ih => simp [le, ih]
theorem be_len (v n : Nat) : (be v n).length = n := by induction n with | zero => rfl | succ n ih => simp [be, ih]
theorem be_rev (v n : Nat) : be v n = (le v n).reverse := by induction n with | zero => rfl | succ n ih => simp [be, le, ih]

end Go.Proofs.YtlobejnohkecdaaDoor
