/-
  A range of bytes that is known whole: a word for regions that draw their order. No statement is proved here. Conditions: none.
-/
import Derived.Test.YtcdjpjljaoeakaaMem
namespace Go.Proofs.Ytcdjpjljaoeakaa
open Go.RowKit

theorem range_row {w : World} {g : Nat} {l : List UInt8} {t : TypeId} (hg : w.heap[g]? = some (.cells (bv l).toArray t (0, 0))) : w.rangeAt g 0 (bv l) := by
  intro j v hj
  rw [Nat.zero_add, cell_of_row _ _ _ _ _ _ hg]
  simpa using hj
end Go.Proofs.Ytcdjpjljaoeakaa
