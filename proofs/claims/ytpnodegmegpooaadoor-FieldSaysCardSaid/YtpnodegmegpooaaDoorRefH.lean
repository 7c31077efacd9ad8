/-
  Contract of the document's own held. Conditions: none.
-/
import Derived.Test.YtpnodegmegpooaaDoorOctBD
import Derived.Test.YtpnodegmegpooaaDoorSrc
import Derived.Test.YtpnodegmegpooaaDoorLit
namespace Go.Proofs.YtpnodegmegpooaaDoor
open Go.RowKit

theorem held_any (n : Int) (w : World) : Calls Tryd.prog 51 #[.int .i64 n] w fun e w' => e = .returned (.int .i64 (wd n)) ∧ w = w' := by
  go_enter Tryd.func51, Tryd.ntmps51
  go_wp2
  all_goals go_ret
  all_goals exact ⟨by unfold wd; first | go_num | (congr 2; omega), rfl⟩

end Go.Proofs.YtpnodegmegpooaaDoor
