/-
  What the row's condition on scalar's own number gives the walks. No statement is proved here. Conditions: none.
-/
import Derived.Test.YtlobejnohkecdaaDoorRows
import Derived.Test.YtlobejnohkecdaaDoorScC
import Derived.Test.YtlobejnohkecdaaDoorArg
import Derived.ProofKit
import Derived.LaidMore
import Derived.OpenShut
import Derived.Stop.Joined
namespace Go.Proofs.YtlobejnohkecdaaDoor
open Go.ChangeShapes Go.WideShapes Go.RowKit

/-- What the row lists. -/
def laid2 : List (String × DataW Unit) := Rows.scalarKnownRow.laid
theorem tOrder : (Tryd.prog.globals[0]?).map (·.type) = some 41 := by kernel_rfl
theorem dOrder {H : Type} : (Rows.laid_bandbox_scalar_order : DataW H) = .agg (oL.map fun (z : Nat) => .lit (.int .u64 (z : Int))) := by rfl
theorem laid_of {W : World} (h : laidMetH Tryd.prog laid2 W) : LaidO W := by
  rw [MakeChecks.laidMetH_plain _ _ _ (by kernel_rfl)] at h
  obtain ⟨ps, ⟨g0, t0, cs0, f0, p0, q0, hg0, ht0, hv0, hd0, _, _⟩, _, _⟩ := h
  obtain rfl := Option.some.inj ((show Tryd.prog.globalNamed _ = some 0 by kernel_rfl).symm.trans hg0)
  obtain rfl := Option.some.inj (tOrder.symm.trans ht0)
  have a0 : ∀ k x : Nat, oL[k]? = some x → W.cell? ⟨0, k, none⟩ = some (.int .u64 (x : Int)) := fun k x hx =>
    (World.var?_cell hg0 hv0 k).trans (u64_cells Tryd.underlying41 Tryd.underlying38 (by kernel_rfl) hd0 oL dOrder k x hx)
  exact ⟨a0, World.block_lt_of_cell? W _ (a0 0 _ rfl)⟩
end Go.Proofs.YtlobejnohkecdaaDoor
