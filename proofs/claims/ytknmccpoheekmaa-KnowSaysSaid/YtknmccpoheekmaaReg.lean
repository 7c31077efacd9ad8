/-
  One law on regions that draw their order, for the texts of this seat: the condition that is held may be made stronger on the way. Conditions: none.
-/
import Derived.Test.YtknmccpoheekmaaBase
import Derived.Deep.RegionHeld3
namespace Go.Proofs.Ytknmccpoheekmaa
open Go.RowKit

theorem held_more {P : Program} {ops : Array Oper} {Q : Exit → Act → World → Prop} {md : Region.Mode} {S S' : World → Prop} (h : ∀ w, S' w → S w) :
    ∀ (fuel : Nat) (listed : Array Bool) (a : Act) (w : World), wpAnyH P md ops Q S' fuel listed a w → wpAnyH P md ops Q S fuel listed a w
  | 0, _, _, _, H => H
  | fuel + 1, _, _, _, H => ⟨H.1, fun i hi => wpOp_mono (fun a' w' h' => ⟨h _ h'.1, held_more h fuel _ a' w' h'.2⟩) (H.2 i hi)⟩
end Go.Proofs.Ytknmccpoheekmaa
