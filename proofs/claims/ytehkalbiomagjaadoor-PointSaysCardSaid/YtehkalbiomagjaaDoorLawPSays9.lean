/-
  PointSays: the law's Go text returns true, whatever the input. Conditions: none beyond the row's own.
-/
import Derived.Test.YtehkalbiomagjaaDoorPkH
namespace Go.Proofs.YtehkalbiomagjaaDoor
open Go.RowKit

theorem walk_PointSays (w : World) (hla : LaidP w) (a : List UInt8) (ha : a.length = 32) (b : List UInt8) (hb : b.length = 32) (n : List UInt8) (hn : n.length = 32) :
    Calls Tryd.prog 3 #[.agg (bv a).toArray, .agg (bv b).toArray, .agg (bv n).toArray] w fun e w' => e = .returned (.bool true) ∧ Below w.heap.size w w' := by
  obtain ⟨o, ho⟩ := pt_ex a
  obtain ⟨p, hp⟩ := pt_ex b
  match o, p, ho, hp with
  | none, _, ho, _ => exact says_PtSn w hla a ha b hb n hn ho
  | some P, none, ho, hp => exact says_PtSm w hla a ha b hb n hn P ho hp
  | some P, some Q, ho, hp => exact says_PtSk w hla a ha b hb n hn P Q ho hp
end Go.Proofs.YtehkalbiomagjaaDoor
