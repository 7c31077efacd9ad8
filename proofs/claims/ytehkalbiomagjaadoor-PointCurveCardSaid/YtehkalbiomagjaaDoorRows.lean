/-
  NARROWER THAN 'FOR EVERY INPUT', by the rows' own cells (each row's printed sentence says how): PointSays: laid · PointAdds: laid · PointTimes: laid · PointCurve: laid · PointStep: laid.
  DERIVED. THE GIVEN ROWS OF THIS SEAT. 5 by the template 'for every input the law returns true; each argument reads behind the call as it read before'; 0 by the template 'total and deterministic' (their statements: YtehkalbiomagjaaDoorTotals.lean).
  GIVEN WITH THE SEED: the statements are not yours to turn. If you find one false, say at which input.
  Laid BY PROGRAM, IN A SANDBOX (cutbox-rows.mjs): the forced cells as the released guide's own fill.sh prints them over the translation c71ea875e2b8b98f… (all of the seat's roots in one cut). By AI agents, Wed Nov 11 2026. No macro, syntax, notation, axiom, sorry.
-/
import Derived.Test.YtehkalbiomagjaaDoorChecked
import GoSem.Claim
import GoSem.ClaimJoined
import GoSem.ClaimMapViews
import Derived.JoinedTies
import Derived.KernelRfl
namespace Go.Proofs.YtehkalbiomagjaaDoor
/- THE CELL 'sum', in the pinned program and in every row, IS THE sha256 OF THE DUMP (.gsa) THAT YtehkalbiomagjaaDoorProg.lean LOADS. Nothing in Lean hashes anything: it is a label: what it is worth is what the hold of that sum in a sandbox is worth. -/
noncomputable def Tryd.pinned : Pinned := { name := "ytehkalbiomagjaadoor", sum := "c71ea875e2b8b98f7553d78507e9abe265642537567f607a3fd76c5e97453a42", checked := Tryd.checked }
namespace Rows
def none {H : Type} : Left H := { results := [], args := [] }

/- WHAT THE LISTED PACKAGE-LEVEL VARIABLES READ AS WHEN THE CALL BEGINS. Each datum BY PROGRAM (the guide's laid-datum.mjs) off the statement by which the dump's own 'gosem.cut.vars' lays the variable. In a bare row this is a premise. The card (YtehkalbiomagjaaDoorCards.lean) ties it to the program's text. -/
def laid_bandbox_field_turn {H : Type} : DataW H := .agg [.lit (.int .u64 14190309331451158704), .lit (.int .u64 3405592160176694392), .lit (.int .u64 3120150775007532967), .lit (.int .u64 3135389899092516619)]
def laid_bandbox_point_bend {H : Type} : DataW H := .agg [.lit (.int .u8 163), .lit (.int .u8 120), .lit (.int .u8 89), .lit (.int .u8 19), .lit (.int .u8 202), .lit (.int .u8 77), .lit (.int .u8 235), .lit (.int .u8 117), .lit (.int .u8 171), .lit (.int .u8 216), .lit (.int .u8 65), .lit (.int .u8 65), .lit (.int .u8 77), .lit (.int .u8 10), .lit (.int .u8 112), .lit (.int .u8 0), .lit (.int .u8 152), .lit (.int .u8 232), .lit (.int .u8 121), .lit (.int .u8 119), .lit (.int .u8 121), .lit (.int .u8 64), .lit (.int .u8 199), .lit (.int .u8 140), .lit (.int .u8 115), .lit (.int .u8 254), .lit (.int .u8 111), .lit (.int .u8 43), .lit (.int .u8 238), .lit (.int .u8 108), .lit (.int .u8 3), .lit (.int .u8 82)]
def laid_bandbox_scalar_order {H : Type} : DataW H := .agg [.lit (.int .u64 6346243789798364141), .lit (.int .u64 1503914060200516822), .lit (.int .u64 0), .lit (.int .u64 1152921504606846976)]

/-- 'bandboxlaw9.PointSays': WHATEVER THE INPUT: true; the input reads as it did. -/
def pointSaysSpec : ChangeSpec := { name := "pointSays", fn := fun _ => fun
  | [d1, d2, d3] => { results := [.lit (.bool true)], args := [d1, d2, d3] }
  | _ => none }
def pointSaysRow : OpenClaim := { program := "ytehkalbiomagjaadoor", sum := "c71ea875e2b8b98f7553d78507e9abe265642537567f607a3fd76c5e97453a42", func := "bandbox/bandboxlaw9.PointSays", spec := "pointSays", inPlace := ["math/bits.Add64"], named := ["bandbox/point.bend", "bandbox/field.turn"], apart := false, laid := [("bandbox/field.turn", laid_bandbox_field_turn), ("bandbox/point.bend", laid_bandbox_point_bend)] }
def PointSaysSaid : Prop := pointSaysRow.holds Tryd.pinned (OpenSpec.ofChange pointSaysSpec)

/-- ITS FALSE NEIGHBOUR: 'it returns false'. Refute it at one input. -/
def pointSaysWrong : ChangeSpec := { name := "pointSays", fn := fun _ => fun
  | [d1, d2, d3] => { results := [.lit (.bool false)], args := [d1, d2, d3] }
  | _ => none }
def PointSaysWrongFalsely : Prop := pointSaysRow.holds Tryd.pinned (OpenSpec.ofChange pointSaysWrong)

/-- 'bandboxlaw9.PointAdds': WHATEVER THE INPUT: true; the input reads as it did. -/
def pointAddsSpec : ChangeSpec := { name := "pointAdds", fn := fun _ => fun
  | [d1, d2] => { results := [.lit (.bool true)], args := [d1, d2] }
  | _ => none }
def pointAddsRow : OpenClaim := { program := "ytehkalbiomagjaadoor", sum := "c71ea875e2b8b98f7553d78507e9abe265642537567f607a3fd76c5e97453a42", func := "bandbox/bandboxlaw9.PointAdds", spec := "pointAdds", inPlace := ["math/bits.Add64"], named := ["bandbox/point.bend", "bandbox/field.turn", "bandbox/scalar.order"], apart := false, laid := [("bandbox/field.turn", laid_bandbox_field_turn), ("bandbox/point.bend", laid_bandbox_point_bend), ("bandbox/scalar.order", laid_bandbox_scalar_order)] }
def PointAddsSaid : Prop := pointAddsRow.holds Tryd.pinned (OpenSpec.ofChange pointAddsSpec)

/-- ITS FALSE NEIGHBOUR: 'it returns false'. Refute it at one input. -/
def pointAddsWrong : ChangeSpec := { name := "pointAdds", fn := fun _ => fun
  | [d1, d2] => { results := [.lit (.bool false)], args := [d1, d2] }
  | _ => none }
def PointAddsWrongFalsely : Prop := pointAddsRow.holds Tryd.pinned (OpenSpec.ofChange pointAddsWrong)

/-- 'bandboxlaw9.PointTimes': WHATEVER THE INPUT: true; the input reads as it did. -/
def pointTimesSpec : ChangeSpec := { name := "pointTimes", fn := fun _ => fun
  | [d1, d2] => { results := [.lit (.bool true)], args := [d1, d2] }
  | _ => none }
def pointTimesRow : OpenClaim := { program := "ytehkalbiomagjaadoor", sum := "c71ea875e2b8b98f7553d78507e9abe265642537567f607a3fd76c5e97453a42", func := "bandbox/bandboxlaw9.PointTimes", spec := "pointTimes", inPlace := ["math/bits.Add64"], named := ["bandbox/point.bend", "bandbox/field.turn", "bandbox/scalar.order"], apart := false, laid := [("bandbox/field.turn", laid_bandbox_field_turn), ("bandbox/point.bend", laid_bandbox_point_bend), ("bandbox/scalar.order", laid_bandbox_scalar_order)] }
def PointTimesSaid : Prop := pointTimesRow.holds Tryd.pinned (OpenSpec.ofChange pointTimesSpec)

/-- ITS FALSE NEIGHBOUR: 'it returns false'. Refute it at one input. -/
def pointTimesWrong : ChangeSpec := { name := "pointTimes", fn := fun _ => fun
  | [d1, d2] => { results := [.lit (.bool false)], args := [d1, d2] }
  | _ => none }
def PointTimesWrongFalsely : Prop := pointTimesRow.holds Tryd.pinned (OpenSpec.ofChange pointTimesWrong)

/-- 'bandboxlaw9.PointCurve': WHATEVER THE INPUT: true; the input reads as it did. -/
def pointCurveSpec : ChangeSpec := { name := "pointCurve", fn := fun _ => fun
  | [d] => { results := [.lit (.bool true)], args := [d] }
  | _ => none }
def pointCurveRow : OpenClaim := { program := "ytehkalbiomagjaadoor", sum := "c71ea875e2b8b98f7553d78507e9abe265642537567f607a3fd76c5e97453a42", func := "bandbox/bandboxlaw9.PointCurve", spec := "pointCurve", inPlace := ["math/bits.Add64"], named := ["bandbox/point.bend", "bandbox/field.turn"], apart := false, laid := [("bandbox/field.turn", laid_bandbox_field_turn), ("bandbox/point.bend", laid_bandbox_point_bend)] }
def PointCurveSaid : Prop := pointCurveRow.holds Tryd.pinned (OpenSpec.ofChange pointCurveSpec)

/-- ITS FALSE NEIGHBOUR: 'it returns false'. Refute it at one input. -/
def pointCurveWrong : ChangeSpec := { name := "pointCurve", fn := fun _ => fun
  | [d] => { results := [.lit (.bool false)], args := [d] }
  | _ => none }
def PointCurveWrongFalsely : Prop := pointCurveRow.holds Tryd.pinned (OpenSpec.ofChange pointCurveWrong)

/-- 'bandboxlaw9.PointStep': WHATEVER THE INPUT: true; the input reads as it did. -/
def pointStepSpec : ChangeSpec := { name := "pointStep", fn := fun _ => fun
  | [d] => { results := [.lit (.bool true)], args := [d] }
  | _ => none }
def pointStepRow : OpenClaim := { program := "ytehkalbiomagjaadoor", sum := "c71ea875e2b8b98f7553d78507e9abe265642537567f607a3fd76c5e97453a42", func := "bandbox/bandboxlaw9.PointStep", spec := "pointStep", inPlace := ["math/bits.Add64"], named := ["bandbox/point.bend", "bandbox/field.turn"], apart := false, laid := [("bandbox/field.turn", laid_bandbox_field_turn), ("bandbox/point.bend", laid_bandbox_point_bend)] }
def PointStepSaid : Prop := pointStepRow.holds Tryd.pinned (OpenSpec.ofChange pointStepSpec)

/-- ITS FALSE NEIGHBOUR: 'it returns false'. Refute it at one input. -/
def pointStepWrong : ChangeSpec := { name := "pointStep", fn := fun _ => fun
  | [d] => { results := [.lit (.bool false)], args := [d] }
  | _ => none }
def PointStepWrongFalsely : Prop := pointStepRow.holds Tryd.pinned (OpenSpec.ofChange pointStepWrong)

/- THE SECOND FORM. 'bulk': how many values and letters a reading holds, each counted each time it is reached (what is shared counts as often as it is met; a slice's spare places count too). A statement '..UptoSaid' is the law's where the arguments, and the package variables that the reading takes, are together of bulk at most 1048576: NARROWER than '..Said'. Prove '..Said' where nothing that the law and all that it calls make is longer than what came in: it says more and counts as full. Else prove '..UptoSaid'. A law counts once. -/
mutual
def uptoBulk {H : Type} : DataW H → Nat
  | .lit (.string bytes) => bytes.length + 1
  | .lit _ => 1
  | .nil => 1
  | .ptr d => uptoBulk d + 1
  | .slice elems spare => uptoBulkAll elems + uptoBulkAll spare + 1
  | .agg parts => uptoBulkAll parts + 1
  | .iface _ d => uptoBulk d + 1
  | .map entries => uptoBulkEntries entries + 1
  | .held _ => 1
def uptoBulkAll {H : Type} : List (DataW H) → Nat
  | [] => 0
  | d :: r => uptoBulk d + uptoBulkAll r
def uptoBulkEntries {H : Type} : List (Lit × DataW H) → Nat
  | [] => 0
  | x :: r => uptoBulkEntry x + uptoBulkEntries r
def uptoBulkEntry {H : Type} : Lit × DataW H → Nat
  | (.string bytes, d) => bytes.length + uptoBulk d + 1
  | (_, d) => uptoBulk d + 1
 end
def uptoSmall : (H : Type) → List (DataW H) → Bool := fun _ ds => decide (uptoBulkAll ds ≤ 1048576)
def OpenSpec.upto (s : _root_.Go.ChangeSpec) : _root_.Go.OpenSpec := { _root_.Go.OpenSpec.ofChange s with cond := some uptoSmall }

/-- 'bandboxlaw9.PointSays', WHERE WHAT IT READS IS OF BULK AT MOST 1048576: true; the input reads as it did. -/
def pointSaysUptoRow : OpenClaim := { program := "ytehkalbiomagjaadoor", sum := "c71ea875e2b8b98f7553d78507e9abe265642537567f607a3fd76c5e97453a42", func := "bandbox/bandboxlaw9.PointSays", spec := "pointSays", inPlace := ["math/bits.Add64"], named := ["bandbox/point.bend", "bandbox/field.turn"], apart := false, laid := [("bandbox/field.turn", laid_bandbox_field_turn), ("bandbox/point.bend", laid_bandbox_point_bend)], narrowed := true }
def PointSaysUptoSaid : Prop := pointSaysUptoRow.holds Tryd.pinned (OpenSpec.upto pointSaysSpec)

/-- 'bandboxlaw9.PointAdds', WHERE WHAT IT READS IS OF BULK AT MOST 1048576: true; the input reads as it did. -/
def pointAddsUptoRow : OpenClaim := { program := "ytehkalbiomagjaadoor", sum := "c71ea875e2b8b98f7553d78507e9abe265642537567f607a3fd76c5e97453a42", func := "bandbox/bandboxlaw9.PointAdds", spec := "pointAdds", inPlace := ["math/bits.Add64"], named := ["bandbox/point.bend", "bandbox/field.turn", "bandbox/scalar.order"], apart := false, laid := [("bandbox/field.turn", laid_bandbox_field_turn), ("bandbox/point.bend", laid_bandbox_point_bend), ("bandbox/scalar.order", laid_bandbox_scalar_order)], narrowed := true }
def PointAddsUptoSaid : Prop := pointAddsUptoRow.holds Tryd.pinned (OpenSpec.upto pointAddsSpec)

/-- 'bandboxlaw9.PointTimes', WHERE WHAT IT READS IS OF BULK AT MOST 1048576: true; the input reads as it did. -/
def pointTimesUptoRow : OpenClaim := { program := "ytehkalbiomagjaadoor", sum := "c71ea875e2b8b98f7553d78507e9abe265642537567f607a3fd76c5e97453a42", func := "bandbox/bandboxlaw9.PointTimes", spec := "pointTimes", inPlace := ["math/bits.Add64"], named := ["bandbox/point.bend", "bandbox/field.turn", "bandbox/scalar.order"], apart := false, laid := [("bandbox/field.turn", laid_bandbox_field_turn), ("bandbox/point.bend", laid_bandbox_point_bend), ("bandbox/scalar.order", laid_bandbox_scalar_order)], narrowed := true }
def PointTimesUptoSaid : Prop := pointTimesUptoRow.holds Tryd.pinned (OpenSpec.upto pointTimesSpec)

/-- 'bandboxlaw9.PointCurve', WHERE WHAT IT READS IS OF BULK AT MOST 1048576: true; the input reads as it did. -/
def pointCurveUptoRow : OpenClaim := { program := "ytehkalbiomagjaadoor", sum := "c71ea875e2b8b98f7553d78507e9abe265642537567f607a3fd76c5e97453a42", func := "bandbox/bandboxlaw9.PointCurve", spec := "pointCurve", inPlace := ["math/bits.Add64"], named := ["bandbox/point.bend", "bandbox/field.turn"], apart := false, laid := [("bandbox/field.turn", laid_bandbox_field_turn), ("bandbox/point.bend", laid_bandbox_point_bend)], narrowed := true }
def PointCurveUptoSaid : Prop := pointCurveUptoRow.holds Tryd.pinned (OpenSpec.upto pointCurveSpec)

/-- 'bandboxlaw9.PointStep', WHERE WHAT IT READS IS OF BULK AT MOST 1048576: true; the input reads as it did. -/
def pointStepUptoRow : OpenClaim := { program := "ytehkalbiomagjaadoor", sum := "c71ea875e2b8b98f7553d78507e9abe265642537567f607a3fd76c5e97453a42", func := "bandbox/bandboxlaw9.PointStep", spec := "pointStep", inPlace := ["math/bits.Add64"], named := ["bandbox/point.bend", "bandbox/field.turn"], apart := false, laid := [("bandbox/field.turn", laid_bandbox_field_turn), ("bandbox/point.bend", laid_bandbox_point_bend)], narrowed := true }
def PointStepUptoSaid : Prop := pointStepUptoRow.holds Tryd.pinned (OpenSpec.upto pointStepSpec)

end Rows
end Go.Proofs.YtehkalbiomagjaaDoor
