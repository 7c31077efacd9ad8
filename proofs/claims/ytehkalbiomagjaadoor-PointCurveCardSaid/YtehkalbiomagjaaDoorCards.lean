/-
  DERIVED. GIVEN WITH THE SEED: THE CARDS: each row of YtehkalbiomagjaaDoorRows.lean that lists a variable, with what it lists TIED to the program's text (the seventh form; the later family's looks); each row that meets fmt, with fmt's text TOLD by the authors' own Lean function (tested against real Go, not proved from fmt's source: count such statements apart). THE CARD IS WHAT COUNTS. Prove the row's statement (the work); the ties are given (YtehkalbiomagjaaDoorTie.lean); close each card by the builder's one call (the guide's Derived/Test/ToyasCard.lean, 'card_holds'). Laid BY PROGRAM, IN A SANDBOX (cutbox-door.mjs). By AI agents, Wed Nov 11 2026. No macro, syntax, notation, axiom, sorry.
-/
import Derived.Test.YtehkalbiomagjaaDoorRows
import GoSem.ClaimSeven
namespace Go.Proofs.YtehkalbiomagjaaDoor
namespace Rows

/-- THE TIED CARD OF 'bandboxlaw9.PointSays'. -/
def pointSaysCard : Claim7 := { stood := { row := pointSaysRow, standIns := [], harness := (true, "0ab71d64381ab3a53a7ef8dc6607bdfdbfd3d6d361507776013ce0f47cb25f19"), looks := false }, kinds := [], alts := [], laidByText := true, laidKinds := [.data, .data], laidTests := true, laidLooks := .later }
def PointSaysCardSaid : Prop := Claim7.holds Tryd.pinned (.plain (OpenSpec.ofChange pointSaysSpec)) pointSaysCard

/-- THE TIED CARD OF 'bandboxlaw9.PointAdds'. -/
def pointAddsCard : Claim7 := { stood := { row := pointAddsRow, standIns := [], harness := (true, "0ab71d64381ab3a53a7ef8dc6607bdfdbfd3d6d361507776013ce0f47cb25f19"), looks := false }, kinds := [], alts := [], laidByText := true, laidKinds := [.data, .data, .data], laidTests := true, laidLooks := .later }
def PointAddsCardSaid : Prop := Claim7.holds Tryd.pinned (.plain (OpenSpec.ofChange pointAddsSpec)) pointAddsCard

/-- THE TIED CARD OF 'bandboxlaw9.PointTimes'. -/
def pointTimesCard : Claim7 := { stood := { row := pointTimesRow, standIns := [], harness := (true, "0ab71d64381ab3a53a7ef8dc6607bdfdbfd3d6d361507776013ce0f47cb25f19"), looks := false }, kinds := [], alts := [], laidByText := true, laidKinds := [.data, .data, .data], laidTests := true, laidLooks := .later }
def PointTimesCardSaid : Prop := Claim7.holds Tryd.pinned (.plain (OpenSpec.ofChange pointTimesSpec)) pointTimesCard

/-- THE TIED CARD OF 'bandboxlaw9.PointCurve'. -/
def pointCurveCard : Claim7 := { stood := { row := pointCurveRow, standIns := [], harness := (true, "0ab71d64381ab3a53a7ef8dc6607bdfdbfd3d6d361507776013ce0f47cb25f19"), looks := false }, kinds := [], alts := [], laidByText := true, laidKinds := [.data, .data], laidTests := true, laidLooks := .later }
def PointCurveCardSaid : Prop := Claim7.holds Tryd.pinned (.plain (OpenSpec.ofChange pointCurveSpec)) pointCurveCard

/-- THE TIED CARD OF 'bandboxlaw9.PointStep'. -/
def pointStepCard : Claim7 := { stood := { row := pointStepRow, standIns := [], harness := (true, "0ab71d64381ab3a53a7ef8dc6607bdfdbfd3d6d361507776013ce0f47cb25f19"), looks := false }, kinds := [], alts := [], laidByText := true, laidKinds := [.data, .data], laidTests := true, laidLooks := .later }
def PointStepCardSaid : Prop := Claim7.holds Tryd.pinned (.plain (OpenSpec.ofChange pointStepSpec)) pointStepCard

/-- THE SECOND FORM's CARD OF 'bandboxlaw9.PointSays'. -/
def pointSaysUptoCard : Claim7 := { stood := { row := pointSaysUptoRow, standIns := [], harness := (true, "0ab71d64381ab3a53a7ef8dc6607bdfdbfd3d6d361507776013ce0f47cb25f19"), looks := false }, kinds := [], alts := [], laidByText := true, laidKinds := [.data, .data], laidTests := true, laidLooks := .later }
def PointSaysUptoCardSaid : Prop := Claim7.holds Tryd.pinned (.plain (OpenSpec.upto pointSaysSpec)) pointSaysUptoCard

/-- THE SECOND FORM's CARD OF 'bandboxlaw9.PointAdds'. -/
def pointAddsUptoCard : Claim7 := { stood := { row := pointAddsUptoRow, standIns := [], harness := (true, "0ab71d64381ab3a53a7ef8dc6607bdfdbfd3d6d361507776013ce0f47cb25f19"), looks := false }, kinds := [], alts := [], laidByText := true, laidKinds := [.data, .data, .data], laidTests := true, laidLooks := .later }
def PointAddsUptoCardSaid : Prop := Claim7.holds Tryd.pinned (.plain (OpenSpec.upto pointAddsSpec)) pointAddsUptoCard

/-- THE SECOND FORM's CARD OF 'bandboxlaw9.PointTimes'. -/
def pointTimesUptoCard : Claim7 := { stood := { row := pointTimesUptoRow, standIns := [], harness := (true, "0ab71d64381ab3a53a7ef8dc6607bdfdbfd3d6d361507776013ce0f47cb25f19"), looks := false }, kinds := [], alts := [], laidByText := true, laidKinds := [.data, .data, .data], laidTests := true, laidLooks := .later }
def PointTimesUptoCardSaid : Prop := Claim7.holds Tryd.pinned (.plain (OpenSpec.upto pointTimesSpec)) pointTimesUptoCard

/-- THE SECOND FORM's CARD OF 'bandboxlaw9.PointCurve'. -/
def pointCurveUptoCard : Claim7 := { stood := { row := pointCurveUptoRow, standIns := [], harness := (true, "0ab71d64381ab3a53a7ef8dc6607bdfdbfd3d6d361507776013ce0f47cb25f19"), looks := false }, kinds := [], alts := [], laidByText := true, laidKinds := [.data, .data], laidTests := true, laidLooks := .later }
def PointCurveUptoCardSaid : Prop := Claim7.holds Tryd.pinned (.plain (OpenSpec.upto pointCurveSpec)) pointCurveUptoCard

/-- THE SECOND FORM's CARD OF 'bandboxlaw9.PointStep'. -/
def pointStepUptoCard : Claim7 := { stood := { row := pointStepUptoRow, standIns := [], harness := (true, "0ab71d64381ab3a53a7ef8dc6607bdfdbfd3d6d361507776013ce0f47cb25f19"), looks := false }, kinds := [], alts := [], laidByText := true, laidKinds := [.data, .data], laidTests := true, laidLooks := .later }
def PointStepUptoCardSaid : Prop := Claim7.holds Tryd.pinned (.plain (OpenSpec.upto pointStepSpec)) pointStepUptoCard
end Rows
end Go.Proofs.YtehkalbiomagjaaDoor
