/-
  DERIVED. GIVEN WITH THE SEED: THE CARDS: each row of YtcefdcjpddohaaaDoorRows.lean that lists a variable, with what it lists TIED to the program's text (the seventh form; the later family's looks); each row that meets fmt, with fmt's text TOLD by the authors' own Lean function (tested against real Go, not proved from fmt's source: count such statements apart). THE CARD IS WHAT COUNTS. Prove the row's statement (the work); the ties are given (YtcefdcjpddohaaaDoorTie.lean); close each card by the builder's one call (the guide's Derived/Test/ToyasCard.lean, 'card_holds'). Laid BY PROGRAM, IN A SANDBOX (cutbox-door.mjs). By AI agents, Wed Nov 11 2026. No macro, syntax, notation, axiom, sorry.
-/
import Derived.Test.YtcefdcjpddohaaaDoorRows
import GoSem.ClaimSeven
namespace Go.Proofs.YtcefdcjpddohaaaDoor
namespace Rows

/-- THE TIED CARD OF 'bandboxlaw10.SigSecond'. -/
def sigSecondCard : Claim7 := { stood := { row := sigSecondRow, standIns := [], harness := (true, "69d3239c136627b2ee1e0ac88b183fe11f9b85cc611dc6bfda9a9aa768b2ed95"), looks := false }, kinds := [], alts := [], laidByText := true, laidKinds := [.data, .data, .data, .data, .data], laidTests := true, laidLooks := .later }
def SigSecondCardSaid : Prop := Claim7.holds Tryd.pinned (.plain (OpenSpec.ofChange sigSecondSpec)) sigSecondCard

/-- THE TIED CARD OF 'bandboxlaw10.SigParts'. -/
def sigPartsCard : Claim7 := { stood := { row := sigPartsRow, standIns := [], harness := (true, "69d3239c136627b2ee1e0ac88b183fe11f9b85cc611dc6bfda9a9aa768b2ed95"), looks := false }, kinds := [], alts := [], laidByText := true, laidKinds := [.data, .data, .data, .data, .data], laidTests := true, laidLooks := .later }
def SigPartsCardSaid : Prop := Claim7.holds Tryd.pinned (.plain (OpenSpec.ofChange sigPartsSpec)) sigPartsCard

/-- THE TIED CARD OF 'bandboxlaw10.SigAgain'. -/
def sigAgainCard : Claim7 := { stood := { row := sigAgainRow, standIns := [], harness := (true, "69d3239c136627b2ee1e0ac88b183fe11f9b85cc611dc6bfda9a9aa768b2ed95"), looks := false }, kinds := [], alts := [], laidByText := true, laidKinds := [.data, .data, .data, .data, .data], laidTests := true, laidLooks := .later }
def SigAgainCardSaid : Prop := Claim7.holds Tryd.pinned (.plain (OpenSpec.ofChange sigAgainSpec)) sigAgainCard

/-- THE SECOND FORM's CARD OF 'bandboxlaw10.SigSecond'. -/
def sigSecondUptoCard : Claim7 := { stood := { row := sigSecondUptoRow, standIns := [], harness := (true, "69d3239c136627b2ee1e0ac88b183fe11f9b85cc611dc6bfda9a9aa768b2ed95"), looks := false }, kinds := [], alts := [], laidByText := true, laidKinds := [.data, .data, .data, .data, .data], laidTests := true, laidLooks := .later }
def SigSecondUptoCardSaid : Prop := Claim7.holds Tryd.pinned (.plain (OpenSpec.upto sigSecondSpec)) sigSecondUptoCard

/-- THE SECOND FORM's CARD OF 'bandboxlaw10.SigParts'. -/
def sigPartsUptoCard : Claim7 := { stood := { row := sigPartsUptoRow, standIns := [], harness := (true, "69d3239c136627b2ee1e0ac88b183fe11f9b85cc611dc6bfda9a9aa768b2ed95"), looks := false }, kinds := [], alts := [], laidByText := true, laidKinds := [.data, .data, .data, .data, .data], laidTests := true, laidLooks := .later }
def SigPartsUptoCardSaid : Prop := Claim7.holds Tryd.pinned (.plain (OpenSpec.upto sigPartsSpec)) sigPartsUptoCard

/-- THE SECOND FORM's CARD OF 'bandboxlaw10.SigAgain'. -/
def sigAgainUptoCard : Claim7 := { stood := { row := sigAgainUptoRow, standIns := [], harness := (true, "69d3239c136627b2ee1e0ac88b183fe11f9b85cc611dc6bfda9a9aa768b2ed95"), looks := false }, kinds := [], alts := [], laidByText := true, laidKinds := [.data, .data, .data, .data, .data], laidTests := true, laidLooks := .later }
def SigAgainUptoCardSaid : Prop := Claim7.holds Tryd.pinned (.plain (OpenSpec.upto sigAgainSpec)) sigAgainUptoCard
end Rows
end Go.Proofs.YtcefdcjpddohaaaDoor
