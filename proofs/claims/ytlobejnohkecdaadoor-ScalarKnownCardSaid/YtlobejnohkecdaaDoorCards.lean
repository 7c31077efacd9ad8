/-
  DERIVED. GIVEN WITH THE SEED: THE CARDS: each row of YtlobejnohkecdaaDoorRows.lean that lists a variable, with what it lists TIED to the program's text (the seventh form; the later family's looks); each row that meets fmt, with fmt's text TOLD by the authors' own Lean function (tested against real Go, not proved from fmt's source: count such statements apart). THE CARD IS WHAT COUNTS. Prove the row's statement (the work); the ties are given (YtlobejnohkecdaaDoorTie.lean); close each card by the builder's one call (the guide's Derived/Test/ToyasCard.lean, 'card_holds'). Laid BY PROGRAM, IN A SANDBOX (cutbox-door.mjs). By AI agents, Wed Nov 11 2026. No macro, syntax, notation, axiom, sorry.
-/
import Derived.Test.YtlobejnohkecdaaDoorRows
import GoSem.ClaimSeven
namespace Go.Proofs.YtlobejnohkecdaaDoor
namespace Rows

/-- THE TIED CARD OF 'bandboxlaw8.ScalarKnown'. -/
def scalarKnownCard : Claim7 := { stood := { row := scalarKnownRow, standIns := [], harness := (true, "284fa80598e670e42c394d671802677d08dd67d19be6a5116d048f0436a5dd34"), looks := false }, kinds := [], alts := [], laidByText := true, laidKinds := [.data], laidTests := true, laidLooks := .later }
def ScalarKnownCardSaid : Prop := Claim7.holds Tryd.pinned (.plain (OpenSpec.ofChange scalarKnownSpec)) scalarKnownCard

/-- THE TIED CARD OF 'bandboxlaw8.ScalarSays'. -/
def scalarSaysCard : Claim7 := { stood := { row := scalarSaysRow, standIns := [], harness := (true, "284fa80598e670e42c394d671802677d08dd67d19be6a5116d048f0436a5dd34"), looks := false }, kinds := [], alts := [], laidByText := true, laidKinds := [.data], laidTests := true, laidLooks := .later }
def ScalarSaysCardSaid : Prop := Claim7.holds Tryd.pinned (.plain (OpenSpec.ofChange scalarSaysSpec)) scalarSaysCard

/-- THE TIED CARD OF 'bandboxlaw8.ScalarLaws'. -/
def scalarLawsCard : Claim7 := { stood := { row := scalarLawsRow, standIns := [], harness := (true, "284fa80598e670e42c394d671802677d08dd67d19be6a5116d048f0436a5dd34"), looks := false }, kinds := [], alts := [], laidByText := true, laidKinds := [.data], laidTests := true, laidLooks := .later }
def ScalarLawsCardSaid : Prop := Claim7.holds Tryd.pinned (.plain (OpenSpec.ofChange scalarLawsSpec)) scalarLawsCard

/-- THE TIED CARD OF 'bandboxlaw8.ScalarLong'. -/
def scalarLongCard : Claim7 := { stood := { row := scalarLongRow, standIns := [], harness := (true, "284fa80598e670e42c394d671802677d08dd67d19be6a5116d048f0436a5dd34"), looks := false }, kinds := [], alts := [], laidByText := true, laidKinds := [.data], laidTests := true, laidLooks := .later }
def ScalarLongCardSaid : Prop := Claim7.holds Tryd.pinned (.plain (OpenSpec.ofChange scalarLongSpec)) scalarLongCard

/-- THE TIED CARD OF 'bandboxlaw8.ScalarSmall'. -/
def scalarSmallCard : Claim7 := { stood := { row := scalarSmallRow, standIns := [], harness := (true, "284fa80598e670e42c394d671802677d08dd67d19be6a5116d048f0436a5dd34"), looks := false }, kinds := [], alts := [], laidByText := true, laidKinds := [.data], laidTests := true, laidLooks := .later }
def ScalarSmallCardSaid : Prop := Claim7.holds Tryd.pinned (.plain (OpenSpec.ofChange scalarSmallSpec)) scalarSmallCard

/-- THE SECOND FORM's CARD OF 'bandboxlaw8.ScalarKnown'. -/
def scalarKnownUptoCard : Claim7 := { stood := { row := scalarKnownUptoRow, standIns := [], harness := (true, "284fa80598e670e42c394d671802677d08dd67d19be6a5116d048f0436a5dd34"), looks := false }, kinds := [], alts := [], laidByText := true, laidKinds := [.data], laidTests := true, laidLooks := .later }
def ScalarKnownUptoCardSaid : Prop := Claim7.holds Tryd.pinned (.plain (OpenSpec.upto scalarKnownSpec)) scalarKnownUptoCard

/-- THE SECOND FORM's CARD OF 'bandboxlaw8.ScalarSays'. -/
def scalarSaysUptoCard : Claim7 := { stood := { row := scalarSaysUptoRow, standIns := [], harness := (true, "284fa80598e670e42c394d671802677d08dd67d19be6a5116d048f0436a5dd34"), looks := false }, kinds := [], alts := [], laidByText := true, laidKinds := [.data], laidTests := true, laidLooks := .later }
def ScalarSaysUptoCardSaid : Prop := Claim7.holds Tryd.pinned (.plain (OpenSpec.upto scalarSaysSpec)) scalarSaysUptoCard

/-- THE SECOND FORM's CARD OF 'bandboxlaw8.ScalarLaws'. -/
def scalarLawsUptoCard : Claim7 := { stood := { row := scalarLawsUptoRow, standIns := [], harness := (true, "284fa80598e670e42c394d671802677d08dd67d19be6a5116d048f0436a5dd34"), looks := false }, kinds := [], alts := [], laidByText := true, laidKinds := [.data], laidTests := true, laidLooks := .later }
def ScalarLawsUptoCardSaid : Prop := Claim7.holds Tryd.pinned (.plain (OpenSpec.upto scalarLawsSpec)) scalarLawsUptoCard

/-- THE SECOND FORM's CARD OF 'bandboxlaw8.ScalarLong'. -/
def scalarLongUptoCard : Claim7 := { stood := { row := scalarLongUptoRow, standIns := [], harness := (true, "284fa80598e670e42c394d671802677d08dd67d19be6a5116d048f0436a5dd34"), looks := false }, kinds := [], alts := [], laidByText := true, laidKinds := [.data], laidTests := true, laidLooks := .later }
def ScalarLongUptoCardSaid : Prop := Claim7.holds Tryd.pinned (.plain (OpenSpec.upto scalarLongSpec)) scalarLongUptoCard

/-- THE SECOND FORM's CARD OF 'bandboxlaw8.ScalarSmall'. -/
def scalarSmallUptoCard : Claim7 := { stood := { row := scalarSmallUptoRow, standIns := [], harness := (true, "284fa80598e670e42c394d671802677d08dd67d19be6a5116d048f0436a5dd34"), looks := false }, kinds := [], alts := [], laidByText := true, laidKinds := [.data], laidTests := true, laidLooks := .later }
def ScalarSmallUptoCardSaid : Prop := Claim7.holds Tryd.pinned (.plain (OpenSpec.upto scalarSmallSpec)) scalarSmallUptoCard
end Rows
end Go.Proofs.YtlobejnohkecdaaDoor
