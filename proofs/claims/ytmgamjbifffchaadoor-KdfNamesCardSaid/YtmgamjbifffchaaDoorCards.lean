/-
  DERIVED. GIVEN WITH THE SEED: THE CARDS: each row of YtmgamjbifffchaaDoorRows.lean that lists a variable, with what it lists TIED to the program's text (the seventh form; the later family's looks); each row that meets fmt, with fmt's text TOLD by the authors' own Lean function (tested against real Go, not proved from fmt's source: count such statements apart). THE CARD IS WHAT COUNTS. Prove the row's statement (the work); the ties are given (YtmgamjbifffchaaDoorTie.lean); close each card by the builder's one call (the guide's Derived/Test/ToyasCard.lean, 'card_holds'). Laid BY PROGRAM, IN A SANDBOX (cutbox-door.mjs). By AI agents, Wed Nov 11 2026. No macro, syntax, notation, axiom, sorry.
-/
import Derived.Test.YtmgamjbifffchaaDoorRows
import GoSem.ClaimSeven
namespace Go.Proofs.YtmgamjbifffchaaDoor
namespace Rows

/-- THE TIED CARD OF 'bandboxlaw3.KdfBegins'. -/
def kdfBeginsCard : Claim7 := { stood := { row := kdfBeginsRow, standIns := [], harness := (true, "a6f874a069b38d2f30f2c4b6710803b2ea5f8e747320ba4d1771a7e9fb470ecc"), looks := false }, kinds := [], alts := [], laidByText := true, laidKinds := [.data, .data], laidTests := true, laidLooks := .later }
def KdfBeginsCardSaid : Prop := Claim7.holds Tryd.pinned (.plain (OpenSpec.ofChange kdfBeginsSpec)) kdfBeginsCard

/-- THE TIED CARD OF 'bandboxlaw3.KdfNames'. -/
def kdfNamesCard : Claim7 := { stood := { row := kdfNamesRow, standIns := [], harness := (true, "a6f874a069b38d2f30f2c4b6710803b2ea5f8e747320ba4d1771a7e9fb470ecc"), looks := false }, kinds := [], alts := [], laidByText := true, laidKinds := [.data, .data], laidTests := true, laidLooks := .later }
def KdfNamesCardSaid : Prop := Claim7.holds Tryd.pinned (.plain (OpenSpec.ofChange kdfNamesSpec)) kdfNamesCard

/-- THE SECOND FORM's CARD OF 'bandboxlaw3.KdfBegins'. -/
def kdfBeginsUptoCard : Claim7 := { stood := { row := kdfBeginsUptoRow, standIns := [], harness := (true, "a6f874a069b38d2f30f2c4b6710803b2ea5f8e747320ba4d1771a7e9fb470ecc"), looks := false }, kinds := [], alts := [], laidByText := true, laidKinds := [.data, .data], laidTests := true, laidLooks := .later }
def KdfBeginsUptoCardSaid : Prop := Claim7.holds Tryd.pinned (.plain (OpenSpec.upto kdfBeginsSpec)) kdfBeginsUptoCard

/-- THE SECOND FORM's CARD OF 'bandboxlaw3.KdfNames'. -/
def kdfNamesUptoCard : Claim7 := { stood := { row := kdfNamesUptoRow, standIns := [], harness := (true, "a6f874a069b38d2f30f2c4b6710803b2ea5f8e747320ba4d1771a7e9fb470ecc"), looks := false }, kinds := [], alts := [], laidByText := true, laidKinds := [.data, .data], laidTests := true, laidLooks := .later }
def KdfNamesUptoCardSaid : Prop := Claim7.holds Tryd.pinned (.plain (OpenSpec.upto kdfNamesSpec)) kdfNamesUptoCard
end Rows
end Go.Proofs.YtmgamjbifffchaaDoor
