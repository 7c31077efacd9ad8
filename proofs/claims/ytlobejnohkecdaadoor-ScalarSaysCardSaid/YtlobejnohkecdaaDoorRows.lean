/-
  NARROWER THAN 'FOR EVERY INPUT', by the rows' own cells (each row's printed sentence says how): ScalarKnown: laid · ScalarSays: laid · ScalarLaws: laid · ScalarLong: laid · ScalarSmall: laid.
  DERIVED. THE GIVEN ROWS OF THIS SEAT. 5 by the template 'for every input the law returns true; each argument reads behind the call as it read before'; 0 by the template 'total and deterministic' (their statements: YtlobejnohkecdaaDoorTotals.lean).
  GIVEN WITH THE SEED: the statements are not yours to turn. If you find one false, say at which input.
  Laid BY PROGRAM, IN A SANDBOX (cutbox-rows.mjs): the forced cells as the released guide's own fill.sh prints them over the translation 633b9749e32bdbca… (all of the seat's roots in one cut). By AI agents, Wed Nov 11 2026. No macro, syntax, notation, axiom, sorry.
-/
import Derived.Test.YtlobejnohkecdaaDoorChecked
import GoSem.Claim
import GoSem.ClaimJoined
import GoSem.ClaimMapViews
import Derived.JoinedTies
import Derived.KernelRfl
namespace Go.Proofs.YtlobejnohkecdaaDoor
/- THE CELL 'sum', in the pinned program and in every row, IS THE sha256 OF THE DUMP (.gsa) THAT YtlobejnohkecdaaDoorProg.lean LOADS. Nothing in Lean hashes anything: it is a label: what it is worth is what the hold of that sum in a sandbox is worth. -/
noncomputable def Tryd.pinned : Pinned := { name := "ytlobejnohkecdaadoor", sum := "633b9749e32bdbca988f6eef7a0194241797080b533a5aba39314fc2b6f6a392", checked := Tryd.checked }
namespace Rows
def none {H : Type} : Left H := { results := [], args := [] }

/- WHAT THE LISTED PACKAGE-LEVEL VARIABLES READ AS WHEN THE CALL BEGINS. Each datum BY PROGRAM (the guide's laid-datum.mjs) off the statement by which the dump's own 'gosem.cut.vars' lays the variable. In a bare row this is a premise. The card (YtlobejnohkecdaaDoorCards.lean) ties it to the program's text. -/
def laid_bandbox_scalar_order {H : Type} : DataW H := .agg [.lit (.int .u64 6346243789798364141), .lit (.int .u64 1503914060200516822), .lit (.int .u64 0), .lit (.int .u64 1152921504606846976)]

/-- 'bandboxlaw8.ScalarKnown': WHATEVER THE INPUT: true; the input reads as it did. -/
def scalarKnownSpec : ChangeSpec := { name := "scalarKnown", fn := fun _ => fun
  | [] => { results := [.lit (.bool true)], args := [] }
  | _ => none }
def scalarKnownRow : OpenClaim := { program := "ytlobejnohkecdaadoor", sum := "633b9749e32bdbca988f6eef7a0194241797080b533a5aba39314fc2b6f6a392", func := "bandbox/bandboxlaw8.ScalarKnown", spec := "scalarKnown", inPlace := ["math/bits.Add64"], named := ["bandbox/scalar.order"], apart := false, laid := [("bandbox/scalar.order", laid_bandbox_scalar_order)] }
def ScalarKnownSaid : Prop := scalarKnownRow.holds Tryd.pinned (OpenSpec.ofChange scalarKnownSpec)

/-- ITS FALSE NEIGHBOUR: 'it returns false'. Refute it at one input. -/
def scalarKnownWrong : ChangeSpec := { name := "scalarKnown", fn := fun _ => fun
  | [] => { results := [.lit (.bool false)], args := [] }
  | _ => none }
def ScalarKnownWrongFalsely : Prop := scalarKnownRow.holds Tryd.pinned (OpenSpec.ofChange scalarKnownWrong)

/-- 'bandboxlaw8.ScalarSays': WHATEVER THE INPUT: true; the input reads as it did. -/
def scalarSaysSpec : ChangeSpec := { name := "scalarSays", fn := fun _ => fun
  | [d1, d2, d3] => { results := [.lit (.bool true)], args := [d1, d2, d3] }
  | _ => none }
def scalarSaysRow : OpenClaim := { program := "ytlobejnohkecdaadoor", sum := "633b9749e32bdbca988f6eef7a0194241797080b533a5aba39314fc2b6f6a392", func := "bandbox/bandboxlaw8.ScalarSays", spec := "scalarSays", inPlace := ["math/bits.Add64"], named := ["bandbox/scalar.order"], apart := false, laid := [("bandbox/scalar.order", laid_bandbox_scalar_order)] }
def ScalarSaysSaid : Prop := scalarSaysRow.holds Tryd.pinned (OpenSpec.ofChange scalarSaysSpec)

/-- ITS FALSE NEIGHBOUR: 'it returns false'. Refute it at one input. -/
def scalarSaysWrong : ChangeSpec := { name := "scalarSays", fn := fun _ => fun
  | [d1, d2, d3] => { results := [.lit (.bool false)], args := [d1, d2, d3] }
  | _ => none }
def ScalarSaysWrongFalsely : Prop := scalarSaysRow.holds Tryd.pinned (OpenSpec.ofChange scalarSaysWrong)

/-- 'bandboxlaw8.ScalarLaws': WHATEVER THE INPUT: true; the input reads as it did. -/
def scalarLawsSpec : ChangeSpec := { name := "scalarLaws", fn := fun _ => fun
  | [d1, d2, d3] => { results := [.lit (.bool true)], args := [d1, d2, d3] }
  | _ => none }
def scalarLawsRow : OpenClaim := { program := "ytlobejnohkecdaadoor", sum := "633b9749e32bdbca988f6eef7a0194241797080b533a5aba39314fc2b6f6a392", func := "bandbox/bandboxlaw8.ScalarLaws", spec := "scalarLaws", inPlace := ["math/bits.Add64"], named := ["bandbox/scalar.order"], apart := false, laid := [("bandbox/scalar.order", laid_bandbox_scalar_order)] }
def ScalarLawsSaid : Prop := scalarLawsRow.holds Tryd.pinned (OpenSpec.ofChange scalarLawsSpec)

/-- ITS FALSE NEIGHBOUR: 'it returns false'. Refute it at one input. -/
def scalarLawsWrong : ChangeSpec := { name := "scalarLaws", fn := fun _ => fun
  | [d1, d2, d3] => { results := [.lit (.bool false)], args := [d1, d2, d3] }
  | _ => none }
def ScalarLawsWrongFalsely : Prop := scalarLawsRow.holds Tryd.pinned (OpenSpec.ofChange scalarLawsWrong)

/-- 'bandboxlaw8.ScalarLong': WHATEVER THE INPUT: true; the input reads as it did. -/
def scalarLongSpec : ChangeSpec := { name := "scalarLong", fn := fun _ => fun
  | [d1, d2] => { results := [.lit (.bool true)], args := [d1, d2] }
  | _ => none }
def scalarLongRow : OpenClaim := { program := "ytlobejnohkecdaadoor", sum := "633b9749e32bdbca988f6eef7a0194241797080b533a5aba39314fc2b6f6a392", func := "bandbox/bandboxlaw8.ScalarLong", spec := "scalarLong", inPlace := ["math/bits.Add64"], named := ["bandbox/scalar.order"], apart := false, laid := [("bandbox/scalar.order", laid_bandbox_scalar_order)] }
def ScalarLongSaid : Prop := scalarLongRow.holds Tryd.pinned (OpenSpec.ofChange scalarLongSpec)

/-- ITS FALSE NEIGHBOUR: 'it returns false'. Refute it at one input. -/
def scalarLongWrong : ChangeSpec := { name := "scalarLong", fn := fun _ => fun
  | [d1, d2] => { results := [.lit (.bool false)], args := [d1, d2] }
  | _ => none }
def ScalarLongWrongFalsely : Prop := scalarLongRow.holds Tryd.pinned (OpenSpec.ofChange scalarLongWrong)

/-- 'bandboxlaw8.ScalarSmall': WHATEVER THE INPUT: true; the input reads as it did. -/
def scalarSmallSpec : ChangeSpec := { name := "scalarSmall", fn := fun _ => fun
  | [d1, d2] => { results := [.lit (.bool true)], args := [d1, d2] }
  | _ => none }
def scalarSmallRow : OpenClaim := { program := "ytlobejnohkecdaadoor", sum := "633b9749e32bdbca988f6eef7a0194241797080b533a5aba39314fc2b6f6a392", func := "bandbox/bandboxlaw8.ScalarSmall", spec := "scalarSmall", inPlace := ["math/bits.Add64"], named := ["bandbox/scalar.order"], apart := false, laid := [("bandbox/scalar.order", laid_bandbox_scalar_order)] }
def ScalarSmallSaid : Prop := scalarSmallRow.holds Tryd.pinned (OpenSpec.ofChange scalarSmallSpec)

/-- ITS FALSE NEIGHBOUR: 'it returns false'. Refute it at one input. -/
def scalarSmallWrong : ChangeSpec := { name := "scalarSmall", fn := fun _ => fun
  | [d1, d2] => { results := [.lit (.bool false)], args := [d1, d2] }
  | _ => none }
def ScalarSmallWrongFalsely : Prop := scalarSmallRow.holds Tryd.pinned (OpenSpec.ofChange scalarSmallWrong)

/- THE SECOND FORM. 'bulk': how many values and letters a reading holds, each counted each time it is reached (what is shared counts as often as it is met; a slice's spare places count too). A statement '..UptoSaid' is the law's where the arguments, and the package variables that the reading takes, are together of bulk at most 1048576: NARROWER than '..Said'. Prove '..Said' where nothing that the law and all that it calls make is longer than what came in: it says more and counts as full. Else prove '..UptoSaid'. A law counts once. -/
mutual
def uptoBulk {H : Type} : DataW H → Nat
  | .lit (.string bytes) => bytes.length + 1
  | .lit _ => 1
  | .nil => 1
  | .ptr d => uptoBulk d + 1
  | .slice elems spare => uptoBulkAll elems + uptoBulkAll spare + 1
  | .agg parts => uptoBulkAll parts + 1
  | .iface _ d => uptoBulk d + 1
  | .map entries => uptoBulkEntries entries + 1
  | .held _ => 1
def uptoBulkAll {H : Type} : List (DataW H) → Nat
  | [] => 0
  | d :: r => uptoBulk d + uptoBulkAll r
def uptoBulkEntries {H : Type} : List (Lit × DataW H) → Nat
  | [] => 0
  | x :: r => uptoBulkEntry x + uptoBulkEntries r
def uptoBulkEntry {H : Type} : Lit × DataW H → Nat
  | (.string bytes, d) => bytes.length + uptoBulk d + 1
  | (_, d) => uptoBulk d + 1
 end
def uptoSmall : (H : Type) → List (DataW H) → Bool := fun _ ds => decide (uptoBulkAll ds ≤ 1048576)
def OpenSpec.upto (s : _root_.Go.ChangeSpec) : _root_.Go.OpenSpec := { _root_.Go.OpenSpec.ofChange s with cond := some uptoSmall }

/-- 'bandboxlaw8.ScalarKnown', WHERE WHAT IT READS IS OF BULK AT MOST 1048576: true; the input reads as it did. -/
def scalarKnownUptoRow : OpenClaim := { program := "ytlobejnohkecdaadoor", sum := "633b9749e32bdbca988f6eef7a0194241797080b533a5aba39314fc2b6f6a392", func := "bandbox/bandboxlaw8.ScalarKnown", spec := "scalarKnown", inPlace := ["math/bits.Add64"], named := ["bandbox/scalar.order"], apart := false, laid := [("bandbox/scalar.order", laid_bandbox_scalar_order)], narrowed := true }
def ScalarKnownUptoSaid : Prop := scalarKnownUptoRow.holds Tryd.pinned (OpenSpec.upto scalarKnownSpec)

/-- 'bandboxlaw8.ScalarSays', WHERE WHAT IT READS IS OF BULK AT MOST 1048576: true; the input reads as it did. -/
def scalarSaysUptoRow : OpenClaim := { program := "ytlobejnohkecdaadoor", sum := "633b9749e32bdbca988f6eef7a0194241797080b533a5aba39314fc2b6f6a392", func := "bandbox/bandboxlaw8.ScalarSays", spec := "scalarSays", inPlace := ["math/bits.Add64"], named := ["bandbox/scalar.order"], apart := false, laid := [("bandbox/scalar.order", laid_bandbox_scalar_order)], narrowed := true }
def ScalarSaysUptoSaid : Prop := scalarSaysUptoRow.holds Tryd.pinned (OpenSpec.upto scalarSaysSpec)

/-- 'bandboxlaw8.ScalarLaws', WHERE WHAT IT READS IS OF BULK AT MOST 1048576: true; the input reads as it did. -/
def scalarLawsUptoRow : OpenClaim := { program := "ytlobejnohkecdaadoor", sum := "633b9749e32bdbca988f6eef7a0194241797080b533a5aba39314fc2b6f6a392", func := "bandbox/bandboxlaw8.ScalarLaws", spec := "scalarLaws", inPlace := ["math/bits.Add64"], named := ["bandbox/scalar.order"], apart := false, laid := [("bandbox/scalar.order", laid_bandbox_scalar_order)], narrowed := true }
def ScalarLawsUptoSaid : Prop := scalarLawsUptoRow.holds Tryd.pinned (OpenSpec.upto scalarLawsSpec)

/-- 'bandboxlaw8.ScalarLong', WHERE WHAT IT READS IS OF BULK AT MOST 1048576: true; the input reads as it did. -/
def scalarLongUptoRow : OpenClaim := { program := "ytlobejnohkecdaadoor", sum := "633b9749e32bdbca988f6eef7a0194241797080b533a5aba39314fc2b6f6a392", func := "bandbox/bandboxlaw8.ScalarLong", spec := "scalarLong", inPlace := ["math/bits.Add64"], named := ["bandbox/scalar.order"], apart := false, laid := [("bandbox/scalar.order", laid_bandbox_scalar_order)], narrowed := true }
def ScalarLongUptoSaid : Prop := scalarLongUptoRow.holds Tryd.pinned (OpenSpec.upto scalarLongSpec)

/-- 'bandboxlaw8.ScalarSmall', WHERE WHAT IT READS IS OF BULK AT MOST 1048576: true; the input reads as it did. -/
def scalarSmallUptoRow : OpenClaim := { program := "ytlobejnohkecdaadoor", sum := "633b9749e32bdbca988f6eef7a0194241797080b533a5aba39314fc2b6f6a392", func := "bandbox/bandboxlaw8.ScalarSmall", spec := "scalarSmall", inPlace := ["math/bits.Add64"], named := ["bandbox/scalar.order"], apart := false, laid := [("bandbox/scalar.order", laid_bandbox_scalar_order)], narrowed := true }
def ScalarSmallUptoSaid : Prop := scalarSmallUptoRow.holds Tryd.pinned (OpenSpec.upto scalarSmallSpec)

end Rows
end Go.Proofs.YtlobejnohkecdaaDoor
