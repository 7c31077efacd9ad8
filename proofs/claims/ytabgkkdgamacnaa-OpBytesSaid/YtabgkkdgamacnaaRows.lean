/-
  No cell of these rows narrows 'for every input' (looked for: loops, veiled, ifaces, maps, wideKeys, modest, calm, conditions, laid).
  DERIVED. THE GIVEN ROWS OF THIS SEAT. 5 by the template 'for every input the law returns true; each argument reads behind the call as it read before'; 0 by the template 'total and deterministic' (their statements: YtabgkkdgamacnaaTotals.lean).
  GIVEN WITH THE SEED: the statements are not yours to turn. If you find one false, say at which input.
  Laid BY PROGRAM, IN A SANDBOX (cutbox-rows.mjs): the forced cells as the released guide's own fill.sh prints them over the translation 9b89cfc716a2d307… (all of the seat's roots in one cut). By AI agents, Wed Nov 11 2026. No macro, syntax, notation, axiom, sorry.
-/
import Derived.Test.YtabgkkdgamacnaaChecked
import GoSem.Claim
import GoSem.ClaimJoined
import GoSem.ClaimMapViews
import Derived.JoinedTies
import Derived.KernelRfl
namespace Go.Proofs.Ytabgkkdgamacnaa
/- THE CELL 'sum', in the pinned program and in every row, IS THE sha256 OF THE DUMP (.gsa) THAT YtabgkkdgamacnaaProg.lean LOADS. Nothing in Lean hashes anything: it is a label: what it is worth is what the hold of that sum in a sandbox is worth. -/
noncomputable def Try.pinned : Pinned := { name := "ytabgkkdgamacnaa", sum := "9b89cfc716a2d307814564b3c0f2c8584cc348460455f4aed139c6abd684c2cb", checked := Try.checked }
namespace Rows
def none {H : Type} : Left H := { results := [], args := [] }

/-- 'bandboxlaw16.OpKnown': WHATEVER THE INPUT: true; the input reads as it did. -/
def opKnownSpec : ChangeSpec := { name := "opKnown", fn := fun _ => fun
  | [] => { results := [.lit (.bool true)], args := [] }
  | _ => none }
def opKnownRow : OpenClaim := { program := "ytabgkkdgamacnaa", sum := "9b89cfc716a2d307814564b3c0f2c8584cc348460455f4aed139c6abd684c2cb", func := "bandbox/bandboxlaw16.OpKnown", spec := "opKnown", apart := false }
def OpKnownSaid : Prop := opKnownRow.holds Try.pinned (OpenSpec.ofChange opKnownSpec)

/-- ITS FALSE NEIGHBOUR: 'it returns false'. Refute it at one input. -/
def opKnownWrong : ChangeSpec := { name := "opKnown", fn := fun _ => fun
  | [] => { results := [.lit (.bool false)], args := [] }
  | _ => none }
def OpKnownWrongFalsely : Prop := opKnownRow.holds Try.pinned (OpenSpec.ofChange opKnownWrong)

/-- 'bandboxlaw16.OpBytes': WHATEVER THE INPUT: true; the input reads as it did. -/
def opBytesSpec : ChangeSpec := { name := "opBytes", fn := fun _ => fun
  | [d1, d2, d3] => { results := [.lit (.bool true)], args := [d1, d2, d3] }
  | _ => none }
def opBytesRow : OpenClaim := { program := "ytabgkkdgamacnaa", sum := "9b89cfc716a2d307814564b3c0f2c8584cc348460455f4aed139c6abd684c2cb", func := "bandbox/bandboxlaw16.OpBytes", spec := "opBytes", apart := false }
def OpBytesSaid : Prop := opBytesRow.holds Try.pinned (OpenSpec.ofChange opBytesSpec)

/-- ITS FALSE NEIGHBOUR: 'it returns false'. Refute it at one input. -/
def opBytesWrong : ChangeSpec := { name := "opBytes", fn := fun _ => fun
  | [d1, d2, d3] => { results := [.lit (.bool false)], args := [d1, d2, d3] }
  | _ => none }
def OpBytesWrongFalsely : Prop := opBytesRow.holds Try.pinned (OpenSpec.ofChange opBytesWrong)

/-- 'bandboxlaw16.OpBack': WHATEVER THE INPUT: true; the input reads as it did. -/
def opBackSpec : ChangeSpec := { name := "opBack", fn := fun _ => fun
  | [d1, d2, d3] => { results := [.lit (.bool true)], args := [d1, d2, d3] }
  | _ => none }
def opBackRow : OpenClaim := { program := "ytabgkkdgamacnaa", sum := "9b89cfc716a2d307814564b3c0f2c8584cc348460455f4aed139c6abd684c2cb", func := "bandbox/bandboxlaw16.OpBack", spec := "opBack", apart := false }
def OpBackSaid : Prop := opBackRow.holds Try.pinned (OpenSpec.ofChange opBackSpec)

/-- ITS FALSE NEIGHBOUR: 'it returns false'. Refute it at one input. -/
def opBackWrong : ChangeSpec := { name := "opBack", fn := fun _ => fun
  | [d1, d2, d3] => { results := [.lit (.bool false)], args := [d1, d2, d3] }
  | _ => none }
def OpBackWrongFalsely : Prop := opBackRow.holds Try.pinned (OpenSpec.ofChange opBackWrong)

/-- 'bandboxlaw16.OpOver': WHATEVER THE INPUT: true; the input reads as it did. -/
def opOverSpec : ChangeSpec := { name := "opOver", fn := fun _ => fun
  | [d1, d2, d3] => { results := [.lit (.bool true)], args := [d1, d2, d3] }
  | _ => none }
def opOverRow : OpenClaim := { program := "ytabgkkdgamacnaa", sum := "9b89cfc716a2d307814564b3c0f2c8584cc348460455f4aed139c6abd684c2cb", func := "bandbox/bandboxlaw16.OpOver", spec := "opOver", apart := false }
def OpOverSaid : Prop := opOverRow.holds Try.pinned (OpenSpec.ofChange opOverSpec)

/-- ITS FALSE NEIGHBOUR: 'it returns false'. Refute it at one input. -/
def opOverWrong : ChangeSpec := { name := "opOver", fn := fun _ => fun
  | [d1, d2, d3] => { results := [.lit (.bool false)], args := [d1, d2, d3] }
  | _ => none }
def OpOverWrongFalsely : Prop := opOverRow.holds Try.pinned (OpenSpec.ofChange opOverWrong)

/-- 'bandboxlaw16.OpSeen': WHATEVER THE INPUT: true; the input reads as it did. -/
def opSeenSpec : ChangeSpec := { name := "opSeen", fn := fun _ => fun
  | [d1, d2] => { results := [.lit (.bool true)], args := [d1, d2] }
  | _ => none }
def opSeenRow : OpenClaim := { program := "ytabgkkdgamacnaa", sum := "9b89cfc716a2d307814564b3c0f2c8584cc348460455f4aed139c6abd684c2cb", func := "bandbox/bandboxlaw16.OpSeen", spec := "opSeen", apart := false }
def OpSeenSaid : Prop := opSeenRow.holds Try.pinned (OpenSpec.ofChange opSeenSpec)

/-- ITS FALSE NEIGHBOUR: 'it returns false'. Refute it at one input. -/
def opSeenWrong : ChangeSpec := { name := "opSeen", fn := fun _ => fun
  | [d1, d2] => { results := [.lit (.bool false)], args := [d1, d2] }
  | _ => none }
def OpSeenWrongFalsely : Prop := opSeenRow.holds Try.pinned (OpenSpec.ofChange opSeenWrong)

/- THE SECOND FORM. 'bulk': how many values and letters a reading holds, each counted each time it is reached (what is shared counts as often as it is met; a slice's spare places count too). A statement '..UptoSaid' is the law's where the arguments, and the package variables that the reading takes, are together of bulk at most 1048576: NARROWER than '..Said'. Prove '..Said' where nothing that the law and all that it calls make is longer than what came in: it says more and counts as full. Else prove '..UptoSaid'. A law counts once. -/
mutual
def uptoBulk {H : Type} : DataW H → Nat
  | .lit (.string bytes) => bytes.length + 1
  | .lit _ => 1
  | .nil => 1
  | .ptr d => uptoBulk d + 1
  | .slice elems spare => uptoBulkAll elems + uptoBulkAll spare + 1
  | .agg parts => uptoBulkAll parts + 1
  | .iface _ d => uptoBulk d + 1
  | .map entries => uptoBulkEntries entries + 1
  | .held _ => 1
def uptoBulkAll {H : Type} : List (DataW H) → Nat
  | [] => 0
  | d :: r => uptoBulk d + uptoBulkAll r
def uptoBulkEntries {H : Type} : List (Lit × DataW H) → Nat
  | [] => 0
  | x :: r => uptoBulkEntry x + uptoBulkEntries r
def uptoBulkEntry {H : Type} : Lit × DataW H → Nat
  | (.string bytes, d) => bytes.length + uptoBulk d + 1
  | (_, d) => uptoBulk d + 1
 end
def uptoSmall : (H : Type) → List (DataW H) → Bool := fun _ ds => decide (uptoBulkAll ds ≤ 1048576)
def OpenSpec.upto (s : _root_.Go.ChangeSpec) : _root_.Go.OpenSpec := { _root_.Go.OpenSpec.ofChange s with cond := some uptoSmall }

/-- 'bandboxlaw16.OpKnown', WHERE WHAT IT READS IS OF BULK AT MOST 1048576: true; the input reads as it did. -/
def opKnownUptoRow : OpenClaim := { program := "ytabgkkdgamacnaa", sum := "9b89cfc716a2d307814564b3c0f2c8584cc348460455f4aed139c6abd684c2cb", func := "bandbox/bandboxlaw16.OpKnown", spec := "opKnown", apart := false, narrowed := true }
def OpKnownUptoSaid : Prop := opKnownUptoRow.holds Try.pinned (OpenSpec.upto opKnownSpec)

/-- 'bandboxlaw16.OpBytes', WHERE WHAT IT READS IS OF BULK AT MOST 1048576: true; the input reads as it did. -/
def opBytesUptoRow : OpenClaim := { program := "ytabgkkdgamacnaa", sum := "9b89cfc716a2d307814564b3c0f2c8584cc348460455f4aed139c6abd684c2cb", func := "bandbox/bandboxlaw16.OpBytes", spec := "opBytes", apart := false, narrowed := true }
def OpBytesUptoSaid : Prop := opBytesUptoRow.holds Try.pinned (OpenSpec.upto opBytesSpec)

/-- 'bandboxlaw16.OpBack', WHERE WHAT IT READS IS OF BULK AT MOST 1048576: true; the input reads as it did. -/
def opBackUptoRow : OpenClaim := { program := "ytabgkkdgamacnaa", sum := "9b89cfc716a2d307814564b3c0f2c8584cc348460455f4aed139c6abd684c2cb", func := "bandbox/bandboxlaw16.OpBack", spec := "opBack", apart := false, narrowed := true }
def OpBackUptoSaid : Prop := opBackUptoRow.holds Try.pinned (OpenSpec.upto opBackSpec)

/-- 'bandboxlaw16.OpOver', WHERE WHAT IT READS IS OF BULK AT MOST 1048576: true; the input reads as it did. -/
def opOverUptoRow : OpenClaim := { program := "ytabgkkdgamacnaa", sum := "9b89cfc716a2d307814564b3c0f2c8584cc348460455f4aed139c6abd684c2cb", func := "bandbox/bandboxlaw16.OpOver", spec := "opOver", apart := false, narrowed := true }
def OpOverUptoSaid : Prop := opOverUptoRow.holds Try.pinned (OpenSpec.upto opOverSpec)

/-- 'bandboxlaw16.OpSeen', WHERE WHAT IT READS IS OF BULK AT MOST 1048576: true; the input reads as it did. -/
def opSeenUptoRow : OpenClaim := { program := "ytabgkkdgamacnaa", sum := "9b89cfc716a2d307814564b3c0f2c8584cc348460455f4aed139c6abd684c2cb", func := "bandbox/bandboxlaw16.OpSeen", spec := "opSeen", apart := false, narrowed := true }
def OpSeenUptoSaid : Prop := opSeenUptoRow.holds Try.pinned (OpenSpec.upto opSeenSpec)

end Rows
end Go.Proofs.Ytabgkkdgamacnaa
