/-
  No cell of these rows narrows 'for every input' (looked for: loops, veiled, ifaces, maps, wideKeys, modest, calm, conditions, laid).
  DERIVED. THE GIVEN ROWS OF THIS SEAT. 5 by the template 'for every input the law returns true; each argument reads behind the call as it read before'; 0 by the template 'total and deterministic' (their statements: YtknmccpoheekmaaTotals.lean).
  GIVEN WITH THE SEED: the statements are not yours to turn. If you find one false, say at which input.
  Laid BY PROGRAM, IN A SANDBOX (cutbox-rows.mjs): the forced cells as the released guide's own fill.sh prints them over the translation f6182f475303672e… (all of the seat's roots in one cut). By AI agents, Wed Nov 11 2026. No macro, syntax, notation, axiom, sorry.
-/
import Derived.Test.YtknmccpoheekmaaChecked
import GoSem.Claim
import GoSem.ClaimJoined
import GoSem.ClaimMapViews
import Derived.JoinedTies
import Derived.KernelRfl
namespace Go.Proofs.Ytknmccpoheekmaa
/- THE CELL 'sum', in the pinned program and in every row, IS THE sha256 OF THE DUMP (.gsa) THAT YtknmccpoheekmaaProg.lean LOADS. Nothing in Lean hashes anything: it is a label: what it is worth is what the hold of that sum in a sandbox is worth. -/
noncomputable def Try.pinned : Pinned := { name := "ytknmccpoheekmaa", sum := "f6182f475303672e1e8760aee9dcb93e3d27fb5e5ea0a83e18ea4ceb05f92232", checked := Try.checked }
namespace Rows
def none {H : Type} : Left H := { results := [], args := [] }

/-- 'bandboxlaw18.KnowKnown': WHATEVER THE INPUT: true; the input reads as it did. -/
def knowKnownSpec : ChangeSpec := { name := "knowKnown", fn := fun _ => fun
  | [] => { results := [.lit (.bool true)], args := [] }
  | _ => none }
def knowKnownRow : OpenClaim := { program := "ytknmccpoheekmaa", sum := "f6182f475303672e1e8760aee9dcb93e3d27fb5e5ea0a83e18ea4ceb05f92232", func := "bandbox/bandboxlaw18.KnowKnown", spec := "knowKnown", apart := false }
def KnowKnownSaid : Prop := knowKnownRow.holds Try.pinned (OpenSpec.ofChange knowKnownSpec)

/-- ITS FALSE NEIGHBOUR: 'it returns false'. Refute it at one input. -/
def knowKnownWrong : ChangeSpec := { name := "knowKnown", fn := fun _ => fun
  | [] => { results := [.lit (.bool false)], args := [] }
  | _ => none }
def KnowKnownWrongFalsely : Prop := knowKnownRow.holds Try.pinned (OpenSpec.ofChange knowKnownWrong)

/-- 'bandboxlaw18.KnowSays': WHATEVER THE INPUT: true; the input reads as it did. -/
def knowSaysSpec : ChangeSpec := { name := "knowSays", fn := fun _ => fun
  | [d1, d2, d3, d4] => { results := [.lit (.bool true)], args := [d1, d2, d3, d4] }
  | _ => none }
def knowSaysRow : OpenClaim := { program := "ytknmccpoheekmaa", sum := "f6182f475303672e1e8760aee9dcb93e3d27fb5e5ea0a83e18ea4ceb05f92232", func := "bandbox/bandboxlaw18.KnowSays", spec := "knowSays", apart := false }
def KnowSaysSaid : Prop := knowSaysRow.holds Try.pinned (OpenSpec.ofChange knowSaysSpec)

/-- ITS FALSE NEIGHBOUR: 'it returns false'. Refute it at one input. -/
def knowSaysWrong : ChangeSpec := { name := "knowSays", fn := fun _ => fun
  | [d1, d2, d3, d4] => { results := [.lit (.bool false)], args := [d1, d2, d3, d4] }
  | _ => none }
def KnowSaysWrongFalsely : Prop := knowSaysRow.holds Try.pinned (OpenSpec.ofChange knowSaysWrong)

/-- 'bandboxlaw18.KnowGrows': WHATEVER THE INPUT: true; the input reads as it did. -/
def knowGrowsSpec : ChangeSpec := { name := "knowGrows", fn := fun _ => fun
  | [d1, d2, d3] => { results := [.lit (.bool true)], args := [d1, d2, d3] }
  | _ => none }
def knowGrowsRow : OpenClaim := { program := "ytknmccpoheekmaa", sum := "f6182f475303672e1e8760aee9dcb93e3d27fb5e5ea0a83e18ea4ceb05f92232", func := "bandbox/bandboxlaw18.KnowGrows", spec := "knowGrows", apart := false }
def KnowGrowsSaid : Prop := knowGrowsRow.holds Try.pinned (OpenSpec.ofChange knowGrowsSpec)

/-- ITS FALSE NEIGHBOUR: 'it returns false'. Refute it at one input. -/
def knowGrowsWrong : ChangeSpec := { name := "knowGrows", fn := fun _ => fun
  | [d1, d2, d3] => { results := [.lit (.bool false)], args := [d1, d2, d3] }
  | _ => none }
def KnowGrowsWrongFalsely : Prop := knowGrowsRow.holds Try.pinned (OpenSpec.ofChange knowGrowsWrong)

/-- 'bandboxlaw18.KnowSealed': WHATEVER THE INPUT: true; the input reads as it did. -/
def knowSealedSpec : ChangeSpec := { name := "knowSealed", fn := fun _ => fun
  | [d1, d2] => { results := [.lit (.bool true)], args := [d1, d2] }
  | _ => none }
def knowSealedRow : OpenClaim := { program := "ytknmccpoheekmaa", sum := "f6182f475303672e1e8760aee9dcb93e3d27fb5e5ea0a83e18ea4ceb05f92232", func := "bandbox/bandboxlaw18.KnowSealed", spec := "knowSealed", apart := false }
def KnowSealedSaid : Prop := knowSealedRow.holds Try.pinned (OpenSpec.ofChange knowSealedSpec)

/-- ITS FALSE NEIGHBOUR: 'it returns false'. Refute it at one input. -/
def knowSealedWrong : ChangeSpec := { name := "knowSealed", fn := fun _ => fun
  | [d1, d2] => { results := [.lit (.bool false)], args := [d1, d2] }
  | _ => none }
def KnowSealedWrongFalsely : Prop := knowSealedRow.holds Try.pinned (OpenSpec.ofChange knowSealedWrong)

/-- 'bandboxlaw18.KnowPairs': WHATEVER THE INPUT: true; the input reads as it did. -/
def knowPairsSpec : ChangeSpec := { name := "knowPairs", fn := fun _ => fun
  | [d1, d2, d3, d4] => { results := [.lit (.bool true)], args := [d1, d2, d3, d4] }
  | _ => none }
def knowPairsRow : OpenClaim := { program := "ytknmccpoheekmaa", sum := "f6182f475303672e1e8760aee9dcb93e3d27fb5e5ea0a83e18ea4ceb05f92232", func := "bandbox/bandboxlaw18.KnowPairs", spec := "knowPairs", apart := false }
def KnowPairsSaid : Prop := knowPairsRow.holds Try.pinned (OpenSpec.ofChange knowPairsSpec)

/-- ITS FALSE NEIGHBOUR: 'it returns false'. Refute it at one input. -/
def knowPairsWrong : ChangeSpec := { name := "knowPairs", fn := fun _ => fun
  | [d1, d2, d3, d4] => { results := [.lit (.bool false)], args := [d1, d2, d3, d4] }
  | _ => none }
def KnowPairsWrongFalsely : Prop := knowPairsRow.holds Try.pinned (OpenSpec.ofChange knowPairsWrong)

/- THE SECOND FORM. 'bulk': how many values and letters a reading holds, each counted each time it is reached (what is shared counts as often as it is met; a slice's spare places count too). A statement '..UptoSaid' is the law's where the arguments, and the package variables that the reading takes, are together of bulk at most 1048576: NARROWER than '..Said'. Prove '..Said' where nothing that the law and all that it calls make is longer than what came in: it says more and counts as full. Else prove '..UptoSaid'. A law counts once. -/
mutual
def uptoBulk {H : Type} : DataW H → Nat
  | .lit (.string bytes) => bytes.length + 1
  | .lit _ => 1
  | .nil => 1
  | .ptr d => uptoBulk d + 1
  | .slice elems spare => uptoBulkAll elems + uptoBulkAll spare + 1
  | .agg parts => uptoBulkAll parts + 1
  | .iface _ d => uptoBulk d + 1
  | .map entries => uptoBulkEntries entries + 1
  | .held _ => 1
def uptoBulkAll {H : Type} : List (DataW H) → Nat
  | [] => 0
  | d :: r => uptoBulk d + uptoBulkAll r
def uptoBulkEntries {H : Type} : List (Lit × DataW H) → Nat
  | [] => 0
  | x :: r => uptoBulkEntry x + uptoBulkEntries r
def uptoBulkEntry {H : Type} : Lit × DataW H → Nat
  | (.string bytes, d) => bytes.length + uptoBulk d + 1
  | (_, d) => uptoBulk d + 1
 end
def uptoSmall : (H : Type) → List (DataW H) → Bool := fun _ ds => decide (uptoBulkAll ds ≤ 1048576)
def OpenSpec.upto (s : _root_.Go.ChangeSpec) : _root_.Go.OpenSpec := { _root_.Go.OpenSpec.ofChange s with cond := some uptoSmall }

/-- 'bandboxlaw18.KnowKnown', WHERE WHAT IT READS IS OF BULK AT MOST 1048576: true; the input reads as it did. -/
def knowKnownUptoRow : OpenClaim := { program := "ytknmccpoheekmaa", sum := "f6182f475303672e1e8760aee9dcb93e3d27fb5e5ea0a83e18ea4ceb05f92232", func := "bandbox/bandboxlaw18.KnowKnown", spec := "knowKnown", apart := false, narrowed := true }
def KnowKnownUptoSaid : Prop := knowKnownUptoRow.holds Try.pinned (OpenSpec.upto knowKnownSpec)

/-- 'bandboxlaw18.KnowSays', WHERE WHAT IT READS IS OF BULK AT MOST 1048576: true; the input reads as it did. -/
def knowSaysUptoRow : OpenClaim := { program := "ytknmccpoheekmaa", sum := "f6182f475303672e1e8760aee9dcb93e3d27fb5e5ea0a83e18ea4ceb05f92232", func := "bandbox/bandboxlaw18.KnowSays", spec := "knowSays", apart := false, narrowed := true }
def KnowSaysUptoSaid : Prop := knowSaysUptoRow.holds Try.pinned (OpenSpec.upto knowSaysSpec)

/-- 'bandboxlaw18.KnowGrows', WHERE WHAT IT READS IS OF BULK AT MOST 1048576: true; the input reads as it did. -/
def knowGrowsUptoRow : OpenClaim := { program := "ytknmccpoheekmaa", sum := "f6182f475303672e1e8760aee9dcb93e3d27fb5e5ea0a83e18ea4ceb05f92232", func := "bandbox/bandboxlaw18.KnowGrows", spec := "knowGrows", apart := false, narrowed := true }
def KnowGrowsUptoSaid : Prop := knowGrowsUptoRow.holds Try.pinned (OpenSpec.upto knowGrowsSpec)

/-- 'bandboxlaw18.KnowSealed', WHERE WHAT IT READS IS OF BULK AT MOST 1048576: true; the input reads as it did. -/
def knowSealedUptoRow : OpenClaim := { program := "ytknmccpoheekmaa", sum := "f6182f475303672e1e8760aee9dcb93e3d27fb5e5ea0a83e18ea4ceb05f92232", func := "bandbox/bandboxlaw18.KnowSealed", spec := "knowSealed", apart := false, narrowed := true }
def KnowSealedUptoSaid : Prop := knowSealedUptoRow.holds Try.pinned (OpenSpec.upto knowSealedSpec)

/-- 'bandboxlaw18.KnowPairs', WHERE WHAT IT READS IS OF BULK AT MOST 1048576: true; the input reads as it did. -/
def knowPairsUptoRow : OpenClaim := { program := "ytknmccpoheekmaa", sum := "f6182f475303672e1e8760aee9dcb93e3d27fb5e5ea0a83e18ea4ceb05f92232", func := "bandbox/bandboxlaw18.KnowPairs", spec := "knowPairs", apart := false, narrowed := true }
def KnowPairsUptoSaid : Prop := knowPairsUptoRow.holds Try.pinned (OpenSpec.upto knowPairsSpec)

end Rows
end Go.Proofs.Ytknmccpoheekmaa
