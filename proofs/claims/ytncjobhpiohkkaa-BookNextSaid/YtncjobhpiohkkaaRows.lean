/-
  No cell of these rows narrows 'for every input' (looked for: loops, veiled, ifaces, maps, wideKeys, modest, calm, conditions, laid).
  DERIVED. THE GIVEN ROWS OF THIS SEAT. 6 by the template 'for every input the law returns true; each argument reads behind the call as it read before'; 0 by the template 'total and deterministic' (their statements: YtncjobhpiohkkaaTotals.lean).
  GIVEN WITH THE SEED: the statements are not yours to turn. If you find one false, say at which input.
  Laid BY PROGRAM, IN A SANDBOX (cutbox-rows.mjs): the forced cells as the released guide's own fill.sh prints them over the translation 8a2ea033d8a92f78… (all of the seat's roots in one cut). By AI agents, Wed Nov 11 2026. No macro, syntax, notation, axiom, sorry.
-/
import Derived.Test.YtncjobhpiohkkaaChecked
import GoSem.Claim
import GoSem.ClaimJoined
import GoSem.ClaimMapViews
import Derived.JoinedTies
import Derived.KernelRfl
namespace Go.Proofs.Ytncjobhpiohkkaa
/- THE CELL 'sum', in the pinned program and in every row, IS THE sha256 OF THE DUMP (.gsa) THAT YtncjobhpiohkkaaProg.lean LOADS. Nothing in Lean hashes anything: it is a label: what it is worth is what the hold of that sum in a sandbox is worth. -/
noncomputable def Try.pinned : Pinned := { name := "ytncjobhpiohkkaa", sum := "8a2ea033d8a92f78febed1d7ff79bf16c0e49ffae6f6a4bb9a864db17ccde576", checked := Try.checked }
namespace Rows
def none {H : Type} : Left H := { results := [], args := [] }

/-- 'bandboxlaw17.BookKnown': WHATEVER THE INPUT: true; the input reads as it did. -/
def bookKnownSpec : ChangeSpec := { name := "bookKnown", fn := fun _ => fun
  | [] => { results := [.lit (.bool true)], args := [] }
  | _ => none }
def bookKnownRow : OpenClaim := { program := "ytncjobhpiohkkaa", sum := "8a2ea033d8a92f78febed1d7ff79bf16c0e49ffae6f6a4bb9a864db17ccde576", func := "bandbox/bandboxlaw17.BookKnown", spec := "bookKnown", inPlace := ["slices.overlaps[bandbox/op.Edit]", "internal/reflectlite.ValueOf", "internal/reflectlite.Swapper", "(internal/reflectlite.Value).Len"], unfollowed := true, recurses := true, apart := false }
def BookKnownSaid : Prop := bookKnownRow.holds Try.pinned (OpenSpec.ofChange bookKnownSpec)

/-- ITS FALSE NEIGHBOUR: 'it returns false'. Refute it at one input. -/
def bookKnownWrong : ChangeSpec := { name := "bookKnown", fn := fun _ => fun
  | [] => { results := [.lit (.bool false)], args := [] }
  | _ => none }
def BookKnownWrongFalsely : Prop := bookKnownRow.holds Try.pinned (OpenSpec.ofChange bookKnownWrong)

/-- 'bandboxlaw17.BookOrder': WHATEVER THE INPUT: true; the input reads as it did. -/
def bookOrderSpec : ChangeSpec := { name := "bookOrder", fn := fun _ => fun
  | [d1, d2] => { results := [.lit (.bool true)], args := [d1, d2] }
  | _ => none }
def bookOrderRow : OpenClaim := { program := "ytncjobhpiohkkaa", sum := "8a2ea033d8a92f78febed1d7ff79bf16c0e49ffae6f6a4bb9a864db17ccde576", func := "bandbox/bandboxlaw17.BookOrder", spec := "bookOrder", inPlace := ["slices.overlaps[bandbox/op.Edit]", "internal/reflectlite.ValueOf", "internal/reflectlite.Swapper", "(internal/reflectlite.Value).Len"], unfollowed := true, recurses := true, apart := false }
def BookOrderSaid : Prop := bookOrderRow.holds Try.pinned (OpenSpec.ofChange bookOrderSpec)

/-- ITS FALSE NEIGHBOUR: 'it returns false'. Refute it at one input. -/
def bookOrderWrong : ChangeSpec := { name := "bookOrder", fn := fun _ => fun
  | [d1, d2] => { results := [.lit (.bool false)], args := [d1, d2] }
  | _ => none }
def BookOrderWrongFalsely : Prop := bookOrderRow.holds Try.pinned (OpenSpec.ofChange bookOrderWrong)

/-- 'bandboxlaw17.BookMerges': WHATEVER THE INPUT: true; the input reads as it did. -/
def bookMergesSpec : ChangeSpec := { name := "bookMerges", fn := fun _ => fun
  | [d1, d2] => { results := [.lit (.bool true)], args := [d1, d2] }
  | _ => none }
def bookMergesRow : OpenClaim := { program := "ytncjobhpiohkkaa", sum := "8a2ea033d8a92f78febed1d7ff79bf16c0e49ffae6f6a4bb9a864db17ccde576", func := "bandbox/bandboxlaw17.BookMerges", spec := "bookMerges", inPlace := ["slices.overlaps[bandbox/op.Edit]", "internal/reflectlite.ValueOf", "internal/reflectlite.Swapper", "(internal/reflectlite.Value).Len"], unfollowed := true, recurses := true, apart := false }
def BookMergesSaid : Prop := bookMergesRow.holds Try.pinned (OpenSpec.ofChange bookMergesSpec)

/-- ITS FALSE NEIGHBOUR: 'it returns false'. Refute it at one input. -/
def bookMergesWrong : ChangeSpec := { name := "bookMerges", fn := fun _ => fun
  | [d1, d2] => { results := [.lit (.bool false)], args := [d1, d2] }
  | _ => none }
def BookMergesWrongFalsely : Prop := bookMergesRow.holds Try.pinned (OpenSpec.ofChange bookMergesWrong)

/-- 'bandboxlaw17.BookLast': WHATEVER THE INPUT: true; the input reads as it did. -/
def bookLastSpec : ChangeSpec := { name := "bookLast", fn := fun _ => fun
  | [d1, d2, d3, d4, d5] => { results := [.lit (.bool true)], args := [d1, d2, d3, d4, d5] }
  | _ => none }
def bookLastRow : OpenClaim := { program := "ytncjobhpiohkkaa", sum := "8a2ea033d8a92f78febed1d7ff79bf16c0e49ffae6f6a4bb9a864db17ccde576", func := "bandbox/bandboxlaw17.BookLast", spec := "bookLast", inPlace := ["slices.overlaps[bandbox/op.Edit]", "internal/reflectlite.ValueOf", "internal/reflectlite.Swapper", "(internal/reflectlite.Value).Len"], unfollowed := true, recurses := true, apart := false }
def BookLastSaid : Prop := bookLastRow.holds Try.pinned (OpenSpec.ofChange bookLastSpec)

/-- ITS FALSE NEIGHBOUR: 'it returns false'. Refute it at one input. -/
def bookLastWrong : ChangeSpec := { name := "bookLast", fn := fun _ => fun
  | [d1, d2, d3, d4, d5] => { results := [.lit (.bool false)], args := [d1, d2, d3, d4, d5] }
  | _ => none }
def BookLastWrongFalsely : Prop := bookLastRow.holds Try.pinned (OpenSpec.ofChange bookLastWrong)

/-- 'bandboxlaw17.BookGrows': WHATEVER THE INPUT: true; the input reads as it did. -/
def bookGrowsSpec : ChangeSpec := { name := "bookGrows", fn := fun _ => fun
  | [d1, d2] => { results := [.lit (.bool true)], args := [d1, d2] }
  | _ => none }
def bookGrowsRow : OpenClaim := { program := "ytncjobhpiohkkaa", sum := "8a2ea033d8a92f78febed1d7ff79bf16c0e49ffae6f6a4bb9a864db17ccde576", func := "bandbox/bandboxlaw17.BookGrows", spec := "bookGrows", inPlace := ["slices.overlaps[bandbox/op.Edit]", "internal/reflectlite.ValueOf", "internal/reflectlite.Swapper", "(internal/reflectlite.Value).Len"], unfollowed := true, recurses := true, apart := false }
def BookGrowsSaid : Prop := bookGrowsRow.holds Try.pinned (OpenSpec.ofChange bookGrowsSpec)

/-- ITS FALSE NEIGHBOUR: 'it returns false'. Refute it at one input. -/
def bookGrowsWrong : ChangeSpec := { name := "bookGrows", fn := fun _ => fun
  | [d1, d2] => { results := [.lit (.bool false)], args := [d1, d2] }
  | _ => none }
def BookGrowsWrongFalsely : Prop := bookGrowsRow.holds Try.pinned (OpenSpec.ofChange bookGrowsWrong)

/-- 'bandboxlaw17.BookNext': WHATEVER THE INPUT: true; the input reads as it did. -/
def bookNextSpec : ChangeSpec := { name := "bookNext", fn := fun _ => fun
  | [d1, d2, d3] => { results := [.lit (.bool true)], args := [d1, d2, d3] }
  | _ => none }
def bookNextRow : OpenClaim := { program := "ytncjobhpiohkkaa", sum := "8a2ea033d8a92f78febed1d7ff79bf16c0e49ffae6f6a4bb9a864db17ccde576", func := "bandbox/bandboxlaw17.BookNext", spec := "bookNext", inPlace := ["slices.overlaps[bandbox/op.Edit]", "internal/reflectlite.ValueOf", "internal/reflectlite.Swapper", "(internal/reflectlite.Value).Len"], unfollowed := true, recurses := true, apart := false }
def BookNextSaid : Prop := bookNextRow.holds Try.pinned (OpenSpec.ofChange bookNextSpec)

/-- ITS FALSE NEIGHBOUR: 'it returns false'. Refute it at one input. -/
def bookNextWrong : ChangeSpec := { name := "bookNext", fn := fun _ => fun
  | [d1, d2, d3] => { results := [.lit (.bool false)], args := [d1, d2, d3] }
  | _ => none }
def BookNextWrongFalsely : Prop := bookNextRow.holds Try.pinned (OpenSpec.ofChange bookNextWrong)

/- THE SECOND FORM. 'bulk': how many values and letters a reading holds, each counted each time it is reached (what is shared counts as often as it is met; a slice's spare places count too). A statement '..UptoSaid' is the law's where the arguments, and the package variables that the reading takes, are together of bulk at most 1048576: NARROWER than '..Said'. Prove '..Said' where nothing that the law and all that it calls make is longer than what came in: it says more and counts as full. Else prove '..UptoSaid'. A law counts once. -/
mutual
def uptoBulk {H : Type} : DataW H → Nat
  | .lit (.string bytes) => bytes.length + 1
  | .lit _ => 1
  | .nil => 1
  | .ptr d => uptoBulk d + 1
  | .slice elems spare => uptoBulkAll elems + uptoBulkAll spare + 1
  | .agg parts => uptoBulkAll parts + 1
  | .iface _ d => uptoBulk d + 1
  | .map entries => uptoBulkEntries entries + 1
  | .held _ => 1
def uptoBulkAll {H : Type} : List (DataW H) → Nat
  | [] => 0
  | d :: r => uptoBulk d + uptoBulkAll r
def uptoBulkEntries {H : Type} : List (Lit × DataW H) → Nat
  | [] => 0
  | x :: r => uptoBulkEntry x + uptoBulkEntries r
def uptoBulkEntry {H : Type} : Lit × DataW H → Nat
  | (.string bytes, d) => bytes.length + uptoBulk d + 1
  | (_, d) => uptoBulk d + 1
 end
def uptoSmall : (H : Type) → List (DataW H) → Bool := fun _ ds => decide (uptoBulkAll ds ≤ 1048576)
def OpenSpec.upto (s : _root_.Go.ChangeSpec) : _root_.Go.OpenSpec := { _root_.Go.OpenSpec.ofChange s with cond := some uptoSmall }

/-- 'bandboxlaw17.BookKnown', WHERE WHAT IT READS IS OF BULK AT MOST 1048576: true; the input reads as it did. -/
def bookKnownUptoRow : OpenClaim := { program := "ytncjobhpiohkkaa", sum := "8a2ea033d8a92f78febed1d7ff79bf16c0e49ffae6f6a4bb9a864db17ccde576", func := "bandbox/bandboxlaw17.BookKnown", spec := "bookKnown", inPlace := ["slices.overlaps[bandbox/op.Edit]", "internal/reflectlite.ValueOf", "internal/reflectlite.Swapper", "(internal/reflectlite.Value).Len"], unfollowed := true, recurses := true, apart := false, narrowed := true }
def BookKnownUptoSaid : Prop := bookKnownUptoRow.holds Try.pinned (OpenSpec.upto bookKnownSpec)

/-- 'bandboxlaw17.BookOrder', WHERE WHAT IT READS IS OF BULK AT MOST 1048576: true; the input reads as it did. -/
def bookOrderUptoRow : OpenClaim := { program := "ytncjobhpiohkkaa", sum := "8a2ea033d8a92f78febed1d7ff79bf16c0e49ffae6f6a4bb9a864db17ccde576", func := "bandbox/bandboxlaw17.BookOrder", spec := "bookOrder", inPlace := ["slices.overlaps[bandbox/op.Edit]", "internal/reflectlite.ValueOf", "internal/reflectlite.Swapper", "(internal/reflectlite.Value).Len"], unfollowed := true, recurses := true, apart := false, narrowed := true }
def BookOrderUptoSaid : Prop := bookOrderUptoRow.holds Try.pinned (OpenSpec.upto bookOrderSpec)

/-- 'bandboxlaw17.BookMerges', WHERE WHAT IT READS IS OF BULK AT MOST 1048576: true; the input reads as it did. -/
def bookMergesUptoRow : OpenClaim := { program := "ytncjobhpiohkkaa", sum := "8a2ea033d8a92f78febed1d7ff79bf16c0e49ffae6f6a4bb9a864db17ccde576", func := "bandbox/bandboxlaw17.BookMerges", spec := "bookMerges", inPlace := ["slices.overlaps[bandbox/op.Edit]", "internal/reflectlite.ValueOf", "internal/reflectlite.Swapper", "(internal/reflectlite.Value).Len"], unfollowed := true, recurses := true, apart := false, narrowed := true }
def BookMergesUptoSaid : Prop := bookMergesUptoRow.holds Try.pinned (OpenSpec.upto bookMergesSpec)

/-- 'bandboxlaw17.BookLast', WHERE WHAT IT READS IS OF BULK AT MOST 1048576: true; the input reads as it did. -/
def bookLastUptoRow : OpenClaim := { program := "ytncjobhpiohkkaa", sum := "8a2ea033d8a92f78febed1d7ff79bf16c0e49ffae6f6a4bb9a864db17ccde576", func := "bandbox/bandboxlaw17.BookLast", spec := "bookLast", inPlace := ["slices.overlaps[bandbox/op.Edit]", "internal/reflectlite.ValueOf", "internal/reflectlite.Swapper", "(internal/reflectlite.Value).Len"], unfollowed := true, recurses := true, apart := false, narrowed := true }
def BookLastUptoSaid : Prop := bookLastUptoRow.holds Try.pinned (OpenSpec.upto bookLastSpec)

/-- 'bandboxlaw17.BookGrows', WHERE WHAT IT READS IS OF BULK AT MOST 1048576: true; the input reads as it did. -/
def bookGrowsUptoRow : OpenClaim := { program := "ytncjobhpiohkkaa", sum := "8a2ea033d8a92f78febed1d7ff79bf16c0e49ffae6f6a4bb9a864db17ccde576", func := "bandbox/bandboxlaw17.BookGrows", spec := "bookGrows", inPlace := ["slices.overlaps[bandbox/op.Edit]", "internal/reflectlite.ValueOf", "internal/reflectlite.Swapper", "(internal/reflectlite.Value).Len"], unfollowed := true, recurses := true, apart := false, narrowed := true }
def BookGrowsUptoSaid : Prop := bookGrowsUptoRow.holds Try.pinned (OpenSpec.upto bookGrowsSpec)

/-- 'bandboxlaw17.BookNext', WHERE WHAT IT READS IS OF BULK AT MOST 1048576: true; the input reads as it did. -/
def bookNextUptoRow : OpenClaim := { program := "ytncjobhpiohkkaa", sum := "8a2ea033d8a92f78febed1d7ff79bf16c0e49ffae6f6a4bb9a864db17ccde576", func := "bandbox/bandboxlaw17.BookNext", spec := "bookNext", inPlace := ["slices.overlaps[bandbox/op.Edit]", "internal/reflectlite.ValueOf", "internal/reflectlite.Swapper", "(internal/reflectlite.Value).Len"], unfollowed := true, recurses := true, apart := false, narrowed := true }
def BookNextUptoSaid : Prop := bookNextUptoRow.holds Try.pinned (OpenSpec.upto bookNextSpec)

end Rows
end Go.Proofs.Ytncjobhpiohkkaa
