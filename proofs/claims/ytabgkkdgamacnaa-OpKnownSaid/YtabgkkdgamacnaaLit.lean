/-
  An empty literal of bytes: a word that other texts share. No statement is proved here. Conditions: none.
-/
import Derived.Test.YtabgkkdgamacnaaBase
namespace Go.Proofs.Ytabgkkdgamacnaa
open Go.RowKit

theorem Res.none_lit (w : World) (E : TypeId) (base : Nat) (hb : base ≤ w.heap.size) : Res (w.alloc (.cells #[] E)) base E (some ⟨w.heap.size, 0, none⟩) 0 0 [] :=
  Res.row hb (heap_alloc_new w _) (Nat.le_refl _) (by omega) rfl rfl rfl
end Go.Proofs.Ytabgkkdgamacnaa
