/-
  Contract of the document's own held. Conditions: none.
-/
import Derived.Test.YtcdjpjljaoeakaaOctBD
import Derived.Test.YtcdjpjljaoeakaaSrc
namespace Go.Proofs.Ytcdjpjljaoeakaa
open Go.RowKit

theorem held_any (n : Int) (w : World) : Calls Try.prog 29 #[.int .i64 n] w fun e w' => e = .returned (.int .i64 (wd n)) ∧ w = w' := by
  go_enter Try.func29, Try.ntmps29
  go_wp2
  all_goals go_ret
  all_goals exact ⟨by unfold wd; first | go_num | (congr 2; omega), rfl⟩

theorem Res.none_lit (w : World) (E : TypeId) (base : Nat) (hb : base ≤ w.heap.size) : Res (w.alloc (.cells #[] E)) base E (some ⟨w.heap.size, 0, none⟩) 0 0 [] :=
  Res.row hb (heap_alloc_new w _) (Nat.le_refl _) (by omega) rfl rfl rfl

end Go.Proofs.Ytcdjpjljaoeakaa
