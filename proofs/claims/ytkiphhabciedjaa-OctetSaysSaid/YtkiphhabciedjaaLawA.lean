/-
  Contract of the law package's inner function awake: it returns true, and nothing that was there is changed. Conditions: none.
-/
import Derived.Test.YtkiphhabciedjaaOctB
import Derived.Test.YtkiphhabciedjaaOctH
namespace Go.Proofs.Ytkiphhabciedjaa
open Go.RowKit

theorem big258 (w : World) : Calls Try.prog 12 #[.slice none 0 0, .int .u64 258, .int .i64 2] w fun e w' => ∃ A' c', e = .returned (.slice A' 2 c') ∧ Res w' w.heap.size 5 A' 2 c' [1, 2] ∧ Below w.heap.size w w' := by
  have e1 : 0 + wd 2 = 2 := by decide
  have e2 : [] ++ be 258 (wd 2) = [1, 2] := by decide
  have h := big_any none [] 0 0 258 2 w Byt.none_ rfl (by omega) (by omega)
  rw [e1, e2] at h
  exact h

theorem awake_any (w : World) : Calls Try.prog 8 #[] w fun e w' => e = .returned (.bool true) ∧ Below w.heap.size w w' := by
  go_enter Try.func8, Try.ntmps8
  go_wp2_with fail
  refine (big258 _).mono ?_
  rintro e w1 ⟨A1, c1, rfl, hr1, hb1⟩
  have hcv := conv_bytes (P := Try.prog) Try.underlying23 Try.underlying5 Try.underlying9 hr1.byt 2 c1 rfl
  go_wp2_with fail
  refine (hex_any A1 [1, 2] 2 c1 _ hr1.byt rfl (by omega)).mono ?_
  rintro e w2 ⟨rfl, hb2⟩
  have hr2 := hr1.keep hb2
  have hh : hexd [1, 2] = [48, 49, 48, 50] := by decide
  rw [hh]
  have hz2 : w1.heap.size ≤ w2.heap.size := hb2.size
  clear hcv hh
  go_wp2_with fail
  refine (equal_core A1 (some ⟨w2.heap.size, 0, none⟩) [1, 2] [1, 2] 2 2 c1 2 2 _ ((hr2.alloc _).byt) (Byt.lit _ _ _ _ rfl) rfl rfl (by omega) (by omega) (by omega)).mono ?_
  rintro e w3 ⟨rfl, q, hq⟩
  have hb3 : Below w2.heap.size w2 w3 := by rw [hq]; exact below_drewN ((Below.refl _ _).alloc (Nat.le_refl _) _) q
  have hr3 := hr2.keep hb3
  have hz3 : w2.heap.size ≤ w3.heap.size := hb3.size
  clear hq
  go_wp2_with fail
  refine (turn_any A1 [1, 2] 2 c1 _ hr3.byt rfl (by omega)).mono ?_
  rintro e w4 ⟨A4, c4, rfl, hr4, hb4⟩
  have hcv := conv_bytes (P := Try.prog) Try.underlying23 Try.underlying5 Try.underlying9 hr4.byt 2 c4 rfl
  have hb1z := hb1.size
  go_wp2
  go_ret
  exact ⟨rfl, below_next (below_next (below_next hb1 hb1z hb2) (by omega) hb3) (by omega) hb4⟩
end Go.Proofs.Ytkiphhabciedjaa
