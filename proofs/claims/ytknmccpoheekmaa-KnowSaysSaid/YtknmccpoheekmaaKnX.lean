/-
  Contracts of law 18's box and awake. No statement is proved here. Conditions: none.
-/
import Derived.Test.YtknmccpoheekmaaKnW
import Derived.Test.YtknmccpoheekmaaKnV
namespace Go.Proofs.Ytknmccpoheekmaa
open Go.RowKit

def boxT : List Th := [⟨1, 0, 0, 0⟩, ⟨1, 0, 0, 0⟩, ⟨3, 0, 1, 0⟩]
theorem inp_new {w w' : World} {g : Nat} {cs : List Value} (l : List Int) (h : w.alloc (.cells cs.toArray 3) = w') (hg : g = w.heap.size) (hl : l.map (Value.int .i64) = cs) : InP w' w'.heap.size (some ⟨g, 0, none⟩) l := by
  subst h hg hl
  refine .inr ⟨_, 0, rfl, by simp, fun j x hx => ?_⟩
  rw [cell_of_row _ _ _ _ _ _ (heap_alloc_new w _), Nat.zero_add]
  simp [hx]
set_option maxRecDepth 100000 in
theorem box_any (w : World) : Calls Try.prog 19 #[] w fun e w' => ∃ g, e = .returned (.slice (some ⟨g, 0, none⟩) 3 3) ∧ ThP w' w'.heap.size (some ⟨g, 0, none⟩) boxT ∧ Below w.heap.size w w' := by
  go_enter Try.func19, Try.ntmps19
  go_wp2
  go_ret
  exact ⟨w.heap.size, rfl, thp_row (s := []) (Lib.hid (heap_alloc_new w _)), (Below.refl _ _).alloc (Nat.le_refl _) _⟩
set_option maxRecDepth 100000 in
theorem aw1_ok : kok 4 boxT [0, 2] = true := by decide +kernel
set_option maxRecDepth 100000 in
theorem aw1_is : kall 4 boxT [0, 2] = [0, 1, 2] := by decide +kernel
set_option maxRecDepth 100000 in
theorem aw2_ok : kok 4 boxT [2] = true := by decide +kernel
set_option maxRecDepth 100000 in
theorem aw2_is : kall 4 boxT [2] = [2] := by decide +kernel
set_option maxRecDepth 100000 in
theorem aw3_ok : kok 4 boxT [0, 1] = true := by decide +kernel
set_option maxRecDepth 100000 in
theorem aw3_is : decide (2 ∈ kall 4 boxT [0, 1]) = true := by decide +kernel
set_option maxRecDepth 100000 in
theorem aw4_is : goodT boxT = true := by decide +kernel
set_option maxRecDepth 100000 in
set_option maxHeartbeats 4000000 in
theorem kawake_any (w : World) : Calls Try.prog 8 #[] w fun e w' => e = .returned (.bool true) ∧ Below w.heap.size w w' := by
  have V1 := vlt (box_any w)
  go_enter Try.func8, Try.ntmps8
  go_wp2_with (first
    | (go_at_call 19; refine V1.out.mono ?_; rintro e w1 ⟨g1, rfl, ht1, hb1⟩; have a1 := (Below.refl w1.heap.size w1).alloc (Nat.le_refl _) (.cells #[.int .i64 0, .int .i64 2] 3); have V2 := vlt (kall_any 3 2 (ht1.next a1) rfl (by decide) (inp_new [0, 2] rfl rfl rfl) rfl (by decide)); clear V1)
    | (go_at_call 11; refine V2.out.mono ?_; rintro e w2 ⟨A2, c2, l, rfl, hall, hi2, hb2x⟩; have hl := all_is 4 hall.out aw1_ok; rw [aw1_is] at hl; subst hl; have hb2 := below_next hb1 hb1.size (below_next a1 a1.size hb2x); have a2 := (Below.refl w2.heap.size w2).alloc (Nat.le_refl _) (.cells #[.int .i64 0, .int .i64 1, .int .i64 2] 3); have V3 := vlt (ksame_any (l := [0, 1, 2]) (l2 := [0, 1, 2]) (n := 3) (m := 3) c2 3 (hi2.next a2) (inp_new [0, 1, 2] rfl rfl rfl) rfl rfl (by decide) (o := true) (by decide)); clear V2 hall)
    | (go_at_call 10; refine V3.out.mono ?_; rintro e w3 ⟨rfl, hb3x⟩; have hb3 := below_next hb2 hb2.size (below_next a2 a2.size hb3x); have V4 := vlt (box_any w3); clear V3)
    | (go_at_call 19; refine V4.out.mono ?_; rintro e w4 ⟨g4, rfl, ht4, hb4x⟩; have hb4 := below_next hb3 hb3.size hb4x; have a4 := (Below.refl w4.heap.size w4).alloc (Nat.le_refl _) (.cells #[.int .i64 2] 3); have V5 := vlt (kall_any 3 1 (ht4.next a4) rfl (by decide) (inp_new [2] rfl rfl rfl) rfl (by decide)); clear V4)
    | (go_at_call 11; refine V5.out.mono ?_; rintro e w5 ⟨A5, c5, l, rfl, hall, hi5, hb5x⟩; have hl := all_is 4 hall.out aw2_ok; rw [aw2_is] at hl; subst hl; have hb5 := below_next hb4 hb4.size (below_next a4 a4.size hb5x); have a5 := (Below.refl w5.heap.size w5).alloc (Nat.le_refl _) (.cells #[.int .i64 2] 3); have V6 := vlt (ksame_any (l := [2]) (l2 := [2]) (n := 1) (m := 1) c5 1 (hi5.next a5) (inp_new [2] rfl rfl rfl) rfl rfl (by decide) (o := true) (by decide)); clear V5 hall)
    | (go_at_call 10; refine V6.out.mono ?_; rintro e w6 ⟨rfl, hb6x⟩; have hb6 := below_next hb5 hb5.size (below_next a5 a5.size hb6x); have V7 := vlt (box_any w6); clear V6)
    | (go_at_call 19; refine V7.out.mono ?_; rintro e w7 ⟨g7, rfl, ht7, hb7x⟩; have hb7 := below_next hb6 hb6.size hb7x; have a7 := (Below.refl w7.heap.size w7).alloc (Nat.le_refl _) (.cells #[.int .i64 0, .int .i64 1] 3); have V8 := vlt (kcan_any 3 2 (ht7.next a7) rfl (by decide) (inp_new [0, 1] rfl rfl rfl) rfl (by decide) 2); clear V7)
    | (go_at_call 13; refine V8.out.mono ?_; rintro e w8 ⟨l, rfl, hall, hb8x⟩; have hl := all_is 4 hall.out aw3_ok; subst hl; rw [aw3_is]; have hb8 := below_next hb7 hb7.size (below_next a7 a7.size hb8x); have V9 := vlt (box_any w8); clear V8 hall)
    | (go_at_call 19; refine V9.out.mono ?_; rintro e w9 ⟨g9, rfl, ht9, hb9x⟩; have hb9 := below_next hb8 hb8.size hb9x; have V10 := vlt (kgood_any 3 ht9 rfl (by decide) aw4_is); clear V9)
    | (go_at_call 12; refine V10.out.mono ?_; rintro e w10 ⟨rfl, hb10x⟩; clear V10))
  go_ret
  exact ⟨rfl, below_next hb9 hb9.size hb10x⟩
end Go.Proofs.Ytknmccpoheekmaa
