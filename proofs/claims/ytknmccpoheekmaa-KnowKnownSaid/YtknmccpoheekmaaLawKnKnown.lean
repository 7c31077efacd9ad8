/-
  Law KnowKnown: what chapter 18 says of what is the same, of keys of keys. Conditions: none.
-/
import Derived.Test.YtknmccpoheekmaaKnX
import Derived.Test.YtknmccpoheekmaaKnY
import Derived.Test.YtknmccpoheekmaaKnG
namespace Go.Proofs.Ytknmccpoheekmaa
open Go.RowKit


def knT : List Th := [⟨1, 0, 0, 0⟩, ⟨4, 0, 0, 5⟩, ⟨4, 0, 0, 5⟩, ⟨1, 0, 0, 0⟩, ⟨3, 1, 3, 0⟩, ⟨3, 2, 3, 0⟩, ⟨2, 4, 0, 0⟩]
set_option maxRecDepth 100000 in
theorem kk1 : sameT knT 1 2 = true := by decide +kernel
set_option maxRecDepth 100000 in
theorem kk2 : sameT knT 4 5 = true := by decide +kernel
set_option maxRecDepth 100000 in
theorem kk3 : sameT knT 0 3 = false := by decide +kernel
set_option maxRecDepth 100000 in
theorem kk4 : sameT knT 0 9 = false := by decide +kernel
set_option maxRecDepth 100000 in
theorem kk5 : kok 8 knT [6] = true := by decide +kernel
set_option maxRecDepth 100000 in
theorem kk6 : kall 8 knT [6] = [0, 1, 2, 3, 4, 5, 6] := by decide +kernel
set_option maxRecDepth 100000 in
theorem kk7 : kok 8 knT [4] = true := by decide +kernel
set_option maxRecDepth 100000 in
theorem kk8 : kall 8 knT [4] = [4, 5] := by decide +kernel
set_option maxRecDepth 100000 in
theorem kk9 : kok 8 knT [4, 2] = true := by decide +kernel
set_option maxRecDepth 100000 in
theorem kk10 : kall 8 knT [4, 2] = [1, 2, 3, 4, 5] := by decide +kernel
set_option maxRecDepth 100000 in
theorem kk11 : goodT [⟨2, 0, 0, 0⟩] = false := by decide +kernel
set_option maxRecDepth 100000 in
theorem kk12 : goodT [⟨5, 0, 0, 0⟩] = false := by decide +kernel
set_option maxRecDepth 100000 in
theorem kk13 : goodT [⟨0, 0, 0, 0⟩] = false := by decide +kernel
set_option maxRecDepth 100000 in
theorem kk14 : kok 8 knT [6] = true := by decide +kernel
set_option maxRecDepth 100000 in
theorem kk15 : decide (9 ∈ kall 8 knT [6]) = false := by decide +kernel
set_option maxRecDepth 100000 in
set_option maxHeartbeats 4000000 in
theorem walk_KnowKnown (w : World) : Calls Try.prog 3 #[] w fun e w' => e = .returned (.bool true) ∧ Below w.heap.size w w' := by
  have V0 := vlt (kawake_any w)
  go_enter Try.func3, Try.ntmps3
  go_wp2_with (first
    | (go_at_call 8; refine V0.out.mono ?_; rintro e w1 ⟨rfl, hb0⟩; have a0 := (Below.refl w1.heap.size w1).alloc (Nat.le_refl _) (.cells #[.int .i64 1, .int .i64 0, .int .i64 0, .int .i64 0, .int .i64 4, .int .i64 0, .int .i64 0, .int .i64 5, .int .i64 4, .int .i64 0, .int .i64 0, .int .i64 5, .int .i64 1, .int .i64 0, .int .i64 0, .int .i64 0, .int .i64 3, .int .i64 1, .int .i64 3, .int .i64 0, .int .i64 3, .int .i64 2, .int .i64 3, .int .i64 0, .int .i64 2, .int .i64 4, .int .i64 0, .int .i64 0] 24); have ht0 : ThP _ _ (some ⟨w1.heap.size, 0, none⟩) knT := thp_row (l := knT) (s := []) (Lib.hid (heap_alloc_new w1 (.cells #[.int .i64 1, .int .i64 0, .int .i64 0, .int .i64 0, .int .i64 4, .int .i64 0, .int .i64 0, .int .i64 5, .int .i64 4, .int .i64 0, .int .i64 0, .int .i64 5, .int .i64 1, .int .i64 0, .int .i64 0, .int .i64 0, .int .i64 3, .int .i64 1, .int .i64 3, .int .i64 0, .int .i64 3, .int .i64 2, .int .i64 3, .int .i64 0, .int .i64 2, .int .i64 4, .int .i64 0, .int .i64 0] 24))); have hb1 := below_next hb0 hb0.size a0; have V1 := vlt (kSame_any 7 ht0 rfl (by decide) 1 2 kk1); clear V0)
    | (go_at_call 9; refine V1.out.mono ?_; rintro e w2 ⟨rfl, hx2⟩; have hb2 := below_next hb1 hb1.size hx2; have ht2 := ht0.next hx2; have V2 := vlt (kSame_any 7 ht2 rfl (by decide) 4 5 kk2); clear V1)
    | (go_at_call 9; refine V2.out.mono ?_; rintro e w3 ⟨rfl, hx3⟩; have hb3 := below_next hb2 hb2.size hx3; have ht3 := ht2.next hx3; have V3 := vlt (kSame_any 7 ht3 rfl (by decide) 0 3 kk3); clear V2)
    | (go_at_call 9; refine V3.out.mono ?_; rintro e w4 ⟨rfl, hx4⟩; have hb4 := below_next hb3 hb3.size hx4; have ht4 := ht3.next hx4; have V4 := vlt (kSame_any 7 ht4 rfl (by decide) 0 9 kk4); clear V3)
    | (go_at_call 9; refine V4.out.mono ?_; rintro e w5 ⟨rfl, hx5⟩; have hb5 := below_next hb4 hb4.size hx5; have ht5 := ht4.next hx5; have a5 := (Below.refl w5.heap.size w5).alloc (Nat.le_refl _) (.cells #[.int .i64 6] 3); have V5 := vlt (kall_any 7 1 (ht5.next a5) rfl (by decide) (inp_new [6] rfl rfl rfl) rfl (by decide)); clear V4)
    | (go_at_call 11; refine V5.out.mono ?_; rintro e w6 ⟨A6, c6, l, rfl, hall, hi6, hx6⟩; have hl := all_is 8 hall.out kk5; rw [kk6] at hl; subst hl; clear hall; have hy6 := below_next a5 a5.size hx6; have hb6 := below_next hb5 hb5.size hy6; have ht6 := ht5.next hy6; have a6 := (Below.refl w6.heap.size w6).alloc (Nat.le_refl _) (.cells #[.int .i64 0, .int .i64 1, .int .i64 2, .int .i64 3, .int .i64 4, .int .i64 5, .int .i64 6] 3); have V6 := vlt (ksame_any (l := [0, 1, 2, 3, 4, 5, 6]) (l2 := [0, 1, 2, 3, 4, 5, 6]) (n := 7) (m := 7) c6 7 (hi6.next a6) (inp_new [0, 1, 2, 3, 4, 5, 6] rfl rfl rfl) rfl rfl (by decide) (o := true) (by decide)); clear V5)
    | (go_at_call 10; refine V6.out.mono ?_; rintro e w7 ⟨rfl, hx7⟩; have hy7 := below_next a6 a6.size hx7; have hb7 := below_next hb6 hb6.size hy7; have ht7 := ht6.next hy7; have a7 := (Below.refl w7.heap.size w7).alloc (Nat.le_refl _) (.cells #[.int .i64 4] 3); have V7 := vlt (kall_any 7 1 (ht7.next a7) rfl (by decide) (inp_new [4] rfl rfl rfl) rfl (by decide)); clear V6)
    | (go_at_call 11; refine V7.out.mono ?_; rintro e w8 ⟨A8, c8, l, rfl, hall, hi8, hx8⟩; have hl := all_is 8 hall.out kk7; rw [kk8] at hl; subst hl; clear hall; have hy8 := below_next a7 a7.size hx8; have hb8 := below_next hb7 hb7.size hy8; have ht8 := ht7.next hy8; have a8 := (Below.refl w8.heap.size w8).alloc (Nat.le_refl _) (.cells #[.int .i64 4, .int .i64 5] 3); have V8 := vlt (ksame_any (l := [4, 5]) (l2 := [4, 5]) (n := 2) (m := 2) c8 2 (hi8.next a8) (inp_new [4, 5] rfl rfl rfl) rfl rfl (by decide) (o := true) (by decide)); clear V7)
    | (go_at_call 10; refine V8.out.mono ?_; rintro e w9 ⟨rfl, hx9⟩; have hy9 := below_next a8 a8.size hx9; have hb9 := below_next hb8 hb8.size hy9; have ht9 := ht8.next hy9; have a9 := (Below.refl w9.heap.size w9).alloc (Nat.le_refl _) (.cells #[.int .i64 4, .int .i64 2] 3); have V9 := vlt (kall_any 7 2 (ht9.next a9) rfl (by decide) (inp_new [4, 2] rfl rfl rfl) rfl (by decide)); clear V8)
    | (go_at_call 11; refine V9.out.mono ?_; rintro e w10 ⟨A10, c10, l, rfl, hall, hi10, hx10⟩; have hl := all_is 8 hall.out kk9; rw [kk10] at hl; subst hl; clear hall; have hy10 := below_next a9 a9.size hx10; have hb10 := below_next hb9 hb9.size hy10; have ht10 := ht9.next hy10; have a10 := (Below.refl w10.heap.size w10).alloc (Nat.le_refl _) (.cells #[.int .i64 1, .int .i64 2, .int .i64 3, .int .i64 4, .int .i64 5] 3); have V10 := vlt (ksame_any (l := [1, 2, 3, 4, 5]) (l2 := [1, 2, 3, 4, 5]) (n := 5) (m := 5) c10 5 (hi10.next a10) (inp_new [1, 2, 3, 4, 5] rfl rfl rfl) rfl rfl (by decide) (o := true) (by decide)); clear V9)
    | (go_at_call 10; refine V10.out.mono ?_; rintro e w11 ⟨rfl, hx11⟩; have hy11 := below_next a10 a10.size hx11; have hb11 := below_next hb10 hb10.size hy11; have ht11 := ht10.next hy11; have V11 := vlt (kall_any (A2 := none) (known := []) 7 0 ht11 rfl (by decide) (.inl rfl) rfl (by decide)); clear V10)
    | (go_at_call 11; refine V11.out.mono ?_; rintro e w12 ⟨A12, c12, l, rfl, hall, hi12, hx12⟩; have hl := know_none hall.out; subst hl; clear hall; have hb12 := below_next hb11 hb11.size hx12; have ht12 := ht11.next hx12; have a12 := (Below.refl w12.heap.size w12).alloc (Nat.le_refl _) (.cells #[.int .i64 2, .int .i64 0, .int .i64 0, .int .i64 0] 24); have V12 := vlt (kgood_any 1 (thp_row (l := [⟨2, 0, 0, 0⟩]) (s := []) (Lib.hid (heap_alloc_new w12 (.cells #[.int .i64 2, .int .i64 0, .int .i64 0, .int .i64 0] 24)))) rfl (by decide) kk11); clear V11)
    | (go_at_call 12; refine V12.out.mono ?_; rintro e w13 ⟨rfl, hx13⟩; have hy13 := below_next a12 a12.size hx13; have hb13 := below_next hb12 hb12.size hy13; have ht13 := ht12.next hy13; have a13 := (Below.refl w13.heap.size w13).alloc (Nat.le_refl _) (.cells #[.int .i64 5, .int .i64 0, .int .i64 0, .int .i64 0] 24); have V13 := vlt (kgood_any 1 (thp_row (l := [⟨5, 0, 0, 0⟩]) (s := []) (Lib.hid (heap_alloc_new w13 (.cells #[.int .i64 5, .int .i64 0, .int .i64 0, .int .i64 0] 24)))) rfl (by decide) kk12); clear V12)
    | (go_at_call 12; refine V13.out.mono ?_; rintro e w14 ⟨rfl, hx14⟩; have hy14 := below_next a13 a13.size hx14; have hb14 := below_next hb13 hb13.size hy14; have ht14 := ht13.next hy14; have a14 := (Below.refl w14.heap.size w14).alloc (Nat.le_refl _) (.cells #[.int .i64 0, .int .i64 0, .int .i64 0, .int .i64 0] 24); have a9 := (Below.refl (w14.alloc (.cells #[.int .i64 0, .int .i64 0, .int .i64 0, .int .i64 0] 24)).heap.size (w14.alloc (.cells #[.int .i64 0, .int .i64 0, .int .i64 0, .int .i64 0] 24))).alloc (Nat.le_refl _) (.cells #[.int .i64 0] 3); have a10 := below_next a14 a14.size a9; have V14 := vlt (kall_any 1 1 ((thp_row (l := [⟨0, 0, 0, 0⟩]) (s := []) (Lib.hid (heap_alloc_new w14 (.cells #[.int .i64 0, .int .i64 0, .int .i64 0, .int .i64 0] 24)))).next a9) rfl (by decide) (inp_new (g := w14.heap.size + 1) [0] rfl (World.size_alloc _ _).symm rfl) rfl (by decide)); clear V13)
    | (go_at_call 11; refine V14.out.mono ?_; rintro e w15 ⟨A15, c15, l, rfl, hall, hi15, hx15⟩; have hl := hall.out.bad kk13; subst hl; clear hall; have hy15 := below_next a10 a10.size hx15; have hb15 := below_next hb14 hb14.size hy15; have ht15 := ht14.next hy15; have a15 := (Below.refl w15.heap.size w15).alloc (Nat.le_refl _) (.cells #[.int .i64 6] 3); have V15 := vlt (kcan_any 7 1 (ht15.next a15) rfl (by decide) (inp_new [6] rfl rfl rfl) rfl (by decide) 9); clear V14)
    | (go_at_call 13; refine V15.out.mono ?_; rintro e w16 ⟨l, rfl, hall, hx16⟩; have hl := all_is 8 hall.out kk14; subst hl; rw [kk15]; clear hall; have hy16 := below_next a15 a15.size hx16; have hb16 := below_next hb15 hb15.size hy16; clear V15))
  go_ret
  exact ⟨rfl, hb16⟩
end Go.Proofs.Ytknmccpoheekmaa
