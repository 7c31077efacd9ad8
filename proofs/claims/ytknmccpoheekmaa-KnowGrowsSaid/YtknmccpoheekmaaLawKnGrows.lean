/-
  Law KnowGrows: who knows more can know no less; knowing all that one can know tells nothing more. Conditions: none.
-/
import Derived.Test.YtknmccpoheekmaaKnX
import Derived.Test.YtknmccpoheekmaaKnP
import Derived.Test.YtknmccpoheekmaaKnQ
namespace Go.Proofs.Ytknmccpoheekmaa
open Go.RowKit

set_option maxRecDepth 100000 in
set_option maxHeartbeats 4000000 in
theorem walk_KnowGrows (w : World) (A : Option Addr) (t : List Th) (n c : Nat) (ht : ThP w w.heap.size A t) (et : t.length = n) (_ : n ≤ c) (A2 : Option Addr) (a : List Int) (n2 c2 : Nat) (ha : InP w w.heap.size A2 a) (ea : a.length = n2) (_ : n2 ≤ c2) (A3 : Option Addr) (b : List Int) (n3 c3 : Nat) (hb : InP w w.heap.size A3 b) (eb : b.length = n3) (_ : n3 ≤ c3) :
    Calls Try.prog 5 #[.slice A n c, .slice A2 n2 c2, .slice A3 n3 c3] w fun e w' => e = .returned (.bool true) ∧ Below w.heap.size w w' := by
  have V0 := vlt (kawake_any w)
  have HT := Lib.hid et
  have HA := Lib.hid ea
  have HB := Lib.hid eb
  clear et ea eb
  by_cases h1 : n ≤ 60
  case neg =>
    have z1 : (60 : Int) < (n : Int) := by omega
    clear ht ha hb
    go_enter Try.func5, Try.ntmps5
    go_wp2_with (go_at_call 8; refine V0.out.mono ?_; rintro e w1 ⟨rfl, hb0⟩; clear V0)
    go_ret
    exact ⟨rfl, hb0⟩
  have z1 : ¬ (60 : Int) < (n : Int) := by omega
  by_cases h2 : n2 ≤ 60
  case neg =>
    have z2 : (60 : Int) < (n2 : Int) := by omega
    clear ht ha hb
    go_enter Try.func5, Try.ntmps5
    go_wp2_with (go_at_call 8; refine V0.out.mono ?_; rintro e w1 ⟨rfl, hb0⟩; clear V0)
    go_ret
    exact ⟨rfl, hb0⟩
  have z2 : ¬ (60 : Int) < (n2 : Int) := by omega
  by_cases h3 : n3 ≤ 60
  case neg =>
    have z3 : (60 : Int) < (n3 : Int) := by omega
    clear ht ha hb
    go_enter Try.func5, Try.ntmps5
    go_wp2_with (go_at_call 8; refine V0.out.mono ?_; rintro e w1 ⟨rfl, hb0⟩; clear V0)
    go_ret
    exact ⟨rfl, hb0⟩
  have z3 : ¬ (60 : Int) < (n3 : Int) := by omega
  obtain ⟨o, ho⟩ : ∃ o, goodT t = o := ⟨_, rfl⟩
  cases o with
  | false =>
    clear ha hb
    go_enter Try.func5, Try.ntmps5
    go_wp2_with (first
      | (go_at_call 8; refine V0.out.mono ?_; rintro e w1 ⟨rfl, hb0⟩; have V1 := vlt (kgood_any c (ht.next hb0) HT.out (by omega) ho); clear V0)
      | (go_at_call 12; refine V1.out.mono ?_; rintro e w2 ⟨rfl, hx2⟩; have hb2 := below_next hb0 hb0.size hx2; clear V1))
    go_ret
    exact ⟨rfl, hb2⟩
  | true =>
    have HO := vlt ho
    clear ho
    go_enter Try.func5, Try.ntmps5
    go_upto_region 6 with (first
      | (go_at_call 8; refine V0.out.mono ?_; rintro e w1 ⟨rfl, hb0⟩; have V1 := vlt (kgood_any c (ht.next hb0) HT.out (by omega) HO.out); clear V0)
      | (go_at_call 12; refine V1.out.mono ?_; rintro e w2 ⟨rfl, hx2⟩; have hb2 := below_next hb0 hb0.size hx2; have ht2 := ht.next hb2; have ha2 := ha.next hb2; have V2 := vlt (kall_any c c2 ht2 HT.out (by omega) ha2 HA.out (by omega)); clear V1)
      | (go_at_call 11; refine V2.out.mono ?_; rintro e w3 ⟨A4, c4, x, rfl, hall, hx, hx3⟩; clear V2))
    have hb3 := below_next hb2 hb2.size hx3
    obtain ⟨nx, hnx⟩ : ∃ m, List.length x = m := ⟨_, rfl⟩
    have hfew := all_few hall.out
    rw [hnx] at hfew
    have HX := Lib.hid hnx
    rw [hnx]
    clear hnx
    -- a and b as one
    have b0 : Below w3.heap.size w3 (w3.alloc (.cells #[] 3)) := (Below.refl _ _).alloc (Nat.le_refl _) _
    obtain ⟨A5, c5, w4, hr4, ho4, hb4⟩ := iwo_app (iwo_made w3) (by rw [World.size_alloc]; omega) c2 ((ha.next hb3).next b0) HA.out (by omega)
    have b4 := b0.trans hb4
    obtain ⟨A6, c6, w5, hr5, ho5, hb5⟩ := iwo_app ho4 b4.size c3 ((hb.next hb3).next b4) HB.out (by omega)
    have b5 := b4.trans hb5
    rw [List.nil_append] at ho5
    have R4 := vlt hr4
    have R5 := vlt hr5
    have hb6 := below_next hb3 hb3.size b5
    have ht5 := ht.next hb6
    have hx5 := hx.next b5
    have hi5 := ho5.inp
    have HL := Lib.hid ho5.len
    rw [Nat.zero_add] at R4 R5 HL
    have V3 := vlt (kall_any c c6 ht5 HT.out (by omega) hi5 HL.out (by omega))
    clear hr4 hr5 ho4 ho5 hb4 hb5 b0 b4 hi5
    go_upto_region 7 with (first
      | (at_builtin; refine Lib.wpList_append_run _ rfl _ _ _ _ rfl _ _ rfl rfl _ _ R4.out ?_; clear R4)
      | (at_builtin; refine Lib.wpList_append_run _ rfl _ _ _ _ rfl _ _ rfl rfl _ _ R5.out ?_; clear R5)
      | (go_at_call 11; refine V3.out.mono ?_; rintro e w6 ⟨A7, c7, y, rfl, hally, hy, hx6⟩; clear V3))
    have hb7 := below_next hb6 hb6.size hx6
    have ht6 := ht5.next hx6
    have hx6' := hx5.next hx6
    have hfy := all_few hally.out
    obtain ⟨ny, hny⟩ : ∃ m, List.length y = m := ⟨_, rfl⟩
    rw [hny] at hfy
    have HY := Lib.hid hny
    rw [hny]
    clear hny
    go_wp2
    go_loopg [9] nx (fun k s9 wr => ∃ (i : Nat), s9 = .int .i64 i ∧ nx - i < k + 1 ∧ i ≤ nx ∧ Below w6.heap.size w6 wr)
    case atStart => exact ⟨0, rfl, by omega, Nat.zero_le _, Below.refl _ _⟩
    case round =>
      obtain ⟨i, rfl, hk, hin, hbr⟩ := hrel
      by_cases hlt : i < nx
      · have hltz : (i : Int) < (nx : Int) := by omega
        obtain ⟨g, o, v, rfl, hg, HV, cc⟩ := (hx6'.next hbr).at_ (i := i) (by rw [HX.out]; omega)
        have V4 := vlt (khas_any (o := true) c7 (hy.next hbr) HY.out (by omega) v (decide_eq_true (know_more hall.out hally.out _ (List.mem_of_getElem? HV.out))))
        go_wp2_with (go_at_call 16; refine V4.out.mono ?_; rintro e w7 ⟨rfl, hx7⟩; clear V4)
        go_roundg (nx - (i + 1))
        case measure => omega
        case rel => exact ⟨i + 1, by go_num, by omega, by omega, below_next hbr hbr.size hx7⟩
      · have hltz : ¬ (i : Int) < (nx : Int) := by omega
        have hb8 := below_next hb7 hb7.size hbr
        have ht8 := ht6.next hbr
        have hx8 := hx6'.next hbr
        have hself : Vlt (AllIs t x x) := vlt (by
          obtain ⟨l, hl⟩ := all_there t x
          have e := know_again hall.out hl
          rwa [e] at hl)
        have V5 := vlt (kall_at c c4 ht8 HT.out (by omega) hx8 HX.out (by omega) hself.out HX.out)
        go_wp2_with (first
          | (go_at_call 11; refine V5.out.mono ?_; rintro e w8 ⟨A8, c8, rfl, hi8, hx9⟩; have hb9 := below_next hb8 hb8.size hx9; have ht9 := ht8.next hx9; have V6 := vlt (ksame_any c8 c4 (o := true) hi8 (hx8.next hx9) HX.out HX.out (by omega) (decide_eq_true rfl)); clear V5)
          | (go_at_call 10; refine V6.out.mono ?_; rintro e w9 ⟨rfl, hx10⟩; have hb10 := below_next hb9 hb9.size hx10; have V7 := vlt (kall_any (A2 := none) (known := []) c 0 (ht9.next hx10) HT.out (by omega) (.inl rfl) rfl (by decide)); clear V6)
          | (go_at_call 11; refine V7.out.mono ?_; rintro e w10 ⟨A9, c9, z, rfl, hall3, hi10, hx11⟩; have hl := know_none hall3.out; subst hl; clear hall3; have hb11 := below_next hb10 hb10.size hx11; clear V7))
        go_ret
        exact ⟨rfl, hb11⟩
end Go.Proofs.Ytknmccpoheekmaa
