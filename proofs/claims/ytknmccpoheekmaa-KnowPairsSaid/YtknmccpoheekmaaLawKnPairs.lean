/-
  Law KnowPairs: who knows two things knows them as a pair, and the other way. Conditions: none.
-/
import Derived.Test.YtknmccpoheekmaaKnX
import Derived.Test.YtknmccpoheekmaaKnY
import Derived.Test.YtknmccpoheekmaaKnP
import Derived.Test.YtknmccpoheekmaaKnH
import Derived.Test.YtknmccpoheekmaaKnQ
namespace Go.Proofs.Ytknmccpoheekmaa
open Go.RowKit

def prT (a b : Int) : List Th := [⟨2, a, b, 0⟩, ⟨4, a, 0, 77⟩]
theorem pr_good {t : List Th} {a b : Int} {n : Nat} (hg : goodT t = true) (hl : t.length = n) (hn : n ≤ 50) (ha0 : 0 ≤ a) (hb0 : 0 ≤ b) (ha : a < (n : Int)) (hb : b < (n : Int)) : goodT (t ++ prT a b) = true := by
  rw [goodT, Bool.and_eq_true] at hg
  rw [goodT, goodFrom_app, hg.2, Bool.and_eq_true, decide_eq_true_iff, Nat.zero_add, hl]
  refine ⟨by simp [prT, hl]; omega, ?_⟩
  have e : ∀ q : Nat, n ≤ q → below a (q : Int) = true ∧ below b (q : Int) = true := fun q hq => ⟨by rw [below, decide_eq_true ha0, decide_eq_true (by omega)]; rfl, by rw [below, decide_eq_true hb0, decide_eq_true (by omega)]; rfl⟩
  simp only [prT, goodFrom, fitsT, (e n (Nat.le_refl _)).1, (e n (Nat.le_refl _)).2, (e (n + 1) (by omega)).1]
  simp
theorem pr_at {t : List Th} {a b : Int} {n : Nat} (hl : t.length = n) : (t ++ prT a b)[n]? = some ⟨2, a, b, 0⟩ ∧ (t ++ prT a b)[n + 1]? = some ⟨4, a, 0, 77⟩ := by
  subst hl
  constructor
  · rw [List.getElem?_append_right (Nat.le_refl _), Nat.sub_self]; rfl
  · rw [List.getElem?_append_right (by omega), show t.length + 1 - t.length = 1 by omega]; rfl
section
variable {t : List Th} {a b : Int} {n : Nat} {known l : List Int} (hg : goodT (t ++ prT a b) = true) (hl : t.length = n) (h : AllIs (t ++ prT a b) known l)
include hg hl h
theorem pr_both (ha : a ∈ l) (hb : b ∈ l) : (n : Int) ∈ l := know_made hg h (pr_at hl).1 (.inl rfl) ha hb
theorem pr_key (ha : a ∈ l) : (n : Int) + 1 ∈ l := by
  have := know_key hg h (pr_at hl).2 rfl ha
  simpa using this
theorem pr_split (ho : (n : Int) ∈ l) : a ∈ l ∧ b ∈ l := know_split hg h (pr_at hl).1 rfl ho
theorem pr_own (hk : (n : Int) ∈ known) : (n : Int) ∈ l := know_own hg h hk (by rw [below, decide_eq_true (by omega), decide_eq_true (by simp [prT, hl]; omega)]; rfl)
end
theorem pr_same {t : List Th} {a b : Int} {n : Nat} (hg : goodT (t ++ prT a b) = true) (hl : t.length = n) : sameT (t ++ prT a b) n n = true := by
  rw [sameT, hg, show below (n : Int) ((t ++ prT a b).length : Int) = true by rw [below, decide_eq_true (by omega), decide_eq_true (by simp [prT, hl]; omega)]; rfl]
  simp
set_option maxRecDepth 100000 in
set_option maxHeartbeats 4000000 in
theorem walk_KnowPairs (w : World) (A : Option Addr) (t : List Th) (n c : Nat) (ht : ThP w w.heap.size A t) (et : t.length = n) (_ : n ≤ c) (a : Int) (_ : (Lit.int .i64 a).wf = true) (b : Int) (_ : (Lit.int .i64 b).wf = true) (A2 : Option Addr) (kn : List Int) (m c2 : Nat) (hk : InP w w.heap.size A2 kn) (ek : kn.length = m) (_ : m ≤ c2) :
    Calls Try.prog 7 #[.slice A n c, .int .i64 a, .int .i64 b, .slice A2 m c2] w fun e w' => e = .returned (.bool true) ∧ Below w.heap.size w w' := by
  have V0 := vlt (kawake_any w)
  have HT := Lib.hid et
  have HK := Lib.hid ek
  clear et ek
  by_cases h1 : n ≤ 50
  case neg =>
    have zz : (50 : Int) < (n : Int) := by omega
    clear hk ht
    go_enter Try.func7, Try.ntmps7
    go_wp2_with (go_at_call 8; refine V0.out.mono ?_; rintro e w1 ⟨rfl, hb0⟩; clear V0)
    go_ret
    exact ⟨rfl, hb0⟩
  have z1 : ¬ (50 : Int) < (n : Int) := by omega
  by_cases h2 : m ≤ 50
  case neg =>
    have zz : (50 : Int) < (m : Int) := by omega
    clear hk ht
    go_enter Try.func7, Try.ntmps7
    go_wp2_with (go_at_call 8; refine V0.out.mono ?_; rintro e w1 ⟨rfl, hb0⟩; clear V0)
    go_ret
    exact ⟨rfl, hb0⟩
  have z2 : ¬ (50 : Int) < (m : Int) := by omega
  obtain ⟨o, ho⟩ : ∃ o, goodT t = o := ⟨_, rfl⟩
  have HO := vlt ho
  cases o with
  | false =>
    clear hk ho
    go_enter Try.func7, Try.ntmps7
    go_wp2_with (first
      | (go_at_call 8; refine V0.out.mono ?_; rintro e w1 ⟨rfl, hb0⟩; clear V0; have V1 := vlt (kgood_any c (ht.next hb0) HT.out (by omega) HO.out))
      | (go_at_call 12; refine V1.out.mono ?_; rintro e w2 ⟨rfl, hx2⟩; have hb2 := below_next hb0 hb0.size hx2; clear V1))
    go_ret
    exact ⟨rfl, hb2⟩
  | true =>
  clear ho
  by_cases h3 : 0 ≤ a
  case neg =>
    have zz : a < (0 : Int) := by omega
    clear hk
    go_enter Try.func7, Try.ntmps7
    go_wp2_with (first
      | (go_at_call 8; refine V0.out.mono ?_; rintro e w1 ⟨rfl, hb0⟩; clear V0; have V1 := vlt (kgood_any c (ht.next hb0) HT.out (by omega) HO.out))
      | (go_at_call 12; refine V1.out.mono ?_; rintro e w2 ⟨rfl, hx2⟩; have hb2 := below_next hb0 hb0.size hx2; clear V1))
    go_ret
    exact ⟨rfl, hb2⟩
  have z3 : ¬ a < (0 : Int) := by omega
  by_cases h4 : 0 ≤ b
  case neg =>
    have zz : b < (0 : Int) := by omega
    clear hk
    go_enter Try.func7, Try.ntmps7
    go_wp2_with (first
      | (go_at_call 8; refine V0.out.mono ?_; rintro e w1 ⟨rfl, hb0⟩; clear V0; have V1 := vlt (kgood_any c (ht.next hb0) HT.out (by omega) HO.out))
      | (go_at_call 12; refine V1.out.mono ?_; rintro e w2 ⟨rfl, hx2⟩; have hb2 := below_next hb0 hb0.size hx2; clear V1))
    go_ret
    exact ⟨rfl, hb2⟩
  have z4 : ¬ b < (0 : Int) := by omega
  by_cases h5 : a < (n : Int)
  case neg =>
    have zz : (n : Int) ≤ a := by omega
    clear hk
    go_enter Try.func7, Try.ntmps7
    go_wp2_with (first
      | (go_at_call 8; refine V0.out.mono ?_; rintro e w1 ⟨rfl, hb0⟩; clear V0; have V1 := vlt (kgood_any c (ht.next hb0) HT.out (by omega) HO.out))
      | (go_at_call 12; refine V1.out.mono ?_; rintro e w2 ⟨rfl, hx2⟩; have hb2 := below_next hb0 hb0.size hx2; clear V1))
    go_ret
    exact ⟨rfl, hb2⟩
  have z5 : ¬ (n : Int) ≤ a := by omega
  by_cases h6 : b < (n : Int)
  case neg =>
    have zz : (n : Int) ≤ b := by omega
    clear hk
    go_enter Try.func7, Try.ntmps7
    go_wp2_with (first
      | (go_at_call 8; refine V0.out.mono ?_; rintro e w1 ⟨rfl, hb0⟩; clear V0; have V1 := vlt (kgood_any c (ht.next hb0) HT.out (by omega) HO.out))
      | (go_at_call 12; refine V1.out.mono ?_; rintro e w2 ⟨rfl, hx2⟩; have hb2 := below_next hb0 hb0.size hx2; clear V1))
    go_ret
    exact ⟨rfl, hb2⟩
  have z6 : ¬ (n : Int) ≤ b := by omega
  have hg := pr_good HO.out HT.out h1 h3 h4 h5 h6
  obtain ⟨l, hl⟩ := all_there (t ++ prT a b) kn
  obtain ⟨l2, hl2⟩ := all_there (t ++ prT a b) (kn ++ [(n : Int)])
  have hn2 := pr_own hg HT.out hl2 (by simp)
  have hs2 := pr_split hg HT.out hl2 hn2
  have F2 : Vlt (decide (a ∈ l2) = true ∧ decide (b ∈ l2) = true ∧ sameT (t ++ prT a b) n n = true) := vlt ⟨decide_eq_true hs2.1, decide_eq_true hs2.2, pr_same hg HT.out⟩
  have HL := vlt hl
  have HL2 := vlt hl2
  have Fm := vlt (pr_both hg HT.out hl)
  have Fk := vlt (pr_key hg HT.out hl)
  have HU := Lib.hid (show (t ++ prT a b).length = n + 2 by simp [prT, HT.out])
  have HK2 := Lib.hid (show (kn ++ [(n : Int)]).length = m + 1 by simp [HK.out])
  clear hg hl hl2 hn2 hs2 z3 z4 z5 z6
  have z3 : ¬ a < (0 : Int) := by omega
  have z4 : ¬ b < (0 : Int) := by omega
  have z5 : ¬ (n : Int) ≤ a := by omega
  have z6 : ¬ (n : Int) ≤ b := by omega
  go_enter Try.func7, Try.ntmps7
  go_upto_region 5 with (first
    | (go_at_call 8; refine V0.out.mono ?_; rintro e w1 ⟨rfl, hb0⟩; clear V0; have V1 := vlt (kgood_any c (ht.next hb0) HT.out (by omega) HO.out))
    | (go_at_call 12; refine V1.out.mono ?_; rintro e w2 ⟨rfl, hx2⟩; have hb2 := below_next hb0 hb0.size hx2; clear V1))
  have b0 : Below w2.heap.size w2 (w2.alloc (.cells #[] 24)) := (Below.refl _ _).alloc (Nat.le_refl _) _
  obtain ⟨A5, c5, w4, hr4, ho4, hb4⟩ := two_app (two_made w2) (by rw [World.size_alloc]; omega) c ((ht.next hb2).next b0) HT.out (by omega)
  have b4 := b0.trans hb4
  have b4' := b4.alloc b4.size (.cells #[.int .i64 2, .int .i64 a, .int .i64 b, .int .i64 0, .int .i64 4, .int .i64 a, .int .i64 0, .int .i64 77] 24)
  have hp4 : ThP (w4.alloc (.cells #[.int .i64 2, .int .i64 a, .int .i64 b, .int .i64 0, .int .i64 4, .int .i64 a, .int .i64 0, .int .i64 77] 24)) (w4.alloc (.cells #[.int .i64 2, .int .i64 a, .int .i64 b, .int .i64 0, .int .i64 4, .int .i64 a, .int .i64 0, .int .i64 77] 24)).heap.size (some ⟨w4.heap.size, 0, none⟩) (prT a b) := thp_row (l := prT a b) (s := []) (Lib.hid (heap_alloc_new w4 (.cells #[.int .i64 2, .int .i64 a, .int .i64 b, .int .i64 0, .int .i64 4, .int .i64 a, .int .i64 0, .int .i64 77] 24)))
  obtain ⟨A6, c6, w5, hr5, ho5, hb5⟩ := two_app (m := 2) (ho4.alloc (.cells #[.int .i64 2, .int .i64 a, .int .i64 b, .int .i64 0, .int .i64 4, .int .i64 a, .int .i64 0, .int .i64 77] 24)) b4'.size 2 hp4 rfl (by omega)
  have b5 := b4'.trans hb5
  rw [List.nil_append] at ho5
  have R4 := vlt hr4
  have R5 := vlt hr5
  rw [Nat.zero_add] at R4 R5
  have hb6 := below_next hb2 hb2.size b5
  have ht5 := ho5.thp
  have hk5 := hk.next hb6
  clear hr4 hr5 ho4 ho5 hb4 hb5 b0 b4 b4' hp4
  go_upto_region 7 with (first
    | (at_builtin; refine Lib.wpList_append_run _ rfl _ _ _ _ rfl _ _ rfl rfl _ _ R4.out ?_; clear R4)
    | (at_builtin; refine Lib.wpList_append_run _ rfl _ _ _ _ rfl _ _ rfl rfl _ _ R5.out ?_; clear R5))
  by_cases ha : a ∈ l
  · have Oa := vlt (decide_eq_true ha)
    have Op := vlt (decide_eq_true (Fk.out ha))
    by_cases hb : b ∈ l
    · have Ob := vlt (decide_eq_true hb)
      have On := vlt (decide_eq_true (Fm.out ha hb))
      clear Fm Fk ha hb
      have V2 := vlt (kcan_at c6 c2 ht5 HU.out (by omega) hk5 HK.out (by omega) HL.out a Oa.out)
      go_upto_region 9 with (first
          | (go_at_call 13; refine V2.out.mono ?_; rintro e w6 ⟨rfl, hx6⟩; have hb7 := below_next hb6 hb6.size hx6; have ht6 := ht5.next hx6; have hk6 := hk5.next hx6; have V3 := vlt (kcan_at c6 c2 ht6 HU.out (by omega) hk6 HK.out (by omega) HL.out b Ob.out); clear V2)
          | (go_at_call 13; refine V3.out.mono ?_; rintro e w7 ⟨rfl, hx7⟩; have hb8 := below_next hb7 hb7.size hx7; have ht7 := ht6.next hx7; have hk7 := hk6.next hx7; have V4 := vlt (kcan_at c6 c2 ht7 HU.out (by omega) hk7 HK.out (by omega) HL.out (n : Int) On.out); clear V3)
          | (go_at_call 13; refine V4.out.mono ?_; rintro e w8 ⟨rfl, hx8⟩; have hb9 := below_next hb8 hb8.size hx8; have ht8 := ht7.next hx8; have hk8 := hk7.next hx8; have V5 := vlt (kcan_at c6 c2 ht8 HU.out (by omega) hk8 HK.out (by omega) HL.out a Oa.out); clear V4)
          | (go_at_call 13; refine V5.out.mono ?_; rintro e w9 ⟨rfl, hx9⟩; have hb10 := below_next hb9 hb9.size hx9; have ht9 := ht8.next hx9; have hk9 := hk8.next hx9; have V6 := vlt (kcan_at c6 c2 ht9 HU.out (by omega) hk9 HK.out (by omega) HL.out ((n : Int) + 1) Op.out); clear V5)
          | (go_at_call 13; refine V6.out.mono ?_; rintro e w10 ⟨rfl, hx10⟩; have hb11 := below_next hb10 hb10.size hx10; have ht10 := ht9.next hx10; have hk10 := hk9.next hx10; clear V6))
      have b0 : Below w10.heap.size w10 (w10.alloc (.cells #[] 3)) := (Below.refl _ _).alloc (Nat.le_refl _) _
      obtain ⟨A7, c7, y4, hr4, ho4, hb4⟩ := iwo_app (iwo_made w10) (by rw [World.size_alloc]; omega) c2 (hk10.next b0) HK.out (by omega)
      have b4 := b0.trans hb4
      obtain ⟨A8, c8, y5, hr5, ho5, hb5⟩ := iwo_push ho4 b4.size (by omega) (n : Int)
      have b5 := b4.trans hb5
      rw [List.nil_append] at ho5
      have R4 := vlt hr4
      have R5 := vlt hr5
      rw [Nat.zero_add] at R4 R5
      have hbz := below_next hb11 hb11.size b5
      have htz := ht10.next b5
      have hkz := ho5.inp
      have V9 := vlt (kcan_at c6 c8 htz HU.out (by omega) hkz HK2.out (by omega) HL2.out a F2.out.1)
      clear hr4 hr5 ho4 ho5 hb4 hb5 b0 b4 b5
      go_wp2_with (first
        | (at_builtin; refine Lib.wpList_append_run _ rfl _ _ _ _ rfl _ _ rfl rfl _ _ R4.out ?_; clear R4)
        | (at_builtin; refine Lib.wpList_append_run _ rfl _ _ _ _ rfl _ _ rfl rfl _ _ R5.out ?_; clear R5)
        | (go_at_call 13; refine V9.out.mono ?_; rintro e w20 ⟨rfl, hx20⟩; have hb20 := below_next hbz hbz.size hx20; have ht20 := htz.next hx20; have V10 := vlt (kcan_at c6 c8 ht20 HU.out (by omega) (hkz.next hx20) HK2.out (by omega) HL2.out b F2.out.2.1); clear V9)
        | (go_at_call 13; refine V10.out.mono ?_; rintro e w21 ⟨rfl, hx21⟩; have hb21 := below_next hb20 hb20.size hx21; have V11 := vlt (kSame_any c6 (ht20.next hx21) HU.out (by omega) n n F2.out.2.2); clear V10)
        | (go_at_call 9; refine V11.out.mono ?_; rintro e w22 ⟨rfl, hx22⟩; have hb22 := below_next hb21 hb21.size hx22; clear V11))
      go_ret
      exact ⟨rfl, hb22⟩
    · have Ob := vlt (decide_eq_false hb)
      clear Fm Fk ha hb
      have V2 := vlt (kcan_at c6 c2 ht5 HU.out (by omega) hk5 HK.out (by omega) HL.out a Oa.out)
      go_upto_region 9 with (first
          | (go_at_call 13; refine V2.out.mono ?_; rintro e w6 ⟨rfl, hx6⟩; have hb7 := below_next hb6 hb6.size hx6; have ht6 := ht5.next hx6; have hk6 := hk5.next hx6; have V3 := vlt (kcan_at c6 c2 ht6 HU.out (by omega) hk6 HK.out (by omega) HL.out b Ob.out); clear V2)
          | (go_at_call 13; refine V3.out.mono ?_; rintro e w7 ⟨rfl, hx7⟩; have hb8 := below_next hb7 hb7.size hx7; have ht7 := ht6.next hx7; have hk7 := hk6.next hx7; have V4 := vlt (kcan_at c6 c2 ht7 HU.out (by omega) hk7 HK.out (by omega) HL.out a Oa.out); clear V3)
          | (go_at_call 13; refine V4.out.mono ?_; rintro e w8 ⟨rfl, hx8⟩; have hb9 := below_next hb8 hb8.size hx8; have ht8 := ht7.next hx8; have hk8 := hk7.next hx8; have V5 := vlt (kcan_at c6 c2 ht8 HU.out (by omega) hk8 HK.out (by omega) HL.out ((n : Int) + 1) Op.out); clear V4)
          | (go_at_call 13; refine V5.out.mono ?_; rintro e w9 ⟨rfl, hx9⟩; have hb10 := below_next hb9 hb9.size hx9; have ht9 := ht8.next hx9; have hk9 := hk8.next hx9; clear V5))
      have b0 : Below w9.heap.size w9 (w9.alloc (.cells #[] 3)) := (Below.refl _ _).alloc (Nat.le_refl _) _
      obtain ⟨A7, c7, y4, hr4, ho4, hb4⟩ := iwo_app (iwo_made w9) (by rw [World.size_alloc]; omega) c2 (hk9.next b0) HK.out (by omega)
      have b4 := b0.trans hb4
      obtain ⟨A8, c8, y5, hr5, ho5, hb5⟩ := iwo_push ho4 b4.size (by omega) (n : Int)
      have b5 := b4.trans hb5
      rw [List.nil_append] at ho5
      have R4 := vlt hr4
      have R5 := vlt hr5
      rw [Nat.zero_add] at R4 R5
      have hbz := below_next hb10 hb10.size b5
      have htz := ht9.next b5
      have hkz := ho5.inp
      have V9 := vlt (kcan_at c6 c8 htz HU.out (by omega) hkz HK2.out (by omega) HL2.out a F2.out.1)
      clear hr4 hr5 ho4 ho5 hb4 hb5 b0 b4 b5
      go_wp2_with (first
        | (at_builtin; refine Lib.wpList_append_run _ rfl _ _ _ _ rfl _ _ rfl rfl _ _ R4.out ?_; clear R4)
        | (at_builtin; refine Lib.wpList_append_run _ rfl _ _ _ _ rfl _ _ rfl rfl _ _ R5.out ?_; clear R5)
        | (go_at_call 13; refine V9.out.mono ?_; rintro e w20 ⟨rfl, hx20⟩; have hb20 := below_next hbz hbz.size hx20; have ht20 := htz.next hx20; have V10 := vlt (kcan_at c6 c8 ht20 HU.out (by omega) (hkz.next hx20) HK2.out (by omega) HL2.out b F2.out.2.1); clear V9)
        | (go_at_call 13; refine V10.out.mono ?_; rintro e w21 ⟨rfl, hx21⟩; have hb21 := below_next hb20 hb20.size hx21; have V11 := vlt (kSame_any c6 (ht20.next hx21) HU.out (by omega) n n F2.out.2.2); clear V10)
        | (go_at_call 9; refine V11.out.mono ?_; rintro e w22 ⟨rfl, hx22⟩; have hb22 := below_next hb21 hb21.size hx22; clear V11))
      go_ret
      exact ⟨rfl, hb22⟩
  · have Oa := vlt (decide_eq_false ha)
    clear Fm Fk ha
    have V2 := vlt (kcan_at c6 c2 ht5 HU.out (by omega) hk5 HK.out (by omega) HL.out a Oa.out)
    go_upto_region 9 with (first
        | (go_at_call 13; refine V2.out.mono ?_; rintro e w6 ⟨rfl, hx6⟩; have hb7 := below_next hb6 hb6.size hx6; have ht6 := ht5.next hx6; have hk6 := hk5.next hx6; have V3 := vlt (kcan_at c6 c2 ht6 HU.out (by omega) hk6 HK.out (by omega) HL.out a Oa.out); clear V2)
        | (go_at_call 13; refine V3.out.mono ?_; rintro e w7 ⟨rfl, hx7⟩; have hb8 := below_next hb7 hb7.size hx7; have ht7 := ht6.next hx7; have hk7 := hk6.next hx7; clear V3))
    have b0 : Below w7.heap.size w7 (w7.alloc (.cells #[] 3)) := (Below.refl _ _).alloc (Nat.le_refl _) _
    obtain ⟨A7, c7, y4, hr4, ho4, hb4⟩ := iwo_app (iwo_made w7) (by rw [World.size_alloc]; omega) c2 (hk7.next b0) HK.out (by omega)
    have b4 := b0.trans hb4
    obtain ⟨A8, c8, y5, hr5, ho5, hb5⟩ := iwo_push ho4 b4.size (by omega) (n : Int)
    have b5 := b4.trans hb5
    rw [List.nil_append] at ho5
    have R4 := vlt hr4
    have R5 := vlt hr5
    rw [Nat.zero_add] at R4 R5
    have hbz := below_next hb8 hb8.size b5
    have htz := ht7.next b5
    have hkz := ho5.inp
    have V9 := vlt (kcan_at c6 c8 htz HU.out (by omega) hkz HK2.out (by omega) HL2.out a F2.out.1)
    clear hr4 hr5 ho4 ho5 hb4 hb5 b0 b4 b5
    go_wp2_with (first
      | (at_builtin; refine Lib.wpList_append_run _ rfl _ _ _ _ rfl _ _ rfl rfl _ _ R4.out ?_; clear R4)
      | (at_builtin; refine Lib.wpList_append_run _ rfl _ _ _ _ rfl _ _ rfl rfl _ _ R5.out ?_; clear R5)
      | (go_at_call 13; refine V9.out.mono ?_; rintro e w20 ⟨rfl, hx20⟩; have hb20 := below_next hbz hbz.size hx20; have ht20 := htz.next hx20; have V10 := vlt (kcan_at c6 c8 ht20 HU.out (by omega) (hkz.next hx20) HK2.out (by omega) HL2.out b F2.out.2.1); clear V9)
      | (go_at_call 13; refine V10.out.mono ?_; rintro e w21 ⟨rfl, hx21⟩; have hb21 := below_next hb20 hb20.size hx21; have V11 := vlt (kSame_any c6 (ht20.next hx21) HU.out (by omega) n n F2.out.2.2); clear V10)
      | (go_at_call 9; refine V11.out.mono ?_; rintro e w22 ⟨rfl, hx22⟩; have hb22 := below_next hb21 hb21.size hx22; clear V11))
    go_ret
    exact ⟨rfl, hb22⟩
end Go.Proofs.Ytknmccpoheekmaa
