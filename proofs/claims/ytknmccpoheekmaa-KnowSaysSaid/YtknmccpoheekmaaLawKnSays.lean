/-
  Law KnowSays: of any table, any things known, all that can be known is as the document says. Conditions: none.
-/
import Derived.Test.YtknmccpoheekmaaKnX
import Derived.Test.YtknmccpoheekmaaKnQ
import Derived.Test.YtknmccpoheekmaaKtT
import Derived.Test.YtknmccpoheekmaaKtS
import Derived.Test.YtknmccpoheekmaaKtW
namespace Go.Proofs.Ytknmccpoheekmaa
open Go.RowKit

set_option maxRecDepth 100000 in
theorem rknow_at {w : World} {A A2 : Option Addr} {t : List Th} {known l : List Int} {n m q : Nat} (c c2 : Nat) (ht : ThP w w.heap.size A t) (hl : t.length = n) (hn : n ≤ 60) (h2 : InP w w.heap.size A2 known) (hm : known.length = m) (hmm : m ≤ 60) (h : AllIs t known l) (hq : l.length = q) :
    Calls Try.prog 14 #[.slice A n c, .slice A2 m c2] w fun e w' => ∃ A' c', e = .returned (.slice A' q c') ∧ InP w' w'.heap.size A' l ∧ Below w.heap.size w w' := by
  refine (rknow_any c c2 ht hl hn h2 hm hmm).mono ?_
  rintro e w' ⟨A', c', l', rfl, hall, hi, hb⟩
  have he := all_one hall.out h
  subst he
  rw [hq]
  exact ⟨A', c', rfl, hi, hb⟩
set_option maxRecDepth 100000 in
set_option maxHeartbeats 4000000 in
theorem walk_KnowSays (w : World) (A : Option Addr) (t : List Th) (n c : Nat) (ht : ThP w w.heap.size A t) (et : t.length = n) (_ : n ≤ c) (A2 : Option Addr) (kn : List Int) (m c2 : Nat) (hk : InP w w.heap.size A2 kn) (ek : kn.length = m) (_ : m ≤ c2) (a : Int) (_ : (Lit.int .i64 a).wf = true) (b : Int) (_ : (Lit.int .i64 b).wf = true) :
    Calls Try.prog 4 #[.slice A n c, .slice A2 m c2, .int .i64 a, .int .i64 b] w fun e w' => e = .returned (.bool true) ∧ Below w.heap.size w w' := by
  have V0 := vlt (kawake_any w)
  have HT := Lib.hid et
  have HK := Lib.hid ek
  clear et ek
  by_cases h1 : n ≤ 60
  case neg =>
    have zz : (60 : Int) < (n : Int) := by omega
    clear hk ht
    go_enter Try.func4, Try.ntmps4
    go_wp2_with (go_at_call 8; refine V0.out.mono ?_; rintro e w1 ⟨rfl, hb0⟩; clear V0)
    go_ret
    exact ⟨rfl, hb0⟩
  have z1 : ¬ (60 : Int) < (n : Int) := by omega
  by_cases h2 : m ≤ 60
  case neg =>
    have zz : (60 : Int) < (m : Int) := by omega
    clear hk ht
    go_enter Try.func4, Try.ntmps4
    go_wp2_with (go_at_call 8; refine V0.out.mono ?_; rintro e w1 ⟨rfl, hb0⟩; clear V0)
    go_ret
    exact ⟨rfl, hb0⟩
  have z2 : ¬ (60 : Int) < (m : Int) := by omega
  obtain ⟨l, hl⟩ := all_there t kn
  obtain ⟨q, hq⟩ : ∃ q, l.length = q := ⟨_, rfl⟩
  have hfew := all_few hl
  rw [hq] at hfew
  obtain ⟨oa, hoa⟩ : ∃ o, decide (a ∈ l) = o := ⟨_, rfl⟩
  obtain ⟨os, hos⟩ : ∃ o, sameT t a b = o := ⟨_, rfl⟩
  obtain ⟨og, hog⟩ : ∃ o, goodT t = o := ⟨_, rfl⟩
  have HL := vlt hl
  have HQ := Lib.hid hq
  have HA := vlt hoa
  have HS := vlt hos
  have HG := vlt hog
  clear hl hq hoa hos hog
  go_enter Try.func4, Try.ntmps4
  go_wp2_with (first
    | (go_at_call 8; refine V0.out.mono ?_; rintro e w1 ⟨rfl, hb1⟩; have ht1 := ht.next hb1; have hk1 := hk.next hb1; have V1 := vlt (kall_at c c2 ht1 HT.out (by omega) hk1 HK.out (by omega) HL.out HQ.out); clear V0)
    | (go_at_call 11; refine V1.out.mono ?_; rintro e w2 ⟨A1, d1, rfl, hi2, hx2⟩; have hb2 := below_next hb1 hb1.size hx2; have ht2 := ht1.next hx2; have hk2 := hk1.next hx2; have V2 := vlt (kthings_any c ht2 HT.out (by omega)); clear V1)
    | (go_at_call 15; refine V2.out.mono ?_; rintro e w3 ⟨A3, d3, rfl, hu3, hx3⟩; have hb3 := below_next hb2 hb2.size hx3; have ht3 := ht2.next hx3; have hk3 := hk2.next hx3; have hi3 := hi2.next hx3; have V3 := vlt (rknow_at d3 c2 hu3 HT.out (by omega) hk3 HK.out (by omega) HL.out HQ.out); clear V2)
    | (go_at_call 14; refine V3.out.mono ?_; rintro e w4 ⟨A4, d4, rfl, hj4, hx4⟩; have hb4 := below_next hb3 hb3.size hx4; have ht4 := ht3.next hx4; have hk4 := hk3.next hx4; have hi4 := hi3.next hx4; have V4 := vlt (ksame_any (o := true) d1 d4 hi4 hj4 HQ.out HQ.out (by omega) (decide_eq_true rfl)); clear V3)
    | (go_at_call 10; refine V4.out.mono ?_; rintro e w5 ⟨rfl, hx5⟩; have hb5 := below_next hb4 hb4.size hx5; have ht5 := ht4.next hx5; have hk5 := hk4.next hx5; have hj5 := hj4.next hx5; have V5 := vlt (kcan_at c c2 ht5 HT.out (by omega) hk5 HK.out (by omega) HL.out a HA.out); clear V4)
    | (go_at_call 13; refine V5.out.mono ?_; rintro e w6 ⟨rfl, hx6⟩; have hb6 := below_next hb5 hb5.size hx6; have ht6 := ht5.next hx6; have V6 := vlt (khas_any d4 (hj5.next hx6) HQ.out (by omega) a HA.out); clear V5)
    | (go_at_call 16; refine V6.out.mono ?_; rintro e w7 ⟨rfl, hx7⟩; have hb7 := below_next hb6 hb6.size hx7; have ht7 := ht6.next hx7; have V7 := vlt (kSame_any c ht7 HT.out (by omega) a b HS.out); clear V6)
    | (go_at_call 9; refine V7.out.mono ?_; rintro e w8 ⟨rfl, hx8⟩; have hb8 := below_next hb7 hb7.size hx8; have ht8 := ht7.next hx8; have V8 := vlt (kthings_any c ht8 HT.out (by omega)); clear V7)
    | (go_at_call 15; refine V8.out.mono ?_; rintro e w9 ⟨A9, d9, rfl, hu9, hx9⟩; have hb9 := below_next hb8 hb8.size hx9; have ht9 := ht8.next hx9; have V9 := vlt (rsame_any d9 hu9 HT.out (by omega) a b HS.out); clear V8)
    | (go_at_call 17; refine V9.out.mono ?_; rintro e w10 ⟨rfl, hx10⟩; have hb10 := below_next hb9 hb9.size hx10; have ht10 := ht9.next hx10; have V10 := vlt (kgood_any c ht10 HT.out (by omega) HG.out); clear V9)
    | (go_at_call 12; refine V10.out.mono ?_; rintro e w11 ⟨rfl, hx11⟩; have hb11 := below_next hb10 hb10.size hx11; have V11 := vlt (kthings_any c (ht10.next hx11) HT.out (by omega)); clear V10)
    | (go_at_call 15; refine V11.out.mono ?_; rintro e w12 ⟨A12, d12, rfl, hu12, hx12⟩; have hb12 := below_next hb11 hb11.size hx12; have V12 := vlt (rgood_any d12 hu12 HT.out (by omega) HG.out); clear V11)
    | (go_at_call 18; refine V12.out.mono ?_; rintro e w13 ⟨rfl, hx13⟩; have hb13 := below_next hb12 hb12.size hx13; clear V12))
  go_ret
  exact ⟨rfl, hb13⟩
end Go.Proofs.Ytknmccpoheekmaa
