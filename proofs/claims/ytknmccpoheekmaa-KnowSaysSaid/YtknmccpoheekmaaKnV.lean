/-
  Contracts of law 18's same and has. No statement is proved here. Conditions: fewer than 2^48 numbers.
-/
import Derived.Test.YtknmccpoheekmaaKnM
import Derived.Test.YtknmccpoheekmaaReg
import Derived.Test.YtknmccpoheekmaaMix
namespace Go.Proofs.Ytknmccpoheekmaa
open Go.RowKit

set_option maxRecDepth 100000 in
set_option maxHeartbeats 2000000 in
theorem khas_any {w : World} {A : Option Addr} {l : List Int} {n : Nat} (c : Nat) (hA : InP w w.heap.size A l) (hl : l.length = n) (hn : n ≤ 281474976710656) (x : Int) {o : Bool} (ho : decide (x ∈ l) = o) :
    Calls Try.prog 16 #[.slice A n c, .int .i64 x] w fun e w' => e = .returned (.bool o) ∧ Below w.heap.size w w' := by
  have HN := Lib.hid hl
  have HO := vlt ho
  clear hl ho
  go_enter Try.func16, Try.ntmps16
  go_wp2
  go_loopg [5] n (fun k s5 wr => ∃ (i : Nat), s5 = .int .i64 i ∧ n - i < k + 1 ∧ i ≤ n ∧ Vlt (∀ q : Nat, q < i → l[q]? ≠ some x) ∧ Below w.heap.size w wr)
  case atStart => exact ⟨0, rfl, by omega, Nat.zero_le _, vlt (fun q h => by omega), Below.refl _ _⟩
  case round =>
    obtain ⟨i, rfl, hk, hin, HQ, hb⟩ := hrel
    by_cases hlt : i < n
    · have hltz : (i : Int) < (n : Int) := by omega
      obtain ⟨g, o2, y, rfl, hg, HX, c0⟩ := (hA.below hb).at_ (i := i) (by rw [HN.out]; omega)
      by_cases hxy : y = x
      · have VO : Vlt (o = true) := vlt (by rw [← HO.out, decide_eq_true_iff, ← hxy]; exact List.mem_of_getElem? HX.out)
        go_wp2
        go_ret
        rw [VO.out]
        exact ⟨rfl, hb⟩
      · have HQ2 : Vlt (∀ q : Nat, q < i + 1 → l[q]? ≠ some x) := vlt (fun q hq => by
          rcases Nat.lt_or_eq_of_le (Nat.le_of_lt_succ hq) with h | rfl
          · exact HQ.out q h
          · rw [HX.out]; intro e; injection e with e; exact hxy e)
        go_wp2
        go_roundg (n - (i + 1))
        case measure => omega
        case rel => exact ⟨i + 1, by go_num, by omega, by omega, HQ2, hb⟩
    · have hltz : ¬ (i : Int) < (n : Int) := by omega
      have VO : Vlt (o = false) := vlt (by
        rw [← HO.out, decide_eq_false_iff_not]
        intro hm
        obtain ⟨q, hq, rfl⟩ := List.mem_iff_getElem.1 hm
        exact HQ.out q (by rw [HN.out] at hq; omega) (List.getElem?_eq_getElem hq))
      go_wp2
      go_ret
      rw [VO.out]
      exact ⟨rfl, hb⟩
set_option maxRecDepth 100000 in
set_option maxHeartbeats 4000000 in
theorem ksame_any {w : World} {A A2 : Option Addr} {l l2 : List Int} {n m : Nat} (c c2 : Nat) (hA : InP w w.heap.size A l) (hA2 : InP w w.heap.size A2 l2) (hl : l.length = n) (hl2 : l2.length = m) (hn : n ≤ 281474976710656) {o : Bool} (ho : decide (l = l2) = o) :
    Calls Try.prog 10 #[.slice A n c, .slice A2 m c2] w fun e w' => e = .returned (.bool o) ∧ Below w.heap.size w w' := by
  by_cases hnm : n = m
  · subst hnm
    have HN := Lib.hid hl
    have HM := Lib.hid hl2
    have HO := vlt ho
    clear hl hl2 ho
    go_enter Try.func10, Try.ntmps10
    go_wp2
    go_loopg [5] n (fun k s5 wr => ∃ (i : Nat), s5 = .int .i64 i ∧ n - i < k + 1 ∧ i ≤ n ∧ Vlt (∀ q : Nat, q < i → l[q]? = l2[q]?) ∧ Below w.heap.size w wr)
    case atStart => exact ⟨0, rfl, by omega, Nat.zero_le _, vlt (fun q h => by omega), Below.refl _ _⟩
    case round =>
      obtain ⟨i, rfl, hk, hin, HQ, hb⟩ := hrel
      by_cases hlt : i < n
      · have hltz : (i : Int) < (n : Int) := by omega
        obtain ⟨g, o2, x, rfl, hg, HX, c0⟩ := (hA.below hb).at_ (i := i) (by rw [HN.out]; omega)
        obtain ⟨g2, o3, y, rfl, hg2, HY, c1⟩ := (hA2.below hb).at_ (i := i) (by rw [HM.out]; omega)
        have hbs := hb.size
        have hcx : ∀ W', Below wr.heap.size wr W' → W'.cell? ⟨g, o2 + i, none⟩ = some (.int .i64 x) := fun W' h => (h.cell (p := ⟨g, _, none⟩) (show g < wr.heap.size by omega)).trans c0
        have hcy : ∀ W', Below wr.heap.size wr W' → W'.cell? ⟨g2, o3 + i, none⟩ = some (.int .i64 y) := fun W' h => (h.cell (p := ⟨g2, _, none⟩) (show g2 < wr.heap.size by omega)).trans c1
        by_cases hxy : x = y
        · have HQ2 : Vlt (∀ q : Nat, q < i + 1 → l[q]? = l2[q]?) := vlt (fun q hq => by
            rcases Nat.lt_or_eq_of_le (Nat.le_of_lt_succ hq) with h | rfl
            · exact HQ.out q h
            · rw [HX.out, HY.out, hxy])
          go_upto_region 6 with fail
          refine wp_region_held_drew (S := fun W' => Below wr.heap.size wr W') (by kernel_rfl) ((Below.refl _ _).drew) (fun hHeld => ?_)
          refine wpAnyH_take (i := 0) (oi := ⟨(some 17), _, _, _, _, _⟩) (v := .slice (some ⟨g, o2, none⟩) n c) rfl (by kernel_rfl) (by kernel_rfl) (by kernel_rfl) (fun _ _ _ h => h) (Or.inl ⟨by rfl, ?yr6_0⟩) hHeld ?_
          case yr6_0 => (intro W0 hSw; go_simp; try with_reducible rfl)
          try simp only [pu]
          refine wpAnyH_take (i := 1) (oi := ⟨(some 18), _, _, _, _, _⟩) (v := .int .i64 (i : Int)) rfl (by kernel_rfl) (by kernel_rfl) (by kernel_rfl) (fun _ _ _ h => h) (Or.inl ⟨by rfl, ?yr6_1⟩) hHeld ?_
          case yr6_1 => (intro W0 hSw; go_simp; try with_reducible rfl)
          try simp only [pu]
          refine wpAnyH_take (i := 2) (oi := ⟨(some 19), _, _, _, _, _⟩) (v := .pointer (some ⟨g, o2 + i, none⟩)) rfl (by kernel_rfl) (by kernel_rfl) (by kernel_rfl) (fun _ _ _ h => h) (Or.inl ⟨by rfl, ?yr6_2⟩) hHeld ?_
          case yr6_2 => (intro W0 hSw; go_simp; try with_reducible rfl)
          try simp only [pu]
          refine wpAnyH_take (i := 3) (oi := ⟨(some 20), _, _, _, _, _⟩) (v := .int .i64 x) rfl (by kernel_rfl) (by kernel_rfl) (by kernel_rfl) (fun _ _ _ h => h) (Or.inl ⟨by rfl, ?yr6_3⟩) hHeld ?_
          case yr6_3 => (intro W0 hSw; have cc := hcx _ hSw; go_simp; try with_reducible rfl)
          try simp only [pu]
          refine wpAnyH_take (i := 4) (oi := ⟨(some 21), _, _, _, _, _⟩) (v := .slice (some ⟨g2, o3, none⟩) n c2) rfl (by kernel_rfl) (by kernel_rfl) (by kernel_rfl) (fun _ _ _ h => h) (Or.inl ⟨by rfl, ?yr6_4⟩) hHeld ?_
          case yr6_4 => (intro W0 hSw; go_simp; try with_reducible rfl)
          try simp only [pu]
          refine wpAnyH_take (i := 5) (oi := ⟨(some 22), _, _, _, _, _⟩) (v := .int .i64 (i : Int)) rfl (by kernel_rfl) (by kernel_rfl) (by kernel_rfl) (fun _ _ _ h => h) (Or.inl ⟨by rfl, ?yr6_5⟩) hHeld ?_
          case yr6_5 => (intro W0 hSw; go_simp; try with_reducible rfl)
          try simp only [pu]
          refine wpAnyH_take (i := 6) (oi := ⟨(some 23), _, _, _, _, _⟩) (v := .pointer (some ⟨g2, o3 + i, none⟩)) rfl (by kernel_rfl) (by kernel_rfl) (by kernel_rfl) (fun _ _ _ h => h) (Or.inl ⟨by rfl, ?yr6_6⟩) hHeld ?_
          case yr6_6 => (intro W0 hSw; go_simp; try with_reducible rfl)
          try simp only [pu]
          refine wpAnyH_take (i := 7) (oi := ⟨(some 24), _, _, _, _, _⟩) (v := .int .i64 y) rfl (by kernel_rfl) (by kernel_rfl) (by kernel_rfl) (fun _ _ _ h => h) (Or.inl ⟨by rfl, ?yr6_7⟩) hHeld ?_
          case yr6_7 => (intro W0 hSw; have cc := hcy _ hSw; go_simp; try with_reducible rfl)
          try simp only [pu]
          refine wpAnyH_take (i := 8) (oi := ⟨(some 25), _, _, _, _, _⟩) (v := .bool false) rfl (by kernel_rfl) (by kernel_rfl) (by kernel_rfl) (fun _ _ _ h => h) (Or.inl ⟨by rfl, ?yr6_8⟩) hHeld ?_
          case yr6_8 => (intro W0 hSw; go_simp; first | done | (simp [hxy]; done) | exact hxy | skip)
          try simp only [pu]
          refine wpAnyH_done (by kernel_rfl) ?_ _
          have hb2 := below_next hb hb.size hHeld
          go_wp2
          go_roundg (n - (i + 1))
          case measure => omega
          case rel => exact ⟨i + 1, by go_num, by omega, by omega, HQ2, hb2⟩
        · have VO : Vlt (o = false) := vlt (by
            rw [← HO.out, decide_eq_false_iff_not]
            rintro rfl
            have e := HX.out.symm.trans HY.out
            injection e with e
            exact hxy e)
          go_upto_region 6 with fail
          refine wp_region_held_drew (S := fun W' => Below wr.heap.size wr W') (by kernel_rfl) ((Below.refl _ _).drew) (fun hHeld => ?_)
          refine wpAnyH_take (i := 0) (oi := ⟨(some 17), _, _, _, _, _⟩) (v := .slice (some ⟨g, o2, none⟩) n c) rfl (by kernel_rfl) (by kernel_rfl) (by kernel_rfl) (fun _ _ _ h => h) (Or.inl ⟨by rfl, ?yr6_0⟩) hHeld ?_
          case yr6_0 => (intro W0 hSw; go_simp; try with_reducible rfl)
          try simp only [pu]
          refine wpAnyH_take (i := 1) (oi := ⟨(some 18), _, _, _, _, _⟩) (v := .int .i64 (i : Int)) rfl (by kernel_rfl) (by kernel_rfl) (by kernel_rfl) (fun _ _ _ h => h) (Or.inl ⟨by rfl, ?yr6_1⟩) hHeld ?_
          case yr6_1 => (intro W0 hSw; go_simp; try with_reducible rfl)
          try simp only [pu]
          refine wpAnyH_take (i := 2) (oi := ⟨(some 19), _, _, _, _, _⟩) (v := .pointer (some ⟨g, o2 + i, none⟩)) rfl (by kernel_rfl) (by kernel_rfl) (by kernel_rfl) (fun _ _ _ h => h) (Or.inl ⟨by rfl, ?yr6_2⟩) hHeld ?_
          case yr6_2 => (intro W0 hSw; go_simp; try with_reducible rfl)
          try simp only [pu]
          refine wpAnyH_take (i := 3) (oi := ⟨(some 20), _, _, _, _, _⟩) (v := .int .i64 x) rfl (by kernel_rfl) (by kernel_rfl) (by kernel_rfl) (fun _ _ _ h => h) (Or.inl ⟨by rfl, ?yr6_3⟩) hHeld ?_
          case yr6_3 => (intro W0 hSw; have cc := hcx _ hSw; go_simp; try with_reducible rfl)
          try simp only [pu]
          refine wpAnyH_take (i := 4) (oi := ⟨(some 21), _, _, _, _, _⟩) (v := .slice (some ⟨g2, o3, none⟩) n c2) rfl (by kernel_rfl) (by kernel_rfl) (by kernel_rfl) (fun _ _ _ h => h) (Or.inl ⟨by rfl, ?yr6_4⟩) hHeld ?_
          case yr6_4 => (intro W0 hSw; go_simp; try with_reducible rfl)
          try simp only [pu]
          refine wpAnyH_take (i := 5) (oi := ⟨(some 22), _, _, _, _, _⟩) (v := .int .i64 (i : Int)) rfl (by kernel_rfl) (by kernel_rfl) (by kernel_rfl) (fun _ _ _ h => h) (Or.inl ⟨by rfl, ?yr6_5⟩) hHeld ?_
          case yr6_5 => (intro W0 hSw; go_simp; try with_reducible rfl)
          try simp only [pu]
          refine wpAnyH_take (i := 6) (oi := ⟨(some 23), _, _, _, _, _⟩) (v := .pointer (some ⟨g2, o3 + i, none⟩)) rfl (by kernel_rfl) (by kernel_rfl) (by kernel_rfl) (fun _ _ _ h => h) (Or.inl ⟨by rfl, ?yr6_6⟩) hHeld ?_
          case yr6_6 => (intro W0 hSw; go_simp; try with_reducible rfl)
          try simp only [pu]
          refine wpAnyH_take (i := 7) (oi := ⟨(some 24), _, _, _, _, _⟩) (v := .int .i64 y) rfl (by kernel_rfl) (by kernel_rfl) (by kernel_rfl) (fun _ _ _ h => h) (Or.inl ⟨by rfl, ?yr6_7⟩) hHeld ?_
          case yr6_7 => (intro W0 hSw; have cc := hcy _ hSw; go_simp; try with_reducible rfl)
          try simp only [pu]
          refine wpAnyH_take (i := 8) (oi := ⟨(some 25), _, _, _, _, _⟩) (v := .bool true) rfl (by kernel_rfl) (by kernel_rfl) (by kernel_rfl) (fun _ _ _ h => h) (Or.inl ⟨by rfl, ?yr6_8⟩) hHeld ?_
          case yr6_8 => (intro W0 hSw; go_simp; first | done | (simp [hxy]; done) | exact hxy | skip)
          try simp only [pu]
          refine wpAnyH_done (by kernel_rfl) ?_ _
          have hb2 := below_next hb hb.size hHeld
          go_wp2
          go_ret
          rw [VO.out]
          exact ⟨rfl, hb2⟩
      · have hltz : ¬ (i : Int) < (n : Int) := by omega
        have VO : Vlt (o = true) := vlt (by
          rw [← HO.out, decide_eq_true_iff]
          refine List.ext_getElem? fun q => ?_
          by_cases hq : q < i
          · exact HQ.out q hq
          · rw [List.getElem?_eq_none (by rw [HN.out]; omega), List.getElem?_eq_none (by rw [HM.out]; omega)])
        go_wp2
        go_ret
        rw [VO.out]
        exact ⟨rfl, hb⟩
  · have VO : Vlt (o = false) := vlt (by
      rw [← ho, decide_eq_false_iff_not]
      rintro rfl
      exact hnm (hl.symm.trans hl2))
    have hnz : ¬ (n : Int) = (m : Int) := by omega
    clear hl hl2 ho hA hA2
    go_enter Try.func10, Try.ntmps10
    go_wp2
    go_ret
    rw [VO.out]
    exact ⟨rfl, Below.refl _ _⟩
end Go.Proofs.Ytknmccpoheekmaa
