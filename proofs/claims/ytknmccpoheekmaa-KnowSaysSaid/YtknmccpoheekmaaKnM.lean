/-
  Things, numbers and truths in memory; contracts of know's below, fits, Good. No statement is proved here. Conditions: as said.
-/
import Derived.Test.YtknmccpoheekmaaKnS
import Derived.Test.YtknmccpoheekmaaNew
import Derived.Test.YtknmccpoheekmaaRow
import Derived.Test.YtknmccpoheekmaaCut
import Derived.Test.YtknmccpoheekmaaI64
import Derived.Test.YtknmccpoheekmaaMem
namespace Go.Proofs.Ytknmccpoheekmaa
open Go.RowKit

def Th.cells (x : Th) : List Value := [.int .i64 x.kind, .int .i64 x.a, .int .i64 x.b, .int .i64 x.n]
/-- A list of things: what lies at its places. -/
def ThP (w : World) (B : Nat) (A : Option Addr) (t : List Th) : Prop :=
  t = [] ∨ ∃ g o, A = some ⟨g, o, none⟩ ∧ g < B ∧ ∀ j x, t[j]? = some x → w.cell? ⟨g, o + j * 4, none⟩ = some (.int .i64 x.kind) ∧ w.cell? ⟨g, o + j * 4 + 1, none⟩ = some (.int .i64 x.a) ∧ w.cell? ⟨g, o + j * 4 + 2, none⟩ = some (.int .i64 x.b) ∧ w.cell? ⟨g, o + j * 4 + 3, none⟩ = some (.int .i64 x.n)
/-- A list of numbers. -/
def InP (w : World) (B : Nat) (A : Option Addr) (l : List Int) : Prop :=
  l = [] ∨ ∃ g o, A = some ⟨g, o, none⟩ ∧ g < B ∧ ∀ j x, l[j]? = some x → w.cell? ⟨g, o + j, none⟩ = some (.int .i64 x)
section
variable {w w' : World} {B B' : Nat} {A : Option Addr} {t : List Th} {l : List Int}
theorem ThP.below (h : ThP w B A t) (hb : Below B w w') : ThP w' B A t := by
  rcases h with h | ⟨g, o, hA, hg, hc⟩
  · exact .inl h
  · exact .inr ⟨g, o, hA, hg, fun j x hj => ⟨(hb.cell (p := ⟨g, _, none⟩) hg).trans (hc j x hj).1, (hb.cell (p := ⟨g, _, none⟩) hg).trans (hc j x hj).2.1, (hb.cell (p := ⟨g, _, none⟩) hg).trans (hc j x hj).2.2.1, (hb.cell (p := ⟨g, _, none⟩) hg).trans (hc j x hj).2.2.2⟩⟩
theorem ThP.up (h : ThP w B A t) (hB : B ≤ B') : ThP w B' A t := by
  rcases h with h | ⟨g, o, hA, hg, hc⟩
  · exact .inl h
  · exact .inr ⟨g, o, hA, by omega, hc⟩
theorem ThP.next (h : ThP w w.heap.size A t) (hb : Below w.heap.size w w') : ThP w' w'.heap.size A t := (h.below hb).up hb.size
theorem ThP.at_ (h : ThP w B A t) {i : Nat} (hi : i < t.length) : ∃ g o x, A = some ⟨g, o, none⟩ ∧ g < B ∧ Hid (t[i]? = some x) ∧ w.cell? ⟨g, o + i * 4, none⟩ = some (.int .i64 x.kind) ∧ w.cell? ⟨g, o + i * 4 + 1, none⟩ = some (.int .i64 x.a) ∧ w.cell? ⟨g, o + i * 4 + 2, none⟩ = some (.int .i64 x.b) ∧ w.cell? ⟨g, o + i * 4 + 3, none⟩ = some (.int .i64 x.n) := by
  rcases h with h | ⟨g, o, hA, hg, hc⟩
  · subst h; simp at hi
  · exact ⟨g, o, t[i], hA, hg, List.getElem?_eq_getElem hi, hc i _ (List.getElem?_eq_getElem hi)⟩
theorem InP.below (h : InP w B A l) (hb : Below B w w') : InP w' B A l := by
  rcases h with h | ⟨g, o, hA, hg, hc⟩
  · exact .inl h
  · exact .inr ⟨g, o, hA, hg, fun j x hj => (hb.cell (p := ⟨g, _, none⟩) hg).trans (hc j x hj)⟩
theorem InP.up (h : InP w B A l) (hB : B ≤ B') : InP w B' A l := by
  rcases h with h | ⟨g, o, hA, hg, hc⟩
  · exact .inl h
  · exact .inr ⟨g, o, hA, by omega, hc⟩
theorem InP.next (h : InP w w.heap.size A l) (hb : Below w.heap.size w w') : InP w' w'.heap.size A l := (h.below hb).up hb.size
theorem InP.at_ (h : InP w B A l) {i : Nat} (hi : i < l.length) : ∃ g o x, A = some ⟨g, o, none⟩ ∧ g < B ∧ Hid (l[i]? = some x) ∧ w.cell? ⟨g, o + i, none⟩ = some (.int .i64 x) := by
  rcases h with h | ⟨g, o, hA, hg, hc⟩
  · subst h; simp at hi
  · exact ⟨g, o, l[i], hA, hg, List.getElem?_eq_getElem hi, hc i _ (List.getElem?_eq_getElem hi)⟩
end
set_option maxRecDepth 100000 in
theorem kbelow_any (w : World) (p e : Int) : Calls Try.prog 20 #[.int .i64 p, .int .i64 e] w fun x w' => x = .returned (.bool (below p e)) ∧ w' = w := by
  by_cases h0 : p < 0
  · have hb : below p e = false := by rw [below, decide_eq_false (by omega)]; rfl
    rw [hb]
    clear hb
    go_enter Try.func20, Try.ntmps20
    go_wp2
    go_ret
    exact ⟨rfl, rfl⟩
  · have hn : 0 ≤ p := by omega
    by_cases h1 : p < e
    · have hb : below p e = true := by rw [below, decide_eq_true hn, decide_eq_true h1]; rfl
      rw [hb]
      clear hb
      go_enter Try.func20, Try.ntmps20
      go_wp2
      go_ret
      exact ⟨rfl, rfl⟩
    · have hb : below p e = false := by rw [below, decide_eq_false h1, Bool.and_false]
      rw [hb]
      clear hb
      go_enter Try.func20, Try.ntmps20
      go_wp2
      go_ret
      exact ⟨rfl, rfl⟩
set_option maxRecDepth 100000 in
set_option maxHeartbeats 2000000 in
theorem fits_any (w : World) (x : Th) (p : Int) : Calls Try.prog 25 #[.agg x.cells.toArray, .int .i64 p] w fun e w' => e = .returned (.bool (fitsT x p)) ∧ Below w.heap.size w w' := by
  obtain ⟨kind, a, b, n⟩ := x
  have hc : (Th.mk kind a b n).cells.toArray = #[.int .i64 kind, .int .i64 a, .int .i64 b, .int .i64 n] := rfl
  rw [hc]
  obtain ⟨W, hW, hgE, hbW, hsW⟩ := one_new w #[.int .i64 kind, .int .i64 a, .int .i64 b, .int .i64 n] 24
  have HW := Lib.hid hW
  have c0 : W.cell? ⟨w.heap.size, 0, none⟩ = some (.int .i64 kind) := by rw [cell_of_row _ _ _ _ _ _ hgE.out]; rfl
  have c1 : W.cell? ⟨w.heap.size, 1, none⟩ = some (.int .i64 a) := by rw [cell_of_row _ _ _ _ _ _ hgE.out]; rfl
  have c2 : W.cell? ⟨w.heap.size, 2, none⟩ = some (.int .i64 b) := by rw [cell_of_row _ _ _ _ _ _ hgE.out]; rfl
  obtain ⟨o, ho⟩ : ∃ o, fitsT ⟨kind, a, b, n⟩ p = o := ⟨_, rfl⟩
  rw [ho]
  have HO := vlt ho
  clear hW hc ho
  go_enter Try.func25, Try.ntmps25
  go_upto_region 1 with fail
  rw [HW.out]
  by_cases h1 : kind = 1
  · have VO : Vlt (o = true) := vlt (by rw [← HO.out, fitsT, if_pos h1])
    go_wp2
    go_ret
    rw [VO.out]
    exact ⟨rfl, hbW⟩
  · by_cases h23 : kind = 2 ∨ kind = 3
    · have VO : Vlt (o = (below a p && below b p)) := vlt (by rw [← HO.out, fitsT, if_neg h1, if_pos h23])
      obtain ⟨q1, hq1⟩ : ∃ q, below a p = q := ⟨_, rfl⟩
      obtain ⟨q2, hq2⟩ : ∃ q, below b p = q := ⟨_, rfl⟩
      rw [hq1, hq2] at VO
      have D1 := fun w' => kbelow_any w' a p
      have D2 := fun w' => kbelow_any w' b p
      rw [hq1] at D1
      rw [hq2] at D2
      have V1 := vlt D1
      have V2 := vlt D2
      clear hq1 hq2 D1 D2
      rcases h23 with h2 | h3
      · have hk3 : ¬ kind = 3 := by omega
        cases q1 <;> go_wp2_with (first | (go_at_call 20; refine (V1.out _).mono ?_; rintro e w1 ⟨rfl, rfl⟩; clear V1) | (go_at_call 20; refine (V2.out _).mono ?_; rintro e w2 ⟨rfl, rfl⟩; clear V2))
        all_goals
          go_ret
          rw [VO.out]
          exact ⟨rfl, hbW⟩
      · cases q1 <;> go_wp2_with (first | (go_at_call 20; refine (V1.out _).mono ?_; rintro e w1 ⟨rfl, rfl⟩; clear V1) | (go_at_call 20; refine (V2.out _).mono ?_; rintro e w2 ⟨rfl, rfl⟩; clear V2))
        all_goals
          go_ret
          rw [VO.out]
          exact ⟨rfl, hbW⟩
    · have h2 : ¬ kind = 2 := fun h => h23 (.inl h)
      have h3 : ¬ kind = 3 := fun h => h23 (.inr h)
      by_cases h4 : kind = 4
      · have VO : Vlt (o = below a p) := vlt (by rw [← HO.out, fitsT, if_neg h1, if_neg h23, if_pos h4])
        obtain ⟨q1, hq1⟩ : ∃ q, below a p = q := ⟨_, rfl⟩
        rw [hq1] at VO
        have D1 := fun w' => kbelow_any w' a p
        rw [hq1] at D1
        have V1 := vlt D1
        clear hq1 D1
        go_wp2_with (go_at_call 20; refine (V1.out _).mono ?_; rintro e w1 ⟨rfl, rfl⟩; clear V1)
        go_ret
        rw [VO.out]
        exact ⟨rfl, hbW⟩
      · have VO : Vlt (o = false) := vlt (by rw [← HO.out, fitsT, if_neg h1, if_neg h23, if_neg h4])
        go_wp2
        go_ret
        rw [VO.out]
        exact ⟨rfl, hbW⟩
set_option maxRecDepth 100000 in
set_option maxHeartbeats 2000000 in
theorem kgood_any {w : World} {A : Option Addr} {t : List Th} {n : Nat} (c : Nat) (ht : ThP w w.heap.size A t) (hl : t.length = n) (hn : n ≤ 281474976710656) {o : Bool} (ho : goodT t = o) :
    Calls Try.prog 12 #[.slice A n c] w fun e w' => e = .returned (.bool o) ∧ Below w.heap.size w w' := by
  have HN := Lib.hid hl
  have HO := vlt ho
  clear hl ho
  by_cases h5 : n ≤ 500
  case neg =>
    have hz : (500 : Int) < (n : Int) := by omega
    have VO : Vlt (o = false) := vlt (by rw [← HO.out, goodT, decide_eq_false (by rw [HN.out]; exact h5)]; rfl)
    go_enter Try.func12, Try.ntmps12
    go_wp2
    go_ret
    rw [VO.out]
    exact ⟨rfl, Below.refl _ _⟩
  have hz : ¬ (500 : Int) < (n : Int) := by omega
  go_enter Try.func12, Try.ntmps12
  go_wp2
  go_loopg [10] n (fun k s wr => ∃ (i : Nat), s = .int .i64 i ∧ n - i < k + 1 ∧ i ≤ n ∧ Vlt (∀ q x, q < i → t[q]? = some x → fitsT x (q : Int) = true) ∧ Below w.heap.size w wr)
  case atStart => exact ⟨0, rfl, by omega, Nat.zero_le _, vlt (fun q x h => by omega), Below.refl _ _⟩
  case round =>
    obtain ⟨i, rfl, hk, hin, HQ, hb⟩ := hrel
    by_cases hlt : i < n
    · have hltz : (i : Int) < (n : Int) := by omega
      obtain ⟨g, o2, x, rfl, hg, HX, c0, c1, c2, c3⟩ := (ht.below hb).at_ (i := i) (by rw [HN.out]; omega)
      obtain ⟨U, hU, hgX, hbU, hsU⟩ := one_new wr x.cells.toArray 24
      have hbu := below_next hb hb.size hbU
      obtain ⟨q, hq⟩ : ∃ q, fitsT x (i : Int) = q := ⟨_, rfl⟩
      have D1 := fits_any U x (i : Int)
      rw [hq] at D1
      have V1 := vlt D1
      have HQQ := vlt hq
      clear D1 hq
      have hxc : x.cells.toArray = #[.int .i64 x.kind, .int .i64 x.a, .int .i64 x.b, .int .i64 x.n] := rfl
      rw [hxc] at hU hgX V1
      have d0 : U.cell? ⟨wr.heap.size, 0, none⟩ = some (.int .i64 x.kind) := by rw [cell_of_row _ _ _ _ _ _ hgX.out]; rfl
      have d1 : U.cell? ⟨wr.heap.size, 1, none⟩ = some (.int .i64 x.a) := by rw [cell_of_row _ _ _ _ _ _ hgX.out]; rfl
      have d2 : U.cell? ⟨wr.heap.size, 2, none⟩ = some (.int .i64 x.b) := by rw [cell_of_row _ _ _ _ _ _ hgX.out]; rfl
      have d3 : U.cell? ⟨wr.heap.size, 3, none⟩ = some (.int .i64 x.n) := by rw [cell_of_row _ _ _ _ _ _ hgX.out]; rfl
      cases q with
      | true =>
        go_wp2_with (go_at_call 25; refine V1.out.mono ?_; rintro e w5 ⟨rfl, hb5⟩; clear V1)
        have hb6 := below_next hbu hbu.size hb5
        have HQ2 : Vlt (∀ q x, q < i + 1 → t[q]? = some x → fitsT x (q : Int) = true) := vlt (fun q y hq hy => by
          rcases Nat.lt_or_eq_of_le (Nat.le_of_lt_succ hq) with h | rfl
          · exact HQ.out q y h hy
          · have e := HX.out.symm.trans hy
            injection e with e
            rw [← e]; exact HQQ.out)
        go_roundg (n - (i + 1))
        case measure => omega
        case rel => exact ⟨i + 1, by go_num, by omega, by omega, HQ2, hb6⟩
      | false =>
        have VO : Vlt (o = false) := vlt (by rw [← HO.out, goodT, goodFrom_no HX.out HQQ.out, Bool.and_false])
        go_wp2_with (go_at_call 25; refine V1.out.mono ?_; rintro e w5 ⟨rfl, hb5⟩; clear V1)
        go_ret
        rw [VO.out]
        exact ⟨rfl, below_next hbu hbu.size hb5⟩
    · have hltz : ¬ (i : Int) < (n : Int) := by omega
      have VO : Vlt (o = true) := vlt (by
        rw [← HO.out, goodT, decide_eq_true (by rw [HN.out]; exact h5), Bool.true_and]
        exact goodFrom_of fun q x hx => by
          rw [Nat.zero_add]
          exact HQ.out q x (by have := (List.getElem?_eq_some_iff.1 hx).1; rw [HN.out] at this; omega) hx)
      go_wp2
      go_ret
      rw [VO.out]
      exact ⟨rfl, hb⟩
end Go.Proofs.Ytknmccpoheekmaa
