/-
  Contracts of slices.Index, slices.Contains at numbers. No statement is proved here. Conditions: fewer than 2^48 of them.
-/
import Derived.Test.YtknmccpoheekmaaKnM
namespace Go.Proofs.Ytknmccpoheekmaa
open Go.RowKit

/-- The place of the first that is equal, or -1. -/
def idxI (x : Int) : List Int → Int
  | [] => -1
  | y :: l => if x = y then 0 else if idxI x l < 0 then -1 else idxI x l + 1
theorem idxI_spec (x : Int) : ∀ l : List Int, (idxI x l = -1 ∧ x ∉ l) ∨ ∃ k : Nat, idxI x l = (k : Int) ∧ l[k]? = some x ∧ ∀ j, j < k → l[j]? ≠ some x
  | [] => .inl ⟨rfl, by simp⟩
  | y :: l => by
    rw [idxI]
    split
    · rename_i e
      exact .inr ⟨0, rfl, by rw [e]; rfl, fun j h => by omega⟩
    · rename_i e
      rcases idxI_spec x l with ⟨h1, h2⟩ | ⟨k, h1, h2, h3⟩
      · rw [h1, if_pos (by decide)]
        exact .inl ⟨rfl, by simp [e, h2]⟩
      · rw [h1, if_neg (by omega)]
        refine .inr ⟨k + 1, by simp, by rw [List.getElem?_cons_succ]; exact h2, fun j hj => ?_⟩
        match j with
        | 0 => intro h; simp at h; exact e h.symm
        | j + 1 => rw [List.getElem?_cons_succ]; exact h3 j (by omega)
theorem idxI_at {x : Int} {l : List Int} {k : Nat} (h1 : l[k]? = some x) (h2 : ∀ j, j < k → l[j]? ≠ some x) : idxI x l = (k : Int) := by
  rcases idxI_spec x l with ⟨_, h3⟩ | ⟨m, h3, h4, h5⟩
  · exact absurd (List.mem_of_getElem? h1) h3
  · rcases Nat.lt_trichotomy m k with hlt | he | hlt
    · exact absurd h4 (h2 m hlt)
    · rw [h3, he]
    · exact absurd h1 (h5 k hlt)
theorem idxI_no {x : Int} {l : List Int} (h : ∀ j : Nat, l[j]? ≠ some x) : idxI x l = -1 := by
  rcases idxI_spec x l with ⟨h3, _⟩ | ⟨m, _, h4, _⟩
  · exact h3
  · exact absurd h4 (h m)
theorem idxI_has (x : Int) (l : List Int) : decide (0 ≤ idxI x l) = decide (x ∈ l) := by
  rcases idxI_spec x l with ⟨h3, h4⟩ | ⟨m, h3, h4, _⟩
  · rw [h3, decide_eq_false h4]; rfl
  · rw [h3, decide_eq_true (List.mem_of_getElem? h4)]; simp
set_option maxRecDepth 100000 in
set_option maxHeartbeats 2000000 in
theorem indexI_any {w : World} {A : Option Addr} {l : List Int} {n : Nat} (c : Nat) (hA : InP w w.heap.size A l) (hl : l.length = n) (hn : n ≤ 281474976710656) (x : Int) :
    Calls Try.prog 29 #[.slice A n c, .int .i64 x] w fun e w' => e = .returned (.int .i64 (idxI x l)) ∧ Below w.heap.size w w' := by
  have HN := Lib.hid hl
  obtain ⟨o, ho⟩ : ∃ o, idxI x l = o := ⟨_, rfl⟩
  rw [ho]
  have HO := vlt ho
  clear hl ho
  go_enter Try.func29, Try.ntmps29
  go_wp2
  go_loopg [5, 8] n (fun k s5 s8 wr => ∃ (i : Nat), s8 = .int .i64 i ∧ n - i < k + 1 ∧ i ≤ n ∧ Vlt (∀ q, q < i → l[q]? ≠ some x) ∧ Below w.heap.size w wr)
  case atStart => exact ⟨0, rfl, by omega, Nat.zero_le _, vlt (fun q h => by omega), Below.refl _ _⟩
  case round =>
    obtain ⟨i, rfl, hk, hin, HQ, hb⟩ := hrel
    by_cases hlt : i < n
    · have hltz : (i : Int) < (n : Int) := by omega
      obtain ⟨g, o2, y, rfl, hg, HX, c0⟩ := (hA.below hb).at_ (i := i) (by rw [HN.out]; omega)
      by_cases hxy : x = y
      · have VO : Vlt (o = (i : Int)) := vlt (by rw [← HO.out]; exact idxI_at (by rw [hxy]; exact HX.out) HQ.out)
        go_wp2
        go_ret
        rw [VO.out]
        exact ⟨rfl, hb⟩
      · have HQ2 : Vlt (∀ q, q < i + 1 → l[q]? ≠ some x) := vlt (fun q hq => by
          rcases Nat.lt_or_eq_of_le (Nat.le_of_lt_succ hq) with h | rfl
          · exact HQ.out q h
          · rw [HX.out]; intro e; injection e with e; exact hxy e.symm)
        go_wp2
        go_roundg (n - (i + 1))
        case measure => omega
        case rel => exact ⟨i + 1, by go_num, by omega, by omega, HQ2, hb⟩
    · have hltz : ¬ (i : Int) < (n : Int) := by omega
      have VO : Vlt (o = -1) := vlt (by
        rw [← HO.out]
        refine idxI_no fun j => ?_
        by_cases hj : j < i
        · exact HQ.out j hj
        · rw [List.getElem?_eq_none (by rw [HN.out]; omega)]; simp)
      go_wp2
      go_ret
      rw [VO.out]
      exact ⟨rfl, hb⟩
set_option maxRecDepth 100000 in
theorem containsI_any {w : World} {A : Option Addr} {l : List Int} {n : Nat} (c : Nat) (hA : InP w w.heap.size A l) (hl : l.length = n) (hn : n ≤ 281474976710656) (x : Int) {o : Bool} (ho : decide (x ∈ l) = o) :
    Calls Try.prog 26 #[.slice A n c, .int .i64 x] w fun e w' => e = .returned (.bool o) ∧ Below w.heap.size w w' := by
  have D1 := indexI_any c hA hl hn x
  rw [← idxI_has] at ho
  obtain ⟨r, hr⟩ : ∃ r, idxI x l = r := ⟨_, rfl⟩
  rw [hr] at D1 ho
  have V1 := vlt D1
  have HO := vlt ho
  clear D1 ho hr hA hl
  go_enter Try.func26, Try.ntmps26
  go_wp2_with (go_at_call 29; refine V1.out.mono ?_; rintro e w1 ⟨rfl, hb1⟩; clear V1)
  go_ret
  rw [← HO.out]
  exact ⟨rfl, hb1⟩
end Go.Proofs.Ytknmccpoheekmaa
