/-
  The document's own Rename where nothing is done, and whole. Conditions: fewer than 2^40 files.
-/
import Derived.Test.YtnpaodhcaeofnaaRkH
namespace Go.Proofs.Ytnpaodhcaeofnaa
open Go.RowKit

set_option maxRecDepth 100000 in
set_option maxHeartbeats 2000000 in
theorem rrename_no (w : World) (G : Nat → Prop) (r : Nat) (T : Rk) (h : RkIs w G r T) (hn : T.L.length ≤ 1099511627776) (s t : ByteArray) (hs : s.size ≤ 140737488355328) (ht : t.size ≤ 140737488355328) (he : rrenE T.pf T.L s t ≠ 0 ∨ s = t) :
    Calls Try.prog 11 #[.pointer (some ⟨r, 0, none⟩), .string s, .string t] w fun e w' => e = .returned (.int .i64 (rrenE T.pf T.L s t)) ∧ w' = w := by
  obtain ⟨D, A, n, c, xs, hat, hG⟩ := h
  have hm1 := rmay_any s w hs
  have hm2 := rmay_any t w ht
  have hf := rfind_any w D r n c T.room T.lives A T.pf xs T.L hat (by rw [← hat.len]; exact hn) s
  obtain ⟨⟨c0, c1, c2, c3⟩, _⟩ := row4 hat.row
  clear hat
  cases hpf : T.pf with
  | true =>
    have HE := Lib.hid (show rrenE true T.L s t = 7 by simp [rrenE])
    rw [hpf] at c2
    clear hm1 hm2 hf he
    go_enter Try.func11, Try.ntmps11
    go_wp2
    go_ret
    exact ⟨by rw [HE.out]; rfl, rfl⟩
  | false =>
    rw [hpf] at c2 he
    cases hms : may s with
    | false =>
      rw [hms] at hm1
      have HE := Lib.hid (show rrenE false T.L s t = 1 by simp [rrenE, hms])
      clear hm2 hf he hms
      go_enter Try.func11, Try.ntmps11
      go_wp2_with fail
      refine hm1.mono ?_
      rintro e w2 ⟨rfl, rfl⟩
      clear hm1
      go_wp2
      go_ret
      exact ⟨by rw [HE.out]; rfl, rfl⟩
    | true =>
      rw [hms] at hm1
      cases hmt : may t with
      | false =>
        rw [hmt] at hm2
        have HE := Lib.hid (show rrenE false T.L s t = 1 by simp [rrenE, hmt])
        clear hf he hms hmt
        go_enter Try.func11, Try.ntmps11
        go_wp2_with fail
        refine hm1.mono ?_
        rintro e w2 ⟨rfl, rfl⟩
        clear hm1
        go_wp2_with fail
        refine hm2.mono ?_
        rintro e w2 ⟨rfl, rfl⟩
        clear hm2
        go_wp2
        go_ret
        exact ⟨by rw [HE.out]; rfl, rfl⟩
      | true =>
        rw [hmt] at hm2
        cases hi : idxL T.L s with
        | none =>
          rw [hi] at hf
          simp only [idxI] at hf
          have HE := Lib.hid (show rrenE false T.L s t = 4 by simp [rrenE, hms, hmt, idx_none hi])
          clear he hms hmt hi
          go_enter Try.func11, Try.ntmps11
          go_wp2_with fail
          refine hm1.mono ?_
          rintro e w2 ⟨rfl, rfl⟩
          clear hm1
          go_wp2_with fail
          refine hm2.mono ?_
          rintro e w2 ⟨rfl, rfl⟩
          clear hm2
          go_wp2_with fail
          refine hf.mono ?_
          rintro e w2 ⟨rfl, rfl⟩
          clear hf
          go_wp2
          go_ret
          exact ⟨by rw [HE.out]; rfl, rfl⟩
        | some i =>
          rw [hi] at hf
          simp only [idxI] at hf
          obtain ⟨f, _, hg⟩ := idx_some hi
          have hE : rrenE false T.L s t = 0 := by simp [rrenE, hms, hmt, hg]
          have hst : s = t := by
            rcases he with h | h
            · exact absurd hE h
            · exact h
          subst hst
          have HE := Lib.hid hE
          have hi0 : ¬ (i : Int) < 0 := by omega
          have hbe := bytes_eq (s := s) rfl
          clear he hms hmt hi hg hE
          go_enter Try.func11, Try.ntmps11
          go_wp2_with fail
          refine hm1.mono ?_
          rintro e w2 ⟨rfl, rfl⟩
          clear hm1
          go_wp2_with fail
          refine hm2.mono ?_
          rintro e w2 ⟨rfl, rfl⟩
          clear hm2
          go_wp2_with fail
          refine hf.mono ?_
          rintro e w2 ⟨rfl, rfl⟩
          clear hf
          go_wp2
          go_ret
          exact ⟨by rw [HE.out]; rfl, rfl⟩
theorem rrename_any (w : World) (G : Nat → Prop) (r : Nat) (T : Rk) (h : RkIs w G r T) (h1 : One T.L) (hn : T.L.length ≤ 1099511627776) (s t : ByteArray) (hs : s.size ≤ 140737488355328) (ht : t.size ≤ 140737488355328) :
    Calls Try.prog 11 #[.pointer (some ⟨r, 0, none⟩), .string s, .string t] w fun e w' => e = .returned (.int .i64 (rrenE T.pf T.L s t)) ∧ (∃ G', RkIs w' G' r (T.ren s t) ∧ OwnG G G' w.heap.size) ∧ Off G w w' := by
  by_cases he : rrenE T.pf T.L s t = 0 ∧ ¬ s = t
  · exact rrename_ok w G r T h h1 hn s t hs ht he.1 he.2
  · have he2 : rrenE T.pf T.L s t ≠ 0 ∨ s = t := by
      by_cases h0 : rrenE T.pf T.L s t = 0
      · right
        by_cases h2 : s = t
        · exact h2
        · exact absurd ⟨h0, h2⟩ he
      · exact .inl h0
    refine (rrename_no w G r T h hn s t hs ht he2).mono ?_
    rintro e w' ⟨rfl, rfl⟩
    have hT : T.ren s t = T := by
      unfold Rk.ren
      rcases he2 with h0 | h0
      · rw [if_neg h0]
      · by_cases h2 : rrenE T.pf T.L s t = 0
        · rw [if_pos h2, if_pos h0]
        · rw [if_neg h2]
    exact ⟨rfl, ⟨G, by rw [hT]; exact h, OwnG.refl⟩, Off.refl _ _⟩
end Go.Proofs.Ytnpaodhcaeofnaa
