/-
  A reader's Num and Text in one row each: what is read, what is left, whether it is bad. Conditions: the reader lies in a block of its own, apart from the bytes that it has.
-/
import Derived.Test.YtabgkkdgamacnaaWiTt
import Derived.Test.YtabgkkdgamacnaaOpR
namespace Go.Proofs.Ytabgkkdgamacnaa
open Go.RowKit

theorem num_rdm (w : World) (lo hi g : Nat) (l : List UInt8) (bad : Bool) (m : Nat) (M : Int) (hM : M = (m : Int)) (hr : RdIs w lo hi g l bad) :
    Calls Try.prog 23 #[.pointer (some ⟨g, 0, none⟩), .int .i64 M] w fun e w' => ∃ x l' b', Vlt (rd1 m (l, bad) = (x, l', b')) ∧ e = .returned (.int .i64 x) ∧ RdIs w' lo hi g l' b' ∧ But g w w' := by
  subst hM
  obtain ⟨x, s, hf⟩ := pair_is (frontOf l)
  by_cases hc : s = 0 ∨ m < x
  · refine (num_no w lo hi g l bad m x s hr (vlt hf) (by omega)).mono ?_
    rintro e w' ⟨rfl, h1, h2⟩
    exact ⟨0, [], true, vlt (by rw [rd1]; simp only [hf]; rw [if_pos hc]), rfl, h1, h2⟩
  · refine (num_ok w lo hi g l bad m x s hr (vlt hf) (by omega) (by omega)).mono ?_
    rintro e w' ⟨rfl, h1, h2⟩
    exact ⟨x, l.drop s, bad, vlt (by rw [rd1]; simp only [hf]; rw [if_neg hc]), rfl, h1, h2⟩
set_option maxRecDepth 100000 in
theorem counted_no (w : World) (lo hi g : Nat) (l : List UInt8) (bad : Bool) (most : Int) (x s : Nat) (hr : RdIs w lo hi g l bad) (hf : Vlt (frontOf l = (x, s))) (hs : s = 0 ∨ max most 0 < (x : Int)) :
    Calls Try.prog 48 #[.pointer (some ⟨g, 0, none⟩), .int .i64 most] w fun e w' => ∃ A c, e = .returned (.slice A 0 c) ∧ RdIs w' lo hi g [] true ∧ But g w w' := by
  have hnum := num_no w lo hi g l bad most x s hr hf hs
  go_enter Try.func48, Try.ntmps48
  go_wp2_with fail
  refine hnum.mono ?_
  rintro e w1 ⟨rfl, hr1, hb1⟩
  have htk := take_ok w1 lo hi g [] true 0 hr1 (Nat.le_refl _)
  go_wp2_with fail
  refine htk.mono ?_
  rintro e w2 ⟨A2, c2, rfl, hc2, hs2, hr2, hb2⟩
  go_wp2
  go_ret
  exact ⟨A2, c2, rfl, hr2, hb1.trans hb2⟩
/-- Where what is counted is nothing. -/
theorem rtext_none (w : World) (lo hi g : Nat) (most : Int)
    (hcn : Calls Try.prog 48 #[.pointer (some ⟨g, 0, none⟩), .int .i64 most] w fun e w' => ∃ A c, e = .returned (.slice A 0 c) ∧ RdIs w' lo hi g [] true ∧ But g w w') :
    Calls Try.prog 25 #[.pointer (some ⟨g, 0, none⟩), .int .i64 most] w fun e w' => e = .returned (.string noText) ∧ RdIs w' lo hi g [] true ∧ But g w w' := by
  go_enter Try.func25, Try.ntmps25
  go_wp2_with fail
  refine hcn.mono ?_
  rintro e w1 ⟨A1, c1, rfl, hr1, hb1⟩
  have hcv := conv_bytes (P := Try.prog) Try.underlying29 Try.underlying5 Try.underlying9 (w := w1) (B := 0) (A := A1) (l := []) (.inl rfl) 0 c1 rfl
  go_wp2
  go_ret
  exact ⟨rfl, hr1, hb1⟩
theorem rtext_rdt (w : World) (lo hi g : Nat) (l : List UInt8) (bad : Bool) (m : Nat) (M : Int) (hM : M = (m : Int)) (hr : RdIs w lo hi g l bad) :
    Calls Try.prog 25 #[.pointer (some ⟨g, 0, none⟩), .int .i64 M] w fun e w' => ∃ x l' b', Vlt (rdt m (l, bad) = (x, l', b')) ∧ e = .returned (.string x) ∧ RdIs w' lo hi g l' b' ∧ But g w w' := by
  subst hM
  obtain ⟨x, s, hf⟩ := pair_is (frontOf l)
  by_cases hc : s = 0 ∨ m < x
  · refine (rtext_none w lo hi g m (counted_no w lo hi g l bad m x s hr (vlt hf) (by omega))).mono ?_
    rintro e w' ⟨rfl, h1, h2⟩
    exact ⟨noText, [], true, vlt (by rw [rdt]; simp only [hf]; rw [if_pos (by omega)]), rfl, h1, h2⟩
  · by_cases hd : (l.drop s).length < x
    · refine (rtext_none w lo hi g m ((counted_short w lo hi g l bad m x s hr (vlt hf) (by omega) (by omega) hd).mono fun e w' h => ⟨none, 0, h⟩)).mono ?_
      rintro e w' ⟨rfl, h1, h2⟩
      exact ⟨noText, [], true, vlt (by rw [rdt]; simp only [hf]; rw [if_pos (by omega)]), rfl, h1, h2⟩
    · refine (rtext_ok w lo hi g l bad m x s hr (vlt hf) (by omega) (by omega) (by omega)).mono ?_
      rintro e w' ⟨rfl, h1, h2⟩
      exact ⟨_, _, _, vlt (by rw [rdt]; simp only [hf]; rw [if_neg (by omega)]), rfl, h1, h2⟩
end Go.Proofs.Ytabgkkdgamacnaa
