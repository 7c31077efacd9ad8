/-
  Contract of bytes.Clone. Conditions: fewer than 2^46 bytes.
-/
import Derived.Test.YtnpaodhcaeofnaaCut
import Derived.Test.YtnpaodhcaeofnaaLit
import Derived.Test.YtnpaodhcaeofnaaSrc
import Derived.Lib.SliceRun
namespace Go.Proofs.Ytnpaodhcaeofnaa
open Go.RowKit

set_option maxRecDepth 100000 in
theorem bclone_any (w : World) (A : Option Addr) (l : List UInt8) (n c : Nat) (ha : Byt w w.heap.size A l) (hl : l.length = n) (hn : n ≤ 70368744177664) :
    Calls Try.prog 35 #[.slice A n c] w fun e w' => ∃ A' c', e = .returned (.slice A' n c') ∧ Res w' w.heap.size 5 A' n c' l ∧ Below w.heap.size w w' := by
  have HL := Lib.hid hl
  cases A with
  | none =>
    have h0 : l = [] := by
      rcases ha with h | ⟨_, _, h, _⟩
      · exact h
      · cases h
    subst h0
    obtain rfl : n = 0 := hl.symm
    clear HL hl
    have hnil := fun w0 => Lib.run_eql_slice_nil (P := Try.prog) w0 33 5 none 0 c 0 0 Try.underlying33
    go_enter Try.func35, Try.ntmps35
    go_wp2
    go_ret
    exact ⟨none, 0, rfl, World.ownsRow_nil _ _ _ _, Below.refl _ _⟩
  | some ad =>
    clear hl
    have hnil := fun w0 => Lib.run_eql_slice_nil (P := Try.prog) w0 33 5 (some ad) n c 0 0 Try.underlying33
    go_enter Try.func35, Try.ntmps35
    go_wp2_with (at_builtin; refine wp_append_src _ rfl _ _ 33 rfl 5 Try.underlying33 Try.infoByte w.heap.size (some ⟨w.heap.size, 0, none⟩) 0 0 [] rfl (Res.none_lit w _ _ (Nat.le_refl _)) (some ad) n c rfl _ l (ha.alloc (Nat.le_refl _) _) HL.out (by omega) (by simp) ?_)
    intro A1 c1 w1 hr1 hb1
    have hb2 := hb1 w.heap.size w (Nat.le_refl _) ((Below.refl _ _).alloc (Nat.le_refl _) _)
    clear hb1
    have hr2 : Res w1 w.heap.size 5 A1 n c1 l := by
      have h := hr1
      simpa using h
    clear hr1
    go_wp2
    go_ret
    exact ⟨A1, c1, rfl, hr2, hb2⟩
end Go.Proofs.Ytnpaodhcaeofnaa
