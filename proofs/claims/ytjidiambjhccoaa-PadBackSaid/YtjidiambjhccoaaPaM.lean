/-
  Contract of pad.markAt: the mark's place. Conditions: fewer than 2^46 bytes.
-/
import Derived.Test.YtjidiambjhccoaaPaS
namespace Go.Proofs.Ytjidiambjhccoaa
open Go.RowKit

set_option maxRecDepth 100000 in
theorem mark_any (w : World) (A : Option Addr) (l : List UInt8) (n c : Nat) (ha : Byt w w.heap.size A l) (hl : l.length = n) (hn : n ≤ 70368744177664) :
    Calls Try.prog 14 #[.slice A n c] w fun e w' => ∃ r : Int, e = .returned (.int .i64 r) ∧ w' = w ∧
      ((r = -1 ∧ Vlt (∀ m j, l ≠ m ++ 128 :: List.replicate j 0)) ∨ ∃ k : Nat, r = (k : Int) ∧ k < n ∧ Vlt (l = l.take k ++ 128 :: List.replicate (n - (k + 1)) 0)) := by
  have HL := Lib.hid hl
  clear hl
  go_enter Try.func14, Try.ntmps14
  go_wp2
  go_loopw [3] (fun i wr => ∃ k : Nat, i = .int .i64 ((k : Int) - 1) ∧ k ≤ n ∧ Vlt (l.drop k = List.replicate (n - k) 0) ∧ wr = w) (fun i _ => (intOf i + 1).toNat)
  case atStart => exact ⟨n, by go_num, Nat.le_refl _, vlt (by rw [← HL.out]; simp), rfl⟩
  case round =>
    obtain ⟨k, rfl, hk, h0, rfl⟩ := hrel
    by_cases hk0 : k = 0
    · subst hk0
      have hz := vlt (mark_none (l := l) (n := n) (by simpa using h0.out))
      clear h0
      go_wp2
      go_ret
      exact ⟨-1, rfl, rfl, .inl ⟨rfl, hz⟩⟩
    · obtain ⟨k, rfl⟩ : ∃ k', k = k' + 1 := ⟨k - 1, by omega⟩
      obtain ⟨g, o, x, rfl, hg, hx, hcell, hget⟩ := ha.at_ (k := k) (by rw [HL.out]; omega)
      have e1 : ((k + 1 : Nat) : Int) - 1 = (k : Int) := by omega
      rw [e1]
      clear e1 hk0
      by_cases hx0 : x = 0
      · subst hx0
        have h1 := vlt (zero_more (k := k) (by rw [HL.out]; exact h0.out) hget.out)
        rw [HL.out] at h1
        clear h0
        go_wp2
        go_roundw
        case rel => exact ⟨k, by go_num, by omega, h1, trivial⟩
        case measure => simp [intOf]
      · have hx1 : ¬ (x : Int) = 0 := by omega
        by_cases hx2 : x = 128
        · subst hx2
          have h1 := vlt (mark_yes (k := k) (by rw [HL.out]; exact h0.out) hget.out)
          rw [HL.out] at h1
          clear h0
          go_wp2
          go_ret
          exact ⟨k, rfl, rfl, .inr ⟨k, rfl, by omega, h1⟩⟩
        · have hx3 : ¬ (x : Int) = 128 := by omega
          have h1 := vlt (mark_no (l := l) (k := k) (by rw [HL.out]; omega) (by rw [HL.out]; exact h0.out) (by rw [hget.out]; intro e; injection e with e; have := congrArg UInt8.toNat e; simp at this; omega) (by rw [hget.out]; intro e; injection e with e; have := congrArg UInt8.toNat e; simp at this; omega))
          clear h0
          go_wp2
          go_ret
          exact ⟨-1, rfl, rfl, .inl ⟨rfl, h1⟩⟩
end Go.Proofs.Ytjidiambjhccoaa
