/-
  Contract of pad.Bucket. Conditions: numbers of 64 bits.
-/
import Derived.Test.YtjidiambjhccoaaPaS
namespace Go.Proofs.Ytjidiambjhccoaa
open Go.RowKit

set_option maxRecDepth 100000 in
theorem bucket_ok (w : World) (n : Nat) (hn : n < 65536) :
    Calls Try.prog 8 #[.int .i64 (n : Int)] w fun e w' => ∃ s : Nat, e = .returned (.tuple #[.int .i64 (s : Int), .int .i64 0]) ∧ Vlt (s = bkt n) ∧ n < s ∧ 64 ≤ s ∧ s ≤ 65536 ∧ w' = w := by
  have HN := Lib.hid hn
  have h1 : ¬ ((n : Int) < 0) := by omega
  have h2 : ¬ ((65536 : Int) ≤ (n : Int)) := by omega
  clear hn
  go_enter Try.func8, Try.ntmps8
  go_wp2
  go_loopw [4] (fun s wr => ∃ k : Nat, s = .int .i64 (k : Int) ∧ Vlt (Pw k ∧ (k = 64 ∨ k ≤ 2 * n)) ∧ 64 ≤ k ∧ k ≤ 65536 ∧ wr = w) (fun s _ => 65536 - (intOf s).toNat)
  case atStart => exact ⟨64, rfl, vlt ⟨.inl rfl, .inl rfl⟩, by omega, by omega, rfl⟩
  case round =>
    obtain ⟨k, rfl, hk, hk1, hk2, rfl⟩ := hrel
    by_cases h : k ≤ n
    · have hk3 : Vlt (Pw (2 * k) ∧ (2 * k = 64 ∨ 2 * k ≤ 2 * n)) := vlt ⟨pw_twice hk.out.1 h HN.out, .inr (by omega)⟩
      have hk4 : 2 * k ≤ 65536 := (pw_le hk3.out.1).2
      clear hk
      go_wp2
      go_roundw
      case rel => exact ⟨2 * k, by go_num, hk3, by omega, hk4, trivial⟩
      case measure => simp [intOf]; omega
    · have hk3 := vlt (bkt_is hk.out.1 hk.out.2 (by omega))
      clear hk
      go_wp2
      go_ret2
      exact ⟨k, rfl, hk3, by omega, hk1, hk2, rfl⟩

set_option maxRecDepth 100000 in
theorem bucket_neg (w : World) (v : Int) (h : v < 0) :
    Calls Try.prog 8 #[.int .i64 v] w fun e w' => e = .returned (.tuple #[.int .i64 0, .int .i64 1]) ∧ w' = w := by
  go_enter Try.func8, Try.ntmps8
  go_wp2
  go_ret2
  exact ⟨rfl, rfl⟩

set_option maxRecDepth 100000 in
theorem bucket_over (w : World) (v : Int) (h : 65536 ≤ v) :
    Calls Try.prog 8 #[.int .i64 v] w fun e w' => e = .returned (.tuple #[.int .i64 0, .int .i64 2]) ∧ w' = w := by
  go_enter Try.func8, Try.ntmps8
  go_wp2
  go_ret2
  exact ⟨rfl, rfl⟩
end Go.Proofs.Ytjidiambjhccoaa
