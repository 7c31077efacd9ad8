/-
  PadBuckets: the law's Go text returns true, whatever the two numbers. Conditions: numbers of 64 bits.
-/
import Derived.Test.YtjidiambjhccoaaPaW
namespace Go.Proofs.Ytjidiambjhccoaa
open Go.RowKit

set_option maxRecDepth 100000 in
set_option maxHeartbeats 2000000 in
theorem walk_PadBuckets (w : World) (a : Int) (_ : (Lit.int .i64 a).wf = true) (b : Int) (_ : (Lit.int .i64 b).wf = true) :
    Calls Try.prog 6 #[.int .i64 a, .int .i64 b] w fun e w' => e = .returned (.bool true) ∧ Below w.heap.size w w' := by
  go_enter Try.func6, Try.ntmps6
  go_wp2_with fail
  refine (awake12_any w).mono ?_
  rintro e w0 ⟨rfl, rfl⟩
  by_cases h0 : a < 0
  · go_wp2
    go_ret
    exact ⟨rfl, Below.refl _ _⟩
  by_cases h1 : b < a
  · go_wp2
    go_ret
    exact ⟨rfl, Below.refl _ _⟩
  by_cases h2 : 65535 < b
  · go_wp2
    go_ret
    exact ⟨rfl, Below.refl _ _⟩
  obtain ⟨p, rfl⟩ : ∃ p : Nat, a = (p : Int) := ⟨a.toNat, by omega⟩
  obtain ⟨q, rfl⟩ : ∃ q : Nat, b = (q : Int) := ⟨b.toNat, by omega⟩
  have hp := bucket_ok w0 p (by omega)
  have hq := bucket_ok w0 q (by omega)
  go_wp2_with fail
  refine hp.mono ?_
  rintro e w1 ⟨x, rfl, hx, x1, x2, x3, rfl⟩
  clear hp
  go_wp2_with fail
  refine hq.mono ?_
  rintro e w2 ⟨y, rfl, hy, y1, y2, y3, rfl⟩
  clear hq
  have hxy : x ≤ y := by rw [hx.out, hy.out]; exact bkt_mono (by omega) (by omega)
  have hxh : x = 64 ∨ x ≤ 2 * p := by rw [hx.out]; exact bkt_half p
  have hpw := vlt (show Pw x by rw [hx.out]; exact pw_bkt p)
  clear hx hy
  go_wp2
  go_loopw [9] (fun n wr => ∃ k : Nat, n = .int .i64 (k : Int) ∧ Vlt (Pw k) ∧ 64 ≤ k ∧ k ≤ x ∧ wr = w2) (fun n _ => x - (intOf n).toNat)
  case atStart => exact ⟨64, rfl, vlt (.inl rfl), by omega, x2, rfl⟩
  case round =>
    obtain ⟨k, rfl, hk, hk1, hk2, rfl⟩ := hrel
    by_cases h : k < x
    · have hk3 : Vlt (Pw (2 * k)) := vlt (pw_twice hk.out (Nat.le_refl k) (by omega))
      have hk4 : 2 * k ≤ x := pw_gap hk.out hpw.out h
      have hk9 : (k : Int) < 1048576 := by omega
      have hk8 := Lib.hid hk2
      have hk7 := Lib.hid x3
      have hk6 := Lib.hid y3
      clear hk hpw hxh hk2 x3 y3
      go_wp2
      go_roundw
      case rel => exact ⟨2 * k, by go_num, hk3, by omega, hk4, trivial⟩
      case measure => simp [intOf]; omega
    · obtain rfl : k = x := by omega
      clear hk hpw
      by_cases hx : k = 64
      · subst hx
        clear hxh
        go_wp2
        go_ret
        exact ⟨rfl, Below.refl _ _⟩
      · have hk6 : ((k : Int) == 64) = false := by simp; omega
        have hk7 : (k : Int) / 2 ≤ (p : Int) := by omega
        clear hxh
        go_wp2
        go_ret
        exact ⟨rfl, Below.refl _ _⟩
end Go.Proofs.Ytjidiambjhccoaa
