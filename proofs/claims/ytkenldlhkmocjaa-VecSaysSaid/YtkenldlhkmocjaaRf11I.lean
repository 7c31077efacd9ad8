/-
  Contract of the document's own answer for chapter 11: Num, of numbers below nought too. Conditions: fewer than 2^45 bytes.
-/
import Derived.Test.YtkenldlhkmocjaaRf11N
namespace Go.Proofs.Ytkenldlhkmocjaa
open Go.RowKit

set_option maxRecDepth 100000 in
set_option maxHeartbeats 1000000 in
theorem rfnum_neg (w : World) (A : Option Addr) (l : List UInt8) (n c : Nat) (v : Int) (ha : Byt w w.heap.size A l) (hl : l.length = n) (hn : n ≤ 70368744177664) (hv : v < 0) :
    Calls Try.prog 35 #[.slice A n c, .int .i64 v] w fun e w' => ∃ A' m c', e = .returned (.slice A' m c') ∧ Res w' w.heap.size 5 A' m c' (l ++ gr 0) ∧ Below w.heap.size w w' := by
  have HL := Lib.hid hl
  clear hl
  go_enter Try.func35, Try.ntmps35
  go_wp2_with (at_builtin; refine wp_append_src _ rfl (.tmp 6) (.tmp 7) 25 rfl 5 Try.underlying25 Try.infoByte w.heap.size (some ⟨w.heap.size, 0, none⟩) 0 0 [] rfl (Res.none_lit w _ _ (Nat.le_refl _)) A n c rfl _ l (ha.alloc (Nat.le_refl _) _) HL.out (by omega) (by simp) ?_)
  intro A1 c1 w1 hr1 hb1'
  have hb1 := hb1' w.heap.size w (Nat.le_refl _) ((Below.refl _ _).alloc (Nat.le_refl _) _)
  clear hb1'
  have hr2 : Hid (Res w1 w.heap.size 5 A1 n c1 l) := by
    have h := hr1
    show Res _ _ _ _ _ _ _
    simpa using h
  clear hr1
  go_wp2_with fail
  go_loopw [1, 5] (fun a s wr => ∃ (k f m c' : Nat) (A' : Option Addr) (X : List UInt8), a = .int .i64 (k : Int) ∧ s = .slice A' m c' ∧ k < 2 ^ (7 * (f + 1)) ∧ k < 9223372036854775808 ∧ m + f ≤ n + 8 ∧ Hid (X ++ grN f k = l ++ gr 0) ∧ Hid (Res wr w.heap.size 5 A' m c' X) ∧ Below w.heap.size w wr) (fun a _ _ => (intOf a).toNat)
  case atStart => exact ⟨0, 8, n, c1, A1, l, rfl, rfl, by decide, by decide, Nat.le_refl _, rfl, hr2, hb1⟩
  case round =>
    clear hr2 hb1
    obtain ⟨k, f, m, c', A', X, rfl, rfl, hkf, hk, hm, hX, HR, hb⟩ := hrel
    by_cases h0 : k < 128
    · have hX2 : Hid (l ++ gr 0 = X ++ [UInt8.ofNat k]) := by
        show _ = _
        rw [← hX.out, grN_small f k h0]
      go_wp2_with (at_builtin; refine wp_append_bytes _ rfl (.tmp 22) (.tmp 25) 25 rfl 5 Try.underlying25 Try.infoByte w.heap.size A' m c' X rfl (HR.out.alloc _) ⟨wr.heap.size, 0, none⟩ 1 1 rfl [UInt8.ofNat k] rfl (new_byte _ _ _ _ (by simp; omega)) (by omega) (by have := hb.size; simp; omega) ?_)
      intro A3 c3 w3 hres3 hb3
      have hbel3 := hb3 w.heap.size w (Nat.le_refl _) (hb.alloc (by have := hb.size; omega) _)
      clear hb3
      go_wp2
      go_ret
      exact ⟨A3, m + 1, c3, rfl, by rw [hX2.out]; exact hres3, hbel3⟩
    · obtain ⟨f', rfl⟩ : ∃ f', f = f' + 1 := by
        cases f with
        | zero => exact absurd (show k < 128 by simpa using hkf) h0
        | succ f' => exact ⟨f', rfl⟩
      have hX2 : Hid ((X ++ [UInt8.ofNat (k % 128 + 128)]) ++ grN f' (k / 128) = l ++ gr 0) := by
        show _ = _
        rw [← hX.out, grN_more f' k h0, List.append_assoc]; rfl
      have hkf2 : k / 128 < 2 ^ (7 * (f' + 1)) := by
        have : 2 ^ (7 * (f' + 1 + 1)) = 2 ^ (7 * (f' + 1)) * 128 := by rw [show 7 * (f' + 1 + 1) = 7 * (f' + 1) + 7 by omega, Nat.pow_add]
        rw [this] at hkf
        exact Nat.div_lt_of_lt_mul (by rw [Nat.mul_comm]; exact hkf)
      obtain ⟨y, hy⟩ : ∃ y, y = k % 128 + 128 := ⟨_, rfl⟩
      rw [← hy] at hX2
      have hy1 : (k : Int) % 128 + 128 = (y : Int) := by omega
      have hy2 : y < 256 := by omega
      clear hy
      clear hkf hX
      go_wp2_with (at_builtin; refine wp_append_bytes _ rfl (.tmp 13) (.tmp 18) 25 rfl 5 Try.underlying25 Try.infoByte w.heap.size A' m c' X rfl (HR.out.alloc _) ⟨wr.heap.size, 0, none⟩ 1 1 rfl [UInt8.ofNat y] rfl (new_byte _ _ _ _ (by simp; omega)) (by omega) (by have := hb.size; simp; omega) ?_)
      intro A3 c3 w3 hres3 hb3
      have hbel3 := hb3 w.heap.size w (Nat.le_refl _) (hb.alloc (by have := hb.size; omega) _)
      clear hb3
      go_wp2
      go_roundw
      case rel => exact ⟨k / 128, f', m + 1, c3, A3, _, by go_num, rfl, hkf2, by omega, by omega, hX2, hres3, hbel3⟩
      case measure => simp [intOf]; omega

theorem rfnum_int (w : World) (A : Option Addr) (l : List UInt8) (n c : Nat) (v : Int) (x : Nat) (ha : Byt w w.heap.size A l) (hl : l.length = n) (hn : n ≤ 70368744177664) (hx : x < 9223372036854775808) (hv : max v 0 = (x : Int)) :
    Calls Try.prog 35 #[.slice A n c, .int .i64 v] w fun e w' => ∃ A' m c', e = .returned (.slice A' m c') ∧ Res w' w.heap.size 5 A' m c' (l ++ gr x) ∧ Below w.heap.size w w' := by
  by_cases h : v < 0
  · obtain rfl : x = 0 := by omega
    exact rfnum_neg w A l n c v ha hl hn h
  · obtain rfl : v = (x : Int) := by omega
    exact rfnum_any w A l n c x ha hl hn hx
end Go.Proofs.Ytkenldlhkmocjaa
