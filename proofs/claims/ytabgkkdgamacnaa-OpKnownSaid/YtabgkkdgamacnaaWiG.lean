/-
  Contract of wire.groups: a number's bytes. Conditions: the number is one of 64 bits.
-/
import Derived.Test.YtabgkkdgamacnaaWiS
import Derived.Test.YtabgkkdgamacnaaNew
namespace Go.Proofs.Ytabgkkdgamacnaa
open Go.RowKit

theorem u8_128 (x : Nat) (hx : x < 128) : bits .or .i64 (x : Int) 128 = ((x + 128 : Nat) : Int) := by
  have h : (BitVec.ofInt 64 (x : Int) ||| BitVec.ofInt 64 128).toNat = x + 128 := by
    rw [BitVec.toNat_or, BitVec.toNat_ofInt, show ((x : Int) % ((2 ^ 64 : Nat) : Int)).toNat = x by omega, show (BitVec.ofInt 64 128).toNat = 1 * 2 ^ 7 from rfl, or_add x 1 7 hx]
  show IntKind.i64.wrap ((BitVec.ofInt 64 (x : Int) ||| BitVec.ofInt 64 128).toNat : Int) = _
  rw [h, IntKind.wrap_i64]
  omega
theorem make9 (w : World) : (Instr.makeSlice 29 (.int .i64 0) (.int .i64 9)).run Try.prog w = .ok (.slice (some ⟨w.heap.size, 0, none⟩) 0 9) (w.alloc (.cells (bv (List.replicate 9 0)).toArray 5)) := by kernel_rfl
theorem Res.made9 (w : World) : Res (w.alloc (.cells (bv (List.replicate 9 0)).toArray 5)) w.heap.size 5 (some ⟨w.heap.size, 0, none⟩) 0 9 [] :=
  Res.row (Nat.le_refl _) (heap_alloc_new w _) (by omega) (by omega) rfl rfl rfl

set_option maxRecDepth 100000 in
set_option maxHeartbeats 1000000 in
theorem groups_any (w : World) (v : Int) (x : Nat) (hx : x < 9223372036854775808) (hv : max v 0 = (x : Int)) :
    Calls Try.prog 50 #[.int .i64 v] w fun e w' => ∃ A n c, e = .returned (.slice A n c) ∧ Res w' w.heap.size 5 A n c (gr x) ∧ Below w.heap.size w w' := by
  have hmk := make9 w
  obtain ⟨W, hW, _, hbW, hsW⟩ := one_new w (bv (List.replicate 9 0)).toArray 5
  have hr0 := Lib.hid (Res.made9 w)
  rw [hW] at hmk hr0
  clear hW
  rcases Int.lt_or_le v 0 with h | h
  · obtain rfl : x = 0 := by omega
    clear hv
    go_enter Try.func50, Try.ntmps50
    go_wp2
    go_loopw [0, 3] (fun a s wr => ∃ (k f m c' : Nat) (A' : Option Addr) (X : List UInt8), a = .int .i64 (k : Int) ∧ s = .slice A' m c' ∧ k < 2 ^ (7 * (f + 1)) ∧ k < 9223372036854775808 ∧ m + f ≤ 8 ∧ Hid (X ++ grN f k = gr 0) ∧ Hid (Res wr w.heap.size 5 A' m c' X) ∧ Below w.heap.size w wr) (fun a _ _ => (intOf a).toNat)
    case atStart => exact ⟨0, 8, 0, 9, _, [], rfl, rfl, by simp, by decide, Nat.le_refl _, rfl, hr0, hbW⟩
    case round =>
      clear hr0 hbW hmk hsW
      obtain ⟨k, f, m, c', A', X, rfl, rfl, hkf, hk, hm, hX, HR, hb⟩ := hrel
      by_cases h0 : k < 128
      · have hX2 : Hid (gr 0 = X ++ [UInt8.ofNat k]) := by
          show _ = _
          rw [← hX.out, grN_small f k h0]
        go_wp2_with (at_builtin; refine wp_append_bytes _ rfl (.tmp 18) (.tmp 21) 29 rfl 5 Try.underlying29 Try.infoByte w.heap.size A' m c' X rfl (HR.out.alloc _) ⟨wr.heap.size, 0, none⟩ 1 1 rfl [UInt8.ofNat k] rfl (new_byte _ _ _ _ (by simp; omega)) (by omega) (by have := hb.size; simp; omega) ?_)
        intro A3 c3 w3 hres3 hb3
        have hbel3 := hb3 w.heap.size w (Nat.le_refl _) (hb.alloc (by have := hb.size; omega) _)
        clear hb3
        go_wp2
        go_ret
        exact ⟨A3, m + 1, c3, rfl, by rw [hX2.out]; exact hres3, hbel3⟩
      · obtain ⟨f', rfl⟩ : ∃ f', f = f' + 1 := by
          cases f with
          | zero => exact absurd (show k < 128 by simpa using hkf) h0
          | succ f' => exact ⟨f', rfl⟩
        have hX2 : Hid ((X ++ [UInt8.ofNat (k % 128 + 128)]) ++ grN f' (k / 128) = gr 0) := by
          show _ = _
          rw [← hX.out, grN_more f' k h0, List.append_assoc]; rfl
        have hkf2 : k / 128 < 2 ^ (7 * (f' + 1)) := by
          have : 2 ^ (7 * (f' + 1 + 1)) = 2 ^ (7 * (f' + 1)) * 128 := by rw [show 7 * (f' + 1 + 1) = 7 * (f' + 1) + 7 by omega, Nat.pow_add]
          rw [this] at hkf
          exact Nat.div_lt_of_lt_mul (by rw [Nat.mul_comm]; exact hkf)
        obtain ⟨y, hy⟩ : ∃ y, y = k % 128 + 128 := ⟨_, rfl⟩
        have e1 : bits .or .i64 ((k : Int) % 128) 128 = (y : Int) := by
          have h := u8_128 (k % 128) (Nat.mod_lt _ (by decide))
          rw [← hy, Int.natCast_emod] at h
          exact h
        rw [← hy] at hX2
        have hy2 : y < 256 := by omega
        clear hy
        clear hkf hX
        go_wp2_with (at_builtin; refine wp_append_bytes _ rfl (.tmp 9) (.tmp 14) 29 rfl 5 Try.underlying29 Try.infoByte w.heap.size A' m c' X rfl (HR.out.alloc _) ⟨wr.heap.size, 0, none⟩ 1 1 rfl [UInt8.ofNat y] rfl (new_byte _ _ _ _ (by simp; omega)) (by omega) (by have := hb.size; simp; omega) ?_)
        intro A3 c3 w3 hres3 hb3
        have hbel3 := hb3 w.heap.size w (Nat.le_refl _) (hb.alloc (by have := hb.size; omega) _)
        clear hb3
        go_wp2
        go_roundw
        case rel => exact ⟨k / 128, f', m + 1, c3, A3, _, by go_num, rfl, hkf2, by omega, by omega, hX2, hres3, hbel3⟩
        case measure => simp [intOf]; omega
  · obtain rfl : v = (x : Int) := by omega
    clear hv
    go_enter Try.func50, Try.ntmps50
    go_wp2
    go_loopw [0, 3] (fun a s wr => ∃ (k f m c' : Nat) (A' : Option Addr) (X : List UInt8), a = .int .i64 (k : Int) ∧ s = .slice A' m c' ∧ k < 2 ^ (7 * (f + 1)) ∧ k < 9223372036854775808 ∧ m + f ≤ 8 ∧ Hid (X ++ grN f k = gr x) ∧ Hid (Res wr w.heap.size 5 A' m c' X) ∧ Below w.heap.size w wr) (fun a _ _ => (intOf a).toNat)
    case atStart => exact ⟨x, 8, 0, 9, _, [], rfl, rfl, by simpa using hx, hx, Nat.le_refl _, rfl, hr0, hbW⟩
    case round =>
      clear hr0 hbW hmk hsW
      obtain ⟨k, f, m, c', A', X, rfl, rfl, hkf, hk, hm, hX, HR, hb⟩ := hrel
      by_cases h0 : k < 128
      · have hX2 : Hid (gr x = X ++ [UInt8.ofNat k]) := by
          show _ = _
          rw [← hX.out, grN_small f k h0]
        go_wp2_with (at_builtin; refine wp_append_bytes _ rfl (.tmp 18) (.tmp 21) 29 rfl 5 Try.underlying29 Try.infoByte w.heap.size A' m c' X rfl (HR.out.alloc _) ⟨wr.heap.size, 0, none⟩ 1 1 rfl [UInt8.ofNat k] rfl (new_byte _ _ _ _ (by simp; omega)) (by omega) (by have := hb.size; simp; omega) ?_)
        intro A3 c3 w3 hres3 hb3
        have hbel3 := hb3 w.heap.size w (Nat.le_refl _) (hb.alloc (by have := hb.size; omega) _)
        clear hb3
        go_wp2
        go_ret
        exact ⟨A3, m + 1, c3, rfl, by rw [hX2.out]; exact hres3, hbel3⟩
      · obtain ⟨f', rfl⟩ : ∃ f', f = f' + 1 := by
          cases f with
          | zero => exact absurd (show k < 128 by simpa using hkf) h0
          | succ f' => exact ⟨f', rfl⟩
        have hX2 : Hid ((X ++ [UInt8.ofNat (k % 128 + 128)]) ++ grN f' (k / 128) = gr x) := by
          show _ = _
          rw [← hX.out, grN_more f' k h0, List.append_assoc]; rfl
        have hkf2 : k / 128 < 2 ^ (7 * (f' + 1)) := by
          have : 2 ^ (7 * (f' + 1 + 1)) = 2 ^ (7 * (f' + 1)) * 128 := by rw [show 7 * (f' + 1 + 1) = 7 * (f' + 1) + 7 by omega, Nat.pow_add]
          rw [this] at hkf
          exact Nat.div_lt_of_lt_mul (by rw [Nat.mul_comm]; exact hkf)
        obtain ⟨y, hy⟩ : ∃ y, y = k % 128 + 128 := ⟨_, rfl⟩
        have e1 : bits .or .i64 ((k : Int) % 128) 128 = (y : Int) := by
          have h := u8_128 (k % 128) (Nat.mod_lt _ (by decide))
          rw [← hy, Int.natCast_emod] at h
          exact h
        rw [← hy] at hX2
        have hy2 : y < 256 := by omega
        clear hy
        clear hkf hX
        go_wp2_with (at_builtin; refine wp_append_bytes _ rfl (.tmp 9) (.tmp 14) 29 rfl 5 Try.underlying29 Try.infoByte w.heap.size A' m c' X rfl (HR.out.alloc _) ⟨wr.heap.size, 0, none⟩ 1 1 rfl [UInt8.ofNat y] rfl (new_byte _ _ _ _ (by simp; omega)) (by omega) (by have := hb.size; simp; omega) ?_)
        intro A3 c3 w3 hres3 hb3
        have hbel3 := hb3 w.heap.size w (Nat.le_refl _) (hb.alloc (by have := hb.size; omega) _)
        clear hb3
        go_wp2
        go_roundw
        case rel => exact ⟨k / 128, f', m + 1, c3, A3, _, by go_num, rfl, hkf2, by omega, by omega, hX2, hres3, hbel3⟩
        case measure => simp [intOf]; omega
end Go.Proofs.Ytabgkkdgamacnaa
