/-
  Contract of octet.Little: b, and the number's lowest bytes behind it. Conditions: the slice is shorter than 2^46 bytes.
-/
import Derived.Test.YtioodeiloepaaaaOctBD
namespace Go.Proofs.Ytioodeiloepaaaa
open Go.RowKit

theorem little_any (A : Option Addr) (l : List UInt8) (n c v : Nat) (k : Int) (w : World) (ha : Byt w w.heap.size A l) (hl : l.length = n) (hn : n ≤ 70368744177664) (hv : v < 18446744073709551616) :
    Calls Try.prog 29 #[.slice A n c, .int .u64 (v : Int), .int .i64 k] w fun e w' => ∃ A' c', e = .returned (.slice A' (n + wd k) c') ∧ Res w' w.heap.size 5 A' (n + wd k) c' (l ++ le v (wd k)) ∧ Below w.heap.size w w' := by
  have hw := wd_le k
  generalize hm : wd k = m at *
  have HM := Lib.hid hm
  have HL := Lib.hid hl
  clear hm hl
  have HV := Lib.hid hv
  clear hv
  go_enter Try.func29, Try.ntmps29
  go_wp2_with fail
  refine (width_any _ _).mono ?_
  rintro e w' ⟨rfl, rfl⟩
  rw [HM.out]
  go_wp2_with fail
  refine (roomier_any A l n c m _ ha HL.out (by omega) hw).mono ?_
  rintro e w1 ⟨A1, c1, rfl, hr1, hb1⟩
  have HR := Lib.hid hr1
  clear hr1
  go_wp2_with fail
  go_loopw [7, 8, 15] (fun s _ i wr => ∃ (k' : Nat) (A2 : Option Addr) (c2 : Nat), k' ≤ m ∧ i = .int .i64 (k' : Int) ∧ s = .slice A2 (n + k') c2 ∧ Res wr w.heap.size 5 A2 (n + k') c2 (l ++ le v k') ∧ Below w.heap.size w wr)
    (fun _ _ i _ => m - (intOf i).toNat)
  case atStart => exact ⟨0, A1, c1, Nat.zero_le _, rfl, rfl, by simpa [le] using HR.out, hb1⟩
  case round =>
    obtain ⟨k', A2, c2, hk', rfl, rfl, hres, hbel⟩ := hrel
    by_cases h0 : k' < m
    · go_wp2_with (at_builtin; refine wp_append_bytes _ rfl (.tmp 18) (.tmp 24) 27 rfl 5 Try.underlying27 Try.infoByte w.heap.size A2 (n + k') c2 _ rfl (hres.alloc _) ⟨wr.heap.size, 0, none⟩ 1 1 rfl [UInt8.ofNat (v / 2 ^ (8 * k'))] rfl (new_byte _ _ _ _ (byte_of v (8 * k'))) (by omega) (by have := hbel.size; simp; omega) ?_)
      intro A3 c3 w3 hres3 hb3
      have hbel3 := hb3 w.heap.size w (Nat.le_refl _) (hbel.alloc (by have := hbel.size; omega) _)
      clear hb3 hres hbel
      go_wp2
      go_roundw
      case rel => exact ⟨k' + 1, A3, c3, by omega, by go_num, rfl, by rw [le]; exact hres3, hbel3⟩
      case measure => simp [intOf]; omega
    · obtain rfl : k' = m := by omega
      go_wp2
      go_ret
      exact ⟨_, _, rfl, hres, hbel⟩
end Go.Proofs.Ytioodeiloepaaaa
