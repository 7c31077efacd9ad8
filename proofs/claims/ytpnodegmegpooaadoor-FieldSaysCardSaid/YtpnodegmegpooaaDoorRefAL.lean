/-
  Contract of the document's own Little. Conditions: the slice is shorter than 2^46 bytes.
-/
import Derived.Test.YtpnodegmegpooaaDoorRefH
namespace Go.Proofs.YtpnodegmegpooaaDoor
open Go.RowKit

theorem refLittle_any (A : Option Addr) (l : List UInt8) (n c v : Nat) (k : Int) (w : World) (ha : Byt w w.heap.size A l) (hl : l.length = n) (hn : n ≤ 70368744177664) (hv : v < 18446744073709551616) :
    Calls Tryd.prog 43 #[.slice A n c, .int .u64 (v : Int), .int .i64 k] w fun e w' => ∃ A' c', e = .returned (.slice A' (n + wd k) c') ∧ Res w' w.heap.size 5 A' (n + wd k) c' (l ++ le v (wd k)) ∧ Below w.heap.size w w' := by
  have hw := wd_le k
  generalize hm : wd k = m at *
  have HM := Lib.hid hm
  have HL := Lib.hid hl
  clear hm hl
  have HV := Lib.hid hv
  clear hv
  go_enter Tryd.func43, Tryd.ntmps43
  go_wp2_with (at_builtin; refine wp_append_src _ rfl (.tmp 9) (.tmp 10) 47 rfl 5 Tryd.underlying47 Tryd.infoByte w.heap.size (some ⟨w.heap.size, 0, none⟩) 0 0 [] rfl (Res.none_lit w _ _ (Nat.le_refl _)) A n c rfl w.heap.size l (ha.alloc (Nat.le_refl _) _) HL.out (by omega) (by simp) ?_)
  intro A1 c1 w1 hr1 hb1'
  have hb1 := hb1' w.heap.size w (Nat.le_refl _) ((Below.refl _ _).alloc (Nat.le_refl _) _)
  clear hb1'
  have HR := Lib.hid hr1
  clear hr1
  go_wp2_with fail
  go_loopw [7, 8] (fun s i wr => ∃ (k' : Nat) (A2 : Option Addr) (c2 : Nat), k' ≤ m ∧ i = .int .i64 (k' : Int) ∧ s = .slice A2 (n + k') c2 ∧ Res wr w.heap.size 5 A2 (n + k') c2 (l ++ le v k') ∧ Below w.heap.size w wr)
    (fun _ i _ => m - (intOf i).toNat)
  case atStart => exact ⟨0, A1, c1, Nat.zero_le _, rfl, rfl, by simpa [le] using HR.out, hb1⟩
  case round =>
    obtain ⟨k', A2, c2, hk', rfl, rfl, hres, hbel⟩ := hrel
    by_cases h0 : k' < m
    · go_wp2_with fail
      refine (held_any _ _).mono ?_
      rintro e w' ⟨rfl, rfl⟩
      rw [HM.out]
      go_wp2_with (at_builtin; refine wp_append_bytes _ rfl (.tmp 18) (.tmp 25) 47 rfl 5 Tryd.underlying47 Tryd.infoByte w.heap.size A2 (n + k') c2 _ rfl (hres.alloc _) ⟨wr.heap.size, 0, none⟩ 1 1 rfl [UInt8.ofNat (v / 2 ^ (8 * k'))] rfl (new_byte _ _ _ _ (byte_of v (8 * k'))) (by omega) (by have := hbel.size; simp; omega) ?_)
      intro A3 c3 w3 hres3 hb3
      have hbel3 := hb3 w.heap.size w (Nat.le_refl _) (hbel.alloc (by have := hbel.size; omega) _)
      clear hb3 hres hbel
      go_wp2
      go_roundw
      case rel => exact ⟨k' + 1, A3, c3, by omega, by go_num, rfl, by rw [le]; exact hres3, hbel3⟩
      case measure => simp [intOf]; omega
    · obtain rfl : k' = m := by omega
      go_wp2_with fail
      refine (held_any _ _).mono ?_
      rintro e w' ⟨rfl, rfl⟩
      rw [HM.out]
      go_wp2
      go_ret
      exact ⟨_, _, rfl, hres, hbel⟩
end Go.Proofs.YtpnodegmegpooaaDoor
