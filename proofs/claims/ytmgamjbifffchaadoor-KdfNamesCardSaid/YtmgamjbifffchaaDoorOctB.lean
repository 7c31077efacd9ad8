/-
  Contracts of octet.Big and octet.Little: b, and the number's lowest bytes behind it. Conditions: the slice is shorter than 2^46 bytes.
-/
import Derived.Test.YtmgamjbifffchaaDoorOctA
import Derived.LoopTactic
import Derived.Laws.Shifts
import Derived.Laws.ShiftsVar
namespace Go.Proofs.YtmgamjbifffchaaDoor
open Go.RowKit

/-- The lowest n bytes of v, the lowest first; the highest first. -/
def le (v : Nat) : Nat → List UInt8
  | 0 => []
  | n + 1 => le v n ++ [UInt8.ofNat (v / 2 ^ (8 * n))]
def be (v : Nat) : Nat → List UInt8
  | 0 => []
  | n + 1 => UInt8.ofNat (v / 2 ^ (8 * n)) :: be v n
theorem le_len (v n : Nat) : (le v n).length = n := by induction n with | zero => rfl | succ n ih => simp [le, ih]
theorem be_len (v n : Nat) : (be v n).length = n := by induction n with | zero => rfl | succ n ih => simp [be, ih]
theorem be_rev (v n : Nat) : be v n = (le v n).reverse := by induction n with | zero => rfl | succ n ih => simp [be, le, ih]

theorem big_any (A : Option Addr) (l : List UInt8) (n c v : Nat) (k : Int) (w : World) (ha : Byt w w.heap.size A l) (hl : l.length = n) (hn : n ≤ 70368744177664) (hv : v < 18446744073709551616) :
    Calls Tryd.prog 18 #[.slice A n c, .int .u64 (v : Int), .int .i64 k] w fun e w' => ∃ A' c', e = .returned (.slice A' (n + wd k) c') ∧ Res w' w.heap.size 5 A' (n + wd k) c' (l ++ be v (wd k)) ∧ Below w.heap.size w w' := by
  have hw := wd_le k
  generalize hm : wd k = m at *
  have HM := Lib.hid hm
  have HL := Lib.hid hl
  clear hm hl
  have HV := Lib.hid hv
  clear hv
  go_enter Tryd.func18, Tryd.ntmps18
  go_wp2_with fail
  refine (width_any _ _).mono ?_
  rintro e w' ⟨rfl, rfl⟩
  rw [HM.out]
  go_wp2_with fail
  refine (roomier_any A l n c m _ ha HL.out (by omega) hw).mono ?_
  rintro e w1 ⟨A1, c1, rfl, hr1, hb1⟩
  have HR := Lib.hid hr1
  clear hr1
  go_wp2_with fail
  go_loopw [7, 8] (fun s i wr => ∃ (k' : Nat) (X : List UInt8) (A2 : Option Addr) (n2 c2 : Nat), k' ≤ m ∧ i = .int .i64 ((k' : Int) - 1) ∧ s = .slice A2 n2 c2 ∧ n2 + k' = n + m ∧ Res wr w.heap.size 5 A2 n2 c2 X ∧ X ++ be v k' = l ++ be v m ∧ Below w.heap.size w wr)
    (fun _ i _ => (intOf i + 1).toNat)
  case atStart => exact ⟨m, l, A1, n, c1, Nat.le_refl _, rfl, rfl, rfl, HR.out, rfl, hb1⟩
  case round =>
    obtain ⟨k', X, A2, n2, c2, hk', rfl, rfl, hn2, hres, hX, hbel⟩ := hrel
    have HX := Lib.hid hX
    have HN := Lib.hid hn2
    have hn3 : n2 ≤ n + m := by omega
    clear hX hn2
    by_cases h0 : 0 < k'
    · obtain ⟨k2, rfl⟩ : ∃ k2, k' = k2 + 1 := ⟨k' - 1, by omega⟩
      go_wp2_with (at_builtin; refine wp_append_bytes _ rfl (.tmp 20) (.tmp 26) 24 rfl 5 Tryd.underlying24 Tryd.infoByte w.heap.size A2 n2 c2 X rfl (hres.alloc _) ⟨wr.heap.size, 0, none⟩ 1 1 rfl [UInt8.ofNat (v / 2 ^ (8 * k2))] rfl (new_byte _ _ _ _ (byte_of v (8 * k2))) (by omega) (by have := hbel.size; simp; omega) ?_)
      intro A3 c3 w3 hres3 hb3
      have hbel3 := hb3 w.heap.size w (Nat.le_refl _) (hbel.alloc (by have := hbel.size; omega) _)
      clear hb3 hres hbel
      go_wp2
      go_roundw
      case rel => exact ⟨k2, _, A3, n2 + 1, c3, by omega, by go_num, rfl, by have := HN.out; omega, hres3, by rw [List.append_assoc]; exact HX.out, hbel3⟩
      case measure => simp [intOf]
    · obtain rfl : k' = 0 := by omega
      go_wp2
      go_ret
      have e1 : n2 = n + m := by have := HN.out; omega
      have e2 : X = l ++ be v m := by have := HX.out; simpa [be] using this
      subst e1 e2
      exact ⟨_, _, rfl, hres, hbel⟩
end Go.Proofs.YtmgamjbifffchaaDoor
