/-
  Contract of wire.front: the number that bytes begin with, and how many bytes it takes. Conditions: the slice is as it came in.
-/
import Derived.Test.YtabgkkdgamacnaaWiS
import Derived.Test.YtabgkkdgamacnaaNew
import Derived.Laws.ShiftsVar
namespace Go.Proofs.Ytabgkkdgamacnaa
open Go.RowKit

theorem i64_or_nat (a b : Nat) (ha : a < 9223372036854775808) (hb : b < 9223372036854775808) : bits .or .i64 (a : Int) (b : Int) = ((a ||| b : Nat) : Int) := by
  have h : (BitVec.ofInt 64 (a : Int) ||| BitVec.ofInt 64 (b : Int)).toNat = a ||| b := by
    rw [BitVec.toNat_or, BitVec.toNat_ofInt, BitVec.toNat_ofInt, show ((a : Int) % ((2 ^ 64 : Nat) : Int)).toNat = a by omega, show ((b : Int) % ((2 ^ 64 : Nat) : Int)).toNat = b by omega]
  have hlt : a ||| b < 2 ^ 63 := Nat.or_lt_two_pow ha hb
  show IntKind.i64.wrap ((BitVec.ofInt 64 (a : Int) ||| BitVec.ofInt 64 (b : Int)).toNat : Int) = _
  rw [h, IntKind.wrap_i64]
  omega
theorem seven_lt (k x : Nat) (hk : k < 9) (hx : x < 128) : x * 2 ^ (7 * k) < 9223372036854775808 := by
  have h1 : 2 ^ (7 * k) ≤ 2 ^ 56 := Nat.pow_le_pow_right (by decide) (by omega)
  have h2 : x * 2 ^ (7 * k) ≤ 127 * 2 ^ 56 := Nat.mul_le_mul (by omega) h1
  omega
theorem or_seven (k V x : Nat) (hk : k < 9) (hV : V < 2 ^ (7 * k)) (hx : x < 128) : bits .or .i64 (V : Int) (IntKind.i64.wrap ((x : Int) * 2 ^ (7 * k))) = ((V + x * 2 ^ (7 * k) : Nat) : Int) := by
  have e : ((x : Int) * 2 ^ (7 * k)) = ((x * 2 ^ (7 * k) : Nat) : Int) := by simp
  have h1 := seven_lt k x hk hx
  have h2 : 2 ^ (7 * k) ≤ 2 ^ 56 := Nat.pow_le_pow_right (by decide) (by omega)
  rw [e, show IntKind.i64.wrap ((x * 2 ^ (7 * k) : Nat) : Int) = ((x * 2 ^ (7 * k) : Nat) : Int) by rw [IntKind.wrap_i64]; omega, i64_or_nat _ _ (by omega) h1, or_add V x _ hV]
theorem seven_next (k V x : Nat) (hV : V < 2 ^ (7 * k)) (hx : x < 128) : V + x * 2 ^ (7 * k) < 2 ^ (7 * (k + 1)) := by
  have hp : 2 ^ (7 * (k + 1)) = 128 * 2 ^ (7 * k) := by rw [show 7 * (k + 1) = 7 * k + 7 by omega, Nat.pow_add, Nat.mul_comm]
  have : x * 2 ^ (7 * k) ≤ 127 * 2 ^ (7 * k) := Nat.mul_le_mul_right _ (by omega)
  omega
theorem frL_at {l : List UInt8} {k : Nat} {b : UInt8} (h : l[k]? = some b) (V : Nat) : frL (l.drop k) k V = if 128 ≤ b.toNat then frL (l.drop (k + 1)) (k + 1) (V + b.toNat % 128 * 2 ^ (7 * k)) else if b.toNat = 0 ∧ 0 < k then (0, 0) else (V + b.toNat * 2 ^ (7 * k), k + 1) := by
  obtain ⟨hk, rfl⟩ := List.getElem?_eq_some_iff.1 h
  rw [List.drop_eq_getElem_cons hk, frL]

set_option maxRecDepth 100000 in
set_option maxHeartbeats 1000000 in
theorem front_any (w : World) (A : Option Addr) (l : List UInt8) (n c : Nat) (ha : Byt w w.heap.size A l) (hl : l.length = n) (hc : n ≤ c) :
    Calls Try.prog 44 #[.slice A n c] w fun e w' => ∃ v s : Nat, e = .returned (.tuple #[.int .i64 (v : Int), .int .i64 (s : Int)]) ∧ Vlt ((v, s) = frontOf l) ∧ w = w' := by
  obtain ⟨t, ht, htn⟩ : ∃ t, t = min n 9 ∧ (l.take 9).length = t := ⟨min n 9, rfl, by rw [List.length_take, hl]; exact Nat.min_comm _ _⟩
  have ht9 : t ≤ 9 := by omega
  have hcut := fun w0 => run_cut_h (P := Try.prog) Try.underlying29 Try.sizeByte A n c t (t : Int) rfl (by omega) w0
  obtain ⟨m, hm⟩ : ∃ m, m = l.take 9 := ⟨_, rfl⟩
  have ham : Byt w w.heap.size A m := by rw [hm]; exact ha.take 9
  have HML := Lib.hid (show m.length = t by rw [hm]; exact htn)
  have HF := vlt (show frL m 0 0 = frontOf l by rw [hm]; rfl)
  have hmin : min (n : Int) 9 = (t : Int) := by omega
  clear hm htn hl ha
  by_cases h9 : 9 < n
  · obtain rfl : t = 9 := by omega
    clear ht9 ht hmin
    go_enter Try.func44, Try.ntmps44
    go_wp2
    go_loopw [2, 12] (fun a i wr => ∃ k V : Nat, k ≤ 9 ∧ i = .int .i64 (k : Int) ∧ a = .int .i64 (V : Int) ∧ Hid (V < 2 ^ (7 * k)) ∧ Vlt (frL (m.drop k) k V = frontOf l) ∧ wr = w) (fun _ i _ => 9 - (intOf i).toNat)
    case atStart => exact ⟨0, 0, Nat.zero_le _, rfl, rfl, show _ < _ by decide, HF, rfl⟩
    case round =>
      obtain ⟨k, V, hk, rfl, rfl, hV, HK, rfl⟩ := hrel
      by_cases hlt : k < 9
      · obtain ⟨g, o, x, rfl, hg, hx, hcell, hget⟩ := ham.at_ (k := k) (by rw [HML.out]; exact hlt)
        have hxx : (UInt8.ofNat x).toNat = x := by simp; omega
        have HK2 := vlt (HK.out.symm.trans (frL_at hget.out V))
        rw [hxx] at HK2
        have h7 := or_seven k V (x % 128) (by omega) hV.out (Nat.mod_lt _ (by decide))
        have h8 := Lib.hid (seven_next k V (x % 128) hV.out (Nat.mod_lt _ (by decide)))
        have h9 := Lib.hid (show x % 128 ≤ x from Nat.mod_le _ _)
        obtain ⟨Y, hY⟩ : ∃ Y, Y = V + x % 128 * 2 ^ (7 * k) := ⟨_, rfl⟩
        rw [← hY] at h7 h8
        have HY := vlt hY
        rw [Int.natCast_emod] at h7
        have h7' : bits .or .i64 (V : Int) (Go.RowKit.wrap64 (((x : Int) % 128) * 2 ^ (7 * k))) = (Y : Int) := by rw [← IntWalk.i64_left]; exact h7
        clear h7 hY hxx HK ham
        by_cases hm : 128 ≤ x
        · have HK3 : Vlt (frL (m.drop (k + 1)) (k + 1) Y = frontOf l) := vlt (by rw [HK2.out, if_pos hm, ← HY.out])
          clear HK2 HY
          go_wp2
          go_roundw
          case rel => exact ⟨k + 1, Y, by omega, by go_num, rfl, h8, HK3, trivial⟩
          case measure => simp [intOf]; omega
        · have hxm : (x : Int) % 128 = (x : Int) := by omega
          rw [hxm] at h7'
          have hY2 : Vlt (Y = V + x * 2 ^ (7 * k)) := vlt (by rw [HY.out, Nat.mod_eq_of_lt (show x < 128 by omega)])
          clear HY h8 h9
          by_cases hx0 : x = 0
          · have hxl : (x : Int) ≤ 0 := by omega
            by_cases hk0 : 0 < k
            · have HK3 : Vlt ((0, 0) = frontOf l) := vlt (by rw [HK2.out, if_neg hm, if_pos ⟨hx0, hk0⟩])
              clear HK2 hY2 hx0
              go_wp2
              go_ret2
              exact ⟨0, 0, rfl, HK3, rfl⟩
            · have HK3 : Vlt ((Y, k + 1) = frontOf l) := vlt (by rw [HK2.out, if_neg hm, if_neg (fun h => hk0 h.2), ← hY2.out])
              clear HK2 hY2 hx0
              go_wp2
              go_ret2
              exact ⟨Y, k + 1, by go_num, HK3, rfl⟩
          · have HK3 : Vlt ((Y, k + 1) = frontOf l) := vlt (by rw [HK2.out, if_neg hm, if_neg (fun h => hx0 h.1), ← hY2.out])
            clear HK2 hY2
            go_wp2
            go_ret2
            exact ⟨Y, k + 1, by go_num, HK3, rfl⟩
      · obtain rfl : k = 9 := by omega
        have HK3 : Vlt ((0, 0) = frontOf l) := vlt (by rw [← HK.out, List.drop_eq_nil_of_le (by rw [HML.out]; exact Nat.le_refl _), frL])
        clear HK
        go_wp2
        go_ret2
        exact ⟨0, 0, rfl, HK3, rfl⟩
  · obtain rfl : t = n := by omega
    clear ht9 ht hmin
    go_enter Try.func44, Try.ntmps44
    go_wp2
    go_loopw [2, 12] (fun a i wr => ∃ k V : Nat, k ≤ t ∧ i = .int .i64 (k : Int) ∧ a = .int .i64 (V : Int) ∧ Hid (V < 2 ^ (7 * k)) ∧ Vlt (frL (m.drop k) k V = frontOf l) ∧ wr = w) (fun _ i _ => t - (intOf i).toNat)
    case atStart => exact ⟨0, 0, Nat.zero_le _, rfl, rfl, show _ < _ by decide, HF, rfl⟩
    case round =>
      obtain ⟨k, V, hk, rfl, rfl, hV, HK, rfl⟩ := hrel
      by_cases hlt : k < t
      · obtain ⟨g, o, x, rfl, hg, hx, hcell, hget⟩ := ham.at_ (k := k) (by rw [HML.out]; exact hlt)
        have hxx : (UInt8.ofNat x).toNat = x := by simp; omega
        have HK2 := vlt (HK.out.symm.trans (frL_at hget.out V))
        rw [hxx] at HK2
        have h7 := or_seven k V (x % 128) (by omega) hV.out (Nat.mod_lt _ (by decide))
        have h8 := Lib.hid (seven_next k V (x % 128) hV.out (Nat.mod_lt _ (by decide)))
        have h9 := Lib.hid (show x % 128 ≤ x from Nat.mod_le _ _)
        obtain ⟨Y, hY⟩ : ∃ Y, Y = V + x % 128 * 2 ^ (7 * k) := ⟨_, rfl⟩
        rw [← hY] at h7 h8
        have HY := vlt hY
        rw [Int.natCast_emod] at h7
        have h7' : bits .or .i64 (V : Int) (Go.RowKit.wrap64 (((x : Int) % 128) * 2 ^ (7 * k))) = (Y : Int) := by rw [← IntWalk.i64_left]; exact h7
        clear h7 hY hxx HK ham
        by_cases hm : 128 ≤ x
        · have HK3 : Vlt (frL (m.drop (k + 1)) (k + 1) Y = frontOf l) := vlt (by rw [HK2.out, if_pos hm, ← HY.out])
          clear HK2 HY
          go_wp2
          go_roundw
          case rel => exact ⟨k + 1, Y, by omega, by go_num, rfl, h8, HK3, trivial⟩
          case measure => simp [intOf]; omega
        · have hxm : (x : Int) % 128 = (x : Int) := by omega
          rw [hxm] at h7'
          have hY2 : Vlt (Y = V + x * 2 ^ (7 * k)) := vlt (by rw [HY.out, Nat.mod_eq_of_lt (show x < 128 by omega)])
          clear HY h8 h9
          by_cases hx0 : x = 0
          · have hxl : (x : Int) ≤ 0 := by omega
            by_cases hk0 : 0 < k
            · have HK3 : Vlt ((0, 0) = frontOf l) := vlt (by rw [HK2.out, if_neg hm, if_pos ⟨hx0, hk0⟩])
              clear HK2 hY2 hx0
              go_wp2
              go_ret2
              exact ⟨0, 0, rfl, HK3, rfl⟩
            · have HK3 : Vlt ((Y, k + 1) = frontOf l) := vlt (by rw [HK2.out, if_neg hm, if_neg (fun h => hk0 h.2), ← hY2.out])
              clear HK2 hY2 hx0
              go_wp2
              go_ret2
              exact ⟨Y, k + 1, by go_num, HK3, rfl⟩
          · have HK3 : Vlt ((Y, k + 1) = frontOf l) := vlt (by rw [HK2.out, if_neg hm, if_neg (fun h => hx0 h.1), ← hY2.out])
            clear HK2 hY2
            go_wp2
            go_ret2
            exact ⟨Y, k + 1, by go_num, HK3, rfl⟩
      · obtain rfl : k = t := by omega
        have HK3 : Vlt ((0, 0) = frontOf l) := vlt (by rw [← HK.out, List.drop_eq_nil_of_le (by rw [HML.out]; exact Nat.le_refl _), frL])
        clear HK
        go_wp2
        go_ret2
        exact ⟨0, 0, rfl, HK3, rfl⟩
end Go.Proofs.Ytabgkkdgamacnaa
