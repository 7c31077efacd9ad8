/-
  Contract of the document's own answer for chapter 1, fourth part: Hex. Conditions: the slice is shorter than 2^45 bytes.
-/
import Derived.Test.YtioodeiloepaaaaHexS
import Derived.Test.YtioodeiloepaaaaOctCD
namespace Go.Proofs.Ytioodeiloepaaaa
open Go.RowKit

theorem refHex_any (A : Option Addr) (l : List UInt8) (n c : Nat) (w : World) (ha : Byt w w.heap.size A l) (hl : l.length = n) (hn : n ≤ 35184372088832) :
    Calls Try.prog 15 #[.slice A n c] w fun e w' => e = .returned (.string ⟨(hexd l).toArray⟩) ∧ Below w.heap.size w w' := by
  obtain ⟨i0, hi, hz0, hz1, hz2⟩ := info_parts Try.infoByte
  obtain ⟨w1, hrun, hg1, hb1, hs1⟩ := make_bytes (P := Try.prog) Try.underlying27 hi hz0 hz1 hz2 0 (2 * n) (0 : Int) (2 * (n : Int)) rfl (by omega) (by omega) (by omega) w
  have HL := Lib.hid hl
  clear hl hi hz0 hz1 hz2
  go_enter Try.func15, Try.ntmps15
  go_wp2
  go_loopw [3, 4] (fun s i wr => ∃ (k : Nat) (A2 : Option Addr) (c2 : Nat), k ≤ n ∧ i = .int .i64 (k : Int) ∧ s = .slice A2 (2 * k) c2 ∧ Res wr w.heap.size 5 A2 (2 * k) c2 (hexd (l.take k)) ∧ Below w.heap.size w wr) (fun _ i _ => n - (intOf i).toNat)
  case atStart => exact ⟨0, _, _, Nat.zero_le _, rfl, rfl, Res.row (Nat.le_refl _) hg1.out (by omega) (by omega) (by simp [bv]) rfl (by simp [hexd, bv]), hb1.out⟩
  case round =>
    obtain ⟨k, A2, c2, hk, rfl, rfl, hres, hbel⟩ := hrel
    by_cases hlt : k < n
    · obtain ⟨g, o, x, rfl, hg, hx, hcell, hget⟩ := (ha.below hbel).at_ (k := k) (by rw [HL.out]; exact hlt)
      have hm : bits .and .u8 (x : Int) 15 = (x : Int) % 16 := by
        have h1 := u8_and_nat x 15 hx (by omega)
        rw [nat_mask4] at h1
        rw [show (15 : Int) = ((15 : Nat) : Int) from rfl, h1]; omega
      have b1 : 0 ≤ (x : Int) / 16 ∧ (x : Int) / 16 < 16 := by omega
      have b2 : 0 ≤ (x : Int) % 16 ∧ (x : Int) % 16 < 16 := by omega
      go_wp2
      go_region_law ((refine step_append_bytes _ rfl (.tmp 15) (.tmp 28) 27 rfl 5 Try.underlying27 Try.infoByte w.heap.size A2 (2 * k) c2 (hexd (l.take k)) (by simp [Act.eval]) (by exact (hres.alloc _).drew) ⟨wr.heap.size, 0, none⟩ 2 2 (by simp [Act.eval]) [dg (x / 16), dg (x % 16)] rfl (new_bytes2d wr _ _ _ _ _ (dig_hi x hx) (dig_lo x)) (by omega) (by have := hbel.size; simp; omega) ?_; intro A3 c3 w3 hres3 hb3))
      all_goals
        have hbel3 := hb3 w.heap.size w (Nat.le_refl _) ((hbel.alloc (by have := hbel.size; omega) _).drew)
        clear hb3 hres hbel
        go_wp2
        go_roundw
        case rel =>
          refine ⟨k + 1, A3, c3, by omega, by go_num, rfl, ?_, hbel3⟩
          rw [take_at hget.out, hexd_app]
          have h3 : Res w3 w.heap.size 5 A3 (2 * (k + 1)) c3 (hexd (l.take k) ++ [dg (x / 16), dg (x % 16)]) := hres3
          simpa [hexd, Nat.mod_eq_of_lt hx] using h3
        case measure => simp [intOf]; omega
    · obtain rfl : k = n := by omega
      have hcv := conv_bytes (P := Try.prog) Try.underlying27 Try.underlying5 Try.underlying9 hres.byt (2 * k) c2 hres.len
      go_wp2
      go_ret
      rw [List.take_of_length_le (by rw [HL.out]; exact Nat.le_refl _)]
      exact ⟨rfl, hbel⟩
end Go.Proofs.Ytioodeiloepaaaa
