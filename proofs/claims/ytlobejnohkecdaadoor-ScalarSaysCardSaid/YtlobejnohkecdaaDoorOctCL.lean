/-
  Contract of octet.FromLittle: the number that up to eight bytes tell, EARG of more. Conditions: the slice is shorter than 2^47 bytes.
-/
import Derived.Test.YtlobejnohkecdaaDoorOctCD
namespace Go.Proofs.YtlobejnohkecdaaDoor
open Go.RowKit

theorem fromLittle_ok (A : Option Addr) (l : List UInt8) (n c : Nat) (w : World) (ha : Byt w w.heap.size A l) (hl : l.length = n) (h8 : n ≤ 8) :
    Calls Tryd.prog 30 #[.slice A n c] w fun e w' => e = .returned (.tuple #[.int .u64 (ln l : Int), .int .i64 0]) ∧ w = w' := by
  have HL := Lib.hid hl
  clear hl
  go_enter Tryd.func30, Tryd.ntmps30
  go_wp2
  go_loop [4, 5, 6, 12] (fun t _ _ i => ∃ k V : Nat, k ≤ n ∧ i = .int .i64 (k : Int) ∧ t = .int .u64 (V : Int) ∧ V = ln (l.take k)) (fun _ _ _ i => n - (intOf i).toNat)
  case atStart => exact ⟨0, 0, Nat.zero_le _, rfl, rfl, by simp [ln]⟩
  case round =>
    obtain ⟨k, V, hk, rfl, rfl, hV⟩ := hrel
    have HV := Lib.hid hV
    by_cases hlt : k < n
    · have hb := Lib.hid (ln_lt k (l.take k) (by rw [List.length_take, HL.out]; omega))
      clear hV
      obtain ⟨g, o, x, rfl, hg, hx, hcell, hget⟩ := ha.at_ (k := k) (by rw [HL.out]; exact hlt)
      go_wp2
      have hlen : (l.take k).length = k := by rw [List.length_take, HL.out]; omega
      exact ⟨⟨k + 1, V + x * 256 ^ k, by omega, by go_num, by rw [or_high k V x (by omega) (by rw [HV.out]; exact hb.out) hx], by rw [take_at hget.out, ln_snoc, ← HV.out, hlen]; simp [Nat.mod_eq_of_lt hx]⟩, by simp [intOf]; omega⟩
    · obtain rfl : k = n := by omega
      clear hV
      go_wp2
      go_ret2
      have e : V = ln l := by rw [HV.out, List.take_of_length_le (by rw [HL.out]; exact Nat.le_refl _)]
      rw [e]
      exact ⟨rfl, rfl⟩

theorem fromLittle_no (A : Option Addr) (n c : Nat) (w : World) (h8 : 8 < n) :
    Calls Tryd.prog 30 #[.slice A n c] w fun e w' => e = .returned (.tuple #[.int .u64 0, .int .i64 1]) ∧ w = w' := by
  go_enter Tryd.func30, Tryd.ntmps30
  go_wp2
  go_ret2
  exact ⟨rfl, rfl⟩
end Go.Proofs.YtlobejnohkecdaaDoor
