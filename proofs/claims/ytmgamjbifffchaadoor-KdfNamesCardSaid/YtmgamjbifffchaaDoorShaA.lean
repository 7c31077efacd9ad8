/-
  Contracts of math/bits' RotateLeft32 and of sha's turned. Conditions: the word is below 2^32; the turns are from 1 to 31.
-/
import Derived.Test.YtmgamjbifffchaaDoorShaS
namespace Go.Proofs.YtmgamjbifffchaaDoor
open Go.RowKit

theorem wrap_neg (i : Nat) (h1 : 1 ≤ i) (h2 : i ≤ 31) : IntKind.u64.wrap (-(i : Int)) = ((18446744073709551616 - i : Nat) : Int) := by
  simp [IntKind.wrap, IntKind.bits, IntKind.signed]; omega
theorem turn_of (i : Nat) (h1 : 1 ≤ i) (h2 : i ≤ 31) : bits .and .u64 (IntKind.u64.wrap (-(i : Int))) 31 = ((32 - i : Nat) : Int) := by
  rw [wrap_neg i h1 h2, show (31 : Int) = ((31 : Nat) : Int) from rfl, u64_and_nat _ _ (by omega) (by omega), nat_mask5]
  omega

theorem rl_int (x s : Nat) (hx : x < 4294967296) : bits .or .u32 ((x : Int) * 2 ^ s % 4294967296) ((x : Int) / 2 ^ (32 - s)) = ((rl x s : Nat) : Int) := by
  have e1 : (x : Int) * 2 ^ s % 4294967296 = ((x * 2 ^ s % 4294967296 : Nat) : Int) := by
    rw [Int.natCast_emod, Int.natCast_mul, Int.natCast_pow]; rfl
  have e2 : (x : Int) / 2 ^ (32 - s) = ((x / 2 ^ (32 - s) : Nat) : Int) := by rw [Int.natCast_ediv, Int.natCast_pow]; rfl
  rw [e1, e2, u32_or_nat _ _ (Nat.mod_lt _ (by decide)) (Nat.lt_of_le_of_lt (Nat.div_le_self _ _) hx)]
  rfl
theorem ret_u32 {a b : Int} (h : a = b) : Ending.returned (.int .u32 a) = .returned (.int .u32 b) := by rw [h]

theorem rot_any (x : Nat) (k : Int) (s : Nat) (w : World) (hx : x < 4294967296) (hs : s ≤ 31) (hk : bits .and .u64 (IntKind.u64.wrap k) 31 = (s : Int)) :
    Calls Tryd.prog 24 #[.int .u32 (x : Int), .int .i64 k] w fun e w' => e = .returned (.int .u32 ((rl x s : Nat) : Int)) ∧ w = w' := by
  go_enter Tryd.func24, Tryd.ntmps24
  go_wp2
  go_ret
  exact ⟨ret_u32 (rl_int x s hx), rfl⟩

theorem turned_any (v i j k : Nat) (w : World) (hv : v < 4294967296) (hi : 1 ≤ i ∧ i ≤ 31) (hj : 1 ≤ j ∧ j ≤ 31) (hk : 1 ≤ k ∧ k ≤ 31) :
    Calls Tryd.prog 20 #[.int .u32 (v : Int), .int .i64 (i : Int), .int .i64 (j : Int), .int .i64 (k : Int)] w fun e w' => e = .returned (.int .u32 ((tri v i j k : Nat) : Int)) ∧ w = w' := by
  obtain ⟨i1, i2⟩ := hi
  obtain ⟨j1, j2⟩ := hj
  obtain ⟨k1, k2⟩ := hk
  go_enter Tryd.func20, Tryd.ntmps20
  go_wp2_with fail
  refine (rot_any v _ (32 - i) _ hv (by omega) (turn_of i i1 i2)).mono ?_
  rintro e w' ⟨rfl, rfl⟩
  go_wp2_with fail
  refine (rot_any v _ (32 - j) _ hv (by omega) (turn_of j j1 j2)).mono ?_
  rintro e w' ⟨rfl, rfl⟩
  go_wp2_with fail
  refine (rot_any v _ (32 - k) _ hv (by omega) (turn_of k k1 k2)).mono ?_
  rintro e w' ⟨rfl, rfl⟩
  go_wp2
  go_ret
  refine ⟨ret_u32 ?_, rfl⟩
  have h1 := rl_lt v (32 - i) hv
  have h2 := rl_lt v (32 - j) hv
  have h3 := rl_lt v (32 - k) hv
  rw [u32_xor_nat _ _ h1 h2, u32_xor_nat _ _ (xor32 h1 h2) h3]
  rfl
end Go.Proofs.YtmgamjbifffchaaDoor
