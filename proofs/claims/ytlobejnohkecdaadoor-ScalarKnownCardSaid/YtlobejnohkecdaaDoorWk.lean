/-
  The words of small numbers: what the laws of field and scalar share. No statement is proved here. Conditions: none.
-/
import Derived.Test.YtlobejnohkecdaaDoorN64
namespace Go.Proofs.YtlobejnohkecdaaDoor
open Go.RowKit

theorem le_add (v n m : Nat) : le v (n + m) = le v n ++ le (v / 2 ^ (8 * n)) m := by
  induction m with
  | zero => simp [le]
  | succ m ih => rw [← Nat.add_assoc, le, le, ih, List.append_assoc, Nat.div_div_eq_div_mul, ← Nat.pow_add, Nat.mul_add]
/-- A small number's word. -/
def wk (n : Nat) : List UInt8 := le n 32
theorem wk_len (n : Nat) : (wk n).length = 32 := le_len n 32
theorem set_w1 : (bv z32).set 0 (.int .u8 1) = bv (wk 1) := by kernel_rfl
theorem set_w2 : (bv z32).set 0 (.int .u8 2) = bv (wk 2) := by kernel_rfl
theorem ln_z32 : ln z32 = 0 := by decide +kernel
theorem bv_z32_ne : ¬ bv z32 = [] := fun h => by have h1 := congrArg List.length h; rw [bv_len, z32_len] at h1; exact absurd h1 (by decide)
theorem le_zero (m : Nat) : le 0 m = List.replicate m 0 := by
  induction m with
  | zero => rfl
  | succ m ih => rw [le, ih, Nat.zero_div, List.replicate_succ']; rfl
theorem wk_four (u : Nat) (h : u < 4294967296) : wk u = [UInt8.ofNat u, UInt8.ofNat (u / 256), UInt8.ofNat (u / 65536), UInt8.ofNat (u / 16777216)] ++ List.replicate 28 0 := by
  rw [wk, show (32 : Nat) = 4 + 28 from rfl, le_add, show (2 : Nat) ^ (8 * 4) = 4294967296 by decide, Nat.div_eq_of_lt h, le_zero]
  simp [le]
theorem wk_five (u : Nat) (h : u < 1099511627776) : wk u = [UInt8.ofNat u, UInt8.ofNat (u / 256), UInt8.ofNat (u / 65536), UInt8.ofNat (u / 16777216), UInt8.ofNat (u / 4294967296)] ++ List.replicate 27 0 := by
  rw [wk, show (32 : Nat) = 5 + 27 from rfl, le_add, show (2 : Nat) ^ (8 * 5) = 1099511627776 by decide, Nat.div_eq_of_lt h, le_zero]
  simp [le]
theorem set_four_w (n : Nat) (hn : n < 4294967296) : ((((bv z32).set 0 (.int .u8 ((n : Int) % 256))).set 1 (.int .u8 ((n : Int) / 256 % 256))).set 2 (.int .u8 ((n : Int) / 65536 % 256))).set 3 (.int .u8 ((n : Int) / 16777216)) = bv (wk n) := by
  rw [wk_four n hn]
  have h3 : (n : Int) / 16777216 = (n : Int) / 16777216 % 256 := by omega
  rw [h3]
  simp [bv, z32, List.replicate]
theorem set_five_w (n : Nat) (hn : n < 1099511627776) : (((((bv z32).set 0 (.int .u8 ((n : Int) % 256))).set 1 (.int .u8 ((n : Int) / 256 % 256))).set 2 (.int .u8 ((n : Int) / 65536 % 256))).set 3 (.int .u8 ((n : Int) / 16777216 % 256))).set 4 (.int .u8 ((n : Int) / 4294967296)) = bv (wk n) := by
  rw [wk_five n hn]
  have h3 : (n : Int) / 4294967296 = (n : Int) / 4294967296 % 256 := by omega
  rw [h3]
  simp [bv, z32, List.replicate]
end Go.Proofs.YtlobejnohkecdaaDoor
