/-
  Roots reckoned by squaring: words for FieldKnown. No statement is proved here. Conditions: none.
-/
import Derived.Test.YtpnodegmegpooaaDoorNumR
import Derived.Test.YtpnodegmegpooaaDoorFdQ2
namespace Go.Proofs.YtpnodegmegpooaaDoor
open Go.RowKit

def rootC (x : Nat) : List UInt8 × Bool :=
  if pmod FP x 256 E8 * pmod FP x 256 E8 % FP = x % FP then (evenW (pmod FP x 256 E8), true)
  else if (pmod FP x 256 E8 * TRN) * (pmod FP x 256 E8 * TRN) % FP = x % FP then (evenW (pmod FP x 256 E8 * TRN), true) else (z32, false)
theorem rootC_ok (x : Nat) : rootOf x = rootC x := by
  have h : pmod FP x 256 E8 = x ^ E8 % FP := pmod_ok FP 256 x E8 (by decide)
  have h1 : pmod FP x 256 E8 % FP = x ^ E8 % FP := by rw [h, Nat.mod_mod]
  have h2 : pmod FP x 256 E8 * TRN % FP = x ^ E8 * TRN % FP := mul_of h1
  unfold rootC rootOf
  rw [sq_of h1, sq_of h2, evenW_of h1, evenW_of h2]
theorem root_4 : rootOf 4 = (wk 2, true) := by rw [rootC_ok]; decide +kernel
theorem root_2 : (rootOf 2).2 = false := by rw [rootC_ok]; decide +kernel
theorem root_0 : rootOf 0 = (z32, true) := by rw [rootC_ok]; decide +kernel
theorem root_m1 : (rootOf (ofF (-1) % FP)).2 = true := by rw [rootC_ok]; decide +kernel
theorem fp_self : FP % FP = 0 % FP := by decide
theorem all_37 : ALL % FP = 37 % FP := by decide
theorem big_63 : ofF (-9223372036854775808) % FP = subF 0 9223372036854775808 % FP := ofF_neg 9223372036854775808
theorem prm_not : decide (wo (ln (wk FP)) = wk FP) = false := by decide +kernel
theorem pow_35 : 3 ^ 5 % FP = 243 % FP := by decide
theorem pow_00 : 0 ^ 0 % FP = 1 % FP := by decide
theorem inv_0 : 0 ^ FP2 % FP = 0 % FP := inv_zero 0 (by decide)
theorem set_w4 : (bv z32).set 0 (.int .u8 4) = bv (wk 4) := by kernel_rfl
theorem set_w37 : (bv z32).set 0 (.int .u8 37) = bv (wk 37) := by kernel_rfl
theorem set_w3 : (bv z32).set 0 (.int .u8 3) = bv (wk 3) := by kernel_rfl
theorem set_w5 : (bv z32).set 0 (.int .u8 5) = bv (wk 5) := by kernel_rfl
theorem set_w243 : (bv z32).set 0 (.int .u8 243) = bv (wk 243) := by kernel_rfl
theorem set_w63 : ((((((((bv z32).set 0 (.int .u8 0)).set 1 (.int .u8 0)).set 2 (.int .u8 0)).set 3 (.int .u8 0)).set 4 (.int .u8 0)).set 5 (.int .u8 0)).set 6 (.int .u8 0)).set 7 (.int .u8 128) = bv (wk 9223372036854775808) := by kernel_rfl
end Go.Proofs.YtpnodegmegpooaaDoor
