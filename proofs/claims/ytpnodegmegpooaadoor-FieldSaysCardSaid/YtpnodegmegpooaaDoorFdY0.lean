/-
  Constant words, an array built in a region that draws its order, powers by squaring: words that the laws of this seat share. No statement is proved here. Conditions: none.
-/
import Derived.Test.YtpnodegmegpooaaDoorFdX
import Derived.Deep.RegionHeld3
namespace Go.Proofs.YtpnodegmegpooaaDoor
open Go.RowKit

/-- A small number's word. -/
def wk (n : Nat) : List UInt8 := le n 32
theorem wk_len (n : Nat) : (wk n).length = 32 := le_len n 32
theorem ln_wk (n : Nat) (h : n < FP) : ln (wk n) = n := by rw [wk, ln_le, Nat.mod_eq_of_lt (Nat.lt_trans h (by decide))]
theorem wk_wo (n : Nat) (h : n < FP) : wk n = wo n := by rw [wk, wo, Nat.mod_eq_of_lt h]
theorem const_word (n : Nat) (h : n < FP) : ∃ T, T = wk n ∧ Hid (T.length = 32) ∧ Vlt (ln T = n) ∧ Vlt (T = wo n) := ⟨_, rfl, wk_len n, vlt (ln_wk n h), vlt (wk_wo n h)⟩
/-- Powers modulo, by squaring. -/
def pmod (p x : Nat) : Nat → Nat → Nat
  | 0, _ => 1 % p
  | f + 1, e => if e % 2 = 1 then pmod p (x * x % p) f (e / 2) * x % p else pmod p (x * x % p) f (e / 2)
theorem pmod_ok (p : Nat) : ∀ (f x e : Nat), e < 2 ^ f → pmod p x f e = x ^ e % p
  | 0, x, e, h => by
    obtain rfl : e = 0 := by simpa using h
    rfl
  | f + 1, x, e, h => by
    have ih := pmod_ok p f (x * x % p) (e / 2) (by rw [Nat.pow_succ] at h; omega)
    have hs : (x * x % p) ^ (e / 2) % p = x ^ (2 * (e / 2)) % p := by rw [← Nat.pow_mod, Nat.pow_mul, Nat.pow_two]
    rw [pmod, ih, hs]
    by_cases h1 : e % 2 = 1
    · rw [if_pos h1, Nat.mod_mul_mod, ← Nat.pow_succ]
      congr 2
      omega
    · rw [if_neg h1]
      congr 2
      omega
theorem two_inv : (2 * (2 ^ FP2 % FP)) % FP = 1 % FP := by
  have h := pmod_ok FP 256 2 FP2 (by decide)
  rw [← h]
  decide +kernel
theorem set_w1 : (bv z32).set 0 (.int .u8 1) = bv (wk 1) := by kernel_rfl
theorem set_w2 : (bv z32).set 0 (.int .u8 2) = bv (wk 2) := by kernel_rfl
theorem z32_wo : z32 = wo 0 := by decide +kernel
theorem ln_z32 : ln z32 = 0 := by decide +kernel
theorem good_wo (N : Nat) : decide (wo (ln (wo N)) = wo N) = true := by rw [ln_wo, wo_of (Nat.mod_mod N FP)]; simp
theorem bv_z32_ne : ¬ bv z32 = [] := fun h => by have h1 := congrArg List.length h; rw [bv_len, z32_len] at h1; exact absurd h1 (by decide)
theorem of_neg1 : (ofF (-1) + 1) % FP = 0 % FP := by decide +kernel
end Go.Proofs.YtpnodegmegpooaaDoor
