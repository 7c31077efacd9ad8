/-
  Words of 64 bits, words of 32 bytes as numbers, the contract of bits.Mul64: what field and scalar share. No statement is proved here. Conditions: none.
-/
import Derived.Test.YtlobejnohkecdaaDoorFdS
import Derived.Test.YtlobejnohkecdaaDoorReg
import Derived.Test.YtlobejnohkecdaaDoorOctBD
import Derived.Test.YtlobejnohkecdaaDoorOctCD
namespace Go.Proofs.YtlobejnohkecdaaDoor
open Go.RowKit

theorem add_run (args : Array Value) (w : World) : (callFunc 34 args).run Tryd.prog w = ((add64Entry args).run Tryd.prog w).andThen fun v w1 => .ok (.value v) w1 :=
  run_callFunc_extern Tryd.func34 (by kernel_rfl) (by kernel_rfl) (by kernel_rfl) (by kernel_rfl) args w

theorem zero_word (w : World) : (zeroValue 24).run Tryd.prog w = .ok (.agg (bv z32).toArray) w := by kernel_rfl
theorem row_next {w w' : World} {g : Nat} {cs : Array Value} {t : TypeId} (h : Hid (w.heap[g]? = some (.cells cs t (0, 0)))) (hb : Below w.heap.size w w') : Hid (w'.heap[g]? = some (.cells cs t (0, 0))) :=
  (hb.block _ (Array.getElem?_eq_some_iff.1 h.out).1).trans h.out
theorem not64 (b : Nat) (hb : b < 18446744073709551616) : 18446744073709551615 ^^^ b = 18446744073709551615 - b := by
  have h : (BitVec.allOnes 64 ^^^ BitVec.ofNat 64 b).toNat = (~~~ BitVec.ofNat 64 b).toNat := by rw [BitVec.allOnes_xor]
  rw [BitVec.toNat_xor, BitVec.toNat_not, BitVec.toNat_ofNat, BitVec.toNat_allOnes, Nat.mod_eq_of_lt (by omega)] at h
  simpa using h
theorem turn64 (b : Nat) (hb : b < B64) : bits .xor .u64 IntKind.u64.max (b : Int) = ((18446744073709551615 - b : Nat) : Int) := by
  have h := u64_xor 18446744073709551615 (b : Int) (by decide) (by decide) (by omega) (by simp only [B64] at hb; omega)
  rw [show IntKind.u64.max = 18446744073709551615 from rfl, h, show (18446744073709551615 : Int).toNat = 18446744073709551615 from rfl, Int.toNat_natCast, not64 b hb]
theorem ln_split (l : List UInt8) (k : Nat) (h : k ≤ l.length) : ln (l.take k) + 256 ^ k * ln (l.drop k) = ln l := by
  induction k generalizing l with
  | zero => simp [ln]
  | succ k ih =>
    cases l with
    | nil => simp at h
    | cons b r =>
      rw [List.take_succ_cons, List.drop_succ_cons, ln, ln, ← ih r (by simpa using h), Nat.pow_succ]
      grind
theorem ln_le (v : Nat) : ∀ n, ln (le v n) = v % 256 ^ n
  | 0 => by simp [ln, le, Nat.mod_one]
  | n + 1 => by
    rw [le, ln_snoc, ln_le v n, le_len, Nat.pow_succ, Nat.mod_mul, Nat.pow_mul, show (2 : Nat) ^ 8 = 256 by decide, UInt8.toNat_ofNat', show (2 : Nat) ^ 8 = 256 by decide, Nat.mul_comm (256 ^ n)]
theorem ln_inj : ∀ (l m : List UInt8), l.length = m.length → ln l = ln m → l = m
  | [], [], _, _ => rfl
  | a :: l, b :: m, h, e => by
    have h1 := a.toNat_lt
    have h2 := b.toNat_lt
    simp only [ln] at e
    have e1 : a.toNat = b.toNat := by omega
    have e2 : ln l = ln m := by omega
    rw [UInt8.toNat_inj.1 e1, ln_inj l m (by simpa using h) e2]
theorem lowN (a : Nat) (ha : a < 18446744073709551616) : bits .and .u64 (a : Int) 4294967295 = ((a % 4294967296 : Nat) : Int) := by
  have h := u64_and_nat a 4294967295 ha (by decide)
  rw [show ((4294967295 : Nat) : Int) = 4294967295 from rfl] at h
  rw [h, show (4294967295 : Nat) = 2 ^ 32 - 1 by decide, Nat.and_two_pow_sub_one_eq_mod, show (2 : Nat) ^ 32 = 4294967296 by decide]
theorem divN (a : Nat) : (a : Int) / 4294967296 = ((a / 4294967296 : Nat) : Int) := by omega
theorem mulN (a b : Nat) : (a : Int) * (b : Int) = ((a * b : Nat) : Int) := (Int.natCast_mul a b).symm
theorem addN (a b : Nat) : (a : Int) + (b : Int) = ((a + b : Nat) : Int) := (Int.natCast_add a b).symm
theorem wrapN (a : Nat) (ha : a < 18446744073709551616) : IntKind.u64.wrap (a : Int) = (a : Int) := by rw [wrap64, Nat.mod_eq_of_lt ha]
set_option maxHeartbeats 1000000 in
theorem mul64_any (w : World) (x y : Nat) (hx : x < B64) (hy : y < B64) :
    Calls Tryd.prog 33 #[.int .u64 (x : Int), .int .u64 (y : Int)] w fun e w' => ∃ h l : Nat, e = .returned (.tuple #[.int .u64 (h : Int), .int .u64 (l : Int)]) ∧ Vlt (l + 18446744073709551616 * h = x * y) ∧ h < B64 ∧ l < B64 ∧ w = w' := by
  obtain ⟨bd, bt, bw, hhi⟩ := Lib.mul64_hi x y hx hy
  have hxy : x * y / 18446744073709551616 < 18446744073709551616 := by
    have h1 : x * y ≤ 18446744073709551615 * 18446744073709551615 := Nat.mul_le_mul (by simp only [B64] at *; omega) (by simp only [B64] at *; omega)
    omega
  have HF := vlt (show x * y % 18446744073709551616 + 18446744073709551616 * (x * y / 18446744073709551616) = x * y by omega)
  have ba := Lib.half_mul_le (a := x / 4294967296) (b := y / 4294967296) (by simp only [B64] at *; omega) (by simp only [B64] at *; omega)
  have bb := Lib.half_mul_le (a := x / 4294967296) (b := y % 4294967296) (by simp only [B64] at *; omega) (by omega)
  have bc := Lib.half_mul_le (a := x % 4294967296) (b := y / 4294967296) (by omega) (by simp only [B64] at *; omega)
  have hhi2 := hhi
  rw [← hhi2] at hxy
  have hlm : x * y % 18446744073709551616 < B64 := Nat.mod_lt _ (by decide)
  have HH := vlt hhi
  clear hhi hhi2
  go_enter Tryd.func33, Tryd.ntmps33
  go_wp2
  simp only [lowN x hx, lowN y hy, divN, mulN, addN, wrapN _ bd, wrapN _ (Nat.lt_of_le_of_lt bb (by decide)), wrapN _ bt, lowN _ bt, wrapN _ (Nat.lt_of_le_of_lt bc (by decide)), wrapN _ bw, wrapN _ (Nat.lt_of_le_of_lt ba (by decide)), wrapN _ (Nat.lt_of_le_of_lt (Nat.le_add_right _ _) hxy), wrapN _ hxy, wrap64 (x * y)]
  go_ret2
  exact ⟨_, _, rfl, vlt (by rw [HH.out]; exact HF.out), by simp only [B64]; omega, hlm, rfl⟩

end Go.Proofs.YtlobejnohkecdaaDoor
