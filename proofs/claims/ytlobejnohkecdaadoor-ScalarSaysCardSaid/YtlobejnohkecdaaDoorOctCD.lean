/-
  The number that bytes tell: words that other texts share. No statement is proved here. Conditions: none.
-/
import Derived.Test.YtlobejnohkecdaaDoorOctA
import Derived.LoopTactic
import Derived.Laws.Shifts
import Derived.Laws.ShiftsVar
import Derived.Laws.BitsAllLaws
namespace Go.Proofs.YtlobejnohkecdaaDoor
open Go.RowKit

/-- The number that bytes tell, the highest first; the lowest first. -/
def bn (l : List UInt8) : Nat := l.foldl (fun a b => a * 256 + b.toNat) 0
theorem bn_snoc (l : List UInt8) (b : UInt8) : bn (l ++ [b]) = bn l * 256 + b.toNat := by simp [bn]
theorem bn_lt : ∀ (n : Nat) (l : List UInt8), l.length = n → bn l < 256 ^ n
  | 0, l, h => by
    obtain rfl := List.eq_nil_of_length_eq_zero h
    simp [bn]
  | n + 1, l, h => by
    have hl : l ≠ [] := by intro e; subst e; simp at h
    have e := List.dropLast_concat_getLast hl
    rw [← e, bn_snoc]
    have h1 := bn_lt n l.dropLast (by simp; omega)
    have h2 := (l.getLast hl).toNat_lt
    rw [Nat.pow_succ]; omega
def ln : List UInt8 → Nat
  | [] => 0
  | b :: r => b.toNat + 256 * ln r
theorem ln_rev (l : List UInt8) : ln l = bn l.reverse := by
  induction l with
  | nil => rfl
  | cons b r ih => rw [ln, ih, List.reverse_cons, bn_snoc]; omega
theorem ln_snoc (l : List UInt8) (b : UInt8) : ln (l ++ [b]) = ln l + b.toNat * 256 ^ l.length := by
  induction l with
  | nil => simp [ln]
  | cons a r ih =>
    simp only [List.cons_append, ln, ih, List.length_cons, Nat.pow_succ]
    rw [Nat.mul_add, Nat.add_assoc, Nat.mul_left_comm, Nat.mul_comm 256 (256 ^ r.length)]
theorem ln_lt (n : Nat) (l : List UInt8) (h : l.length = n) : ln l < 256 ^ n := by rw [ln_rev]; exact bn_lt n _ (by simpa using h)

theorem take_at {l : List UInt8} {k : Nat} {b : UInt8} (h : l[k]? = some b) : l.take (k + 1) = l.take k ++ [b] := by
  obtain ⟨hk, rfl⟩ := List.getElem?_eq_some_iff.1 h
  rw [List.take_succ_eq_append_getElem hk]

theorem pow_le8 (k : Nat) (hk : k < 8) : 256 ^ k ≤ 72057594037927936 := by
  have h1 : 256 ^ k ≤ 256 ^ 7 := Nat.pow_le_pow_right (by decide) (by omega)
  have h2 : (256 : Nat) ^ 7 = 72057594037927936 := by decide
  omega

theorem or_low (V x : Nat) (hV : V ≤ 72057594037927935) (hx : x < 256) : bits .or .u64 ((V : Int) * 256) (x : Int) = ((V * 256 + x : Nat) : Int) := by
  have e : ((V : Int) * 256) = ((V * 256 : Nat) : Int) := by omega
  rw [e, u64_or_nat _ _ (by omega) (by omega), nat_join 8 _ _ (by omega) (by omega)]
theorem or_high (k V x : Nat) (hk : k < 8) (hV : V < 256 ^ k) (hx : x < 256) : bits .or .u64 (V : Int) (IntKind.u64.wrap ((x : Int) * 2 ^ (8 * k))) = ((V + x * 256 ^ k : Nat) : Int) := by
  have e0 : (2 : Nat) ^ (8 * k) = 256 ^ k := by rw [Nat.pow_mul]
  have e : ((x : Int) * 2 ^ (8 * k)) = ((x * 2 ^ (8 * k) : Nat) : Int) := by simp
  have h1 := pow_le8 k hk
  have h2 : x * 256 ^ k ≤ 255 * 256 ^ k := Nat.mul_le_mul_right _ (by omega)
  have e2 : ∀ y : Nat, y < 18446744073709551616 → IntKind.u64.wrap (y : Int) = (y : Int) := by
    intro y hy; simp [IntKind.wrap, IntKind.bits, IntKind.signed]; omega
  rw [e, e0, e2 _ (by omega), u64_or_nat _ _ (by omega) (by omega), Nat.or_comm, nat_join (8 * k) _ _ (by rw [e0]; exact Nat.mul_mod_left _ _) (by rw [e0]; exact hV), Nat.add_comm]

end Go.Proofs.YtlobejnohkecdaaDoor
