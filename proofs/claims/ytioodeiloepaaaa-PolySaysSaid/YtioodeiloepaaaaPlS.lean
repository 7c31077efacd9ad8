/-
  Tags as numbers and lists: no statement is proved here. Conditions: none.
-/
import Derived.Test.YtioodeiloepaaaaOctBD
import Derived.Test.YtioodeiloepaaaaOctCD
import Derived.Test.YtioodeiloepaaaaMem
namespace Go.Proofs.Ytioodeiloepaaaa
open Go.RowKit

abbrev PP : Nat := 1361129467683753853853498429727072845819
/-- Block k; what the first k blocks come to. -/
def blkAt (l : List UInt8) (k : Nat) : List UInt8 := (l.drop (16 * k)).take 16
def accR (r : Nat) (l : List UInt8) : Nat → Nat
  | 0 => 0
  | k + 1 => ((accR r l k + (ln (blkAt l k) + 256 ^ (blkAt l k).length)) * r) % PP
def polyOf (r : Nat) (l : List UInt8) : Nat := accR r l ((l.length + 15) / 16)
theorem accR_lt (r : Nat) (l : List UInt8) : ∀ k, accR r l k < PP
  | 0 => by show 0 < PP; decide
  | k + 1 => Nat.mod_lt _ (by decide)
/-- Bits left out. -/
def clampB (k : Nat) (b : UInt8) : UInt8 := if k % 4 = 3 then b &&& 15 else if k % 4 = 0 ∧ 0 < k then b &&& 252 else b
def clampOf (l : List UInt8) : List UInt8 := l.mapIdx clampB
theorem clampOf_len (l : List UInt8) : (clampOf l).length = l.length := by simp [clampOf]
theorem clampB_twice (k : Nat) (b : UInt8) : clampB k (clampB k b) = clampB k b := by
  unfold clampB
  split
  · rw [UInt8.and_assoc]; rfl
  · split
    · rw [UInt8.and_assoc]; rfl
    · rfl
theorem clampOf_twice (l : List UInt8) : clampOf (clampOf l) = clampOf l := by
  apply List.ext_getElem?
  intro k
  simp only [clampOf, List.getElem?_mapIdx, Option.map_map]
  cases l[k]? with
  | none => rfl
  | some b => simp [clampB_twice]
def rOf (key : List UInt8) : Nat := ln (clampOf (key.take 16))
def tagOf (key l : List UInt8) : List UInt8 := le ((polyOf (rOf key) l + ln (key.drop 16)) % 340282366920938463463374607431768211456) 16
theorem tagOf_len (key l : List UInt8) : (tagOf key l).length = 16 := le_len _ _

/-- Blocks of the beginning. -/
theorem blkAt_app (l x : List UInt8) (k : Nat) (h : 16 * k + 16 ≤ l.length) : blkAt (l ++ x) k = blkAt l k := by
  unfold blkAt
  rw [List.drop_append_of_le_length (by omega), List.take_append_of_le_length (by simp; omega)]
theorem accR_app (r : Nat) (l x : List UInt8) : ∀ k, 16 * k ≤ l.length → accR r (l ++ x) k = accR r l k
  | 0, _ => rfl
  | k + 1, h => by rw [accR, accR, accR_app r l x k (by omega), blkAt_app l x k (by omega)]

/-- A number in five pieces. -/
def nv (a b c d e : Nat) : Nat := a + 67108864 * b + 4503599627370496 * c + 302231454903657293676544 * d + 20282409603651670423947251286016 * e
/-- Products, what is past the last piece five times at the front. -/
theorem prod_pieces (a0 a1 a2 a3 a4 b0 b1 b2 b3 b4 : Nat) :
    nv a0 a1 a2 a3 a4 * nv b0 b1 b2 b3 b4 =
      nv (a0 * b0 + a1 * (5 * b4) + a2 * (5 * b3) + a3 * (5 * b2) + a4 * (5 * b1))
         (a0 * b1 + a1 * b0 + a2 * (5 * b4) + a3 * (5 * b3) + a4 * (5 * b2))
         (a0 * b2 + a1 * b1 + a2 * b0 + a3 * (5 * b4) + a4 * (5 * b3))
         (a0 * b3 + a1 * b2 + a2 * b1 + a3 * b0 + a4 * (5 * b4))
         (a0 * b4 + a1 * b3 + a2 * b2 + a3 * b1 + a4 * b0)
      + PP * nv (a1 * b4 + a2 * b3 + a3 * b2 + a4 * b1) (a2 * b4 + a3 * b3 + a4 * b2) (a3 * b4 + a4 * b3) (a4 * b4) 0 := by
  simp only [nv, PP]
  grind
theorem mod_of_eq {x y q : Nat} (h : x = y + PP * q) : x % PP = y % PP := by rw [h, Nat.add_mul_mod_self_left]
/-- Carried. -/
def cr0 (a0 a1 a2 a3 a4 : Nat) : Nat := (a4 + (a3 + (a2 + (a1 + a0 / 67108864) / 67108864) / 67108864) / 67108864) / 67108864
theorem carry_sum (a0 a1 a2 a3 a4 v1 v2 v3 v4 o : Nat) (h1 : v1 = a1 + a0 / 67108864) (h2 : v2 = a2 + v1 / 67108864) (h3 : v3 = a3 + v2 / 67108864) (h4 : v4 = a4 + v3 / 67108864) (h5 : o = v4 / 67108864) :
    nv a0 a1 a2 a3 a4 = nv (a0 % 67108864 + 5 * o) (v1 % 67108864) (v2 % 67108864) (v3 % 67108864) (v4 % 67108864) + PP * o := by
  simp only [nv, PP]
  omega
/-- Told: one over the prime or not; the sum. -/
theorem over_is (a0 a1 a2 a3 a4 c1 c2 c3 c4 c5 : Nat) (h1 : c1 = (a0 + 5) / 67108864) (h2 : c2 = (a1 + c1) / 67108864) (h3 : c3 = (a2 + c2) / 67108864) (h4 : c4 = (a3 + c3) / 67108864) (h5 : c5 = (a4 + c4) / 67108864)
    (hb : nv a0 a1 a2 a3 a4 < 2 * PP) : nv a0 a1 a2 a3 a4 = nv a0 a1 a2 a3 a4 % PP + PP * c5 ∧ c5 ≤ 1 := by
  generalize hN : nv a0 a1 a2 a3 a4 = N at *
  have hk : ∃ R, N + 5 = 1361129467683753853853498429727072845824 * c5 + R ∧ R < 1361129467683753853853498429727072845824 := by
    refine ⟨(a0 + 5) % 67108864 + 67108864 * ((a1 + c1) % 67108864) + 4503599627370496 * ((a2 + c2) % 67108864) + 302231454903657293676544 * ((a3 + c3) % 67108864) + 20282409603651670423947251286016 * ((a4 + c4) % 67108864), ?_, by omega⟩
    rw [← hN]
    simp only [nv]
    omega
  obtain ⟨R, hR, hR2⟩ := hk
  clear hN h1 h2 h3 h4 h5
  simp only [PP] at *
  have hc : c5 ≤ 1 := by omega
  refine ⟨?_, hc⟩
  have h01 : c5 = 0 ∨ c5 = 1 := by omega
  rcases h01 with rfl | rfl
  · omega
  · omega
theorem told_sum (a0 a1 a2 a3 a4 b0 b1 b2 b3 b4 o e0 e1 e2 e3 e4 S : Nat) (hS : nv a0 a1 a2 a3 a4 = S + PP * o)
    (h0 : e0 = 5 * o + (a0 + b0)) (h1 : e1 = e0 / 67108864 + (a1 + b1)) (h2 : e2 = e1 / 67108864 + (a2 + b2)) (h3 : e3 = e2 / 67108864 + (a3 + b3)) (h4 : e4 = e3 / 67108864 + (a4 + b4)) :
    nv (e0 % 67108864) (e1 % 67108864) (e2 % 67108864) (e3 % 67108864) (e4 % 67108864) % 340282366920938463463374607431768211456 = (S + nv b0 b1 b2 b3 b4) % 340282366920938463463374607431768211456 := by
  simp only [nv, PP] at *
  omega
theorem low_half (a0 a1 a2 a3 a4 : Nat) (h0 : a0 < 67108864) (h1 : a1 < 67108864) : nv a0 a1 a2 a3 a4 % 18446744073709551616 = a0 + a1 * 67108864 + a2 * 4503599627370496 % 18446744073709551616 := by
  simp only [nv]; omega
theorem high_half (a0 a1 a2 a3 a4 : Nat) (h0 : a0 < 67108864) (h1 : a1 < 67108864) (h2 : a2 < 67108864) (h3 : a3 < 67108864) :
    nv a0 a1 a2 a3 a4 / 18446744073709551616 % 18446744073709551616 = a2 / 4096 + a3 * 16384 + a4 * 1099511627776 % 18446744073709551616 := by
  simp only [nv]; omega
end Go.Proofs.Ytioodeiloepaaaa
