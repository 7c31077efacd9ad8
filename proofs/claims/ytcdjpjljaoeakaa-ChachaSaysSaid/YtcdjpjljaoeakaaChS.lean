/-
  The stream as numbers and lists, for the kernel to reckon: no statement is proved here. Conditions: none.
-/
import Derived.Test.YtcdjpjljaoeakaaRot
import Derived.Test.YtcdjpjljaoeakaaMem
import Derived.Test.YtcdjpjljaoeakaaOctX
namespace Go.Proofs.Ytcdjpjljaoeakaa
open Go.RowKit

abbrev W32 : Nat := 4294967296
/-- Half a quarter round; the quarter round. -/
def qh (r s a b c d : Nat) : Nat × Nat × Nat × Nat :=
  match (a + b) % 4294967296 with
  | a1 => match rl (d ^^^ a1) r with
    | d1 => match (c + d1) % 4294967296 with
      | c1 => (a1, rl (b ^^^ c1) s, c1, d1)
def qr (a b c d : Nat) : Nat × Nat × Nat × Nat :=
  match qh 16 12 a b c d with
  | (a1, b1, c1, d1) => qh 8 7 a1 b1 c1 d1
theorem qh_eq (r s a b c d a1 d1 c1 b1 : Nat) (h1 : a1 = (a + b) % 4294967296) (h2 : d1 = rl (d ^^^ a1) r) (h3 : c1 = (c + d1) % 4294967296) (h4 : b1 = rl (b ^^^ c1) s) : qh r s a b c d = (a1, b1, c1, d1) := by
  subst h1 h2 h3 h4; rfl
theorem qr_eq {a b c d a1 b1 c1 d1 a2 b2 c2 d2 : Nat} (h1 : qh 16 12 a b c d = (a1, b1, c1, d1)) (h2 : qh 8 7 a1 b1 c1 d1 = (a2, b2, c2, d2)) : qr a b c d = (a2, b2, c2, d2) := by
  unfold qr; rw [h1]; exact h2

def q4 (s : List Nat) (i j k l : Nat) : List Nat :=
  match qr (natAt s i) (natAt s j) (natAt s k) (natAt s l) with
  | (p, q, r, t) => (((s.set i p).set j q).set k r).set l t
theorem q4_eq {s : List Nat} {i j k l p q r t : Nat} (h : qr (natAt s i) (natAt s j) (natAt s k) (natAt s l) = (p, q, r, t)) : q4 s i j k l = (((s.set i p).set j q).set k r).set l t := by
  unfold q4; rw [h]
theorem q4_len (s : List Nat) (i j k l : Nat) : (q4 s i j k l).length = s.length := by simp [q4]
/-- The first n quarter rounds, slanted t; two rounds; more. -/
def half (s : List Nat) (t : Nat) : Nat → List Nat
  | 0 => s
  | n + 1 => q4 (half s t n) n (4 + (n + t) % 4) (8 + (n + 2 * t) % 4) (12 + (n + 3 * t) % 4)
theorem half_len (s : List Nat) (t : Nat) : ∀ n, (half s t n).length = s.length
  | 0 => rfl
  | n + 1 => by rw [half, q4_len, half_len s t n]
def mixOf (s : List Nat) : List Nat := half (half s 0 4) 1 4
theorem mixOf_len (s : List Nat) : (mixOf s).length = s.length := by rw [mixOf, half_len, half_len]
def rounds (s : List Nat) : Nat → List Nat
  | 0 => s
  | n + 1 => mixOf (rounds s n)
theorem rounds_len (s : List Nat) : ∀ n, (rounds s n).length = s.length
  | 0 => rfl
  | n + 1 => by rw [rounds, mixOf_len, rounds_len s n]

def small32 (l : List Nat) : Prop := ∀ x ∈ l, x < 4294967296
theorem small32.set {l : List Nat} (h : small32 l) (i x : Nat) (hx : x < 4294967296) : small32 (l.set i x) := by
  intro y hy
  rcases List.mem_or_eq_of_mem_set hy with hy | rfl
  · exact h y hy
  · exact hx
theorem small32.at_ {l : List Nat} (h : small32 l) (k : Nat) : natAt l k < 4294967296 := natAt_lt h k
theorem qh_lt (r s a b c d : Nat) (hb : b < 4294967296) (hd : d < 4294967296) : (qh r s a b c d).1 < 4294967296 ∧ (qh r s a b c d).2.1 < 4294967296 ∧ (qh r s a b c d).2.2.1 < 4294967296 ∧ (qh r s a b c d).2.2.2 < 4294967296 :=
  ⟨Nat.mod_lt _ (by decide), rl_lt _ _ (xor32 hb (Nat.mod_lt _ (by decide))), Nat.mod_lt _ (by decide), rl_lt _ _ (xor32 hd (Nat.mod_lt _ (by decide)))⟩
theorem qr_lt (a b c d : Nat) (hb : b < 4294967296) (hd : d < 4294967296) : (qr a b c d).1 < 4294967296 ∧ (qr a b c d).2.1 < 4294967296 ∧ (qr a b c d).2.2.1 < 4294967296 ∧ (qr a b c d).2.2.2 < 4294967296 := by
  have h := qh_lt 16 12 a b c d hb hd
  exact qh_lt 8 7 _ _ _ _ h.2.1 h.2.2.2
theorem q4_small (s : List Nat) (i j k l : Nat) (h : small32 s) : small32 (q4 s i j k l) := by
  have hq := qr_lt (natAt s i) (natAt s j) (natAt s k) (natAt s l) (h.at_ j) (h.at_ l)
  exact (((h.set i _ hq.1).set j _ hq.2.1).set k _ hq.2.2.1).set l _ hq.2.2.2
theorem half_small (s : List Nat) (t : Nat) (h : small32 s) : ∀ n, small32 (half s t n)
  | 0 => h
  | n + 1 => q4_small _ _ _ _ _ (half_small s t h n)
theorem mixOf_small (s : List Nat) (h : small32 s) : small32 (mixOf s) := half_small _ _ (half_small _ _ h _) _
theorem rounds_small (s : List Nat) (h : small32 s) : ∀ n, small32 (rounds s n)
  | 0 => h
  | n + 1 => mixOf_small _ (rounds_small s h n)

/-- Words of four bytes, the lowest first. -/
def lw (row : List UInt8) : Nat → List Nat
  | 0 => []
  | k + 1 => lw row k ++ [ln ((row.drop (4 * k)).take 4)]
theorem lw_len (row : List UInt8) : ∀ k, (lw row k).length = k
  | 0 => rfl
  | k + 1 => by simp [lw, lw_len row k]
theorem ln4_lt (row : List UInt8) : ln (row.take 4) < 4294967296 := by
  have h := ln_lt _ (row.take 4) rfl
  have h2 : (row.take 4).length ≤ 4 := by simp; omega
  have h3 : 256 ^ (row.take 4).length ≤ 256 ^ 4 := Nat.pow_le_pow_right (by decide) h2
  have h4 : (256 : Nat) ^ 4 = 4294967296 := by decide
  omega
theorem lw_small (row : List UInt8) : ∀ k, small32 (lw row k)
  | 0 => fun x hx => by cases hx
  | k + 1 => fun x hx => by
    rcases List.mem_append.1 hx with hx | hx
    · exact lw_small row k x hx
    · simp at hx; subst hx; exact ln4_lt _
theorem lw_app (x y : List UInt8) (m : Nat) (hx : x.length = 4 * m) : ∀ n, lw (x ++ y) (m + n) = lw x m ++ lw y n
  | 0 => by
    rw [Nat.add_zero, lw, List.append_nil]
    have h : ∀ k, k ≤ m → lw (x ++ y) k = lw x k := by
      intro k
      induction k with
      | zero => intro _; rfl
      | succ k ih =>
        intro hk
        rw [lw, lw, ih (by omega), List.drop_append_of_le_length (by omega), List.take_append_of_le_length (by simp; omega)]
    exact h m (Nat.le_refl _)
  | n + 1 => by
    rw [← Nat.add_assoc, lw, lw_app x y m hx n, lw, List.append_assoc]
    have e : (x ++ y).drop (4 * (m + n)) = y.drop (4 * n) := by
      rw [List.drop_append, List.drop_of_length_le (by omega), List.nil_append]
      congr 1; omega
    rw [e]

/-- What stands ahead of a key. -/
def aheadB : List UInt8 := [101, 120, 112, 97, 110, 100, 32, 51, 50, 45, 98, 121, 116, 101, 32, 107]
def rowOf (key : List UInt8) (count : Nat) (nonce : List UInt8) : List UInt8 := aheadB ++ key ++ le count 4 ++ nonce
def firstOf (key : List UInt8) (count : Nat) (nonce : List UInt8) : List Nat := lw (rowOf key count nonce) 16
theorem firstOf_len (key : List UInt8) (count : Nat) (nonce : List UInt8) : (firstOf key count nonce).length = 16 := lw_len _ _
theorem firstOf_small (key : List UInt8) (count : Nat) (nonce : List UInt8) : small32 (firstOf key count nonce) := lw_small _ _
/-- The bytes of sums. -/
def outw (m f : List Nat) : Nat → List UInt8
  | 0 => []
  | k + 1 => outw m f k ++ le ((natAt m k + natAt f k) % 4294967296) 4
theorem outw_len (m f : List Nat) : ∀ k, (outw m f k).length = 4 * k
  | 0 => rfl
  | k + 1 => by simp [outw, outw_len m f k, le_len]; omega
def blockOf (key : List UInt8) (count : Nat) (nonce : List UInt8) : List UInt8 := outw (rounds (firstOf key count nonce) 10) (firstOf key count nonce) 16
theorem blockOf_len (key : List UInt8) (count : Nat) (nonce : List UInt8) : (blockOf key count nonce).length = 64 := outw_len _ _ _
/-- The first n blocks; what they are put on. -/
def streamOf (key : List UInt8) (count : Nat) (nonce : List UInt8) : Nat → List UInt8
  | 0 => []
  | n + 1 => streamOf key count nonce n ++ blockOf key ((count + n) % 4294967296) nonce
theorem streamOf_len (key : List UInt8) (count : Nat) (nonce : List UInt8) : ∀ n, (streamOf key count nonce n).length = 64 * n
  | 0 => rfl
  | n + 1 => by simp [streamOf, streamOf_len key count nonce n, blockOf_len]; omega
def nblk (n : Nat) : Nat := (n + 63) / 64
def xorOf (key : List UInt8) (count : Nat) (nonce b : List UInt8) : List UInt8 := xr b (streamOf key count nonce (nblk b.length))
theorem xr_app (b s t : List UInt8) : xr b (s ++ t) = xr b s ++ xr (b.drop s.length) t := by
  induction s generalizing b with
  | nil => cases b <;> simp [xr]
  | cons x s ih =>
    cases b with
    | nil => simp [xr]
    | cons y b => have := ih b; simp [xr] at this ⊢; exact this
theorem xorOf_len (key : List UInt8) (count : Nat) (nonce b : List UInt8) : (xorOf key count nonce b).length = b.length := by
  rw [xorOf, xr_len, streamOf_len, nblk]; omega
def zb (n : Nat) : List UInt8 := List.replicate n 0
set_option maxRecDepth 100000 in
theorem block_nought : ∃ l : List UInt8, l = blockOf (zb 32) 0 (zb 12) ∧ l[0]? = some 118 ∧ l[1]? = some 184 ∧ l[2]? = some 224 ∧ l[3]? = some 173 ∧ l[63]? = some 134 :=
  ⟨_, rfl, by decide +kernel, by decide +kernel, by decide +kernel, by decide +kernel, by decide +kernel⟩
theorem qr_known : qr 286331153 16909060 2609737539 19088743 = (3928658676, 3407673550, 1166100270, 1484899515) := by decide +kernel
end Go.Proofs.Ytcdjpjljaoeakaa
