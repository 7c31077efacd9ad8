/-
  Words and contracts that other texts share, several in one text. No statement of the seat is proved here. Conditions: as each contract says.
  The stream as numbers and lists, for the kernel to reckon: no statement is proved here. Conditions: none.
  Contract of chacha.Quarter: the quarter round. Conditions: the words are below 2^32.
  Contract of chacha's mix: two rounds. Conditions: the state lies in a block of its own; its words are below 2^32.
  Contract of chacha's begun: the state of a block ahead of its rounds. Conditions: a key of 32 bytes, a nonce of 12, a count below 2^32.
  Contract of chacha.Block: the block of that count. Conditions: a key of 32 bytes, a nonce of 12, a count below 2^32.
  Contract of chacha.Xor: the stream on bytes, EARG past the last count. Conditions: a key of 32 bytes, a nonce of 12, a count below 2^32; fewer than 2^40 bytes.
  The stream in parts, as lists: words that the laws of chapter 4 share. No statement is proved here. Conditions: none.
-/
import Derived.Test.YtkeejkhapmcanaaPkA
import Derived.IntWalk
import Derived.Deep.Cut
namespace Go.Proofs.Ytkeejkhapmcanaa
open Go.RowKit

abbrev W32 : Nat := 4294967296
/-- Half a quarter round; the quarter round. -/
def qh (r s a b c d : Nat) : Nat × Nat × Nat × Nat :=
  match (a + b) % 4294967296 with
  | a1 => match rl (d ^^^ a1) r with
    | d1 => match (c + d1) % 4294967296 with
      | c1 => (a1, rl (b ^^^ c1) s, c1, d1)
def qr (a b c d : Nat) : Nat × Nat × Nat × Nat :=
  match qh 16 12 a b c d with
  | (a1, b1, c1, d1) => qh 8 7 a1 b1 c1 d1
theorem qh_eq (r s a b c d a1 d1 c1 b1 : Nat) (h1 : a1 = (a + b) % 4294967296) (h2 : d1 = rl (d ^^^ a1) r) (h3 : c1 = (c + d1) % 4294967296) (h4 : b1 = rl (b ^^^ c1) s) : qh r s a b c d = (a1, b1, c1, d1) := by
  subst h1 h2 h3 h4; rfl
theorem qr_eq {a b c d a1 b1 c1 d1 a2 b2 c2 d2 : Nat} (h1 : qh 16 12 a b c d = (a1, b1, c1, d1)) (h2 : qh 8 7 a1 b1 c1 d1 = (a2, b2, c2, d2)) : qr a b c d = (a2, b2, c2, d2) := by
  unfold qr; rw [h1]; exact h2

def q4 (s : List Nat) (i j k l : Nat) : List Nat :=
  match qr (natAt s i) (natAt s j) (natAt s k) (natAt s l) with
  | (p, q, r, t) => (((s.set i p).set j q).set k r).set l t
theorem q4_eq {s : List Nat} {i j k l p q r t : Nat} (h : qr (natAt s i) (natAt s j) (natAt s k) (natAt s l) = (p, q, r, t)) : q4 s i j k l = (((s.set i p).set j q).set k r).set l t := by
  unfold q4; rw [h]
theorem q4_len (s : List Nat) (i j k l : Nat) : (q4 s i j k l).length = s.length := by simp [q4]
/-- The first n quarter rounds, slanted t; two rounds; more. -/
def half (s : List Nat) (t : Nat) : Nat → List Nat
  | 0 => s
  | n + 1 => q4 (half s t n) n (4 + (n + t) % 4) (8 + (n + 2 * t) % 4) (12 + (n + 3 * t) % 4)
theorem half_len (s : List Nat) (t : Nat) : ∀ n, (half s t n).length = s.length
  | 0 => rfl
  | n + 1 => by rw [half, q4_len, half_len s t n]
def mixOf (s : List Nat) : List Nat := half (half s 0 4) 1 4
theorem mixOf_len (s : List Nat) : (mixOf s).length = s.length := by rw [mixOf, half_len, half_len]
def rounds (s : List Nat) : Nat → List Nat
  | 0 => s
  | n + 1 => mixOf (rounds s n)
theorem rounds_len (s : List Nat) : ∀ n, (rounds s n).length = s.length
  | 0 => rfl
  | n + 1 => by rw [rounds, mixOf_len, rounds_len s n]

def small32 (l : List Nat) : Prop := ∀ x ∈ l, x < 4294967296
theorem small32.set {l : List Nat} (h : small32 l) (i x : Nat) (hx : x < 4294967296) : small32 (l.set i x) := by
  intro y hy
  rcases List.mem_or_eq_of_mem_set hy with hy | rfl
  · exact h y hy
  · exact hx
theorem small32.at_ {l : List Nat} (h : small32 l) (k : Nat) : natAt l k < 4294967296 := natAt_lt h k
theorem qh_lt (r s a b c d : Nat) (hb : b < 4294967296) (hd : d < 4294967296) : (qh r s a b c d).1 < 4294967296 ∧ (qh r s a b c d).2.1 < 4294967296 ∧ (qh r s a b c d).2.2.1 < 4294967296 ∧ (qh r s a b c d).2.2.2 < 4294967296 :=
  ⟨Nat.mod_lt _ (by decide), rl_lt _ _ (xor32 hb (Nat.mod_lt _ (by decide))), Nat.mod_lt _ (by decide), rl_lt _ _ (xor32 hd (Nat.mod_lt _ (by decide)))⟩
theorem qr_lt (a b c d : Nat) (hb : b < 4294967296) (hd : d < 4294967296) : (qr a b c d).1 < 4294967296 ∧ (qr a b c d).2.1 < 4294967296 ∧ (qr a b c d).2.2.1 < 4294967296 ∧ (qr a b c d).2.2.2 < 4294967296 := by
  have h := qh_lt 16 12 a b c d hb hd
  exact qh_lt 8 7 _ _ _ _ h.2.1 h.2.2.2
theorem q4_small (s : List Nat) (i j k l : Nat) (h : small32 s) : small32 (q4 s i j k l) := by
  have hq := qr_lt (natAt s i) (natAt s j) (natAt s k) (natAt s l) (h.at_ j) (h.at_ l)
  exact (((h.set i _ hq.1).set j _ hq.2.1).set k _ hq.2.2.1).set l _ hq.2.2.2
theorem half_small (s : List Nat) (t : Nat) (h : small32 s) : ∀ n, small32 (half s t n)
  | 0 => h
  | n + 1 => q4_small _ _ _ _ _ (half_small s t h n)
theorem mixOf_small (s : List Nat) (h : small32 s) : small32 (mixOf s) := half_small _ _ (half_small _ _ h _) _
theorem rounds_small (s : List Nat) (h : small32 s) : ∀ n, small32 (rounds s n)
  | 0 => h
  | n + 1 => mixOf_small _ (rounds_small s h n)

/-- Words of four bytes, the lowest first. -/
def lw (row : List UInt8) : Nat → List Nat
  | 0 => []
  | k + 1 => lw row k ++ [ln ((row.drop (4 * k)).take 4)]
theorem lw_len (row : List UInt8) : ∀ k, (lw row k).length = k
  | 0 => rfl
  | k + 1 => by simp [lw, lw_len row k]
theorem ln4_lt (row : List UInt8) : ln (row.take 4) < 4294967296 := by
  have h := ln_lt _ (row.take 4) rfl
  have h2 : (row.take 4).length ≤ 4 := by simp; omega
  have h3 : 256 ^ (row.take 4).length ≤ 256 ^ 4 := Nat.pow_le_pow_right (by decide) h2
  have h4 : (256 : Nat) ^ 4 = 4294967296 := by decide
  omega
theorem lw_small (row : List UInt8) : ∀ k, small32 (lw row k)
  | 0 => fun x hx => by cases hx
  | k + 1 => fun x hx => by
    rcases List.mem_append.1 hx with hx | hx
    · exact lw_small row k x hx
    · simp at hx; subst hx; exact ln4_lt _
theorem lw_app (x y : List UInt8) (m : Nat) (hx : x.length = 4 * m) : ∀ n, lw (x ++ y) (m + n) = lw x m ++ lw y n
  | 0 => by
    rw [Nat.add_zero, lw, List.append_nil]
    have h : ∀ k, k ≤ m → lw (x ++ y) k = lw x k := by
      intro k
      induction k with
      | zero => intro _; rfl
      | succ k ih =>
        intro hk
        rw [lw, lw, ih (by omega), List.drop_append_of_le_length (by omega), List.take_append_of_le_length (by simp; omega)]
    exact h m (Nat.le_refl _)
  | n + 1 => by
    rw [← Nat.add_assoc, lw, lw_app x y m hx n, lw, List.append_assoc]
    have e : (x ++ y).drop (4 * (m + n)) = y.drop (4 * n) := by
      rw [List.drop_append, List.drop_of_length_le (by omega), List.nil_append]
      congr 1; omega
    rw [e]

/-- What stands ahead of a key. -/
def aheadB : List UInt8 := [101, 120, 112, 97, 110, 100, 32, 51, 50, 45, 98, 121, 116, 101, 32, 107]
def rowOf (key : List UInt8) (count : Nat) (nonce : List UInt8) : List UInt8 := aheadB ++ key ++ le count 4 ++ nonce
def firstOf (key : List UInt8) (count : Nat) (nonce : List UInt8) : List Nat := lw (rowOf key count nonce) 16
theorem firstOf_len (key : List UInt8) (count : Nat) (nonce : List UInt8) : (firstOf key count nonce).length = 16 := lw_len _ _
theorem firstOf_small (key : List UInt8) (count : Nat) (nonce : List UInt8) : small32 (firstOf key count nonce) := lw_small _ _
/-- The bytes of sums. -/
def outw (m f : List Nat) : Nat → List UInt8
  | 0 => []
  | k + 1 => outw m f k ++ le ((natAt m k + natAt f k) % 4294967296) 4
theorem outw_len (m f : List Nat) : ∀ k, (outw m f k).length = 4 * k
  | 0 => rfl
  | k + 1 => by simp [outw, outw_len m f k, le_len]; omega
def blockOf (key : List UInt8) (count : Nat) (nonce : List UInt8) : List UInt8 := outw (rounds (firstOf key count nonce) 10) (firstOf key count nonce) 16
theorem blockOf_len (key : List UInt8) (count : Nat) (nonce : List UInt8) : (blockOf key count nonce).length = 64 := outw_len _ _ _
/-- The first n blocks; what they are put on. -/
def streamOf (key : List UInt8) (count : Nat) (nonce : List UInt8) : Nat → List UInt8
  | 0 => []
  | n + 1 => streamOf key count nonce n ++ blockOf key ((count + n) % 4294967296) nonce
theorem streamOf_len (key : List UInt8) (count : Nat) (nonce : List UInt8) : ∀ n, (streamOf key count nonce n).length = 64 * n
  | 0 => rfl
  | n + 1 => by simp [streamOf, streamOf_len key count nonce n, blockOf_len]; omega
def nblk (n : Nat) : Nat := (n + 63) / 64
def xorOf (key : List UInt8) (count : Nat) (nonce b : List UInt8) : List UInt8 := xr b (streamOf key count nonce (nblk b.length))
theorem xr_app (b s t : List UInt8) : xr b (s ++ t) = xr b s ++ xr (b.drop s.length) t := by
  induction s generalizing b with
  | nil => cases b <;> simp [xr]
  | cons x s ih =>
    cases b with
    | nil => simp [xr]
    | cons y b => have := ih b; simp [xr] at this ⊢; exact this
theorem xorOf_len (key : List UInt8) (count : Nat) (nonce b : List UInt8) : (xorOf key count nonce b).length = b.length := by
  rw [xorOf, xr_len, streamOf_len, nblk]; omega
def zb (n : Nat) : List UInt8 := List.replicate n 0
set_option maxRecDepth 100000 in
theorem block_nought : ∃ l : List UInt8, l = blockOf (zb 32) 0 (zb 12) ∧ l[0]? = some 118 ∧ l[1]? = some 184 ∧ l[2]? = some 224 ∧ l[3]? = some 173 ∧ l[63]? = some 134 :=
  ⟨_, rfl, by decide +kernel, by decide +kernel, by decide +kernel, by decide +kernel, by decide +kernel⟩
theorem qr_known : qr 286331153 16909060 2609737539 19088743 = (3928658676, 3407673550, 1166100270, 1484899515) := by decide +kernel
end Go.Proofs.Ytkeejkhapmcanaa
namespace Go.Proofs.Ytkeejkhapmcanaa
open Go.RowKit

theorem add32 (a b : Nat) : ((a : Int) + (b : Int)) % 4294967296 = (((a + b) % 4294967296 : Nat) : Int) := by omega
theorem rot16 (x : Nat) (w : World) (hx : x < 4294967296) :
    Calls Try.prog 57 #[.int .u32 (x : Int), .int .i64 16] w fun e w' => ∃ y : Nat, e = .returned (.int .u32 (y : Int)) ∧ Hid (y = rl x 16) ∧ y < 4294967296 ∧ w = w' :=
  (rot_any x 16 16 w hx (by decide) (by kernel_rfl)).mono fun _ _ h => ⟨_, h.1, rfl, rl_lt _ _ hx, h.2⟩
theorem rot12 (x : Nat) (w : World) (hx : x < 4294967296) :
    Calls Try.prog 57 #[.int .u32 (x : Int), .int .i64 12] w fun e w' => ∃ y : Nat, e = .returned (.int .u32 (y : Int)) ∧ Hid (y = rl x 12) ∧ y < 4294967296 ∧ w = w' :=
  (rot_any x 12 12 w hx (by decide) (by kernel_rfl)).mono fun _ _ h => ⟨_, h.1, rfl, rl_lt _ _ hx, h.2⟩
theorem rot8 (x : Nat) (w : World) (hx : x < 4294967296) :
    Calls Try.prog 57 #[.int .u32 (x : Int), .int .i64 8] w fun e w' => ∃ y : Nat, e = .returned (.int .u32 (y : Int)) ∧ Hid (y = rl x 8) ∧ y < 4294967296 ∧ w = w' :=
  (rot_any x 8 8 w hx (by decide) (by kernel_rfl)).mono fun _ _ h => ⟨_, h.1, rfl, rl_lt _ _ hx, h.2⟩
theorem rot7 (x : Nat) (w : World) (hx : x < 4294967296) :
    Calls Try.prog 57 #[.int .u32 (x : Int), .int .i64 7] w fun e w' => ∃ y : Nat, e = .returned (.int .u32 (y : Int)) ∧ Hid (y = rl x 7) ∧ y < 4294967296 ∧ w = w' :=
  (rot_any x 7 7 w hx (by decide) (by kernel_rfl)).mono fun _ _ h => ⟨_, h.1, rfl, rl_lt _ _ hx, h.2⟩
/-- A sum and an exclusive or, as the walk meets them. -/
theorem sum_ex (a b : Nat) : ∃ s : Nat, ((a : Int) + (b : Int)) % 4294967296 = (s : Int) ∧ Hid (s = (a + b) % 4294967296) ∧ s < 4294967296 := ⟨_, add32 a b, rfl, Nat.mod_lt _ (by decide)⟩
theorem xor_ex (a b : Nat) (ha : a < 4294967296) (hb : b < 4294967296) : ∃ s : Nat, bits .xor .u32 (a : Int) (b : Int) = (s : Int) ∧ Hid (s = a ^^^ b) ∧ s < 4294967296 := ⟨_, u32_xor_nat a b ha hb, rfl, xor32 ha hb⟩

theorem results_tmp4 {fn : Func} {t u v x : Tmp} (h : fn.results = #[.tmp t, .tmp u, .tmp v, .tmp x]) (tmps : Array Value) (P : Program) (w : World) :
    (results fn tmps).run P w = .ok (.tuple #[tmps.getD t undef, tmps.getD u undef, tmps.getD v undef, tmps.getD x undef]) w := by
  simp [results, h]
theorem quarter_any (a b c d : Nat) (w : World) (hb : b < 4294967296) (hd : d < 4294967296) :
    Calls Try.prog 50 #[.int .u32 (a : Int), .int .u32 (b : Int), .int .u32 (c : Int), .int .u32 (d : Int)] w fun e w' =>
      ∃ p q r s : Nat, e = .returned (.tuple #[.int .u32 (p : Int), .int .u32 (q : Int), .int .u32 (r : Int), .int .u32 (s : Int)]) ∧ Hid (qr a b c d = (p, q, r, s)) ∧ (p < 4294967296 ∧ q < 4294967296 ∧ r < 4294967296 ∧ s < 4294967296) ∧ w = w' := by
  obtain ⟨a1, ea1, ha1, la1⟩ := sum_ex a b
  obtain ⟨x1, ex1, hx1, lx1⟩ := xor_ex d a1 hd la1
  go_enter Try.func50, Try.ntmps50
  go_wp2_with fail
  refine (rot16 x1 _ lx1).mono ?_
  rintro e w' ⟨d1, rfl, hd1, ld1, rfl⟩
  obtain ⟨c1, ec1, hc1, lc1⟩ := sum_ex c d1
  obtain ⟨x2, ex2, hx2, lx2⟩ := xor_ex b c1 hb lc1
  go_wp2_with fail
  refine (rot12 x2 _ lx2).mono ?_
  rintro e w' ⟨b1, rfl, hb1, lb1, rfl⟩
  obtain ⟨a2, ea2, ha2, la2⟩ := sum_ex a1 b1
  obtain ⟨x3, ex3, hx3, lx3⟩ := xor_ex d1 a2 ld1 la2
  go_wp2_with fail
  refine (rot8 x3 _ lx3).mono ?_
  rintro e w' ⟨d2, rfl, hd2, ld2, rfl⟩
  obtain ⟨c2, ec2, hc2, lc2⟩ := sum_ex c1 d2
  obtain ⟨x4, ex4, hx4, lx4⟩ := xor_ex b1 c2 lb1 lc2
  go_wp2_with fail
  refine (rot7 x4 _ lx4).mono ?_
  rintro e w' ⟨b2, rfl, hb2, lb2, rfl⟩
  go_wp2
  (try simp only [Exit.inBlock, Exit.then])
  refine bodyPost_ret (results_tmp4 rfl _ _ _) rfl ?_
  refine ⟨a2, b2, c2, d2, rfl, ?_, ⟨la2, lb2, lc2, ld2⟩, rfl⟩
  exact qr_eq (qh_eq _ _ _ _ _ _ a1 d1 c1 b1 ha1.out (by rw [hd1.out, hx1.out]) hc1.out (by rw [hb1.out, hx2.out])) (qh_eq _ _ _ _ _ _ a2 d2 c2 b2 ha2.out (by rw [hd2.out, hx3.out]) hc2.out (by rw [hb2.out, hx4.out]))
end Go.Proofs.Ytkeejkhapmcanaa
namespace Go.Proofs.Ytkeejkhapmcanaa
open Go.RowKit

/-- n halves of two rounds. -/
def mixN (l : List Nat) : Nat → List Nat
  | 0 => l
  | n + 1 => half (mixN l n) n 4
theorem mixN_len (l : List Nat) : ∀ n, (mixN l n).length = l.length
  | 0 => rfl
  | n + 1 => by rw [mixN, half_len, mixN_len l n]
theorem mixN_small (l : List Nat) (h : small32 l) : ∀ n, small32 (mixN l n)
  | 0 => h
  | n + 1 => half_small _ _ (mixN_small l h n) _
theorem mixN_two (l : List Nat) : mixN l 2 = mixOf l := rfl

set_option maxRecDepth 100000 in
set_option maxHeartbeats 2000000 in
theorem cmix_any (w : World) (g : Nat) (l : List Nat) (hg : w.heap[g]? = some (.cells (u32v l).toArray 51 (0, 0))) (hl : l.length = 16) (hs : small32 l) :
    Calls Try.prog 34 #[.pointer (some ⟨g, 0, none⟩)] w fun e w' => e = .returned (.tuple #[]) ∧ Hid (w'.heap[g]? = some (.cells (u32v (mixOf l)).toArray 51 (0, 0))) ∧ But g w w' := by
  have HG := Lib.hid hg
  have HL := Lib.hid hl
  clear hg hl
  go_enter Try.func34, Try.ntmps34
  go_wp2
  go_loopw [7] (fun i wr => ∃ t : Nat, t ≤ 2 ∧ i = .int .i64 (t : Int) ∧ Hid (wr.heap[g]? = some (.cells (u32v (mixN l t)).toArray 51 (0, 0))) ∧ But g w wr) (fun i _ => 2 - (intOf i).toNat)
  case atStart => exact ⟨0, by omega, rfl, HG, But.refl _ _⟩
  case round =>
    obtain ⟨t, ht, rfl, hgt, hbt⟩ := hrel
    by_cases hlt : t < 2
    · obtain ⟨L, hL⟩ : ∃ L, L = mixN l t := ⟨_, rfl⟩
      rw [← hL] at hgt
      have HLL := Lib.hid (show L.length = 16 by rw [hL, mixN_len]; exact HL.out)
      have hLs : small32 L := by rw [hL]; exact mixN_small l hs t
      have HM := Lib.hid hL
      clear hL
      go_wp2
      generalize decide ((t : Int) < 2) = bb
      go_loopw [10] (fun i wr => ∃ n : Nat, n ≤ 4 ∧ i = .int .i64 (n : Int) ∧ Hid (wr.heap[g]? = some (.cells (u32v (half L t n)).toArray 51 (0, 0))) ∧ But g w wr) (fun i _ => 4 - (intOf i).toNat)
      case atStart => exact ⟨0, by omega, rfl, hgt, hbt⟩
      case round =>
        clear hgt hbt
        obtain ⟨n, hn, rfl, hgn, hbn⟩ := hrel
        by_cases hlt2 : n < 4
        · obtain ⟨X, hX⟩ : ∃ X, X = half L t n := ⟨_, rfl⟩
          rw [← hX] at hgn
          have HXL := Lib.hid (show X.length = 16 by rw [hX, half_len]; exact HLL.out)
          have hXs : small32 X := by rw [hX]; exact half_small L t hLs n
          have HX := Lib.hid hX
          clear hX
          obtain ⟨j, hj⟩ : ∃ j, j = 4 + (n + t) % 4 := ⟨_, rfl⟩
          obtain ⟨k, hk⟩ : ∃ k, k = 8 + (n + 2 * t) % 4 := ⟨_, rfl⟩
          obtain ⟨m, hm⟩ : ∃ m, m = 12 + (n + 3 * t) % 4 := ⟨_, rfl⟩
          have ej : (4 : Int) + ((n : Int) + (t : Int)) % 4 = (j : Int) := by omega
          have ek : (8 : Int) + ((n : Int) + 2 * (t : Int)) % 4 = (k : Int) := by omega
          have em : (12 : Int) + ((n : Int) + 3 * (t : Int)) % 4 = (m : Int) := by omega
          have EJ := Lib.hid ej
          have EK := Lib.hid ek
          have EM := Lib.hid em
          clear ej ek em
          have ln : n < 16 := by omega
          have lj : j < 16 := by omega
          have lk : k < 16 := by omega
          have lm : m < 16 := by omega
          have in_ : (n : Int) < 16 := by omega
          have ij : (j : Int) < 16 := by omega
          have ik : (k : Int) < 16 := by omega
          have im : (m : Int) < 16 := by omega
          have HH := Lib.hid (show half L t (n + 1) = q4 X n j k m by rw [half, ← HX.out, hj, hk, hm])
          clear hj hk hm
          have c0 := word_at hgn.out n (by rw [HXL.out]; exact ln)
          have c1 := word_at hgn.out j (by rw [HXL.out]; exact lj)
          have c2 := word_at hgn.out k (by rw [HXL.out]; exact lk)
          have c3 := word_at hgn.out m (by rw [HXL.out]; exact lm)
          have HQ := Lib.hid (fun p q r s => q4_eq (s := X) (i := n) (j := j) (k := k) (l := m) (p := p) (q := q) (r := r) (t := s))
          have b1 := hXs.at_ j
          have b3 := hXs.at_ m
          generalize natAt X n = x0 at *
          generalize natAt X j = x1 at *
          generalize natAt X k = x2 at *
          generalize natAt X m = x3 at *
          go_wp2_with fail
          rw [EJ.out, EK.out, EM.out]
          refine c_start (S := (fun W => W.cell? ⟨g, n, none⟩ = some (.int .u32 (x0 : Int)) ∧ W.cell? ⟨g, j, none⟩ = some (.int .u32 (x1 : Int)) ∧ W.cell? ⟨g, k, none⟩ = some (.int .u32 (x2 : Int)) ∧ W.cell? ⟨g, m, none⟩ = some (.int .u32 (x3 : Int)))) 28 (by kernel_rfl) (⟨c0, c1, c2, c3⟩) (fun hHeld => ?_)
          refine c_take (i := 0) (oi := ⟨(some 31), _, _, _, _, _⟩) (v := ?vq1_0) rfl (by decide) (by kernel_rfl) (by kernel_rfl) (by kernel_rfl) (fun _ _ _ h => h) (Or.inl ⟨by rfl, ?yq1_0⟩) hHeld ?_
          case yq1_0 => (intro W0 hSw; go_simp; try with_reducible rfl)
          try simp only [Act.put, List.setIfInBounds_toArray, List.set_cons_zero, List.set_cons_succ]
          refine c_take (i := 1) (oi := ⟨(some 32), _, _, _, _, _⟩) (v := ?vq1_1) rfl (by decide) (by kernel_rfl) (by kernel_rfl) (by kernel_rfl) (fun _ _ _ h => h) (Or.inl ⟨by rfl, ?yq1_1⟩) hHeld ?_
          case yq1_1 => (intro W0 hSw; go_simp; try with_reducible rfl)
          try simp only [Act.put, List.setIfInBounds_toArray, List.set_cons_zero, List.set_cons_succ]
          refine c_take (i := 2) (oi := ⟨(some 33), _, _, _, _, _⟩) (v := ?vq1_2) rfl (by decide) (by kernel_rfl) (by kernel_rfl) (by kernel_rfl) (fun _ _ _ h => h) (Or.inl ⟨by rfl, ?yq1_2⟩) hHeld ?_
          case yq1_2 => (intro W0 hSw; go_simp; try with_reducible rfl)
          try simp only [Act.put, List.setIfInBounds_toArray, List.set_cons_zero, List.set_cons_succ]
          refine c_take (i := 3) (oi := ⟨(some 34), _, _, _, _, _⟩) (v := ?vq1_3) rfl (by decide) (by kernel_rfl) (by kernel_rfl) (by kernel_rfl) (fun _ _ _ h => h) (Or.inl ⟨by rfl, ?yq1_3⟩) hHeld ?_
          case yq1_3 => (intro W0 hSw; go_simp; try with_reducible rfl)
          try simp only [Act.put, List.setIfInBounds_toArray, List.set_cons_zero, List.set_cons_succ]
          refine c_take (i := 4) (oi := ⟨(some 35), _, _, _, _, _⟩) (v := ?vq1_4) rfl (by decide) (by kernel_rfl) (by kernel_rfl) (by kernel_rfl) (fun _ _ _ h => h) (Or.inl ⟨by rfl, ?yq1_4⟩) hHeld ?_
          case yq1_4 => (intro W0 hSw; go_simp; try with_reducible rfl)
          try simp only [Act.put, List.setIfInBounds_toArray, List.set_cons_zero, List.set_cons_succ]
          refine c_take (i := 5) (oi := ⟨(some 36), _, _, _, _, _⟩) (v := ?vq1_5) rfl (by decide) (by kernel_rfl) (by kernel_rfl) (by kernel_rfl) (fun _ _ _ h => h) (Or.inl ⟨by rfl, ?yq1_5⟩) hHeld ?_
          case yq1_5 => (intro W0 hSw; go_simp; try with_reducible rfl)
          try simp only [Act.put, List.setIfInBounds_toArray, List.set_cons_zero, List.set_cons_succ]
          refine c_take (i := 6) (oi := ⟨(some 37), _, _, _, _, _⟩) (v := ?vq1_6) rfl (by decide) (by kernel_rfl) (by kernel_rfl) (by kernel_rfl) (fun _ _ _ h => h) (Or.inl ⟨by rfl, ?yq1_6⟩) hHeld ?_
          case yq1_6 => (intro W0 hSw; go_simp; try with_reducible rfl)
          try simp only [Act.put, List.setIfInBounds_toArray, List.set_cons_zero, List.set_cons_succ]
          refine c_take (i := 7) (oi := ⟨(some 38), _, _, _, _, _⟩) (v := ?vq1_7) rfl (by decide) (by kernel_rfl) (by kernel_rfl) (by kernel_rfl) (fun _ _ _ h => h) (Or.inl ⟨by rfl, ?yq1_7⟩) hHeld ?_
          case yq1_7 => (intro W0 hSw; go_simp; try with_reducible rfl)
          try simp only [Act.put, List.setIfInBounds_toArray, List.set_cons_zero, List.set_cons_succ]
          refine c_take (i := 8) (oi := ⟨(some 39), _, _, _, _, _⟩) (v := ?vq1_8) rfl (by decide) (by kernel_rfl) (by kernel_rfl) (by kernel_rfl) (fun _ _ _ h => h) (Or.inl ⟨by rfl, ?yq1_8⟩) hHeld ?_
          case yq1_8 => (intro W0 hSw; go_simp; try with_reducible rfl)
          try simp only [Act.put, List.setIfInBounds_toArray, List.set_cons_zero, List.set_cons_succ]
          refine c_take (i := 9) (oi := ⟨(some 40), _, _, _, _, _⟩) (v := ?vq1_9) rfl (by decide) (by kernel_rfl) (by kernel_rfl) (by kernel_rfl) (fun _ _ _ h => h) (Or.inl ⟨by rfl, ?yq1_9⟩) hHeld ?_
          case yq1_9 => (intro W0 hSw; go_simp; try with_reducible rfl)
          try simp only [Act.put, List.setIfInBounds_toArray, List.set_cons_zero, List.set_cons_succ]
          refine c_take (i := 10) (oi := ⟨(some 41), _, _, _, _, _⟩) (v := ?vq1_10) rfl (by decide) (by kernel_rfl) (by kernel_rfl) (by kernel_rfl) (fun _ _ _ h => h) (Or.inl ⟨by rfl, ?yq1_10⟩) hHeld ?_
          case yq1_10 => (intro W0 hSw; go_simp; try with_reducible rfl)
          try simp only [Act.put, List.setIfInBounds_toArray, List.set_cons_zero, List.set_cons_succ]
          refine c_take (i := 11) (oi := ⟨(some 42), _, _, _, _, _⟩) (v := ?vq1_11) rfl (by decide) (by kernel_rfl) (by kernel_rfl) (by kernel_rfl) (fun _ _ _ h => h) (Or.inl ⟨by rfl, ?yq1_11⟩) hHeld ?_
          case yq1_11 => (intro W0 hSw; go_simp; try with_reducible rfl)
          try simp only [Act.put, List.setIfInBounds_toArray, List.set_cons_zero, List.set_cons_succ]
          refine c_read (i := 12) (oi := ⟨(some 43), _, _, _, _, _⟩) (v := ?vq1_12) rfl (by decide) (by kernel_rfl) (by kernel_rfl) (by kernel_rfl) (by kernel_rfl) (by kernel_rfl) (fun _ _ _ h => h) (Or.inl ⟨by rfl, ?yq1_12⟩) hHeld ?_
          case yq1_12 => (intro W0 hSw; go_simp; try with_reducible rfl)
          try simp only [Act.put, List.setIfInBounds_toArray, List.set_cons_zero, List.set_cons_succ]
          refine c_take (i := 13) (oi := ⟨(some 44), _, _, _, _, _⟩) (v := ?vq1_13) rfl (by decide) (by kernel_rfl) (by kernel_rfl) (by kernel_rfl) (fun _ _ _ h => h) (Or.inl ⟨by rfl, ?yq1_13⟩) hHeld ?_
          case yq1_13 => (intro W0 hSw; go_simp; try with_reducible rfl)
          try simp only [Act.put, List.setIfInBounds_toArray, List.set_cons_zero, List.set_cons_succ]
          refine c_take (i := 14) (oi := ⟨(some 45), _, _, _, _, _⟩) (v := ?vq1_14) rfl (by decide) (by kernel_rfl) (by kernel_rfl) (by kernel_rfl) (fun _ _ _ h => h) (Or.inl ⟨by rfl, ?yq1_14⟩) hHeld ?_
          case yq1_14 => (intro W0 hSw; go_simp; try with_reducible rfl)
          try simp only [Act.put, List.setIfInBounds_toArray, List.set_cons_zero, List.set_cons_succ]
          refine c_take (i := 15) (oi := ⟨(some 46), _, _, _, _, _⟩) (v := ?vq1_15) rfl (by decide) (by kernel_rfl) (by kernel_rfl) (by kernel_rfl) (fun _ _ _ h => h) (Or.inl ⟨by rfl, ?yq1_15⟩) hHeld ?_
          case yq1_15 => (intro W0 hSw; go_simp; try with_reducible rfl)
          try simp only [Act.put, List.setIfInBounds_toArray, List.set_cons_zero, List.set_cons_succ]
          refine c_take (i := 16) (oi := ⟨(some 47), _, _, _, _, _⟩) (v := ?vq1_16) rfl (by decide) (by kernel_rfl) (by kernel_rfl) (by kernel_rfl) (fun _ _ _ h => h) (Or.inl ⟨by rfl, ?yq1_16⟩) hHeld ?_
          case yq1_16 => (intro W0 hSw; go_simp; try with_reducible rfl)
          try simp only [Act.put, List.setIfInBounds_toArray, List.set_cons_zero, List.set_cons_succ]
          refine c_read (i := 17) (oi := ⟨(some 48), _, _, _, _, _⟩) (v := ?vq1_17) rfl (by decide) (by kernel_rfl) (by kernel_rfl) (by kernel_rfl) (by kernel_rfl) (by kernel_rfl) (fun _ _ _ h => h) (Or.inl ⟨by rfl, ?yq1_17⟩) hHeld ?_
          case yq1_17 => (intro W0 hSw; go_simp; try with_reducible rfl)
          try simp only [Act.put, List.setIfInBounds_toArray, List.set_cons_zero, List.set_cons_succ]
          refine c_take (i := 18) (oi := ⟨(some 49), _, _, _, _, _⟩) (v := ?vq1_18) rfl (by decide) (by kernel_rfl) (by kernel_rfl) (by kernel_rfl) (fun _ _ _ h => h) (Or.inl ⟨by rfl, ?yq1_18⟩) hHeld ?_
          case yq1_18 => (intro W0 hSw; go_simp; try with_reducible rfl)
          try simp only [Act.put, List.setIfInBounds_toArray, List.set_cons_zero, List.set_cons_succ]
          refine c_take (i := 19) (oi := ⟨(some 50), _, _, _, _, _⟩) (v := ?vq1_19) rfl (by decide) (by kernel_rfl) (by kernel_rfl) (by kernel_rfl) (fun _ _ _ h => h) (Or.inl ⟨by rfl, ?yq1_19⟩) hHeld ?_
          case yq1_19 => (intro W0 hSw; go_simp; try with_reducible rfl)
          try simp only [Act.put, List.setIfInBounds_toArray, List.set_cons_zero, List.set_cons_succ]
          refine c_take (i := 20) (oi := ⟨(some 51), _, _, _, _, _⟩) (v := ?vq1_20) rfl (by decide) (by kernel_rfl) (by kernel_rfl) (by kernel_rfl) (fun _ _ _ h => h) (Or.inl ⟨by rfl, ?yq1_20⟩) hHeld ?_
          case yq1_20 => (intro W0 hSw; go_simp; try with_reducible rfl)
          try simp only [Act.put, List.setIfInBounds_toArray, List.set_cons_zero, List.set_cons_succ]
          refine c_take (i := 21) (oi := ⟨(some 52), _, _, _, _, _⟩) (v := ?vq1_21) rfl (by decide) (by kernel_rfl) (by kernel_rfl) (by kernel_rfl) (fun _ _ _ h => h) (Or.inl ⟨by rfl, ?yq1_21⟩) hHeld ?_
          case yq1_21 => (intro W0 hSw; go_simp; try with_reducible rfl)
          try simp only [Act.put, List.setIfInBounds_toArray, List.set_cons_zero, List.set_cons_succ]
          refine c_read (i := 22) (oi := ⟨(some 53), _, _, _, _, _⟩) (v := ?vq1_22) rfl (by decide) (by kernel_rfl) (by kernel_rfl) (by kernel_rfl) (by kernel_rfl) (by kernel_rfl) (fun _ _ _ h => h) (Or.inl ⟨by rfl, ?yq1_22⟩) hHeld ?_
          case yq1_22 => (intro W0 hSw; go_simp; try with_reducible rfl)
          try simp only [Act.put, List.setIfInBounds_toArray, List.set_cons_zero, List.set_cons_succ]
          refine c_take (i := 23) (oi := ⟨(some 54), _, _, _, _, _⟩) (v := ?vq1_23) rfl (by decide) (by kernel_rfl) (by kernel_rfl) (by kernel_rfl) (fun _ _ _ h => h) (Or.inl ⟨by rfl, ?yq1_23⟩) hHeld ?_
          case yq1_23 => (intro W0 hSw; go_simp; try with_reducible rfl)
          try simp only [Act.put, List.setIfInBounds_toArray, List.set_cons_zero, List.set_cons_succ]
          refine c_take (i := 24) (oi := ⟨(some 55), _, _, _, _, _⟩) (v := ?vq1_24) rfl (by decide) (by kernel_rfl) (by kernel_rfl) (by kernel_rfl) (fun _ _ _ h => h) (Or.inl ⟨by rfl, ?yq1_24⟩) hHeld ?_
          case yq1_24 => (intro W0 hSw; go_simp; try with_reducible rfl)
          try simp only [Act.put, List.setIfInBounds_toArray, List.set_cons_zero, List.set_cons_succ]
          refine c_take (i := 25) (oi := ⟨(some 56), _, _, _, _, _⟩) (v := ?vq1_25) rfl (by decide) (by kernel_rfl) (by kernel_rfl) (by kernel_rfl) (fun _ _ _ h => h) (Or.inl ⟨by rfl, ?yq1_25⟩) hHeld ?_
          case yq1_25 => (intro W0 hSw; go_simp; try with_reducible rfl)
          try simp only [Act.put, List.setIfInBounds_toArray, List.set_cons_zero, List.set_cons_succ]
          refine c_take (i := 26) (oi := ⟨(some 57), _, _, _, _, _⟩) (v := ?vq1_26) rfl (by decide) (by kernel_rfl) (by kernel_rfl) (by kernel_rfl) (fun _ _ _ h => h) (Or.inl ⟨by rfl, ?yq1_26⟩) hHeld ?_
          case yq1_26 => (intro W0 hSw; go_simp; try with_reducible rfl)
          try simp only [Act.put, List.setIfInBounds_toArray, List.set_cons_zero, List.set_cons_succ]
          refine c_read (i := 27) (oi := ⟨(some 58), _, _, _, _, _⟩) (v := ?vq1_27) rfl (by decide) (by kernel_rfl) (by kernel_rfl) (by kernel_rfl) (by kernel_rfl) (by kernel_rfl) (fun _ _ _ h => h) (Or.inl ⟨by rfl, ?yq1_27⟩) hHeld ?_
          case yq1_27 => (intro W0 hSw; go_simp; try with_reducible rfl)
          try simp only [Act.put, List.setIfInBounds_toArray, List.set_cons_zero, List.set_cons_succ]
          refine c_take (i := 34) (oi := ⟨(some 64), _, _, _, _, _⟩) (v := ?vq1_28) rfl (by decide) (by kernel_rfl) (by kernel_rfl) (by kernel_rfl) (fun _ _ _ h => h) (Or.inl ⟨by rfl, ?yq1_28⟩) hHeld ?_
          case yq1_28 => (intro W0 hSw; go_simp; try with_reducible rfl)
          try simp only [Act.put, List.setIfInBounds_toArray, List.set_cons_zero, List.set_cons_succ]
          refine c_take (i := 37) (oi := ⟨(some 66), _, _, _, _, _⟩) (v := ?vq1_29) rfl (by decide) (by kernel_rfl) (by kernel_rfl) (by kernel_rfl) (fun _ _ _ h => h) (Or.inl ⟨by rfl, ?yq1_29⟩) hHeld ?_
          case yq1_29 => (intro W0 hSw; go_simp; try with_reducible rfl)
          try simp only [Act.put, List.setIfInBounds_toArray, List.set_cons_zero, List.set_cons_succ]
          refine c_take (i := 40) (oi := ⟨(some 68), _, _, _, _, _⟩) (v := ?vq1_30) rfl (by decide) (by kernel_rfl) (by kernel_rfl) (by kernel_rfl) (fun _ _ _ h => h) (Or.inl ⟨by rfl, ?yq1_30⟩) hHeld ?_
          case yq1_30 => (intro W0 hSw; go_simp; try with_reducible rfl)
          try simp only [Act.put, List.setIfInBounds_toArray, List.set_cons_zero, List.set_cons_succ]
          refine c_take (i := 43) (oi := ⟨(some 70), _, _, _, _, _⟩) (v := ?vq1_31) rfl (by decide) (by kernel_rfl) (by kernel_rfl) (by kernel_rfl) (fun _ _ _ h => h) (Or.inl ⟨by rfl, ?yq1_31⟩) hHeld ?_
          case yq1_31 => (intro W0 hSw; go_simp; try with_reducible rfl)
          try simp only [Act.put, List.setIfInBounds_toArray, List.set_cons_zero, List.set_cons_succ]
          refine c_call (S' := (fun _ => True)) (o := ⟨(some 59), _, _, _, _, _⟩) (by kernel_rfl) (by kernel_rfl) rfl (fun K hK => ?_)
          clear hHeld
          go_simp
          refine (quarter_any x0 x1 x2 x3 _ b1 b3).mono ?_
          rintro e w2 ⟨p, q, r, s, rfl, hqr, ⟨lp, lq, lr, ls⟩, rfl⟩
          refine hK.out _ _ (trivial) (fun hHeld => ?_)
          clear hK K
          try simp only [Act.put, List.setIfInBounds_toArray, List.set_cons_zero, List.set_cons_succ]
          refine wpAnyH_take (i := 29) (oi := ⟨(some 30), _, _, _, _, _⟩) (v := ?vq1_32) rfl (by kernel_rfl) (by kernel_rfl) (by kernel_rfl) (fun _ _ _ h => h) (Or.inl ⟨by rfl, ?yq1_32⟩) hHeld ?_
          case yq1_32 => (intro W0 hSw; go_simp; try with_reducible rfl)
          try simp only [Act.put, List.setIfInBounds_toArray, List.set_cons_zero, List.set_cons_succ]
          refine wpAnyH_take (i := 30) (oi := ⟨(some 60), _, _, _, _, _⟩) (v := ?vq1_33) rfl (by kernel_rfl) (by kernel_rfl) (by kernel_rfl) (fun _ _ _ h => h) (Or.inl ⟨by rfl, ?yq1_33⟩) hHeld ?_
          case yq1_33 => (intro W0 hSw; go_simp; try with_reducible rfl)
          try simp only [Act.put, List.setIfInBounds_toArray, List.set_cons_zero, List.set_cons_succ]
          refine wpAnyH_take (i := 31) (oi := ⟨(some 61), _, _, _, _, _⟩) (v := ?vq1_34) rfl (by kernel_rfl) (by kernel_rfl) (by kernel_rfl) (fun _ _ _ h => h) (Or.inl ⟨by rfl, ?yq1_34⟩) hHeld ?_
          case yq1_34 => (intro W0 hSw; go_simp; try with_reducible rfl)
          try simp only [Act.put, List.setIfInBounds_toArray, List.set_cons_zero, List.set_cons_succ]
          refine wpAnyH_take (i := 32) (oi := ⟨(some 62), _, _, _, _, _⟩) (v := ?vq1_35) rfl (by kernel_rfl) (by kernel_rfl) (by kernel_rfl) (fun _ _ _ h => h) (Or.inl ⟨by rfl, ?yq1_35⟩) hHeld ?_
          case yq1_35 => (intro W0 hSw; go_simp; try with_reducible rfl)
          try simp only [Act.put, List.setIfInBounds_toArray, List.set_cons_zero, List.set_cons_succ]
          refine wpAnyH_take (i := 33) (oi := ⟨(some 63), _, _, _, _, _⟩) (v := ?vq1_36) rfl (by kernel_rfl) (by kernel_rfl) (by kernel_rfl) (fun _ _ _ h => h) (Or.inl ⟨by rfl, ?yq1_36⟩) hHeld ?_
          case yq1_36 => (intro W0 hSw; go_simp; try with_reducible rfl)
          try simp only [Act.put, List.setIfInBounds_toArray, List.set_cons_zero, List.set_cons_succ]
          refine wpAnyH_take (i := 35) (oi := ⟨(some 65), _, _, _, _, _⟩) (v := ?vq1_37) rfl (by kernel_rfl) (by kernel_rfl) (by kernel_rfl) (fun _ _ _ h => h) (Or.inl ⟨by rfl, ?yq1_37⟩) hHeld ?_
          case yq1_37 => (intro W0 hSw; go_simp; try with_reducible rfl)
          try simp only [Act.put, List.setIfInBounds_toArray, List.set_cons_zero, List.set_cons_succ]
          refine wpAnyH_ready (rs := [36]) (by kernel_rfl) (by simp) ?_
          refine AllReadyH.cons (i := 36) (o := ⟨none, _, _, _, _, _⟩) rfl (fun K hK => ?_) AllReadyH.nil
          refine step_set rfl 39 (.tmp 65) (.tmp 60) rfl Try.sizeU32 g n (by rfl) .u32 (p : Int) (by rfl) (u32v X) 51 hgn.out (by rw [u32v_len, HXL.out]; exact ln) wr (But.refl g wr).drew ?_
          intro w3 hg3 hb3
          refine hK.out _ _ (trivial) (fun hHeld => ?_)
          clear hK K
          try simp only [Act.put]
          refine wpAnyH_take (i := 38) (oi := ⟨(some 67), _, _, _, _, _⟩) (v := ?vq1_38) rfl (by kernel_rfl) (by kernel_rfl) (by kernel_rfl) (fun _ _ _ h => h) (Or.inl ⟨by rfl, ?yq1_38⟩) hHeld ?_
          case yq1_38 => (intro W0 hSw; go_simp; try with_reducible rfl)
          try simp only [Act.put, List.setIfInBounds_toArray, List.set_cons_zero, List.set_cons_succ]
          refine wpAnyH_ready (rs := [39]) (by kernel_rfl) (by simp) ?_
          refine AllReadyH.cons (i := 39) (o := ⟨none, _, _, _, _, _⟩) rfl (fun K hK => ?_) AllReadyH.nil
          refine step_set rfl 39 (.tmp 67) (.tmp 61) rfl Try.sizeU32 g j (by rfl) .u32 (q : Int) (by rfl) _ 51 hg3.out (by rw [List.length_set, u32v_len, HXL.out]; exact lj) wr hb3 ?_
          intro w4 hg4 hb4
          refine hK.out _ _ (trivial) (fun hHeld => ?_)
          clear hK K
          try simp only [Act.put]
          refine wpAnyH_take (i := 41) (oi := ⟨(some 69), _, _, _, _, _⟩) (v := ?vq1_39) rfl (by kernel_rfl) (by kernel_rfl) (by kernel_rfl) (fun _ _ _ h => h) (Or.inl ⟨by rfl, ?yq1_39⟩) hHeld ?_
          case yq1_39 => (intro W0 hSw; go_simp; try with_reducible rfl)
          try simp only [Act.put, List.setIfInBounds_toArray, List.set_cons_zero, List.set_cons_succ]
          refine wpAnyH_ready (rs := [42]) (by kernel_rfl) (by simp) ?_
          refine AllReadyH.cons (i := 42) (o := ⟨none, _, _, _, _, _⟩) rfl (fun K hK => ?_) AllReadyH.nil
          refine step_set rfl 39 (.tmp 69) (.tmp 62) rfl Try.sizeU32 g k (by rfl) .u32 (r : Int) (by rfl) _ 51 hg4.out (by rw [List.length_set, List.length_set, u32v_len, HXL.out]; exact lk) wr hb4 ?_
          intro w5 hg5 hb5
          refine hK.out _ _ (trivial) (fun hHeld => ?_)
          clear hK K
          try simp only [Act.put]
          refine wpAnyH_take (i := 44) (oi := ⟨(some 71), _, _, _, _, _⟩) (v := ?vq1_40) rfl (by kernel_rfl) (by kernel_rfl) (by kernel_rfl) (fun _ _ _ h => h) (Or.inl ⟨by rfl, ?yq1_40⟩) hHeld ?_
          case yq1_40 => (intro W0 hSw; go_simp; try with_reducible rfl)
          try simp only [Act.put, List.setIfInBounds_toArray, List.set_cons_zero, List.set_cons_succ]
          refine wpAnyH_ready (rs := [45]) (by kernel_rfl) (by simp) ?_
          refine AllReadyH.cons (i := 45) (o := ⟨none, _, _, _, _, _⟩) rfl (fun K hK => ?_) AllReadyH.nil
          refine step_set rfl 39 (.tmp 71) (.tmp 63) rfl Try.sizeU32 g m (by rfl) .u32 (s : Int) (by rfl) _ 51 hg5.out (by rw [List.length_set, List.length_set, List.length_set, u32v_len, HXL.out]; exact lm) wr hb5 ?_
          intro w6 hg6 hb6
          refine hK.out _ _ (trivial) (fun hHeld => ?_)
          clear hK K
          try simp only [Act.put]
          refine wpAnyH_done (by kernel_rfl) ?_ _
          have hg7 : Hid (w6.heap[g]? = some (.cells (u32v (half L t (n + 1))).toArray 51 (0, 0))) := by
            have h1 := hg6.out
            rw [u32v_set, u32v_set, u32v_set, u32v_set, ← HQ.out p q r s hqr.out, ← HH.out] at h1
            exact h1
          clear hg3 hg4 hg5 hg6 hb3 hb4 hb5 c0 c1 c2 c3
          go_wp2
          go_roundw
          case rel => exact ⟨n + 1, by omega, by go_num, hg7, hbn.trans hb6⟩
          case measure => simp [intOf]; omega
        · have HN := Lib.hid (show n = 4 by omega)
          go_wp2
          go_roundw
          case rel => exact ⟨t + 1, by omega, by go_num, by rw [mixN, ← HM.out]; have h1 := hgn.out; rw [HN.out] at h1; exact h1, hbn⟩
          case measure => simp [intOf]; omega
    · have HT := Lib.hid (show t = 2 by omega)
      go_wp2
      go_end0
      refine ⟨rfl, ?_, hbt⟩
      have h1 := hgt.out
      rw [HT.out, mixN_two] at h1
      exact h1
end Go.Proofs.Ytkeejkhapmcanaa
namespace Go.Proofs.Ytkeejkhapmcanaa
open Go.RowKit

def z16w : List Nat := List.replicate 16 0
theorem zero_w16 (w : World) : (zeroValue 51).run Try.prog w = .ok (.agg (u32v z16w).toArray) w := by kernel_rfl
theorem z16w_upto (row : List UInt8) : z16w = uptoW 16 (lw row 0) := rfl
theorem little4 (A : Option Addr) (l : List UInt8) (n c v : Nat) (w : World) (ha : Byt w w.heap.size A l) (hl : l.length = n) (hn : n ≤ 70368744177664) (hv : v < 4294967296) :
    Calls Try.prog 35 #[.slice A n c, .int .u64 (v : Int), .int .i64 4] w fun e w' => ∃ A' c', e = .returned (.slice A' (n + 4) c') ∧ Res w' w.heap.size 5 A' (n + 4) c' (l ++ le v 4) ∧ Below w.heap.size w w' :=
  little_any A l n c v 4 w ha hl hn (by omega)

set_option maxRecDepth 100000 in
set_option maxHeartbeats 2000000 in
theorem begun_any (w : World) (key nonce : List UInt8) (count : Nat) (hk : key.length = 32) (hn : nonce.length = 12) (hc : count < 4294967296) :
    Calls Try.prog 33 #[.agg (bv key).toArray, .int .u32 (count : Int), .agg (bv nonce).toArray] w fun e w' => e = .returned (.agg (u32v (firstOf key count nonce)).toArray) ∧ Below w.heap.size w w' := by
  have hz := zero_w16
  have HK := Lib.hid hk
  have HN := Lib.hid hn
  clear hk hn
  obtain ⟨W, hW, hgK, hgN, hgZ, hbW, hsW⟩ := three_new w (bv key).toArray (bv nonce).toArray (u32v z16w).toArray 24 25 51
  have HW := Lib.hid hW
  clear hW
  go_enter Try.func33, Try.ntmps33
  go_upto_region 1 with fail
  rw [HW.out]
  have kc := fun (C : Array Value) => Lib.run_convert_bytes_const (P := Try.prog) W 26 5 C 16 16 Try.underlying26 Try.underlying5
  have hcutK := cut_all Try.underlying24 Try.sizeByte w.heap.size 0 (by decide)
  have hcutN := cut_all Try.underlying25 Try.sizeByte (w.heap.size + 1) 0 (by decide)
  have hbK := byt_row hgK.out
  have hbN := byt_row hgN.out
  go_wp2_with (at_builtin; refine wp_append_grow _ rfl (.tmp 13) (.tmp 14) 26 rfl 5 Try.underlying26 Try.infoByte ⟨W.heap.size, 0, none⟩ 16 16 aheadB rfl rfl (by exact cells_at (Byt.lit_cold W _ _ _ aheadB rfl)) ⟨w.heap.size, 0, none⟩ 32 32 rfl key HK.out (by exact cells_at (hbK.alloc (Nat.le_refl _) _)) (by decide) (by decide) ?_)
  intro A1 c1 w1 hr1 hb1
  have hs0 := hsW.out
  have hb1' : Below W.heap.size W w1 := ((Below.refl _ _).alloc (Nat.le_refl _) _).trans (hb1.mono (by simp))
  have hs1 : W.heap.size ≤ w1.heap.size := hb1'.size
  have hlit := little4 A1 (aheadB ++ key) 48 c1 count w1 hr1.byt hr1.len (by decide) hc
  clear kc hcutK hb1 hr1
  go_wp2_with fail
  refine hlit.mono ?_
  rintro e w2 ⟨A2, c2, rfl, hr2, hb2⟩
  clear hlit
  have hb2' : Below W.heap.size W w2 := hb1'.trans (hb2.mono hs1)
  have hbN2 := hbN.below hb2'
  go_wp2_with (at_builtin; refine wp_append_bytes _ rfl (.tmp 20) (.tmp 21) 26 rfl 5 Try.underlying26 Try.infoByte w1.heap.size A2 52 c2 _ rfl hr2 ⟨w.heap.size + 1, 0, none⟩ 12 12 rfl nonce HN.out (by exact cells_at hbN2) (by decide) hb2.size ?_)
  intro A3 c3 w3 hr3 hb3f
  have hb3 : Below W.heap.size W w3 := hb3f _ _ hs1 hb2'
  obtain ⟨row, hrow⟩ : ∃ row, row = aheadB ++ (key ++ (le count 4 ++ nonce)) := ⟨_, rfl⟩
  rw [← hrow] at hr3
  have hbR := hr3.byt
  have HRL := Lib.hid hr3.len
  have hcap := hr3.cap
  have HROW := vlt (show firstOf key count nonce = lw row 16 by rw [hrow]; simp [firstOf, rowOf])
  have hsz3 : w.heap.size + 3 ≤ w3.heap.size := by have := hb3.size; omega
  have hz3 : Hid (w3.heap[w.heap.size + 2]? = some (.cells (u32v z16w).toArray 51 (0, 0))) := (hb3.block _ (by omega)).trans hgZ.out
  have hbw3 : Below w.heap.size w w3 := hbW.trans (hb3.mono (by omega))
  clear hcutN hb3f hrow hr3 hr2 hb2 hb2' hbN hbN2 hb1' hbK hb3 hbW hgK hgN hgZ HW hs1 hs0
  go_wp2
  go_loopw [23] (fun i wr => ∃ k : Nat, k ≤ 16 ∧ i = .int .i64 (k : Int) ∧ Hid (wr.heap[w3.heap.size]? = some (.cells (u32v (uptoW 16 (lw row k))).toArray 51 (0, 0))) ∧ Below w3.heap.size w3 wr) (fun i _ => 16 - (intOf i).toNat)
  case atStart => exact ⟨0, by omega, rfl, heap_alloc_new _ _, (Below.refl _ _).alloc (Nat.le_refl _) _⟩
  case round =>
    obtain ⟨k, hk, rfl, hg, hb⟩ := hrel
    have hsz : w3.heap.size < wr.heap.size := (Array.getElem?_eq_some_iff.1 hg.out).1
    by_cases hlt : k < 16
    · have hcut := run_cut_lh Try.underlying26 Try.sizeByte A3 64 c3 (4 * k) (4 * k + 4) (4 * (k : Int)) (4 * (k : Int) + 4) (by omega) (by omega) (by omega) (by omega)
      have hbt := (((hbR.below hb).cut (4 * k) c3 (by rw [HRL.out]; exact hcap)).take 4).up (Nat.le_of_lt hsz)
      rw [show 4 * k + 4 - 4 * k = 4 by omega] at hcut
      generalize (if c3 = 4 * k then A3 else A3.map (·.add (4 * k))) = A4 at *
      have hfl := fromLittle_ok A4 _ 4 (c3 - 4 * k) wr hbt (by simp only [List.length_take, List.length_drop]; rw [HRL.out]; omega) (by decide)
      have hx : (uptoW 16 (lw row k))[k]? = some 0 := by have := uptoW_at 16 (lw row k) (by rw [lw_len]; exact hlt); rwa [lw_len] at this
      have hcl : wr.cell? ⟨w3.heap.size, k, none⟩ = some (.int .u32 0) := by rw [cell_of_row _ _ _ _ _ _ hg.out]; simp [u32v_at, hx]
      have hf : wr.frozen? ⟨w3.heap.size, k, none⟩ = false := frozen_of_row _ _ _ _ _ hg.out
      have hv := ln4_lt (row.drop (4 * k))
      clear hx hbt
      go_wp2_with fail
      refine hfl.mono ?_
      rintro e w' ⟨rfl, rfl⟩
      clear hcut hfl
      obtain ⟨v, hvv⟩ : ∃ v, v = ln ((row.drop (4 * k)).take 4) := ⟨_, rfl⟩
      rw [← hvv] at hv ⊢
      have HV := vlt hvv
      clear hvv
      go_wp2
      go_roundw
      case rel =>
        refine ⟨k + 1, by omega, by go_num, ?_, hb.setCell (Nat.le_refl _) _⟩
        have e : (v : Int) % 4294967296 = (v : Int) := by omega
        have h1 := heap_setCell_same wr w3.heap.size k _ _ (.int .u32 (v : Int)) hg.out
        try rw [e]
        refine h1.trans ?_
        have h2 := uptoW_set 16 (lw row k) v (by rw [lw_len]; exact hlt)
        rw [lw_len, HV.out] at h2
        rw [lw, ← h2, ← u32v_set, HV.out]
        simp
      case measure => simp [intOf]; omega
    · have HK16 := Lib.hid (show k = 16 by omega)
      have H16 := Lib.hid (show (u32v (uptoW 16 (lw row k))).toArray.size = 16 by simp [u32v_len, uptoW_len 16 (lw row k) (by rw [lw_len]; exact hk)])
      have HZ := Lib.hid (show (u32v z16w).toArray.size = 16 from rfl)
      have HOUT := vlt (show uptoW 16 (lw row k) = firstOf key count nonce by rw [HK16.out, uptoW_all 16 _ (lw_len _ _), HROW.out])
      have hz4 : Hid (wr.heap[w.heap.size + 2]? = some (.cells (u32v z16w).toArray 51 (0, 0))) := (hb.block _ (by omega)).trans hz3.out
      have hb4 : Below w.heap.size w wr := hbw3.trans (hb.mono (by omega))
      go_wp2_with (first
        | (with_reducible refine wpList_load_row rfl 51 (.tmp 8) rfl w3.heap.size rfl 51 (u32v (uptoW 16 (lw row k))).toArray (0, 0) _ hg.out Try.underlying51 rfl (by rw [H16.out]; kernel_rfl) ?_)
        | (with_reducible refine wpList_store_row rfl 51 (.tmp 6) (.tmp 42) rfl (w.heap.size + 1 + 1) (u32v (uptoW 16 (lw row k))).toArray rfl rfl 51 _ hz4.out (by rw [H16.out]; kernel_rfl) (by rw [H16.out]; exact HZ.out) (all_oneCell_toArray (u32v_one _)) ?_))
      refine bodyPost_ret (v := .agg (u32v (uptoW 16 (lw row k))).toArray) (results_cell_row Try.results33 _ _ (w.heap.size + 1 + 1) 51 _ (0, 0) _ rfl (setRow_heap _ _ _ _ _ _ hz4.out) Try.underlying51 rfl (by rw [H16.out]; kernel_rfl)) rfl ⟨by rw [HOUT.out], below_setRow hb4 (by omega) _⟩
end Go.Proofs.Ytkeejkhapmcanaa
namespace Go.Proofs.Ytkeejkhapmcanaa
open Go.RowKit

theorem zero_b64 (w : World) : (zeroValue 40).run Try.prog w = .ok (.agg (bv z64).toArray) w := by kernel_rfl
theorem little4n (v : Nat) (w : World) (hv : v < 4294967296) :
    Calls Try.prog 35 #[.slice none 0 0, .int .u64 (v : Int), .int .i64 4] w fun e w' => ∃ A c, e = .returned (.slice A 4 c) ∧ Res w' w.heap.size 5 A 4 c (le v 4) ∧ Below w.heap.size w w' := by
  have h := little4 none [] 0 0 v w Byt.none_ rfl (by decide) hv
  exact h
/-- Two new blocks of the same words. -/
theorem two_same (w : World) (a z : Array Value) (t : TypeId) :
    ∃ W, ((w.alloc (.cells a t)).alloc (.cells z t)).setRow (w.heap.size + 1) a = W ∧ Hid (W.heap[w.heap.size]? = some (.cells a t (0, 0))) ∧ Hid (W.heap[w.heap.size + 1]? = some (.cells a t (0, 0))) ∧ Below w.heap.size w W ∧ Hid (W.heap.size = w.heap.size + 2) := by
  refine ⟨_, rfl, show _ = _ from ?_, setRow_heap _ _ _ _ _ _ (heap_alloc2_new _ _ _), below_setRow (((Below.refl _ _).alloc (Nat.le_refl _) _).alloc (by simp) _) (by omega) _, show _ = _ by simp⟩
  rw [setRow_other _ _ _ _ (by omega)]
  exact heap_alloc2_old _ _ _

set_option maxRecDepth 100000 in
set_option maxHeartbeats 2000000 in
theorem block_any (w : World) (key nonce : List UInt8) (count : Nat) (hk : key.length = 32) (hn : nonce.length = 12) (hc : count < 4294967296) :
    Calls Try.prog 22 #[.agg (bv key).toArray, .int .u32 (count : Int), .agg (bv nonce).toArray] w fun e w' => e = .returned (.agg (bv (blockOf key count nonce)).toArray) ∧ Below w.heap.size w w' := by
  have hz := zero_w16
  have hzb := zero_b64
  have HKS := Lib.hid (show (bv key).toArray.size = 32 by simp [bv_len, hk])
  have HNS := Lib.hid (show (bv nonce).toArray.size = 12 by simp [bv_len, hn])
  obtain ⟨W, hW, hgK, hgN, hgZ, hbW, hsW⟩ := three_new w (bv key).toArray (bv nonce).toArray (bv z64).toArray 24 25 40
  have HW := Lib.hid hW
  have hbeg := begun_any W key nonce count hk hn hc
  clear hW hk hn
  go_enter Try.func22, Try.ntmps22
  go_upto_region 1 with fail
  rw [HW.out]
  go_wp2_with (first
    | (with_reducible refine wpList_load_row rfl 24 (.tmp 3) rfl w.heap.size rfl 24 (bv key).toArray (0, 0) _ hgK.out Try.underlying24 rfl (by rw [HKS.out]; kernel_rfl) ?_)
    | (with_reducible refine wpList_load_row rfl 25 (.tmp 5) rfl (w.heap.size + 1) rfl 25 (bv nonce).toArray (0, 0) _ hgN.out Try.underlying25 rfl (by rw [HNS.out]; kernel_rfl) ?_))
  refine hbeg.mono ?_
  rintro e w1 ⟨rfl, hb1⟩
  clear hbeg
  obtain ⟨F, hF⟩ : ∃ F, F = firstOf key count nonce := ⟨_, rfl⟩
  rw [← hF]
  have HFL := Lib.hid (show F.length = 16 by rw [hF]; exact firstOf_len _ _ _)
  have hFs : small32 F := by rw [hF]; exact firstOf_small _ _ _
  have HFS := Lib.hid (show (u32v F).toArray.size = 16 by simp [u32v_len, HFL.out])
  have HF := vlt hF
  have HZS := Lib.hid (show (u32v z16w).toArray.size = 16 from rfl)
  have hs0 := hsW.out
  have hs1 := hb1.size
  have hz1 : Hid (w1.heap[w.heap.size + 2]? = some (.cells (bv z64).toArray 40 (0, 0))) := (hb1.block _ (by omega)).trans hgZ.out
  have hbw1 : Below w.heap.size w w1 := hbW.trans (hb1.mono (by omega))
  obtain ⟨W2, hW2, hg7, hg8, hb2, hs2⟩ := two_same w1 (u32v F).toArray (u32v z16w).toArray 51
  have HW2 := Lib.hid hW2
  clear hW2 hF hb1 hbW hgK hgN hgZ HW
  go_upto_region 3 with (first
    | ((with_reducible refine wpList_store_row rfl 51 (.tmp 7) (.tmp 15) rfl w1.heap.size (u32v F).toArray rfl rfl 51 _ (heap_alloc_new _ _) (by rw [HFS.out]; kernel_rfl) (by rw [HFS.out]; exact HZS.out) (all_oneCell_toArray (u32v_one _)) ?_); rw [World.setRow_alloc_new])
    | (with_reducible refine wpList_load_row rfl 51 (.tmp 7) rfl w1.heap.size rfl 51 (u32v F).toArray (0, 0) _ (heap_alloc_new _ _) Try.underlying51 rfl (by rw [HFS.out]; kernel_rfl) ?_)
    | ((with_reducible refine wpList_store_row rfl 51 (.tmp 8) (.tmp 16) rfl (w1.heap.size + 1) (u32v F).toArray rfl rfl 51 _ (heap_alloc2_new _ _ _) (by rw [HFS.out]; kernel_rfl) (by rw [HFS.out]; exact HZS.out) (all_oneCell_toArray (u32v_one _)) ?_); rw [HW2.out]))
  have hs2' := hs2.out
  have hz2 : Hid (W2.heap[w.heap.size + 2]? = some (.cells (bv z64).toArray 40 (0, 0))) := (hb2.block _ (by omega)).trans hz1.out
  have hbw2 : Below w.heap.size w W2 := hbw1.trans (hb2.mono (by omega))
  clear hz1 hbw1 hb2 HW2 hz
  go_wp2
  go_loopw [17] (fun i wr => ∃ k : Nat, k ≤ 10 ∧ i = .int .i64 (k : Int) ∧ Hid (wr.heap[w1.heap.size + 1]? = some (.cells (u32v (rounds F k)).toArray 51 (0, 0))) ∧ But (w1.heap.size + 1) W2 wr) (fun i _ => 10 - (intOf i).toNat)
  case atStart => exact ⟨0, by omega, rfl, hg8, But.refl _ _⟩
  case round =>
    obtain ⟨k, hk, rfl, hg, hbut⟩ := hrel
    by_cases hlt : k < 10
    · obtain ⟨X, hX⟩ : ∃ X, X = rounds F k := ⟨_, rfl⟩
      rw [← hX] at hg
      have hmix := cmix_any wr (w1.heap.size + 1) X hg.out (by rw [hX, rounds_len]; exact HFL.out) (by rw [hX]; exact rounds_small F hFs k)
      have HX := vlt hX
      clear hX
      go_wp2_with fail
      refine hmix.mono ?_
      rintro e w4 ⟨rfl, hg4, hb4⟩
      clear hmix
      go_wp2
      go_roundw
      case rel => exact ⟨k + 1, by omega, by go_num, by rw [rounds, ← HX.out]; exact hg4.out, hbut.trans hb4⟩
      case measure => simp [intOf]; omega
    · obtain ⟨M, hM⟩ : ∃ M, M = rounds F k := ⟨_, rfl⟩
      rw [← hM] at hg
      have HML := Lib.hid (show M.length = 16 by rw [hM, rounds_len]; exact HFL.out)
      have hMs : small32 M := by rw [hM]; exact rounds_small F hFs k
      have HMS := Lib.hid (show (u32v M).toArray.size = 16 by simp [u32v_len, HML.out])
      have HM := vlt (show blockOf key count nonce = outw M F 16 by rw [blockOf, ← HF.out, hM, show k = 10 by omega])
      have hsr := hbut.size
      have hz3 : Hid (wr.heap[w.heap.size + 2]? = some (.cells (bv z64).toArray 40 (0, 0))) := (hbut.block _ (by omega) (by intro e; injection e; omega)).trans hz2.out
      have hg73 : Hid (wr.heap[w1.heap.size]? = some (.cells (u32v F).toArray 51 (0, 0))) := (hbut.block _ (by omega) (by intro e; injection e; omega)).trans hg7.out
      have hb3 : Below w.heap.size w wr := But.below hbw2 hbut (by omega) (by omega)
      have hg8' : Hid ((wr.alloc (.cells (bv z64).toArray 40)).heap[w1.heap.size + 1]? = some (.cells (u32v M).toArray 51 (0, 0))) := (Below.heap_alloc _ _ _ (by omega)).trans hg.out
      clear hM hz2 hg7 hg8 hbw2 hg
      go_wp2_with (with_reducible refine wpList_load_row rfl 51 (.tmp 8) rfl (w1.heap.size + 1) rfl 51 (u32v M).toArray (0, 0) _ hg8'.out Try.underlying51 rfl (by rw [HMS.out]; kernel_rfl) ?_)
      generalize decide ((k : Int) < 10) = bb
      generalize wr = v5 at *
      go_loopw [22] (fun i wt => ∃ j : Nat, j ≤ 16 ∧ i = .int .i64 (j : Int) ∧ Hid (wt.heap[v5.heap.size]? = some (.cells (bv (uptoB 64 (outw M F j))).toArray 40 (0, 0))) ∧ Below v5.heap.size v5 wt) (fun i _ => 16 - (intOf i).toNat)
      case atStart => exact ⟨0, by omega, rfl, heap_alloc_new _ _, (Below.refl _ _).alloc (Nat.le_refl _) _⟩
      case round =>
        clear hg8' hbut hk hlt
        obtain ⟨j, hj, rfl, hg9, hb⟩ := hrel
        have hsz : v5.heap.size < wr.heap.size := (Array.getElem?_eq_some_iff.1 hg9.out).1
        have hg7 : Hid (wr.heap[w1.heap.size]? = some (.cells (u32v F).toArray 51 (0, 0))) := (hb.block _ (by omega)).trans hg73.out
        by_cases hlt : j < 16
        · have hix := at_agg Try.underlying51 Try.sizeU32 Try.underlying39 (u32v M) j _ (j : Int) rfl hlt (natAt_at HML.out hlt)
          have hcl := word_at hg7.out j (by rw [HFL.out]; exact hlt)
          have hcut := cut_l Try.underlying40 Try.sizeByte v5.heap.size 0 (4 * j) (4 * (j : Int)) (by omega) (by omega)
          rw [Nat.zero_add] at hcut
          have l1 := hMs.at_ j
          have l2 := hFs.at_ j
          have hwr : IntKind.i64.wrap (4 * (j : Int)) = 4 * (j : Int) := IntWalk.i64_in _ (by omega)
          have HO := vlt (show outw M F (j + 1) = outw M F j ++ le ((natAt M j + natAt F j) % 4294967296) 4 from rfl)
          generalize natAt M j = m0 at *
          generalize natAt F j = f0 at *
          obtain ⟨s, hs⟩ : ∃ s, s = (m0 + f0) % 4294967296 := ⟨_, rfl⟩
          rw [← hs] at HO
          have hws : IntKind.u32.wrap ((m0 : Int) + (f0 : Int)) = (s : Int) := by rw [hs]; simp [IntKind.wrap, IntKind.bits, IntKind.signed]
          have ls : s < 4294967296 := by rw [hs]; exact Nat.mod_lt _ (by decide)
          have hwu : IntKind.u64.wrap (s : Int) = (s : Int) := IntWalk.u64_in _ (by omega)
          have ij : (j : Int) < 16 := by omega
          have HP := Lib.hid (show (uptoB 64 (outw M F j)).length = 64 from uptoB_len 64 _ (by rw [outw_len]; omega))
          clear hs
          go_wp2_with fail
          refine wp_region_held_drew (S := (fun W => Below v5.heap.size wr W ∧ W.cell? ⟨w1.heap.size, j, none⟩ = some (.int .u32 (f0 : Int)))) (by kernel_rfl) (⟨(Below.refl _ _).drew, hcl⟩) (fun hHeld => ?_)
          refine wpAnyH_take (i := 0) (oi := ⟨(some 26), _, _, _, _, _⟩) (v := ?vq1_0) rfl (by kernel_rfl) (by kernel_rfl) (by kernel_rfl) (fun _ _ _ h => h) (Or.inl ⟨by rfl, ?yq1_0⟩) hHeld ?_
          case yq1_0 => (intro W0 hSw; go_simp; try with_reducible rfl)
          try simp only [Act.put, List.setIfInBounds_toArray, List.set_cons_zero, List.set_cons_succ]
          refine wpAnyH_take (i := 1) (oi := ⟨(some 27), _, _, _, _, _⟩) (v := ?vq1_1) rfl (by kernel_rfl) (by kernel_rfl) (by kernel_rfl) (fun _ _ _ h => h) (Or.inl ⟨by rfl, ?yq1_1⟩) hHeld ?_
          case yq1_1 => (intro W0 hSw; go_simp; try with_reducible rfl)
          try simp only [Act.put, List.setIfInBounds_toArray, List.set_cons_zero, List.set_cons_succ]
          refine wpAnyH_take (i := 2) (oi := ⟨(some 28), _, _, _, _, _⟩) (v := ?vq1_2) rfl (by kernel_rfl) (by kernel_rfl) (by kernel_rfl) (fun _ _ _ h => h) (Or.inl ⟨by rfl, ?yq1_2⟩) hHeld ?_
          case yq1_2 => (intro W0 hSw; go_simp; try with_reducible rfl)
          try simp only [Act.put, List.setIfInBounds_toArray, List.set_cons_zero, List.set_cons_succ]
          refine wpAnyH_take (i := 3) (oi := ⟨(some 29), _, _, _, _, _⟩) (v := ?vq1_3) rfl (by kernel_rfl) (by kernel_rfl) (by kernel_rfl) (fun _ _ _ h => h) (Or.inl ⟨by rfl, ?yq1_3⟩) hHeld ?_
          case yq1_3 => (intro W0 hSw; go_simp; try with_reducible rfl)
          try simp only [Act.put, List.setIfInBounds_toArray, List.set_cons_zero, List.set_cons_succ]
          refine wpAnyH_take (i := 4) (oi := ⟨(some 30), _, _, _, _, _⟩) (v := ?vq1_4) rfl (by kernel_rfl) (by kernel_rfl) (by kernel_rfl) (fun _ _ _ h => h) (Or.inl ⟨by rfl, ?yq1_4⟩) hHeld ?_
          case yq1_4 => (intro W0 hSw; go_simp; try with_reducible rfl)
          try simp only [Act.put, List.setIfInBounds_toArray, List.set_cons_zero, List.set_cons_succ]
          refine wpAnyH_take (i := 5) (oi := ⟨(some 31), _, _, _, _, _⟩) (v := ?vq1_5) rfl (by kernel_rfl) (by kernel_rfl) (by kernel_rfl) (fun _ _ _ h => h) (Or.inl ⟨by rfl, ?yq1_5⟩) hHeld ?_
          case yq1_5 => (intro W0 hSw; go_simp; try with_reducible rfl)
          try simp only [Act.put, List.setIfInBounds_toArray, List.set_cons_zero, List.set_cons_succ]
          refine wpAnyH_take (i := 6) (oi := ⟨(some 32), _, _, _, _, _⟩) (v := ?vq1_6) rfl (by kernel_rfl) (by kernel_rfl) (by kernel_rfl) (fun _ _ _ h => h) (Or.inl ⟨by rfl, ?yq1_6⟩) hHeld ?_
          case yq1_6 => (intro W0 hSw; go_simp; try with_reducible rfl)
          try simp only [Act.put, List.setIfInBounds_toArray, List.set_cons_zero, List.set_cons_succ]
          refine wpAnyH_take (i := 7) (oi := ⟨(some 33), _, _, _, _, _⟩) (v := ?vq1_7) rfl (by kernel_rfl) (by kernel_rfl) (by kernel_rfl) (fun _ _ _ h => h) (Or.inl ⟨by rfl, ?yq1_7⟩) hHeld ?_
          case yq1_7 => (intro W0 hSw; go_simp; try with_reducible rfl)
          try simp only [Act.put, List.setIfInBounds_toArray, List.set_cons_zero, List.set_cons_succ]
          refine wpAnyH_take (i := 8) (oi := ⟨(some 34), _, _, _, _, _⟩) (v := ?vq1_8) rfl (by kernel_rfl) (by kernel_rfl) (by kernel_rfl) (fun _ _ _ h => h) (Or.inl ⟨by rfl, ?yq1_8⟩) hHeld ?_
          case yq1_8 => (intro W0 hSw; go_simp; try with_reducible rfl)
          try simp only [Act.put, List.setIfInBounds_toArray, List.set_cons_zero, List.set_cons_succ]
          refine wpAnyH_ready (rs := [9]) (by kernel_rfl) (by simp) ?_
          refine AllReadyH.cons (i := 9) (o := ⟨(some 35), _, _, _, _, _⟩) rfl (fun K hK => ?_) AllReadyH.nil
          go_simp
          with_reducible refine (little4n s _ ls).mono ?_
          rintro e w6 ⟨A6, c6, rfl, hr6, hb6⟩
          have hb6' : Below v5.heap.size wr w6 := below_next hHeld.1 (by simp; omega) hb6
          have hgW : Hid (w6.heap[v5.heap.size]? = some (.cells (bv (uptoB 64 (outw M F j))).toArray 40 (0, 0))) := (hb6.block _ (by simp; omega)).trans hg9.out
          have hcl6 := (hb6'.cell (p := ⟨w1.heap.size, j, none⟩) (by simp; omega)).trans hcl
          refine hK.out _ _ (⟨hb6', hcl6⟩) (fun hHeld => ?_)
          clear hK K
          try simp only [Act.put, List.setIfInBounds_toArray, List.set_cons_zero, List.set_cons_succ]
          refine wpAnyH_ready (rs := [10]) (by kernel_rfl) (by simp) ?_
          refine AllReadyH.cons (i := 10) (o := ⟨(some 36), _, _, _, _, _⟩) rfl (fun K hK => ?_) AllReadyH.nil
          refine step_copy_but rfl (.tmp 28) (.tmp 35) 26 rfl 5 Try.underlying26 Try.sizeByte v5.heap.size (4 * j) (64 - 4 * j) (64 - 4 * j) 4 c6 A6 (by rfl) (by rfl) (bv (uptoB 64 (outw M F j))) 40 hgW.out (le s 4) w6.heap.size hr6.byt (le_len _ _) (by decide) (by rw [bv_len, HP.out]; omega) w6 (But.refl _ _) ?_
          intro w7 hg10 hb7
          have hb7' : Below v5.heap.size wr w7 := But.below hb6' hb7 (Nat.le_refl _) (by have := hb6.size; simp at this; omega)
          refine hK.out _ _ (⟨hb7', (hb7'.cell (p := ⟨w1.heap.size, j, none⟩) (by simp; omega)).trans hcl⟩) (fun hHeld => ?_)
          clear hK K
          try simp only [Act.put, List.setIfInBounds_toArray, List.set_cons_zero, List.set_cons_succ]
          refine wpAnyH_done (by kernel_rfl) ?_ _
          have hg11 : Hid (w7.heap[v5.heap.size]? = some (.cells (bv (uptoB 64 (outw M F (j + 1)))).toArray 40 (0, 0))) := by
            have h1 := hg10.out
            have h2 := uptoB_splice 64 (outw M F j) (le s 4) (by rw [outw_len, le_len]; omega)
            rw [outw_len] at h2
            rw [List.take_of_length_le (by rw [le_len]; omega), h2, ← HO.out] at h1
            exact h1
          clear hg10 hgW hcl hcut hix HO
          go_wp2
          go_roundw
          case rel => exact ⟨j + 1, by omega, by go_num, hg11, hb.trans hb7'⟩
          case measure => simp [intOf]; omega
        · have HJ := Lib.hid (show j = 16 by omega)
          have HOUT := vlt (show uptoB 64 (outw M F j) = blockOf key count nonce by rw [HJ.out, uptoB_all 64 _ (outw_len _ _ _), HM.out])
          have H64 := Lib.hid (show (bv (uptoB 64 (outw M F j))).toArray.size = 64 by simp [bv_len, uptoB_len 64 (outw M F j) (by rw [outw_len]; omega)])
          have HZ64 := Lib.hid (show (bv z64).toArray.size = 64 from rfl)
          have hz4 : Hid (wr.heap[w.heap.size + 2]? = some (.cells (bv z64).toArray 40 (0, 0))) := (hb.block _ (by omega)).trans hz3.out
          have hb4 : Below w.heap.size w wr := hb3.trans (hb.mono (by omega))
          obtain ⟨out, hout⟩ : ∃ out, out = uptoB 64 (outw M F j) := ⟨_, rfl⟩
          rw [← hout] at HOUT H64 hg9
          clear hout
          go_wp2_with (first
            | (with_reducible refine wpList_load_row rfl 40 (.tmp 9) rfl v5.heap.size rfl 40 (bv out).toArray (0, 0) _ hg9.out Try.underlying40 rfl (by rw [H64.out]; kernel_rfl) ?_)
            | (with_reducible refine wpList_store_row rfl 40 (.tmp 6) (.tmp 38) rfl (w.heap.size + 1 + 1) (bv out).toArray rfl rfl 40 _ hz4.out (by rw [H64.out]; kernel_rfl) (by rw [H64.out]; exact HZ64.out) (all_oneCell_toArray (bv_one _)) ?_))
          refine bodyPost_ret (v := .agg (bv out).toArray) (results_cell_row Try.results22 _ _ (w.heap.size + 1 + 1) 40 _ (0, 0) _ rfl (setRow_heap _ _ _ _ _ _ hz4.out) Try.underlying40 rfl (by rw [H64.out]; kernel_rfl)) rfl ⟨by rw [HOUT.out], below_setRow hb4 (by omega) _⟩
end Go.Proofs.Ytkeejkhapmcanaa
namespace Go.Proofs.Ytkeejkhapmcanaa
open Go.RowKit

theorem blocks_any (A : Option Addr) (n c : Nat) (w : World) (hn : n ≤ 1099511627776) :
    Calls Try.prog 43 #[.slice A n c] w fun e w' => ∃ k : Nat, e = .returned (.int .u64 (k : Int)) ∧ k = nblk n ∧ w = w' := by
  go_enter Try.func43, Try.ntmps43
  go_wp2
  go_ret
  refine ⟨nblk n, ?_, rfl, rfl⟩
  show Ending.returned (.int .u64 (((n : Int) + 64 - 1) / 64)) = _
  rw [show ((n : Int) + 64 - 1) / 64 = ((nblk n : Nat) : Int) by unfold nblk; omega]
/-- A block of the call's own, out of Block. -/
theorem block_ex (w : World) (key nonce : List UInt8) (count : Nat) (hk : key.length = 32) (hn : nonce.length = 12) (hc : count < 4294967296) :
    Calls Try.prog 22 #[.agg (bv key).toArray, .int .u32 (count : Int), .agg (bv nonce).toArray] w fun e w' => ∃ l, e = .returned (.agg (bv l).toArray) ∧ Vlt (l = blockOf key count nonce) ∧ Hid (l.length = 64) ∧ Below w.heap.size w w' :=
  (block_any w key nonce count hk hn hc).mono fun _ _ h => ⟨_, h.1, vlt rfl, blockOf_len _ _ _, h.2⟩

set_option maxRecDepth 100000 in
theorem cxor_no (w : World) (key nonce : List UInt8) (count : Nat) (A : Option Addr) (n c : Nat) (hc : count < 4294967296) (hn : n ≤ 1099511627776) (hbig : 4294967296 < count + nblk n) :
    Calls Try.prog 29 #[.agg (bv key).toArray, .int .u32 (count : Int), .agg (bv nonce).toArray, .slice A n c] w fun e w' => e = .returned (.tuple #[.slice none 0 0, .int .i64 1]) ∧ Below w.heap.size w w' := by
  have hk2 : nblk n ≤ 1099511627776 := by unfold nblk; omega
  obtain ⟨W, hW, hgK, hgN, hbW, hsW⟩ := pair_new w (bv key).toArray (bv nonce).toArray 24 25
  have HW := Lib.hid hW
  clear hW
  go_enter Try.func29, Try.ntmps29
  go_upto_region 1 with fail
  rw [HW.out]
  go_wp2_with fail
  refine (blocks_any A n c W hn).mono ?_
  rintro e w' ⟨k, rfl, rfl, rfl⟩
  go_wp2
  go_ret2
  exact ⟨rfl, hbW⟩

set_option maxRecDepth 100000 in
set_option maxHeartbeats 2000000 in
theorem cxor_ok (w : World) (key nonce b : List UInt8) (count : Nat) (A : Option Addr) (n c : Nat) (hk : key.length = 32) (hnn : nonce.length = 12) (hc : count < 4294967296) (hb : Byt w w.heap.size A b) (hl : b.length = n) (hcap : n ≤ c) (hn : n ≤ 1099511627776)
    (hfit : count + nblk n ≤ 4294967296) :
    Calls Try.prog 29 #[.agg (bv key).toArray, .int .u32 (count : Int), .agg (bv nonce).toArray, .slice A n c] w fun e w' => ∃ A' c', e = .returned (.tuple #[.slice A' n c', .int .i64 0]) ∧ Res w' w.heap.size 5 A' n c' (xorOf key count nonce b) ∧ Below w.heap.size w w' := by
  have hzb := zero_b64
  have HK := Lib.hid hk
  have HN := Lib.hid hnn
  have HL := Lib.hid hl
  have HKS := Lib.hid (show (bv key).toArray.size = 32 by simp [bv_len, hk])
  have HNS := Lib.hid (show (bv nonce).toArray.size = 12 by simp [bv_len, hnn])
  clear hk hnn hl
  obtain ⟨W, hW, hgK, hgN, hbW, hsW⟩ := pair_new w (bv key).toArray (bv nonce).toArray 24 25
  have HW := Lib.hid hW
  have hbb := hb.below hbW
  obtain ⟨i0, hi, hz0, hz1, hz2⟩ := info_parts Try.infoByte
  obtain ⟨w1, hrun, hg1, hb1, hs1⟩ := make_bytes (P := Try.prog) Try.underlying26 hi hz0 hz1 hz2 0 n 0 (n : Int) rfl rfl (by omega) (by omega) W
  clear hW hi hz0 hz1 hz2
  go_enter Try.func29, Try.ntmps29
  go_upto_region 1 with fail
  rw [HW.out]
  go_wp2_with fail
  refine (blocks_any A n c W hn).mono ?_
  rintro e w' ⟨k, rfl, rfl, rfl⟩
  have hsW1 : w.heap.size < W.heap.size := by have := hsW.out; omega
  have hsW2 : w.heap.size + 1 < W.heap.size := by have := hsW.out; omega
  have hres0 : Hid (Res w1 W.heap.size 5 (some ⟨W.heap.size, 0, none⟩) 0 n []) := Res.row (Nat.le_refl _) hg1.out (by omega) (by omega) (by simp [bv]) rfl (by simp [bv])
  go_wp2
  go_loopw [1, 10] (fun cn s wr => ∃ (k cv m : Nat) (A' : Option Addr) (c' : Nat), cn = .int .u32 (cv : Int) ∧ Hid (cv = (count + k) % 4294967296) ∧ cv < 4294967296 ∧ s = .slice A' m c' ∧ Hid (m = min n (64 * k)) ∧ m ≤ n ∧ Hid (k ≤ nblk n) ∧ Res wr W.heap.size 5 A' m c' (xr b (streamOf key count nonce k)) ∧ Below W.heap.size W wr) (fun _ s _ => n - slen s)
  case atStart => exact ⟨0, count, 0, _, _, rfl, show _ = _ by omega, hc, rfl, show _ = _ by omega, by omega, Nat.zero_le _, by simpa [streamOf, xr] using hres0.out, hb1.out⟩
  case round =>
    clear hres0 hrun hg1 hb1 hs1
    obtain ⟨k, cv, m, A', c', rfl, hcv, lcv, rfl, hm, hmn, hkn, hres, hbel⟩ := hrel
    have hsr := hbel.size
    by_cases hlt : m < n
    · have hm64 : m = 64 * k := by have := hm.out; omega
      have hk1 : k + 1 ≤ nblk n := by unfold nblk; omega
      have HM := Lib.hid hm64
      have HK1 := Lib.hid hk1
      clear hm64 hk1
      have hgKr : Hid (wr.heap[w.heap.size]? = some (.cells (bv key).toArray 24 (0, 0))) := (hbel.block _ (by omega)).trans hgK.out
      have hgNr : Hid (wr.heap[w.heap.size + 1]? = some (.cells (bv nonce).toArray 25 (0, 0))) := (hbel.block _ (by omega)).trans hgN.out
      have hblk := block_ex wr key nonce cv HK.out HN.out lcv
      go_wp2_with (first
        | (with_reducible refine wpList_load_row rfl 24 (.tmp 4) rfl w.heap.size rfl 24 (bv key).toArray (0, 0) _ hgKr.out Try.underlying24 rfl (by rw [HKS.out]; kernel_rfl) ?_)
        | (with_reducible refine wpList_load_row rfl 25 (.tmp 6) rfl (w.heap.size + 1) rfl 25 (bv nonce).toArray (0, 0) _ hgNr.out Try.underlying25 rfl (by rw [HNS.out]; kernel_rfl) ?_))
      refine hblk.mono ?_
      rintro e w2 ⟨bl, rfl, hbl, hbll, hb2⟩
      clear hblk hgKr hgNr
      have HBS := Lib.hid (show (bv bl).toArray.size = 64 by simp [bv_len, hbll.out])
      have HZ64 := Lib.hid (show (bv z64).toArray.size = 64 from rfl)
      go_upto_region 6 with ((with_reducible refine wpList_store_row rfl 40 (.tmp 11) (.tmp 29) rfl w2.heap.size (bv bl).toArray rfl rfl 40 _ (heap_alloc_new _ _) (by rw [HBS.out]; kernel_rfl) (by rw [HBS.out]; exact HZ64.out) (all_oneCell_toArray (bv_one _)) ?_); rw [World.setRow_alloc_new])
      have hg3 : Hid ((w2.alloc (.cells (bv bl).toArray 40)).heap[w2.heap.size]? = some (.cells (bv bl).toArray 40 (0, 0))) := heap_alloc_new _ _
      have hb3 : Below wr.heap.size wr (w2.alloc (.cells (bv bl).toArray 40)) := hb2.alloc hb2.size _
      generalize w2.alloc (.cells (bv bl).toArray 40) = w3 at *
      have hres3 := hres.keep hb3
      have hbel3 : Below W.heap.size W w3 := hbel.trans (hb3.mono hsr)
      have hcutb := run_cut_l Try.underlying26 Try.sizeByte A n c m (m : Int) rfl hmn
      have hcuts := cut_all Try.underlying40 Try.sizeByte w2.heap.size 0 (by decide)
      have hbt := (((hbb.up (by omega : w.heap.size ≤ W.heap.size)).below hbel3).cut m c (by rw [HL.out]; exact hcap)).up hbel3.size
      generalize (if c = m then A else A.map (·.add m)) = A4 at *
      have hbs := byt_row hg3.out
      obtain ⟨q, hq⟩ : ∃ q, q = min (n - m) 64 := ⟨_, rfl⟩
      have hx := xor_core A4 (some ⟨w2.heap.size, 0, none⟩) (b.drop m) bl (n - m) 64 (c - m) 64 q w3.drew hbt hbs (by rw [List.length_drop, HL.out]) hbll.out (by omega) (by decide) (by omega)
      have hq0 : 0 < q := by omega
      have hqn : m + q ≤ n := by omega
      have HQ := Lib.hid (show m + q = min n (64 * (k + 1)) by have := HM.out; omega)
      have HSTR := vlt (show xr b (streamOf key count nonce (k + 1)) = xr b (streamOf key count nonce k) ++ xr (b.drop m) bl by rw [streamOf, ← hcv.out, ← hbl.out, xr_app, streamOf_len, ← HM.out])
      clear hq hbt hbs hm hres hg3
      refine wp_region_held_drew (S := (fun _ => True)) (by kernel_rfl) (trivial) (fun hHeld => ?_)
      refine wpAnyH_take (i := 0) (oi := ⟨(some 30), _, _, _, _, _⟩) (v := ?vq1_0) rfl (by kernel_rfl) (by kernel_rfl) (by kernel_rfl) (fun _ _ _ h => h) (Or.inl ⟨by rfl, ?yq1_0⟩) hHeld ?_
      case yq1_0 => (intro W0 hSw; go_simp; try with_reducible rfl)
      try simp only [Act.put, List.setIfInBounds_toArray, List.set_cons_zero, List.set_cons_succ]
      refine wpAnyH_take (i := 1) (oi := ⟨(some 31), _, _, _, _, _⟩) (v := ?vq1_1) rfl (by kernel_rfl) (by kernel_rfl) (by kernel_rfl) (fun _ _ _ h => h) (Or.inl ⟨by rfl, ?yq1_1⟩) hHeld ?_
      case yq1_1 => (intro W0 hSw; go_simp; try with_reducible rfl)
      try simp only [Act.put, List.setIfInBounds_toArray, List.set_cons_zero, List.set_cons_succ]
      refine wpAnyH_take (i := 2) (oi := ⟨(some 32), _, _, _, _, _⟩) (v := ?vq1_2) rfl (by kernel_rfl) (by kernel_rfl) (by kernel_rfl) (fun _ _ _ h => h) (Or.inl ⟨by rfl, ?yq1_2⟩) hHeld ?_
      case yq1_2 => (intro W0 hSw; go_simp; try with_reducible rfl)
      try simp only [Act.put, List.setIfInBounds_toArray, List.set_cons_zero, List.set_cons_succ]
      refine wpAnyH_take (i := 3) (oi := ⟨(some 33), _, _, _, _, _⟩) (v := ?vq1_3) rfl (by kernel_rfl) (by kernel_rfl) (by kernel_rfl) (fun _ _ _ h => h) (Or.inl ⟨by rfl, ?yq1_3⟩) hHeld ?_
      case yq1_3 => (intro W0 hSw; go_simp; try with_reducible rfl)
      try simp only [Act.put, List.setIfInBounds_toArray, List.set_cons_zero, List.set_cons_succ]
      refine wpAnyH_take (i := 4) (oi := ⟨(some 34), _, _, _, _, _⟩) (v := ?vq1_4) rfl (by kernel_rfl) (by kernel_rfl) (by kernel_rfl) (fun _ _ _ h => h) (Or.inl ⟨by rfl, ?yq1_4⟩) hHeld ?_
      case yq1_4 => (intro W0 hSw; go_simp; try with_reducible rfl)
      try simp only [Act.put, List.setIfInBounds_toArray, List.set_cons_zero, List.set_cons_succ]
      refine wpAnyH_take (i := 5) (oi := ⟨(some 35), _, _, _, _, _⟩) (v := ?vq1_5) rfl (by kernel_rfl) (by kernel_rfl) (by kernel_rfl) (fun _ _ _ h => h) (Or.inl ⟨by rfl, ?yq1_5⟩) hHeld ?_
      case yq1_5 => (intro W0 hSw; go_simp; try with_reducible rfl)
      try simp only [Act.put, List.setIfInBounds_toArray, List.set_cons_zero, List.set_cons_succ]
      refine wpAnyH_ready (rs := [6]) (by kernel_rfl) (by simp) ?_
      refine AllReadyH.cons (i := 6) (o := ⟨(some 36), _, _, _, _, _⟩) rfl (fun K hK => ?_) AllReadyH.nil
      go_simp
      refine hx.mono ?_
      rintro e w6 ⟨A6, c6, rfl, hr6, hb6⟩
      obtain ⟨g6, rfl⟩ := hr6.some_ hq0
      refine hK.out _ _ (trivial) (fun hHeld => ?_)
      clear hK K
      try simp only [Act.put, List.setIfInBounds_toArray, List.set_cons_zero, List.set_cons_succ]
      have hres6 := hres3.keep (w' := w6) (below_undrew hb6)
      have hcl6 := cells_at hr6.byt
      refine wpAnyH_ready (rs := [7]) (by kernel_rfl) (by simp) ?_
      refine AllReadyH.cons (i := 7) (o := ⟨(some 37), _, _, _, _, _⟩) rfl (fun K hK => ?_) AllReadyH.nil
      refine step_append_bytes w6 rfl (.tmp 30) (.tmp 36) 26 rfl 5 Try.underlying26 Try.infoByte W.heap.size A' m c' _ (by rfl) hres6 ⟨g6, 0, none⟩ q c6 (by rfl) (xr (b.drop m) bl) hr6.len hcl6 (by omega) (by have h1 := hb6.size; have h2 := hbel3.size; exact Nat.le_trans h2 h1) ?_
      intro A7 c7 w7 hr7 hb7f
      refine hK.out _ _ (trivial) (fun hHeld => ?_)
      clear hK K
      try simp only [Act.put, List.setIfInBounds_toArray, List.set_cons_zero, List.set_cons_succ]
      refine wpAnyH_take (i := 8) (oi := ⟨(some 10), _, _, _, _, _⟩) (v := ?vq1_6) rfl (by kernel_rfl) (by kernel_rfl) (by kernel_rfl) (fun _ _ _ h => h) (Or.inl ⟨by rfl, ?yq1_6⟩) hHeld ?_
      case yq1_6 => (intro W0 hSw; go_simp; try with_reducible rfl)
      try simp only [Act.put, List.setIfInBounds_toArray, List.set_cons_zero, List.set_cons_succ]
      refine wpAnyH_done (by kernel_rfl) ?_ _
      have hbel7 : Below W.heap.size W w7 := hb7f _ _ (Nat.le_refl _) (hbel3.trans ((below_undrew hb6).mono hbel3.size))
      clear hres6 hcl6 hr6 hb7f hx hres3 hbel3 hcutb hcuts
      have hr8 : Res w7 W.heap.size 5 A7 (m + q) c7 (xr b (streamOf key count nonce (k + 1))) := by rw [HSTR.out]; exact hr7
      have HCV := Lib.hid (show (cv + 1) % 4294967296 = (count + (k + 1)) % 4294967296 by have := hcv.out; omega)
      have lcv' : (cv + 1) % 4294967296 < 4294967296 := Nat.mod_lt _ (by decide)
      have ecv : ((cv : Int) + 1) % 4294967296 = (((cv + 1) % 4294967296 : Nat) : Int) := by omega
      generalize (cv + 1) % 4294967296 = cv2 at *
      clear hr7 HSTR
      go_wp2
      go_roundw
      case rel => exact ⟨k + 1, cv2, m + q, A7, c7, by rw [ecv], HCV, lcv', rfl, HQ, hqn, HK1, hr8, hbel7⟩
      case measure => simp [slen]; omega
    · have hmn' : m = n := by omega
      have hkk : k = nblk n := by have h1 := hm.out; have h2 := hkn.out; unfold nblk at *; omega
      have hfin : Hid (Res wr w.heap.size 5 A' n c' (xorOf key count nonce b)) := by
        have h1 := hres.base_le (B := w.heap.size) (by omega)
        rw [hmn', hkk] at h1
        rw [xorOf, HL.out]
        exact h1
      subst hmn'
      have hbw : Below w.heap.size w wr := hbW.trans (hbel.mono (by omega))
      clear hkk hm hkn hres
      go_wp2
      go_ret2
      exact ⟨_, _, rfl, hfin.out, hbw⟩
end Go.Proofs.Ytkeejkhapmcanaa
namespace Go.Proofs.Ytkeejkhapmcanaa
open Go.RowKit

theorem streamOf_mod (key : List UInt8) (c : Nat) (nonce : List UInt8) : ∀ n, streamOf key (c % 4294967296) nonce n = streamOf key c nonce n
  | 0 => rfl
  | n + 1 => by rw [streamOf, streamOf, streamOf_mod key c nonce n, Nat.mod_add_mod]
theorem streamOf_app (key : List UInt8) (c : Nat) (nonce : List UInt8) (m : Nat) : ∀ n, streamOf key c nonce (m + n) = streamOf key c nonce m ++ streamOf key (c + m) nonce n
  | 0 => by rw [Nat.add_zero, streamOf, List.append_nil]
  | n + 1 => by rw [← Nat.add_assoc, streamOf, streamOf_app key c nonce m n, streamOf, List.append_assoc, Nat.add_assoc c m n]
theorem stream_at (key : List UInt8) (c : Nat) (nonce : List UInt8) (n i : Nat) (h : i < n) : ((streamOf key c nonce n).drop (64 * i)).take 64 = blockOf key ((c + i) % 4294967296) nonce := by
  obtain ⟨r, rfl⟩ : ∃ r, n = i + (1 + r) := ⟨n - i - 1, by omega⟩
  rw [streamOf_app, streamOf_app, List.drop_append, List.drop_of_length_le (by rw [streamOf_len]; omega), List.nil_append, streamOf_len, Nat.sub_self, List.drop_zero]
  have e : streamOf key (c + i) nonce 1 = blockOf key ((c + i) % 4294967296) nonce := by rw [streamOf, streamOf, List.nil_append, Nat.add_zero]
  rw [e, List.take_append_of_le_length (by rw [blockOf_len]; omega), List.take_of_length_le (by rw [blockOf_len]; omega)]
theorem xr_zero (s : List UInt8) : xr (List.replicate s.length 0) s = s := by
  induction s with
  | nil => rfl
  | cons b s ih => simp only [List.length_cons, List.replicate_succ, xr, List.zipWith_cons_cons] at ih ⊢; rw [ih, UInt8.zero_xor]
theorem nblk64 (n : Nat) : nblk (64 * n) = n := by unfold nblk; omega
theorem xor_zeros (key : List UInt8) (c : Nat) (nonce : List UInt8) (n : Nat) : xorOf key c nonce (List.replicate (64 * n) 0) = streamOf key c nonce n := by
  rw [xorOf, List.length_replicate, nblk64]
  have h := xr_zero (streamOf key c nonce n)
  rw [streamOf_len] at h
  exact h
theorem xr_twice (b s : List UInt8) (h : b.length ≤ s.length) : xr (xr b s) s = b := by
  induction b generalizing s with
  | nil => simp [xr]
  | cons x b ih =>
    cases s with
    | nil => simp at h
    | cons y s =>
      have := ih s (by simpa using h)
      simp only [xr, List.zipWith_cons_cons] at this ⊢
      rw [this, UInt8.xor_assoc, UInt8.xor_self, UInt8.xor_zero]
theorem xor_twice (key : List UInt8) (c : Nat) (nonce b : List UInt8) : xorOf key c nonce (xorOf key c nonce b) = b := by
  rw [xorOf, xorOf_len]
  refine xr_twice b _ ?_
  rw [streamOf_len, nblk]; omega
theorem xr_take (b s : List UInt8) (k : Nat) (h : s.length ≤ k) : xr (b.take k) s = xr b s := by
  induction s generalizing b k with
  | nil => simp [xr]
  | cons y s ih =>
    cases b with
    | nil => simp [xr]
    | cons x b =>
      obtain ⟨j, rfl⟩ : ∃ j, k = j + 1 := ⟨k - 1, by simp at h; omega⟩
      have := ih b j (by simpa using h)
      simp only [xr, List.take_succ_cons, List.zipWith_cons_cons] at this ⊢
      rw [this]
theorem xor_parts (key : List UInt8) (c : Nat) (nonce b : List UInt8) (k : Nat) (h : 64 * k ≤ b.length) : xorOf key c nonce b = xorOf key c nonce (b.take (64 * k)) ++ xorOf key (c + k) nonce (b.drop (64 * k)) := by
  have e1 : nblk b.length = k + nblk (b.length - 64 * k) := by unfold nblk; omega
  rw [xorOf, e1, streamOf_app, xr_app, streamOf_len, xorOf, xorOf, List.length_drop, List.length_take, Nat.min_eq_left h, nblk64, xr_take _ _ _ (by rw [streamOf_len]; exact Nat.le_refl _)]
end Go.Proofs.Ytkeejkhapmcanaa
