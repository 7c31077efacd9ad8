/-
  Numbers below L in pieces of 64 bits: words that the contracts of scalar share. No statement is proved here. Conditions: none.
-/
import Derived.Test.YtlobejnohkecdaaDoorN64
import Derived.Test.YtlobejnohkecdaaDoorLv
namespace Go.Proofs.YtlobejnohkecdaaDoor
open Go.RowKit

/-- L; a number in pieces of 64 bits. -/
def FL : Nat := 7237005577332262213973186563042994240857116359379907606001950938285454250989
theorem fl_eq : FL = 7237005577332262213973186563042994240857116359379907606001950938285454250989 := rfl
def nB : List Nat → Nat
  | [] => 0
  | a :: r => a + 18446744073709551616 * nB r
theorem nB_snoc (l : List Nat) (b : Nat) : nB (l ++ [b]) = nB l + b * 18446744073709551616 ^ l.length := by
  induction l with
  | nil => simp [nB]
  | cons a r ih =>
    simp only [List.cons_append, nB, ih, List.length_cons, Nat.pow_succ]
    generalize 18446744073709551616 ^ r.length = P
    grind
theorem nB_take (l : List Nat) (k : Nat) (h : k < l.length) : nB (l.take (k + 1)) = nB (l.take k) + natAt l k * 18446744073709551616 ^ k := by
  rw [List.take_succ_eq_append_getElem h, nB_snoc]
  simp [natAt, h, Nat.min_eq_left (Nat.le_of_lt h)]
theorem nB_set (l : List Nat) (k v : Nat) (h : k < l.length) : nB (l.set k v) + natAt l k * 18446744073709551616 ^ k = nB l + v * 18446744073709551616 ^ k := by
  induction l generalizing k with
  | nil => simp at h
  | cons a r ih =>
    cases k with
    | zero => simp [nB, natAt]; omega
    | succ k =>
      have h1 := ih k (by simpa using h)
      simp only [List.set_cons_succ, nB, Nat.pow_succ]
      have e : natAt (a :: r) (k + 1) = natAt r k := by simp [natAt]
      rw [e]
      generalize nB (r.set k v) = x at *
      generalize nB r = y at *
      generalize 18446744073709551616 ^ k = P at *
      grind
theorem nB_drop (l : List Nat) (k : Nat) (h : k < l.length) : nB (l.drop k) = natAt l k + 18446744073709551616 * nB (l.drop (k + 1)) := by
  rw [List.drop_eq_getElem_cons h, nB]
  simp [natAt, h]
theorem nB_four (a b c d : Nat) : nB [a, b, c, d] = n4 a b c d := by
  simp only [nB, n4]; omega
theorem natB_mem {l : List Nat} (h : ∀ x ∈ l, x < B64) (k : Nat) : natAt l k < B64 := by
  by_cases hk : k < l.length
  · have : natAt l k ∈ l := by simp [natAt, hk]
    exact h _ this
  · simp [natAt, List.getElem?_eq_none (Nat.le_of_not_lt hk)]
theorem setB_mem {l : List Nat} (h : ∀ x ∈ l, x < B64) (k v : Nat) (hv : v < B64) : ∀ x ∈ l.set k v, x < B64 := by
  intro x hx
  rcases List.mem_or_eq_of_mem_set hx with hx | rfl
  · exact h x hx
  · exact hv
/-- What a row of products keeps. -/
structure Trow (v : Nat) (Y X0 X : List Nat) (i k c : Nat) : Prop where
  len : X.length = 8
  bound : ∀ x ∈ X, x < B64
  high : ∀ j, i + 4 ≤ j → natAt X j = 0
  val : nB X + c * 18446744073709551616 ^ (i + k) = nB X0 + v * 18446744073709551616 ^ i * nB (Y.take k)
  lt : c < B64
theorem Trow.step {v : Nat} {Y X0 X : List Nat} {i k c : Nat} (h : Trow v Y X0 X i k c) (hY : Y.length = 4) (hi : i < 4) (hk : k < 4) (low high : Nat) (e : low + 18446744073709551616 * high = v * natAt Y k + natAt X (i + k) + c) (hl : low < B64) (hh : high < B64) :
    Trow v Y X0 (X.set (i + k) low) i (k + 1) high := by
  refine ⟨by rw [List.length_set]; exact h.len, setB_mem h.bound _ _ hl, fun j hj => ?_, ?_, hh⟩
  · rw [natAt_set _ _ _ _ (by rw [h.len]; omega), if_neg (by omega)]; exact h.high j hj
  · have h1 := nB_set X (i + k) low (by rw [h.len]; omega)
    have h2 := h.val
    rw [nB_take Y k (by omega)]
    rw [show i + (k + 1) = i + k + 1 by omega, Nat.pow_succ]
    rw [Nat.pow_add] at *
    generalize nB (X.set (i + k) low) = s at *
    generalize nB X = x at *
    generalize nB X0 = x0 at *
    generalize nB (Y.take k) = y at *
    generalize natAt X (i + k) = a at *
    generalize natAt Y k = b at *
    generalize 18446744073709551616 ^ i = P at *
    generalize 18446744073709551616 ^ k = Q at *
    have e2 : (low + 18446744073709551616 * high) * (P * Q) = (v * b + a + c) * (P * Q) := by rw [e]
    grind
structure Tout (A Y Z X : List Nat) (i : Nat) : Prop where
  len : X.length = 8
  bound : ∀ x ∈ X, x < B64
  high : ∀ j, i + 4 ≤ j → natAt X j = 0
  val : nB X = nB Z + nB (A.take i) * nB Y
theorem Tout.row {A Y Z X : List Nat} {i : Nat} (h : Tout A Y Z X i) : Trow (natAt A i) Y X X i 0 0 :=
  ⟨h.len, h.bound, h.high, by simp [nB], by decide⟩
theorem Tout.next {A Y Z X0 X : List Nat} {i c : Nat} (hA : A.length = 4) (hY : Y.length = 4) (hi : i < 4) (h : Tout A Y Z X0 i) (hr : Trow (natAt A i) Y X0 X i 4 c) : Tout A Y Z (X.set (i + 4) c) (i + 1) := by
  refine ⟨by rw [List.length_set]; exact hr.len, setB_mem hr.bound _ _ hr.lt, fun j hj => ?_, ?_⟩
  · rw [natAt_set _ _ _ _ (by rw [hr.len]; omega), if_neg (by omega)]; exact hr.high j (by omega)
  · have h1 := nB_set X (i + 4) c (by rw [hr.len]; omega)
    have h2 := hr.val
    have h3 := h.val
    have h4 := hr.high (i + 4) (Nat.le_refl _)
    rw [h4, Nat.zero_mul, Nat.add_zero] at h1
    rw [List.take_of_length_le (by omega)] at h2
    rw [nB_take A i (by omega), h1, h2, h3]
    grind
theorem Tout.first {A Y : List Nat} (a b c d : Nat) (ha : a < B64) (hb : b < B64) (hc : c < B64) (hd : d < B64) : Tout A Y [a, b, c, d] [a, b, c, d, 0, 0, 0, 0] 0 := by
  refine ⟨rfl, ?_, fun j hj => ?_, ?_⟩
  · intro x hx
    simp only [List.mem_cons, List.not_mem_nil, or_false] at hx
    simp only [B64] at *
    omega
  · match j, hj with
    | 4, _ => rfl
    | 5, _ => rfl
    | 6, _ => rfl
    | 7, _ => rfl
    | j + 8, _ => simp [natAt]
  · simp [nB]
/-- L, so often taken off. -/
structure Nless (q : Nat) (O X0 X : List Nat) (k c : Nat) : Prop where
  len : X.length = 4
  bound : ∀ x ∈ X, x < B64
  val : nB X + q * nB (O.take k) = nB X0 + c * 18446744073709551616 ^ k
  lt : c < B64
theorem Nless.step {q : Nat} {O X0 X : List Nat} {k c : Nat} (h : Nless q O X0 X k c) (hO : O.length = 4) (hk : k < 4) (low high : Nat) (e : low + 18446744073709551616 * high = q * natAt O k + (18446744073709551615 - natAt X k) + c) (hl : low < B64) (hh : high < B64) :
    Nless q O X0 (X.set k (18446744073709551615 - low)) (k + 1) high := by
  refine ⟨by rw [List.length_set]; exact h.len, setB_mem h.bound _ _ (by simp only [B64]; omega), ?_, hh⟩
  have hx := natB_mem h.bound k
  have h1 := nB_set X k (18446744073709551615 - low) (by rw [h.len]; omega)
  have h2 := h.val
  rw [nB_take O k (by omega), Nat.pow_succ]
  generalize nB (X.set k (18446744073709551615 - low)) = s at *
  generalize nB X = x at *
  generalize nB X0 = x0 at *
  generalize nB (O.take k) = y at *
  generalize natAt X k = a at *
  generalize natAt O k = b at *
  generalize 18446744073709551616 ^ k = P at *
  obtain ⟨u, hu⟩ : ∃ u, u = 18446744073709551615 - low := ⟨_, rfl⟩
  obtain ⟨t, ht⟩ : ∃ t, t = 18446744073709551615 - a := ⟨_, rfl⟩
  rw [← hu] at h1
  rw [← ht] at e
  have e3 : low = 18446744073709551615 - u := by simp only [B64] at *; omega
  have e1 : u + low = 18446744073709551615 := by simp only [B64] at *; omega
  have e4 : t + a = 18446744073709551615 := by simp only [B64] at *; omega
  have e2 : (low + 18446744073709551616 * high) * P = (q * b + t + c) * P := by rw [e]
  have e5 : (u + low) * P = (t + a) * P := by rw [e1, e4]
  clear e3 hu ht e
  grind
theorem Nless.first {q : Nat} {O X : List Nat} (hl : X.length = 4) (hb : ∀ x ∈ X, x < B64) : Nless q O X X 0 0 := ⟨hl, hb, by simp [nB], by decide⟩
/-- L, so often put on. -/
structure Nmore (u : Nat) (O X0 X : List Nat) (k c : Nat) : Prop where
  len : X.length = 4
  bound : ∀ x ∈ X, x < B64
  val : nB X + c * 18446744073709551616 ^ k = nB X0 + u * nB (O.take k)
  lt : c ≤ 1
theorem Nmore.step {u : Nat} {O X0 X : List Nat} {k c : Nat} (h : Nmore u O X0 X k c) (hO : O.length = 4) (hk : k < 4) (low high : Nat) (e : natAt X k + u * natAt O k + c = low + 18446744073709551616 * high) (hl : low < B64) (hh : high ≤ 1) :
    Nmore u O X0 (X.set k low) (k + 1) high := by
  refine ⟨by rw [List.length_set]; exact h.len, setB_mem h.bound _ _ hl, ?_, hh⟩
  have h1 := nB_set X k low (by rw [h.len]; omega)
  have h2 := h.val
  rw [nB_take O k (by omega), Nat.pow_succ]
  generalize nB (X.set k low) = s at *
  generalize nB X = x at *
  generalize nB X0 = x0 at *
  generalize nB (O.take k) = y at *
  generalize natAt X k = a at *
  generalize natAt O k = b at *
  generalize 18446744073709551616 ^ k = P at *
  have e2 : (a + u * b + c) * P = (low + 18446744073709551616 * high) * P := by rw [e]
  grind
theorem Nmore.first {u : Nat} {O X : List Nat} (hl : X.length = 4) (hb : ∀ x ∈ X, x < B64) : Nmore u O X X 0 0 := ⟨hl, hb, by simp [nB], by decide⟩
/-- L's pieces. -/
def oL : List Nat := [6346243789798364141, 1503914060200516822, 0, 1152921504606846976]
theorem nB_oL : nB oL = FL := by decide +kernel
theorem fl_mod' {x r q : Nat} (h : x = r + FL * q) (hr : r < FL) : r = x % FL := by rw [h, Nat.add_mul_mod_self_left, Nat.mod_eq_of_lt hr]
theorem next_all (x0 x1 x2 x3 low : Nat) : low + 18446744073709551616 * n4 x0 x1 x2 x3 = n4 low x0 x1 x2 + 115792089237316195423570985008687907853269984665640564039457584007913129639936 * x3 := by
  simp only [n4]; omega
theorem next_num (x0 x1 x2 x3 low q y0 y1 y2 y3 c r c2 : Nat) (h0 : x0 < B64) (h1 : x1 < B64) (h2 : x2 < B64) (hlow : low < B64) (hy0 : y0 < B64) (hy1 : y1 < B64) (hy2 : y2 < B64) (hy3 : y3 < B64)
    (hN : n4 x0 x1 x2 x3 < FL) (hq : (x3 < 1152921504606846976 ∧ q = 16 * x3 + x2 / 1152921504606846976) ∨ (x3 = 1152921504606846976 ∧ q = 18446744073709551615))
    (hY : n4 y0 y1 y2 y3 + q * FL = n4 low x0 x1 x2 + c * 115792089237316195423570985008687907853269984665640564039457584007913129639936)
    (hR : r + c2 * 115792089237316195423570985008687907853269984665640564039457584007913129639936 = n4 y0 y1 y2 y3 + y3 / 9223372036854775808 * FL) (hr : r < 115792089237316195423570985008687907853269984665640564039457584007913129639936) :
    r = (low + 18446744073709551616 * n4 x0 x1 x2 x3) % FL := by
  obtain ⟨u, hu⟩ : ∃ u, u = y3 / 9223372036854775808 := ⟨_, rfl⟩
  rw [← hu] at hR
  rw [next_all]
  have hY0 := hY
  rw [fl_eq] at hN hY hR
  simp only [n4] at hN hY
  have hR0 := hR
  simp only [n4] at hR
  simp only [B64] at *
  rcases hq with ⟨hx3, hq⟩ | ⟨hx3, hq⟩
  · obtain ⟨t, ht⟩ : ∃ t, t = x2 / 1152921504606846976 := ⟨_, rfl⟩
    obtain ⟨s, hs⟩ : ∃ s, s = x2 % 1152921504606846976 := ⟨_, rfl⟩
    rw [← ht] at hq
    have e2 : x2 = 1152921504606846976 * t + s := by omega
    have ls : s < 1152921504606846976 := by omega
    have lt : t < 16 := by omega
    clear ht hs
    subst e2 hq
    have hc : c = x3 ∨ c = x3 + 1 := by omega
    rcases hc with rfl | rfl
    · have u0 : u = 0 := by omega
      have c0 : c2 = 0 := by omega
      refine fl_mod' (q := 16 * c + t) ?_ ?_
      · subst u0 c0
        rw [fl_eq] at *
        generalize n4 y0 y1 y2 y3 = Y at *
        generalize n4 low c x1 _ = X at *
        omega
      · rw [fl_eq]; omega
    · have u1 : u = 1 := by omega
      have c1 : c2 = 1 := by omega
      refine fl_mod' (q := 16 * x3 + t - 1) ?_ ?_
      · subst u1 c1
        rw [fl_eq] at *
        omega
      · rw [fl_eq]; omega
  · have hc : c = x3 := by omega
    have u0 : u = 0 := by omega
    have c0 : c2 = 0 := by omega
    refine fl_mod' (q := q) ?_ ?_
    · subst u0 c0
      rw [fl_eq] at *
      clear hY hR hN hq hx3
      generalize n4 y0 y1 y2 y3 = Y at *
      generalize n4 low x0 x1 x2 = X at *
      omega
    · rw [fl_eq]; omega
theorem below_step (low M : Nat) : (low + 18446744073709551616 * (M % FL)) % FL = (low + 18446744073709551616 * M) % FL := by
  rw [Nat.add_mod, Nat.mul_mod, Nat.mod_mod, ← Nat.mul_mod, ← Nat.add_mod]
/-- The pieces of bytes, eight to a piece. -/
def pcs (b : List UInt8) : Nat → List Nat
  | 0 => []
  | k + 1 => pcs b k ++ [ln ((b.drop (8 * k)).take 8)]
theorem pcs_len (b : List UInt8) (k : Nat) : (pcs b k).length = k := by induction k with | zero => rfl | succ k ih => simp [pcs, ih]
theorem nB_pcs (b : List UInt8) : ∀ k, 8 * k ≤ b.length → nB (pcs b k) = ln (b.take (8 * k))
  | 0, _ => by simp [pcs, nB, ln]
  | k + 1, h => by
    have h1 := ln_split (b.take (8 * (k + 1))) (8 * k) (by simp; omega)
    rw [List.take_take, Nat.min_eq_left (by omega), List.drop_take, show 8 * (k + 1) - 8 * k = 8 by omega] at h1
    rw [pcs, nB_snoc, pcs_len, nB_pcs b k (by omega), ← h1, Nat.pow_mul, show (256 : Nat) ^ 8 = 18446744073709551616 by decide, Nat.mul_comm (18446744073709551616 ^ k)]
theorem pcs_lt (b : List UInt8) : ∀ k, 8 * k ≤ b.length → ∀ x ∈ pcs b k, x < B64
  | 0, _ => by simp [pcs]
  | k + 1, h => by
    intro x hx
    rcases List.mem_append.1 hx with hx | hx
    · exact pcs_lt b k (by omega) x hx
    · rw [List.mem_singleton.1 hx]; exact ln_lt 8 _ (by simp; omega)
theorem natAt_div {l : List Nat} (h : ∀ x ∈ l, x < B64) : ∀ k, natAt l k = nB l / 18446744073709551616 ^ k % 18446744073709551616 := by
  induction l with
  | nil => intro k; simp [natAt, nB]
  | cons a r ih =>
    have ha := h a (by simp)
    intro k
    cases k with
    | zero => simp only [natAt, nB, Nat.pow_zero, Nat.div_one, List.getD_cons_zero]; simp only [B64] at ha; omega
    | succ k =>
      have e := ih (fun x hx => h x (by simp [hx])) k
      have e2 : natAt (a :: r) (k + 1) = natAt r k := by simp [natAt]
      rw [e2, e, nB, Nat.pow_succ, Nat.mul_comm (_ ^ k), ← Nat.div_div_eq_div_mul, Nat.add_mul_div_left _ _ (by decide), Nat.div_eq_of_lt ha, Nat.zero_add]
theorem byte_piece {l : List Nat} (h : ∀ x ∈ l, x < B64) (k : Nat) : UInt8.ofNat (natAt l (k / 8) / 2 ^ (k % 8 * 8)) = UInt8.ofNat (nB l / 2 ^ (8 * k)) := by
  have e1 : 18446744073709551616 ^ (k / 8) = 2 ^ (64 * (k / 8)) := by rw [Nat.pow_mul]
  have e2 : (18446744073709551616 : Nat) = 2 ^ (k % 8 * 8) * (256 * 2 ^ (64 - 8 - k % 8 * 8)) := by
    rw [show (256 : Nat) = 2 ^ 8 by decide, ← Nat.pow_add, ← Nat.pow_add, show k % 8 * 8 + (8 + (64 - 8 - k % 8 * 8)) = 64 by omega]
  apply UInt8.toNat_inj.1
  rw [UInt8.toNat_ofNat', UInt8.toNat_ofNat', natAt_div h, e1]
  have e3 : 8 * k = 64 * (k / 8) + k % 8 * 8 := by omega
  rw [e3, Nat.pow_add, ← Nat.div_div_eq_div_mul]
  generalize nB l / 2 ^ (64 * (k / 8)) = v
  rw [show v % 18446744073709551616 / 2 ^ (k % 8 * 8) = v / 2 ^ (k % 8 * 8) % (256 * 2 ^ (64 - 8 - k % 8 * 8)) by rw [e2, Nat.mod_mul_right_div_self]]
  rw [show (2 : Nat) ^ 8 = 256 by decide, Nat.mod_mul_right_mod]
/-- The word of a number modulo L. -/
def wl (N : Nat) : List UInt8 := le (N % FL) 32
theorem wl_len (N : Nat) : (wl N).length = 32 := le_len _ _
theorem fl_pos : 0 < FL := by decide
theorem ln_wl (N : Nat) : ln (wl N) = N % FL := by
  rw [wl, ln_le, Nat.mod_eq_of_lt (Nat.lt_trans (Nat.mod_lt _ fl_pos) (by decide))]
theorem wl_of {N M : Nat} (h : N % FL = M % FL) : wl N = wl M := by rw [wl, wl, h]
theorem wl_ln (l : List UInt8) (h : l.length = 32) (h2 : ln l < FL) : wl (ln l) = l := ln_inj _ _ (by rw [wl_len, h]) (by rw [ln_wl, Nat.mod_eq_of_lt h2])
theorem wl_inj {N M : Nat} (h : wl N = wl M) : N % FL = M % FL := by rw [← ln_wl, ← ln_wl, h]
theorem wl_iff (l : List UInt8) (h : l.length = 32) : wl (ln l) = l ↔ ln l < FL :=
  ⟨fun e => by have := congrArg ln e; rw [ln_wl] at this; rw [← this]; exact Nat.mod_lt _ fl_pos, wl_ln l h⟩
end Go.Proofs.YtlobejnohkecdaaDoor
