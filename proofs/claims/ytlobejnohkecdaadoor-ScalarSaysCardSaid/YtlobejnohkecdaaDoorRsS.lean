/-
  Numbers of 32 bytes, reckoned with byte by byte: words that the contracts of the document's own numbers modulo L share. No statement is proved here. Conditions: none.
-/
import Derived.Test.YtlobejnohkecdaaDoorScS
namespace Go.Proofs.YtlobejnohkecdaaDoor
open Go.RowKit

theorem nb_set (l : List UInt8) (k j v : Nat) (h : k < l.length) (hv : v < 256) : nb (l.set k (UInt8.ofNat v)) j = if j = k then v else nb l j := by
  simp only [nb, List.getD_eq_getElem?_getD, List.getElem?_set]
  by_cases hj : k = j
  · subst hj; simp [h, Nat.mod_eq_of_lt hv]
  · simp [hj, Ne.symm hj]
theorem ln_take (l : List UInt8) (k : Nat) (h : k < l.length) : ln (l.take (k + 1)) = ln (l.take k) + nb l k * 256 ^ k := by
  rw [List.take_succ_eq_append_getElem h, ln_snoc]
  simp [nb, h, Nat.min_eq_left (Nat.le_of_lt h)]
theorem ln_set (l : List UInt8) (k v : Nat) (h : k < l.length) (hv : v < 256) : ln (l.set k (UInt8.ofNat v)) + nb l k * 256 ^ k = ln l + v * 256 ^ k := by
  induction l generalizing k with
  | nil => simp at h
  | cons a r ih =>
    cases k with
    | zero => simp [ln, nb, Nat.mod_eq_of_lt hv]; omega
    | succ k =>
      have h1 := ih k (by simpa using h)
      simp only [List.set_cons_succ, ln, Nat.pow_succ]
      have e : nb (a :: r) (k + 1) = nb r k := by simp [nb]
      rw [e]
      generalize ln (r.set k (UInt8.ofNat v)) = x at *
      generalize ln r = y at *
      generalize 256 ^ k = P at *
      grind
theorem nb_div (l : List UInt8) : ∀ k, nb l k = ln l / 256 ^ k % 256 := by
  induction l with
  | nil => intro k; simp [nb, ln]
  | cons a r ih =>
    intro k
    have ha := a.toNat_lt
    cases k with
    | zero => simp only [nb, ln, Nat.pow_zero, Nat.div_one, List.getD_cons_zero]; omega
    | succ k =>
      have e := ih k
      have e2 : nb (a :: r) (k + 1) = nb r k := by simp [nb]
      rw [e2, e, ln, Nat.pow_succ, Nat.mul_comm (_ ^ k), ← Nat.div_div_eq_div_mul, Nat.add_mul_div_left _ _ (by decide), Nat.div_eq_of_lt (show a.toNat < 256 from ha), Nat.zero_add]
/-- A bit of a number's bytes. -/
theorem bit_at (l : List UInt8) (i : Nat) : nb l (i / 8) / 2 ^ (i % 8) % 2 = ln l / 2 ^ i % 2 := by
  have e1 : (256 : Nat) ^ (i / 8) = 2 ^ (8 * (i / 8)) := by rw [Nat.pow_mul]
  have e2 : (256 : Nat) = 2 ^ (i % 8) * (2 * 2 ^ (7 - i % 8)) := by
    rw [Nat.mul_comm 2, ← Nat.pow_succ, ← Nat.pow_add, show i % 8 + (7 - i % 8 + 1) = 8 by omega]
  have e3 : i = 8 * (i / 8) + i % 8 := by omega
  have e4 : ln l / 2 ^ i = ln l / 2 ^ (8 * (i / 8)) / 2 ^ (i % 8) := by
    rw [Nat.div_div_eq_div_mul, ← Nat.pow_add, ← e3]
  rw [nb_div, e1, e4]
  generalize ln l / 2 ^ (8 * (i / 8)) = v
  rw [show v % 256 / 2 ^ (i % 8) = v / 2 ^ (i % 8) % (2 * 2 ^ (7 - i % 8)) by rw [e2, Nat.mod_mul_right_div_self], Nat.mod_mul_right_mod]
/-- A number doubled, byte by byte. -/
structure Dbl (R0 R : List UInt8) (c0 k c : Nat) : Prop where
  len : R.length = 32
  rest : ∀ j, k ≤ j → nb R j = nb R0 j
  val : ln R + c * 256 ^ k = ln R0 + ln (R0.take k) + c0
  lt : c ≤ 1
theorem Dbl.first {R : List UInt8} {c : Nat} (h : R.length = 32) (hc : c ≤ 1) : Dbl R R c 0 c := ⟨h, fun _ _ => rfl, by simp [ln], hc⟩
theorem Dbl.step {R0 R : List UInt8} {c0 k c : Nat} (h : Dbl R0 R c0 k c) (h0 : R0.length = 32) (hk : k < 32) : Dbl R0 (R.set k (UInt8.ofNat ((2 * nb R0 k + c) % 256))) c0 (k + 1) (nb R0 k / 128) := by
  have hb := nb_lt R0 k
  have hc := h.lt
  refine ⟨by rw [List.length_set]; exact h.len, fun j hj => ?_, ?_, by omega⟩
  · rw [nb_set _ _ _ _ (by rw [h.len]; omega) (by omega), if_neg (by omega)]; exact h.rest j (by omega)
  · have h1 := ln_set R k ((2 * nb R0 k + c) % 256) (by rw [h.len]; omega) (by omega)
    have h2 := h.val
    rw [h.rest k (Nat.le_refl _)] at h1
    rw [ln_take R0 k (by omega), Nat.pow_succ]
    generalize ln (R.set k (UInt8.ofNat ((2 * nb R0 k + c) % 256))) = s at *
    generalize ln R = x at *
    generalize ln R0 = x0 at *
    generalize ln (R0.take k) = y at *
    generalize nb R0 k = a at *
    generalize 256 ^ k = P at *
    obtain ⟨v, hv⟩ : ∃ v, v = (2 * a + c) % 256 := ⟨_, rfl⟩
    obtain ⟨d, hd⟩ : ∃ d, d = a / 128 := ⟨_, rfl⟩
    rw [← hv] at h1
    rw [← hd]
    have e : 2 * a + c = v + 256 * d := by omega
    have e2 : (2 * a + c) * P = (v + 256 * d) * P := by rw [e]
    clear hv hd e hb hc
    grind
theorem Dbl.all {R0 R : List UInt8} {c0 c : Nat} (h : Dbl R0 R c0 32 c) (h0 : R0.length = 32) (hs : ln R0 < FL) (hc0 : c0 ≤ 1) : ln R = 2 * ln R0 + c0 := by
  have h1 := h.val
  rw [List.take_of_length_le (by omega), show (256 : Nat) ^ 32 = 115792089237316195423570985008687907853269984665640564039457584007913129639936 by decide] at h1
  rw [fl_eq] at hs
  have := h.lt
  have hc : c = 0 := by omega
  subst hc
  omega
/-- One number less another, byte by byte. -/
structure Mns (A0 B A : List UInt8) (k c : Nat) : Prop where
  len : A.length = 32
  rest : ∀ j, k ≤ j → nb A j = nb A0 j
  val : ln A + ln (B.take k) = ln A0 + c * 256 ^ k
  lt : c ≤ 1
theorem Mns.first {A B : List UInt8} (h : A.length = 32) : Mns A B A 0 0 := ⟨h, fun _ _ => rfl, by simp [ln], by decide⟩
theorem Mns.step {A0 B A : List UInt8} {k c : Nat} (h : Mns A0 B A k c) (hB : B.length = 32) (hk : k < 32) (v d : Nat) (e : nb A0 k + 256 * d = v + nb B k + c) (hv : v < 256) (hd : d ≤ 1) : Mns A0 B (A.set k (UInt8.ofNat v)) (k + 1) d := by
  refine ⟨by rw [List.length_set]; exact h.len, fun j hj => ?_, ?_, hd⟩
  · rw [nb_set _ _ _ _ (by rw [h.len]; omega) hv, if_neg (by omega)]; exact h.rest j (by omega)
  · have h1 := ln_set A k v (by rw [h.len]; omega) hv
    have h2 := h.val
    rw [h.rest k (Nat.le_refl _)] at h1
    rw [ln_take B k (by omega), Nat.pow_succ]
    generalize ln (A.set k (UInt8.ofNat v)) = s at *
    generalize ln A = x at *
    generalize ln A0 = x0 at *
    generalize ln (B.take k) = y at *
    generalize nb A0 k = a at *
    generalize nb B k = b at *
    generalize 256 ^ k = P at *
    have e2 : (a + 256 * d) * P = (v + b + c) * P := by rw [e]
    clear e
    grind
theorem Mns.all {A0 B A : List UInt8} {c : Nat} (h : Mns A0 B A 32 c) (hB : B.length = 32) (hle : ln B ≤ ln A0) : ln A = ln A0 - ln B := by
  have h1 := h.val
  have h2 := ln_lt 32 A h.len
  rw [List.take_of_length_le (by omega)] at h1
  rw [show (256 : Nat) ^ 32 = 115792089237316195423570985008687907853269984665640564039457584007913129639936 by decide] at h1 h2
  have := h.lt
  have hc : c = 0 := by omega
  subst hc
  omega
/-- A sum, byte by byte. -/
structure Pls (A0 B A : List UInt8) (k c : Nat) : Prop where
  len : A.length = 32
  rest : ∀ j, k ≤ j → nb A j = nb A0 j
  val : ln A + c * 256 ^ k = ln A0 + ln (B.take k)
  lt : c ≤ 1
theorem Pls.first {A B : List UInt8} (h : A.length = 32) : Pls A B A 0 0 := ⟨h, fun _ _ => rfl, by simp [ln], by decide⟩
theorem Pls.step {A0 B A : List UInt8} {k c : Nat} (h : Pls A0 B A k c) (hB : B.length = 32) (hk : k < 32) : Pls A0 B (A.set k (UInt8.ofNat ((c + nb A0 k + nb B k) % 256))) (k + 1) ((c + nb A0 k + nb B k) / 256) := by
  have ha := nb_lt A0 k
  have hb := nb_lt B k
  have hc := h.lt
  refine ⟨by rw [List.length_set]; exact h.len, fun j hj => ?_, ?_, by omega⟩
  · rw [nb_set _ _ _ _ (by rw [h.len]; omega) (by omega), if_neg (by omega)]; exact h.rest j (by omega)
  · have h1 := ln_set A k ((c + nb A0 k + nb B k) % 256) (by rw [h.len]; omega) (by omega)
    have h2 := h.val
    rw [h.rest k (Nat.le_refl _)] at h1
    rw [ln_take B k (by omega), Nat.pow_succ]
    generalize ln (A.set k (UInt8.ofNat ((c + nb A0 k + nb B k) % 256))) = s at *
    generalize ln A = x at *
    generalize ln A0 = x0 at *
    generalize ln (B.take k) = y at *
    generalize nb A0 k = a at *
    generalize nb B k = b at *
    generalize 256 ^ k = P at *
    obtain ⟨v, hv⟩ : ∃ v, v = (c + a + b) % 256 := ⟨_, rfl⟩
    obtain ⟨d, hd⟩ : ∃ d, d = (c + a + b) / 256 := ⟨_, rfl⟩
    rw [← hv] at h1
    rw [← hd]
    have e : c + a + b = v + 256 * d := by omega
    have e2 : (c + a + b) * P = (v + 256 * d) * P := by rw [e]
    clear hv hd e ha hb hc
    grind
theorem Pls.all {A0 B A : List UInt8} {c : Nat} (h : Pls A0 B A 32 c) (hB : B.length = 32) (h1 : ln A0 < FL) (h2 : ln B < FL) : ln A = ln A0 + ln B := by
  have h3 := h.val
  rw [List.take_of_length_le (by omega), show (256 : Nat) ^ 32 = 115792089237316195423570985008687907853269984665640564039457584007913129639936 by decide] at h3
  rw [fl_eq] at h1 h2
  have := h.lt
  have hc : c = 0 := by omega
  subst hc
  omega
/-- Two numbers, the same from byte k on. -/
theorem at_least {a b : List UInt8} (ha : a.length = 32) (hb : b.length = 32) (k : Nat) (hk : k < 32) (hd : a.drop (k + 1) = b.drop (k + 1)) (hne : nb a k ≠ nb b k) : (nb b k < nb a k) ↔ ln b ≤ ln a := by
  have h1 := ln_split a (k + 1) (by omega)
  have h2 := ln_split b (k + 1) (by omega)
  rw [ln_take a k (by omega)] at h1
  rw [ln_take b k (by omega), ← hd] at h2
  have h3 := ln_lt k (a.take k) (by simp; omega)
  have h4 := ln_lt k (b.take k) (by simp; omega)
  rw [Nat.pow_succ] at h1 h2
  generalize ln (a.take k) = x at *
  generalize ln (b.take k) = y at *
  generalize ln (a.drop (k + 1)) = z at *
  generalize nb a k = p at *
  generalize nb b k = q at *
  generalize 256 ^ k = P at *
  constructor
  · intro h
    have : (q + 1) * P ≤ p * P := Nat.mul_le_mul_right _ h
    rw [Nat.add_mul] at this
    omega
  · intro h
    rcases Nat.lt_or_ge q p with h5 | h5
    · exact h5
    · exfalso
      have : (p + 1) * P ≤ q * P := Nat.mul_le_mul_right _ (by omega)
      rw [Nat.add_mul] at this
      omega
theorem drop_same {a b : List UInt8} (ha : a.length = 32) (hb : b.length = 32) (k : Nat) (hk : k < 32) (hd : a.drop (k + 1) = b.drop (k + 1)) (he : nb a k = nb b k) : a.drop k = b.drop k := by
  rw [List.drop_eq_getElem_cons (by omega), List.drop_eq_getElem_cons (show k < b.length by omega), hd]
  congr 1
  apply UInt8.toNat_inj.1
  have h1 : k < a.length := by omega
  have h2 : k < b.length := by omega
  simpa [nb, h1, h2] using he
theorem mod_step (M k r : Nat) (hr : r = M / 2 ^ (k + 1) % FL) : (2 * r + M / 2 ^ k % 2 < FL → 2 * r + M / 2 ^ k % 2 = M / 2 ^ k % FL) ∧ (FL ≤ 2 * r + M / 2 ^ k % 2 → 2 * r + M / 2 ^ k % 2 - FL = M / 2 ^ k % FL) := by
  have e : M / 2 ^ (k + 1) = M / 2 ^ k / 2 := by rw [Nat.pow_succ, Nat.div_div_eq_div_mul]
  rw [e] at hr
  generalize M / 2 ^ k = v at *
  rw [fl_eq] at *
  constructor <;> intro h <;> omega
theorem nb_cell {w : World} {g k : Nat} {l : List UInt8} {t : TypeId} (hg : w.heap[g]? = some (.cells (bv l).toArray t (0, 0))) (hk : k < l.length) : w.cell? ⟨g, k, none⟩ = some (.int .u8 ((nb l k : Nat) : Int)) := by
  have h := byte_cell hg (nb_at hk)
  rwa [UInt8.toNat_ofNat', show (2 : Nat) ^ 8 = 256 by decide, Nat.mod_eq_of_lt (nb_lt l k)] at h
theorem bv_put (l : List UInt8) (k v : Nat) (hv : v < 256) : (bv l).set k (.int .u8 (v : Int)) = bv (l.set k (UInt8.ofNat v)) := by
  have h := bv_set l k (UInt8.ofNat v)
  rwa [UInt8.toNat_ofNat', show (2 : Nat) ^ 8 = 256 by decide, Nat.mod_eq_of_lt hv] at h
end Go.Proofs.YtlobejnohkecdaaDoor
