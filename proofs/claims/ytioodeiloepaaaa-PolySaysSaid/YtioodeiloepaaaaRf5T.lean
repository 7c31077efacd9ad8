/-
  Contract of the document's own times. Conditions: seventeen numbers each, below 2^16.
-/
import Derived.Test.YtioodeiloepaaaaRf5A
namespace Go.Proofs.Ytioodeiloepaaaa
open Go.RowKit

theorem zero_l17 (w : World) : (zeroValue 59).run Try.prog w = .ok (.agg (u64v z17).toArray) w := by kernel_rfl
def STEP : Nat := 1374389534720
/-- What the two loops of products keep. -/
structure Pprod (A B X : List Nat) (i k : Nat) : Prop where
  len : X.length = 17
  bound : ∀ x ∈ X, x ≤ (17 * i + k) * STEP
  val : lvN X % PP = (lvN (A.take i) * lvN B + natAt A i * 256 ^ i * lvN (B.take k)) % PP
theorem prod_lt (x y : Nat) (hx : x < 65536) (hy : y < 65536) : x * y < 4294967296 := Nat.lt_of_le_of_lt (Nat.mul_le_mul (show x ≤ 65535 by omega) (show y ≤ 65535 by omega)) (by decide)
theorem Pprod.step {A B X : List Nat} {i k j : Nat} (hB : B.length = 17) (la : ∀ x ∈ A, x < 65536) (lb : ∀ x ∈ B, x < 65536) (h : Pprod A B X i k) (hk : k < 17) (hj : j < 17) (hijk : i + k = j ∨ i + k = j + 17) :
    Pprod A B (X.set j (natAt X j + (if i + k = j then natAt A i * natAt B k else 320 * (natAt A i * natAt B k)))) i (k + 1) := by
  have h1 := natAt_mem la (by decide) i
  have h2 := natAt_mem lb (by decide) k
  have hp := prod_lt _ _ h1 h2
  refine ⟨by rw [List.length_set]; exact h.len, fun x hx => ?_, ?_⟩
  · have hj2 : natAt X j ≤ (17 * i + k) * STEP := by
      have hm : natAt X j ∈ X := by
        have hjl : j < X.length := by rw [h.len]; exact hj
        simp [natAt, hjl]
      exact h.bound _ hm
    have e1 : (17 * i + (k + 1)) * STEP = (17 * i + k) * STEP + STEP := by rw [← Nat.add_assoc, Nat.add_mul, Nat.one_mul]
    have hp2 : 320 * (natAt A i * natAt B k) ≤ STEP := by
      have e2 : STEP = 320 * 4294967296 := rfl
      rw [e2]
      exact Nat.mul_le_mul_left _ (Nat.le_of_lt hp)
    have hall : ∀ y ∈ X, y ≤ (17 * i + k) * STEP := h.bound
    rw [e1]
    generalize (17 * i + k) * STEP = m at *
    obtain ⟨s, hs⟩ : ∃ s, s = STEP := ⟨_, rfl⟩
    rw [← hs] at hp2 ⊢
    rcases List.mem_or_eq_of_mem_set hx with hx | rfl
    · have := hall x hx; omega
    · split <;> omega
  · have hs := lvN_set X j (natAt X j + (if i + k = j then natAt A i * natAt B k else 320 * (natAt A i * natAt B k))) (by rw [h.len]; exact hj)
    have e : lvN (X.set j (natAt X j + (if i + k = j then natAt A i * natAt B k else 320 * (natAt A i * natAt B k)))) = lvN X + (if i + k = j then natAt A i * natAt B k else 320 * (natAt A i * natAt B k)) * 256 ^ j := by
      rw [Nat.add_mul] at hs; omega
    rw [e, times_val _ _ (natAt A i * natAt B k) j i k h.val hijk, lvN_take B k (by omega)]
    congr 1
    rw [Nat.pow_add]
    generalize lvN (A.take i) * lvN B = q
    generalize lvN (B.take k) = r
    generalize natAt A i = x
    generalize natAt B k = y
    generalize 256 ^ i = P
    generalize 256 ^ k = R
    grind
theorem Pprod.row {A B X : List Nat} {i : Nat} (hA : A.length = 17) (hB : B.length = 17) (h : Pprod A B X i 17) (hi : i < 17) : Pprod A B X (i + 1) 0 := by
  refine ⟨h.len, fun x hx => ?_, ?_⟩
  · have := h.bound x hx
    rw [show 17 * (i + 1) + 0 = 17 * i + 17 by omega]; exact this
  · rw [h.val, List.take_of_length_le (show B.length ≤ 17 by omega), lvN_take A i (by omega)]
    congr 1
    simp only [List.take_zero, lvN, Nat.mul_zero, Nat.add_zero]
    grind
/-- What a turn keeps. -/
structure Pturn (V X : List Nat) (k c : Nat) : Prop where
  len : X.length = 17
  rest : ∀ j, k ≤ j → natAt X j = natAt V j
  low : ∀ j, j < k → natAt X j < 256
  mid : k ≤ 16 → lvN (X.take k) + c * 256 ^ k = lvN (V.take k)
  top : k = 17 → natAt X 16 < 4 ∧ lvN X + c * 1361129467683753853853498429727072845824 = lvN V
  lt : c < 1152921504606846976
theorem Pturn.step {V X : List Nat} {k c : Nat} (hV : V.length = 17) (lv : ∀ x ∈ V, x < 1152921504606846976) (h : Pturn V X k c) (hk : k < 16) :
    Pturn V (X.set k ((c + natAt V k) % 256)) (k + 1) ((c + natAt V k) / 256) := by
  have h1 := natAt_mem lv (by decide) k
  have hc := h.lt
  have hm := h.mid (by omega)
  refine ⟨by rw [List.length_set]; exact h.len, fun j hj => ?_, fun j hj => ?_, fun _ => ?_, fun e => by omega, by omega⟩
  · rw [natAt_set _ _ _ _ (by rw [h.len]; omega), if_neg (by omega)]; exact h.rest j (by omega)
  · rw [natAt_set _ _ _ _ (by rw [h.len]; omega)]
    split
    · omega
    · exact h.low j (by omega)
  · rw [lvN_take _ k (by rw [List.length_set, h.len]; omega), lvN_take V k (by omega), take_set_lt, natAt_set _ _ _ _ (by rw [h.len]; omega), if_pos rfl, Nat.pow_succ, ← hm]
    have e : (c + natAt V k) = (c + natAt V k) % 256 + 256 * ((c + natAt V k) / 256) := by omega
    generalize hq : (c + natAt V k) % 256 = q at *
    generalize hd : (c + natAt V k) / 256 = d at *
    generalize natAt V k = y at *
    generalize lvN (X.take k) = x
    generalize 256 ^ k = P
    have e2 : (c + y) * P = (q + 256 * d) * P := by rw [← e]
    grind
theorem Pturn.last {V X : List Nat} {c : Nat} (hV : V.length = 17) (lv : ∀ x ∈ V, x < 1152921504606846976) (h : Pturn V X 16 c) :
    Pturn V (X.set 16 ((c + natAt V 16) % 4)) 17 ((c + natAt V 16) / 4) := by
  have h1 := natAt_mem lv (by decide) 16
  have hc := h.lt
  have hm := h.mid (by omega)
  refine ⟨by rw [List.length_set]; exact h.len, fun j hj => ?_, fun j hj => ?_, fun e => by omega, fun _ => ⟨?_, ?_⟩, by omega⟩
  · rw [natAt_set _ _ _ _ (by rw [h.len]; omega), if_neg (by omega)]; exact h.rest j (by omega)
  · rw [natAt_set _ _ _ _ (by rw [h.len]; omega)]
    split
    · omega
    · exact h.low j (by omega)
  · rw [natAt_set _ _ _ _ (by rw [h.len]; omega), if_pos rfl]; omega
  · have e1 : lvN (X.set 16 ((c + natAt V 16) % 4)) = lvN (X.take 16) + (c + natAt V 16) % 4 * 256 ^ 16 := by
      have h2 := lvN_take (X.set 16 ((c + natAt V 16) % 4)) 16 (by rw [List.length_set, h.len]; decide)
      rw [List.take_of_length_le (by rw [List.length_set, h.len]; decide), take_set_lt, natAt_set _ _ _ _ (by rw [h.len]; omega), if_pos rfl] at h2
      exact h2
    have e2 : lvN V = lvN (V.take 16) + natAt V 16 * 256 ^ 16 := by
      have h2 := lvN_take V 16 (by omega)
      rwa [List.take_of_length_le (by omega)] at h2
    rw [e1, e2, ← hm, show (256 : Nat) ^ 16 = 340282366920938463463374607431768211456 by decide]
    omega
/-- What the turns keep: how great the number is. -/
structure Pturns (N : Nat) (X : List Nat) (t : Nat) : Prop where
  len : X.length = 17
  bound : ∀ x ∈ X, x < 1152921504606846976
  val : lvN X % PP = N % PP
  zero : t = 0 → lvN X < 1361129467683753853853498429727072845824 * 1125899906842624
  first : t = 1 → lvN X < 1361129467683753853853498429727072845824 + 5629499534213120
  then_ : t = 2 → lvN X < 1361129467683753853853498429727072845824
  end_ : t = 3 → (∀ j, j < 17 → natAt X j < 256) ∧ natAt X 16 < 4 ∧ lvN X < 1361129467683753853853498429727072845824
theorem lv_top (X : List Nat) (h : X.length = 17) (hl : ∀ j, j < 17 → natAt X j < 256) (ht : natAt X 16 < 4) : lvN X < 1361129467683753853853498429727072845824 := by
  have h2 := lvN_take X 16 (by omega)
  rw [List.take_of_length_le (by omega)] at h2
  have h3 : lvN (X.take 16) < 256 ^ (X.take 16).length := lvN_lt _ (by
    intro x hx
    obtain ⟨k, hk, rfl⟩ := List.mem_iff_getElem.1 hx
    have hk16 : k < 16 := by simp at hk; omega
    have := hl k (by omega)
    have hkX : k < X.length := by omega
    simpa [natAt, hkX] using this)
  have e : (X.take 16).length = 16 := by simp; omega
  rw [e, show (256 : Nat) ^ 16 = 340282366920938463463374607431768211456 by decide] at h3
  rw [show (256 : Nat) ^ 16 = 340282366920938463463374607431768211456 by decide] at h2
  omega
theorem Pturns.step {N t c : Nat} {V X : List Nat} (h : Pturns N V t) (ht : t < 3) (hp : Pturn V X 17 c) : Pturns N (X.set 0 (natAt X 0 + 5 * c)) (t + 1) ∧ natAt X 0 < 256 ∧ c < 1125899906842624 := by
  obtain ⟨ht4, hval⟩ := hp.top rfl
  have hX := lv_top X hp.len hp.low ht4
  obtain ⟨hc, hmod⟩ := turn_val _ _ _ hval hX
  have hs := lvN_set X 0 (natAt X 0 + 5 * c) (by rw [hp.len]; decide)
  rw [Nat.pow_zero, Nat.mul_one, Nat.mul_one] at hs
  have e : lvN (X.set 0 (natAt X 0 + 5 * c)) = lvN X + 5 * c := by omega
  have h0 := hp.low 0 (by decide)
  have hcb : c < 1125899906842624 := by
    have h3 : t = 0 ∨ t = 1 ∨ t = 2 := by omega
    rcases h3 with h3 | h3 | h3
    · have := h.zero h3; omega
    · have := h.first h3; omega
    · have := h.then_ h3; omega
  have hval2 : lvN (X.set 0 (natAt X 0 + 5 * c)) % PP = N % PP := by rw [e, hmod, h.val]
  have hb : ∀ x ∈ X.set 0 (natAt X 0 + 5 * c), x < 1152921504606846976 := by
    refine natAt_all (fun k hk => ?_)
    rw [List.length_set, hp.len] at hk
    rw [natAt_set _ _ _ _ (by rw [hp.len]; decide)]
    split
    · omega
    · have := hp.low k hk; omega
  refine ⟨⟨by rw [List.length_set]; exact hp.len, hb, hval2, fun e0 => by omega, fun e1 => ?_, fun e2 => ?_, fun e3 => ?_⟩, h0, hcb⟩
  · rw [e]; omega
  · rw [e]
    have := h.first (by omega)
    omega
  · have h2 := h.then_ (by omega)
    have hc0 : c = 0 := by omega
    subst hc0
    have e4 : ∀ j, natAt (X.set 0 (natAt X 0 + 5 * 0)) j = natAt X j := by
      intro j
      rw [natAt_set _ _ _ _ (by rw [hp.len]; decide)]
      split
      · rename_i hj; rw [hj]; omega
      · rfl
    refine ⟨fun j hj => by rw [e4]; exact hp.low j hj, by rw [e4]; exact ht4, by rw [e]; omega⟩
theorem Pturns.start {A B X : List Nat} (hA : A.length = 17) (h : Pprod A B X 17 0) : Pturns (lvN A * lvN B) X 0 := by
  have hb : ∀ x ∈ X, x ≤ 397198575534080 := fun x hx => by have := h.bound x hx; simpa [STEP] using this
  refine ⟨h.len, fun x hx => by have := hb x hx; omega, ?_, fun _ => ?_, fun e => by omega, fun e => by omega, fun e => by omega⟩
  · rw [h.val, List.take_of_length_le (by omega)]; simp [lvN]
  · have h1 := lvN_le 397198575534080 X hb
    rw [h.len, show (256 : Nat) ^ 17 = 64 * 1361129467683753853853498429727072845824 by decide] at h1
    omega
end Go.Proofs.Ytioodeiloepaaaa
