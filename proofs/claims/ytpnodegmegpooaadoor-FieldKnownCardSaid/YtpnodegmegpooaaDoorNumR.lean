/-
  Roots modulo the prime: words that the laws of this seat use. No statement is proved here. Conditions: none.
-/
import Derived.Test.YtpnodegmegpooaaDoorFdR
import Derived.Test.YtpnodegmegpooaaDoorNumP
namespace Go.Proofs.YtpnodegmegpooaaDoor

/-- What is taken from nothing, squared. -/
theorem neg_sq (r : Nat) : subF 0 r * subF 0 r % FP = r * r % FP := by
  have h := subF_add 0 r
  rw [Nat.zero_mod] at h
  obtain ⟨k, hk⟩ := Nat.dvd_of_mod_eq_zero h
  generalize subF 0 r = s at *
  have e1 : s * s + r * (s + r) = r * r + s * (s + r) := by grind
  rw [hk] at e1
  have e2 : (s * s + FP * (r * k)) % FP = (r * r + FP * (s * k)) % FP := by
    congr 1
    rw [Nat.mul_left_comm FP r k, Nat.mul_left_comm FP s k]; exact e1
  rwa [Nat.add_mul_mod_self_left, Nat.add_mul_mod_self_left] at e2
theorem evenW_sq (r : Nat) : ln (evenW r) * ln (evenW r) % FP = r * r % FP := by
  unfold evenW
  by_cases h : r % FP % 2 = 1
  · rw [if_pos h, ln_wo, ← Nat.mul_mod, neg_sq]
  · rw [if_neg h, ln_wo, ← Nat.mul_mod]
theorem evenW_even (r : Nat) : ln (evenW r) % 2 = 0 := by
  unfold evenW
  by_cases h : r % FP % 2 = 1
  · rw [if_pos h, ln_wo, subF]
    have h1 : r % FP < FP := Nat.mod_lt _ fp_pos
    have h3 : (0 + (FP - r % FP)) % FP = FP - r % FP := by rw [Nat.zero_add]; exact Nat.mod_eq_of_lt (by omega)
    rw [h3]
    have h2 : FP % 2 = 1 := by decide
    omega
  · rw [if_neg h, ln_wo]
    omega
theorem root_yes {x : Nat} {l : List UInt8} (h : (l, true) = rootOf x) : ln l * ln l % FP = x % FP ∧ ln l % 2 = 0 := by
  unfold rootOf at h
  by_cases h1 : x ^ E8 * x ^ E8 % FP = x % FP
  · rw [if_pos h1] at h
    injection h with h2 _
    rw [h2, evenW_sq]
    exact ⟨h1, evenW_even _⟩
  · rw [if_neg h1] at h
    by_cases h3 : (x ^ E8 * TRN) * (x ^ E8 * TRN) % FP = x % FP
    · rw [if_pos h3] at h
      injection h with h2 _
      rw [h2, evenW_sq]
      exact ⟨h3, evenW_even _⟩
    · rw [if_neg h3] at h
      injection h with _ h2
      cases h2
theorem root_no {x : Nat} {l : List UInt8} (h : (l, false) = rootOf x) : l = z32 := by
  unfold rootOf at h
  by_cases h1 : x ^ E8 * x ^ E8 % FP = x % FP
  · rw [if_pos h1] at h
    injection h with _ h2
    cases h2
  · rw [if_neg h1] at h
    by_cases h3 : (x ^ E8 * TRN) * (x ^ E8 * TRN) % FP = x % FP
    · rw [if_pos h3] at h
      injection h with _ h2
      cases h2
    · rw [if_neg h3] at h
      injection h with h2 _
theorem evenW_wo (r : Nat) : ∃ N, evenW r = wo N := by
  unfold evenW
  by_cases h : r % FP % 2 = 1
  · rw [if_pos h]; exact ⟨_, rfl⟩
  · rw [if_neg h]; exact ⟨_, rfl⟩
theorem wo_again (N : Nat) : wo (ln (wo N)) = wo N := by rw [ln_wo]; exact wo_of (Nat.mod_mod N FP)
theorem root_is (x : Nat) : (∃ r, rootOf x = (evenW r, true)) ∨ rootOf x = (z32, false) := by
  unfold rootOf
  by_cases h1 : x ^ E8 * x ^ E8 % FP = x % FP
  · rw [if_pos h1]; exact .inl ⟨_, rfl⟩
  · rw [if_neg h1]
    by_cases h3 : (x ^ E8 * TRN) * (x ^ E8 * TRN) % FP = x % FP
    · rw [if_pos h3]; exact .inl ⟨_, rfl⟩
    · rw [if_neg h3]; exact .inr rfl
theorem root_wo {x : Nat} {l : List UInt8} (h : (l, true) = rootOf x) : wo (ln l) = l := by
  rcases root_is x with ⟨r, hr⟩ | hr
  · rw [hr] at h
    have h2 : l = evenW r := congrArg Prod.fst h
    obtain ⟨N, hN⟩ := evenW_wo r
    rw [h2, hN, wo_again]
  · rw [hr] at h
    have h2 : true = false := congrArg Prod.snd h
    cases h2
/-- A square has a root. -/
theorem root_square (a : Nat) : (rootOf (a * a % FP)).2 = true := by
  unfold rootOf
  obtain ⟨x, hx⟩ : ∃ x, x = a * a % FP := ⟨_, rfl⟩
  rw [← hx]
  have e8 : E8 + E8 = (FP - 1) / 4 + 1 := by decide
  have hd : x ^ E8 * x ^ E8 = x ^ ((FP - 1) / 4) * x := by rw [← Nat.pow_add, e8, Nat.pow_succ]
  by_cases h1 : x ^ E8 * x ^ E8 % FP = x % FP
  · rw [if_pos h1]
  · rw [if_neg h1]
    by_cases h0 : FP ∣ a
    · exfalso
      apply h1
      have hx0 : x = 0 := by rw [hx, Nat.mul_mod, Nat.mod_eq_zero_of_dvd h0, Nat.zero_mul, Nat.zero_mod]
      rw [hd, hx0, Nat.mul_zero]
    · have hf := fermat_one prFP h0
      obtain ⟨g, hg⟩ : ∃ g, g = x ^ ((FP - 1) / 4) := ⟨_, rfl⟩
      rw [← hg] at hd
      have hgg : g * g % FP = 1 := by
        have e4 : (FP - 1) / 4 + (FP - 1) / 4 = (FP - 1) / 2 := by decide
        have e2 : 2 * ((FP - 1) / 2) = FP - 1 := by decide
        have hp2 : (a * a) ^ ((FP - 1) / 2) = a ^ (2 * ((FP - 1) / 2)) := by rw [Nat.pow_mul, Nat.pow_two]
        rw [hg, ← Nat.pow_add, e4, hx, ← Nat.pow_mod, hp2, e2, hf]
      have hgm : FP ∣ (g + (FP - 1)) * (g + 1) := by
        refine Nat.dvd_of_mod_eq_zero ?_
        have e : (g + (FP - 1)) * (g + 1) = g * g + (FP - 1) + FP * g := by
          obtain ⟨m, hm⟩ : ∃ m, FP = m + 1 := ⟨FP - 1, by have := fp_pos; omega⟩
          rw [hm, Nat.add_sub_cancel]
          grind
        rw [e, Nat.add_mul_mod_self_left, Nat.add_mod, hgg, show (1 + (FP - 1) % FP) % FP = 0 by decide]
      rcases prFP.euclid hgm with h2 | h2
      · exfalso
        apply h1
        obtain ⟨k, hk⟩ := h2
        have hk2 : g * x + FP * x = x + FP * (k * x) := by
          have h3 : (g + (FP - 1)) * x = FP * k * x := by rw [hk]
          obtain ⟨m, hm⟩ : ∃ m, FP = m + 1 := ⟨FP - 1, by have := fp_pos; omega⟩
          rw [hm, Nat.add_sub_cancel] at h3
          rw [hm]
          grind
        rw [hd, ← Nat.add_mul_mod_self_left (g * x) FP x, hk2, Nat.add_mul_mod_self_left]
      · have ht : TRN * TRN % FP = FP - 1 := by decide +kernel
        have h3 : (x ^ E8 * TRN) * (x ^ E8 * TRN) % FP = x % FP := by
          rw [Nat.mul_mul_mul_comm, hd, Nat.mul_mod, ht]
          obtain ⟨k, hk⟩ := h2
          have e : g * x % FP * (FP - 1) % FP = g * x * (FP - 1) % FP := by rw [Nat.mod_mul_mod]
          rw [e]
          have e5 : g * x * (FP - 1) + FP * (k * x) = x + FP * (g * x) := by
            have h3 : (g + 1) * x = FP * k * x := by rw [hk]
            obtain ⟨m, hm⟩ : ∃ m, FP = m + 1 := ⟨FP - 1, by have := fp_pos; omega⟩
            rw [hm] at h3 ⊢
            rw [Nat.add_sub_cancel]
            grind
          rw [← Nat.add_mul_mod_self_left (g * x * (FP - 1)) FP (k * x), e5, Nat.add_mul_mod_self_left]
        rw [if_pos h3]
/-- A number whose square is another's is it, or what it lacks of the prime. -/
theorem root_two {r a : Nat} (h : r * r % FP = a * a % FP) : r % FP = a % FP ∨ r % FP = subF 0 a % FP := by
  have ha : a % FP < FP := Nat.mod_lt _ fp_pos
  have hd : FP ∣ (r + (FP - a % FP)) * (r + a % FP) := by
    refine Nat.dvd_of_mod_eq_zero ?_
    obtain ⟨a0, ha0⟩ : ∃ a0, a0 = a % FP := ⟨_, rfl⟩
    obtain ⟨b, hb⟩ : ∃ b, b = FP - a % FP := ⟨_, rfl⟩
    have hab : FP = a0 + b := by omega
    have h2 : r * r % FP = a0 * a0 % FP := by rw [h, ha0, ← Nat.mul_mod]
    rw [← hb, ← ha0]
    have e : (r + b) * (r + a0) + a0 * a0 = r * r + FP * (r + a0) := by rw [hab]; grind
    have h3 : ((r + b) * (r + a0) + a0 * a0) % FP = a0 * a0 % FP := by rw [e, Nat.add_mul_mod_self_left, h2]
    have h4 := Nat.sub_mod_eq_zero_of_mod_eq h3
    rwa [Nat.add_sub_cancel] at h4
  rcases prFP.euclid hd with h2 | h2
  · refine .inl ?_
    obtain ⟨k, hk⟩ := h2
    have e : r + FP = a % FP + FP * k := by omega
    rw [← Nat.add_mod_right, e, Nat.add_mul_mod_self_left, Nat.mod_mod]
  · refine .inr (subF_of ?_)
    rw [← Nat.add_mod_mod, Nat.mod_eq_zero_of_dvd h2, Nat.zero_mod]
end Go.Proofs.YtpnodegmegpooaaDoor
