/-
  2^255 - 19 is a prime (Fermat's little theorem by binomials, Pocklington's test): words that the laws of this seat use. No statement is proved here. Conditions: none.
-/
import Derived.Test.YtpnodegmegpooaaDoorFdY0
namespace Go.Proofs.YtpnodegmegpooaaDoor

/-- A prime. -/
def Pr (p : Nat) : Prop := 2 ≤ p ∧ ∀ d, d ∣ p → d = 1 ∨ d = p
theorem Pr.coprime {p x : Nat} (hp : Pr p) (h : ¬ p ∣ x) : Nat.Coprime p x := by
  rcases hp.2 (Nat.gcd p x) (Nat.gcd_dvd_left p x) with h1 | h1
  · exact h1
  · exact absurd (h1 ▸ Nat.gcd_dvd_right p x) h
theorem Pr.euclid {p x y : Nat} (hp : Pr p) (h : p ∣ x * y) : p ∣ x ∨ p ∣ y := by
  by_cases hx : p ∣ x
  · exact .inl hx
  · exact .inr ((hp.coprime hx).dvd_of_dvd_mul_left h)
/-- Each number from 2 on has a prime that divides it. -/
theorem prime_in : ∀ (n : Nat), 2 ≤ n → ∃ p, Pr p ∧ p ∣ n := by
  intro n
  induction n using Nat.strongRecOn with
  | _ n ih =>
    intro hn
    by_cases h : ∀ d, d ∣ n → d = 1 ∨ d = n
    · exact ⟨n, ⟨hn, h⟩, Nat.dvd_refl n⟩
    · obtain ⟨d, hd⟩ := Classical.not_forall.1 h
      obtain ⟨hd1, hd2⟩ : d ∣ n ∧ ¬ (d = 1 ∨ d = n) := by
        by_cases h1 : d ∣ n
        · exact ⟨h1, fun h2 => hd fun _ => h2⟩
        · exact absurd (fun h2 => absurd h2 h1) hd
      have hle := Nat.le_of_dvd (by omega) hd1
      have hd0 : d ≠ 0 := by rintro rfl; have := Nat.eq_zero_of_zero_dvd hd1; omega
      obtain ⟨p, hp, hpd⟩ := ih d (by omega) (by omega)
      exact ⟨p, hp, Nat.dvd_trans hpd hd1⟩
/-- Binomials. -/
def ch : Nat → Nat → Nat
  | _, 0 => 1
  | 0, _ + 1 => 0
  | n + 1, k + 1 => ch n k + ch n (k + 1)
def bsum (a n : Nat) : Nat → Nat
  | 0 => 0
  | m + 1 => bsum a n m + ch n m * a ^ m
theorem ch_big : ∀ (n k : Nat), n < k → ch n k = 0
  | 0, k + 1, _ => by rw [ch]
  | n + 1, k + 1, h => by rw [ch, ch_big n k (by omega), ch_big n (k + 1) (by omega)]
theorem bsum_next (a n : Nat) : ∀ m, bsum a (n + 1) (m + 1) = bsum a n (m + 1) + a * bsum a n m
  | 0 => by simp [bsum, ch]
  | m + 1 => by
    rw [bsum, bsum_next a n m, bsum, ch]
    rw [bsum]
    simp only [bsum, Nat.pow_succ]
    grind
theorem binom (a : Nat) : ∀ n, (a + 1) ^ n = bsum a n (n + 1)
  | 0 => by simp [bsum, ch]
  | n + 1 => by
    have e : bsum a n (n + 1 + 1) = bsum a n (n + 1) := by rw [bsum, ch_big n (n + 1) (by omega), Nat.zero_mul, Nat.add_zero]
    rw [Nat.pow_succ, binom a n, bsum_next, e]
    grind
theorem ch_mul : ∀ (n k : Nat), (k + 1) * ch (n + 1) (k + 1) = (n + 1) * ch n k
  | 0, 0 => by simp [ch]
  | 0, k + 1 => by simp [ch]
  | n + 1, 0 => by
    have h := ch_mul n 0
    simp only [ch] at *
    omega
  | n + 1, k + 1 => by
    have h1 := ch_mul n k
    have h2 := ch_mul n (k + 1)
    rw [ch]
    have e : ch (n + 1) (k + 1) = ch n k + ch n (k + 1) := by rw [ch]
    grind
theorem ch_prime {p : Nat} (hp : Pr p) (k : Nat) (h0 : 0 < k) (hk : k < p) : p ∣ ch p k := by
  obtain ⟨j, rfl⟩ : ∃ j, k = j + 1 := ⟨k - 1, by omega⟩
  obtain ⟨n, rfl⟩ : ∃ n, p = n + 1 := ⟨p - 1, by omega⟩
  have h := ch_mul n j
  rcases hp.euclid (x := j + 1) (y := ch (n + 1) (j + 1)) (h ▸ Nat.dvd_mul_right _ _) with h1 | h1
  · exact absurd (Nat.le_of_dvd (by omega) h1) (by omega)
  · exact h1
theorem bsum_prime {p : Nat} (hp : Pr p) (a : Nat) : ∀ m, m < p → bsum a p (m + 1) % p = 1 % p
  | 0, _ => by simp [bsum, ch]
  | m + 1, h => by
    rw [bsum, Nat.add_mod, bsum_prime hp a m (by omega)]
    have h1 : ch p (m + 1) * a ^ (m + 1) % p = 0 := Nat.mod_eq_zero_of_dvd (Nat.dvd_trans (ch_prime hp (m + 1) (by omega) h) (Nat.dvd_mul_right _ _))
    rw [h1, Nat.add_zero, Nat.mod_mod]
/-- Fermat's little theorem. -/
theorem fermat {p : Nat} (hp : Pr p) : ∀ a, a ^ p % p = a % p
  | 0 => by rw [Nat.zero_pow (by have := hp.1; omega)]
  | a + 1 => by
    have h2 := hp.1
    obtain ⟨n, rfl⟩ : ∃ n, p = n + 1 := ⟨p - 1, by omega⟩
    have hc : ch (n + 1) (n + 1) % (n + 1) = 1 % (n + 1) ∨ True := .inr trivial
    have hone : ∀ n, ch n n = 1 := by
      intro n
      induction n with
      | zero => rfl
      | succ n ih => rw [ch, ih, ch_big n (n + 1) (by omega)]
    rw [binom, bsum, Nat.add_mod, bsum_prime hp a n (by omega), hone, Nat.one_mul, fermat hp a, ← Nat.add_mod, Nat.add_comm]
theorem fermat_one {p : Nat} (hp : Pr p) {a : Nat} (h : ¬ p ∣ a) : a ^ (p - 1) % p = 1 := by
  have h2 := hp.1
  have h1 := fermat hp a
  have h3 : p ∣ a * (a ^ (p - 1) - 1) := by
    have e : a * (a ^ (p - 1) - 1) = a ^ p - a := by
      rw [Nat.mul_sub, Nat.mul_one, Nat.mul_comm, ← Nat.pow_succ, Nat.succ_eq_add_one, show p - 1 + 1 = p by omega]
    rw [e]
    exact Nat.dvd_of_mod_eq_zero (Nat.sub_mod_eq_zero_of_mod_eq h1)
  rcases hp.euclid h3 with h4 | h4
  · exact absurd h4 h
  · have hpos : 0 < a ^ (p - 1) := Nat.pow_pos (Nat.pos_of_ne_zero (by rintro rfl; exact h (Nat.dvd_zero p)))
    obtain ⟨c, hc⟩ := h4
    have e : a ^ (p - 1) = 1 + p * c := by omega
    rw [e, Nat.add_mul_mod_self_left, Nat.mod_eq_of_lt (by omega)]
/-- A power that is 1 by two exponents is 1 by their greatest common divisor. -/
theorem pow_gcd (g p : Nat) : ∀ (m n : Nat), g ^ m % p = 1 % p → g ^ n % p = 1 % p → g ^ Nat.gcd m n % p = 1 % p := by
  intro m n
  induction m, n using Nat.gcd.induction with
  | H0 n => intro _ h; rwa [Nat.gcd_zero_left]
  | H1 m n hm ih =>
    intro h1 h2
    rw [Nat.gcd_rec]
    refine ih ?_ h1
    have e : g ^ n % p = (g ^ m) ^ (n / m) * g ^ (n % m) % p := by rw [← Nat.pow_mul, ← Nat.pow_add, Nat.div_add_mod]
    rw [e, Nat.mul_mod, Nat.pow_mod, h1, ← Nat.pow_mod, Nat.one_pow, ← Nat.mul_mod, Nat.one_mul] at h2
    exact h2
/-- Pocklington's test, for each prime factor. -/
theorem pock {N q a : Nat} (hN : 2 ≤ N) (hq : Pr q) (hd : q ∣ N - 1) (h1 : a ^ (N - 1) % N = 1) (h2 : Nat.gcd (a ^ ((N - 1) / q) % N + (N - 1)) N = 1) (p : Nat) (hp : Pr p) (hpN : p ∣ N) : q ∣ p - 1 := by
  have hp2 := hp.1
  have hm : ∀ x, x % N % p = x % p := fun x => Nat.mod_mod_of_dvd x hpN
  have h1p : a ^ (N - 1) % p = 1 % p := by rw [← hm, h1]
  have hna : ¬ p ∣ a := by
    intro h
    have h3 : a ^ (N - 1) % p = 0 := Nat.mod_eq_zero_of_dvd (Nat.dvd_trans h (Nat.dvd_trans ⟨1, by rw [Nat.pow_one, Nat.mul_one]⟩ (Nat.pow_dvd_pow a (show 1 ≤ N - 1 by omega))))
    rw [h3, Nat.mod_eq_of_lt (by omega)] at h1p
    omega
  obtain ⟨g, hg⟩ : ∃ g, g = a ^ ((N - 1) / q) := ⟨_, rfl⟩
  have hgq : g ^ q % p = 1 % p := by rw [hg, ← Nat.pow_mul, Nat.div_mul_cancel hd]; exact h1p
  have hgp : g ^ (p - 1) % p = 1 % p := by
    have := fermat_one hp hna
    rw [hg, ← Nat.pow_mul, Nat.mul_comm, Nat.pow_mul, Nat.pow_mod, this, Nat.one_pow]
  have hgg := pow_gcd g p q (p - 1) hgq hgp
  rcases hq.2 _ (Nat.gcd_dvd_left q (p - 1)) with h3 | h3
  · rw [h3, Nat.pow_one] at hgg
    have h4 : p ∣ g % N + (N - 1) := by
      refine Nat.dvd_of_mod_eq_zero ?_
      rw [Nat.add_mod, hm, hgg, ← Nat.add_mod, show 1 + (N - 1) = N by omega]
      exact Nat.mod_eq_zero_of_dvd hpN
    have h5 : p ∣ 1 := by rw [← h2, ← hg]; exact Nat.dvd_gcd h4 hpN
    have := Nat.le_of_dvd (by decide) h5
    omega
  · rw [← h3]; exact Nat.gcd_dvd_right q (p - 1)
/-- A number all of whose primes are greater than its root is a prime. -/
theorem prime_root {N : Nat} (hN : 2 ≤ N) (h : ∀ p, Pr p → p ∣ N → N < p * p) : Pr N := by
  refine ⟨hN, fun d hd => ?_⟩
  obtain ⟨e, rfl⟩ := hd
  by_cases h1 : d = 1
  · exact .inl h1
  · refine .inr ?_
    have hd0 : d ≠ 0 := by rintro rfl; omega
    have he0 : e ≠ 0 := by rintro rfl; omega
    by_cases he1 : e = 1
    · rw [he1, Nat.mul_one]
    · exfalso
      obtain ⟨p, hp, hpd⟩ := prime_in d (by omega)
      obtain ⟨q, hq, hqe⟩ := prime_in e (by omega)
      have a1 := h p hp (Nat.dvd_trans hpd (Nat.dvd_mul_right d e))
      have a2 := h q hq (Nat.dvd_trans hqe (Nat.dvd_mul_left e d))
      have b1 := Nat.le_of_dvd (by omega) hpd
      have b2 := Nat.le_of_dvd (by omega) hqe
      have c1 : d * e < d * d := Nat.lt_of_lt_of_le a1 (Nat.mul_le_mul b1 b1)
      have c2 : d * e < e * e := Nat.lt_of_lt_of_le a2 (Nat.mul_le_mul b2 b2)
      have d1 : e < d := Nat.lt_of_mul_lt_mul_left c1
      have d2 : d < e := by rw [Nat.mul_comm] at c2; exact Nat.lt_of_mul_lt_mul_left c2
      omega
/-- No number from 2 to k divides it. -/
def tri (n : Nat) : Nat → Bool
  | 0 => true
  | 1 => true
  | k + 2 => n % (k + 2) != 0 && tri n (k + 1)
theorem tri_ok (n : Nat) : ∀ k, tri n k = true → ∀ d, 2 ≤ d → d ≤ k → ¬ d ∣ n
  | 0, _, d, h1, h2, _ => by omega
  | 1, _, d, h1, h2, _ => by omega
  | k + 2, h, d, h1, h2, hd => by
    rw [tri, Bool.and_eq_true] at h
    by_cases e : d = k + 2
    · subst e
      have := Nat.mod_eq_zero_of_dvd hd
      simp [this] at h
    · exact tri_ok n (k + 1) h.2 d h1 (by omega) hd
theorem prime_tri {N k : Nat} (hN : 2 ≤ N) (h : tri N k = true) (hk : N < (k + 1) * (k + 1)) : Pr N := by
  refine prime_root hN fun p hp hd => ?_
  have h1 : k + 1 ≤ p := by
    by_cases hpk : p ≤ k
    · exact absurd hd (tri_ok N k h p hp.1 hpk)
    · omega
  exact Nat.lt_of_lt_of_le hk (Nat.mul_le_mul h1 h1)
/-- Two primes that divide a number by one less than each factor: their product does. -/
theorem prime_pair {N q r : Nat} (hN : 2 ≤ N) (hq : Pr q) (hr : Pr r) (hne : q ≠ r) (h1 : ∀ p, Pr p → p ∣ N → q ∣ p - 1) (h2 : ∀ p, Pr p → p ∣ N → r ∣ p - 1) (hb : N ≤ (q * r) * (q * r)) : Pr N := by
  refine prime_root hN fun p hp hd => ?_
  have hc : Nat.Coprime q r := hq.coprime fun h => by
    rcases hr.2 q h with e | e
    · have := hq.1; omega
    · exact hne e
  have h3 := hc.mul_dvd_of_dvd_of_dvd (h1 p hp hd) (h2 p hp hd)
  have h4 := Nat.le_of_dvd (by have := hp.1; omega) h3
  have h5 : q * r < p := by have := hp.1; omega
  exact Nat.lt_of_le_of_lt hb (Nat.mul_lt_mul_of_le_of_lt (Nat.le_of_lt h5) h5 (by omega))
theorem prime_one {N q : Nat} (hN : 2 ≤ N) (h1 : ∀ p, Pr p → p ∣ N → q ∣ p - 1) (hb : N ≤ q * q) : Pr N := by
  refine prime_root hN fun p hp hd => ?_
  have h4 := Nat.le_of_dvd (by have := hp.1; omega) (h1 p hp hd)
  have h5 : q < p := by have := hp.1; omega
  exact Nat.lt_of_le_of_lt hb (Nat.mul_lt_mul_of_le_of_lt (Nat.le_of_lt h5) h5 (by omega))
/-- The test by squaring. -/
theorem pock_by {N q : Nat} (f : Nat) (hN : 2 ≤ N) (hf : N < 2 ^ f) (hq : Pr q) (hd : (N - 1) % q = 0) (h1 : pmod N 2 f (N - 1) = 1) (h2 : Nat.gcd (pmod N 2 f ((N - 1) / q) + (N - 1)) N = 1) (p : Nat) (hp : Pr p) (hpN : p ∣ N) : q ∣ p - 1 := by
  refine pock (a := 2) hN hq (Nat.dvd_of_mod_eq_zero hd) ?_ ?_ p hp hpN
  · rw [← pmod_ok N f 2 _ (by omega)]; exact h1
  · rw [← pmod_ok N f 2 _ (by have := Nat.div_le_self (N - 1) q; omega)]; exact h2
theorem pr127 : Pr 127 := prime_tri (k := 12) (by decide) (by decide +kernel) (by decide)
theorem pr75707 : Pr 75707 := prime_tri (k := 276) (by decide) (by decide +kernel) (by decide)
theorem pr1923133 : Pr 1923133 := prime_tri (k := 1387) (by decide) (by decide +kernel) (by decide)
theorem pr8574133 : Pr 8574133 := prime_tri (k := 2929) (by decide) (by decide +kernel) (by decide)
theorem prC : Pr 1919519569386763 :=
  prime_pair (by decide) pr127 pr8574133 (by decide) (pock_by 64 (by decide) (by decide +kernel) pr127 (by decide +kernel) (by decide +kernel) (by decide +kernel)) (pock_by 64 (by decide) (by decide +kernel) pr8574133 (by decide +kernel) (by decide +kernel) (by decide +kernel)) (by decide +kernel)
theorem prB : Pr 75445702479781427272750846543864801 :=
  prime_pair (by decide) pr75707 prC (by decide) (pock_by 128 (by decide) (by decide +kernel) pr75707 (by decide +kernel) (by decide +kernel) (by decide +kernel)) (pock_by 128 (by decide) (by decide +kernel) prC (by decide +kernel) (by decide +kernel) (by decide +kernel)) (by decide +kernel)
theorem prA : Pr 74058212732561358302231226437062788676166966415465897661863160754340907 :=
  prime_pair (by decide) pr1923133 prB (by decide) (pock_by 256 (by decide) (by decide +kernel) pr1923133 (by decide +kernel) (by decide +kernel) (by decide +kernel)) (pock_by 256 (by decide) (by decide +kernel) prB (by decide +kernel) (by decide +kernel) (by decide +kernel)) (by decide +kernel)
theorem prP : Pr 57896044618658097711785492504343953926634992332820282019728792003956564819949 :=
  prime_one (by decide) (pock_by 256 (by decide) (by decide +kernel) prA (by decide +kernel) (by decide +kernel) (by decide +kernel)) (by decide +kernel)
theorem prFP : Pr FP := prP
theorem fp_dvd (x : Nat) : FP ∣ x ↔ x % FP = 0 := ⟨Nat.mod_eq_zero_of_dvd, Nat.dvd_of_mod_eq_zero⟩
theorem inv_mul (x : Nat) (h : x % FP ≠ 0) : (x * x ^ FP2) % FP = 1 % FP := by
  have h1 := fermat_one prFP (a := x) (fun hd => h ((fp_dvd x).1 hd))
  rw [Nat.mul_comm, ← Nat.pow_succ, show FP2.succ = FP - 1 by decide +kernel, h1]
  decide
theorem inv_inv (x : Nat) (h : x % FP ≠ 0) : (x ^ FP2) ^ FP2 % FP = x % FP := by
  have h1 := fermat_one prFP (a := x) (fun hd => h ((fp_dvd x).1 hd))
  have e : FP2 * FP2 = (FP - 1) * (FP - 3) + 1 := by decide +kernel
  rw [← Nat.pow_mul, e, Nat.pow_add, Nat.pow_mul, Nat.mul_mod, Nat.pow_mod, h1, Nat.one_pow, Nat.pow_one, Nat.mod_eq_of_lt (show 1 < FP by decide), Nat.one_mul, Nat.mod_mod]
theorem inv_zero (x : Nat) (h : x % FP = 0) : x ^ FP2 % FP = 0 := by
  rw [Nat.pow_mod, h, Nat.zero_pow (by decide), Nat.zero_mod]
end Go.Proofs.YtpnodegmegpooaaDoor
