/-
  Words and contracts that other texts share, several in one text. No statement of the seat is proved here. Conditions: as each contract says.
  2^255 - 19 is a prime (Fermat's little theorem by binomials, Pocklington's test): words that the laws of this seat use. No statement is proved here. Conditions: none.
  The curve of edwards25519 over the numbers modulo 2^255 - 19: its sums never fail. No statement is proved here. Conditions: none.
  Sums and multiples of points, in plain and in four numbers. No statement is proved here. Conditions: none.
  Numbers of bytes, as lists of numbers: no statement is proved here. Conditions: none.
  Numbers below L in pieces of 64 bits: words that the contracts of scalar share. No statement is proved here. Conditions: none.
  Points as bytes, the base and its order. No statement is proved here. Conditions: none.
  The base of edwards25519 and its order L, reckoned by the kernel. No statement is proved here. Conditions: none.
  Contract of field's even. Conditions: none.
-/
import Derived.Test.YtcefdcjpddohaaaDoorPkC
import Derived.Test.YtcefdcjpddohaaaDoorPkA
import Derived.Laws.BitsAllLaws
namespace Go.Proofs.YtcefdcjpddohaaaDoor

/-- A prime. -/
def Pr (p : Nat) : Prop := 2 ≤ p ∧ ∀ d, d ∣ p → d = 1 ∨ d = p
theorem Pr.coprime {p x : Nat} (hp : Pr p) (h : ¬ p ∣ x) : Nat.Coprime p x := by
  rcases hp.2 (Nat.gcd p x) (Nat.gcd_dvd_left p x) with h1 | h1
  · exact h1
  · exact absurd (h1 ▸ Nat.gcd_dvd_right p x) h
theorem Pr.euclid {p x y : Nat} (hp : Pr p) (h : p ∣ x * y) : p ∣ x ∨ p ∣ y := by
  by_cases hx : p ∣ x
  · exact .inl hx
  · exact .inr ((hp.coprime hx).dvd_of_dvd_mul_left h)
/-- Each number from 2 on has a prime that divides it. -/
theorem prime_in : ∀ (n : Nat), 2 ≤ n → ∃ p, Pr p ∧ p ∣ n := by
  intro n
  induction n using Nat.strongRecOn with
  | _ n ih =>
    intro hn
    by_cases h : ∀ d, d ∣ n → d = 1 ∨ d = n
    · exact ⟨n, ⟨hn, h⟩, Nat.dvd_refl n⟩
    · obtain ⟨d, hd⟩ := Classical.not_forall.1 h
      obtain ⟨hd1, hd2⟩ : d ∣ n ∧ ¬ (d = 1 ∨ d = n) := by
        by_cases h1 : d ∣ n
        · exact ⟨h1, fun h2 => hd fun _ => h2⟩
        · exact absurd (fun h2 => absurd h2 h1) hd
      have hle := Nat.le_of_dvd (by omega) hd1
      have hd0 : d ≠ 0 := by rintro rfl; have := Nat.eq_zero_of_zero_dvd hd1; omega
      obtain ⟨p, hp, hpd⟩ := ih d (by omega) (by omega)
      exact ⟨p, hp, Nat.dvd_trans hpd hd1⟩
/-- Binomials. -/
def ch : Nat → Nat → Nat
  | _, 0 => 1
  | 0, _ + 1 => 0
  | n + 1, k + 1 => ch n k + ch n (k + 1)
def bsum (a n : Nat) : Nat → Nat
  | 0 => 0
  | m + 1 => bsum a n m + ch n m * a ^ m
theorem ch_big : ∀ (n k : Nat), n < k → ch n k = 0
  | 0, k + 1, _ => by rw [ch]
  | n + 1, k + 1, h => by rw [ch, ch_big n k (by omega), ch_big n (k + 1) (by omega)]
theorem bsum_next (a n : Nat) : ∀ m, bsum a (n + 1) (m + 1) = bsum a n (m + 1) + a * bsum a n m
  | 0 => by simp [bsum, ch]
  | m + 1 => by
    rw [bsum, bsum_next a n m, bsum, ch]
    rw [bsum]
    simp only [bsum, Nat.pow_succ]
    grind
theorem binom (a : Nat) : ∀ n, (a + 1) ^ n = bsum a n (n + 1)
  | 0 => by simp [bsum, ch]
  | n + 1 => by
    have e : bsum a n (n + 1 + 1) = bsum a n (n + 1) := by rw [bsum, ch_big n (n + 1) (by omega), Nat.zero_mul, Nat.add_zero]
    rw [Nat.pow_succ, binom a n, bsum_next, e]
    grind
theorem ch_mul : ∀ (n k : Nat), (k + 1) * ch (n + 1) (k + 1) = (n + 1) * ch n k
  | 0, 0 => by simp [ch]
  | 0, k + 1 => by simp [ch]
  | n + 1, 0 => by
    have h := ch_mul n 0
    simp only [ch] at *
    omega
  | n + 1, k + 1 => by
    have h1 := ch_mul n k
    have h2 := ch_mul n (k + 1)
    rw [ch]
    have e : ch (n + 1) (k + 1) = ch n k + ch n (k + 1) := by rw [ch]
    grind
theorem ch_prime {p : Nat} (hp : Pr p) (k : Nat) (h0 : 0 < k) (hk : k < p) : p ∣ ch p k := by
  obtain ⟨j, rfl⟩ : ∃ j, k = j + 1 := ⟨k - 1, by omega⟩
  obtain ⟨n, rfl⟩ : ∃ n, p = n + 1 := ⟨p - 1, by omega⟩
  have h := ch_mul n j
  rcases hp.euclid (x := j + 1) (y := ch (n + 1) (j + 1)) (h ▸ Nat.dvd_mul_right _ _) with h1 | h1
  · exact absurd (Nat.le_of_dvd (by omega) h1) (by omega)
  · exact h1
theorem bsum_prime {p : Nat} (hp : Pr p) (a : Nat) : ∀ m, m < p → bsum a p (m + 1) % p = 1 % p
  | 0, _ => by simp [bsum, ch]
  | m + 1, h => by
    rw [bsum, Nat.add_mod, bsum_prime hp a m (by omega)]
    have h1 : ch p (m + 1) * a ^ (m + 1) % p = 0 := Nat.mod_eq_zero_of_dvd (Nat.dvd_trans (ch_prime hp (m + 1) (by omega) h) (Nat.dvd_mul_right _ _))
    rw [h1, Nat.add_zero, Nat.mod_mod]
/-- Fermat's little theorem. -/
theorem fermat {p : Nat} (hp : Pr p) : ∀ a, a ^ p % p = a % p
  | 0 => by rw [Nat.zero_pow (by have := hp.1; omega)]
  | a + 1 => by
    have h2 := hp.1
    obtain ⟨n, rfl⟩ : ∃ n, p = n + 1 := ⟨p - 1, by omega⟩
    have hc : ch (n + 1) (n + 1) % (n + 1) = 1 % (n + 1) ∨ True := .inr trivial
    have hone : ∀ n, ch n n = 1 := by
      intro n
      induction n with
      | zero => rfl
      | succ n ih => rw [ch, ih, ch_big n (n + 1) (by omega)]
    rw [binom, bsum, Nat.add_mod, bsum_prime hp a n (by omega), hone, Nat.one_mul, fermat hp a, ← Nat.add_mod, Nat.add_comm]
theorem fermat_one {p : Nat} (hp : Pr p) {a : Nat} (h : ¬ p ∣ a) : a ^ (p - 1) % p = 1 := by
  have h2 := hp.1
  have h1 := fermat hp a
  have h3 : p ∣ a * (a ^ (p - 1) - 1) := by
    have e : a * (a ^ (p - 1) - 1) = a ^ p - a := by
      rw [Nat.mul_sub, Nat.mul_one, Nat.mul_comm, ← Nat.pow_succ, Nat.succ_eq_add_one, show p - 1 + 1 = p by omega]
    rw [e]
    exact Nat.dvd_of_mod_eq_zero (Nat.sub_mod_eq_zero_of_mod_eq h1)
  rcases hp.euclid h3 with h4 | h4
  · exact absurd h4 h
  · have hpos : 0 < a ^ (p - 1) := Nat.pow_pos (Nat.pos_of_ne_zero (by rintro rfl; exact h (Nat.dvd_zero p)))
    obtain ⟨c, hc⟩ := h4
    have e : a ^ (p - 1) = 1 + p * c := by omega
    rw [e, Nat.add_mul_mod_self_left, Nat.mod_eq_of_lt (by omega)]
/-- A power that is 1 by two exponents is 1 by their greatest common divisor. -/
theorem pow_gcd (g p : Nat) : ∀ (m n : Nat), g ^ m % p = 1 % p → g ^ n % p = 1 % p → g ^ Nat.gcd m n % p = 1 % p := by
  intro m n
  induction m, n using Nat.gcd.induction with
  | H0 n => intro _ h; rwa [Nat.gcd_zero_left]
  | H1 m n hm ih =>
    intro h1 h2
    rw [Nat.gcd_rec]
    refine ih ?_ h1
    have e : g ^ n % p = (g ^ m) ^ (n / m) * g ^ (n % m) % p := by rw [← Nat.pow_mul, ← Nat.pow_add, Nat.div_add_mod]
    rw [e, Nat.mul_mod, Nat.pow_mod, h1, ← Nat.pow_mod, Nat.one_pow, ← Nat.mul_mod, Nat.one_mul] at h2
    exact h2
/-- Pocklington's test, for each prime factor. -/
theorem pock {N q a : Nat} (hN : 2 ≤ N) (hq : Pr q) (hd : q ∣ N - 1) (h1 : a ^ (N - 1) % N = 1) (h2 : Nat.gcd (a ^ ((N - 1) / q) % N + (N - 1)) N = 1) (p : Nat) (hp : Pr p) (hpN : p ∣ N) : q ∣ p - 1 := by
  have hp2 := hp.1
  have hm : ∀ x, x % N % p = x % p := fun x => Nat.mod_mod_of_dvd x hpN
  have h1p : a ^ (N - 1) % p = 1 % p := by rw [← hm, h1]
  have hna : ¬ p ∣ a := by
    intro h
    have h3 : a ^ (N - 1) % p = 0 := Nat.mod_eq_zero_of_dvd (Nat.dvd_trans h (Nat.dvd_trans ⟨1, by rw [Nat.pow_one, Nat.mul_one]⟩ (Nat.pow_dvd_pow a (show 1 ≤ N - 1 by omega))))
    rw [h3, Nat.mod_eq_of_lt (by omega)] at h1p
    omega
  obtain ⟨g, hg⟩ : ∃ g, g = a ^ ((N - 1) / q) := ⟨_, rfl⟩
  have hgq : g ^ q % p = 1 % p := by rw [hg, ← Nat.pow_mul, Nat.div_mul_cancel hd]; exact h1p
  have hgp : g ^ (p - 1) % p = 1 % p := by
    have := fermat_one hp hna
    rw [hg, ← Nat.pow_mul, Nat.mul_comm, Nat.pow_mul, Nat.pow_mod, this, Nat.one_pow]
  have hgg := pow_gcd g p q (p - 1) hgq hgp
  rcases hq.2 _ (Nat.gcd_dvd_left q (p - 1)) with h3 | h3
  · rw [h3, Nat.pow_one] at hgg
    have h4 : p ∣ g % N + (N - 1) := by
      refine Nat.dvd_of_mod_eq_zero ?_
      rw [Nat.add_mod, hm, hgg, ← Nat.add_mod, show 1 + (N - 1) = N by omega]
      exact Nat.mod_eq_zero_of_dvd hpN
    have h5 : p ∣ 1 := by rw [← h2, ← hg]; exact Nat.dvd_gcd h4 hpN
    have := Nat.le_of_dvd (by decide) h5
    omega
  · rw [← h3]; exact Nat.gcd_dvd_right q (p - 1)
/-- A number all of whose primes are greater than its root is a prime. -/
theorem prime_root {N : Nat} (hN : 2 ≤ N) (h : ∀ p, Pr p → p ∣ N → N < p * p) : Pr N := by
  refine ⟨hN, fun d hd => ?_⟩
  obtain ⟨e, rfl⟩ := hd
  by_cases h1 : d = 1
  · exact .inl h1
  · refine .inr ?_
    have hd0 : d ≠ 0 := by rintro rfl; omega
    have he0 : e ≠ 0 := by rintro rfl; omega
    by_cases he1 : e = 1
    · rw [he1, Nat.mul_one]
    · exfalso
      obtain ⟨p, hp, hpd⟩ := prime_in d (by omega)
      obtain ⟨q, hq, hqe⟩ := prime_in e (by omega)
      have a1 := h p hp (Nat.dvd_trans hpd (Nat.dvd_mul_right d e))
      have a2 := h q hq (Nat.dvd_trans hqe (Nat.dvd_mul_left e d))
      have b1 := Nat.le_of_dvd (by omega) hpd
      have b2 := Nat.le_of_dvd (by omega) hqe
      have c1 : d * e < d * d := Nat.lt_of_lt_of_le a1 (Nat.mul_le_mul b1 b1)
      have c2 : d * e < e * e := Nat.lt_of_lt_of_le a2 (Nat.mul_le_mul b2 b2)
      have d1 : e < d := Nat.lt_of_mul_lt_mul_left c1
      have d2 : d < e := by rw [Nat.mul_comm] at c2; exact Nat.lt_of_mul_lt_mul_left c2
      omega
/-- No number from 2 to k divides it. -/
def tri (n : Nat) : Nat → Bool
  | 0 => true
  | 1 => true
  | k + 2 => n % (k + 2) != 0 && tri n (k + 1)
theorem tri_ok (n : Nat) : ∀ k, tri n k = true → ∀ d, 2 ≤ d → d ≤ k → ¬ d ∣ n
  | 0, _, d, h1, h2, _ => by omega
  | 1, _, d, h1, h2, _ => by omega
  | k + 2, h, d, h1, h2, hd => by
    rw [tri, Bool.and_eq_true] at h
    by_cases e : d = k + 2
    · subst e
      have := Nat.mod_eq_zero_of_dvd hd
      simp [this] at h
    · exact tri_ok n (k + 1) h.2 d h1 (by omega) hd
theorem prime_tri {N k : Nat} (hN : 2 ≤ N) (h : tri N k = true) (hk : N < (k + 1) * (k + 1)) : Pr N := by
  refine prime_root hN fun p hp hd => ?_
  have h1 : k + 1 ≤ p := by
    by_cases hpk : p ≤ k
    · exact absurd hd (tri_ok N k h p hp.1 hpk)
    · omega
  exact Nat.lt_of_lt_of_le hk (Nat.mul_le_mul h1 h1)
/-- Two primes that divide a number by one less than each factor: their product does. -/
theorem prime_pair {N q r : Nat} (hN : 2 ≤ N) (hq : Pr q) (hr : Pr r) (hne : q ≠ r) (h1 : ∀ p, Pr p → p ∣ N → q ∣ p - 1) (h2 : ∀ p, Pr p → p ∣ N → r ∣ p - 1) (hb : N ≤ (q * r) * (q * r)) : Pr N := by
  refine prime_root hN fun p hp hd => ?_
  have hc : Nat.Coprime q r := hq.coprime fun h => by
    rcases hr.2 q h with e | e
    · have := hq.1; omega
    · exact hne e
  have h3 := hc.mul_dvd_of_dvd_of_dvd (h1 p hp hd) (h2 p hp hd)
  have h4 := Nat.le_of_dvd (by have := hp.1; omega) h3
  have h5 : q * r < p := by have := hp.1; omega
  exact Nat.lt_of_le_of_lt hb (Nat.mul_lt_mul_of_le_of_lt (Nat.le_of_lt h5) h5 (by omega))
theorem prime_one {N q : Nat} (hN : 2 ≤ N) (h1 : ∀ p, Pr p → p ∣ N → q ∣ p - 1) (hb : N ≤ q * q) : Pr N := by
  refine prime_root hN fun p hp hd => ?_
  have h4 := Nat.le_of_dvd (by have := hp.1; omega) (h1 p hp hd)
  have h5 : q < p := by have := hp.1; omega
  exact Nat.lt_of_le_of_lt hb (Nat.mul_lt_mul_of_le_of_lt (Nat.le_of_lt h5) h5 (by omega))
/-- The test by squaring. -/
theorem pock_by {N q : Nat} (f : Nat) (hN : 2 ≤ N) (hf : N < 2 ^ f) (hq : Pr q) (hd : (N - 1) % q = 0) (h1 : pmod N 2 f (N - 1) = 1) (h2 : Nat.gcd (pmod N 2 f ((N - 1) / q) + (N - 1)) N = 1) (p : Nat) (hp : Pr p) (hpN : p ∣ N) : q ∣ p - 1 := by
  refine pock (a := 2) hN hq (Nat.dvd_of_mod_eq_zero hd) ?_ ?_ p hp hpN
  · rw [← pmod_ok N f 2 _ (by omega)]; exact h1
  · rw [← pmod_ok N f 2 _ (by have := Nat.div_le_self (N - 1) q; omega)]; exact h2
theorem pr127 : Pr 127 := prime_tri (k := 12) (by decide) (by decide +kernel) (by decide)
theorem pr75707 : Pr 75707 := prime_tri (k := 276) (by decide) (by decide +kernel) (by decide)
theorem pr1923133 : Pr 1923133 := prime_tri (k := 1387) (by decide) (by decide +kernel) (by decide)
theorem pr8574133 : Pr 8574133 := prime_tri (k := 2929) (by decide) (by decide +kernel) (by decide)
theorem prC : Pr 1919519569386763 :=
  prime_pair (by decide) pr127 pr8574133 (by decide) (pock_by 64 (by decide) (by decide +kernel) pr127 (by decide +kernel) (by decide +kernel) (by decide +kernel)) (pock_by 64 (by decide) (by decide +kernel) pr8574133 (by decide +kernel) (by decide +kernel) (by decide +kernel)) (by decide +kernel)
theorem prB : Pr 75445702479781427272750846543864801 :=
  prime_pair (by decide) pr75707 prC (by decide) (pock_by 128 (by decide) (by decide +kernel) pr75707 (by decide +kernel) (by decide +kernel) (by decide +kernel)) (pock_by 128 (by decide) (by decide +kernel) prC (by decide +kernel) (by decide +kernel) (by decide +kernel)) (by decide +kernel)
theorem prA : Pr 74058212732561358302231226437062788676166966415465897661863160754340907 :=
  prime_pair (by decide) pr1923133 prB (by decide) (pock_by 256 (by decide) (by decide +kernel) pr1923133 (by decide +kernel) (by decide +kernel) (by decide +kernel)) (pock_by 256 (by decide) (by decide +kernel) prB (by decide +kernel) (by decide +kernel) (by decide +kernel)) (by decide +kernel)
theorem prP : Pr 57896044618658097711785492504343953926634992332820282019728792003956564819949 :=
  prime_one (by decide) (pock_by 256 (by decide) (by decide +kernel) prA (by decide +kernel) (by decide +kernel) (by decide +kernel)) (by decide +kernel)
theorem prFP : Pr FP := prP
theorem fp_dvd (x : Nat) : FP ∣ x ↔ x % FP = 0 := ⟨Nat.mod_eq_zero_of_dvd, Nat.dvd_of_mod_eq_zero⟩
theorem inv_mul (x : Nat) (h : x % FP ≠ 0) : (x * x ^ FP2) % FP = 1 % FP := by
  have h1 := fermat_one prFP (a := x) (fun hd => h ((fp_dvd x).1 hd))
  rw [Nat.mul_comm, ← Nat.pow_succ, show FP2.succ = FP - 1 by decide +kernel, h1]
  decide
theorem inv_inv (x : Nat) (h : x % FP ≠ 0) : (x ^ FP2) ^ FP2 % FP = x % FP := by
  have h1 := fermat_one prFP (a := x) (fun hd => h ((fp_dvd x).1 hd))
  have e : FP2 * FP2 = (FP - 1) * (FP - 3) + 1 := by decide +kernel
  rw [← Nat.pow_mul, e, Nat.pow_add, Nat.pow_mul, Nat.mul_mod, Nat.pow_mod, h1, Nat.one_pow, Nat.pow_one, Nat.mod_eq_of_lt (show 1 < FP by decide), Nat.one_mul, Nat.mod_mod]
theorem inv_zero (x : Nat) (h : x % FP = 0) : x ^ FP2 % FP = 0 := by
  rw [Nat.pow_mod, h, Nat.zero_pow (by decide), Nat.zero_mod]
end Go.Proofs.YtcefdcjpddohaaaDoor
namespace Go.Proofs.YtcefdcjpddohaaaDoor

instance : NeZero FP := ⟨by decide⟩
/-- A number modulo the prime. -/
def cF (x : Nat) : Fin FP := Fin.ofNat FP x
theorem cF_val (x : Nat) : (cF x).val = x % FP := rfl
theorem cF_eq {x y : Nat} : cF x = cF y ↔ x % FP = y % FP := by
  rw [← Fin.val_inj, cF_val, cF_val]
theorem cF_self (a : Fin FP) : cF a.val = a := Fin.ext (Nat.mod_eq_of_lt a.isLt)
theorem cF_add (x y : Nat) : cF (x + y) = cF x + cF y := by
  apply Fin.ext
  rw [Fin.val_add, cF_val, cF_val, cF_val, ← Nat.add_mod]
theorem cF_mul (x y : Nat) : cF (x * y) = cF x * cF y := by
  apply Fin.ext
  rw [Fin.val_mul, cF_val, cF_val, cF_val, ← Nat.mul_mod]
theorem cF_zero : cF 0 = 0 := rfl
theorem cF_one : cF 1 = 1 := rfl
theorem cF_sub (x y : Nat) : cF (subF x y) = cF x - cF y := by
  have h : cF (subF x y) + cF y = cF x := by rw [← cF_add, cF_eq]; exact subF_add x y
  grind
theorem cF_neg (y : Nat) : cF (subF 0 y) = -cF y := by
  rw [cF_sub, cF_zero]; grind
theorem cF_nz (x : Nat) : cF x = 0 ↔ x % FP = 0 := by
  rw [← cF_zero, cF_eq, Nat.zero_mod]
/-- The number of the curve; a root of -1. -/
def dE : Nat := 37095705934669439343138083508754565189542113879843219016388785533085940283555
def iE : Nat := 19681161376707505956807079304988542015446066515923890162744021073123829784752
theorem dE_is : (dE * 121666 + 121665) % FP = 0 := by decide +kernel
theorem iE_sq : cF iE * cF iE = -1 := by
  have h : cF (iE * iE) + cF 1 = 0 := by rw [← cF_add, cF_nz]; decide +kernel
  rw [cF_mul, cF_one] at h
  grind
def HF : Nat := 28948022309329048855892746252171976963317496166410141009864396001978282409974
theorem half_pow (x : Nat) (h : x % FP ≠ 0) : (x * x) ^ HF % FP = 1 := by
  have h1 := fermat_one prFP (a := x) (fun hd => h (Nat.mod_eq_zero_of_dvd hd))
  rw [← Nat.pow_two, ← Nat.pow_mul, show 2 * HF = FP - 1 by decide]
  exact h1
theorem dE_pow : dE ^ HF % FP = FP - 1 := by
  have h := pmod_ok FP 256 dE HF (by decide)
  rw [← h]
  decide +kernel
theorem dE_nons (s t : Nat) (h : s * s % FP = dE * (t * t) % FP) : t % FP = 0 := by
  by_cases ht : t % FP = 0
  · exact ht
  · exfalso
    have hs : s % FP ≠ 0 := by
      intro hs0
      have h1 : dE * (t * t) % FP = 0 := by rw [← h, Nat.mul_mod, hs0, Nat.zero_mul, Nat.zero_mod]
      rcases prFP.euclid (Nat.dvd_of_mod_eq_zero h1) with h2 | h2
      · exact absurd (Nat.mod_eq_zero_of_dvd h2) (by decide +kernel)
      · rcases prFP.euclid h2 with h3 | h3 <;> exact ht (Nat.mod_eq_zero_of_dvd h3)
    have h1 := half_pow s hs
    have h2 := half_pow t ht
    rw [Nat.pow_mod, h, ← Nat.pow_mod, Nat.mul_pow, Nat.mul_mod, dE_pow, h2, Nat.mul_one] at h1
    exact absurd h1 (by decide +kernel)
theorem fld25519 : FldE (cF dE) (cF iE) where
  dom a b h := by
    have h1 : a.val * b.val % FP = 0 := by
      have := congrArg Fin.val h
      rwa [Fin.val_mul] at this
    have hz : ∀ c : Fin FP, FP ∣ c.val → c = 0 := fun c hc => Fin.ext (by rw [← Nat.mod_eq_of_lt c.isLt]; exact Nat.mod_eq_zero_of_dvd hc)
    exact (prFP.euclid (Nat.dvd_of_mod_eq_zero h1)).imp (hz a) (hz b)
  one h := by
    rw [← cF_one, cF_nz] at h
    exact absurd h (by decide +kernel)
  two h := by
    rw [← cF_one, ← cF_add, cF_nz] at h
    exact absurd h (by decide +kernel)
  root := iE_sq
  nons s t h := by
    rw [← cF_self s, ← cF_self t, ← cF_mul, ← cF_mul, ← cF_mul, cF_eq] at h
    rw [← cF_self t, cF_nz]
    exact dE_nons _ _ h
/-- The other way round. -/
def ivF (a : Fin FP) : Fin FP := cF (a.val ^ FP2)
theorem ivF_cF (x : Nat) : ivF (cF x) = cF (x ^ FP2) := by
  rw [ivF, cF_eq, cF_val]; exact (Nat.pow_mod _ _ _).symm
theorem ivF_mul (a : Fin FP) (h : a ≠ 0) : a * ivF a = 1 := by
  have h1 : a.val % FP ≠ 0 := by rw [Nat.mod_eq_of_lt a.isLt]; exact fun e => h (Fin.ext e)
  rw [ivF]
  conv => lhs; lhs; rw [← cF_self a]
  rw [← cF_mul, ← cF_one, cF_eq]
  exact inv_mul _ h1
end Go.Proofs.YtcefdcjpddohaaaDoor
namespace Go.Proofs.YtcefdcjpddohaaaDoor

abbrev PtE : Type := Fin FP × Fin FP
def OnP (P : PtE) : Prop := OnE (cF dE) P.1 P.2
/-- Nothing, the other side, a sum. -/
def zE : PtE := (0, 1)
def negE (P : PtE) : PtE := (-P.1, P.2)
def addE (P Q : PtE) : PtE :=
  ((P.1 * Q.2 + P.2 * Q.1) * ivF (1 + cF dE * (P.1 * Q.1 * P.2 * Q.2)), (P.2 * Q.2 + P.1 * Q.1) * ivF (1 - cF dE * (P.1 * Q.1 * P.2 * Q.2)))
theorem zE_on : OnP zE := on_zero
theorem negE_on {P : PtE} (h : OnP P) : OnP (negE P) := on_neg h
theorem back_mul {n : Nat} [NeZero n] {x A a : Fin n} (h : A * a = 1) : x * a * A = x := by
  have : x * a * A = x * (A * a) := by grind
  rw [this, h]; grind
theorem addE_sm {P Q : PtE} (hP : OnP P) (hQ : OnP Q) : SmE (cF dE) P.1 P.2 Q.1 Q.2 (addE P Q).1 (addE P Q).2 :=
  ⟨back_mul (ivF_mul _ (comp_p fld25519 hP hQ)), back_mul (ivF_mul _ (comp_m fld25519 hP hQ))⟩
theorem addE_on {P Q : PtE} (hP : OnP P) (hQ : OnP Q) : OnP (addE P Q) := sm_on fld25519 hP hQ (addE_sm hP hQ)
theorem addE_is {P Q : PtE} {x y : Fin FP} (hP : OnP P) (hQ : OnP Q) (h : SmE (cF dE) P.1 P.2 Q.1 Q.2 x y) : addE P Q = (x, y) := by
  obtain ⟨h1, h2⟩ := sm_only fld25519 hP hQ (addE_sm hP hQ) h
  exact Prod.ext h1 h2
theorem addE_comm {P Q : PtE} (hP : OnP P) (hQ : OnP Q) : addE P Q = addE Q P := addE_is hP hQ (sm_comm (addE_sm hQ hP))
theorem addE_zero {P : PtE} (hP : OnP P) : addE P zE = P := addE_is hP zE_on sm_zero
theorem zero_addE {P : PtE} (hP : OnP P) : addE zE P = P := by rw [addE_comm zE_on hP, addE_zero hP]
theorem addE_neg {P : PtE} (hP : OnP P) : addE P (negE P) = zE := addE_is hP (negE_on hP) (sm_neg hP)
theorem addE_assoc {P Q R : PtE} (hP : OnP P) (hQ : OnP Q) (hR : OnP R) : addE (addE P Q) R = addE P (addE Q R) := by
  obtain ⟨h1, h2⟩ := sm_assoc fld25519 hP hQ hR (addE_sm hP hQ) (addE_sm (addE_on hP hQ) hR) (addE_sm hQ hR) (addE_sm hP (addE_on hQ hR))
  exact Prod.ext h1 h2
/-- So many times. -/
def mulE : Nat → PtE → PtE
  | 0, _ => zE
  | k + 1, P => addE (mulE k P) P
theorem mulE_on {P : PtE} (h : OnP P) : ∀ k, OnP (mulE k P)
  | 0 => zE_on
  | k + 1 => addE_on (mulE_on h k) h
theorem mulE_one {P : PtE} (h : OnP P) : mulE 1 P = P := zero_addE h
theorem mulE_add {P : PtE} (h : OnP P) (a : Nat) : ∀ b, mulE (a + b) P = addE (mulE a P) (mulE b P)
  | 0 => (addE_zero (mulE_on h a)).symm
  | b + 1 => by
    show addE (mulE (a + b) P) P = addE (mulE a P) (addE (mulE b P) P)
    rw [mulE_add h a b, addE_assoc (mulE_on h a) (mulE_on h b) h]
theorem mulE_mul {P : PtE} (h : OnP P) (a : Nat) : ∀ b, mulE (a * b) P = mulE b (mulE a P)
  | 0 => rfl
  | b + 1 => by
    rw [Nat.mul_add, Nat.mul_one, mulE_add h, mulE_mul h a b]; rfl
theorem mulE_zE : ∀ k, mulE k zE = zE
  | 0 => rfl
  | k + 1 => by show addE (mulE k zE) zE = zE; rw [mulE_zE k, addE_zero zE_on]
theorem mulE_two {P : PtE} (h : OnP P) (a : Nat) : mulE (2 * a) P = addE (mulE a P) (mulE a P) := by
  rw [show 2 * a = a + a by omega, mulE_add h]
theorem mulE_mod {P : PtE} (h : OnP P) {L : Nat} (hL : mulE L P = zE) (n : Nat) : mulE (n % L) P = mulE n P := by
  have h1 : n = n % L + L * (n / L) := by have := Nat.div_add_mod n L; omega
  conv => rhs; rw [h1, mulE_add h, mulE_mul h, hL, mulE_zE, addE_zero (mulE_on h _)]
/-- A point in four numbers. -/
structure RepE (X Y Z T : Fin FP) (P : PtE) : Prop where
  z : Z ≠ 0
  x : X = P.1 * Z
  y : Y = P.2 * Z
  t : T = P.1 * P.2 * Z
theorem rep_zero : RepE 0 1 1 0 zE := ⟨fld25519.one, by simp only [zE]; grind, by simp only [zE]; grind, by simp only [zE]; grind⟩
theorem rep_one (P : PtE) : RepE P.1 P.2 1 (P.1 * P.2) P := ⟨fld25519.one, by grind, by grind, by grind⟩
theorem rep_diff {n : Nat} [NeZero n] (x1 y1 z1 x2 y2 z2 d m : Fin n) :
    (x1 * z1 + y1 * z1) * (x2 * z2 + y2 * z2) - (y1 * z1 - x1 * z1) * (y2 * z2 - x2 * z2) = (1 + 1) * (z1 * z2) * (x1 * y2 + y1 * x2) ∧
    (x1 * z1 + y1 * z1) * (x2 * z2 + y2 * z2) + (y1 * z1 - x1 * z1) * (y2 * z2 - x2 * z2) = (1 + 1) * (z1 * z2) * (y1 * y2 + x1 * x2) ∧
    (z1 * z2 + z1 * z2) - (x1 * y1 * z1) * (x2 * y2 * z2) * (d + d) = (1 + 1) * (z1 * z2) * (1 - d * (x1 * x2 * y1 * y2)) ∧
    (z1 * z2 + z1 * z2) + (x1 * y1 * z1) * (x2 * y2 * z2) * (d + d) = (1 + 1) * (z1 * z2) * (1 + d * (x1 * x2 * y1 * y2)) ∧ m = m := by
  refine ⟨?_, ?_, ?_, ?_, rfl⟩ <;> grind
theorem ring_x {n : Nat} [NeZero n] {K x A B : Fin n} : K * (x * A) * (K * B) = x * (K * A * (K * B)) := by grind
theorem ring_y {n : Nat} [NeZero n] {K y A B : Fin n} : K * (y * B) * (K * A) = y * (K * A * (K * B)) := by grind
theorem ring_t {n : Nat} [NeZero n] {K x y A B : Fin n} : K * (x * A) * (K * (y * B)) = x * y * (K * A * (K * B)) := by grind
theorem rep_add {X1 Y1 Z1 T1 X2 Y2 Z2 T2 : Fin FP} {P Q : PtE} (hP : OnP P) (hQ : OnP Q) (h1 : RepE X1 Y1 Z1 T1 P) (h2 : RepE X2 Y2 Z2 T2 Q) {a b c e f g h i : Fin FP}
    (ha : a = (Y1 - X1) * (Y2 - X2)) (hb : b = (X1 + Y1) * (X2 + Y2)) (hc : c = T1 * T2 * (cF dE + cF dE)) (he : e = Z1 * Z2 + Z1 * Z2) (hf : f = b - a) (hg : g = e - c) (hh : h = e + c) (hi : i = b + a) :
    RepE (f * g) (i * h) (h * g) (f * i) (addE P Q) := by
  obtain ⟨r1, r2, r3, r4, _⟩ := rep_diff P.1 P.2 Z1 Q.1 Q.2 Z2 (cF dE) 0
  have hs := addE_sm hP hQ
  have n1 := comp_p fld25519 hP hQ
  have n2 := comp_m fld25519 hP hQ
  have sx := hs.x
  have sy := hs.y
  rw [h1.x, h1.y, h2.x, h2.y] at ha hb
  rw [h1.t, h2.t] at hc
  rw [← ha, ← hb] at r1 r2
  rw [← hc, ← he] at r3 r4
  rw [← hf] at r1
  rw [← hi] at r2
  rw [← hg] at r3
  rw [← hh] at r4
  have nz := fld25519.mul_ne h1.z h2.z
  have nz2 := fld25519.mul_ne fld25519.two nz
  rw [r1, r2, r3, r4]
  generalize (1 + 1) * (Z1 * Z2) = K at *
  generalize 1 + cF dE * (P.1 * Q.1 * P.2 * Q.2) = A at *
  generalize 1 - cF dE * (P.1 * Q.1 * P.2 * Q.2) = B at *
  rw [← sx, ← sy]
  clear sx sy r1 r2 r3 r4 ha hb hc he hf hg hh hi hs
  refine ⟨fld25519.mul_ne (fld25519.mul_ne nz2 n1) (fld25519.mul_ne nz2 n2), ring_x, ring_y, ring_t⟩
theorem rep_only {X Y Z T : Fin FP} {P Q : PtE} (h : RepE X Y Z T P) (k : RepE X Y Z T Q) : P = Q :=
  Prod.ext (fld25519.cancel h.z (h.x.symm.trans k.x)) (fld25519.cancel h.z (h.y.symm.trans k.y))
theorem rep_x {X Y Z T : Fin FP} {P : PtE} (h : RepE X Y Z T P) : X * ivF Z = P.1 ∧ Y * ivF Z = P.2 := by
  have h1 := ivF_mul Z h.z
  rw [h.x, h.y]
  generalize ivF Z = v at *
  constructor
  · have e : P.1 * Z * v = P.1 * (Z * v) := by grind
    rw [e, h1]; grind
  · have e : P.2 * Z * v = P.2 * (Z * v) := by grind
    rw [e, h1]; grind
theorem rep_neg {X Y Z T : Fin FP} {P : PtE} (h : RepE X Y Z T P) : RepE (0 - X) Y Z (0 - T) (negE P) := by
  refine ⟨h.z, ?_, h.y, ?_⟩
  · rw [h.x]; simp only [negE]; grind
  · rw [h.t]; simp only [negE]; grind
end Go.Proofs.YtcefdcjpddohaaaDoor
namespace Go.Proofs.YtcefdcjpddohaaaDoor
open Go.RowKit

def lvN : List Nat → Nat
  | [] => 0
  | a :: r => a + 256 * lvN r
theorem lvN_snoc (l : List Nat) (b : Nat) : lvN (l ++ [b]) = lvN l + b * 256 ^ l.length := by
  induction l with
  | nil => simp [lvN]
  | cons a r ih =>
    simp only [List.cons_append, lvN, ih, List.length_cons, Nat.pow_succ]
    grind
theorem lvN_take (l : List Nat) (k : Nat) (h : k < l.length) : lvN (l.take (k + 1)) = lvN (l.take k) + natAt l k * 256 ^ k := by
  rw [List.take_succ_eq_append_getElem h, lvN_snoc]
  simp [natAt, h, Nat.min_eq_left (Nat.le_of_lt h)]
theorem lvN_set (l : List Nat) (k v : Nat) (h : k < l.length) : lvN (l.set k v) + natAt l k * 256 ^ k = lvN l + v * 256 ^ k := by
  induction l generalizing k with
  | nil => simp at h
  | cons a r ih =>
    cases k with
    | zero => simp [lvN, natAt]; omega
    | succ k =>
      have h1 := ih k (by simpa using h)
      simp only [List.set_cons_succ, lvN, Nat.pow_succ]
      have e : natAt (a :: r) (k + 1) = natAt r k := by simp [natAt]
      rw [e]
      generalize lvN (r.set k v) = x at *
      generalize lvN r = y at *
      generalize 256 ^ k = P at *
      grind
theorem lvN_le (B : Nat) : ∀ l : List Nat, (∀ x ∈ l, x ≤ B) → 255 * lvN l + B ≤ B * 256 ^ l.length
  | [], _ => by simp [lvN]
  | a :: r, h => by
    have h1 := lvN_le B r (fun x hx => h x (by simp [hx]))
    have h2 := h a (by simp)
    simp only [lvN, List.length_cons, Nat.pow_succ]
    rw [← Nat.mul_assoc]
    generalize lvN r = L at *
    generalize B * 256 ^ r.length = Q at *
    omega
theorem lvN_lt (l : List Nat) (h : ∀ x ∈ l, x < 256) : lvN l < 256 ^ l.length := by
  have h1 := lvN_le 255 l (fun x hx => by have := h x hx; omega)
  omega
theorem natAt_set (l : List Nat) (k j v : Nat) (h : k < l.length) : natAt (l.set k v) j = if j = k then v else natAt l j := by
  simp only [natAt, List.getD_eq_getElem?_getD, List.getElem?_set]
  by_cases hj : k = j
  · subst hj; simp [h]
  · simp [hj, Ne.symm hj]
theorem lvN_nat (l : List Nat) (b : Nat) : lvN l = lvN (l.take b) + 256 ^ (min b l.length) * lvN (l.drop b) := by
  induction l generalizing b with
  | nil => simp [lvN]
  | cons a r ih =>
    cases b with
    | zero => simp [lvN]
    | succ b =>
      have := ih b
      simp only [List.take_succ_cons, List.drop_succ_cons, lvN, List.length_cons, Nat.add_min_add_right, Nat.pow_succ]
      grind
theorem take_set_lt (X : List Nat) (k v : Nat) : (X.set k v).take k = X.take k := by
  rw [List.take_set, List.set_eq_of_length_le (by simp; omega)]
/-- A byte as a number. -/
def nb (l : List UInt8) (k : Nat) : Nat := (l.getD k 0).toNat
theorem nb_lt (l : List UInt8) (k : Nat) : nb l k < 256 := (l.getD k 0).toNat_lt
theorem nb_at {l : List UInt8} {k : Nat} (h : k < l.length) : l[k]? = some (UInt8.ofNat (nb l k)) := by
  rw [List.getElem?_eq_getElem h, nb, List.getD_eq_getElem?_getD, List.getElem?_eq_getElem h]; simp
end Go.Proofs.YtcefdcjpddohaaaDoor
namespace Go.Proofs.YtcefdcjpddohaaaDoor
open Go.RowKit

/-- L; a number in pieces of 64 bits. -/
def FL : Nat := 7237005577332262213973186563042994240857116359379907606001950938285454250989
theorem fl_eq : FL = 7237005577332262213973186563042994240857116359379907606001950938285454250989 := rfl
def nB : List Nat → Nat
  | [] => 0
  | a :: r => a + 18446744073709551616 * nB r
theorem nB_snoc (l : List Nat) (b : Nat) : nB (l ++ [b]) = nB l + b * 18446744073709551616 ^ l.length := by
  induction l with
  | nil => simp [nB]
  | cons a r ih =>
    simp only [List.cons_append, nB, ih, List.length_cons, Nat.pow_succ]
    generalize 18446744073709551616 ^ r.length = P
    grind
theorem nB_take (l : List Nat) (k : Nat) (h : k < l.length) : nB (l.take (k + 1)) = nB (l.take k) + natAt l k * 18446744073709551616 ^ k := by
  rw [List.take_succ_eq_append_getElem h, nB_snoc]
  simp [natAt, h, Nat.min_eq_left (Nat.le_of_lt h)]
theorem nB_set (l : List Nat) (k v : Nat) (h : k < l.length) : nB (l.set k v) + natAt l k * 18446744073709551616 ^ k = nB l + v * 18446744073709551616 ^ k := by
  induction l generalizing k with
  | nil => simp at h
  | cons a r ih =>
    cases k with
    | zero => simp [nB, natAt]; omega
    | succ k =>
      have h1 := ih k (by simpa using h)
      simp only [List.set_cons_succ, nB, Nat.pow_succ]
      have e : natAt (a :: r) (k + 1) = natAt r k := by simp [natAt]
      rw [e]
      generalize nB (r.set k v) = x at *
      generalize nB r = y at *
      generalize 18446744073709551616 ^ k = P at *
      grind
theorem nB_drop (l : List Nat) (k : Nat) (h : k < l.length) : nB (l.drop k) = natAt l k + 18446744073709551616 * nB (l.drop (k + 1)) := by
  rw [List.drop_eq_getElem_cons h, nB]
  simp [natAt, h]
theorem nB_four (a b c d : Nat) : nB [a, b, c, d] = n4 a b c d := by
  simp only [nB, n4]; omega
theorem natB_mem {l : List Nat} (h : ∀ x ∈ l, x < B64) (k : Nat) : natAt l k < B64 := by
  by_cases hk : k < l.length
  · have : natAt l k ∈ l := by simp [natAt, hk]
    exact h _ this
  · simp [natAt, List.getElem?_eq_none (Nat.le_of_not_lt hk)]
theorem setB_mem {l : List Nat} (h : ∀ x ∈ l, x < B64) (k v : Nat) (hv : v < B64) : ∀ x ∈ l.set k v, x < B64 := by
  intro x hx
  rcases List.mem_or_eq_of_mem_set hx with hx | rfl
  · exact h x hx
  · exact hv
/-- What a row of products keeps. -/
structure Trow (v : Nat) (Y X0 X : List Nat) (i k c : Nat) : Prop where
  len : X.length = 8
  bound : ∀ x ∈ X, x < B64
  high : ∀ j, i + 4 ≤ j → natAt X j = 0
  val : nB X + c * 18446744073709551616 ^ (i + k) = nB X0 + v * 18446744073709551616 ^ i * nB (Y.take k)
  lt : c < B64
theorem Trow.step {v : Nat} {Y X0 X : List Nat} {i k c : Nat} (h : Trow v Y X0 X i k c) (hY : Y.length = 4) (hi : i < 4) (hk : k < 4) (low high : Nat) (e : low + 18446744073709551616 * high = v * natAt Y k + natAt X (i + k) + c) (hl : low < B64) (hh : high < B64) :
    Trow v Y X0 (X.set (i + k) low) i (k + 1) high := by
  refine ⟨by rw [List.length_set]; exact h.len, setB_mem h.bound _ _ hl, fun j hj => ?_, ?_, hh⟩
  · rw [natAt_set _ _ _ _ (by rw [h.len]; omega), if_neg (by omega)]; exact h.high j hj
  · have h1 := nB_set X (i + k) low (by rw [h.len]; omega)
    have h2 := h.val
    rw [nB_take Y k (by omega)]
    rw [show i + (k + 1) = i + k + 1 by omega, Nat.pow_succ]
    rw [Nat.pow_add] at *
    generalize nB (X.set (i + k) low) = s at *
    generalize nB X = x at *
    generalize nB X0 = x0 at *
    generalize nB (Y.take k) = y at *
    generalize natAt X (i + k) = a at *
    generalize natAt Y k = b at *
    generalize 18446744073709551616 ^ i = P at *
    generalize 18446744073709551616 ^ k = Q at *
    have e2 : (low + 18446744073709551616 * high) * (P * Q) = (v * b + a + c) * (P * Q) := by rw [e]
    grind
structure Tout (A Y Z X : List Nat) (i : Nat) : Prop where
  len : X.length = 8
  bound : ∀ x ∈ X, x < B64
  high : ∀ j, i + 4 ≤ j → natAt X j = 0
  val : nB X = nB Z + nB (A.take i) * nB Y
theorem Tout.row {A Y Z X : List Nat} {i : Nat} (h : Tout A Y Z X i) : Trow (natAt A i) Y X X i 0 0 :=
  ⟨h.len, h.bound, h.high, by simp [nB], by decide⟩
theorem Tout.next {A Y Z X0 X : List Nat} {i c : Nat} (hA : A.length = 4) (hY : Y.length = 4) (hi : i < 4) (h : Tout A Y Z X0 i) (hr : Trow (natAt A i) Y X0 X i 4 c) : Tout A Y Z (X.set (i + 4) c) (i + 1) := by
  refine ⟨by rw [List.length_set]; exact hr.len, setB_mem hr.bound _ _ hr.lt, fun j hj => ?_, ?_⟩
  · rw [natAt_set _ _ _ _ (by rw [hr.len]; omega), if_neg (by omega)]; exact hr.high j (by omega)
  · have h1 := nB_set X (i + 4) c (by rw [hr.len]; omega)
    have h2 := hr.val
    have h3 := h.val
    have h4 := hr.high (i + 4) (Nat.le_refl _)
    rw [h4, Nat.zero_mul, Nat.add_zero] at h1
    rw [List.take_of_length_le (by omega)] at h2
    rw [nB_take A i (by omega), h1, h2, h3]
    grind
theorem Tout.first {A Y : List Nat} (a b c d : Nat) (ha : a < B64) (hb : b < B64) (hc : c < B64) (hd : d < B64) : Tout A Y [a, b, c, d] [a, b, c, d, 0, 0, 0, 0] 0 := by
  refine ⟨rfl, ?_, fun j hj => ?_, ?_⟩
  · intro x hx
    simp only [List.mem_cons, List.not_mem_nil, or_false] at hx
    simp only [B64] at *
    omega
  · match j, hj with
    | 4, _ => rfl
    | 5, _ => rfl
    | 6, _ => rfl
    | 7, _ => rfl
    | j + 8, _ => simp [natAt]
  · simp [nB]
/-- L, so often taken off. -/
structure Nless (q : Nat) (O X0 X : List Nat) (k c : Nat) : Prop where
  len : X.length = 4
  bound : ∀ x ∈ X, x < B64
  val : nB X + q * nB (O.take k) = nB X0 + c * 18446744073709551616 ^ k
  lt : c < B64
theorem Nless.step {q : Nat} {O X0 X : List Nat} {k c : Nat} (h : Nless q O X0 X k c) (hO : O.length = 4) (hk : k < 4) (low high : Nat) (e : low + 18446744073709551616 * high = q * natAt O k + (18446744073709551615 - natAt X k) + c) (hl : low < B64) (hh : high < B64) :
    Nless q O X0 (X.set k (18446744073709551615 - low)) (k + 1) high := by
  refine ⟨by rw [List.length_set]; exact h.len, setB_mem h.bound _ _ (by simp only [B64]; omega), ?_, hh⟩
  have hx := natB_mem h.bound k
  have h1 := nB_set X k (18446744073709551615 - low) (by rw [h.len]; omega)
  have h2 := h.val
  rw [nB_take O k (by omega), Nat.pow_succ]
  generalize nB (X.set k (18446744073709551615 - low)) = s at *
  generalize nB X = x at *
  generalize nB X0 = x0 at *
  generalize nB (O.take k) = y at *
  generalize natAt X k = a at *
  generalize natAt O k = b at *
  generalize 18446744073709551616 ^ k = P at *
  obtain ⟨u, hu⟩ : ∃ u, u = 18446744073709551615 - low := ⟨_, rfl⟩
  obtain ⟨t, ht⟩ : ∃ t, t = 18446744073709551615 - a := ⟨_, rfl⟩
  rw [← hu] at h1
  rw [← ht] at e
  have e3 : low = 18446744073709551615 - u := by simp only [B64] at *; omega
  have e1 : u + low = 18446744073709551615 := by simp only [B64] at *; omega
  have e4 : t + a = 18446744073709551615 := by simp only [B64] at *; omega
  have e2 : (low + 18446744073709551616 * high) * P = (q * b + t + c) * P := by rw [e]
  have e5 : (u + low) * P = (t + a) * P := by rw [e1, e4]
  clear e3 hu ht e
  grind
theorem Nless.first {q : Nat} {O X : List Nat} (hl : X.length = 4) (hb : ∀ x ∈ X, x < B64) : Nless q O X X 0 0 := ⟨hl, hb, by simp [nB], by decide⟩
/-- L, so often put on. -/
structure Nmore (u : Nat) (O X0 X : List Nat) (k c : Nat) : Prop where
  len : X.length = 4
  bound : ∀ x ∈ X, x < B64
  val : nB X + c * 18446744073709551616 ^ k = nB X0 + u * nB (O.take k)
  lt : c ≤ 1
theorem Nmore.step {u : Nat} {O X0 X : List Nat} {k c : Nat} (h : Nmore u O X0 X k c) (hO : O.length = 4) (hk : k < 4) (low high : Nat) (e : natAt X k + u * natAt O k + c = low + 18446744073709551616 * high) (hl : low < B64) (hh : high ≤ 1) :
    Nmore u O X0 (X.set k low) (k + 1) high := by
  refine ⟨by rw [List.length_set]; exact h.len, setB_mem h.bound _ _ hl, ?_, hh⟩
  have h1 := nB_set X k low (by rw [h.len]; omega)
  have h2 := h.val
  rw [nB_take O k (by omega), Nat.pow_succ]
  generalize nB (X.set k low) = s at *
  generalize nB X = x at *
  generalize nB X0 = x0 at *
  generalize nB (O.take k) = y at *
  generalize natAt X k = a at *
  generalize natAt O k = b at *
  generalize 18446744073709551616 ^ k = P at *
  have e2 : (a + u * b + c) * P = (low + 18446744073709551616 * high) * P := by rw [e]
  grind
theorem Nmore.first {u : Nat} {O X : List Nat} (hl : X.length = 4) (hb : ∀ x ∈ X, x < B64) : Nmore u O X X 0 0 := ⟨hl, hb, by simp [nB], by decide⟩
/-- L's pieces. -/
def oL : List Nat := [6346243789798364141, 1503914060200516822, 0, 1152921504606846976]
theorem nB_oL : nB oL = FL := by decide +kernel
theorem fl_mod' {x r q : Nat} (h : x = r + FL * q) (hr : r < FL) : r = x % FL := by rw [h, Nat.add_mul_mod_self_left, Nat.mod_eq_of_lt hr]
theorem next_all (x0 x1 x2 x3 low : Nat) : low + 18446744073709551616 * n4 x0 x1 x2 x3 = n4 low x0 x1 x2 + 115792089237316195423570985008687907853269984665640564039457584007913129639936 * x3 := by
  simp only [n4]; omega
theorem next_num (x0 x1 x2 x3 low q y0 y1 y2 y3 c r c2 : Nat) (h0 : x0 < B64) (h1 : x1 < B64) (h2 : x2 < B64) (hlow : low < B64) (hy0 : y0 < B64) (hy1 : y1 < B64) (hy2 : y2 < B64) (hy3 : y3 < B64)
    (hN : n4 x0 x1 x2 x3 < FL) (hq : (x3 < 1152921504606846976 ∧ q = 16 * x3 + x2 / 1152921504606846976) ∨ (x3 = 1152921504606846976 ∧ q = 18446744073709551615))
    (hY : n4 y0 y1 y2 y3 + q * FL = n4 low x0 x1 x2 + c * 115792089237316195423570985008687907853269984665640564039457584007913129639936)
    (hR : r + c2 * 115792089237316195423570985008687907853269984665640564039457584007913129639936 = n4 y0 y1 y2 y3 + y3 / 9223372036854775808 * FL) (hr : r < 115792089237316195423570985008687907853269984665640564039457584007913129639936) :
    r = (low + 18446744073709551616 * n4 x0 x1 x2 x3) % FL := by
  obtain ⟨u, hu⟩ : ∃ u, u = y3 / 9223372036854775808 := ⟨_, rfl⟩
  rw [← hu] at hR
  rw [next_all]
  have hY0 := hY
  rw [fl_eq] at hN hY hR
  simp only [n4] at hN hY
  have hR0 := hR
  simp only [n4] at hR
  simp only [B64] at *
  rcases hq with ⟨hx3, hq⟩ | ⟨hx3, hq⟩
  · obtain ⟨t, ht⟩ : ∃ t, t = x2 / 1152921504606846976 := ⟨_, rfl⟩
    obtain ⟨s, hs⟩ : ∃ s, s = x2 % 1152921504606846976 := ⟨_, rfl⟩
    rw [← ht] at hq
    have e2 : x2 = 1152921504606846976 * t + s := by omega
    have ls : s < 1152921504606846976 := by omega
    have lt : t < 16 := by omega
    clear ht hs
    subst e2 hq
    have hc : c = x3 ∨ c = x3 + 1 := by omega
    rcases hc with rfl | rfl
    · have u0 : u = 0 := by omega
      have c0 : c2 = 0 := by omega
      refine fl_mod' (q := 16 * c + t) ?_ ?_
      · subst u0 c0
        rw [fl_eq] at *
        generalize n4 y0 y1 y2 y3 = Y at *
        generalize n4 low c x1 _ = X at *
        omega
      · rw [fl_eq]; omega
    · have u1 : u = 1 := by omega
      have c1 : c2 = 1 := by omega
      refine fl_mod' (q := 16 * x3 + t - 1) ?_ ?_
      · subst u1 c1
        rw [fl_eq] at *
        omega
      · rw [fl_eq]; omega
  · have hc : c = x3 := by omega
    have u0 : u = 0 := by omega
    have c0 : c2 = 0 := by omega
    refine fl_mod' (q := q) ?_ ?_
    · subst u0 c0
      rw [fl_eq] at *
      clear hY hR hN hq hx3
      generalize n4 y0 y1 y2 y3 = Y at *
      generalize n4 low x0 x1 x2 = X at *
      omega
    · rw [fl_eq]; omega
theorem below_step (low M : Nat) : (low + 18446744073709551616 * (M % FL)) % FL = (low + 18446744073709551616 * M) % FL := by
  rw [Nat.add_mod, Nat.mul_mod, Nat.mod_mod, ← Nat.mul_mod, ← Nat.add_mod]
/-- The pieces of bytes, eight to a piece. -/
def pcs (b : List UInt8) : Nat → List Nat
  | 0 => []
  | k + 1 => pcs b k ++ [ln ((b.drop (8 * k)).take 8)]
theorem pcs_len (b : List UInt8) (k : Nat) : (pcs b k).length = k := by induction k with | zero => rfl | succ k ih => simp [pcs, ih]
theorem nB_pcs (b : List UInt8) : ∀ k, 8 * k ≤ b.length → nB (pcs b k) = ln (b.take (8 * k))
  | 0, _ => by simp [pcs, nB, ln]
  | k + 1, h => by
    have h1 := ln_split (b.take (8 * (k + 1))) (8 * k) (by simp; omega)
    rw [List.take_take, Nat.min_eq_left (by omega), List.drop_take, show 8 * (k + 1) - 8 * k = 8 by omega] at h1
    rw [pcs, nB_snoc, pcs_len, nB_pcs b k (by omega), ← h1, Nat.pow_mul, show (256 : Nat) ^ 8 = 18446744073709551616 by decide, Nat.mul_comm (18446744073709551616 ^ k)]
theorem pcs_lt (b : List UInt8) : ∀ k, 8 * k ≤ b.length → ∀ x ∈ pcs b k, x < B64
  | 0, _ => by simp [pcs]
  | k + 1, h => by
    intro x hx
    rcases List.mem_append.1 hx with hx | hx
    · exact pcs_lt b k (by omega) x hx
    · rw [List.mem_singleton.1 hx]; exact ln_lt 8 _ (by simp; omega)
theorem natAt_div {l : List Nat} (h : ∀ x ∈ l, x < B64) : ∀ k, natAt l k = nB l / 18446744073709551616 ^ k % 18446744073709551616 := by
  induction l with
  | nil => intro k; simp [natAt, nB]
  | cons a r ih =>
    have ha := h a (by simp)
    intro k
    cases k with
    | zero => simp only [natAt, nB, Nat.pow_zero, Nat.div_one, List.getD_cons_zero]; simp only [B64] at ha; omega
    | succ k =>
      have e := ih (fun x hx => h x (by simp [hx])) k
      have e2 : natAt (a :: r) (k + 1) = natAt r k := by simp [natAt]
      rw [e2, e, nB, Nat.pow_succ, Nat.mul_comm (_ ^ k), ← Nat.div_div_eq_div_mul, Nat.add_mul_div_left _ _ (by decide), Nat.div_eq_of_lt ha, Nat.zero_add]
theorem byte_piece {l : List Nat} (h : ∀ x ∈ l, x < B64) (k : Nat) : UInt8.ofNat (natAt l (k / 8) / 2 ^ (k % 8 * 8)) = UInt8.ofNat (nB l / 2 ^ (8 * k)) := by
  have e1 : 18446744073709551616 ^ (k / 8) = 2 ^ (64 * (k / 8)) := by rw [Nat.pow_mul]
  have e2 : (18446744073709551616 : Nat) = 2 ^ (k % 8 * 8) * (256 * 2 ^ (64 - 8 - k % 8 * 8)) := by
    rw [show (256 : Nat) = 2 ^ 8 by decide, ← Nat.pow_add, ← Nat.pow_add, show k % 8 * 8 + (8 + (64 - 8 - k % 8 * 8)) = 64 by omega]
  apply UInt8.toNat_inj.1
  rw [UInt8.toNat_ofNat', UInt8.toNat_ofNat', natAt_div h, e1]
  have e3 : 8 * k = 64 * (k / 8) + k % 8 * 8 := by omega
  rw [e3, Nat.pow_add, ← Nat.div_div_eq_div_mul]
  generalize nB l / 2 ^ (64 * (k / 8)) = v
  rw [show v % 18446744073709551616 / 2 ^ (k % 8 * 8) = v / 2 ^ (k % 8 * 8) % (256 * 2 ^ (64 - 8 - k % 8 * 8)) by rw [e2, Nat.mod_mul_right_div_self]]
  rw [show (2 : Nat) ^ 8 = 256 by decide, Nat.mod_mul_right_mod]
/-- The word of a number modulo L. -/
def wl (N : Nat) : List UInt8 := le (N % FL) 32
theorem wl_len (N : Nat) : (wl N).length = 32 := le_len _ _
theorem fl_pos : 0 < FL := by decide
theorem ln_wl (N : Nat) : ln (wl N) = N % FL := by
  rw [wl, ln_le, Nat.mod_eq_of_lt (Nat.lt_trans (Nat.mod_lt _ fl_pos) (by decide))]
theorem wl_of {N M : Nat} (h : N % FL = M % FL) : wl N = wl M := by rw [wl, wl, h]
theorem wl_ln (l : List UInt8) (h : l.length = 32) (h2 : ln l < FL) : wl (ln l) = l := ln_inj _ _ (by rw [wl_len, h]) (by rw [ln_wl, Nat.mod_eq_of_lt h2])
theorem wl_inj {N M : Nat} (h : wl N = wl M) : N % FL = M % FL := by rw [← ln_wl, ← ln_wl, h]
theorem wl_iff (l : List UInt8) (h : l.length = 32) : wl (ln l) = l ↔ ln l < FL :=
  ⟨fun e => by have := congrArg ln e; rw [ln_wl] at this; rw [← this]; exact Nat.mod_lt _ fl_pos, wl_ln l h⟩
end Go.Proofs.YtcefdcjpddohaaaDoor
namespace Go.Proofs.YtcefdcjpddohaaaDoor

theorem dy_ne (y : Fin FP) : 1 + cF dE * (y * y) ≠ 0 := by
  intro h
  have h1 : cF iE * cF iE = cF dE * (y * y) := by rw [iE_sq]; grind
  have h2 := fld25519.nons _ _ h1
  rw [h2] at h1
  have h3 : cF iE * cF iE = 0 := by rw [h1]; grind
  rcases fld25519.dom _ _ h3 with h4 | h4 <;> (rw [h4] at h1; have h5 := iE_sq; rw [h4] at h5; exact fld25519.one (by grind))
/-- What x squared is, of a point's y. -/
def uE (y : Fin FP) : Fin FP := (y * y - 1) * ivF (cF dE * (y * y) + 1)
theorem on_u (x y : Fin FP) : OnE (cF dE) x y ↔ x * x = uE y := by
  have h := ivF_mul (cF dE * (y * y) + 1) (by rw [show cF dE * (y * y) + 1 = 1 + cF dE * (y * y) by grind]; exact dy_ne y)
  have hn := dy_ne y
  simp only [uE, OnE]
  generalize ivF (cF dE * (y * y) + 1) = v at *
  generalize hw : cF dE * (y * y) = w at *
  constructor
  · intro k
    have k1 : x * x * (w + 1) = y * y - 1 := by rw [← hw]; grind
    have k2 : x * x = x * x * (w + 1) * v := by
      have : x * x * (w + 1) * v = x * x * ((w + 1) * v) := by grind
      rw [this, h]; grind
    rw [k2, k1]
  · intro k
    have k1 : x * x * (w + 1) = y * y - 1 := by
      have : x * x * (w + 1) = (y * y - 1) * ((w + 1) * v) := by rw [k]; grind
      rw [this, h]; grind
    have k3 : cF dE * (x * x * (y * y)) = x * x * w := by rw [← hw]; grind
    rw [k3]
    grind
/-- A point's bytes. -/
def encE (P : PtE) : List UInt8 := le (P.2.val + 57896044618658097711785492504343953926634992332820282019728792003956564819968 * (P.1.val % 2)) 32
theorem encE_len (P : PtE) : (encE P).length = 32 := le_len _ _
theorem y_lt (y : Fin FP) : y.val < 57896044618658097711785492504343953926634992332820282019728792003956564819968 := Nat.lt_trans y.isLt (by decide)
theorem ln_encE (P : PtE) : ln (encE P) = P.2.val + 57896044618658097711785492504343953926634992332820282019728792003956564819968 * (P.1.val % 2) := by
  have h := y_lt P.2
  have h2 : P.1.val % 2 < 2 := Nat.mod_lt _ (by decide)
  rw [encE, ln_le, Nat.mod_eq_of_lt]
  rw [show (256 : Nat) ^ 32 = 115792089237316195423570985008687907853269984665640564039457584007913129639936 by decide]
  omega
theorem two_roots {a b : Fin FP} (h : a * a = b * b) : a = b ∨ a = -b := by
  have h1 : (a - b) * (a + b) = 0 := by grind
  rcases fld25519.dom _ _ h1 with h2 | h2
  · left; grind
  · right; grind
theorem neg_val (b : Fin FP) (h : b ≠ 0) : (-b).val = FP - b.val := by
  have h1 := b.isLt
  have h2 : b.val ≠ 0 := fun e => h (Fin.ext e)
  have h3 : cF (FP - b.val) = -b := by
    have h4 : cF (FP - b.val) + cF b.val = 0 := by rw [← cF_add, cF_nz, show FP - b.val + b.val = FP by omega, Nat.mod_self]
    rw [cF_self] at h4
    grind
  rw [← h3, cF_val, Nat.mod_eq_of_lt (by omega)]
theorem neg_odd (b : Fin FP) (h : b ≠ 0) : (-b).val % 2 ≠ b.val % 2 := by
  have h1 := b.isLt
  have h2 : FP % 2 = 1 := by decide
  rw [neg_val b h]
  omega
theorem encE_inj {P Q : PtE} (hP : OnP P) (hQ : OnP Q) (h : encE P = encE Q) : P = Q := by
  have h1 := congrArg ln h
  rw [ln_encE, ln_encE] at h1
  have a1 := y_lt P.2
  have a2 := y_lt Q.2
  have hy : P.2 = Q.2 := Fin.ext (by omega)
  have hs : P.1.val % 2 = Q.1.val % 2 := by omega
  have u1 := (on_u _ _).1 hP
  have u2 := (on_u _ _).1 hQ
  rw [hy, ← u2] at u1
  refine Prod.ext ?_ hy
  rcases two_roots u1 with h3 | h3
  · exact h3
  · by_cases h0 : Q.1 = 0
    · rw [h3, h0]; grind
    · rw [h3] at hs
      exact absurd hs (neg_odd _ h0)
/-- The point of bytes, or none. -/
def PtIs (w : List UInt8) : Option PtE → Prop
  | some P => OnP P ∧ encE P = w
  | none => ∀ P, OnP P → encE P ≠ w
theorem ptIs_only {w : List UInt8} {o p : Option PtE} (h : PtIs w o) (k : PtIs w p) : o = p := by
  match o, p, h, k with
  | some P, some Q, h, k => exact congrArg some (encE_inj h.1 k.1 (h.2.trans k.2.symm))
  | none, none, _, _ => rfl
  | some P, none, h, k => exact absurd h.2 (k P h.1)
  | none, some Q, h, k => exact absurd k.2 (h Q k.1)
theorem ptIs_enc {P : PtE} (h : OnP P) : PtIs (encE P) (some P) := ⟨h, rfl⟩
/-- What bytes tell: y and the sign. -/
def yW (w : List UInt8) : Nat := ln w % 57896044618658097711785492504343953926634992332820282019728792003956564819968
def sW (w : List UInt8) : Nat := ln w / 57896044618658097711785492504343953926634992332820282019728792003956564819968
theorem enc_is {w : List UInt8} (hw : w.length = 32) {x y : Nat} (hx : x < FP) (hy : y < FP) (h1 : yW w = y) (h2 : sW w = x % 2) : encE (cF x, cF y) = w := by
  refine ln_inj _ _ (by rw [encE_len, hw]) ?_
  have e1 : (cF y).val = y := (cF_val y).trans (Nat.mod_eq_of_lt hy)
  have e2 : (cF x).val = x := (cF_val x).trans (Nat.mod_eq_of_lt hx)
  rw [ln_encE, e1, e2]
  rw [yW] at h1
  rw [sW] at h2
  omega
theorem enc_y {w : List UInt8} {P : PtE} (h : encE P = w) : yW w = P.2.val ∧ sW w = P.1.val % 2 := by
  have h1 := congrArg ln h
  rw [ln_encE] at h1
  have a1 := y_lt P.2
  rw [yW, sW, ← h1]
  omega
theorem dec_big {w : List UInt8} (h : ¬ yW w < FP) : PtIs w none := fun P _ he => h (by rw [(enc_y he).1]; exact P.2.isLt)
theorem dec_none {w : List UInt8} (h : ∀ x : Fin FP, x * x ≠ uE (cF (yW w))) : PtIs w none := fun P hP he => by
  refine h P.1 ?_
  rw [(enc_y he).1, cF_self]
  exact (on_u _ _).1 hP
theorem dec_nought {w : List UInt8} (h : uE (cF (yW w)) = 0) (hs : sW w = 1) : PtIs w none := fun P hP he => by
  have h1 := (on_u _ _).1 hP
  rw [← cF_self P.2, ← (enc_y he).1, h] at h1
  have h0 : P.1 = 0 := by rcases fld25519.dom _ _ h1 with h2 | h2 <;> exact h2
  have h3 := (enc_y he).2
  rw [h0, hs] at h3
  exact absurd h3 (by decide)
theorem dec_some {w : List UInt8} (hw : w.length = 32) (hy : yW w < FP) {r : Nat} (hr : r < FP) (hu : cF r * cF r = uE (cF (yW w))) (hs : sW w = r % 2) : PtIs w (some (cF r, cF (yW w))) :=
  ⟨(on_u _ _).2 hu, enc_is hw hr hy rfl hs⟩
theorem dec_turn {w : List UInt8} (hw : w.length = 32) (hy : yW w < FP) {r : Nat} (hr : r < FP) (h0 : r ≠ 0) (hu : cF r * cF r = uE (cF (yW w))) (hs : sW w ≠ r % 2) : PtIs w (some (cF (FP - r), cF (yW w))) := by
  have h1 : cF (FP - r) = -cF r := by
    have h4 : cF (FP - r) + cF r = 0 := by rw [← cF_add, cF_nz, show FP - r + r = FP by omega, Nat.mod_self]
    grind
  have h2 : FP % 2 = 1 := by decide
  have h3 : sW w < 2 := by
    have := ln_lt 32 w hw
    rw [show (256 : Nat) ^ 32 = 115792089237316195423570985008687907853269984665640564039457584007913129639936 by decide] at this
    rw [sW]
    omega
  refine ⟨(on_u _ _).2 ?_, enc_is hw (by omega) hy rfl (by omega)⟩
  show cF (FP - r) * cF (FP - r) = _
  rw [h1, ← hu]; grind
theorem yw_lt (w : List UInt8) : yW w < 57896044618658097711785492504343953926634992332820282019728792003956564819968 := Nat.mod_lt _ (by decide)
/-- A point's bytes with the sign turned: its other side's, or none of x nought. -/
theorem flip_some {w v : List UInt8} {P : PtE} (h : PtIs w (some P)) (hv : v.length = 32) (h0 : P.1 ≠ 0) (hy : yW v = yW w) (hs : sW v = 1 - sW w) : PtIs v (some (negE P)) := by
  obtain ⟨e1, e2⟩ := enc_y h.2
  have h2 := neg_odd P.1 h0
  have h3 : (-P.1).val % 2 = sW v := by omega
  refine ⟨negE_on h.1, ?_⟩
  have h4 := enc_is hv (x := (-P.1).val) (y := P.2.val) (-P.1).isLt P.2.isLt (by rw [hy, e1]) h3.symm
  rwa [cF_self, cF_self] at h4
theorem flip_none {w v : List UInt8} {P : PtE} (h : PtIs w (some P)) (h0 : P.1 = 0) (hy : yW v = yW w) (hs : sW v = 1 - sW w) : PtIs v none := by
  obtain ⟨e1, e2⟩ := enc_y h.2
  have h1 := (on_u _ _).1 h.1
  refine dec_nought (w := v) ?_ ?_
  · rw [hy, e1, cF_self, ← h1, h0]; grind
  · rw [hs, e2, h0]; rfl
end Go.Proofs.YtcefdcjpddohaaaDoor
namespace Go.Proofs.YtcefdcjpddohaaaDoor

/-- A sum in four numbers. -/
def padd (P Q : Nat × Nat × Nat × Nat) : Nat × Nat × Nat × Nat :=
  let a := subF P.2.1 P.1 * subF Q.2.1 Q.1 % FP
  let b := (P.1 + P.2.1) * (Q.1 + Q.2.1) % FP
  let c := P.2.2.2 * Q.2.2.2 % FP * (dE + dE) % FP
  let e := P.2.2.1 * Q.2.2.1 % FP
  let f := subF b a
  let g := subF (e + e) c
  let h := e + e + c
  let i := b + a
  (f * g % FP, i * h % FP, h * g % FP, f * i % FP)
def RepN (P : Nat × Nat × Nat × Nat) (R : PtE) : Prop := RepE (cF P.1) (cF P.2.1) (cF P.2.2.1) (cF P.2.2.2) R
theorem cF_mod (x : Nat) : cF (x % FP) = cF x := cF_eq.2 (Nat.mod_mod _ _)
theorem padd_rep {P Q : Nat × Nat × Nat × Nat} {R S : PtE} (hR : OnP R) (hS : OnP S) (h1 : RepN P R) (h2 : RepN Q S) : RepN (padd P Q) (addE R S) := by
  have h := rep_add hR hS h1 h2 rfl rfl rfl rfl rfl rfl rfl rfl
  simp only [RepN, padd, cF_mod, cF_mul, cF_sub, cF_add] at *
  exact h
def pm (P : Nat × Nat × Nat × Nat) : Nat → Nat → Nat × Nat × Nat × Nat
  | 0, _ => (0, 1, 1, 0)
  | f + 1, n => let h := pm P f (n / 2); let d := padd h h; if n % 2 = 1 then padd d P else d
theorem pm_rep {P : Nat × Nat × Nat × Nat} {R : PtE} (hR : OnP R) (h : RepN P R) : ∀ f n, n < 2 ^ f → RepN (pm P f n) (mulE n R)
  | 0, n, hn => by
    obtain rfl : n = 0 := by simpa using hn
    exact rep_zero
  | f + 1, n, hn => by
    have ih := pm_rep hR h f (n / 2) (by rw [Nat.pow_succ] at hn; omega)
    have hd := padd_rep (mulE_on hR _) (mulE_on hR _) ih ih
    rw [← mulE_two hR] at hd
    rw [pm]
    by_cases h1 : n % 2 = 1
    · simp only [h1, if_true]
      have h2 := padd_rep (mulE_on hR _) hR hd h
      have e : addE (mulE (2 * (n / 2)) R) R = mulE n R := by
        show mulE (2 * (n / 2) + 1) R = _
        rw [show 2 * (n / 2) + 1 = n by omega]
      rwa [e] at h2
    · simp only [h1, if_false]
      rwa [show 2 * (n / 2) = n by omega] at hd
/-- The base. -/
def bxE : Nat := 15112221349535400772501151409588531511454012693041857206046113283949847762202
def byE : Nat := 46316835694926478169428394003475163141307993866256225615783033603165251855960
def bE : PtE := (cF bxE, cF byE)
theorem bE_on : OnP bE := by
  show OnE (cF dE) (cF bxE) (cF byE)
  have h : cF (byE * byE) = cF (bxE * bxE + 1 + dE * (bxE * bxE * (byE * byE))) := by rw [cF_eq]; decide +kernel
  simpa only [cF_mul, cF_add, cF_one, OnE] using h
def bN : Nat × Nat × Nat × Nat := (bxE, byE, 1, bxE * byE % FP)
theorem bN_rep : RepN bN bE := by
  have h := rep_one bE
  simp only [RepN, bN, cF_mod, cF_mul, cF_one]
  exact h
theorem order_rep : pm bN 253 FL = (0, (pm bN 253 FL).2.1, (pm bN 253 FL).2.1, 0) := by decide +kernel
theorem order_is : mulE FL bE = zE := by
  have h := pm_rep bE_on bN_rep 253 FL (by decide)
  rw [order_rep] at h
  simp only [RepN] at h
  have hx := h.x
  have hy := h.y
  have hz := h.z
  refine Prod.ext ?_ ?_
  · refine fld25519.cancel hz ?_
    rw [← hx, cF_zero]
    show (0 : Fin FP) = 0 * _
    grind
  · refine fld25519.cancel hz ?_
    rw [← hy]
    show _ = (1 : Fin FP) * _
    grind
theorem mulE_FL (n : Nat) : mulE (n % FL) bE = mulE n bE := mulE_mod bE_on order_is n
theorem bE_enc : encE bE = [0x58, 0x66, 0x66, 0x66, 0x66, 0x66, 0x66, 0x66, 0x66, 0x66, 0x66, 0x66, 0x66, 0x66, 0x66, 0x66, 0x66, 0x66, 0x66, 0x66, 0x66, 0x66, 0x66, 0x66, 0x66, 0x66, 0x66, 0x66, 0x66, 0x66, 0x66, 0x66] := by decide +kernel
theorem zE_enc : encE zE = wk 1 := by decide +kernel
end Go.Proofs.YtcefdcjpddohaaaDoor
namespace Go.Proofs.YtcefdcjpddohaaaDoor
open Go.RowKit

/-- The even one of a number and what it lacks of the prime. -/
def evenW (r : Nat) : List UInt8 := if r % FP % 2 = 1 then wo (subF 0 r) else wo r
theorem low8 (a : Nat) (ha : a < 256) : bits .and .u8 (a : Int) 1 = ((a % 2 : Nat) : Int) := by
  have h := u8_and_nat a 1 ha (by decide)
  rw [show ((1 : Nat) : Int) = 1 from rfl] at h
  rw [h, show (1 : Nat) = 2 ^ 1 - 1 by decide, Nat.and_two_pow_sub_one_eq_mod, show (2 : Nat) ^ 1 = 2 by decide]
theorem ln_even (b : UInt8) (r : List UInt8) : ln (b :: r) % 2 = b.toNat % 2 := by rw [ln]; omega
theorem first_byte (l : List UInt8) (h : l.length = 32) : ∃ c, c < 256 ∧ l[0]? = some (UInt8.ofNat c) ∧ c % 2 = ln l % 2 := by
  match l, h with
  | b :: r, _ => exact ⟨b.toNat, b.toNat_lt, by simp, (ln_even b r).symm⟩
set_option maxRecDepth 100000 in
set_option maxHeartbeats 1000000 in
theorem even_any (w : World) (a0 a1 a2 a3 : Nat) (ha0 : a0 < B64) (ha1 : a1 < B64) (ha2 : a2 < B64) (ha3 : a3 < B64) :
    Calls Tryd.prog 73 #[.agg (u64v [a0, a1, a2, a3]).toArray] w fun e w' => ∃ l : List UInt8, e = .returned (.agg (bv l).toArray) ∧ Vlt (l = evenW (n4 a0 a1 a2 a3)) ∧ Hid (l.length = 32) ∧ Below w.heap.size w w' := by
  have hzw := zero_word
  have hzn := zero_n4
  obtain ⟨W, hW, hgA, hgZ, hbW, hsW⟩ := pair_new w (u64v [a0, a1, a2, a3]).toArray (bv z32).toArray 96 23
  have HW := Lib.hid hW
  have hs1 : w.heap.size + 1 < W.heap.size := by have := hsW.out; omega
  clear hW
  go_enter Tryd.func73, Tryd.ntmps73
  go_upto_region 1 with fail
  rw [HW.out]
  go_wp2_with (with_reducible refine wpList_load_row rfl 96 (.tmp 1) rfl w.heap.size rfl 96 (u64v [a0, a1, a2, a3]).toArray (0, 0) _ hgA.out Tryd.underlying96 rfl (by kernel_rfl) ?_)
  refine (told_any W a0 a1 a2 a3 ha0 ha1 ha2 ha3).mono ?_
  rintro e w1 ⟨l, rfl, el, HL, hb1⟩
  have hbw1 := below_next hbW hbW.size hb1
  have hgA1 : Hid (w1.heap[w.heap.size]? = some (.cells (u64v [a0, a1, a2, a3]).toArray 96 (0, 0))) := (hb1.block _ (by omega)).trans hgA.out
  have hgZ1 : Hid (w1.heap[w.heap.size + 1]? = some (.cells (bv z32).toArray 23 (0, 0))) := (hb1.block _ (by omega)).trans hgZ.out
  have hs2 : w.heap.size + 1 < w1.heap.size := (Array.getElem?_eq_some_iff.1 hgZ1.out).1
  have HLS := Lib.hid (bv_size l HL.out)
  go_upto_region 2 with ((with_reducible refine wpList_store_row rfl 23 (.tmp 3) (.tmp 5) rfl w1.heap.size (bv l).toArray rfl rfl 23 _ (heap_alloc_new _ _) (by rw [HLS.out]; kernel_rfl) (by rw [HLS.out]; kernel_rfl) (all_oneCell_toArray (bv_one _)) ?_); rw [World.setRow_alloc_new])
  obtain ⟨X, hX⟩ : ∃ X, X = w1.alloc (.cells (bv l).toArray 23) := ⟨_, rfl⟩
  rw [← hX]
  have hgA2 : Hid (X.heap[w.heap.size]? = some (.cells (u64v [a0, a1, a2, a3]).toArray 96 (0, 0))) := by rw [hX]; exact (Below.heap_alloc _ _ _ (by omega)).trans hgA1.out
  have hgZ2 : Hid (X.heap[w.heap.size + 1]? = some (.cells (bv z32).toArray 23 (0, 0))) := by rw [hX]; exact (Below.heap_alloc _ _ _ (by omega)).trans hgZ1.out
  have hgL : Hid (X.heap[w1.heap.size]? = some (.cells (bv l).toArray 23 (0, 0))) := by rw [hX]; exact heap_alloc_new _ _
  have hbX : Below w.heap.size w X := by rw [hX]; exact hbw1.alloc hbw1.size _
  obtain ⟨G, hG⟩ : ∃ G, G = w1.heap.size := ⟨_, rfl⟩
  rw [← hG] at hgL hs2 ⊢
  clear hX hG hgA1 hgZ1 hbw1
  have hsX : w.heap.size + 1 < X.heap.size := (Array.getElem?_eq_some_iff.1 hgZ2.out).1
  obtain ⟨c, lc, hc0, hc2⟩ := first_byte l HL.out
  have hcell : X.cell? ⟨G, 0, none⟩ = some (.int .u8 (c : Int)) := by
    have := byte_cell hgL.out hc0
    rwa [UInt8.toNat_ofNat', show (2 : Nat) ^ 8 = 256 by decide, Nat.mod_eq_of_lt lc] at this
  have hb8 := low8 c lc
  have HC := vlt (show c % 2 = n4 a0 a1 a2 a3 % FP % 2 by rw [hc2, show l = wo (n4 a0 a1 a2 a3) by rw [wo]; exact el.out, ln_wo])
  clear hc0 hc2
  obtain ⟨t, ht⟩ : ∃ t, t = c % 2 := ⟨_, rfl⟩
  have lt : t < 2 := by omega
  rw [← ht] at hb8 HC
  clear ht
  by_cases h1 : t = 1
  · subst h1
    have HE := vlt (show evenW (n4 a0 a1 a2 a3) = wo (subF 0 (n4 a0 a1 a2 a3)) by rw [evenW, if_pos HC.out.symm])
    clear HC
    go_wp2_with (with_reducible refine wpList_load_row rfl 96 (.tmp 1) rfl w.heap.size rfl 96 (u64v [a0, a1, a2, a3]).toArray (0, 0) _ hgA2.out Tryd.underlying96 rfl (by kernel_rfl) ?_)
    refine (minus_any X 0 0 0 0 a0 a1 a2 a3 (by decide) (by decide) (by decide) (by decide) ha0 ha1 ha2 ha3).mono ?_
    rintro e w2 ⟨d0, d1, d2, d3, rfl, e2, ⟨ld0, ld1, ld2, ld3⟩, hb2⟩
    have hbw2 := below_next hbX hbX.size hb2
    have hz2 : Hid (w2.heap[w.heap.size + 1]? = some (.cells (bv z32).toArray 23 (0, 0))) := (hb2.block _ hsX).trans hgZ2.out
    have hs3 : w.heap.size + 1 < w2.heap.size := (Array.getElem?_eq_some_iff.1 hz2.out).1
    go_wp2_with fail
    refine (told_any w2 d0 d1 d2 d3 ld0 ld1 ld2 ld3).mono ?_
    rintro e w3 ⟨m, rfl, e3, HM, hb3⟩
    have HF := vlt (show m = evenW (n4 a0 a1 a2 a3) by
      have h4 := e2.out
      rw [zero_n4v] at h4
      rw [HE.out, e3.out, wo, ← subF_of h4])
    have hbw3 := below_next hbw2 hbw2.size hb3
    have hz3 : Hid (w3.heap[w.heap.size + 1]? = some (.cells (bv z32).toArray 23 (0, 0))) := (hb3.block _ hs3).trans hz2.out
    have HMS := Lib.hid (bv_size m HM.out)
    go_wp2_with (with_reducible refine wpList_store_row rfl 23 (.tmp 2) (.tmp 13) rfl (w.heap.size + 1) (bv m).toArray rfl rfl 23 _ hz3.out (by rw [HMS.out]; kernel_rfl) (by rw [HMS.out]; kernel_rfl) (all_oneCell_toArray (bv_one _)) ?_)
    refine bodyPost_ret (v := .agg (bv m).toArray) (results_cell_row Tryd.results73 _ _ (w.heap.size + 1) 23 _ (0, 0) _ rfl (setRow_heap _ _ _ _ _ _ hz3.out) Tryd.underlying23 rfl (by rw [HMS.out]; kernel_rfl)) rfl ⟨m, rfl, HF, HM, below_setRow hbw3 (by omega) _⟩
  · obtain rfl : t = 0 := by omega
    have HF := vlt (show l = evenW (n4 a0 a1 a2 a3) by rw [evenW, if_neg (by rw [← HC.out]; decide), el.out, wo])
    clear HC
    go_wp2_with (first
      | (with_reducible refine wpList_load_row rfl 23 (.tmp 3) rfl G rfl 23 (bv l).toArray (0, 0) _ hgL.out Tryd.underlying23 rfl (by rw [HLS.out]; kernel_rfl) ?_)
      | (with_reducible refine wpList_store_row rfl 23 (.tmp 2) (.tmp 14) rfl (w.heap.size + 1) (bv l).toArray rfl rfl 23 _ hgZ2.out (by rw [HLS.out]; kernel_rfl) (by rw [HLS.out]; kernel_rfl) (all_oneCell_toArray (bv_one _)) ?_))
    refine bodyPost_ret (v := .agg (bv l).toArray) (results_cell_row Tryd.results73 _ _ (w.heap.size + 1) 23 _ (0, 0) _ rfl (setRow_heap _ _ _ _ _ _ hgZ2.out) Tryd.underlying23 rfl (by rw [HLS.out]; kernel_rfl)) rfl ⟨l, rfl, HF, HL, below_setRow hbX (by omega) _⟩
end Go.Proofs.YtcefdcjpddohaaaDoor
