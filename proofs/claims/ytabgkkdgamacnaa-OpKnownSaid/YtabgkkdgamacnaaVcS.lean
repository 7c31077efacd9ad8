/-
  What was seen of whom, as lists of numbers: the greater of each, none above, compared, summed, written. No statement is proved here. Conditions: none.
-/
import Derived.Test.YtabgkkdgamacnaaI64
import Derived.Test.YtabgkkdgamacnaaWiS
namespace Go.Proofs.Ytabgkkdgamacnaa
open Go.RowKit

def vmx (a b : List Int) : List Int := List.zipWith max a b
def vle (a b : List Int) : Bool := decide (vmx a b = b)
def vgood (a : List Int) : Bool := decide (∀ x ∈ a, 0 ≤ x ∧ x ≤ 1099511627776)
def vcmp (a b : List Int) : Int := if a = b then 0 else if vle a b = true then -1 else if vle b a = true then 1 else 2
def vtot (a : List Int) : Int := a.foldr (· + ·) 0
def vsum (a : List Int) : Int := if vgood a = true then vtot a else -1
def vhas (a : List Int) (d n : Int) : Bool := decide (0 ≤ d ∧ d < 8 ∧ 1 ≤ n ∧ n ≤ iat a d.toNat)
def vput (a : List Int) : List UInt8 := (a.map fun x => gr x.toNat).flatten

theorem list_iat {a b : List Int} (h : a.length = b.length) (e : ∀ k, k < a.length → iat a k = iat b k) : a = b := by
  apply List.ext_getElem h
  intro k h1 h2
  have := e k h1
  simpa [iat, h1, h2] using this
theorem vmx_len {a b : List Int} (ha : a.length = 8) (hb : b.length = 8) : (vmx a b).length = 8 := by simp [vmx, ha, hb]
theorem vmx_at {a b : List Int} {k : Nat} (h1 : k < a.length) (h2 : k < b.length) : iat (vmx a b) k = max (iat a k) (iat b k) := by
  have h3 : k < (List.zipWith max a b).length := by rw [List.length_zipWith]; omega
  have hg : ∀ (l : List Int) (h : k < l.length), iat l k = l[k] := fun l h => by simp [iat, h]
  rw [vmx, hg _ h3, hg _ h1, hg _ h2, List.getElem_zipWith]
theorem vle_iff {a b : List Int} (ha : a.length = 8) (hb : b.length = 8) : vle a b = true ↔ ∀ k, k < 8 → iat a k ≤ iat b k := by
  rw [vle, decide_eq_true_iff]
  constructor
  · intro h k hk
    have := vmx_at (a := a) (b := b) (k := k) (by omega) (by omega)
    rw [h] at this
    omega
  · intro h
    apply list_iat (by rw [vmx_len ha hb, hb])
    intro k hk
    rw [vmx_len ha hb] at hk
    have := h k hk
    rw [vmx_at (by omega) (by omega)]
    omega
theorem iat_mem {a : List Int} {x : Int} (h : x ∈ a) : ∃ k, k < a.length ∧ iat a k = x := by
  obtain ⟨k, hk, rfl⟩ := List.mem_iff_getElem.1 h
  exact ⟨k, hk, by simp [iat, hk]⟩
theorem mem_iat {a : List Int} {k : Nat} (h : k < a.length) : iat a k ∈ a := by
  rw [show iat a k = a[k] by simp [iat, h]]
  exact List.getElem_mem h
theorem vgood_iff (a : List Int) : vgood a = true ↔ ∀ k, k < a.length → 0 ≤ iat a k ∧ iat a k ≤ 1099511627776 := by
  rw [vgood, decide_eq_true_iff]
  constructor
  · intro h k hk
    exact h _ (mem_iat hk)
  · intro h x hx
    obtain ⟨k, hk, rfl⟩ := iat_mem hx
    exact h k hk

/-! What follows of these. -/
theorem vmx_comm (a b : List Int) : vmx a b = vmx b a := by
  rw [vmx, vmx, List.zipWith_comm]
  congr 1
  funext x y
  exact Int.max_comm ..
theorem vmx_self (a : List Int) : vmx a a = a := by
  rw [vmx, List.zipWith_self]
  simp
theorem vmx_assoc {a b c : List Int} (ha : a.length = 8) (hb : b.length = 8) (hc : c.length = 8) : vmx (vmx a b) c = vmx a (vmx b c) := by
  have h1 := vmx_len ha hb
  have h2 := vmx_len hb hc
  apply list_iat (by rw [vmx_len h1 hc, vmx_len ha h2])
  intro k hk
  rw [vmx_len h1 hc] at hk
  rw [vmx_at (by omega) (by omega), vmx_at (by omega) (by omega), vmx_at (by omega) (by omega), vmx_at (by omega) (by omega)]
  omega
theorem vle_left {a b : List Int} (ha : a.length = 8) (hb : b.length = 8) : vle a (vmx a b) = true := by
  rw [vle, decide_eq_true_iff, ← vmx_assoc ha ha hb, vmx_self]
theorem vle_right {a b : List Int} (ha : a.length = 8) (hb : b.length = 8) : vle b (vmx a b) = true := by
  rw [vmx_comm]; exact vle_left hb ha
theorem vle_least {a b c : List Int} (ha : a.length = 8) (hb : b.length = 8) (hc : c.length = 8) (h1 : vle a c = true) (h2 : vle b c = true) : vle (vmx a b) c = true := by
  rw [vle, decide_eq_true_iff] at h1 h2 ⊢
  rw [vmx_assoc ha hb hc, h2, h1]
theorem vle_anti {a b : List Int} (h1 : vle a b = true) (h2 : vle b a = true) : a = b := by
  rw [vle, decide_eq_true_iff] at h1 h2
  rw [← h1, vmx_comm, h2]
theorem vle_same (a : List Int) : vle a a = true := by
  rw [vle, decide_eq_true_iff, vmx_self]
theorem vcmp_zero (a b : List Int) : (vcmp a b == 0) = decide (a = b) := by
  rw [vcmp]
  by_cases h : a = b
  · simp [h]
  · rw [if_neg h]; split
    · simp [h]
    · split <;> simp [h]
theorem vcmp_turn (a b : List Int) : (vcmp a b == 1) = (vcmp b a == -1) := by
  rw [vcmp, vcmp]
  by_cases h : a = b
  · simp [h]
  · have h' : ¬ b = a := fun e => h e.symm
    rw [if_neg h, if_neg h']
    by_cases h1 : vle a b = true
    · by_cases h2 : vle b a = true
      · exact absurd (vle_anti h1 h2) h
      · simp [h1, h2]
    · by_cases h2 : vle b a = true <;> simp [h1, h2]
theorem vhas_mono {a b : List Int} (ha : a.length = 8) (hb : b.length = 8) (h : vle a b = true) (d n : Int) (h1 : vhas a d n = true) : vhas b d n = true := by
  rw [vle_iff ha hb] at h
  rw [vhas, decide_eq_true_iff] at h1 ⊢
  have := h d.toNat (by omega)
  omega
theorem vhas_max {a b : List Int} (ha : a.length = 8) (hb : b.length = 8) (d n : Int) : vhas (vmx a b) d n = (vhas a d n || vhas b d n) := by
  rw [vhas, vhas, vhas, ← Bool.decide_or]
  apply decide_eq_decide.2
  by_cases h : 0 ≤ d ∧ d < 8
  · have := vmx_at (a := a) (b := b) (k := d.toNat) (by omega) (by omega)
    omega
  · omega
theorem vtot_max : ∀ (a b : List Int), (∀ x ∈ a, 0 ≤ x) → (∀ x ∈ b, 0 ≤ x) → vtot (vmx a b) ≤ vtot a + vtot b
  | [], b, _, hb => by
    have : ∀ (b : List Int), (∀ x ∈ b, 0 ≤ x) → 0 ≤ vtot b := by
      intro b
      induction b with
      | nil => intro _; exact Int.le_refl _
      | cons y s ih => intro h; have h1 := ih (fun x hx => h x (by simp [hx])); have h2 := h y (by simp); simp only [vtot, List.foldr_cons] at h1 ⊢; omega
    have := this b hb
    simp only [vmx, List.zipWith_nil_left]
    simp only [vtot, List.foldr_nil] at this ⊢
    omega
  | x :: r, [], ha, hb => by
    have : ∀ (b : List Int), (∀ x ∈ b, 0 ≤ x) → 0 ≤ vtot b := by
      intro b
      induction b with
      | nil => intro _; exact Int.le_refl _
      | cons y s ih => intro h; have h1 := ih (fun x hx => h x (by simp [hx])); have h2 := h y (by simp); simp only [vtot, List.foldr_cons] at h1 ⊢; omega
    have := this _ ha
    simp only [vmx, List.zipWith_nil_right]
    simp only [vtot, List.foldr_nil] at this ⊢
    omega
  | x :: r, y :: s, ha, hb => by
    have h1 := vtot_max r s (fun z hz => ha z (by simp [hz])) (fun z hz => hb z (by simp [hz]))
    have h2 := ha x (by simp)
    have h3 := hb y (by simp)
    simp only [vmx, vtot, List.zipWith_cons_cons, List.foldr_cons] at h1 ⊢
    omega
theorem vgood_max {a b : List Int} (ha : a.length = 8) (hb : b.length = 8) (h1 : vgood a = true) (h2 : vgood b = true) : vgood (vmx a b) = true := by
  rw [vgood_iff] at h1 h2 ⊢
  intro k hk
  rw [vmx_len ha hb] at hk
  have := h1 k (by omega)
  have := h2 k (by omega)
  rw [vmx_at (by omega) (by omega)]
  omega
theorem vsum_max {a b : List Int} (ha : a.length = 8) (hb : b.length = 8) (h1 : vgood a = true) (h2 : vgood b = true) : vsum (vmx a b) ≤ vsum a + vsum b := by
  rw [vsum, vsum, vsum, if_pos h1, if_pos h2, if_pos (vgood_max ha hb h1 h2)]
  rw [vgood, decide_eq_true_iff] at h1 h2
  exact vtot_max a b (fun x hx => (h1 x hx).1) (fun x hx => (h2 x hx).1)
/-- The sum of the first k. -/
def vup (a : List Int) (k : Nat) : Int := vtot (a.take k)
theorem vtot_app (a b : List Int) : vtot (a ++ b) = vtot a + vtot b := by
  induction a with
  | nil => simp [vtot]
  | cons x r ih => simp only [vtot, List.cons_append, List.foldr_cons] at ih ⊢; omega
theorem vup_next {a : List Int} {k : Nat} (h : k < a.length) : vup a (k + 1) = vup a k + iat a k := by
  rw [vup, vup, List.take_succ_eq_append_getElem h, vtot_app, show iat a k = a[k] by simp [iat, h]]
  simp [vtot]
theorem vup_bound {a : List Int} (hg : ∀ x ∈ a, 0 ≤ x ∧ x ≤ 1099511627776) : ∀ k, k ≤ a.length → 0 ≤ vup a k ∧ vup a k ≤ 1099511627776 * (k : Int) := by
  intro k
  induction k with
  | zero => intro _; simp [vup, vtot]
  | succ k ih =>
    intro hk
    have h1 := ih (by omega)
    have h2 := hg _ (mem_iat (a := a) (k := k) (by omega))
    rw [vup_next (by omega)]
    omega
theorem vup_all {a : List Int} (h : a.length = 8) : vup a 8 = vtot a := by rw [vup, List.take_of_length_le (by omega)]
theorem vup_zero (a : List Int) : vup a 0 = 0 := rfl
/-- Written, number by number. -/
def vpt (a : List Int) (k : Nat) : List UInt8 := vput (a.take k)
theorem vpt_next {a : List Int} {k : Nat} (h : k < a.length) : vpt a (k + 1) = vpt a k ++ gr (iat a k).toNat := by
  rw [vpt, vpt, List.take_succ_eq_append_getElem h, show iat a k = a[k] by simp [iat, h], vput, vput, List.map_append, List.flatten_append]
  rw [List.map_cons, List.map_nil, List.flatten_cons, List.flatten_nil, List.append_nil]
theorem vpt_all {a : List Int} (h : a.length = 8) : vpt a 8 = vput a := by rw [vpt, List.take_of_length_le (by omega)]
theorem vpt_zero (a : List Int) : vpt a 0 = [] := rfl
theorem vpt_le (a : List Int) : ∀ k, k ≤ a.length → (vpt a k).length ≤ 9 * k := by
  intro k
  induction k with
  | zero => intro _; simp [vpt_zero]
  | succ k ih =>
    intro hk
    have h1 := ih (by omega)
    have h2 := gr_le (iat a k).toNat
    rw [vpt_next (by omega), List.length_append]
    omega
end Go.Proofs.Ytabgkkdgamacnaa
