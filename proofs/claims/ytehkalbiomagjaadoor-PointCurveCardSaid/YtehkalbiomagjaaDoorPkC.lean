/-
  Words and contracts that other texts share, several in one text. No statement of the seat is proved here. Conditions: as each contract says.
  Numbers in sixteen pieces of 16 bits, carried: words that the contracts of the document's own answers use. No statement is proved here. Conditions: none.
  Contract of the document's own carried. Conditions: pieces from -2^47 to 2^47.
  Contracts of the document's own In, Plus, Minus. Conditions: pieces nearly of 16 bits.
  Contract of the document's own Times. Conditions: pieces nearly of 16 bits.
  Contract of the document's own power. Conditions: pieces nearly of 16 bits, 32 bytes.
  Contracts of the document's own below, inv, half. Conditions: below's number is from 0 to 237.
  Contract of the document's own Out: the number modulo the prime, its 32 bytes. Conditions: pieces nearly of 16 bits.
  Contracts of the document's own Norm, Good, Add, Sub, Mul, Power, Inv: each answer is the word of its number modulo the prime. Conditions: none.
  Laws on regions that draw their order, for the texts of this seat: a condition on the world that is held only till operation c has come up (a load that c waits for may be taken first, though the region writes its cell behind c). Conditions: none.
  Contract of the document's own root: the number's first root, or none. Conditions: pieces nearly of 16 bits.
  The document's own root beside the package's: words. No statement is proved here. Conditions: none.
  Places: points in four numbers as the package adds them, and roots modulo the prime as the curve asks for them. No statement is proved here. Conditions: none.
-/
import Derived.Test.YtehkalbiomagjaaDoorPkA
import Derived.IntWalk
import Derived.Test.YtehkalbiomagjaaDoorPkB
import Derived.Laws.BitsLemmas
import Derived.StillTail
namespace Go.Proofs.YtehkalbiomagjaaDoor
open Go.RowKit

/-- A number in pieces of 16 bits, the lowest first. -/
def fvs : List Int → Int
  | [] => 0
  | x :: r => x + 65536 * fvs r
theorem fvs_app (l m : List Int) : fvs (l ++ m) = fvs l + 65536 ^ l.length * fvs m := by
  induction l with
  | nil => simp [fvs]
  | cons x r ih =>
    simp only [List.cons_append, fvs, ih, List.length_cons, Int.pow_succ]
    grind
def iat (l : List Int) (k : Nat) : Int := l.getD k 0
theorem iat_at {l : List Int} {k : Nat} (h : k < l.length) : l[k]? = some (iat l k) := by simp [iat, List.getElem?_eq_getElem h]
theorem iat_split {l : List Int} {k : Nat} (h : k < l.length) : l = l.take k ++ iat l k :: l.drop (k + 1) := by
  have h1 : l.drop k = iat l k :: l.drop (k + 1) := by rw [List.drop_eq_getElem_cons h]; simp [iat, List.getElem?_eq_getElem h]
  rw [← h1, List.take_append_drop]
theorem fvs_set (l : List Int) (k : Nat) (x : Int) (h : k < l.length) : fvs (l.set k x) = fvs l + (x - iat l k) * 65536 ^ k := by
  have h1 := iat_split h
  have h2 : l.set k x = l.take k ++ x :: l.drop (k + 1) := by rw [List.set_eq_take_append_cons_drop, if_pos h]
  have h3 : fvs l = fvs (l.take k ++ iat l k :: l.drop (k + 1)) := by rw [← h1]
  rw [h2, h3, fvs_app, fvs_app, fvs, fvs, List.length_take, Nat.min_eq_left (by omega)]
  grind
theorem take_iat {l : List Int} {k : Nat} (h : k < l.length) : l.take (k + 1) = l.take k ++ [iat l k] := by
  rw [List.take_succ_eq_append_getElem h]; simp [iat, List.getElem?_eq_getElem h]
theorem fvs_take (l : List Int) (k : Nat) (h : k < l.length) : fvs (l.take (k + 1)) = fvs (l.take k) + iat l k * 65536 ^ k := by
  rw [take_iat h, fvs_app, List.length_take, Nat.min_eq_left (by omega)]
  simp only [fvs]
  grind
theorem fvs_zeros (n : Nat) : fvs (List.replicate n 0) = 0 := by
  induction n with
  | zero => rfl
  | succ n ih => rw [List.replicate_succ, fvs, ih]; rfl
/-- Carried: what the pieces are, and what is over. -/
def carL (c : Int) : List Int → List Int × Int
  | [] => ([], c)
  | x :: r => ((x + c - (x + c) / 65536 * 65536) :: (carL ((x + c) / 65536) r).1, (carL ((x + c) / 65536) r).2)
theorem carL_len (l : List Int) : ∀ c, (carL c l).1.length = l.length := by
  induction l with
  | nil => intro c; rfl
  | cons x r ih => intro c; simp [carL, ih]
theorem carL_val (l : List Int) : ∀ c, fvs (carL c l).1 + 65536 ^ l.length * (carL c l).2 = fvs l + c := by
  induction l with
  | nil => intro c; simp [carL, fvs]
  | cons x r ih =>
    intro c
    have h := ih ((x + c) / 65536)
    simp only [carL, fvs, List.length_cons, Int.pow_succ]
    grind
theorem carL_snoc (l : List Int) (x : Int) : ∀ c, carL c (l ++ [x]) = ((carL c l).1 ++ [x + (carL c l).2 - (x + (carL c l).2) / 65536 * 65536], (x + (carL c l).2) / 65536) := by
  induction l with
  | nil => intro c; simp [carL]
  | cons y r ih => intro c; simp [carL, ih]
theorem carL_bits (l : List Int) : ∀ c, ∀ x ∈ (carL c l).1, 0 ≤ x ∧ x ≤ 65535 := by
  induction l with
  | nil => intro c x hx; simp [carL] at hx
  | cons y r ih =>
    intro c x hx
    simp only [carL, List.mem_cons] at hx
    rcases hx with rfl | hx
    · omega
    · exact ih _ x hx
/-- What is over stays small where the pieces are. -/
theorem carL_over (l : List Int) (B C : Int) (hBC : B + C ≤ 65536 * C) (hl : ∀ x ∈ l, -B ≤ x ∧ x ≤ B) : ∀ c, -C ≤ c → c ≤ C → -C ≤ (carL c l).2 ∧ (carL c l).2 ≤ C := by
  induction l with
  | nil => intro c h1 h2; exact ⟨h1, h2⟩
  | cons x r ih =>
    intro c h1 h2
    have hx := hl x (by simp)
    exact ih (fun y hy => hl y (by simp [hy])) _ (by omega) (by omega)
/-- With pieces of 16 bits what is over is one at most. -/
theorem carL_small (l : List Int) (hl : ∀ x ∈ l, 0 ≤ x ∧ x ≤ 65535) : ∀ c, -1 ≤ c → c ≤ 1 → -1 ≤ (carL c l).2 ∧ (carL c l).2 ≤ 1 := by
  induction l with
  | nil => intro c h1 h2; exact ⟨h1, h2⟩
  | cons x r ih =>
    intro c h1 h2
    have hx := hl x (by simp)
    exact ih (fun y hy => hl y (by simp [hy])) _ (by omega) (by omega)
/-- The document's carried. -/
def carI (l : List Int) : List Int := (carL 0 l).1.set 0 (iat (carL 0 l).1 0 + 38 * (carL 0 l).2)
theorem carI_len (l : List Int) : (carI l).length = l.length := by rw [carI, List.length_set, carL_len]
theorem carI_val (l : List Int) (h : l.length = 16) : fvs (carI l) = fvs l - 2 * (FP : Int) * (carL 0 l).2 := by
  have h1 := carL_val l 0
  rw [carI, fvs_set _ _ _ (by rw [carL_len, h]; decide)]
  rw [h] at h1
  have hp : (65536 : Int) ^ 16 = 2 * (FP : Int) + 38 := by decide
  rw [hp] at h1
  grind
theorem fvs_bits (l : List Int) (hl : ∀ x ∈ l, 0 ≤ x ∧ x ≤ 65535) : 0 ≤ fvs l ∧ fvs l ≤ 65536 ^ l.length - 1 := by
  induction l with
  | nil => simp [fvs]
  | cons x r ih =>
    have h1 := ih fun y hy => hl y (by simp [hy])
    have h2 := hl x (by simp)
    simp only [fvs, List.length_cons, Int.pow_succ]
    omega
/-- Pieces of 16 bits each; nearly so. -/
def Can (l : List Int) : Prop := l.length = 16 ∧ ∀ x ∈ l, 0 ≤ x ∧ x ≤ 65535
def Near (l : List Int) : Prop := ∃ x r, l = x :: r ∧ r.length = 15 ∧ (∀ y ∈ r, 0 ≤ y ∧ y ≤ 65535) ∧ -38 ≤ x ∧ x ≤ 65573
theorem Can.near {l : List Int} (h : Can l) : Near l := by
  match l, h with
  | x :: r, h => exact ⟨x, r, rfl, by have := h.1; simp at this; exact this, fun y hy => h.2 y (by simp [hy]), by have := h.2 x (by simp); omega, by have := h.2 x (by simp); omega⟩
theorem Near.len {l : List Int} (h : Near l) : l.length = 16 := by obtain ⟨x, r, rfl, h1, _⟩ := h; simp [h1]
theorem near_mem {l : List Int} (h : Near l) : ∀ x ∈ l, -38 ≤ x ∧ x ≤ 65573 := by
  obtain ⟨x, r, rfl, _, hb, h1, h2⟩ := h
  intro y hy
  rcases List.mem_cons.1 hy with rfl | hy
  · exact ⟨h1, h2⟩
  · have := hb y hy; omega
theorem carI_cons (x : Int) (r : List Int) : carI (x :: r) = (x - x / 65536 * 65536 + 38 * (carL (x / 65536) r).2) :: (carL (x / 65536) r).1 := by
  simp [carI, carL, iat]
theorem second_near (y : Int) (r : List Int) (hr : r.length = 15) (hb : ∀ z ∈ r, 0 ≤ z ∧ z ≤ 65535) (h1 : -1099511627776 ≤ y) (h2 : y ≤ 1099511627776) : Near (carI (y :: r)) := by
  rw [carI_cons]
  match r, hr with
  | a :: b :: s, hr =>
    have ha := hb a (by simp)
    have hbb := hb b (by simp)
    have hs := carL_small s (fun z hz => hb z (by simp [hz])) ((b + (a + y / 65536) / 65536) / 65536) (by omega) (by omega)
    have ho : (carL (y / 65536) (a :: b :: s)).2 = (carL ((b + (a + y / 65536) / 65536) / 65536) s).2 := by simp [carL]
    refine ⟨_, _, rfl, by rw [carL_len]; exact hr, carL_bits _ _, ?_, ?_⟩
    · rw [ho]; omega
    · rw [ho]; omega
theorem carI_first (l : List Int) (hl : l.length = 16) (hb : ∀ x ∈ l, -140737488355328 ≤ x ∧ x ≤ 140737488355328) : ∃ y r, carI l = y :: r ∧ r.length = 15 ∧ (∀ z ∈ r, 0 ≤ z ∧ z ≤ 65535) ∧ -1099511627776 ≤ y ∧ y ≤ 1099511627776 := by
  match l, hl with
  | x :: r, hl =>
    have hx := hb x (by simp)
    have ho := carL_over r 140737488355328 4294967296 (by decide) (fun y hy => hb y (by simp [hy])) (x / 65536) (by omega) (by omega)
    rw [carI_cons]
    exact ⟨_, _, rfl, by rw [carL_len]; simpa using hl, carL_bits _ _, by omega, by omega⟩
/-- Carried twice. -/
theorem carI_twice (l : List Int) (hl : l.length = 16) (hb : ∀ x ∈ l, -140737488355328 ≤ x ∧ x ≤ 140737488355328) : Near (carI (carI l)) ∧ fvs (carI (carI l)) % (FP : Int) = fvs l % (FP : Int) ∧ (∀ x ∈ carI l, -1099511627776 ≤ x ∧ x ≤ 1099511627776) := by
  obtain ⟨y, r, he, hr, hbr, h1, h2⟩ := carI_first l hl hb
  refine ⟨by rw [he]; exact second_near y r hr hbr h1 h2, ?_, ?_⟩
  · rw [carI_val (carI l) (by rw [carI_len, hl]), carI_val l hl]
    generalize (carL 0 (carI l)).2 = a
    generalize (carL 0 l).2 = b
    rw [show fvs l - 2 * (FP : Int) * b - 2 * (FP : Int) * a = fvs l + (FP : Int) * (-(2 * b) - 2 * a) by grind, Int.add_mul_emod_self_left]
  · intro x hx
    rw [he] at hx
    rcases List.mem_cons.1 hx with rfl | hx
    · exact ⟨h1, h2⟩
    · have := hbr x hx; omega
theorem carL_can (l : List Int) (hl : ∀ x ∈ l, 0 ≤ x ∧ x ≤ 65535) : carL 0 l = (l, 0) := by
  induction l with
  | nil => rfl
  | cons x r ih =>
    have hx := hl x (by simp)
    have h0 : (x + 0) / 65536 = 0 := by omega
    rw [carL, h0, ih fun y hy => hl y (by simp [hy])]
    simp
theorem Can.car {l : List Int} (h : Can l) : carI l = l := by
  have h1 := carL_can l h.2
  rw [carI, h1]
  match l, h.1 with
  | x :: r, _ => simp [iat]
theorem Near.car {l : List Int} (h : Near l) : Can (carI l) ∧ fvs (carI l) % (FP : Int) = fvs l % (FP : Int) := by
  have hl := h.len
  have hv := carI_val l hl
  have hmod : fvs (carI l) % (FP : Int) = fvs l % (FP : Int) := by
    rw [hv, show fvs l - 2 * (FP : Int) * (carL 0 l).2 = fvs l + (FP : Int) * (-(2 * (carL 0 l).2)) by grind, Int.add_mul_emod_self_left]
  refine ⟨⟨by rw [carI_len, hl], ?_⟩, hmod⟩
  obtain ⟨x, r, rfl, hr, hb, h1, h2⟩ := h
  have hval := carL_val (x :: r) 0
  have ho := carL_small r hb (x / 65536) (by omega) (by omega)
  have hbits := carL_bits r (x / 65536)
  have hfr := fvs_bits r hb
  have hfd := fvs_bits _ hbits
  rw [carL_len, hr] at hfd
  rw [hr] at hfr
  simp only [carL, fvs, List.length_cons, hr, Int.add_zero] at hval
  rw [carI_cons]
  intro y hy
  rcases List.mem_cons.1 hy with rfl | hy
  · obtain ⟨o, hoe⟩ : ∃ o, o = (carL (x / 65536) r).2 := ⟨_, rfl⟩
    rw [← hoe] at ho hval ⊢
    have h16 : (65536 : Int) ^ (15 + 1) = 65536 * 65536 ^ 15 := by decide
    have hp15 : (0 : Int) < 65536 ^ 15 := by decide
    rw [h16] at hval
    generalize (65536 : Int) ^ 15 = Q at *
    generalize fvs (carL (x / 65536) r).1 = D at *
    generalize fvs r = E at *
    have o3 : o = -1 ∨ o = 0 ∨ o = 1 := by omega
    rcases o3 with rfl | rfl | rfl
    · omega
    · omega
    · omega
  · exact hbits y hy
/-- The pieces on the way, ahead of step i. -/
def mC (l : List Int) (i : Nat) : List Int := if i < 16 then (carL 0 (l.take i)).1 ++ (iat l i + (carL 0 (l.take i)).2) :: l.drop (i + 1) else carI l
def vC (l : List Int) (i : Nat) : Int := iat l i + (carL 0 (l.take i)).2
theorem mC_zero (l : List Int) (hl : l.length = 16) : mC l 0 = l := by
  match l, hl with
  | x :: r, _ => simp [mC, carL, iat]
theorem mC_len (l : List Int) (hl : l.length = 16) (i : Nat) : (mC l i).length = 16 := by
  unfold mC
  split
  · rw [List.length_append, carL_len, List.length_cons, List.length_take, List.length_drop]; omega
  · rw [carI_len, hl]
theorem set_mid (A R : List Int) (v x : Int) (i : Nat) (h : A.length = i) : (A ++ v :: R).set i x = A ++ x :: R := by
  rw [List.set_append_right _ _ (by omega), h, Nat.sub_self, List.set_cons_zero]
theorem iat_mid (A R : List Int) (v : Int) (i : Nat) (h : A.length = i) : iat (A ++ v :: R) i = v := by
  rw [iat, List.getD_eq_getElem?_getD, List.getElem?_append_right (by omega), h, Nat.sub_self]; rfl
theorem car_take_len (l : List Int) (hl : l.length = 16) (i : Nat) (hi : i ≤ 16) : (carL 0 (l.take i)).1.length = i := by rw [carL_len, List.length_take]; omega
theorem mC_at (l : List Int) (hl : l.length = 16) (i : Nat) (hi : i < 16) : iat (mC l i) i = vC l i := by
  rw [mC, if_pos hi, iat_mid _ _ _ _ (car_take_len l hl i (by omega)), vC]
theorem mC_next (l : List Int) (hl : l.length = 16) (i : Nat) (hi : i < 15) (x : Int) : iat ((mC l i).set i x) (i + 1) = iat l (i + 1) ∧ ((mC l i).set i (vC l i - vC l i / 65536 * 65536)).set (i + 1) (iat l (i + 1) + vC l i / 65536) = mC l (i + 1) := by
  have hA := car_take_len l hl i (by omega)
  have hd : l.drop (i + 1) = iat l (i + 1) :: l.drop (i + 1 + 1) := by rw [List.drop_eq_getElem_cons (by omega)]; simp [iat, List.getElem?_eq_getElem (show i + 1 < l.length by omega)]
  have hs := carL_snoc (l.take i) (iat l i) 0
  rw [← take_iat (by omega)] at hs
  constructor
  · rw [mC, if_pos (by omega), set_mid _ _ _ _ _ hA, hd]
    have : (carL 0 (l.take i)).1 ++ x :: iat l (i + 1) :: l.drop (i + 1 + 1) = ((carL 0 (l.take i)).1 ++ [x]) ++ iat l (i + 1) :: l.drop (i + 1 + 1) := by simp
    rw [this, iat_mid _ _ _ _ (by rw [List.length_append, hA]; rfl)]
  · rw [mC, if_pos (by omega), set_mid _ _ _ _ _ hA, hd]
    have : ∀ y z, (carL 0 (l.take i)).1 ++ y :: z :: l.drop (i + 1 + 1) = ((carL 0 (l.take i)).1 ++ [y]) ++ z :: l.drop (i + 1 + 1) := by intro y z; simp
    rw [this, set_mid _ _ _ _ _ (by rw [List.length_append, hA]; rfl), mC, if_pos (by omega), hs, vC]
theorem mC_last (l : List Int) (hl : l.length = 16) (x : Int) : iat ((mC l 15).set 15 x) 0 = iat (carL 0 l).1 0 ∧ ((mC l 15).set 15 (vC l 15 - vC l 15 / 65536 * 65536)).set 0 (iat (carL 0 l).1 0 + 38 * (vC l 15 / 65536)) = mC l 16 := by
  have hA := car_take_len l hl 15 (by omega)
  have hd : l.drop 16 = [] := List.drop_eq_nil_of_le (by omega)
  have hs := carL_snoc (l.take 15) (iat l 15) 0
  rw [← take_iat (by omega), List.take_of_length_le (by omega)] at hs
  have hc : carI l = (carL 0 l).1.set 0 (iat (carL 0 l).1 0 + 38 * (carL 0 l).2) := rfl
  constructor
  · rw [mC, if_pos (by omega), set_mid _ _ _ _ _ hA, hd, hs]
    match (carL 0 (l.take 15)).1, hA with
    | y :: r, _ => simp [iat]
  · rw [mC, if_pos (by omega), set_mid _ _ _ _ _ hA, hd]
    rw [mC, if_neg (by omega), hc, hs, vC]
theorem vC_small (l : List Int) (hl : l.length = 16) (hb : ∀ x ∈ l, -140737488355328 ≤ x ∧ x ≤ 140737488355328) (i : Nat) (hi : i < 16) : -281474976710656 ≤ vC l i ∧ vC l i ≤ 281474976710656 := by
  have h1 := carL_over (l.take i) 140737488355328 4294967296 (by decide) (fun y hy => hb y (List.mem_of_mem_take hy)) 0 (by decide) (by decide)
  have h2 : iat l i ∈ l := by
    rw [iat, List.getD_eq_getElem?_getD, List.getElem?_eq_getElem (by omega)]
    exact List.getElem_mem _
  have h3 := hb _ h2
  unfold vC
  omega
theorem mem_iat {l : List Int} {P : Int → Prop} (h : ∀ x ∈ l, P x) {k : Nat} (hk : k < l.length) : P (iat l k) := by
  rw [iat, List.getD_eq_getElem?_getD, List.getElem?_eq_getElem hk]
  exact h _ (List.getElem_mem _)
theorem near_iat {l : List Int} (h : Near l) (k : Nat) (hk : k < 16) : -38 ≤ iat l k ∧ iat l k ≤ 65573 := mem_iat (P := fun x => -38 ≤ x ∧ x ≤ 65573) (near_mem h) (by rw [h.len]; exact hk)
theorem iat_set_other (l : List Int) (k j : Nat) (x : Int) (h : k ≠ j) : iat (l.set k x) j = iat l j := by
  rw [iat, iat, List.getD_eq_getElem?_getD, List.getD_eq_getElem?_getD, List.getElem?_set_ne h]
theorem mem_set {l : List Int} {P : Int → Prop} (h : ∀ x ∈ l, P x) {k : Nat} {y : Int} (hy : P y) : ∀ x ∈ l.set k y, P x := by
  intro x hx
  rcases List.mem_or_eq_of_mem_set hx with h1 | h1
  · exact h x h1
  · rw [h1]; exact hy
theorem iat_zeros (n k : Nat) : iat (List.replicate n 0) k = 0 := by
  rw [iat, List.getD_eq_getElem?_getD, List.getElem?_replicate]
  split <;> rfl
/-- One round of a loop that fills pieces: the value, what stays, the bounds. -/
structure Fill (o : List Int) (N : Int) (i : Nat) (rest : Nat → Int) (B : Int → Prop) : Prop where
  len : o.length = 16
  val : fvs o = N
  rest : ∀ j, i ≤ j → j < 16 → iat o j = rest j
  bnd : ∀ x ∈ o, B x
theorem Fill.step {o : List Int} {N : Int} {i : Nat} {rest : Nat → Int} {B : Int → Prop} (h : Fill o N i rest B) (hi : i < 16) (x : Int) (hx : B x) : Fill (o.set i x) (N + (x - rest i) * 65536 ^ i) (i + 1) rest B :=
  ⟨by rw [List.length_set, h.len], by rw [fvs_set _ _ _ (by rw [h.len]; exact hi), h.val, h.rest i (Nat.le_refl _) hi], fun j h1 h2 => by rw [iat_set_other _ _ _ _ (by omega)]; exact h.rest j (by omega) h2, mem_set h.bnd hx⟩
theorem fvs_all (l : List Int) (h : l.length = 16) : fvs (l.take 16) = fvs l := by rw [List.take_of_length_le (by omega)]
/-- Pieces as the cells of a row. -/
def i64v (l : List Int) : List Value := l.map fun x => Value.int .i64 x
theorem i64v_len (l : List Int) : (i64v l).length = l.length := by simp [i64v]
theorem i64v_at (l : List Int) (k : Nat) : (i64v l)[k]? = l[k]?.map fun x => Value.int .i64 x := by simp [i64v]
theorem i64v_set (l : List Int) (k : Nat) (x : Int) : (i64v l).set k (.int .i64 x) = i64v (l.set k x) := by simp [i64v, List.map_set]
theorem i64v_one (l : List Int) : ∀ u ∈ i64v l, u.oneCell' = true := by
  intro u hu
  obtain ⟨b, _, rfl⟩ := List.mem_map.1 hu
  rfl
theorem i64v_size (l : List Int) (h : l.length = 16) : (i64v l).toArray.size = 16 := by simp [i64v_len, h]
theorem int_at {w : World} {g : Nat} {l : List Int} {t : TypeId} (hg : w.heap[g]? = some (.cells (i64v l).toArray t (0, 0))) (k : Nat) (hk : k < l.length) : w.cell? ⟨g, k, none⟩ = some (.int .i64 (iat l k)) := by
  rw [cell_of_row _ _ _ _ _ _ hg]
  simp [i64v_at, iat, List.getElem?_eq_getElem hk]
theorem iat_set_same (l : List Int) (k : Nat) (x : Int) (h : k < l.length) : iat (l.set k x) k = x := by simp [iat, List.getD_eq_getElem?_getD, h]
end Go.Proofs.YtehkalbiomagjaaDoor
namespace Go.Proofs.YtehkalbiomagjaaDoor
open Go.RowKit

def z16 : List Int := List.replicate 16 0
theorem z16_len : z16.length = 16 := rfl
theorem zero_fe (w : World) : (zeroValue 55).run Tryd.prog w = .ok (.agg (i64v z16).toArray) w := by kernel_rfl
set_option maxRecDepth 100000 in
set_option maxHeartbeats 2000000 in
theorem rcar_any (w : World) (l : List Int) (hl : l.length = 16) (hb : ∀ x ∈ l, -140737488355328 ≤ x ∧ x ≤ 140737488355328) :
    Calls Tryd.prog 67 #[.agg (i64v l).toArray] w fun e w' => ∃ r, e = .returned (.agg (i64v r).toArray) ∧ Vlt (r = carI l) ∧ Hid (r.length = 16) ∧ Below w.heap.size w w' := by
  have hzf := zero_fe
  obtain ⟨W, hW, hgA, hgZ, hbW, hsW⟩ := pair_new w (i64v l).toArray (i64v z16).toArray 55 55
  have HW := Lib.hid hW
  have HL := Lib.hid hl
  have HB := vlt hb
  have hs : w.heap.size + 1 < W.heap.size := by have := hsW.out; omega
  clear hW hl hb hsW
  go_enter Tryd.func67, Tryd.ntmps67
  go_upto_region 1 with fail
  rw [HW.out]
  go_wp2_with fail
  go_loopw [3] (fun s wr => ∃ i : Nat, i ≤ 16 ∧ s = .int .i64 (i : Int) ∧ Hid (wr.heap[w.heap.size]? = some (.cells (i64v (mC l i)).toArray 55 (0, 0))) ∧ But w.heap.size W wr) (fun s _ => 16 - (intOf s).toNat)
  case atStart => exact ⟨0, by omega, rfl, by rw [mC_zero l HL.out]; exact hgA, But.refl _ _⟩
  case round =>
    obtain ⟨i, hi, rfl, hg, hbt⟩ := hrel
    by_cases hlt : i < 16
    · obtain ⟨M, hM⟩ : ∃ M, M = mC l i := ⟨_, rfl⟩
      rw [← hM] at hg
      have HML := Lib.hid (show M.length = 16 by rw [hM, mC_len l HL.out])
      have hv := vC_small l HL.out HB.out i hlt
      have c0 := int_at hg.out i (by rw [HML.out]; exact hlt)
      rw [show iat M i = vC l i by rw [hM, mC_at l HL.out i hlt]] at c0
      have f0 : wr.frozen? ⟨w.heap.size, i, none⟩ = false := frozen_of_row _ _ _ _ _ hg.out
      obtain ⟨v, hve⟩ : ∃ v, v = vC l i := ⟨_, rfl⟩
      rw [← hve] at c0 hv
      have lq : -4294967296 ≤ v / 65536 ∧ v / 65536 ≤ 4294967296 := by omega
      have hs0 := world_set_cell hg.out i (.int .i64 (v - v / 65536 * 65536))
      have hb0 := hbt.set (i := i) (.int .i64 (v - v / 65536 * 65536))
      rw [i64v_set] at hs0
      by_cases h15 : i < 15
      · have hn := mC_next l HL.out i h15 (v - v / 65536 * 65536)
        rw [← hM, ← hve] at hn
        have lx : -140737488355328 ≤ iat l (i + 1) ∧ iat l (i + 1) ≤ 140737488355328 := HB.out _ (by rw [iat, List.getD_eq_getElem?_getD, List.getElem?_eq_getElem (by rw [HL.out]; omega)]; exact List.getElem_mem _)
        have c1 := int_at hs0.out (i + 1) (by rw [List.length_set, HML.out]; omega)
        rw [hn.1] at c1
        have f1 : (wr.setCell ⟨w.heap.size, i, none⟩ (.int .i64 (v - v / 65536 * 65536))).frozen? ⟨w.heap.size, i + 1, none⟩ = false := frozen_of_row _ _ _ _ _ hs0.out
        have hs2 := world_set_cell hs0.out (i + 1) (.int .i64 (iat l (i + 1) + v / 65536))
        rw [i64v_set, hn.2] at hs2
        have hb2 := hb0.set (i := i + 1) (.int .i64 (iat l (i + 1) + v / 65536))
        generalize iat l (i + 1) = x at *
        clear hn hM hve hs0 hb0
        go_wp2
        go_roundw
        case rel => exact ⟨i + 1, by omega, by go_num, hs2, hb2⟩
        case measure => simp [intOf]; omega
      · obtain rfl : i = 15 := by omega
        have hn := mC_last l HL.out (v - v / 65536 * 65536)
        rw [← hM, ← hve] at hn
        have lx : 0 ≤ iat (carL 0 l).1 0 ∧ iat (carL 0 l).1 0 ≤ 65535 := carL_bits l 0 _ (by rw [iat, List.getD_eq_getElem?_getD, List.getElem?_eq_getElem (by rw [carL_len, HL.out]; decide)]; exact List.getElem_mem _)
        have c1 := int_at hs0.out 0 (by rw [List.length_set, HML.out]; omega)
        rw [hn.1] at c1
        have f1 : (wr.setCell ⟨w.heap.size, 15, none⟩ (.int .i64 (v - v / 65536 * 65536))).frozen? ⟨w.heap.size, 0, none⟩ = false := frozen_of_row _ _ _ _ _ hs0.out
        have hs2 := world_set_cell hs0.out 0 (.int .i64 (iat (carL 0 l).1 0 + 38 * (v / 65536)))
        rw [i64v_set, hn.2] at hs2
        have hb2 := hb0.set (i := 0) (.int .i64 (iat (carL 0 l).1 0 + 38 * (v / 65536)))
        generalize iat (carL 0 l).1 0 = x at *
        clear hn hM hve hs0 hb0
        go_wp2
        go_roundw
        case rel => exact ⟨16, by omega, by go_num, hs2, hb2⟩
        case measure => simp [intOf]
    · obtain rfl : i = 16 := by omega
      obtain ⟨T, hT⟩ : ∃ T, T = carI l := ⟨_, rfl⟩
      rw [show mC l 16 = T by rw [hT, mC, if_neg (by decide)]] at hg
      have HT := vlt hT
      have HTL := Lib.hid (show T.length = 16 by rw [hT, carI_len, HL.out])
      clear hT
      have hsz := Lib.hid (i64v_size T HTL.out)
      have hz : Hid (wr.heap[w.heap.size + 1]? = some (.cells (i64v z16).toArray 55 (0, 0))) := (hbt.block _ (by omega) (by intro e; injection e; omega)).trans hgZ.out
      have hbw : Below w.heap.size w wr := But.below hbW hbt (by omega) (by omega)
      go_wp2_with (first
        | (with_reducible refine wpList_load_row rfl 55 (.tmp 1) rfl w.heap.size rfl 55 (i64v T).toArray (0, 0) _ hg.out Tryd.underlying55 rfl (by rw [hsz.out]; kernel_rfl) ?_)
        | (with_reducible refine wpList_store_row rfl 55 (.tmp 2) (.tmp 38) rfl (w.heap.size + 1) (i64v T).toArray rfl rfl 55 _ hz.out (by rw [hsz.out]; kernel_rfl) (by rw [hsz.out]; kernel_rfl) (all_oneCell_toArray (i64v_one _)) ?_))
      refine bodyPost_ret (v := .agg (i64v T).toArray) (results_cell_row Tryd.results67 _ _ (w.heap.size + 1) 55 _ (0, 0) _ rfl (setRow_heap _ _ _ _ _ _ hz.out) Tryd.underlying55 rfl (by rw [hsz.out]; kernel_rfl)) rfl ⟨T, rfl, HT, HTL, below_setRow hbw (by omega) _⟩
end Go.Proofs.YtehkalbiomagjaaDoor
namespace Go.Proofs.YtehkalbiomagjaaDoor
open Go.RowKit

theorem ln_pair (b : List UInt8) (i c d : Nat) (hc : b[2 * i]? = some (UInt8.ofNat c)) (hd : b[2 * i + 1]? = some (UInt8.ofNat d)) (lc : c < 256) (ld : d < 256) (h : 2 * i + 1 < b.length) :
    ((ln (b.take (2 * (i + 1))) : Nat) : Int) = (ln (b.take (2 * i)) : Int) + ((c : Int) + (d : Int) * 256 - 0) * 65536 ^ i := by
  rw [show 2 * (i + 1) = 2 * i + 1 + 1 by omega, take_at hd, ln_snoc, take_at hc, ln_snoc]
  simp only [List.length_append, List.length_take, List.length_cons, List.length_nil]
  rw [Nat.min_eq_left (by omega), Nat.pow_mul, show (256 : Nat) ^ 2 = 65536 by decide, Nat.pow_succ, Nat.pow_mul, show (256 : Nat) ^ 2 = 65536 by decide]
  rw [UInt8.toNat_ofNat', UInt8.toNat_ofNat', show (2 : Nat) ^ 8 = 256 by decide, Nat.mod_eq_of_lt lc, Nat.mod_eq_of_lt ld]
  simp only [Int.natCast_add, Int.natCast_mul, Int.natCast_pow, Int.cast_ofNat_Int]
  grind
theorem byte_ex (b : List UInt8) (k : Nat) (h : k < b.length) : ∃ c : Nat, c < 256 ∧ b[k]? = some (UInt8.ofNat c) := ⟨b[k].toNat, UInt8.toNat_lt _, by rw [List.getElem?_eq_getElem h, UInt8.ofNat_toNat]⟩
theorem byte_cell' {w : World} {g k : Nat} {l : List UInt8} {t : TypeId} {c : Nat} (hg : w.heap[g]? = some (.cells (bv l).toArray t (0, 0))) (lc : c < 256) (hb : l[k]? = some (UInt8.ofNat c)) : w.cell? ⟨g, k, none⟩ = some (.int .u8 (c : Int)) := by
  have := byte_cell hg hb
  rwa [UInt8.toNat_ofNat', show (2 : Nat) ^ 8 = 256 by decide, Nat.mod_eq_of_lt lc] at this
set_option maxRecDepth 100000 in
set_option maxHeartbeats 2000000 in
theorem rin_any (w : World) (b : List UInt8) (hb : b.length = 32) :
    Calls Tryd.prog 58 #[.agg (bv b).toArray] w fun e w' => ∃ r, e = .returned (.agg (i64v r).toArray) ∧ Vlt (fvs r = (ln b : Int) ∧ Can r) ∧ Hid (r.length = 16) ∧ Below w.heap.size w w' := by
  have hzf := zero_fe
  obtain ⟨W, hW, hgA, hgZ, hbW, hsW⟩ := pair_new w (bv b).toArray (i64v z16).toArray 23 55
  have HW := Lib.hid hW
  have HB := Lib.hid hb
  have hs : w.heap.size + 1 < W.heap.size := by have := hsW.out; omega
  clear hW hb hsW
  go_enter Tryd.func58, Tryd.ntmps58
  go_upto_region 1 with fail
  rw [HW.out]
  go_upto_region 2 with ((with_reducible refine wpList_store_row rfl 55 (.tmp 3) (.tmp 5) rfl W.heap.size (i64v z16).toArray rfl rfl 55 _ (heap_alloc_new _ _) (by kernel_rfl) (by kernel_rfl) (all_oneCell_toArray (i64v_one _)) ?_); rw [World.setRow_alloc_new])
  obtain ⟨V, hV⟩ : ∃ V, V = W.alloc (.cells (i64v z16).toArray 55) := ⟨_, rfl⟩
  rw [← hV]
  have gA : Hid (V.heap[w.heap.size]? = some (.cells (bv b).toArray 23 (0, 0))) := by rw [hV]; exact (Below.heap_alloc _ _ _ (by omega)).trans hgA.out
  have gZ : Hid (V.heap[w.heap.size + 1]? = some (.cells (i64v z16).toArray 55 (0, 0))) := by rw [hV]; exact (Below.heap_alloc _ _ _ (by omega)).trans hgZ.out
  have gO : Hid (V.heap[W.heap.size]? = some (.cells (i64v z16).toArray 55 (0, 0))) := by rw [hV]; exact heap_alloc_new _ _
  have hbV : Below w.heap.size w V := by rw [hV]; exact hbW.alloc hbW.size _
  obtain ⟨R, hR⟩ : ∃ R, R = W.heap.size := ⟨_, rfl⟩
  rw [← hR] at gO hs ⊢
  clear hV hR hgA hgZ
  have hsV : R < V.heap.size := (Array.getElem?_eq_some_iff.1 gO.out).1
  go_wp2_with fail
  go_loopw [4] (fun s wr => ∃ (i : Nat) (o : List Int), i ≤ 16 ∧ s = .int .i64 (i : Int) ∧ Hid (wr.heap[R]? = some (.cells (i64v o).toArray 55 (0, 0))) ∧ Vlt (Fill o (ln (b.take (2 * i)) : Int) i (fun _ => 0) (fun x => 0 ≤ x ∧ x ≤ 65535)) ∧ But R V wr) (fun s _ => 16 - (intOf s).toNat)
  case atStart => exact ⟨0, z16, by omega, rfl, gO, vlt ⟨rfl, by rw [z16, fvs_zeros]; rfl, fun j _ _ => iat_zeros _ _, fun x hx => by rw [List.eq_of_mem_replicate hx]; decide⟩, But.refl _ _⟩
  case round =>
    obtain ⟨i, o, hi, rfl, hg, hF, hbt⟩ := hrel
    by_cases hlt : i < 16
    · have hgb : Hid (wr.heap[w.heap.size]? = some (.cells (bv b).toArray 23 (0, 0))) := (hbt.block _ (by omega) (by intro e; injection e; omega)).trans gA.out
      obtain ⟨c, lc, hc⟩ := byte_ex b (2 * i) (by rw [HB.out]; omega)
      obtain ⟨d, ld, hd⟩ := byte_ex b (2 * i + 1) (by rw [HB.out]; omega)
      have c0 := byte_cell' hgb.out lc hc
      have c1 := byte_cell' hgb.out ld hd
      have hL := vlt (ln_pair b i c d hc hd lc ld (by rw [HB.out]; omega))
      have hF2 := vlt (hF.out.step hlt ((c : Int) + (d : Int) * 256) (by omega))
      have f0 : wr.frozen? ⟨R, i, none⟩ = false := frozen_of_row _ _ _ _ _ hg.out
      have u0 := int_at hg.out i (by rw [hF.out.len]; exact hlt)
      have hs2 := world_set_cell hg.out i (.int .i64 ((c : Int) + (d : Int) * 256))
      rw [i64v_set] at hs2
      have hb2 := hbt.set (i := i) (.int .i64 ((c : Int) + (d : Int) * 256))
      clear hc hd
      generalize iat o i = oi at u0
      go_wp2_with fail
      go_region
      go_wp2
      go_roundw
      case rel => exact ⟨i + 1, _, by omega, by go_num, hs2, vlt (by have h := hF2.out; rw [← hL.out] at h; exact h), hb2.drew⟩
      case measure => simp [intOf]; omega
    · obtain rfl : i = 16 := by omega
      have HE := vlt (show fvs o = (ln b : Int) ∧ Can o from ⟨by rw [hF.out.val, List.take_of_length_le (by rw [HB.out]; decide)], hF.out.len, hF.out.bnd⟩)
      have HOL := Lib.hid hF.out.len
      have hsz := Lib.hid (i64v_size o hF.out.len)
      have hz : Hid (wr.heap[w.heap.size + 1]? = some (.cells (i64v z16).toArray 55 (0, 0))) := (hbt.block _ (by omega) (by intro e; injection e; omega)).trans gZ.out
      have hbw : Below w.heap.size w wr := But.below hbV hbt (by omega) (by omega)
      go_wp2_with (first
        | (with_reducible refine wpList_load_row rfl 55 (.tmp 3) rfl R rfl 55 (i64v o).toArray (0, 0) _ hg.out Tryd.underlying55 rfl (by rw [hsz.out]; kernel_rfl) ?_)
        | (with_reducible refine wpList_store_row rfl 55 (.tmp 2) (.tmp 25) rfl (w.heap.size + 1) (i64v o).toArray rfl rfl 55 _ hz.out (by rw [hsz.out]; kernel_rfl) (by rw [hsz.out]; kernel_rfl) (all_oneCell_toArray (i64v_one _)) ?_))
      refine bodyPost_ret (v := .agg (i64v o).toArray) (results_cell_row Tryd.results58 _ _ (w.heap.size + 1) 55 _ (0, 0) _ rfl (setRow_heap _ _ _ _ _ _ hz.out) Tryd.underlying55 rfl (by rw [hsz.out]; kernel_rfl)) rfl ⟨o, rfl, HE, HOL, below_setRow hbw (by omega) _⟩

set_option maxRecDepth 100000 in
set_option maxHeartbeats 2000000 in
theorem rplus_any (w : World) (a b : List Int) (hna : Near a) (hnb : Near b) :
    Calls Tryd.prog 61 #[.agg (i64v a).toArray, .agg (i64v b).toArray] w fun e w' => ∃ r, e = .returned (.agg (i64v r).toArray) ∧ Vlt (Near r ∧ fvs r % (FP : Int) = (fvs a + fvs b) % (FP : Int)) ∧ Hid (r.length = 16) ∧ Below w.heap.size w w' := by
  have hzf := zero_fe
  obtain ⟨W, hW, gA, gB, gZ, hbW, hsW⟩ := three_new w (i64v a).toArray (i64v b).toArray (i64v z16).toArray 55 55 55
  have HW := Lib.hid hW
  have NA := vlt hna
  have NB := vlt hnb
  have hs : w.heap.size + 2 < W.heap.size := by have := hsW.out; omega
  clear hW hna hnb hsW
  go_enter Tryd.func61, Tryd.ntmps61
  go_upto_region 1 with fail
  rw [HW.out]
  go_wp2_with fail
  go_loopw [5] (fun s wr => ∃ (i : Nat) (o : List Int), i ≤ 16 ∧ s = .int .i64 (i : Int) ∧ Hid (wr.heap[w.heap.size]? = some (.cells (i64v o).toArray 55 (0, 0))) ∧ Vlt (Fill o (fvs a + fvs (b.take i)) i (fun j => iat a j) (fun x => -262144 ≤ x ∧ x ≤ 262144)) ∧ But w.heap.size W wr) (fun s _ => 16 - (intOf s).toNat)
  case atStart => exact ⟨0, a, by omega, rfl, gA, vlt ⟨NA.out.len, by simp [fvs], fun j _ _ => rfl, fun x hx => by have := near_mem NA.out x hx; omega⟩, But.refl _ _⟩
  case round =>
    obtain ⟨i, o, hi, rfl, hg, hF, hbt⟩ := hrel
    by_cases hlt : i < 16
    · have hgb : Hid (wr.heap[w.heap.size + 1]? = some (.cells (i64v b).toArray 55 (0, 0))) := (hbt.block _ (by omega) (by intro e; injection e; omega)).trans gB.out
      have la := near_iat NA.out i hlt
      have lb := near_iat NB.out i hlt
      have hF2 := vlt (hF.out.step hlt (iat a i + iat b i) (by omega))
      have hft := vlt (fvs_take b i (by rw [NB.out.len]; exact hlt))
      have f0 : wr.frozen? ⟨w.heap.size, i, none⟩ = false := frozen_of_row _ _ _ _ _ hg.out
      have c0 := int_at hg.out i (by rw [hF.out.len]; exact hlt)
      rw [hF.out.rest i (Nat.le_refl _) hlt] at c0
      have c1 := int_at hgb.out i (by rw [NB.out.len]; exact hlt)
      have hs2 := world_set_cell hg.out i (.int .i64 (iat a i + iat b i))
      rw [i64v_set] at hs2
      have hb2 := hbt.set (i := i) (.int .i64 (iat a i + iat b i))
      have hF3 := vlt (show Fill (o.set i (iat a i + iat b i)) (fvs a + fvs (b.take (i + 1))) (i + 1) (fun j => iat a j) (fun x => -262144 ≤ x ∧ x ≤ 262144) by
        have h := hF2.out
        rw [show fvs a + fvs (b.take i) + (iat a i + iat b i - iat a i) * 65536 ^ i = fvs a + fvs (b.take (i + 1)) by rw [hft.out]; grind] at h
        exact h)
      clear hF2 hft
      obtain ⟨x, hx⟩ : ∃ x, x = iat a i := ⟨_, rfl⟩
      obtain ⟨y, hy⟩ : ∃ y, y = iat b i := ⟨_, rfl⟩
      rw [← hx] at la c0 hs2 hb2 hF3
      rw [← hy] at lb c1 hs2 hb2 hF3
      clear hx hy
      go_wp2_with fail
      go_region
      go_wp2
      go_roundw
      case rel => exact ⟨i + 1, _, by omega, by go_num, hs2, hF3, hb2.drew⟩
      case measure => simp [intOf]; omega
    · obtain rfl : i = 16 := by omega
      have HV := vlt (show fvs o = fvs a + fvs b by rw [hF.out.val, fvs_all b NB.out.len])
      have HOL := Lib.hid hF.out.len
      have HT := vlt (carI_twice o hF.out.len (fun x hx => by have := hF.out.bnd x hx; omega))
      have hsz := Lib.hid (i64v_size o hF.out.len)
      have HOB := vlt (fun x hx => hF.out.bnd x hx)
      have hz : Hid (wr.heap[w.heap.size + 2]? = some (.cells (i64v z16).toArray 55 (0, 0))) := (hbt.block _ (by omega) (by intro e; injection e; omega)).trans gZ.out
      have hbw : Below w.heap.size w wr := But.below hbW hbt (by omega) (by omega)
      have hsr : w.heap.size + 2 < wr.heap.size := (Array.getElem?_eq_some_iff.1 hz.out).1
      clear hF
      go_wp2_with (with_reducible refine wpList_load_row rfl 55 (.tmp 2) rfl w.heap.size rfl 55 (i64v o).toArray (0, 0) _ hg.out Tryd.underlying55 rfl (by rw [hsz.out]; kernel_rfl) ?_)
      refine (rcar_any wr o HOL.out (fun x hx => by have := HOB.out x hx; omega)).mono ?_
      rintro e w2 ⟨r1, rfl, e1, hr1, hb1⟩
      have hz1 : Hid (w2.heap[w.heap.size + 2]? = some (.cells (i64v z16).toArray 55 (0, 0))) := (hb1.block _ hsr).trans hz.out
      have hbw1 := below_next hbw hbw.size hb1
      have hsr1 : w.heap.size + 2 < w2.heap.size := (Array.getElem?_eq_some_iff.1 hz1.out).1
      go_wp2_with fail
      refine (rcar_any w2 r1 hr1.out (fun x hx => by rw [e1.out] at hx; have := HT.out.2.2 x hx; omega)).mono ?_
      rintro e w3 ⟨r2, rfl, e2, hr2, hb2⟩
      have HE := vlt (show Near r2 ∧ fvs r2 % (FP : Int) = (fvs a + fvs b) % (FP : Int) by rw [e2.out, e1.out, ← HV.out]; exact ⟨HT.out.1, HT.out.2.1⟩)
      clear e1 e2 HT HV
      have hz2 : Hid (w3.heap[w.heap.size + 1 + 1]? = some (.cells (i64v z16).toArray 55 (0, 0))) := (hb2.block _ hsr1).trans hz1.out
      have hbw2 := below_next hbw1 hbw1.size hb2
      have hsz2 := Lib.hid (i64v_size r2 hr2.out)
      go_wp2_with (with_reducible refine wpList_store_row rfl 55 (.tmp 4) (.tmp 21) rfl (w.heap.size + 1 + 1) (i64v r2).toArray rfl rfl 55 _ hz2.out (by rw [hsz2.out]; kernel_rfl) (by rw [hsz2.out]; kernel_rfl) (all_oneCell_toArray (i64v_one _)) ?_)
      refine bodyPost_ret (v := .agg (i64v r2).toArray) (results_cell_row Tryd.results61 _ _ (w.heap.size + 1 + 1) 55 _ (0, 0) _ rfl (setRow_heap _ _ _ _ _ _ hz2.out) Tryd.underlying55 rfl (by rw [hsz2.out]; kernel_rfl)) rfl ⟨r2, rfl, HE, hr2, below_setRow hbw2 (by omega) _⟩

set_option maxRecDepth 100000 in
set_option maxHeartbeats 2000000 in
theorem rminus_any (w : World) (a b : List Int) (hna : Near a) (hnb : Near b) :
    Calls Tryd.prog 40 #[.agg (i64v a).toArray, .agg (i64v b).toArray] w fun e w' => ∃ r, e = .returned (.agg (i64v r).toArray) ∧ Vlt (Near r ∧ fvs r % (FP : Int) = (fvs a - fvs b) % (FP : Int)) ∧ Hid (r.length = 16) ∧ Below w.heap.size w w' := by
  have hzf := zero_fe
  obtain ⟨W, hW, gA, gB, gZ, hbW, hsW⟩ := three_new w (i64v a).toArray (i64v b).toArray (i64v z16).toArray 55 55 55
  have HW := Lib.hid hW
  have NA := vlt hna
  have NB := vlt hnb
  have hs : w.heap.size + 2 < W.heap.size := by have := hsW.out; omega
  clear hW hna hnb hsW
  go_enter Tryd.func40, Tryd.ntmps40
  go_upto_region 1 with fail
  rw [HW.out]
  go_wp2_with fail
  go_loopw [5] (fun s wr => ∃ (i : Nat) (o : List Int), i ≤ 16 ∧ s = .int .i64 (i : Int) ∧ Hid (wr.heap[w.heap.size]? = some (.cells (i64v o).toArray 55 (0, 0))) ∧ Vlt (Fill o (fvs a - fvs (b.take i)) i (fun j => iat a j) (fun x => -262144 ≤ x ∧ x ≤ 262144)) ∧ But w.heap.size W wr) (fun s _ => 16 - (intOf s).toNat)
  case atStart => exact ⟨0, a, by omega, rfl, gA, vlt ⟨NA.out.len, by simp [fvs], fun j _ _ => rfl, fun x hx => by have := near_mem NA.out x hx; omega⟩, But.refl _ _⟩
  case round =>
    obtain ⟨i, o, hi, rfl, hg, hF, hbt⟩ := hrel
    by_cases hlt : i < 16
    · have hgb : Hid (wr.heap[w.heap.size + 1]? = some (.cells (i64v b).toArray 55 (0, 0))) := (hbt.block _ (by omega) (by intro e; injection e; omega)).trans gB.out
      have la := near_iat NA.out i hlt
      have lb := near_iat NB.out i hlt
      have hF2 := vlt (hF.out.step hlt (iat a i - iat b i) (by omega))
      have hft := vlt (fvs_take b i (by rw [NB.out.len]; exact hlt))
      have f0 : wr.frozen? ⟨w.heap.size, i, none⟩ = false := frozen_of_row _ _ _ _ _ hg.out
      have c0 := int_at hg.out i (by rw [hF.out.len]; exact hlt)
      rw [hF.out.rest i (Nat.le_refl _) hlt] at c0
      have c1 := int_at hgb.out i (by rw [NB.out.len]; exact hlt)
      have hs2 := world_set_cell hg.out i (.int .i64 (iat a i - iat b i))
      rw [i64v_set] at hs2
      have hb2 := hbt.set (i := i) (.int .i64 (iat a i - iat b i))
      have hF3 := vlt (show Fill (o.set i (iat a i - iat b i)) (fvs a - fvs (b.take (i + 1))) (i + 1) (fun j => iat a j) (fun x => -262144 ≤ x ∧ x ≤ 262144) by
        have h := hF2.out
        rw [show fvs a - fvs (b.take i) + (iat a i - iat b i - iat a i) * 65536 ^ i = fvs a - fvs (b.take (i + 1)) by rw [hft.out]; grind] at h
        exact h)
      clear hF2 hft
      obtain ⟨x, hx⟩ : ∃ x, x = iat a i := ⟨_, rfl⟩
      obtain ⟨y, hy⟩ : ∃ y, y = iat b i := ⟨_, rfl⟩
      rw [← hx] at la c0 hs2 hb2 hF3
      rw [← hy] at lb c1 hs2 hb2 hF3
      clear hx hy
      go_wp2_with fail
      go_region
      go_wp2
      go_roundw
      case rel => exact ⟨i + 1, _, by omega, by go_num, hs2, hF3, hb2.drew⟩
      case measure => simp [intOf]; omega
    · obtain rfl : i = 16 := by omega
      have HV := vlt (show fvs o = fvs a - fvs b by rw [hF.out.val, fvs_all b NB.out.len])
      have HOL := Lib.hid hF.out.len
      have HT := vlt (carI_twice o hF.out.len (fun x hx => by have := hF.out.bnd x hx; omega))
      have hsz := Lib.hid (i64v_size o hF.out.len)
      have HOB := vlt (fun x hx => hF.out.bnd x hx)
      have hz : Hid (wr.heap[w.heap.size + 2]? = some (.cells (i64v z16).toArray 55 (0, 0))) := (hbt.block _ (by omega) (by intro e; injection e; omega)).trans gZ.out
      have hbw : Below w.heap.size w wr := But.below hbW hbt (by omega) (by omega)
      have hsr : w.heap.size + 2 < wr.heap.size := (Array.getElem?_eq_some_iff.1 hz.out).1
      clear hF
      go_wp2_with (with_reducible refine wpList_load_row rfl 55 (.tmp 2) rfl w.heap.size rfl 55 (i64v o).toArray (0, 0) _ hg.out Tryd.underlying55 rfl (by rw [hsz.out]; kernel_rfl) ?_)
      refine (rcar_any wr o HOL.out (fun x hx => by have := HOB.out x hx; omega)).mono ?_
      rintro e w2 ⟨r1, rfl, e1, hr1, hb1⟩
      have hz1 : Hid (w2.heap[w.heap.size + 2]? = some (.cells (i64v z16).toArray 55 (0, 0))) := (hb1.block _ hsr).trans hz.out
      have hbw1 := below_next hbw hbw.size hb1
      have hsr1 : w.heap.size + 2 < w2.heap.size := (Array.getElem?_eq_some_iff.1 hz1.out).1
      go_wp2_with fail
      refine (rcar_any w2 r1 hr1.out (fun x hx => by rw [e1.out] at hx; have := HT.out.2.2 x hx; omega)).mono ?_
      rintro e w3 ⟨r2, rfl, e2, hr2, hb2⟩
      have HE := vlt (show Near r2 ∧ fvs r2 % (FP : Int) = (fvs a - fvs b) % (FP : Int) by rw [e2.out, e1.out, ← HV.out]; exact ⟨HT.out.1, HT.out.2.1⟩)
      clear e1 e2 HT HV
      have hz2 : Hid (w3.heap[w.heap.size + 1 + 1]? = some (.cells (i64v z16).toArray 55 (0, 0))) := (hb2.block _ hsr1).trans hz1.out
      have hbw2 := below_next hbw1 hbw1.size hb2
      have hsz2 := Lib.hid (i64v_size r2 hr2.out)
      go_wp2_with (with_reducible refine wpList_store_row rfl 55 (.tmp 4) (.tmp 21) rfl (w.heap.size + 1 + 1) (i64v r2).toArray rfl rfl 55 _ hz2.out (by rw [hsz2.out]; kernel_rfl) (by rw [hsz2.out]; kernel_rfl) (all_oneCell_toArray (i64v_one _)) ?_)
      refine bodyPost_ret (v := .agg (i64v r2).toArray) (results_cell_row Tryd.results40 _ _ (w.heap.size + 1 + 1) 55 _ (0, 0) _ rfl (setRow_heap _ _ _ _ _ _ hz2.out) Tryd.underlying55 rfl (by rw [hsz2.out]; kernel_rfl)) rfl ⟨r2, rfl, HE, hr2, below_setRow hbw2 (by omega) _⟩

end Go.Proofs.YtehkalbiomagjaaDoor
namespace Go.Proofs.YtehkalbiomagjaaDoor
open Go.RowKit

theorem prod16 (x y : Int) (h1 : -38 ≤ x) (h2 : x ≤ 65573) (h3 : -38 ≤ y) (h4 : y ≤ 65573) : -8589934592 ≤ x * y ∧ x * y ≤ 8589934592 := by
  have h : (x * y).natAbs ≤ 65573 * 65573 := by
    rw [Int.natAbs_mul]
    exact Nat.mul_le_mul (by omega) (by omega)
  omega
theorem fold_val (t : List Int) (h : t.length = 31) : (fvs (t.take 16) + 38 * fvs ((t.drop 16).take 16)) % (FP : Int) = fvs t % (FP : Int) := by
  have h1 : fvs t = fvs (t.take 16) + 65536 ^ 16 * fvs (t.drop 16) := by
    have := fvs_app (t.take 16) (t.drop 16)
    rw [List.take_append_drop, List.length_take, h] at this
    exact this
  rw [List.take_of_length_le (l := t.drop 16) (by rw [List.length_drop, h]; decide), h1, show (65536 : Int) ^ 16 = 2 * (FP : Int) + 38 by decide]
  rw [show fvs (t.take 16) + (2 * (FP : Int) + 38) * fvs (t.drop 16) = fvs (t.take 16) + 38 * fvs (t.drop 16) + (FP : Int) * (2 * fvs (t.drop 16)) by grind, Int.add_mul_emod_self_left]
theorem fold_step (t : List Int) (h : t.length = 31) (i : Nat) (hi : i < 15) : fvs (t.take i) + 38 * fvs ((t.drop 16).take i) + (iat t i + 38 * iat t (i + 16) - 0) * 65536 ^ i = fvs (t.take (i + 1)) + 38 * fvs ((t.drop 16).take (i + 1)) := by
  rw [fvs_take t i (by omega), fvs_take (t.drop 16) i (by rw [List.length_drop]; omega)]
  have : iat (t.drop 16) i = iat t (i + 16) := by rw [iat, iat, List.getD_eq_getElem?_getD, List.getD_eq_getElem?_getD, List.getElem?_drop, Nat.add_comm]
  rw [this]
  grind
theorem fold_last (t : List Int) (h : t.length = 31) : fvs (t.take 15) + 38 * fvs ((t.drop 16).take 15) + (iat t 15 - 0) * 65536 ^ 15 = fvs (t.take 16) + 38 * fvs ((t.drop 16).take 16) := by
  rw [fvs_take t 15 (by omega), List.take_of_length_le (l := t.drop 16) (i := 16) (by rw [List.length_drop]; omega), List.take_of_length_le (l := t.drop 16) (i := 15) (by rw [List.length_drop]; omega)]
  grind
structure Conv (t : List Int) (N K : Int) : Prop where
  len : t.length = 31
  val : fvs t = N
  bnd : ∀ x ∈ t, -K ≤ x ∧ x ≤ K
theorem Conv.step {t : List Int} {N K : Int} (h : Conv t N K) (j : Nat) (hj : j < 31) (p : Int) (hp : -8589934592 ≤ p ∧ p ≤ 8589934592) : Conv (t.set j (iat t j + p)) (N + p * 65536 ^ j) (K + 8589934592) :=
  ⟨by rw [List.length_set, h.len], by rw [fvs_set _ _ _ (by rw [h.len]; exact hj), h.val]; grind, mem_set (P := fun x => -(K + 8589934592) ≤ x ∧ x ≤ K + 8589934592) (fun x hx => by have := h.bnd x hx; omega) (by have := mem_iat (P := fun x => -K ≤ x ∧ x ≤ K) h.bnd (k := j) (by rw [h.len]; exact hj); omega)⟩
def z31 : List Int := List.replicate 31 0
theorem zero_31 (w : World) : (zeroValue 100).run Tryd.prog w = .ok (.agg (i64v z31).toArray) w := by kernel_rfl
set_option maxRecDepth 100000 in
set_option maxHeartbeats 4000000 in
theorem rtimes_any (w : World) (a b : List Int) (hna : Near a) (hnb : Near b) :
    Calls Tryd.prog 59 #[.agg (i64v a).toArray, .agg (i64v b).toArray] w fun e w' => ∃ r, e = .returned (.agg (i64v r).toArray) ∧ Vlt (Near r ∧ fvs r % (FP : Int) = (fvs a * fvs b) % (FP : Int)) ∧ Hid (r.length = 16) ∧ Below w.heap.size w w' := by
  have hzf := zero_fe
  have hz31 := zero_31
  obtain ⟨W0, hW, gA0, gB0, gZ0, hbW0, hsW⟩ := three_new w (i64v a).toArray (i64v b).toArray (i64v z16).toArray 55 55 55
  have HW := Lib.hid hW
  have NA := vlt hna
  have NB := vlt hnb
  have hs : w.heap.size + 2 < W0.heap.size := by have := hsW.out; omega
  clear hW hna hnb hsW
  go_enter Tryd.func59, Tryd.ntmps59
  go_upto_region 1 with fail
  rw [HW.out]
  go_upto_region 2 with fail
  obtain ⟨W, hW⟩ : ∃ W, W = W0.alloc (.cells (i64v z31).toArray 100) := ⟨_, rfl⟩
  rw [← hW]
  have gA : Hid (W.heap[w.heap.size]? = some (.cells (i64v a).toArray 55 (0, 0))) := by rw [hW]; exact (Below.heap_alloc _ _ _ (by omega)).trans gA0.out
  have gB : Hid (W.heap[w.heap.size + 1]? = some (.cells (i64v b).toArray 55 (0, 0))) := by rw [hW]; exact (Below.heap_alloc _ _ _ (by omega)).trans gB0.out
  have gZ : Hid (W.heap[w.heap.size + 2]? = some (.cells (i64v z16).toArray 55 (0, 0))) := by rw [hW]; exact (Below.heap_alloc _ _ _ (by omega)).trans gZ0.out
  have gT : Hid (W.heap[W0.heap.size]? = some (.cells (i64v z31).toArray 100 (0, 0))) := by rw [hW]; exact heap_alloc_new _ _
  have hbW : Below w.heap.size w W := by rw [hW]; exact hbW0.alloc hbW0.size _
  obtain ⟨R, hR⟩ : ∃ R, R = W0.heap.size := ⟨_, rfl⟩
  rw [← hR] at gT hs ⊢
  clear hW hR gA0 gB0 gZ0 hbW0
  have hsW : R < W.heap.size := (Array.getElem?_eq_some_iff.1 gT.out).1
  go_wp2_with fail
  go_loopw [6] (fun s wr => ∃ (i : Nat) (t : List Int), i ≤ 16 ∧ s = .int .i64 (i : Int) ∧ Hid (wr.heap[R]? = some (.cells (i64v t).toArray 100 (0, 0))) ∧ Vlt (Conv t (fvs (a.take i) * fvs b) ((16 * (i : Int)) * 8589934592)) ∧ But R W wr) (fun s _ => 16 - (intOf s).toNat)
  case atStart => exact ⟨0, z31, by omega, rfl, gT, vlt ⟨rfl, by rw [z31, fvs_zeros]; simp [fvs], fun x hx => by rw [List.eq_of_mem_replicate hx]; decide⟩, But.refl _ _⟩
  case round =>
    obtain ⟨i, t, hi, rfl, hg, hC, hbt⟩ := hrel
    by_cases hlt : i < 16
    · have la := near_iat NA.out i hlt
      have hft := vlt (fvs_take a i (by rw [NA.out.len]; exact hlt))
      obtain ⟨x, hx⟩ : ∃ x, x = iat a i := ⟨_, rfl⟩
      rw [← hx] at la hft
      have HX := vlt hx
      clear hx
      go_upto_region 6 with fail
      obtain ⟨Y0, hY0⟩ : ∃ Y0, Y0 = wr := ⟨_, rfl⟩
      subst hY0
      generalize decide ((i : Int) < 16) = b1
      go_loopw [7] (fun s wi => ∃ (k : Nat) (t : List Int), k ≤ 16 ∧ s = .int .i64 (k : Int) ∧ Hid (wi.heap[R]? = some (.cells (i64v t).toArray 100 (0, 0))) ∧ Vlt (Conv t (fvs (a.take i) * fvs b + x * 65536 ^ i * fvs (b.take k)) ((16 * (i : Int) + (k : Int)) * 8589934592)) ∧ But R W wi) (fun s _ => 16 - (intOf s).toNat)
      case atStart => exact ⟨0, t, by omega, rfl, hg, vlt (by have h := hC.out; simpa [fvs] using h), hbt⟩
      case round =>
        clear hg hC hbt
        obtain ⟨k, u, hk, rfl, hg, hC, hbt⟩ := hrel
        by_cases hkt : k < 16
        · have hga : Hid (wr.heap[w.heap.size]? = some (.cells (i64v a).toArray 55 (0, 0))) := (hbt.block _ (by omega) (by intro e; injection e; omega)).trans gA.out
          have hgb : Hid (wr.heap[w.heap.size + 1]? = some (.cells (i64v b).toArray 55 (0, 0))) := (hbt.block _ (by omega) (by intro e; injection e; omega)).trans gB.out
          have lb := near_iat NB.out k hkt
          have c0 := int_at hga.out i (by rw [NA.out.len]; exact hlt)
          rw [← HX.out] at c0
          have c1 := int_at hgb.out k (by rw [NB.out.len]; exact hkt)
          have hfb := vlt (fvs_take b k (by rw [NB.out.len]; exact hkt))
          obtain ⟨y, hy⟩ : ∃ y, y = iat b k := ⟨_, rfl⟩
          rw [← hy] at lb c1 hfb
          clear hy
          have hp := prod16 x y la.1 la.2 lb.1 lb.2
          have hpw : IntKind.i64.wrap (x * y) = x * y := IntWalk.i64_in _ (by omega)
          have c2 := int_at hg.out (i + k) (by rw [hC.out.len]; omega)
          have lu := mem_iat (P := fun x => -((16 * (i : Int) + (k : Int)) * 8589934592) ≤ x ∧ x ≤ (16 * (i : Int) + (k : Int)) * 8589934592) hC.out.bnd (k := i + k) (by rw [hC.out.len]; omega)
          have hC2 := vlt (hC.out.step (i + k) (by omega) (x * y) hp)
          have f0 : wr.frozen? ⟨R, i + k, none⟩ = false := frozen_of_row _ _ _ _ _ hg.out
          have hs2 := world_set_cell hg.out (i + k) (.int .i64 (iat u (i + k) + x * y))
          rw [i64v_set] at hs2
          have hb2 := hbt.set (i := i + k) (.int .i64 (iat u (i + k) + x * y))
          have hC3 := vlt (show Conv (u.set (i + k) (iat u (i + k) + x * y)) (fvs (a.take i) * fvs b + x * 65536 ^ i * fvs (b.take (k + 1))) ((16 * (i : Int) + ((k + 1 : Nat) : Int)) * 8589934592) by
            have h := hC2.out
            rw [show fvs (a.take i) * fvs b + x * 65536 ^ i * fvs (b.take k) + x * y * 65536 ^ (i + k) = fvs (a.take i) * fvs b + x * 65536 ^ i * fvs (b.take (k + 1)) by rw [hfb.out, Int.pow_add]; grind,
              show (16 * (i : Int) + (k : Int)) * 8589934592 + 8589934592 = (16 * (i : Int) + ((k + 1 : Nat) : Int)) * 8589934592 by omega] at h
            exact h)
          clear hC2 hfb
          obtain ⟨z, hz⟩ : ∃ z, z = iat u (i + k) := ⟨_, rfl⟩
          rw [← hz] at lu c2 hs2 hb2 hC3
          clear hz
          have lz : -2199023255552 ≤ z ∧ z ≤ 2199023255552 := by omega
          clear lu
          go_wp2_with fail
          go_region
          go_wp2
          go_roundw
          case rel => exact ⟨k + 1, _, by omega, by go_num, hs2, hC3, hb2.drew⟩
          case measure => simp [intOf]; omega
        · obtain rfl : k = 16 := by omega
          have hC3 := vlt (show Conv u (fvs (a.take (i + 1)) * fvs b) ((16 * ((i + 1 : Nat) : Int)) * 8589934592) by
            have h := hC.out
            rw [fvs_all b NB.out.len, show fvs (a.take i) * fvs b + x * 65536 ^ i * fvs b = fvs (a.take (i + 1)) * fvs b by rw [hft.out]; grind,
              show (16 * (i : Int) + ((16 : Nat) : Int)) * 8589934592 = (16 * ((i + 1 : Nat) : Int)) * 8589934592 by omega] at h
            exact h)
          go_wp2
          go_roundw
          case rel => exact ⟨i + 1, u, by omega, by go_num, hg, hC3, hbt⟩
          case measure => simp [intOf]; omega
    · obtain rfl : i = 16 := by omega
      have HT := vlt (show Conv t (fvs a * fvs b) 2199023255552 by have h := hC.out; rw [fvs_all a NA.out.len] at h; exact h)
      clear hC
      have hgZ : Hid (wr.heap[w.heap.size + 2]? = some (.cells (i64v z16).toArray 55 (0, 0))) := (hbt.block _ (by omega) (by intro e; injection e; omega)).trans gZ.out
      have hbw : Below w.heap.size w wr := But.below hbW hbt (by omega) (by omega)
      have hsr : R < wr.heap.size := (Array.getElem?_eq_some_iff.1 hg.out).1
      go_upto_region 10 with ((with_reducible refine wpList_store_row rfl 55 (.tmp 8) (.tmp 35) rfl wr.heap.size (i64v z16).toArray rfl rfl 55 _ (heap_alloc_new _ _) (by kernel_rfl) (by kernel_rfl) (all_oneCell_toArray (i64v_one _)) ?_); rw [World.setRow_alloc_new])
      obtain ⟨V, hV⟩ : ∃ V, V = wr.alloc (.cells (i64v z16).toArray 55) := ⟨_, rfl⟩
      rw [← hV]
      have vT : Hid (V.heap[R]? = some (.cells (i64v t).toArray 100 (0, 0))) := by rw [hV]; exact (Below.heap_alloc _ _ _ hsr).trans hg.out
      have vZ : Hid (V.heap[w.heap.size + 2]? = some (.cells (i64v z16).toArray 55 (0, 0))) := by rw [hV]; exact (Below.heap_alloc _ _ _ (by omega)).trans hgZ.out
      have vO : Hid (V.heap[wr.heap.size]? = some (.cells (i64v z16).toArray 55 (0, 0))) := by rw [hV]; exact heap_alloc_new _ _
      have hbV : Below w.heap.size w V := by rw [hV]; exact hbw.alloc hbw.size _
      obtain ⟨Q, hQ⟩ : ∃ Q, Q = wr.heap.size := ⟨_, rfl⟩
      rw [← hQ] at vO hsr ⊢
      clear hV hQ hg hgZ hbw hbt
      have hsV : Q < V.heap.size := (Array.getElem?_eq_some_iff.1 vO.out).1
      go_wp2_with fail
      obtain ⟨Y1, hY1⟩ : ∃ Y1 : World, Y1 = V := ⟨_, rfl⟩
      clear hY1
      go_loopw [9] (fun s wi => ∃ (i : Nat) (o : List Int), i ≤ 16 ∧ s = .int .i64 (i : Int) ∧ Hid (wi.heap[Q]? = some (.cells (i64v o).toArray 55 (0, 0))) ∧ Vlt (Fill o (fvs (t.take i) + 38 * fvs ((t.drop 16).take i)) i (fun _ => 0) (fun x => -140737488355328 ≤ x ∧ x ≤ 140737488355328)) ∧ But Q V wi) (fun s _ => 16 - (intOf s).toNat)
      case atStart => exact ⟨0, z16, by omega, rfl, vO, vlt ⟨rfl, by rw [z16, fvs_zeros]; simp [fvs], fun j _ _ => iat_zeros _ _, fun x hx => by rw [List.eq_of_mem_replicate hx]; decide⟩, But.refl _ _⟩
      case round =>
        obtain ⟨i, o, hi2, rfl, hg, hF, hbt⟩ := hrel
        by_cases hlt2 : i < 16
        · have hgt : Hid (wr.heap[R]? = some (.cells (i64v t).toArray 100 (0, 0))) := (hbt.block _ (by omega) (by intro e; injection e; omega)).trans vT.out
          have c0 := int_at hgt.out i (by rw [HT.out.len]; omega)
          have l0 := mem_iat (P := fun x => -2199023255552 ≤ x ∧ x ≤ 2199023255552) HT.out.bnd (k := i) (by rw [HT.out.len]; omega)
          have f0 : wr.frozen? ⟨Q, i, none⟩ = false := frozen_of_row _ _ _ _ _ hg.out
          have u0 := int_at hg.out i (by rw [hF.out.len]; exact hlt2)
          have hs1 := world_set_cell hg.out i (.int .i64 (iat t i))
          rw [i64v_set] at hs1
          have hb1 := hbt.set (i := i) (.int .i64 (iat t i))
          have hF1 := vlt (fun y (hy : -140737488355328 ≤ y ∧ y ≤ 140737488355328) => hF.out.step hlt2 y hy)
          by_cases h15 : i < 15
          · have c1 := int_at hgt.out (i + 16) (by rw [HT.out.len]; omega)
            have l1 := mem_iat (P := fun x => -2199023255552 ≤ x ∧ x ≤ 2199023255552) HT.out.bnd (k := i + 16) (by rw [HT.out.len]; omega)
            have hgt1 : Hid ((wr.setCell ⟨Q, i, none⟩ (.int .i64 (iat t i))).heap[R]? = some (.cells (i64v t).toArray 100 (0, 0))) := (hb1.block _ (by omega) (by intro e; injection e; omega)).trans vT.out
            have c2 := int_at hs1.out i (by rw [List.length_set, hF.out.len]; exact hlt2)
            rw [iat_set_same _ _ _ (by rw [hF.out.len]; exact hlt2)] at c2
            have c3 := int_at hgt1.out (i + 16) (by rw [HT.out.len]; omega)
            have f1 : (wr.setCell ⟨Q, i, none⟩ (.int .i64 (iat t i))).frozen? ⟨Q, i, none⟩ = false := frozen_of_row _ _ _ _ _ hs1.out
            have hs2 := world_set_cell hs1.out i (.int .i64 (iat t i + 38 * iat t (i + 16)))
            rw [i64v_set, List.set_set] at hs2
            have hb2 := hb1.set (i := i) (.int .i64 (iat t i + 38 * iat t (i + 16)))
            have hF2 := vlt (show Fill (o.set i (iat t i + 38 * iat t (i + 16))) (fvs (t.take (i + 1)) + 38 * fvs ((t.drop 16).take (i + 1))) (i + 1) (fun _ => 0) (fun x => -140737488355328 ≤ x ∧ x ≤ 140737488355328) by
              have h := hF1.out (iat t i + 38 * iat t (i + 16)) (by omega)
              rw [fold_step t HT.out.len i h15] at h
              exact h)
            clear hF1
            generalize iat o i = oi at u0
            generalize iat t i = p at *
            generalize iat t (i + 16) = q at *
            go_wp2_with fail
            go_region
            go_wp2
            go_roundw
            case rel => exact ⟨i + 1, _, by omega, by go_num, hs2, hF2, hb2.drew⟩
            case measure => simp [intOf]; omega
          · obtain rfl : i = 15 := by omega
            have hF2 := vlt (show Fill (o.set 15 (iat t 15)) (fvs (t.take 16) + 38 * fvs ((t.drop 16).take 16)) 16 (fun _ => 0) (fun x => -140737488355328 ≤ x ∧ x ≤ 140737488355328) by
              have h := hF1.out (iat t 15) (by omega)
              rw [fold_last t HT.out.len] at h
              exact h)
            clear hF1
            generalize iat o 15 = oi at u0
            generalize iat t 15 = p at *
            go_wp2
            go_roundw
            case rel => exact ⟨16, _, by omega, by go_num, hs1, hF2, hb1⟩
            case measure => simp [intOf]
        · obtain rfl : i = 16 := by omega
          have HV := vlt (show fvs o % (FP : Int) = (fvs a * fvs b) % (FP : Int) by rw [hF.out.val, fold_val t HT.out.len, HT.out.val])
          have HOL := Lib.hid hF.out.len
          have HOB := vlt (fun x hx => hF.out.bnd x hx)
          have HTW := vlt (carI_twice o hF.out.len (fun x hx => hF.out.bnd x hx))
          have hsz := Lib.hid (i64v_size o hF.out.len)
          have hz : Hid (wr.heap[w.heap.size + 2]? = some (.cells (i64v z16).toArray 55 (0, 0))) := (hbt.block _ (by omega) (by intro e; injection e; omega)).trans vZ.out
          have hbw : Below w.heap.size w wr := But.below hbV hbt (by omega) (by omega)
          have hsr2 : w.heap.size + 2 < wr.heap.size := (Array.getElem?_eq_some_iff.1 hz.out).1
          clear hF
          go_wp2_with (with_reducible refine wpList_load_row rfl 55 (.tmp 8) rfl Q rfl 55 (i64v o).toArray (0, 0) _ hg.out Tryd.underlying55 rfl (by rw [hsz.out]; kernel_rfl) ?_)
          refine (rcar_any wr o HOL.out (fun x hx => HOB.out x hx)).mono ?_
          rintro e w2 ⟨r1, rfl, e1, hr1, hb1⟩
          have hz1 : Hid (w2.heap[w.heap.size + 2]? = some (.cells (i64v z16).toArray 55 (0, 0))) := (hb1.block _ hsr2).trans hz.out
          have hbw1 := below_next hbw hbw.size hb1
          have hsr1 : w.heap.size + 2 < w2.heap.size := (Array.getElem?_eq_some_iff.1 hz1.out).1
          go_wp2_with fail
          refine (rcar_any w2 r1 hr1.out (fun x hx => by rw [e1.out] at hx; have := HTW.out.2.2 x hx; omega)).mono ?_
          rintro e w3 ⟨r2, rfl, e2, hr2, hb2⟩
          have HE := vlt (show Near r2 ∧ fvs r2 % (FP : Int) = (fvs a * fvs b) % (FP : Int) by rw [e2.out, e1.out, ← HV.out]; exact ⟨HTW.out.1, HTW.out.2.1⟩)
          clear e1 e2 HTW HV
          have hz2 : Hid (w3.heap[w.heap.size + 1 + 1]? = some (.cells (i64v z16).toArray 55 (0, 0))) := (hb2.block _ hsr1).trans hz1.out
          have hbw2 := below_next hbw1 hbw1.size hb2
          have hsz2 := Lib.hid (i64v_size r2 hr2.out)
          go_wp2_with (with_reducible refine wpList_store_row rfl 55 (.tmp 4) (.tmp 60) rfl (w.heap.size + 1 + 1) (i64v r2).toArray rfl rfl 55 _ hz2.out (by rw [hsz2.out]; kernel_rfl) (by rw [hsz2.out]; kernel_rfl) (all_oneCell_toArray (i64v_one _)) ?_)
          refine bodyPost_ret (v := .agg (i64v r2).toArray) (results_cell_row Tryd.results59 _ _ (w.heap.size + 1 + 1) 55 _ (0, 0) _ rfl (setRow_heap _ _ _ _ _ _ hz2.out) Tryd.underlying55 rfl (by rw [hsz2.out]; kernel_rfl)) rfl ⟨r2, rfl, HE, hr2, below_setRow hbw2 (by omega) _⟩
end Go.Proofs.YtehkalbiomagjaaDoor
namespace Go.Proofs.YtehkalbiomagjaaDoor
open Go.RowKit

theorem ln_byte : ∀ (l : List UInt8) (k c : Nat), l[k]? = some (UInt8.ofNat c) → c < 256 → ln l / 256 ^ k % 256 = c
  | b :: r, 0, c, h, hc => by
    have h1 : b = UInt8.ofNat c := by simpa using h
    have h2 : b.toNat = c := by rw [h1, UInt8.toNat_ofNat', show (2 : Nat) ^ 8 = 256 by decide, Nat.mod_eq_of_lt hc]
    rw [ln, Nat.pow_zero, Nat.div_one, h2]; omega
  | b :: r, k + 1, c, h, hc => by
    have ih := ln_byte r k c (by simpa using h) hc
    have h2 := b.toNat_lt
    rw [ln, Nat.pow_succ, Nat.mul_comm (256 ^ k) 256, ← Nat.div_div_eq_div_mul, show (b.toNat + 256 * ln r) / 256 = ln r by omega]
    exact ih
theorem bit_of (N k c i : Nat) (hc : N / 256 ^ (i / 8) % 256 = c) (hk : k = i % 8) : c / 2 ^ k % 2 = N / 2 ^ i % 2 := by
  subst hc hk
  have e : 2 ^ i = 256 ^ (i / 8) * 2 ^ (i % 8) := by
    rw [show (256 : Nat) = 2 ^ 8 by decide, ← Nat.pow_mul, ← Nat.pow_add, Nat.div_add_mod]
  rw [e, ← Nat.div_div_eq_div_mul]
  generalize N / 256 ^ (i / 8) = M
  have h8 : i % 8 < 8 := Nat.mod_lt _ (by decide)
  generalize i % 8 = j at *
  match j, h8 with
  | 0, _ | 1, _ | 2, _ | 3, _ | 4, _ | 5, _ | 6, _ | 7, _ => simp only [Nat.reducePow]; omega
theorem ipow_sq {C D X P : Int} {e : Nat} (h : D % P = (C * C) % P) (hc : C % P = X ^ e % P) : D % P = X ^ (e + e) % P := by
  rw [h, Int.mul_emod, hc, ← Int.mul_emod, ← Int.pow_add]
theorem ipow_one {C D X P : Int} {e : Nat} (h : D % P = (C * X) % P) (hc : C % P = X ^ e % P) : D % P = X ^ (e + 1) % P := by
  rw [h, Int.mul_emod, hc, ← Int.mul_emod, ← Int.pow_succ]
theorem half_exp (N i : Nat) : N / 2 ^ i = N / 2 ^ (i + 1) + N / 2 ^ (i + 1) + N / 2 ^ i % 2 := by
  rw [Nat.pow_succ, ← Nat.div_div_eq_div_mul]
  generalize N / 2 ^ i = M
  omega
def one16 : List Int := 1 :: List.replicate 15 0
theorem one16_set : (i64v z16).set 0 (.int .i64 1) = i64v one16 := by kernel_rfl
theorem one16_near : Near one16 := ⟨1, List.replicate 15 0, rfl, rfl, fun y hy => by rw [List.eq_of_mem_replicate hy]; decide, by decide, by decide⟩
theorem one16_val : fvs one16 = 1 := by decide
set_option maxRecDepth 100000 in
theorem i64v_z16_ne : ¬ i64v z16 = [] := fun h => by have h1 := congrArg List.length h; rw [i64v_len, z16_len] at h1; exact absurd h1 (by decide)
set_option maxRecDepth 100000 in
set_option maxHeartbeats 2000000 in
theorem rpower_any (w : World) (a : List Int) (hn : Near a) (b : List UInt8) (hb : b.length = 32) :
    Calls Tryd.prog 80 #[.agg (i64v a).toArray, .agg (bv b).toArray] w fun e w' => ∃ r, e = .returned (.agg (i64v r).toArray) ∧ Vlt (Near r ∧ fvs r % (FP : Int) = fvs a ^ ln b % (FP : Int)) ∧ Hid (r.length = 16) ∧ Below w.heap.size w w' := by
  have hzf := zero_fe
  have hone := one16_set
  have hnz := i64v_z16_ne
  obtain ⟨W, hW, hgA, hgB, hgZ, hbW, hsW⟩ := three_new w (i64v a).toArray (bv b).toArray (i64v z16).toArray 55 23 55
  have HW := Lib.hid hW
  have NA := vlt hn
  have HB := Lib.hid hb
  have HAS := Lib.hid (i64v_size a hn.len)
  have hs0 : w.heap.size + 2 < W.heap.size := by have := hsW.out; omega
  have HLT := vlt (show ln b / 2 ^ 256 = 0 from Nat.div_eq_of_lt (by have h := ln_lt 32 b hb; rw [show (256 : Nat) ^ 32 = 2 ^ 256 by decide] at h; exact h))
  clear hW hsW hn hb
  obtain ⟨ON, hON⟩ : ∃ ON, ON = one16 := ⟨_, rfl⟩
  rw [← hON] at hone
  have HON := vlt (show Near ON ∧ fvs ON = 1 by rw [hON]; exact ⟨one16_near, one16_val⟩)
  have HONS := Lib.hid (i64v_size ON HON.out.1.len)
  clear hON
  go_enter Tryd.func80, Tryd.ntmps80
  go_upto_region 1 with fail
  rw [HW.out]
  go_upto_region 2 with ((with_reducible refine wpList_store_row rfl 55 (.tmp 5) (.tmp 7) rfl W.heap.size (i64v ON).toArray rfl rfl 55 _ (heap_alloc_new _ _) (by rw [HONS.out]; kernel_rfl) (by rw [HONS.out]; kernel_rfl) (all_oneCell_toArray (i64v_one _)) ?_); rw [World.setRow_alloc_new])
  obtain ⟨V, hV⟩ : ∃ V, V = W.alloc (.cells (i64v ON).toArray 55) := ⟨_, rfl⟩
  rw [← hV]
  have hA : Hid (V.heap[w.heap.size]? = some (.cells (i64v a).toArray 55 (0, 0))) := by rw [hV]; exact (Below.heap_alloc _ _ _ (by omega)).trans hgA.out
  have hB : Hid (V.heap[w.heap.size + 1]? = some (.cells (bv b).toArray 23 (0, 0))) := by rw [hV]; exact (Below.heap_alloc _ _ _ (by omega)).trans hgB.out
  have hZ : Hid (V.heap[w.heap.size + 2]? = some (.cells (i64v z16).toArray 55 (0, 0))) := by rw [hV]; exact (Below.heap_alloc _ _ _ (by omega)).trans hgZ.out
  have hR : Hid (V.heap[W.heap.size]? = some (.cells (i64v ON).toArray 55 (0, 0))) := by rw [hV]; exact heap_alloc_new _ _
  have hbV : Below w.heap.size w V := by rw [hV]; exact hbW.alloc hbW.size _
  obtain ⟨R, hRe⟩ : ∃ R, R = W.heap.size := ⟨_, rfl⟩
  rw [← hRe] at hR hs0 ⊢
  clear hRe hV hgA hgB hgZ hbW
  have hsV : R < V.heap.size := (Array.getElem?_eq_some_iff.1 hR.out).1
  clear hone hnz
  go_wp2_with fail
  go_loopw [6] (fun s wr => ∃ (d : Nat) (o : List Int), d ≤ 256 ∧ s = .int .i64 ((d : Int) - 1) ∧ Hid (wr.heap[R]? = some (.cells (i64v o).toArray 55 (0, 0))) ∧ Vlt (Near o ∧ fvs o % (FP : Int) = fvs a ^ (ln b / 2 ^ d) % (FP : Int)) ∧ But R V wr) (fun s _ => (intOf s + 1).toNat)
  case atStart => exact ⟨256, ON, by omega, rfl, hR, vlt ⟨HON.out.1, by rw [HON.out.2, HLT.out, Int.pow_zero]⟩, But.refl _ _⟩
  case round =>
    obtain ⟨d, o, hd, rfl, hRi, hvi, hbi⟩ := hrel
    by_cases hd0 : 0 < d
    · obtain ⟨i, rfl⟩ : ∃ i, d = i + 1 := ⟨d - 1, by omega⟩
      have ei : ((i + 1 : Nat) : Int) - 1 = (i : Int) := by omega
      rw [ei]
      clear ei
      have hsi : R < wr.heap.size := (Array.getElem?_eq_some_iff.1 hRi.out).1
      have hAi : Hid (wr.heap[w.heap.size]? = some (.cells (i64v a).toArray 55 (0, 0))) := (hbi.block _ (by omega) (by intro e; injection e; omega)).trans hA.out
      have hBi : Hid (wr.heap[w.heap.size + 1]? = some (.cells (bv b).toArray 23 (0, 0))) := (hbi.block _ (by omega) (by intro e; injection e; omega)).trans hB.out
      have hso := Lib.hid (i64v_size o hvi.out.1.len)
      obtain ⟨c, lc, hc⟩ := byte_ex b (i / 8) (by rw [HB.out]; omega)
      have HBIT := vlt (bit_of (ln b) (i % 8) c i (ln_byte b (i / 8) c hc lc) rfl)
      have hcell := vlt (fun (w0 : World) (h0 : w0.heap[w.heap.size + 1]? = some (.cells (bv b).toArray 23 (0, 0))) => byte_cell' h0 lc hc)
      clear hc
      have lsh : c / 2 ^ (i % 8) < 256 := Nat.lt_of_le_of_lt (Nat.div_le_self _ _) lc
      have hlow := low8 _ lsh
      rw [show ((c / 2 ^ (i % 8) : Nat) : Int) = (c : Int) / 2 ^ (i % 8) by simp] at hlow
      obtain ⟨bt, hbt1⟩ : ∃ bt, bt = c / 2 ^ (i % 8) % 2 := ⟨_, rfl⟩
      rw [← hbt1] at hlow HBIT
      have hb2 : bt < 2 := by omega
      have HE1 := vlt (show ln b / 2 ^ i = ln b / 2 ^ (i + 1) + ln b / 2 ^ (i + 1) + bt by rw [HBIT.out]; exact half_exp _ _)
      clear hbt1 lsh HBIT
      go_wp2_with (with_reducible refine wpList_load_row rfl 55 (.tmp 5) rfl R rfl 55 (i64v o).toArray (0, 0) _ hRi.out Tryd.underlying55 rfl (by rw [hso.out]; kernel_rfl) ?_)
      refine (rtimes_any _ o o hvi.out.1 hvi.out.1).mono ?_
      rintro e w3 ⟨q, rfl, e1, hq, hb3⟩
      have hv1 := vlt (show Near q ∧ fvs q % (FP : Int) = fvs a ^ (ln b / 2 ^ (i + 1) + ln b / 2 ^ (i + 1)) % (FP : Int) from ⟨e1.out.1, ipow_sq e1.out.2 hvi.out.2⟩)
      have hR3 : Hid (w3.heap[R]? = some (.cells (i64v o).toArray 55 (0, 0))) := (hb3.block _ (by omega)).trans hRi.out
      have hA3 : Hid (w3.heap[w.heap.size]? = some (.cells (i64v a).toArray 55 (0, 0))) := (hb3.block _ (by omega)).trans hAi.out
      have hB3 : Hid (w3.heap[w.heap.size + 1]? = some (.cells (bv b).toArray 23 (0, 0))) := (hb3.block _ (by omega)).trans hBi.out
      have hbt3 := hbi.below_to hb3 (Nat.le_refl _)
      have hsq := Lib.hid (i64v_size q hq.out)
      clear hRi hAi hBi hbi e1 hvi
      go_upto_region 6 with (with_reducible refine wpList_store_row rfl 55 (.tmp 5) (.tmp 14) rfl R (i64v q).toArray rfl rfl 55 _ hR3.out (by rw [hsq.out]; kernel_rfl) (by rw [hsq.out, hso.out]) (all_oneCell_toArray (i64v_one _)) ?_)
      obtain ⟨w4, hw4⟩ : ∃ w4, w4 = w3.setRow R (i64v q).toArray := ⟨_, rfl⟩
      rw [← hw4]
      have hR4 : Hid (w4.heap[R]? = some (.cells (i64v q).toArray 55 (0, 0))) := by rw [hw4]; exact setRow_heap _ _ _ _ _ _ hR3.out
      have hA4 : Hid (w4.heap[w.heap.size]? = some (.cells (i64v a).toArray 55 (0, 0))) := by rw [hw4]; exact (setRow_other _ _ _ _ (by omega)).trans hA3.out
      have hB4 : Hid (w4.heap[w.heap.size + 1]? = some (.cells (bv b).toArray 23 (0, 0))) := by rw [hw4]; exact (setRow_other _ _ _ _ (by omega)).trans hB3.out
      have hbt4 : But R V w4 := by rw [hw4]; exact hbt3.row _
      have hs4 : R < w4.heap.size := (Array.getElem?_eq_some_iff.1 hR4.out).1
      have cb := hcell.out w4 hB4.out
      clear hw4 hR3 hA3 hB3 hbt3 hb3 hcell
      have hq8 : (i : Int).tdiv 8 = ((i / 8 : Nat) : Int) := (Int.ofNat_tdiv i 8).symm
      have hr8 : (i : Int).tmod 8 = ((i % 8 : Nat) : Int) := (Int.ofNat_tmod i 8).symm
      by_cases hone : bt = 1
      · subst hone
        go_wp2_with (first
          | (with_reducible refine wpList_load_row rfl 55 (.tmp 5) rfl R rfl 55 (i64v q).toArray (0, 0) _ hR4.out Tryd.underlying55 rfl (by rw [hsq.out]; kernel_rfl) ?_)
          | (with_reducible refine wpList_load_row rfl 55 (.tmp 2) rfl w.heap.size rfl 55 (i64v a).toArray (0, 0) _ hA4.out Tryd.underlying55 rfl (by rw [HAS.out]; kernel_rfl) ?_))
        refine (rtimes_any w4 q a hv1.out.1 NA.out).mono ?_
        rintro e w5 ⟨r, rfl, e2, hr, hb5⟩
        have hv2 := vlt (show Near r ∧ fvs r % (FP : Int) = fvs a ^ (ln b / 2 ^ i) % (FP : Int) from ⟨e2.out.1, by rw [HE1.out]; exact ipow_one e2.out.2 hv1.out.2⟩)
        have hR5 : Hid (w5.heap[R]? = some (.cells (i64v q).toArray 55 (0, 0))) := (hb5.block _ (by omega)).trans hR4.out
        have hbt5 := hbt4.below_to hb5 (Nat.le_refl _)
        have hsr := Lib.hid (i64v_size r hr.out)
        clear hv1 e2
        go_upto_region 4 with (with_reducible refine wpList_store_row rfl 55 (.tmp 5) (.tmp 27) rfl R (i64v r).toArray rfl rfl 55 _ hR5.out (by rw [hsr.out]; kernel_rfl) (by rw [hsr.out, hsq.out]) (all_oneCell_toArray (i64v_one _)) ?_)
        have hR6 : Hid ((w5.setRow R (i64v r).toArray).heap[R]? = some (.cells (i64v r).toArray 55 (0, 0))) := setRow_heap _ _ _ _ _ _ hR5.out
        have hbt6 := hbt5.row (i64v r).toArray
        generalize w5.setRow R (i64v r).toArray = w6 at *
        go_wp2
        go_roundw
        case rel => exact ⟨i, r, by omega, rfl, hR6, hv2, hbt6⟩
        case measure => simp [intOf]
      · obtain rfl : bt = 0 := by omega
        have hv2 := vlt (show Near q ∧ fvs q % (FP : Int) = fvs a ^ (ln b / 2 ^ i) % (FP : Int) from ⟨hv1.out.1, by rw [HE1.out, Nat.add_zero]; exact hv1.out.2⟩)
        go_wp2
        go_roundw
        case rel => exact ⟨i, q, by omega, rfl, hR4, hv2, hbt4⟩
        case measure => simp [intOf]
    · obtain rfl : d = 0 := by omega
      have HE := vlt (show Near o ∧ fvs o % (FP : Int) = fvs a ^ ln b % (FP : Int) from ⟨hvi.out.1, by have h := hvi.out.2; rwa [Nat.pow_zero, Nat.div_one] at h⟩)
      have HOL := Lib.hid hvi.out.1.len
      have hsz := Lib.hid (i64v_size o HOL.out)
      have hz : Hid (wr.heap[w.heap.size + 1 + 1]? = some (.cells (i64v z16).toArray 55 (0, 0))) := (hbi.block _ (by omega) (by intro e; injection e; omega)).trans hZ.out
      have hbw : Below w.heap.size w wr := But.below hbV hbi (by omega) (by omega)
      clear hvi
      go_wp2_with (first
        | (with_reducible refine wpList_load_row rfl 55 (.tmp 5) rfl R rfl 55 (i64v o).toArray (0, 0) _ hRi.out Tryd.underlying55 rfl (by rw [hsz.out]; kernel_rfl) ?_)
        | (with_reducible refine wpList_store_row rfl 55 (.tmp 4) (.tmp 28) rfl (w.heap.size + 1 + 1) (i64v o).toArray rfl rfl 55 _ hz.out (by rw [hsz.out]; kernel_rfl) (by rw [hsz.out]; kernel_rfl) (all_oneCell_toArray (i64v_one _)) ?_))
      refine bodyPost_ret (v := .agg (i64v o).toArray) (results_cell_row Tryd.results80 _ _ (w.heap.size + 1 + 1) 55 _ (0, 0) _ rfl (setRow_heap _ _ _ _ _ _ hz.out) Tryd.underlying55 rfl (by rw [hsz.out]; kernel_rfl)) rfl ⟨o, rfl, HE, HOL, below_setRow hbw (by omega) _⟩
end Go.Proofs.YtehkalbiomagjaaDoor
namespace Go.Proofs.YtehkalbiomagjaaDoor
open Go.RowKit

/-- Carried pieces of a number, modulo the prime. -/
def Fv (l : List Int) (N : Nat) : Prop := Near l ∧ fvs l % (FP : Int) = (N : Int) % (FP : Int)
theorem fv_in {o : List Int} {N : Nat} (h : fvs o = (N : Int) ∧ Can o) : Fv o N := ⟨h.2.near, by rw [h.1]⟩
theorem fv_add {x y z : List Int} {N M : Nat} (hx : Fv x N) (hy : Fv y M) (hz : Near z ∧ fvs z % (FP : Int) = (fvs x + fvs y) % (FP : Int)) : Fv z (N + M) :=
  ⟨hz.1, by rw [hz.2, Int.add_emod, hx.2, hy.2, ← Int.add_emod, Int.natCast_add]⟩
theorem fv_mul {x y z : List Int} {N M : Nat} (hx : Fv x N) (hy : Fv y M) (hz : Near z ∧ fvs z % (FP : Int) = (fvs x * fvs y) % (FP : Int)) : Fv z (N * M) :=
  ⟨hz.1, by rw [hz.2, Int.mul_emod, hx.2, hy.2, ← Int.mul_emod, Int.natCast_mul]⟩
theorem subF_int (N M : Nat) : ((subF N M : Nat) : Int) % (FP : Int) = ((N : Int) - (M : Int)) % (FP : Int) := by
  have hb : M % FP < FP := Nat.mod_lt _ fp_pos
  have h1 : ((subF N M : Nat) : Int) = (N : Int) - (M : Int) + (FP : Int) * ((M / FP : Nat) + 1 : Int) := by
    have h2 := Nat.div_add_mod M FP
    have h3 : (M : Int) = (FP : Int) * ((M / FP : Nat) : Int) + ((M % FP : Nat) : Int) := by rw [← Int.natCast_mul, ← Int.natCast_add, h2]
    have h4 : ((subF N M : Nat) : Int) = (N : Int) + ((FP : Int) - ((M % FP : Nat) : Int)) := by rw [subF, Int.natCast_add, Int.ofNat_sub (Nat.le_of_lt hb)]
    rw [h4, Int.mul_add, Int.mul_one]
    omega
  rw [h1, Int.add_mul_emod_self_left]
theorem fv_sub {x y z : List Int} {N M : Nat} (hx : Fv x N) (hy : Fv y M) (hz : Near z ∧ fvs z % (FP : Int) = (fvs x - fvs y) % (FP : Int)) : Fv z (subF N M) :=
  ⟨hz.1, by rw [hz.2, Int.sub_emod, hx.2, hy.2, ← Int.sub_emod, subF_int]⟩
theorem ipow_mod (a P : Int) (n : Nat) : a ^ n % P = (a % P) ^ n % P := by
  induction n with
  | zero => rw [Int.pow_zero, Int.pow_zero]
  | succ n ih => rw [Int.pow_succ, Int.mul_emod, ih, Int.pow_succ, Int.mul_emod ((a % P) ^ n), Int.emod_emod]
theorem fv_pow {x z : List Int} {N n : Nat} (hx : Fv x N) (hz : Near z ∧ fvs z % (FP : Int) = fvs x ^ n % (FP : Int)) : Fv z (N ^ n) :=
  ⟨hz.1, by rw [hz.2, ipow_mod, hx.2, ← ipow_mod, Int.natCast_pow]⟩
/-- The rows of the document's own below. -/
def brow : Nat → List UInt8
  | 0 => z32
  | k + 1 => (brow k).set (k + 1) 255
theorem brow_len : ∀ k, (brow k).length = 32
  | 0 => rfl
  | k + 1 => by rw [brow, List.length_set, brow_len k]
def bel (n : Int) : List UInt8 := ((brow 31).set 31 127).set 0 (UInt8.ofNat (237 - n).toNat)
theorem bel_len (n : Int) : (bel n).length = 32 := by rw [bel, List.length_set, List.length_set, brow_len]
theorem bel_2 : ln (bel 2) = FP2 := by decide +kernel
set_option maxRecDepth 100000 in
set_option maxHeartbeats 1000000 in
theorem below_any (w : World) (n : Int) (h1 : 0 ≤ n) (h2 : n ≤ 237) : Calls Tryd.prog 81 #[.int .i64 n] w fun e w' => ∃ l, e = .returned (.agg (bv l).toArray) ∧ Vlt (l = bel n) ∧ Hid (l.length = 32) ∧ Below w.heap.size w w' := by
  have hzw := zero_word
  obtain ⟨W, hW, hgZ, hgT, hbW, hsW⟩ := pair_new w (bv z32).toArray (bv z32).toArray 23 23
  have HW := Lib.hid hW
  have hs : w.heap.size + 1 < W.heap.size := by have := hsW.out; omega
  clear hW hsW
  go_enter Tryd.func81, Tryd.ntmps81
  go_upto_region 2 with (with_reducible refine wpList_store_row rfl 23 (.tmp 3) (.tmp 5) rfl (w.heap.size + 1) (bv z32).toArray rfl rfl 23 _ (heap_alloc2_new _ _ _) (by kernel_rfl) (by kernel_rfl) (all_oneCell_toArray (bv_one _)) ?_)
  obtain ⟨V, hV⟩ : ∃ V, V = ((w.alloc (.cells (bv z32).toArray 23)).alloc (.cells (bv z32).toArray 23)).setRow (w.heap.size + 1) (bv z32).toArray := ⟨_, rfl⟩
  rw [← hV]
  have hR : Hid (V.heap[w.heap.size + 1]? = some (.cells (bv z32).toArray 23 (0, 0))) := by rw [hV]; exact setRow_heap _ _ _ _ _ _ (heap_alloc2_new _ _ _)
  have hZ : Hid (V.heap[w.heap.size]? = some (.cells (bv z32).toArray 23 (0, 0))) := by rw [hV]; exact (setRow_other _ _ _ _ (by omega)).trans (heap_alloc2_old _ _ _)
  have hbV : Below w.heap.size w V := by rw [hV]; exact below_setRow (by rw [HW.out]; exact hbW) (by omega) _
  have hsV : w.heap.size + 1 < V.heap.size := (Array.getElem?_eq_some_iff.1 hR.out).1
  clear hV hgZ hgT hbW hs HW
  obtain ⟨R, hRe⟩ : ∃ R, R = w.heap.size + 1 := ⟨_, rfl⟩
  rw [← hRe] at hR hsV ⊢
  have hne : w.heap.size < R := by omega
  clear hRe
  simp only [Act.put]
  go_wp2_with fail
  go_loopw [4] (fun i wr => ∃ k : Nat, k ≤ 31 ∧ i = .int .i64 ((k : Int) + 1) ∧ Hid (wr.heap[R]? = some (.cells (bv (brow k)).toArray 23 (0, 0))) ∧ But R V wr) (fun i _ => 32 - (intOf i).toNat)
  case atStart => exact ⟨0, by omega, rfl, hR, But.refl _ _⟩
  case round =>
    obtain ⟨k, hk, rfl, hg, hbt⟩ := hrel
    by_cases hlt : k < 31
    · have f0 : wr.frozen? ⟨R, k + 1, none⟩ = false := frozen_of_row _ _ _ _ _ hg.out
      obtain ⟨u0, c0⟩ : ∃ u, wr.cell? ⟨R, k + 1, none⟩ = some u := by
        rw [cell_of_row _ _ _ _ _ _ hg.out]
        exact ⟨_, List.getElem?_toArray .. ▸ List.getElem?_eq_getElem (by rw [bv_len, brow_len]; omega)⟩
      have hset : Hid ((wr.setCell ⟨R, k + 1, none⟩ (.int .u8 255)).heap[R]? = some (.cells (bv (brow (k + 1))).toArray 23 (0, 0))) := by
        have h1 := (world_set_cell hg.out (k + 1) (.int .u8 255)).out
        rw [show (255 : Int) = ((255 : UInt8).toNat : Int) from rfl, bv_set] at h1
        exact h1
      have hb2 := hbt.set (i := k + 1) (.int .u8 255)
      go_wp2
      go_roundw
      case rel => exact ⟨k + 1, by omega, by go_num, hset, hb2⟩
      case measure => simp [intOf]; omega
    · obtain rfl : k = 31 := by omega
      have f0 : wr.frozen? ⟨R, 31, none⟩ = false := frozen_of_row _ _ _ _ _ hg.out
      have f1 : wr.frozen? ⟨R, 0, none⟩ = false := frozen_of_row _ _ _ _ _ hg.out
      obtain ⟨u0, c0⟩ : ∃ u, wr.cell? ⟨R, 31, none⟩ = some u := by
        rw [cell_of_row _ _ _ _ _ _ hg.out]
        exact ⟨_, List.getElem?_toArray .. ▸ List.getElem?_eq_getElem (by rw [bv_len, brow_len]; omega)⟩
      obtain ⟨u1, c1⟩ : ∃ u, wr.cell? ⟨R, 0, none⟩ = some u := by
        rw [cell_of_row _ _ _ _ _ _ hg.out]
        exact ⟨_, List.getElem?_toArray .. ▸ List.getElem?_eq_getElem (by rw [bv_len, brow_len]; omega)⟩
      obtain ⟨T, hT⟩ : ∃ T, T = bel n := ⟨_, rfl⟩
      have HT := vlt hT
      have HTL := Lib.hid (show T.length = 32 by rw [hT, bel_len])
      have hset : Hid (((wr.setCell ⟨R, 31, none⟩ (.int .u8 127)).setCell ⟨R, 0, none⟩ (.int .u8 (237 - n))).heap[R]? = some (.cells (bv T).toArray 23 (0, 0))) := by
        have h3 := (world_set_cell (world_set_cell hg.out 31 (.int .u8 127)).out 0 (.int .u8 (237 - n))).out
        have e1 : 237 - n = ((UInt8.ofNat (237 - n).toNat).toNat : Int) := by
          rw [UInt8.toNat_ofNat', show (2 : Nat) ^ 8 = 256 by decide, Nat.mod_eq_of_lt (by omega)]; omega
        rw [show (127 : Int) = ((127 : UInt8).toNat : Int) from rfl, bv_set, show (Value.int .u8 (237 - n)) = Value.int .u8 ((UInt8.ofNat (237 - n).toNat).toNat : Int) by rw [← e1], bv_set, ← show T = ((brow 31).set 31 127).set 0 (UInt8.ofNat (237 - n).toNat) by rw [hT]; rfl, ← e1] at h3
        exact h3
      have hb2 := (hbt.set (i := 31) (.int .u8 127)).set (i := 0) (.int .u8 (237 - n))
      clear hT hg hbt
      go_upto_region 8 with fail
      generalize (wr.setCell ⟨R, 31, none⟩ (.int .u8 127)).setCell ⟨R, 0, none⟩ (.int .u8 (237 - n)) = w3 at *
      have hz3 : Hid (w3.heap[w.heap.size]? = some (.cells (bv z32).toArray 23 (0, 0))) := (hb2.block _ (by omega) (by intro e; injection e; omega)).trans hZ.out
      have hbw : Below w.heap.size w w3 := But.below hbV hb2 (by omega) (by omega)
      have hsz := Lib.hid (bv_size T HTL.out)
      go_wp2_with (first
        | (with_reducible refine wpList_load_row rfl 23 (.tmp 3) rfl R rfl 23 (bv T).toArray (0, 0) _ hset.out Tryd.underlying23 rfl (by rw [hsz.out]; kernel_rfl) ?_)
        | (with_reducible refine wpList_store_row rfl 23 (.tmp 2) (.tmp 17) rfl w.heap.size (bv T).toArray rfl rfl 23 _ hz3.out (by rw [hsz.out]; kernel_rfl) (by rw [hsz.out]; kernel_rfl) (all_oneCell_toArray (bv_one _)) ?_))
      refine bodyPost_ret (v := .agg (bv T).toArray) (results_cell_row Tryd.results81 _ _ w.heap.size 23 _ (0, 0) _ rfl (setRow_heap _ _ _ _ _ _ hz3.out) Tryd.underlying23 rfl (by rw [hsz.out]; kernel_rfl)) rfl ⟨T, rfl, HT, HTL, below_setRow hbw (by omega) _⟩

set_option maxRecDepth 100000 in
set_option maxHeartbeats 1000000 in
theorem rinv_any (w : World) (x : List Int) (N : Nat) (hx : Fv x N) :
    Calls Tryd.prog 60 #[.agg (i64v x).toArray] w fun e w' => ∃ y, e = .returned (.agg (i64v y).toArray) ∧ Vlt (Fv y (N ^ FP2)) ∧ Hid (y.length = 16) ∧ Below w.heap.size w w' := by
  have hzf := zero_fe
  obtain ⟨W, hW, hgA, hgZ, hbW, hsW⟩ := pair_new w (i64v x).toArray (i64v z16).toArray 55 55
  have HW := Lib.hid hW
  have HX := vlt hx
  have HAS := Lib.hid (show (i64v x).length = 16 by rw [i64v_len, hx.1.len])
  have hs : w.heap.size + 1 < W.heap.size := by have := hsW.out; omega
  clear hW hx hsW
  go_enter Tryd.func60, Tryd.ntmps60
  go_upto_region 1 with fail
  rw [HW.out]
  refine wp_region_held_drew (S := (fun W' => W'.heap[w.heap.size]? = some (.cells (i64v x).toArray 55 (0, 0)))) (by kernel_rfl) (hgA.out) (fun hHeld => ?_)
  refine wpAnyH_take (i := 0) (oi := ⟨(some 3), _, _, _, _, _⟩) (v := _) rfl (by kernel_rfl) (by kernel_rfl) (by kernel_rfl) (fun _ _ _ h => h) (yieldsIf_load_mid (by rfl) _ _ rfl w.heap.size 0 rfl (i64v x) _ (fun W' hW' => range_row hW') (Tryd.underlying55) (rfl) (by rw [HAS.out]; kernel_rfl)) hHeld ?_
  try simp only [Act.put, List.setIfInBounds_toArray, List.set_cons_zero, List.set_cons_succ]
  refine wpAnyH_ready (rs := [1]) (by kernel_rfl) (by simp) ?_
  refine AllReadyH.cons (i := 1) (o := ⟨(some 4), _, _, _, _, _⟩) rfl (fun K hK => ?_) AllReadyH.nil
  go_simp
  refine (below_any _ 2 (by decide) (by decide)).mono ?_
  rintro e w1 ⟨b, rfl, e1, HB, hb1d⟩
  have hb1 : Below W.heap.size W w1 := below_undrew hb1d
  refine hK.out _ _ ((hb1.block _ (by omega)).trans hHeld) (fun hHeld => ?_)
  clear hK K
  try simp only [Act.put, List.setIfInBounds_toArray, List.set_cons_zero, List.set_cons_succ]
  have hbw1 := below_next hbW hbW.size hb1
  have hz1 : Hid (w1.heap[w.heap.size + 1]? = some (.cells (i64v z16).toArray 55 (0, 0))) := (hb1.block _ (by omega)).trans hgZ.out
  have hs1 : w.heap.size + 1 < w1.heap.size := (Array.getElem?_eq_some_iff.1 hz1.out).1
  refine wpAnyH_ready (rs := [2]) (by kernel_rfl) (by simp) ?_
  refine AllReadyH.cons (i := 2) (o := ⟨(some 5), _, _, _, _, _⟩) rfl (fun K hK => ?_) AllReadyH.nil
  go_simp
  refine (rpower_any w1 x HX.out.1 b HB.out).mono ?_
  rintro e w2 ⟨y, rfl, e2, HY, hb2⟩
  refine hK.out _ _ ((hb2.block _ (by omega)).trans hHeld) (fun hHeld => ?_)
  clear hK K
  try simp only [Act.put, List.setIfInBounds_toArray, List.set_cons_zero, List.set_cons_succ]
  have HE := vlt (show Fv y (N ^ FP2) by have h := fv_pow HX.out e2.out; rwa [e1.out, bel_2] at h)
  clear e1 e2
  have hbw2 := below_next hbw1 hbw1.size hb2
  have hz2 : Hid (w2.heap[w.heap.size + 1]? = some (.cells (i64v z16).toArray 55 (0, 0))) := (hb2.block _ (by omega)).trans hz1.out
  have HLS := Lib.hid (i64v_size y HY.out)
  refine wpAnyH_ready (rs := [3]) (by kernel_rfl) (by simp) ?_
  refine AllReadyH.cons (i := 3) (o := ⟨none, _, _, _, _, _⟩) rfl (fun K hK => ?_) AllReadyH.nil
  refine step_store_row rfl 55 (.tmp 2) (.tmp 5) rfl (w.heap.size + 1) (i64v y).toArray rfl rfl 55 _ hz2.out (by rw [HLS.out]; kernel_rfl) (by rw [HLS.out]; kernel_rfl) (all_oneCell_toArray (i64v_one _)) ?_
  refine hK.out _ _ ((setRow_other _ _ _ _ (by omega)).trans hHeld) (fun hHeld => ?_)
  clear hK K
  try simp only [Act.put]
  refine wpAnyH_done (by kernel_rfl) ?_ _
  go_wp2_with fail
  refine bodyPost_ret (v := .agg (i64v y).toArray) (results_cell_row Tryd.results60 _ _ (w.heap.size + 1) 55 _ (0, 0) _ rfl (setRow_heap _ _ _ _ _ _ hz2.out) Tryd.underlying55 rfl (by rw [HLS.out]; kernel_rfl)) rfl ⟨y, rfl, HE, HY, below_setRow hbw2 (by omega) _⟩

/-- A number's half, byte by byte. -/
def hb8 (l : List UInt8) (k : Nat) : UInt8 := UInt8.ofNat (nb l k / 2 + nb l (k + 1) % 2 * 128)
def halfB (l : List UInt8) : List UInt8 := (List.range 32).map (hb8 l)
theorem halfB_len (l : List UInt8) : (halfB l).length = 32 := by simp [halfB]
theorem halfB_at (l : List UInt8) (k : Nat) (h : k < 32) : (halfB l)[k]? = some (hb8 l k) := by simp [halfB, List.getElem?_range h]
structure Hlf (u l : List UInt8) (k : Nat) : Prop where
  len : u.length = 32
  rest : u.drop k = l.drop k
  done : u.take k = (halfB l).take k
theorem Hlf.now {u l : List UInt8} {k : Nat} (h : Hlf u l k) (hl : l.length = 32) (j : Nat) (hkj : k ≤ j) (hj : j < 32) : u[j]? = some (UInt8.ofNat (nb l j)) := by
  obtain ⟨i, rfl⟩ : ∃ i, j = k + i := ⟨j - k, by omega⟩
  rw [← List.getElem?_drop, h.rest, List.getElem?_drop]
  exact nb_at (by omega)
theorem Hlf.step {u l : List UInt8} {k : Nat} (h : Hlf u l k) (hk : k < 32) : Hlf (u.set k (hb8 l k)) l (k + 1) := by
  refine ⟨by rw [List.length_set, h.len], ?_, ?_⟩
  · rw [List.drop_set_of_lt (by omega), show k + 1 = k + 1 from rfl, ← List.drop_drop, h.rest, List.drop_drop]
  · have h1 : (u.set k (hb8 l k)).take (k + 1) = u.take k ++ [hb8 l k] := by
      rw [List.take_succ_eq_append_getElem (by rw [List.length_set, h.len]; exact hk), List.take_set_of_le (Nat.le_refl _)]; simp
    have h2 : (halfB l).take (k + 1) = (halfB l).take k ++ [hb8 l k] := by
      rw [List.take_succ_eq_append_getElem (by rw [halfB_len]; exact hk)]
      have := halfB_at l k hk
      rw [List.getElem?_eq_getElem (by rw [halfB_len]; exact hk)] at this
      rw [Option.some.inj this]
    rw [h1, h2, h.done]
theorem half_val (c d : Nat) (hc : c < 256) : ∃ y : Nat, y < 256 ∧ bits .or .u8 ((c : Int) / 2) ((d : Int) * 128 % 256) = (y : Int) ∧ y = c / 2 + d % 2 * 128 := by
  have h1 : (d : Int) * 128 % 256 = ((d % 2 * 128 : Nat) : Int) := by omega
  have h3 := u8_or_nat (c / 2) (d % 2 * 128) (by omega) (by omega)
  have h4 : c / 2 ||| d % 2 * 128 = c / 2 + d % 2 * 128 := by
    rw [Nat.or_comm, show d % 2 * 128 = (d % 2) <<< 7 by rw [Nat.shiftLeft_eq], ← Nat.shiftLeft_add_eq_or_of_lt (by omega)]; omega
  refine ⟨_, by omega, ?_, rfl⟩
  rw [h1, show (c : Int) / 2 = ((c / 2 : Nat) : Int) by omega, h3, h4]
set_option maxRecDepth 100000 in
set_option maxHeartbeats 2000000 in
theorem half_any (w : World) (l : List UInt8) (hl : l.length = 32) : Calls Tryd.prog 82 #[.agg (bv l).toArray] w fun e w' => ∃ r, e = .returned (.agg (bv r).toArray) ∧ Vlt (r = halfB l) ∧ Hid (r.length = 32) ∧ Below w.heap.size w w' := by
  have hzw := zero_word
  obtain ⟨W, hW, hgA, hgZ, hbW, hsW⟩ := pair_new w (bv l).toArray (bv z32).toArray 23 23
  have HW := Lib.hid hW
  have HL := Lib.hid hl
  have hs : w.heap.size + 1 < W.heap.size := by have := hsW.out; omega
  clear hW hl hsW
  go_enter Tryd.func82, Tryd.ntmps82
  go_upto_region 1 with fail
  rw [HW.out]
  go_wp2_with fail
  go_loopw [3] (fun s wr => ∃ (k : Nat) (u : List UInt8), k ≤ 32 ∧ s = .int .i64 (k : Int) ∧ Hid (wr.heap[w.heap.size]? = some (.cells (bv u).toArray 23 (0, 0))) ∧ Vlt (Hlf u l k) ∧ But w.heap.size W wr) (fun s _ => 32 - (intOf s).toNat)
  case atStart => exact ⟨0, l, by omega, rfl, hgA, vlt ⟨HL.out, rfl, by simp⟩, But.refl _ _⟩
  case round =>
    obtain ⟨k, u, hk, rfl, hg, hF, hbt⟩ := hrel
    by_cases hlt : k < 32
    · have f0 : wr.frozen? ⟨w.heap.size, k, none⟩ = false := frozen_of_row _ _ _ _ _ hg.out
      have lc := nb_lt l k
      have c0 := byte_cell hg.out (hF.out.now HL.out k (Nat.le_refl _) hlt)
      rw [UInt8.toNat_ofNat', show (2 : Nat) ^ 8 = 256 by decide, Nat.mod_eq_of_lt lc] at c0
      have hn := vlt (hF.out.step hlt)
      have hs1 := world_set_cell hg.out k (.int .u8 ((nb l k : Int) / 2))
      have hb1 := hbt.set (i := k) (.int .u8 ((nb l k : Int) / 2))
      by_cases hlt2 : k < 31
      · have ld := nb_lt l (k + 1)
        have hd := vlt (hF.out.now HL.out (k + 1) (by omega) (by omega))
        have c1 : (wr.setCell ⟨w.heap.size, k, none⟩ (.int .u8 ((nb l k : Int) / 2))).cell? ⟨w.heap.size, k + 1, none⟩ = some (.int .u8 ((nb l (k + 1) : Nat) : Int)) := by
          have h3 := byte_cell hg.out hd.out
          rw [UInt8.toNat_ofNat', show (2 : Nat) ^ 8 = 256 by decide, Nat.mod_eq_of_lt ld] at h3
          rw [cell_of_row _ _ _ _ _ _ hs1.out, ← h3, cell_of_row _ _ _ _ _ _ hg.out]
          simp
        have c2 : (wr.setCell ⟨w.heap.size, k, none⟩ (.int .u8 ((nb l k : Int) / 2))).cell? ⟨w.heap.size, k, none⟩ = some (.int .u8 ((nb l k : Int) / 2)) := by
          rw [cell_of_row _ _ _ _ _ _ hs1.out]
          simp [bv_len, hF.out.len, hlt]
        have f1 : (wr.setCell ⟨w.heap.size, k, none⟩ (.int .u8 ((nb l k : Int) / 2))).frozen? ⟨w.heap.size, k, none⟩ = false := frozen_of_row _ _ _ _ _ hs1.out
        obtain ⟨y, ly, ey, hy⟩ := half_val (nb l k) (nb l (k + 1)) lc
        have hs2 := world_set_cell hs1.out k (.int .u8 (y : Int))
        rw [List.set_set, show (Value.int .u8 (y : Int)) = Value.int .u8 ((hb8 l k).toNat : Int) by rw [hb8, ← hy, UInt8.toNat_ofNat', show (2 : Nat) ^ 8 = 256 by decide, Nat.mod_eq_of_lt ly], bv_set] at hs2
        rw [show ((hb8 l k).toNat : Int) = (y : Int) by rw [hb8, ← hy, UInt8.toNat_ofNat', show (2 : Nat) ^ 8 = 256 by decide, Nat.mod_eq_of_lt ly]] at hs2
        have hb2 := hb1.set (i := k) (.int .u8 (y : Int))
        clear hd hy hs1 hb1
        generalize nb l k = c at *
        generalize nb l (k + 1) = d at *
        go_upto_region 6 with fail
        generalize wr.setCell ⟨w.heap.size, k, none⟩ (.int .u8 ((c : Int) / 2)) = w1 at *
        go_wp2_with fail
        go_region
        go_wp2
        go_roundw
        case rel => exact ⟨k + 1, _, by omega, by go_num, hs2, hn, hb2.drew⟩
        case measure => simp [intOf]; omega
      · obtain rfl : k = 31 := by omega
        have h0 : nb l 32 = 0 := by
          have h1 : l[32]? = none := List.getElem?_eq_none (by rw [HL.out]; exact Nat.le_refl _)
          simp [nb, List.getD_eq_getElem?_getD, h1]
        have e1 : (nb l 31 : Int) / 2 = ((hb8 l 31).toNat : Int) := by
          rw [hb8, h0, UInt8.toNat_ofNat', show (2 : Nat) ^ 8 = 256 by decide, Nat.mod_eq_of_lt (by omega)]; omega
        rw [show (Value.int .u8 ((nb l 31 : Int) / 2)) = Value.int .u8 ((hb8 l 31).toNat : Int) by rw [← e1], bv_set, ← e1] at hs1
        clear e1 h0
        generalize nb l 31 = c at *
        go_wp2
        go_roundw
        case rel => exact ⟨32, _, by omega, by go_num, hs1, hn, hb1⟩
        case measure => simp [intOf]
    · obtain rfl : k = 32 := by omega
      have HU := vlt (show u = halfB l by have h := hF.out.done; rwa [List.take_of_length_le (by rw [hF.out.len]; decide), List.take_of_length_le (by rw [halfB_len]; decide)] at h)
      have HUL := Lib.hid hF.out.len
      have hsz := Lib.hid (bv_size u HUL.out)
      have hz : Hid (wr.heap[w.heap.size + 1]? = some (.cells (bv z32).toArray 23 (0, 0))) := (hbt.block _ (by omega) (by intro e; injection e; omega)).trans hgZ.out
      have hbw : Below w.heap.size w wr := But.below hbW hbt (by omega) (by omega)
      clear hF
      go_wp2_with (first
        | (with_reducible refine wpList_load_row rfl 23 (.tmp 1) rfl w.heap.size rfl 23 (bv u).toArray (0, 0) _ hg.out Tryd.underlying23 rfl (by rw [hsz.out]; kernel_rfl) ?_)
        | (with_reducible refine wpList_store_row rfl 23 (.tmp 2) (.tmp 27) rfl (w.heap.size + 1) (bv u).toArray rfl rfl 23 _ hz.out (by rw [hsz.out]; kernel_rfl) (by rw [hsz.out]; kernel_rfl) (all_oneCell_toArray (bv_one _)) ?_))
      refine bodyPost_ret (v := .agg (bv u).toArray) (results_cell_row Tryd.results82 _ _ (w.heap.size + 1) 23 _ (0, 0) _ rfl (setRow_heap _ _ _ _ _ _ hz.out) Tryd.underlying23 rfl (by rw [hsz.out]; kernel_rfl)) rfl ⟨u, rfl, HU, HUL, below_setRow hbw (by omega) _⟩
end Go.Proofs.YtehkalbiomagjaaDoor
namespace Go.Proofs.YtehkalbiomagjaaDoor
open Go.RowKit

/-- The prime's pieces; what is less them. -/
def PL : List Int := [65517, 65535, 65535, 65535, 65535, 65535, 65535, 65535, 65535, 65535, 65535, 65535, 65535, 65535, 65535, 32767]
def dif : List Int → List Int → List Int
  | x :: r, y :: s => (x - y) :: dif r s
  | _, _ => []
theorem dif_len : ∀ (a b : List Int), a.length = b.length → (dif a b).length = a.length
  | [], [], _ => rfl
  | x :: r, y :: s, h => by rw [dif, List.length_cons, List.length_cons, dif_len r s (by simpa using h)]
theorem dif_val : ∀ (a b : List Int), a.length = b.length → fvs (dif a b) = fvs a - fvs b
  | [], [], _ => by simp [dif, fvs]
  | x :: r, y :: s, h => by rw [dif, fvs, fvs, fvs, dif_val r s (by simpa using h)]; grind
theorem dif_at : ∀ (a b : List Int) (k : Nat), k < a.length → k < b.length → iat (dif a b) k = iat a k - iat b k
  | x :: r, y :: s, 0, _, _ => by simp [dif, iat]
  | x :: r, y :: s, k + 1, h1, h2 => by
    have := dif_at r s k (by simpa using h1) (by simpa using h2)
    simpa [dif, iat] using this
theorem pl_val : fvs PL = (FP : Int) := by decide
theorem pl_at (k : Nat) (h1 : 1 ≤ k) (h2 : k < 15) : iat PL k = 65535 := by
  match k, h1, h2 with
  | 1, _, _ | 2, _, _ | 3, _, _ | 4, _, _ | 5, _, _ | 6, _, _ | 7, _, _ | 8, _, _ | 9, _, _ | 10, _, _ | 11, _, _ | 12, _, _ | 13, _, _ | 14, _, _ => rfl
/-- The pieces of the one less the prime on the way. -/
def vS (D : List Int) (j : Nat) : Int := iat D j + (carL 0 (D.take j)).2
def mS (D : List Int) (j : Nat) : List Int := (carL 0 (D.take j)).1 ++ vS D j :: List.replicate (15 - j) 0
theorem mS_len (D : List Int) (hD : D.length = 16) (j : Nat) (hj : j < 16) : (mS D j).length = 16 := by
  rw [mS, List.length_append, carL_len, List.length_cons, List.length_take, List.length_replicate]; omega
theorem mS_at (D : List Int) (hD : D.length = 16) (j : Nat) (hj : j < 16) : iat (mS D j) j = vS D j := by
  rw [mS, iat_mid _ _ _ _ (car_take_len D hD j (by omega))]
theorem mS_next (D : List Int) (hD : D.length = 16) (j : Nat) (hj : j < 15) : ((mS D j).set (j + 1) (iat D (j + 1) + vS D j / 65536)).set j (vS D j - vS D j / 65536 * 65536) = mS D (j + 1) := by
  have hA := car_take_len D hD j (by omega)
  have hs := carL_snoc (D.take j) (iat D j) 0
  rw [← take_iat (by omega)] at hs
  have hr : List.replicate (15 - j) (0 : Int) = 0 :: List.replicate (15 - (j + 1)) 0 := by rw [show 15 - j = (15 - (j + 1)) + 1 by omega, List.replicate_succ]
  have ha : ∀ y z, (carL 0 (D.take j)).1 ++ y :: z :: List.replicate (15 - (j + 1)) 0 = ((carL 0 (D.take j)).1 ++ [y]) ++ z :: List.replicate (15 - (j + 1)) 0 := by intro y z; simp
  rw [mS, hr, ha, set_mid _ _ _ _ _ (by rw [List.length_append, hA]; rfl), ← ha, set_mid _ _ _ _ _ hA, ha, mS, hs, vS, vS, hs]
theorem vS_small (D : List Int) (hD : D.length = 16) (hb : ∀ x ∈ D, -65535 ≤ x ∧ x ≤ 65535) (j : Nat) (hj : j < 16) : -65536 ≤ vS D j ∧ vS D j ≤ 65535 := by
  have h : ∀ (l : List Int), (∀ x ∈ l, -65535 ≤ x ∧ x ≤ 65535) → ∀ c, -1 ≤ c → c ≤ 0 → -1 ≤ (carL c l).2 ∧ (carL c l).2 ≤ 0 := by
    intro l
    induction l with
    | nil => intro _ c h1 h2; exact ⟨h1, h2⟩
    | cons x r ih =>
      intro hl c h1 h2
      have hx := hl x (by simp)
      exact ih (fun y hy => hl y (by simp [hy])) _ (by omega) (by omega)
  have h1 := h (D.take j) (fun y hy => hb y (List.mem_of_mem_take hy)) 0 (by decide) (by decide)
  have h2 := mem_iat (P := fun x => -65535 ≤ x ∧ x ≤ 65535) hb (k := j) (by omega)
  unfold vS
  omega
theorem mS_end (D : List Int) (hD : D.length = 16) : fvs (mS D 15) = fvs D ∧ (vS D 15 < 0 → fvs D < 0) ∧ (0 ≤ vS D 15 → vS D 15 ≤ 65535 → Can (mS D 15)) := by
  have hv := carL_val (D.take 15) 0
  have hbits := carL_bits (D.take 15) 0
  have hA := car_take_len D hD 15 (by omega)
  have ht := fvs_take D 15 (by omega)
  rw [fvs_all D hD] at ht
  have hfb := fvs_bits _ hbits
  rw [hA] at hfb
  rw [List.length_take, hD, Nat.min_eq_left (by decide)] at hv
  have hval : fvs (mS D 15) = fvs (carL 0 (D.take 15)).1 + 65536 ^ 15 * vS D 15 := by
    rw [mS, fvs_app, hA]
    simp [fvs]
  have hvs : vS D 15 = iat D 15 + (carL 0 (D.take 15)).2 := rfl
  have h1 : fvs (mS D 15) = fvs D := by rw [hval, hvs, ht]; grind
  refine ⟨h1, fun h => ?_, fun h h2 => ⟨mS_len D hD 15 (by decide), fun x hx => ?_⟩⟩
  · rw [← h1, hval]
    have hp : (0 : Int) < 65536 ^ 15 := by decide
    generalize (65536 : Int) ^ 15 = Q at *
    have h3 : Q * vS D 15 ≤ Q * (-1) := Int.mul_le_mul_of_nonneg_left (by omega) (by omega)
    omega
  · rw [mS] at hx
    rcases List.mem_append.1 hx with h3 | h3
    · exact hbits x h3
    · simp at h3
      rw [h3]; exact ⟨h, h2⟩
theorem i64_low16 (n : Int) : bits .and .i64 n 65535 = n % 65536 := by
  have h127 : (BitVec.ofInt 64 65535).toNat = 2 ^ 16 - 1 := by decide
  have key : (BitVec.ofInt 64 n &&& BitVec.ofInt 64 65535).toNat = (n % ((2 ^ 64 : Nat) : Int)).toNat % 2 ^ 16 := by
    rw [BitVec.toNat_and, BitVec.toNat_ofInt, h127, Nat.and_two_pow_sub_one_eq_mod]
  show IntKind.i64.wrap ((BitVec.ofInt 64 n &&& BitVec.ofInt 64 65535).toNat : Nat) = n % 65536
  rw [key, IntKind.wrap_i64]
  omega
theorem i64_low1 (n : Int) : bits .and .i64 n 1 = n % 2 := by
  have h127 : (BitVec.ofInt 64 1).toNat = 2 ^ 1 - 1 := by decide
  have key : (BitVec.ofInt 64 n &&& BitVec.ofInt 64 1).toNat = (n % ((2 ^ 64 : Nat) : Int)).toNat % 2 ^ 1 := by
    rw [BitVec.toNat_and, BitVec.toNat_ofInt, h127, Nat.and_two_pow_sub_one_eq_mod]
  show IntKind.i64.wrap ((BitVec.ofInt 64 n &&& BitVec.ofInt 64 1).toNat : Nat) = n % 2
  rw [key, IntKind.wrap_i64]
  omega
theorem But.other {g q : Nat} {a b c : World} (h : But g a b) (k : But q b c) (hq : a.heap.size ≤ q) : But g a c :=
  ⟨k.os.trans h.os, k.tape.trans h.tape, k.output.trans h.output, Nat.le_trans h.size k.size, fun i hi hn => (k.block i (Nat.lt_of_lt_of_le hi h.size) (fun e => by injection e; omega)).trans (h.block i hi hn)⟩
theorem fin_val {V R : Int} {n N : Nat} (h0 : 0 ≤ V) (h1 : V < (FP : Int)) (h3 : V = R - (n : Int) * (FP : Int)) (hc : R % (FP : Int) = (N : Int) % (FP : Int)) : ((ln (wo N) : Nat) : Int) = V := by
  have h4 : V % (FP : Int) = (N : Int) % (FP : Int) := by
    rw [← hc, h3, show R - (n : Int) * (FP : Int) = R + (FP : Int) * (-(n : Int)) by grind, Int.add_mul_emod_self_left]
  rw [Int.emod_eq_of_lt h0 h1] at h4
  rw [ln_wo, h4, Int.natCast_emod]
theorem next_val (R : Int) (n : Nat) : R - (n : Int) * (FP : Int) - (FP : Int) = R - ((n + 1 : Nat) : Int) * (FP : Int) := by
  rw [Int.natCast_add]
  grind
/-- What the loop over the bytes has written. -/
structure Wr (u : List UInt8) (o : List Int) (i : Nat) : Prop where
  len : u.length = 32
  val : ((ln (u.take (2 * i)) : Nat) : Int) = fvs (o.take i)
theorem Wr.step {u : List UInt8} {o : List Int} {i : Nat} (h : Wr u o i) (ho : o.length = 16) (hi : i < 16) (c d : Nat) (lc : c < 256) (ld : d < 256) (he : iat o i = (c : Int) + (d : Int) * 256) :
    Wr ((u.set (2 * i) (UInt8.ofNat c)).set (2 * i + 1) (UInt8.ofNat d)) o (i + 1) := by
  refine ⟨by rw [List.length_set, List.length_set, h.len], ?_⟩
  have h1 := ln_pair ((u.set (2 * i) (UInt8.ofNat c)).set (2 * i + 1) (UInt8.ofNat d)) i c d
    (by rw [List.getElem?_set_ne (by omega), List.getElem?_set_self (by rw [h.len]; omega)])
    (by rw [List.getElem?_set_self (by rw [List.length_set, h.len]; omega)]) lc ld (by rw [List.length_set, List.length_set, h.len]; omega)
  rw [h1, List.take_set_of_le (by omega), List.take_set_of_le (by omega), h.val, fvs_take o i (by omega), he]
  grind
set_option maxRecDepth 100000 in
set_option maxHeartbeats 4000000 in
theorem rout_any (w : World) (l : List Int) (hn : Near l) (N : Nat) (hN : fvs l % (FP : Int) = (N : Int) % (FP : Int)) :
    Calls Tryd.prog 43 #[.agg (i64v l).toArray] w fun e w' => ∃ b, e = .returned (.agg (bv b).toArray) ∧ Vlt (b = wo N) ∧ Hid (b.length = 32) ∧ Below w.heap.size w w' := by
  have hzf := zero_fe
  have hzw := zero_word
  obtain ⟨W, hW, gA, gZ, hbW, hsW⟩ := pair_new w (i64v l).toArray (bv z32).toArray 55 23
  have HW := Lib.hid hW
  have NL := vlt hn
  have HNN := vlt hN
  have hs : w.heap.size + 1 < W.heap.size := by have := hsW.out; omega
  have hsl := Lib.hid (i64v_size l hn.len)
  clear hW hn hN hsW
  go_enter Tryd.func43, Tryd.ntmps43
  go_upto_region 1 with fail
  rw [HW.out]
  go_wp2_with (with_reducible refine wpList_load_row rfl 55 (.tmp 1) rfl w.heap.size rfl 55 (i64v l).toArray (0, 0) _ gA.out Tryd.underlying55 rfl (by rw [hsl.out]; kernel_rfl) ?_)
  refine (rcar_any W l NL.out.len (fun x hx => by have := near_mem NL.out x hx; omega)).mono ?_
  rintro e w1 ⟨r1, rfl, e1, hr1, hb1⟩
  have HC := vlt (show Can r1 ∧ fvs r1 % (FP : Int) = (N : Int) % (FP : Int) by rw [e1.out, NL.out.car.2]; exact ⟨NL.out.car.1, HNN.out⟩)
  go_wp2_with fail
  refine (rcar_any w1 r1 hr1.out (fun x hx => by have := HC.out.1.2 x hx; omega)).mono ?_
  rintro e w2 ⟨r2, rfl, e2, hr2, hb2⟩
  obtain rfl : r1 = r2 := by rw [e2.out, HC.out.1.car]
  go_wp2_with fail
  refine (rcar_any w2 r1 hr1.out (fun x hx => by have := HC.out.1.2 x hx; omega)).mono ?_
  rintro e w3 ⟨r3, rfl, e3, hr3, hb3⟩
  obtain rfl : r1 = r3 := by rw [e3.out, HC.out.1.car]
  clear e1 e2 e3
  have hbx := below_next (below_next hb1 hb1.size hb2) (below_next hb1 hb1.size hb2).size hb3
  have gA3 : Hid (w3.heap[w.heap.size]? = some (.cells (i64v l).toArray 55 (0, 0))) := (hbx.block _ (by omega)).trans gA.out
  have gZ3 : Hid (w3.heap[w.heap.size + 1]? = some (.cells (bv z32).toArray 23 (0, 0))) := (hbx.block _ (by omega)).trans gZ.out
  have hbw3 := below_next hbW hbW.size hbx
  have hs3 : w.heap.size + 1 < w3.heap.size := (Array.getElem?_eq_some_iff.1 gZ3.out).1
  have hsr := Lib.hid (i64v_size r1 hr1.out)
  go_upto_region 2 with (with_reducible refine wpList_store_row rfl 55 (.tmp 1) (.tmp 11) rfl w.heap.size (i64v r1).toArray rfl rfl 55 _ gA3.out (by rw [hsr.out]; kernel_rfl) (by rw [hsr.out, hsl.out]) (all_oneCell_toArray (i64v_one _)) ?_)
  obtain ⟨V, hV⟩ : ∃ V, V = w3.setRow w.heap.size (i64v r1).toArray := ⟨_, rfl⟩
  rw [← hV]
  have vA : Hid (V.heap[w.heap.size]? = some (.cells (i64v r1).toArray 55 (0, 0))) := by rw [hV]; exact setRow_heap _ _ _ _ _ _ gA3.out
  have vZ : Hid (V.heap[w.heap.size + 1]? = some (.cells (bv z32).toArray 23 (0, 0))) := by rw [hV]; exact (setRow_other _ _ _ _ (by omega)).trans gZ3.out
  have hbV : Below w.heap.size w V := by rw [hV]; exact below_setRow hbw3 (by omega) _
  have hsV : w.heap.size + 1 < V.heap.size := (Array.getElem?_eq_some_iff.1 vZ.out).1
  clear hV gA3 gZ3 hbw3 hbx hb1 hb2 hb3 gA gZ hbW hs3
  go_wp2_with fail
  go_loopw [3] (fun s wr => ∃ (n : Nat) (o : List Int), n ≤ 3 ∧ s = .int .i64 (n : Int) ∧ Hid (wr.heap[w.heap.size]? = some (.cells (i64v o).toArray 55 (0, 0))) ∧ Vlt (Can o ∧ fvs o = fvs r1 - (n : Int) * (FP : Int)) ∧ But w.heap.size V wr) (fun s _ => 3 - (intOf s).toNat)
  case atStart => exact ⟨0, r1, by omega, rfl, vA, vlt ⟨HC.out.1, by simp⟩, But.refl _ _⟩
  case round =>
    obtain ⟨n, o, hn3, rfl, hg, hO, hbt⟩ := hrel
    have hz : Hid (wr.heap[w.heap.size + 1]? = some (.cells (bv z32).toArray 23 (0, 0))) := (hbt.block _ (by omega) (by intro e; injection e; omega)).trans vZ.out
    have hsw : w.heap.size + 1 < wr.heap.size := (Array.getElem?_eq_some_iff.1 hz.out).1
    by_cases hlt : n < 3
    · have HOL := Lib.hid hO.out.1.1
      have hso := Lib.hid (i64v_size o hO.out.1.1)
      have HDL := Lib.hid (show (dif o PL).length = 16 by rw [dif_len o PL (by rw [HOL.out]; rfl), HOL.out])
      have HDV := vlt (show fvs (dif o PL) = fvs o - (FP : Int) by rw [dif_val o PL (by rw [HOL.out]; rfl), pl_val])
      have HDB := vlt (show ∀ x ∈ dif o PL, -65535 ≤ x ∧ x ≤ 65535 by
        intro x hx
        obtain ⟨k, hk, rfl⟩ := List.mem_iff_getElem.1 hx
        rw [HDL.out] at hk
        have h1 := dif_at o PL k (by rw [HOL.out]; exact hk) (by exact hk)
        have h2 := mem_iat (P := fun x => 0 ≤ x ∧ x ≤ 65535) hO.out.1.2 (k := k) (by rw [HOL.out]; exact hk)
        have h3 := mem_iat (l := PL) (P := fun x => 0 ≤ x ∧ x ≤ 65535) (by decide) (k := k) (by exact hk)
        have h4 : iat (dif o PL) k = (dif o PL)[k] := by rw [iat, List.getD_eq_getElem?_getD, List.getElem?_eq_getElem (by rw [HDL.out]; exact hk)]; rfl
        rw [← h4, h1]
        omega)
      have c0 := int_at hg.out 0 (by rw [HOL.out]; decide)
      have l0 := mem_iat (P := fun x => 0 ≤ x ∧ x ≤ 65535) hO.out.1.2 (k := 0) (by rw [HOL.out]; decide)
      go_upto_region 6 with ((with_reducible refine wpList_store_row rfl 55 (.tmp 4) (.tmp 16) rfl wr.heap.size (i64v z16).toArray rfl rfl 55 _ (heap_alloc_new _ _) (by kernel_rfl) (by kernel_rfl) (all_oneCell_toArray (i64v_one _)) ?_); rw [World.setRow_alloc_new])
      obtain ⟨U, hU⟩ : ∃ U, U = wr.alloc (.cells (i64v z16).toArray 55) := ⟨_, rfl⟩
      rw [← hU]
      have uO : Hid (U.heap[w.heap.size]? = some (.cells (i64v o).toArray 55 (0, 0))) := by rw [hU]; exact (Below.heap_alloc _ _ _ (by omega)).trans hg.out
      have uM : Hid (U.heap[wr.heap.size]? = some (.cells (i64v z16).toArray 55 (0, 0))) := by rw [hU]; exact heap_alloc_new _ _
      have hbU : But w.heap.size V U := by rw [hU]; exact hbt.alloc _
      obtain ⟨Q, hQ⟩ : ∃ Q, Q = wr.heap.size := ⟨_, rfl⟩
      rw [← hQ] at uM hsw ⊢
      have hQV : V.heap.size ≤ Q := by rw [hQ]; exact hbt.size
      clear hU hQ hz c0
      have hsU : Q < U.heap.size := (Array.getElem?_eq_some_iff.1 uM.out).1
      have c0 := int_at uO.out 0 (by rw [HOL.out]; decide)
      have cm0 := int_at uM.out 0 (by decide)
      have fm0 : U.frozen? ⟨Q, 0, none⟩ = false := frozen_of_row _ _ _ _ _ uM.out
      have hsm := world_set_cell uM.out 0 (.int .i64 (iat o 0 - 65517))
      rw [i64v_set, show z16.set 0 (iat o 0 - 65517) = mS (dif o PL) 0 by
        rw [mS, vS, dif_at o PL 0 (by rw [HOL.out]; decide) (by decide)]
        simp [carL, z16, List.replicate, iat, PL]] at hsm
      have hbm := (But.refl Q U).set (i := 0) (.int .i64 (iat o 0 - 65517))
      generalize iat o 0 = o0 at *
      generalize iat z16 0 = zz at *
      go_upto_region 7 with fail
      generalize U.setCell ⟨Q, 0, none⟩ (.int .i64 (o0 - 65517)) = U1 at *
      go_upto_region 8 with fail
      clear c0 cm0 fm0 l0
      obtain ⟨D, hD⟩ : ∃ D, D = dif o PL := ⟨_, rfl⟩
      rw [← hD] at HDL HDV HDB hsm
      have HDE := vlt (fun k (hk : k < 16) => show iat D k = iat o k - iat PL k by rw [hD]; exact dif_at o PL k (by rw [HOL.out]; exact hk) (by exact hk))
      clear hD
      generalize decide ((n : Int) < 3) = b3
      obtain ⟨Y0, hY0⟩ : ∃ Y0, Y0 = wr := ⟨_, rfl⟩
      subst hY0
      go_loopw [5] (fun s wi => ∃ (j : Nat), j ≤ 14 ∧ s = .int .i64 ((j : Int) + 1) ∧ Hid (wi.heap[Q]? = some (.cells (i64v (mS D j)).toArray 55 (0, 0))) ∧ But Q U wi) (fun s _ => 16 - (intOf s).toNat)
      case atStart => exact ⟨0, by omega, rfl, hsm, hbm⟩
      case round =>
        obtain ⟨j, hj, rfl, hgm, hbi⟩ := hrel
        have hgo : Hid (wr.heap[w.heap.size]? = some (.cells (i64v o).toArray 55 (0, 0))) := (hbi.block _ (by omega) (by intro e; injection e; omega)).trans uO.out
        have hv := vS_small D HDL.out HDB.out j (by omega)
        have cv := int_at hgm.out j (by rw [mS_len D HDL.out j (by omega)]; omega)
        rw [mS_at D HDL.out j (by omega)] at cv
        have hnext := vlt (fun (h : j < 15) => mS_next D HDL.out j h)
        have hrow := Lib.hid (mS_len D HDL.out j (by omega))
        obtain ⟨v, hve⟩ : ∃ v, v = vS D j := ⟨_, rfl⟩
        rw [← hve] at hv cv hnext
        have h1 : bits .and .i64 (v / 65536) 1 = -(v / 65536) := by rw [i64_low1]; omega
        have h2 : bits .and .i64 v 65535 = v - v / 65536 * 65536 := by rw [i64_low16]; omega
        obtain ⟨M, hM⟩ : ∃ M, M = mS D j := ⟨_, rfl⟩
        rw [← hM] at hgm hrow hnext
        clear hM hve
        by_cases hlt2 : j < 14
        · have cx := int_at hgo.out (j + 1) (by rw [HOL.out]; omega)
          have lx := mem_iat (P := fun x => 0 ≤ x ∧ x ≤ 65535) hO.out.1.2 (k := j + 1) (by rw [HOL.out]; omega)
          have hde := HDE.out (j + 1) (by omega)
          rw [pl_at (j + 1) (by omega) (by omega)] at hde
          have cm := int_at hgm.out (j + 1) (by rw [hrow.out]; omega)
          have f0 : wr.frozen? ⟨Q, j + 1, none⟩ = false := frozen_of_row _ _ _ _ _ hgm.out
          have hs1 := world_set_cell hgm.out (j + 1) (.int .i64 (iat o (j + 1) - 65535 + v / 65536))
          rw [i64v_set] at hs1
          have hb1 := hbi.set (i := j + 1) (.int .i64 (iat o (j + 1) - 65535 + v / 65536))
          have cv1 : (wr.setCell ⟨Q, j + 1, none⟩ (.int .i64 (iat o (j + 1) - 65535 + v / 65536))).cell? ⟨Q, j, none⟩ = some (.int .i64 v) := by
            rw [cell_of_row _ _ _ _ _ _ hs1.out]
            have h5 := cv
            rw [cell_of_row _ _ _ _ _ _ hgm.out] at h5
            rw [← h5]
            simp [i64v_at]
          have f1 : (wr.setCell ⟨Q, j + 1, none⟩ (.int .i64 (iat o (j + 1) - 65535 + v / 65536))).frozen? ⟨Q, j, none⟩ = false := frozen_of_row _ _ _ _ _ hs1.out
          have hs2 := world_set_cell hs1.out j (.int .i64 (v - v / 65536 * 65536))
          rw [i64v_set, show iat o (j + 1) - 65535 + v / 65536 = iat D (j + 1) + v / 65536 by rw [hde], hnext.out (by omega), ← show iat o (j + 1) - 65535 + v / 65536 = iat D (j + 1) + v / 65536 by rw [hde]] at hs2
          have hb2 := hb1.set (i := j) (.int .i64 (v - v / 65536 * 65536))
          clear hde hs1 hb1 hnext
          generalize iat M (j + 1) = mz at *
          generalize iat o (j + 1) = x at *
          go_wp2_with fail
          go_region
          go_wp2
          go_roundw
          case rel => exact ⟨j + 1, by omega, by go_num, hs2, hb2.drew⟩
          case measure => simp [intOf]; omega
        · obtain rfl : j = 14 := by omega
          have cx := int_at hgo.out 15 (by rw [HOL.out]; decide)
          have lx := mem_iat (P := fun x => 0 ≤ x ∧ x ≤ 65535) hO.out.1.2 (k := 15) (by rw [HOL.out]; decide)
          have hde := HDE.out 15 (by decide)
          rw [show iat PL 15 = 32767 from rfl] at hde
          have cm := int_at hgm.out 15 (by rw [hrow.out]; decide)
          have f0 : wr.frozen? ⟨Q, 15, none⟩ = false := frozen_of_row _ _ _ _ _ hgm.out
          have hs1 := world_set_cell hgm.out 15 (.int .i64 (iat o 15 - 32767 + v / 65536))
          rw [i64v_set] at hs1
          have hb1 := hbi.set (i := 15) (.int .i64 (iat o 15 - 32767 + v / 65536))
          have cv1 : (wr.setCell ⟨Q, 15, none⟩ (.int .i64 (iat o 15 - 32767 + v / 65536))).cell? ⟨Q, 14, none⟩ = some (.int .i64 v) := by
            rw [cell_of_row _ _ _ _ _ _ hs1.out]
            have h5 := cv
            rw [cell_of_row _ _ _ _ _ _ hgm.out] at h5
            rw [← h5]
            simp [i64v_at]
          have f1 : (wr.setCell ⟨Q, 15, none⟩ (.int .i64 (iat o 15 - 32767 + v / 65536))).frozen? ⟨Q, 14, none⟩ = false := frozen_of_row _ _ _ _ _ hs1.out
          have hs2 := world_set_cell hs1.out 14 (.int .i64 (v - v / 65536 * 65536))
          have he15 : iat o 15 - 32767 + v / 65536 = iat D 15 + v / 65536 := by rw [hde]
          rw [i64v_set, he15, hnext.out (by omega), ← he15] at hs2
          have hb2 := hb1.set (i := 14) (.int .i64 (v - v / 65536 * 65536))
          have hx15 := vlt (show vS D 15 = iat o 15 - 32767 + v / 65536 by
            rw [he15]
            have h5 := mS_at D HDL.out 15 (by decide)
            have h6 := hnext.out (by omega)
            rw [← h5, ← h6, iat_set_other _ _ _ _ (by decide), iat_set_same _ _ _ (by rw [hrow.out]; decide)])
          have c15 : ((wr.setCell ⟨Q, 15, none⟩ (.int .i64 (iat o 15 - 32767 + v / 65536))).setCell ⟨Q, 14, none⟩ (.int .i64 (v - v / 65536 * 65536))).cell? ⟨Q, 15, none⟩ = some (.int .i64 (iat o 15 - 32767 + v / 65536)) := by
            have h5 := int_at hs2.out 15 (by rw [mS_len D HDL.out 15 (by decide)]; decide)
            rw [mS_at D HDL.out 15 (by decide), hx15.out] at h5
            exact h5
          have HEND := vlt (mS_end D HDL.out)
          clear hde he15 hs1 hb1 hnext
          generalize iat M 15 = mz at *
          generalize iat o 15 = x at *
          have lxb : -65536 ≤ x - 32767 + v / 65536 ∧ x - 32767 + v / 65536 ≤ 65535 := by omega
          go_upto_region 14 with fail
          generalize (wr.setCell ⟨Q, 15, none⟩ (.int .i64 (x - 32767 + v / 65536))).setCell ⟨Q, 14, none⟩ (.int .i64 (v - v / 65536 * 65536)) = w5 at *
          have hbw5 := hbU.other hb2 hQV
          have go5 : Hid (w5.heap[w.heap.size]? = some (.cells (i64v o).toArray 55 (0, 0))) := (hb2.block _ (by omega) (by intro e; injection e; omega)).trans uO.out
          generalize x - 32767 + v / 65536 = y at *
          clear cx cm cv f0 f1 cv1 h1 h2 hv hbi hgo hgm hb2
          by_cases hneg : y < 0
          · have HLT := vlt (show fvs o < (FP : Int) by
              have h5 := HEND.out.2.1 (by rw [hx15.out]; exact hneg)
              rw [HDV.out] at h5
              omega)
            have hz5 : Hid (w5.heap[w.heap.size + 1]? = some (.cells (bv z32).toArray 23 (0, 0))) := (hbw5.block _ (by omega) (by intro e; injection e; omega)).trans vZ.out
            have hbl5 : Below w.heap.size w w5 := But.below hbV hbw5 (by omega) (by omega)
            have HFIN := vlt (fin_val (fvs_bits o hO.out.1.2).1 HLT.out hO.out.2 HC.out.2)
            have HOC := vlt hO.out.1
            clear hO HEND hx15 HDV HDB HDE HLT hs2 hsm hbm hg hbt uO uM hbU hbw5
            have hs5 : w.heap.size + 1 < w5.heap.size := (Array.getElem?_eq_some_iff.1 hz5.out).1
            go_upto_region 17 with ((with_reducible refine wpList_store_row rfl 23 (.tmp 6) (.tmp 63) rfl w5.heap.size (bv z32).toArray rfl rfl 23 _ (heap_alloc_new _ _) (by kernel_rfl) (by kernel_rfl) (all_oneCell_toArray (bv_one _)) ?_); rw [World.setRow_alloc_new])
            obtain ⟨X, hX⟩ : ∃ X, X = w5.alloc (.cells (bv z32).toArray 23) := ⟨_, rfl⟩
            rw [← hX]
            have xO : Hid (X.heap[w.heap.size]? = some (.cells (i64v o).toArray 55 (0, 0))) := by rw [hX]; exact (Below.heap_alloc _ _ _ (by omega)).trans go5.out
            have xZ : Hid (X.heap[w.heap.size + 1]? = some (.cells (bv z32).toArray 23 (0, 0))) := by rw [hX]; exact (Below.heap_alloc _ _ _ (by omega)).trans hz5.out
            have xU : Hid (X.heap[w5.heap.size]? = some (.cells (bv z32).toArray 23 (0, 0))) := by rw [hX]; exact heap_alloc_new _ _
            have hbX : Below w.heap.size w X := by rw [hX]; exact hbl5.alloc hbl5.size _
            obtain ⟨P, hP⟩ : ∃ P, P = w5.heap.size := ⟨_, rfl⟩
            rw [← hP] at xU hs5 ⊢
            clear hX hP go5 hz5 hbl5
            have hsX : P < X.heap.size := (Array.getElem?_eq_some_iff.1 xU.out).1
            go_wp2_with fail
            go_loopw [7] (fun s wi => ∃ (i : Nat) (u : List UInt8), i ≤ 16 ∧ s = .int .i64 (i : Int) ∧ Hid (wi.heap[P]? = some (.cells (bv u).toArray 23 (0, 0))) ∧ Vlt (Wr u o i) ∧ But P X wi) (fun s _ => 16 - (intOf s).toNat)
            case atStart => exact ⟨0, z32, by omega, rfl, xU, vlt ⟨z32_len, by simp [ln, fvs]⟩, But.refl _ _⟩
            case round =>
              obtain ⟨i, u, hi, rfl, hgu, hW, hbi⟩ := hrel
              have hgo : Hid (wr.heap[w.heap.size]? = some (.cells (i64v o).toArray 55 (0, 0))) := (hbi.block _ (by omega) (by intro e; injection e; omega)).trans xO.out
              by_cases hl16 : i < 16
              · have c0 := int_at hgo.out i (by rw [HOL.out]; exact hl16)
                have lx := mem_iat (P := fun x => 0 ≤ x ∧ x ≤ 65535) HOC.out.2 (k := i) (by rw [HOL.out]; exact hl16)
                obtain ⟨x, hx⟩ : ∃ x, x = iat o i := ⟨_, rfl⟩
                rw [← hx] at c0 lx
                have hW2 := vlt (hW.out.step HOL.out hl16 (x % 256).toNat (x / 256).toNat (by omega) (by omega) (by rw [← hx]; omega))
                clear hx
                have f0 : wr.frozen? ⟨P, 2 * i, none⟩ = false := frozen_of_row _ _ _ _ _ hgu.out
                have f1 : wr.frozen? ⟨P, 2 * i + 1, none⟩ = false := frozen_of_row _ _ _ _ _ hgu.out
                obtain ⟨b0, hb0⟩ : ∃ v, wr.cell? ⟨P, 2 * i, none⟩ = some v := by
                  rw [cell_of_row _ _ _ _ _ _ hgu.out]
                  exact ⟨_, List.getElem?_toArray .. ▸ List.getElem?_eq_getElem (by rw [bv_len, hW.out.len]; omega)⟩
                obtain ⟨b1, hb1⟩ : ∃ v, wr.cell? ⟨P, 2 * i + 1, none⟩ = some v := by
                  rw [cell_of_row _ _ _ _ _ _ hgu.out]
                  exact ⟨_, List.getElem?_toArray .. ▸ List.getElem?_eq_getElem (by rw [bv_len, hW.out.len]; omega)⟩
                have hs1 := world_set_cell (world_set_cell hgu.out (2 * i) (.int .u8 (x % 256))).out (2 * i + 1) (.int .u8 (x / 256))
                have e0 : x % 256 = ((UInt8.ofNat (x % 256).toNat).toNat : Int) := by
                  rw [UInt8.toNat_ofNat', show (2 : Nat) ^ 8 = 256 by decide, Nat.mod_eq_of_lt (by omega)]; omega
                have e1 : x / 256 = ((UInt8.ofNat (x / 256).toNat).toNat : Int) := by
                  rw [UInt8.toNat_ofNat', show (2 : Nat) ^ 8 = 256 by decide, Nat.mod_eq_of_lt (by omega)]; omega
                rw [show (Value.int .u8 (x % 256)) = Value.int .u8 ((UInt8.ofNat (x % 256).toNat).toNat : Int) by rw [← e0], show (Value.int .u8 (x / 256)) = Value.int .u8 ((UInt8.ofNat (x / 256).toNat).toNat : Int) by rw [← e1], bv_set, bv_set, ← e0, ← e1] at hs1
                have hbn := (hbi.set (i := 2 * i) (.int .u8 (x % 256))).set (i := 2 * i + 1) (.int .u8 (x / 256))
                clear e0 e1
                go_wp2_with fail
                go_region
                go_wp2
                go_roundw
                case rel => exact ⟨i + 1, _, by omega, by go_num, hs1, hW2, hbn.drew⟩
                case measure => simp [intOf]; omega
              · obtain rfl : i = 16 := by omega
                have HU := vlt (show u = wo N by
                  refine ln_inj _ _ (by rw [hW.out.len, wo_len]) ?_
                  have h1 := hW.out.val
                  rw [List.take_of_length_le (by rw [hW.out.len]; decide), fvs_all o HOL.out, ← HFIN.out] at h1
                  exact Int.ofNat.inj h1)
                have HUL := Lib.hid hW.out.len
                have hsz := Lib.hid (bv_size u hW.out.len)
                have hz : Hid (wr.heap[w.heap.size + 1]? = some (.cells (bv z32).toArray 23 (0, 0))) := (hbi.block _ (by omega) (by intro e; injection e; omega)).trans xZ.out
                have hbw : Below w.heap.size w wr := But.below hbX hbi (by omega) (by omega)
                go_wp2_with (first
                  | (with_reducible refine wpList_load_row rfl 23 (.tmp 6) rfl P rfl 23 (bv u).toArray (0, 0) _ hgu.out Tryd.underlying23 rfl (by rw [hsz.out]; kernel_rfl) ?_)
                  | (with_reducible refine wpList_store_row rfl 23 (.tmp 2) (.tmp 84) rfl (w.heap.size + 1) (bv u).toArray rfl rfl 23 _ hz.out (by rw [hsz.out]; kernel_rfl) (by rw [hsz.out]; kernel_rfl) (all_oneCell_toArray (bv_one _)) ?_))
                refine bodyPost_ret (v := .agg (bv u).toArray) (results_cell_row Tryd.results43 _ _ (w.heap.size + 1) 23 _ (0, 0) _ rfl (setRow_heap _ _ _ _ _ _ hz.out) Tryd.underlying23 rfl (by rw [hsz.out]; kernel_rfl)) rfl ⟨u, rfl, HU, HUL, below_setRow hbw (by omega) _⟩
          · obtain ⟨T, hT⟩ : ∃ T, T = mS D 15 := ⟨_, rfl⟩
            have HM := vlt (show Can T ∧ fvs T = fvs r1 - ((n + 1 : Nat) : Int) * (FP : Int) by
              rw [hT]
              refine ⟨HEND.out.2.2 (by rw [hx15.out]; omega) (by rw [hx15.out]; omega), ?_⟩
              rw [HEND.out.1, HDV.out, hO.out.2, next_val])
            rw [← hT] at hs2
            clear hT HEND hx15
            have hsT := Lib.hid (i64v_size T HM.out.1.1)
            have hgF : Hid ((w5.setRow w.heap.size (i64v T).toArray).heap[w.heap.size]? = some (.cells (i64v T).toArray 55 (0, 0))) := setRow_heap _ _ _ _ _ _ go5.out
            have hbF := hbw5.row (i64v T).toArray
            go_wp2_with (first
              | (with_reducible refine wpList_load_row rfl 55 (.tmp 4) rfl Q rfl 55 (i64v T).toArray (0, 0) _ hs2.out Tryd.underlying55 rfl (by rw [hsT.out]; kernel_rfl) ?_)
              | (with_reducible refine wpList_store_row rfl 55 (.tmp 1) (.tmp 62) rfl w.heap.size (i64v T).toArray rfl rfl 55 _ go5.out (by rw [hsT.out]; kernel_rfl) (by rw [hsT.out, hso.out]) (all_oneCell_toArray (i64v_one _)) ?_))
            go_roundw
            case rel => exact ⟨n + 1, T, by omega, by go_num, hgF, HM, hbF⟩
            case measure => simp [intOf]; omega
    · exfalso
      obtain rfl : n = 3 := by omega
      have h1 := fvs_bits o hO.out.1.2
      have h2 := fvs_bits r1 HC.out.1.2
      rw [HC.out.1.1, hO.out.1.1.symm, hO.out.1.1] at h2
      have h3 := hO.out.2
      rw [show (65536 : Int) ^ 16 = 2 * (FP : Int) + 38 by decide] at h2
      have h4 : (38 : Int) < (FP : Int) := by decide
      omega
end Go.Proofs.YtehkalbiomagjaaDoor
namespace Go.Proofs.YtehkalbiomagjaaDoor
open Go.RowKit

set_option maxRecDepth 100000 in
set_option maxHeartbeats 1000000 in
theorem rnorm_any (w : World) (a : List UInt8) (ha : a.length = 32) :
    Calls Tryd.prog 79 #[.agg (bv a).toArray] w fun e w' => ∃ l, e = .returned (.agg (bv l).toArray) ∧ Vlt (l = wo (ln a)) ∧ Hid (l.length = 32) ∧ Below w.heap.size w w' := by
  have hzw := zero_word
  obtain ⟨W, hW, hgA, hgZ, hbW, hsW⟩ := pair_new w (bv a).toArray (bv z32).toArray 23 23
  have HW := Lib.hid hW
  have HA := Lib.hid ha
  have HS := Lib.hid (bv_size a ha)
  have hs : w.heap.size + 1 < W.heap.size := by have := hsW.out; omega
  clear hW ha hsW
  go_enter Tryd.func79, Tryd.ntmps79
  go_upto_region 1 with fail
  rw [HW.out]
  go_wp2_with (with_reducible refine wpList_load_row rfl 23 (.tmp 1) rfl w.heap.size rfl 23 (bv a).toArray (0, 0) _ hgA.out Tryd.underlying23 rfl (by rw [HS.out]; kernel_rfl) ?_)
  refine (rin_any W a HA.out).mono ?_
  rintro e w1 ⟨x, rfl, e1, HX, hb1⟩
  have hbw1 := below_next hbW hbW.size hb1
  have hz1 : Hid (w1.heap[w.heap.size + 1]? = some (.cells (bv z32).toArray 23 (0, 0))) := (hb1.block _ (by omega)).trans hgZ.out
  have hs1 : w.heap.size + 1 < w1.heap.size := (Array.getElem?_eq_some_iff.1 hz1.out).1
  have hx := vlt (fv_in e1.out)
  clear e1
  go_wp2_with fail
  refine (rout_any w1 x hx.out.1 (ln a) hx.out.2).mono ?_
  rintro e w2 ⟨l, rfl, e9, HL, hb2⟩
  have hbw2 := below_next hbw1 hbw1.size hb2
  have hz2 : Hid (w2.heap[w.heap.size + 1]? = some (.cells (bv z32).toArray 23 (0, 0))) := (hb2.block _ (by omega)).trans hz1.out
  have hs2 : w.heap.size + 1 < w2.heap.size := (Array.getElem?_eq_some_iff.1 hz2.out).1
  have HE := vlt (show l = wo (ln a) from e9.out)
  clear e9
  have HLS := Lib.hid (bv_size l HL.out)
  go_wp2_with (with_reducible refine wpList_store_row rfl 23 (.tmp 2) (.tmp 5) rfl (w.heap.size + 1) (bv l).toArray rfl rfl 23 _ hz2.out (by rw [HLS.out]; kernel_rfl) (by rw [HLS.out]; kernel_rfl) (all_oneCell_toArray (bv_one _)) ?_)
  refine bodyPost_ret (v := .agg (bv l).toArray) (results_cell_row Tryd.results79 _ _ (w.heap.size + 1) 23 _ (0, 0) _ rfl (setRow_heap _ _ _ _ _ _ hz2.out) Tryd.underlying23 rfl (by rw [HLS.out]; kernel_rfl)) rfl ⟨l, rfl, HE, HL, below_setRow hbw2 (by omega) _⟩

set_option maxRecDepth 100000 in
set_option maxHeartbeats 1000000 in
theorem rsub_any (w : World) (a b : List UInt8) (ha : a.length = 32) (hb : b.length = 32) :
    Calls Tryd.prog 63 #[.agg (bv a).toArray, .agg (bv b).toArray] w fun e w' => ∃ l, e = .returned (.agg (bv l).toArray) ∧ Vlt (l = wo (subF (ln a) (ln b))) ∧ Hid (l.length = 32) ∧ Below w.heap.size w w' := by
  have hzw := zero_word
  obtain ⟨W, hW, hgA, hgB, hgZ, hbW, hsW⟩ := three_new w (bv a).toArray (bv b).toArray (bv z32).toArray 23 23 23
  have HW := Lib.hid hW
  have HA := Lib.hid ha
  have HB := Lib.hid hb
  have HAS := Lib.hid (show (bv a).length = 32 by rw [bv_len, ha])
  have HBS := Lib.hid (show (bv b).length = 32 by rw [bv_len, hb])
  have hs : w.heap.size + 2 < W.heap.size := by have := hsW.out; omega
  clear hW ha hb hsW
  go_enter Tryd.func63, Tryd.ntmps63
  go_upto_region 1 with fail
  rw [HW.out]
  refine wp_region_held_drew (S := (fun W' => W'.heap[w.heap.size]? = some (.cells (bv a).toArray 23 (0, 0)) ∧ W'.heap[w.heap.size + 1]? = some (.cells (bv b).toArray 23 (0, 0)))) (by kernel_rfl) (⟨hgA.out, hgB.out⟩) (fun hHeld => ?_)
  refine wpAnyH_take (i := 0) (oi := ⟨(some 5), _, _, _, _, _⟩) (v := _) rfl (by kernel_rfl) (by kernel_rfl) (by kernel_rfl) (fun _ _ _ h => h) (yieldsIf_load_mid (by rfl) _ _ rfl w.heap.size 0 rfl (bv a) _ (fun W' hW' => range_row hW'.1) (Tryd.underlying23) (rfl) (by rw [HAS.out]; kernel_rfl)) hHeld ?_
  try simp only [Act.put, List.setIfInBounds_toArray, List.set_cons_zero, List.set_cons_succ]
  refine wpAnyH_take (i := 2) (oi := ⟨(some 7), _, _, _, _, _⟩) (v := _) rfl (by kernel_rfl) (by kernel_rfl) (by kernel_rfl) (fun _ _ _ h => h) (yieldsIf_load_mid (by rfl) _ _ rfl (w.heap.size + 1) 0 rfl (bv b) _ (fun W' hW' => range_row hW'.2) (Tryd.underlying23) (rfl) (by rw [HBS.out]; kernel_rfl)) hHeld ?_
  try simp only [Act.put, List.setIfInBounds_toArray, List.set_cons_zero, List.set_cons_succ]
  refine wpAnyH_ready (rs := [1]) (by kernel_rfl) (by simp) ?_
  refine AllReadyH.cons (i := 1) (o := ⟨(some 6), _, _, _, _, _⟩) rfl (fun K hK => ?_) AllReadyH.nil
  go_simp
  refine (rin_any _ a HA.out).mono ?_
  rintro e w1 ⟨x, rfl, e1, HX, hb1d⟩
  have hb1 : Below W.heap.size W w1 := below_undrew hb1d
  refine hK.out _ _ (⟨(hb1.block _ (by omega)).trans hHeld.1, (hb1.block _ (by omega)).trans hHeld.2⟩) (fun hHeld => ?_)
  clear hK K
  try simp only [Act.put, List.setIfInBounds_toArray, List.set_cons_zero, List.set_cons_succ]
  have hbw1 := below_next hbW hbW.size hb1
  have hz1 : Hid (w1.heap[w.heap.size + 1 + 1]? = some (.cells (bv z32).toArray 23 (0, 0))) := (hb1.block _ (by omega)).trans hgZ.out
  have hs1 : w.heap.size + 2 < w1.heap.size := (Array.getElem?_eq_some_iff.1 hz1.out).1
  have hx := vlt (fv_in e1.out)
  clear e1
  refine wpAnyH_ready (rs := [3]) (by kernel_rfl) (by simp) ?_
  refine AllReadyH.cons (i := 3) (o := ⟨(some 8), _, _, _, _, _⟩) rfl (fun K hK => ?_) AllReadyH.nil
  go_simp
  refine (rin_any w1 b HB.out).mono ?_
  rintro e w2 ⟨y, rfl, e2, HY, hb2⟩
  refine hK.out _ _ (⟨(hb2.block _ (by omega)).trans hHeld.1, (hb2.block _ (by omega)).trans hHeld.2⟩) (fun hHeld => ?_)
  clear hK K
  try simp only [Act.put, List.setIfInBounds_toArray, List.set_cons_zero, List.set_cons_succ]
  have hbw2 := below_next hbw1 hbw1.size hb2
  have hz2 : Hid (w2.heap[w.heap.size + 1 + 1]? = some (.cells (bv z32).toArray 23 (0, 0))) := (hb2.block _ (by omega)).trans hz1.out
  have hs2 : w.heap.size + 2 < w2.heap.size := (Array.getElem?_eq_some_iff.1 hz2.out).1
  have hy := vlt (fv_in e2.out)
  clear e2
  refine wpAnyH_ready (rs := [4]) (by kernel_rfl) (by simp) ?_
  refine AllReadyH.cons (i := 4) (o := ⟨(some 9), _, _, _, _, _⟩) rfl (fun K hK => ?_) AllReadyH.nil
  go_simp
  refine (rminus_any w2 x y hx.out.1 hy.out.1).mono ?_
  rintro e w3 ⟨z, rfl, e3, HZ, hb3⟩
  refine hK.out _ _ (⟨(hb3.block _ (by omega)).trans hHeld.1, (hb3.block _ (by omega)).trans hHeld.2⟩) (fun hHeld => ?_)
  clear hK K
  try simp only [Act.put, List.setIfInBounds_toArray, List.set_cons_zero, List.set_cons_succ]
  have hbw3 := below_next hbw2 hbw2.size hb3
  have hz3 : Hid (w3.heap[w.heap.size + 1 + 1]? = some (.cells (bv z32).toArray 23 (0, 0))) := (hb3.block _ (by omega)).trans hz2.out
  have hs3 : w.heap.size + 2 < w3.heap.size := (Array.getElem?_eq_some_iff.1 hz3.out).1
  have hz := vlt (fv_sub hx.out hy.out e3.out)
  clear e3
  refine wpAnyH_ready (rs := [5]) (by kernel_rfl) (by simp) ?_
  refine AllReadyH.cons (i := 5) (o := ⟨(some 10), _, _, _, _, _⟩) rfl (fun K hK => ?_) AllReadyH.nil
  go_simp
  refine (rout_any w3 z hz.out.1 (subF (ln a) (ln b)) hz.out.2).mono ?_
  rintro e w4 ⟨l, rfl, e9, HL, hb4⟩
  refine hK.out _ _ (⟨(hb4.block _ (by omega)).trans hHeld.1, (hb4.block _ (by omega)).trans hHeld.2⟩) (fun hHeld => ?_)
  clear hK K
  try simp only [Act.put, List.setIfInBounds_toArray, List.set_cons_zero, List.set_cons_succ]
  have hbw4 := below_next hbw3 hbw3.size hb4
  have hz4 : Hid (w4.heap[w.heap.size + 1 + 1]? = some (.cells (bv z32).toArray 23 (0, 0))) := (hb4.block _ (by omega)).trans hz3.out
  have hs4 : w.heap.size + 2 < w4.heap.size := (Array.getElem?_eq_some_iff.1 hz4.out).1
  have HE := vlt (show l = wo (subF (ln a) (ln b)) from e9.out)
  clear e9
  have HLS := Lib.hid (bv_size l HL.out)
  refine wpAnyH_ready (rs := [6]) (by kernel_rfl) (by simp) ?_
  refine AllReadyH.cons (i := 6) (o := ⟨none, _, _, _, _, _⟩) rfl (fun K hK => ?_) AllReadyH.nil
  refine step_store_row rfl 23 (.tmp 4) (.tmp 10) rfl (w.heap.size + 1 + 1) (bv l).toArray rfl rfl 23 _ hz4.out (by rw [HLS.out]; kernel_rfl) (by rw [HLS.out]; kernel_rfl) (all_oneCell_toArray (bv_one _)) ?_
  refine hK.out _ _ (⟨(setRow_other _ _ _ _ (by omega)).trans hHeld.1, (setRow_other _ _ _ _ (by omega)).trans hHeld.2⟩) (fun hHeld => ?_)
  clear hK K
  try simp only [Act.put]
  refine wpAnyH_done (by kernel_rfl) ?_ _
  go_wp2_with fail
  refine bodyPost_ret (v := .agg (bv l).toArray) (results_cell_row Tryd.results63 _ _ (w.heap.size + 1 + 1) 23 _ (0, 0) _ rfl (setRow_heap _ _ _ _ _ _ hz4.out) Tryd.underlying23 rfl (by rw [HLS.out]; kernel_rfl)) rfl ⟨l, rfl, HE, HL, below_setRow hbw4 (by omega) _⟩

set_option maxRecDepth 100000 in
set_option maxHeartbeats 1000000 in
theorem rgood_any (w : World) (a : List UInt8) (ha : a.length = 32) :
    Calls Tryd.prog 57 #[.agg (bv a).toArray] w fun e w' => ∃ b, e = .returned (.bool b) ∧ Vlt (b = decide (wo (ln a) = a)) ∧ Below w.heap.size w w' := by
  obtain ⟨W, hW, hgA, hbW, hsW⟩ := one_new w (bv a).toArray 23
  have HW := Lib.hid hW
  have HA := Lib.hid ha
  have HAS := Lib.hid (show (bv a).length = 32 by rw [bv_len, ha])
  have hs : w.heap.size < W.heap.size := by have := hsW.out; omega
  clear hW ha hsW
  go_enter Tryd.func57, Tryd.ntmps57
  go_upto_region 1 with fail
  rw [HW.out]
  refine wp_region_held_drew (S := (fun W' => W'.heap[w.heap.size]? = some (.cells (bv a).toArray 23 (0, 0)))) (by kernel_rfl) (hgA.out) (fun hHeld => ?_)
  refine wpAnyH_take (i := 0) (oi := ⟨(some 3), _, _, _, _, _⟩) (v := _) rfl (by kernel_rfl) (by kernel_rfl) (by kernel_rfl) (fun _ _ _ h => h) (yieldsIf_load_mid (by rfl) _ _ rfl w.heap.size 0 rfl (bv a) _ (fun W' hW' => range_row hW') (Tryd.underlying23) (rfl) (by rw [HAS.out]; kernel_rfl)) hHeld ?_
  try simp only [Act.put, List.setIfInBounds_toArray, List.set_cons_zero, List.set_cons_succ]
  refine wpAnyH_take (i := 2) (oi := ⟨(some 5), _, _, _, _, _⟩) (v := _) rfl (by kernel_rfl) (by kernel_rfl) (by kernel_rfl) (fun _ _ _ h => h) (yieldsIf_load_mid (by rfl) _ _ rfl w.heap.size 0 rfl (bv a) _ (fun W' hW' => range_row hW') (Tryd.underlying23) (rfl) (by rw [HAS.out]; kernel_rfl)) hHeld ?_
  try simp only [Act.put, List.setIfInBounds_toArray, List.set_cons_zero, List.set_cons_succ]
  refine wpAnyH_ready (rs := [1]) (by kernel_rfl) (by simp) ?_
  refine AllReadyH.cons (i := 1) (o := ⟨(some 4), _, _, _, _, _⟩) rfl (fun K hK => ?_) AllReadyH.nil
  go_simp
  refine (rnorm_any _ a HA.out).mono ?_
  rintro e w1 ⟨l, rfl, e1, HL, hb1d⟩
  have hb1 : Below W.heap.size W w1 := below_undrew hb1d
  refine hK.out _ _ ((hb1.block _ hs).trans hHeld) (fun hHeld => ?_)
  clear hK K
  try simp only [Act.put, List.setIfInBounds_toArray, List.set_cons_zero, List.set_cons_succ]
  have heq := eql_bytes (P := Tryd.prog) Tryd.underlying23 Tryd.underlying5 Tryd.sizeByte l a HL.out HA.out
  have HE := vlt (show decide (l = a) = decide (wo (ln a) = a) by rw [e1.out])
  generalize decide (l = a) = b at *
  refine wpAnyH_take (i := 3) (oi := ⟨(some 6), _, _, _, _, _⟩) (v := ?vq2_0) rfl (by kernel_rfl) (by kernel_rfl) (by kernel_rfl) (fun _ _ _ h => h) (Or.inl ⟨by rfl, ?yq2_0⟩) hHeld ?_
  case yq2_0 => (intro W0 hSw; go_simp; try with_reducible rfl)
  try simp only [Act.put, List.setIfInBounds_toArray, List.set_cons_zero, List.set_cons_succ]
  refine wpAnyH_take (i := 4) (oi := ⟨(some 2), _, _, _, _, _⟩) (v := ?vq2_1) rfl (by kernel_rfl) (by kernel_rfl) (by kernel_rfl) (fun _ _ _ h => h) (Or.inl ⟨by rfl, ?yq2_1⟩) hHeld ?_
  case yq2_1 => (intro W0 hSw; go_simp; try with_reducible rfl)
  try simp only [Act.put, List.setIfInBounds_toArray, List.set_cons_zero, List.set_cons_succ]
  refine wpAnyH_done (by kernel_rfl) ?_ _
  go_wp2
  go_ret
  exact ⟨b, rfl, HE, below_next hbW hbW.size hb1⟩
end Go.Proofs.YtehkalbiomagjaaDoor
namespace Go.Proofs.YtehkalbiomagjaaDoor
open Go.RowKit

section
variable {P : Program} {ops : Array Oper} {Q : Exit → Act → World → Prop} {md : Region.Mode} {S : World → Prop} {c : Nat}
def wpAnyC (P : Program) (md : Region.Mode) (ops : Array Oper) (Q : Exit → Act → World → Prop) (S : World → Prop) (c : Nat) : Nat → Array Bool → Act → World → Prop
  | 0, listed, a, w => Region.ready md ops listed = [] ∧ Q .normal a w
  | fuel + 1, listed, a, w =>
    (Region.ready md ops listed = [] → Q .normal a w) ∧
    ∀ i ∈ Region.ready md ops listed, wpOp P ops Q i (fun a' w' => ((listed.setIfInBounds i true).getD c true = false → S w') ∧ wpAnyC P md ops Q S c fuel (listed.setIfInBounds i true) a' w') a w
theorem any_of_c : ∀ (fuel : Nat) (listed : Array Bool) (a : Act) (w : World), wpAnyC P md ops Q S c fuel listed a w → wpAny P md ops Q fuel listed a w
  | 0, _, _, _, h => h
  | fuel + 1, _, _, _, h => ⟨h.1, fun i hi => wpOp_mono (fun a' w' h' => any_of_c fuel _ a' w' h'.2) (h.2 i hi)⟩
theorem getD_stays {listed : Array Bool} {i c : Nat} (h : listed.getD c true = true) : (listed.setIfInBounds i true).getD c true = true := by
  by_cases hic : i = c
  · subst hic
    rcases Nat.lt_or_ge i listed.size with h' | h'
    · simp [h']
    · simp
  · rw [getD_set_ne true hic]; exact h
/-- Behind c another condition may be held, or none. -/
theorem c_of_held {S' : World → Prop} : ∀ (fuel : Nat) (listed : Array Bool) (a : Act) (w : World), listed.getD c true = true → wpAnyH P md ops Q S' fuel listed a w → wpAnyC P md ops Q S c fuel listed a w
  | 0, _, _, _, _, h => h
  | fuel + 1, _, _, _, hc, h => ⟨h.1, fun i hi => wpOp_mono (fun a' w' h' => ⟨fun h0 => (by rw [getD_stays hc] at h0; cases h0), c_of_held fuel _ a' w' (getD_stays hc) h'.2⟩) (h.2 i hi)⟩
theorem c_first {S' : World → Prop} {i : Nat} {oi : Oper} {v : Value} (hi : ops[i]? = some oi) (hsel : ∀ (j : Nat) (o : Oper) cs b, ops[j]? = some o → o.op ≠ .select cs b) (hci : i ≠ c)
    (hQ : ∀ x a w, Q (.panic x) (a.put oi.dst v) w → Q (.panic x) a w) :
    ∀ (fuel : Nat) (listed : Array Bool) (a : Act) (w : World),
      (∀ j oj, ops[j]? = some oj → j ≠ i → listed.getD j true = false → (∀ e ∈ oj.after, Region.binds md e = true → e.on ≠ i) → oi.apart ops oj = true) →
      i ∈ Region.ready md ops listed → YieldsIf P ops S' oi v a →
      ((∀ w, S' w) ∨ ((∀ w, S w → S' w) ∧ Region.waitsFor md ops c i = true ∧ listed.getD c true = false)) → (listed.getD c true = false → S w) →
      wpAnyC P md ops Q S c fuel (listed.setIfInBounds i true) (a.put oi.dst v) w → wpAnyC P md ops Q S c (fuel + 1) listed a w := by
  intro fuel
  induction fuel with
  | zero =>
    intro listed a w _ hr hy hcond hS H
    have hS' : S' w := hcond.elim (fun h => h w) (fun h => h.1 w (hS h.2.2))
    refine ⟨fun h => (by rw [h] at hr; cases hr), fun j hj => ?_⟩
    by_cases hji : j = i
    · subst hji; exact hy.wpOp hi hS' ⟨fun h0 => hS (by rwa [getD_set_ne true hci] at h0), H⟩
    · have := ready_mono hj hji
      rw [H.1] at this
      cases this
  | succ fuel ih =>
    intro listed a w hfree hr hy hcond hS H
    have hS' : S' w := hcond.elim (fun h => h w) (fun h => h.1 w (hS h.2.2))
    refine ⟨fun h => (by rw [h] at hr; cases hr), fun j hj => ?_⟩
    by_cases hji : j = i
    · subst hji; exact hy.wpOp hi hS' ⟨fun h0 => hS (by rwa [getD_set_ne true hci] at h0), H⟩
    · have h1 := H.2 j (ready_mono hj hji)
      obtain ⟨hjun, oj, hoj, hall⟩ := mem_ready.1 hj
      have hnot : ∀ e ∈ oj.after, Region.binds md e = true → e.on ≠ i := fun e he hb heq => by
        have h1 := hall e he hb
        have h0 := (mem_ready.1 hr).1
        rw [heq] at h1
        rcases Nat.lt_or_ge i listed.size with h' | h'
        · simp [h'] at h0 h1; rw [h0] at h1; cases h1
        · simp [Array.getElem?_eq_none h'] at h1
      have h2 := wpOp_putIf hoj (hfree j oj hoj hji hjun hnot) (fun cs b => hsel i oi cs b hi) (fun cs b => hsel j oj cs b hoj) hQ hy h1
      have hfree' : ∀ k ok, ops[k]? = some ok → k ≠ i → (listed.setIfInBounds j true).getD k true = false →
          (∀ e ∈ ok.after, Region.binds md e = true → e.on ≠ i) → oi.apart ops ok = true := fun k ok hk hki hun hno => by
        refine hfree k ok hk hki ?_ hno
        by_cases hjk : j = k
        · subst hjk; exact hjun
        · rw [getD_set_ne true hjk] at hun; exact hun
      have hcond' : (∀ w, S' w) ∨ ((∀ w, S w → S' w) ∧ Region.waitsFor md ops c i = true ∧ (listed.setIfInBounds j true).getD c true = false) := by
        rcases hcond with h | ⟨h3, h4, h5⟩
        · exact .inl h
        · have hjc : j ≠ c := by
            rintro rfl
            obtain ⟨oj', hoj', e, he, hb, hon⟩ := Region.waitsFor_spec h4
            obtain rfl := Option.some.inj (hoj'.symm.trans hoj)
            exact hnot e he hb hon
          exact .inr ⟨h3, h4, by rw [getD_set_ne true hjc]; exact h5⟩
      refine wpOp_mono (fun a' w' h3 => ?_) h2
      have hS3 : (listed.setIfInBounds j true).getD c true = false → S w' := fun h0 => h3.2.1 (by rw [Array.setIfInBounds_comm _ _ (Ne.symm hji), getD_set_ne true hci]; exact h0)
      refine ⟨hS3, ih (listed.setIfInBounds j true) a' w' hfree' (ready_mono hr (Ne.symm hji)) h3.1 hcond' hS3 ?_⟩
      rw [Array.setIfInBounds_comm _ _ hji]
      exact h3.2.2

/-- An operation that yields in whatever world. -/
theorem c_take {i : Nat} {oi : Oper} {v : Value} {fuel : Nat} {listed : Array Bool} {a : Act} {w : World} (hi : ops[i]? = some oi) (hci : i ≠ c)
    (hs : Region.noSelect ops = true) (hf : Region.free md ops listed i = true) (hr : (Region.ready md ops listed).contains i = true)
    (hQ : ∀ c a w, Q (.panic c) (a.put oi.dst v) w → Q (.panic c) a w) (hy : YieldsIf P ops (fun _ => True) oi v a) (hS : S w)
    (h : wpAnyC P md ops Q S c fuel (listed.setIfInBounds i true) (a.put oi.dst v) w) : wpAnyC P md ops Q S c (fuel + 1) listed a w :=
  c_first hi (Region.noSelect_spec hs) hci hQ fuel listed a w (Region.free_spec hi hf) (by simpa using hr) hy (.inl fun _ => trivial) (fun _ => hS) h
/-- An operation that yields in every world that meets S, and that c waits for. -/
theorem c_read {i : Nat} {oi : Oper} {v : Value} {fuel : Nat} {listed : Array Bool} {a : Act} {w : World} (hi : ops[i]? = some oi) (hci : i ≠ c)
    (hs : Region.noSelect ops = true) (hf : Region.free md ops listed i = true) (hr : (Region.ready md ops listed).contains i = true) (hw : Region.waitsFor md ops c i = true) (hun : listed.getD c true = false)
    (hQ : ∀ c a w, Q (.panic c) (a.put oi.dst v) w → Q (.panic c) a w) (hy : YieldsIf P ops S oi v a) (hS : S w)
    (h : wpAnyC P md ops Q S c fuel (listed.setIfInBounds i true) (a.put oi.dst v) w) : wpAnyC P md ops Q S c (fuel + 1) listed a w :=
  c_first hi (Region.noSelect_spec hs) hci hQ fuel listed a w (Region.free_spec hi hf) (by simpa using hr) hy (.inr ⟨fun _ h => h, hw, hun⟩) (fun _ => hS) h
/-- Another operation, where nothing else can come up; S stays. -/
theorem c_step {i : Nat} {o : Oper} {fuel : Nat} {listed : Array Bool} {a : Act} {w : World} (hr : Region.ready md ops listed = [i]) (ho : ops[i]? = some o)
    (h : ∀ K' : Act → World → Prop, Shut (∀ a w, S w → (S w → wpAnyC P md ops Q S c fuel (listed.setIfInBounds i true) a w) → K' a w) → if Region.wanted o (yielded ops a.tmps) = true then Oper.wp P o a w K' Q else K' (a.put o.dst undef) w) :
    wpAnyC P md ops Q S c (fuel + 1) listed a w := by
  refine ⟨fun h0 => (by rw [hr] at h0; cases h0), fun j hj => ?_⟩
  rw [hr] at hj
  obtain rfl : j = i := by simpa using hj
  exact wpOp_step ho (fun K' hK => h K' (fun a w hS hW => hK a w ⟨fun _ => hS, hW hS⟩))
/-- c itself, where nothing else can come up; behind it S' is held. -/
theorem c_call {S' : World → Prop} {o : Oper} {fuel : Nat} {listed : Array Bool} {a : Act} {w : World} (hr : Region.ready md ops listed = [c]) (hl : (listed.setIfInBounds c true).getD c true = true) (ho : ops[c]? = some o)
    (h : ∀ K' : Act → World → Prop, Shut (∀ a w, S' w → (S' w → wpAnyH P md ops Q S' fuel (listed.setIfInBounds c true) a w) → K' a w) → if Region.wanted o (yielded ops a.tmps) = true then Oper.wp P o a w K' Q else K' (a.put o.dst undef) w) :
    wpAnyC P md ops Q S c (fuel + 1) listed a w := by
  refine ⟨fun h0 => (by rw [hr] at h0; cases h0), fun i hi => ?_⟩
  rw [hr] at hi
  obtain rfl : i = c := by simpa using hi
  exact wpOp_step ho (fun K' hK => h K' (fun a w hS hW => hK a w ⟨fun h0 => (by rw [hl] at h0; cases h0), c_of_held fuel _ a w hl (hW hS)⟩))
theorem c_start {id : Nat} {a : Act} {w : World} (c : Nat) (hm : P.follows .mixedOrders = true) (hS : S w.drew)
    (h : S w.drew → wpAnyC P .any ops Q S c ops.size (Array.replicate ops.size false) a w.drew) : (Code.region id ops true).wp P Q a w :=
  wp_region_any hm (any_of_c _ _ _ _ (h hS))
end

/-- A number is stored into a block that is known whole, as one step of a region that draws its order. -/
theorem step_set {P : Program} {ops : Array Oper} {o : Oper} {a : Act} {w : World} {K : Act → World → Prop} {Q : Exit → Act → World → Prop} {E : Prop} (hgd : o.guard = none) (ty : TypeId) (x y : Operand) (ho : o.op = .store ty x y)
    (hs : (P.info? ty).map (·.size) = some 1) (g k : Nat) (hx : a.eval x = .pointer (some ⟨g, k, none⟩)) (kd : IntKind) (n : Int) (hy : a.eval y = .int kd n) (cs : List Value) (t : TypeId)
    (hg : w.heap[g]? = some (.cells cs.toArray t (0, 0))) (hk : k < cs.length) (w0 : World) (hb : But g w0 w)
    (h : ∀ w', Hid (w'.heap[g]? = some (.cells (cs.set k (.int kd n)).toArray t (0, 0))) → But g w0 w' → K (a.put o.dst undef) w') :
    if Region.wanted o (yielded ops a.tmps) = true then Oper.wp P o a w K Q else E := by
  have hw : Region.wanted o (yielded ops a.tmps) = true := by simp [Region.wanted, hgd]
  rw [if_pos hw]
  obtain ⟨i, hi', hi2⟩ := Option.map_eq_some_iff.1 hs
  have hc : w.cell? ⟨g, k, none⟩ = some cs[k] := by rw [cell_of_row _ _ _ _ _ _ hg]; simp [hk]
  have hf : w.frozen? ⟨g, k, none⟩ = false := frozen_of_row _ _ _ _ _ hg
  have h1 := heap_setCell_same w g k _ _ (.int kd n) hg
  have h2 := h (w.setCell ⟨g, k, none⟩ (.int kd n)) (show _ = _ by rw [h1]; simp) (hb.set _)
  unfold Oper.wp
  simp [execOp, ho, hx, hy, Instr.storeAt, Instr.sureAddr, storeVar, sizeOf, typeInfo, hi', hi2, Value.cells, storeCells, run_store_int, stored, hc, hf, addr_add]
  exact h2
end Go.Proofs.YtehkalbiomagjaaDoor
namespace Go.Proofs.YtehkalbiomagjaaDoor
open Go.RowKit

/-- The rows of the first exponent. -/
def erow : Nat → List UInt8
  | 0 => z32
  | k + 1 => (erow k).set k 255
theorem erow_len : ∀ k, (erow k).length = 32
  | 0 => rfl
  | k + 1 => by rw [erow, List.length_set, erow_len k]
def ewd : List UInt8 := ((erow 31).set 0 254).set 31 15
theorem ewd_len : ewd.length = 32 := by rw [ewd, List.length_set, List.length_set, erow_len]
theorem ewd_ln : ln ewd = E8 := by decide +kernel
/-- The second exponent; the power of two that it stands for. -/
def Q4 : Nat := 14474011154664524427946373126085988481658748083205070504932198000989141204987
theorem q4_ln : ln (halfB (halfB (bel 1))) = Q4 := by decide +kernel
theorem q4_trn : 2 ^ Q4 % FP = TRN % FP := by
  have h := pmod_ok FP 256 2 Q4 (by decide)
  rw [← h]
  decide +kernel
theorem fv_of {l : List Int} {N M : Nat} (h : Fv l N) (e : N % FP = M % FP) : Fv l M :=
  ⟨h.1, by rw [h.2, ← Int.natCast_emod, ← Int.natCast_emod, e]⟩
def rawX (N X : Nat) : List UInt8 × Bool :=
  if X * X % FP = N % FP then (wo X, true)
  else if (X * TRN) * (X * TRN) % FP = N % FP then (wo (X * TRN), true) else (z32, false)
def rawOf (N : Nat) : List UInt8 × Bool := rawX N (N ^ E8)
def two16 : List Int := 2 :: List.replicate 15 0
theorem two16_set : (i64v z16).set 0 (.int .i64 2) = i64v two16 := by kernel_rfl
theorem two16_fv : Fv two16 2 := ⟨⟨2, List.replicate 15 0, rfl, rfl, fun y hy => by rw [List.eq_of_mem_replicate hy]; decide, by decide, by decide⟩, by decide⟩
theorem wo_dec (N M : Nat) : decide (wo N = wo M) = decide (N % FP = M % FP) := by
  by_cases h : N % FP = M % FP
  · rw [decide_eq_true h, decide_eq_true (wo_of h)]
  · rw [decide_eq_false h, decide_eq_false fun e => h (wo_inj e)]

set_option maxRecDepth 100000 in
set_option maxHeartbeats 4000000 in
theorem rroot_any (w : World) (a : List Int) (N : Nat) (ha : Fv a N) :
    Calls Tryd.prog 62 #[.agg (i64v a).toArray] w fun e w' => ∃ l ok, e = .returned (.tuple #[.agg (bv l).toArray, .bool ok]) ∧ Vlt ((l, ok) = rawOf N) ∧ Hid (l.length = 32) ∧ Below w.heap.size w w' := by
  have hzf := zero_fe
  have hzw := zero_word
  have hnz := i64v_z16_ne
  have htwo := two16_set
  obtain ⟨TW, hTW⟩ : ∃ TW, TW = two16 := ⟨_, rfl⟩
  rw [← hTW] at htwo
  have HTW := vlt (show Fv TW 2 by rw [hTW]; exact two16_fv)
  clear hTW
  obtain ⟨W, hW, hgA, hgZ, hbW, hsW⟩ := pair_new w (i64v a).toArray (bv z32).toArray 55 23
  have HW := Lib.hid hW
  have NA := vlt ha
  have HS := Lib.hid (i64v_size a ha.1.len)
  have hs0 : w.heap.size + 1 < W.heap.size := by have := hsW.out; omega
  clear hW ha hsW
  go_enter Tryd.func62, Tryd.ntmps62
  go_upto_region 1 with fail
  rw [HW.out]
  go_wp2_with (with_reducible refine wpList_load_row rfl 55 (.tmp 1) rfl w.heap.size rfl 55 (i64v a).toArray (0, 0) _ hgA.out Tryd.underlying55 rfl (by rw [HS.out]; kernel_rfl) ?_)
  refine (rout_any W a NA.out.1 N NA.out.2).mono ?_
  rintro e w1 ⟨WT, rfl, eW, HWT, hb1⟩
  have hbw1 := below_next hbW hbW.size hb1
  have gA1 := Lib.hid ((hb1.block _ (by omega : w.heap.size < W.heap.size)).trans hgA.out)
  have gZ1 := Lib.hid ((hb1.block _ hs0).trans hgZ.out)
  have hs1 := Nat.lt_of_lt_of_le hs0 hb1.size
  clear hgA hgZ hb1 hbW
  go_upto_region 2 with ((with_reducible refine wpList_store_row rfl 23 (.tmp 4) (.tmp 9) rfl w1.heap.size (bv WT).toArray rfl rfl 23 _ (heap_alloc_new _ _) (by rw [bv_size WT HWT.out]; kernel_rfl) (by rw [bv_size WT HWT.out]; kernel_rfl) (all_oneCell_toArray (bv_one _)) ?_); rw [World.setRow_alloc_new])
  obtain ⟨V, hV⟩ : ∃ V, V = w1.alloc (.cells (bv WT).toArray 23) := ⟨_, rfl⟩
  rw [← hV]
  have gAV : Hid (V.heap[w.heap.size]? = some (.cells (i64v a).toArray 55 (0, 0))) := by rw [hV]; exact (Below.heap_alloc _ _ _ (by omega)).trans gA1.out
  have gZV : Hid (V.heap[w.heap.size + 1]? = some (.cells (bv z32).toArray 23 (0, 0))) := by rw [hV]; exact (Below.heap_alloc _ _ _ (by omega)).trans gZ1.out
  have gTV : Hid (V.heap[w1.heap.size]? = some (.cells (bv WT).toArray 23 (0, 0))) := by rw [hV]; exact heap_alloc_new _ _
  have hbV : Below w.heap.size w V := by rw [hV]; exact hbw1.alloc hbw1.size _
  obtain ⟨GT, hG⟩ : ∃ G, G = w1.heap.size := ⟨_, rfl⟩
  rw [← hG] at gTV hs1 ⊢
  clear hV hG gA1 gZ1 hbw1
  have sTV : GT < V.heap.size := (Array.getElem?_eq_some_iff.1 gTV.out).1
  go_upto_region 3 with ((with_reducible refine wpList_store_row rfl 23 (.tmp 5) (.tmp 10) rfl V.heap.size (bv z32).toArray rfl rfl 23 _ (heap_alloc_new _ _) (by kernel_rfl) (by kernel_rfl) (all_oneCell_toArray (bv_one _)) ?_); rw [World.setRow_alloc_new])
  obtain ⟨V2, hV⟩ : ∃ V2, V2 = V.alloc (.cells (bv z32).toArray 23) := ⟨_, rfl⟩
  rw [← hV]
  have gA : Hid (V2.heap[w.heap.size]? = some (.cells (i64v a).toArray 55 (0, 0))) := by rw [hV]; exact (Below.heap_alloc _ _ _ (by omega)).trans gAV.out
  have gZ : Hid (V2.heap[w.heap.size + 1]? = some (.cells (bv z32).toArray 23 (0, 0))) := by rw [hV]; exact (Below.heap_alloc _ _ _ (by omega)).trans gZV.out
  have gT : Hid (V2.heap[GT]? = some (.cells (bv WT).toArray 23 (0, 0))) := by rw [hV]; exact (Below.heap_alloc _ _ _ (by omega)).trans gTV.out
  have gE : Hid (V2.heap[V.heap.size]? = some (.cells (bv z32).toArray 23 (0, 0))) := by rw [hV]; exact heap_alloc_new _ _
  have hbV2 : Below w.heap.size w V2 := by rw [hV]; exact hbV.alloc hbV.size _
  obtain ⟨GE, hG⟩ : ∃ G, G = V.heap.size := ⟨_, rfl⟩
  rw [← hG] at gE sTV ⊢
  clear hV hG gAV gZV gTV hbV
  have sE : GE < V2.heap.size := (Array.getElem?_eq_some_iff.1 gE.out).1
  go_wp2_with fail
  go_loopw [6] (fun s wr => ∃ k : Nat, k ≤ 31 ∧ s = .int .i64 (k : Int) ∧ Hid (wr.heap[GE]? = some (.cells (bv (erow k)).toArray 23 (0, 0))) ∧ But GE V2 wr) (fun s _ => 31 - (intOf s).toNat)
  case atStart => exact ⟨0, by omega, rfl, gE, But.refl _ _⟩
  case round =>
    obtain ⟨k, hk, rfl, hg, hbt⟩ := hrel
    by_cases hlt : k < 31
    · have f0 : wr.frozen? ⟨GE, k, none⟩ = false := frozen_of_row _ _ _ _ _ hg.out
      obtain ⟨u0, c0⟩ : ∃ u, wr.cell? ⟨GE, k, none⟩ = some u := by
        rw [cell_of_row _ _ _ _ _ _ hg.out]
        exact ⟨_, List.getElem?_toArray .. ▸ List.getElem?_eq_getElem (by rw [bv_len, erow_len]; omega)⟩
      have hset : Hid ((wr.setCell ⟨GE, k, none⟩ (.int .u8 255)).heap[GE]? = some (.cells (bv (erow (k + 1))).toArray 23 (0, 0))) := by
        have h1 := (world_set_cell hg.out k (.int .u8 255)).out
        rw [show (255 : Int) = ((255 : UInt8).toNat : Int) from rfl, bv_set] at h1
        exact h1
      have hb2 := hbt.set (i := k) (.int .u8 255)
      go_wp2
      go_roundw
      case rel => exact ⟨k + 1, by omega, by go_num, hset, hb2⟩
      case measure => simp [intOf]; omega
    · obtain rfl : k = 31 := by omega
      have f0 : wr.frozen? ⟨GE, 0, none⟩ = false := frozen_of_row _ _ _ _ _ hg.out
      have f1 : wr.frozen? ⟨GE, 31, none⟩ = false := frozen_of_row _ _ _ _ _ hg.out
      obtain ⟨u0, c0⟩ : ∃ u, wr.cell? ⟨GE, 0, none⟩ = some u := by
        rw [cell_of_row _ _ _ _ _ _ hg.out]
        exact ⟨_, List.getElem?_toArray .. ▸ List.getElem?_eq_getElem (by rw [bv_len, erow_len]; omega)⟩
      obtain ⟨u1, c1⟩ : ∃ u, wr.cell? ⟨GE, 31, none⟩ = some u := by
        rw [cell_of_row _ _ _ _ _ _ hg.out]
        exact ⟨_, List.getElem?_toArray .. ▸ List.getElem?_eq_getElem (by rw [bv_len, erow_len]; omega)⟩
      obtain ⟨T, hT⟩ : ∃ T, T = ewd := ⟨_, rfl⟩
      have HTV := vlt (show ln T = E8 by rw [hT, ewd_ln])
      have HTL := Lib.hid (show T.length = 32 by rw [hT, ewd_len])
      have hset : Hid (((wr.setCell ⟨GE, 0, none⟩ (.int .u8 254)).setCell ⟨GE, 31, none⟩ (.int .u8 15)).heap[GE]? = some (.cells (bv T).toArray 23 (0, 0))) := by
        have h1 := (world_set_cell (world_set_cell hg.out 0 (.int .u8 254)).out 31 (.int .u8 15)).out
        rw [show (254 : Int) = ((254 : UInt8).toNat : Int) from rfl, show (15 : Int) = ((15 : UInt8).toNat : Int) from rfl, bv_set, bv_set, show ((erow 31).set 0 254).set 31 15 = ewd from rfl, ← hT] at h1
        exact h1
      have hb2 := (hbt.set (i := 0) (.int .u8 254)).set (i := 31) (.int .u8 15)
      clear hT hg hbt
      go_upto_region 8 with fail
      generalize (wr.setCell ⟨GE, 0, none⟩ (.int .u8 254)).setCell ⟨GE, 31, none⟩ (.int .u8 15) = w3 at *
      have gA3 : Hid (w3.heap[w.heap.size]? = some (.cells (i64v a).toArray 55 (0, 0))) := (hb2.block _ (by omega) (by intro e; injection e; omega)).trans gA.out
      have gZ3 : Hid (w3.heap[w.heap.size + 1]? = some (.cells (bv z32).toArray 23 (0, 0))) := (hb2.block _ (by omega) (by intro e; injection e; omega)).trans gZ.out
      have gT3 : Hid (w3.heap[GT]? = some (.cells (bv WT).toArray 23 (0, 0))) := (hb2.block _ (by omega) (by intro e; injection e; omega)).trans gT.out
      have hbw3 : Below w.heap.size w w3 := But.below hbV2 hb2 (by omega) (by omega)
      have sE3 : GE < w3.heap.size := Nat.lt_of_lt_of_le sE hb2.size
      clear f0 f1 c0 c1 hb2
      go_wp2_with (first
        | (with_reducible refine wpList_load_row rfl 55 (.tmp 1) rfl w.heap.size rfl 55 (i64v a).toArray (0, 0) _ gA3.out Tryd.underlying55 rfl (by rw [HS.out]; kernel_rfl) ?_)
        | (with_reducible refine wpList_load_row rfl 23 (.tmp 5) rfl GE rfl 23 (bv T).toArray (0, 0) _ hset.out Tryd.underlying23 rfl (by rw [bv_size T HTL.out]; kernel_rfl) ?_))
      obtain ⟨X, hX⟩ : ∃ X, X = N ^ E8 := ⟨_, rfl⟩
      have HRAW := vlt (show rawOf N = rawX N X by rw [hX]; rfl)
      refine (rpower_any w3 a NA.out.1 T HTL.out).mono ?_
      rintro e w4 ⟨r, rfl, e4, HR, hb4⟩
      have hr := vlt (show Fv r X by have h := fv_pow NA.out e4.out; rw [HTV.out] at h; rw [hX]; exact h)
      have gZ4 := Lib.hid ((hb4.block _ (by omega : w.heap.size + 1 < w3.heap.size)).trans gZ3.out)
      have gT4 := Lib.hid ((hb4.block _ (by omega : GT < w3.heap.size)).trans gT3.out)
      have hbw4 := below_next hbw3 hbw3.size hb4
      have sE4 := Nat.lt_of_lt_of_le sE3 hb4.size
      clear hX e4 gA3 gZ3 gT3 hbw3 hb4 hset
      have hrs := Lib.hid (i64v_size r HR.out)
      go_upto_region 9 with ((with_reducible refine wpList_store_row rfl 55 (.tmp 7) (.tmp 21) rfl w4.heap.size (i64v r).toArray rfl rfl 55 _ (heap_alloc_new _ _) (by rw [hrs.out]; kernel_rfl) (by rw [hrs.out]; kernel_rfl) (all_oneCell_toArray (i64v_one _)) ?_); rw [World.setRow_alloc_new])
      obtain ⟨V3, hV⟩ : ∃ V3, V3 = w4.alloc (.cells (i64v r).toArray 55) := ⟨_, rfl⟩
      rw [← hV]
      have gZ5 : Hid (V3.heap[w.heap.size + 1]? = some (.cells (bv z32).toArray 23 (0, 0))) := by rw [hV]; exact (Below.heap_alloc _ _ _ (by omega)).trans gZ4.out
      have gT5 : Hid (V3.heap[GT]? = some (.cells (bv WT).toArray 23 (0, 0))) := by rw [hV]; exact (Below.heap_alloc _ _ _ (by omega)).trans gT4.out
      have gR : Hid (V3.heap[w4.heap.size]? = some (.cells (i64v r).toArray 55 (0, 0))) := by rw [hV]; exact heap_alloc_new _ _
      have hbV3 : Below w.heap.size w V3 := by rw [hV]; exact hbw4.alloc hbw4.size _
      obtain ⟨GR, hG⟩ : ∃ G, G = w4.heap.size := ⟨_, rfl⟩
      rw [← hG] at gR sE4 ⊢
      clear hV hG gZ4 gT4 hbw4
      have sR : GR < V3.heap.size := (Array.getElem?_eq_some_iff.1 gR.out).1
      have sT : GT < V3.heap.size := by omega
      have sZ : w.heap.size + 1 < V3.heap.size := by omega
      refine wp_region_held_drew (S := (fun W' => Below V3.heap.size V3 W')) (by kernel_rfl) ((Below.refl _ _).drew) (fun hHeld => ?_)
      refine wpAnyH_take (i := 0) (oi := ⟨(some 22), _, _, _, _, _⟩) (v := _) rfl (by kernel_rfl) (by kernel_rfl) (by kernel_rfl) (fun _ _ _ h => h) (yieldsIf_load_mid (by rfl) _ _ rfl GR 0 rfl (i64v r) _ (fun W' hW' => range_row ((hW'.block _ sR).trans gR.out)) (Tryd.underlying55) (rfl) (by rw [i64v_len, HR.out]; kernel_rfl)) hHeld ?_
      try simp only [Act.put, List.setIfInBounds_toArray, List.set_cons_zero, List.set_cons_succ]
      refine wpAnyH_take (i := 1) (oi := ⟨(some 23), _, _, _, _, _⟩) (v := _) rfl (by kernel_rfl) (by kernel_rfl) (by kernel_rfl) (fun _ _ _ h => h) (yieldsIf_load_mid (by rfl) _ _ rfl GR 0 rfl (i64v r) _ (fun W' hW' => range_row ((hW'.block _ sR).trans gR.out)) (Tryd.underlying55) (rfl) (by rw [i64v_len, HR.out]; kernel_rfl)) hHeld ?_
      try simp only [Act.put, List.setIfInBounds_toArray, List.set_cons_zero, List.set_cons_succ]
      refine wpAnyH_take (i := 4) (oi := ⟨(some 26), _, _, _, _, _⟩) (v := _) rfl (by kernel_rfl) (by kernel_rfl) (by kernel_rfl) (fun _ _ _ h => h) (yieldsIf_load_mid (by rfl) _ _ rfl GT 0 rfl (bv WT) _ (fun W' hW' => range_row ((hW'.block _ sT).trans gT5.out)) (Tryd.underlying23) (rfl) (by rw [bv_len, HWT.out]; kernel_rfl)) hHeld ?_
      try simp only [Act.put, List.setIfInBounds_toArray, List.set_cons_zero, List.set_cons_succ]
      refine wpAnyH_ready (rs := [2]) (by kernel_rfl) (by simp) ?_
      refine AllReadyH.cons (i := 2) (o := ⟨(some 24), _, _, _, _, _⟩) rfl (fun K hK => ?_) AllReadyH.nil
      go_simp
      refine (rtimes_any _ r r hr.out.1 hr.out.1).mono ?_
      rintro e w5 ⟨q, rfl, e5, HQ, hb5⟩
      have hq := vlt (fv_mul hr.out hr.out e5.out)
      refine hK.out _ _ (below_next hHeld hHeld.size hb5) (fun hHeld => ?_)
      clear hK K
      try simp only [Act.put, List.setIfInBounds_toArray, List.set_cons_zero, List.set_cons_succ]
      refine wpAnyH_ready (rs := [3]) (by kernel_rfl) (by simp) ?_
      refine AllReadyH.cons (i := 3) (o := ⟨(some 25), _, _, _, _, _⟩) rfl (fun K hK => ?_) AllReadyH.nil
      go_simp
      refine (rout_any _ q hq.out.1 (X * X) hq.out.2).mono ?_
      rintro e w6 ⟨l, rfl, el, HLn, hb6⟩
      refine hK.out _ _ (below_next hHeld hHeld.size hb6) (fun hHeld => ?_)
      clear hK K
      try simp only [Act.put, List.setIfInBounds_toArray, List.set_cons_zero, List.set_cons_succ]
      have heq := eql_bytes (P := Tryd.prog) Tryd.underlying23 Tryd.underlying5 Tryd.sizeByte l WT HLn.out HWT.out
      have HD := vlt (show decide (l = WT) = decide (X * X % FP = N % FP) by rw [el.out, eW.out, wo_dec])
      generalize decide (l = WT) = b at *
      refine wpAnyH_take (i := 5) (oi := ⟨(some 27), _, _, _, _, _⟩) (v := ?vq1_0) rfl (by kernel_rfl) (by kernel_rfl) (by kernel_rfl) (fun _ _ _ h => h) (Or.inl ⟨by rfl, ?yq1_0⟩) hHeld ?_
      case yq1_0 => (intro W0 hSw; go_simp; try with_reducible rfl)
      try simp only [Act.put, List.setIfInBounds_toArray, List.set_cons_zero, List.set_cons_succ]
      refine wpAnyH_done (by kernel_rfl) ?_ _
      clear heq hq e5 el hb5 hb6
      cases b
      · have HN : ¬ X * X % FP = N % FP := by have h := HD.out; simpa using h.symm
        have HNV := vlt HN
        clear HN HD
        go_upto_region 11 with fail
        refine c_start (S := (fun W' => Below V3.heap.size V3 W')) 7 (by kernel_rfl) (hHeld.drew) (fun hHeld => ?_)
        refine c_read (i := 0) (oi := ⟨(some 30), _, _, _, _, _⟩) (v := _) rfl (by decide) (by kernel_rfl) (by kernel_rfl) (by kernel_rfl) (by kernel_rfl) (by kernel_rfl) (fun _ _ _ h => h) (yieldsIf_load_mid (by rfl) _ _ rfl GR 0 rfl (i64v r) _ (fun W' hW' => range_row ((hW'.block _ sR).trans gR.out)) (Tryd.underlying55) (rfl) (by rw [i64v_len, HR.out]; kernel_rfl)) hHeld ?_
        try simp only [Act.put, List.setIfInBounds_toArray, List.set_cons_zero, List.set_cons_succ]
        refine c_take (i := 1) (oi := ⟨(some 31), _, _, _, _, _⟩) (v := ?vq2_0) rfl (by decide) (by kernel_rfl) (by kernel_rfl) (by kernel_rfl) (fun _ _ _ h => h) (Or.inl ⟨by rfl, ?yq2_0⟩) hHeld ?_
        case yq2_0 => (intro W0 hSw; go_simp; try with_reducible rfl)
        try simp only [Act.put, List.setIfInBounds_toArray, List.set_cons_zero, List.set_cons_succ]
        refine c_step (i := 2) (o := ⟨(some 32), _, _, _, _, _⟩) (by kernel_rfl) rfl (fun K hK => ?_)
        go_simp
        refine (below_any _ 1 (by decide) (by decide)).mono ?_
        rintro e y1 ⟨b1, rfl, f1, HB1, hc1⟩
        refine hK.out _ _ (below_next hHeld hHeld.size hc1) (fun hHeld => ?_)
        clear hK K
        try simp only [Act.put, List.setIfInBounds_toArray, List.set_cons_zero, List.set_cons_succ]
        refine c_step (i := 3) (o := ⟨(some 33), _, _, _, _, _⟩) (by kernel_rfl) rfl (fun K hK => ?_)
        go_simp
        refine (half_any _ b1 HB1.out).mono ?_
        rintro e y2 ⟨b2, rfl, f2, HB2, hc2⟩
        refine hK.out _ _ (below_next hHeld hHeld.size hc2) (fun hHeld => ?_)
        clear hK K
        try simp only [Act.put, List.setIfInBounds_toArray, List.set_cons_zero, List.set_cons_succ]
        refine c_step (i := 4) (o := ⟨(some 34), _, _, _, _, _⟩) (by kernel_rfl) rfl (fun K hK => ?_)
        go_simp
        refine (half_any _ b2 HB2.out).mono ?_
        rintro e y3 ⟨b3, rfl, f3, HB3, hc3⟩
        refine hK.out _ _ (below_next hHeld hHeld.size hc3) (fun hHeld => ?_)
        clear hK K
        try simp only [Act.put, List.setIfInBounds_toArray, List.set_cons_zero, List.set_cons_succ]
        refine c_step (i := 5) (o := ⟨(some 35), _, _, _, _, _⟩) (by kernel_rfl) rfl (fun K hK => ?_)
        go_simp
        refine (rpower_any _ TW HTW.out.1 b3 HB3.out).mono ?_
        rintro e y4 ⟨s, rfl, f4, HSS, hc4⟩
        refine hK.out _ _ (below_next hHeld hHeld.size hc4) (fun hHeld => ?_)
        clear hK K
        try simp only [Act.put, List.setIfInBounds_toArray, List.set_cons_zero, List.set_cons_succ]
        have hs := vlt (show Fv s TRN by have h := fv_pow HTW.out f4.out; rw [f3.out, f2.out, f1.out, q4_ln] at h; exact fv_of h q4_trn)
        refine c_step (i := 6) (o := ⟨(some 36), _, _, _, _, _⟩) (by kernel_rfl) rfl (fun K hK => ?_)
        go_simp
        refine (rtimes_any _ r s hr.out.1 hs.out.1).mono ?_
        rintro e y5 ⟨t, rfl, f5, HTT, hc5⟩
        refine hK.out _ _ (below_next hHeld hHeld.size hc5) (fun hHeld => ?_)
        clear hK K
        try simp only [Act.put, List.setIfInBounds_toArray, List.set_cons_zero, List.set_cons_succ]
        have ht := vlt (show Fv t (X * TRN) from fv_mul hr.out hs.out f5.out)
        have hH5 := hHeld
        have gR7 : Hid (y5.heap[GR]? = some (.cells (i64v r).toArray 55 (0, 0))) := (hH5.block _ sR).trans gR.out
        clear f1 f2 f3 f4 f5 hc1 hc2 hc3 hc4 hc5 hs
        refine c_call (S' := (fun _ => True)) (o := ⟨none, _, _, _, _, _⟩) (by kernel_rfl) (by kernel_rfl) rfl (fun K hK => ?_)
        clear hHeld
        refine step_store_row rfl 55 (.tmp 7) (.tmp 36) (by rfl) GR (i64v t).toArray (by rfl) (by rfl) 55 _ gR7.out (by rw [i64v_size t HTT.out]; kernel_rfl) (by rw [i64v_size t HTT.out, hrs.out]) (all_oneCell_toArray (i64v_one _)) ?_
        refine hK.out _ _ (trivial) (fun hHeld => ?_)
        clear hK K
        try simp only [Act.put]
        refine wpAnyH_done (by kernel_rfl) ?_ _
        obtain ⟨U, hU⟩ : ∃ U, U = y5.setRow GR (i64v t).toArray := ⟨_, rfl⟩
        rw [← hU]
        have uT : Hid (U.heap[GT]? = some (.cells (bv WT).toArray 23 (0, 0))) := by rw [hU]; exact (setRow_other _ _ _ _ (by omega)).trans ((hH5.block _ sT).trans gT5.out)
        have uZ : Hid (U.heap[w.heap.size + 1]? = some (.cells (bv z32).toArray 23 (0, 0))) := by rw [hU]; exact (setRow_other _ _ _ _ (by omega)).trans ((hH5.block _ sZ).trans gZ5.out)
        have uR : Hid (U.heap[GR]? = some (.cells (i64v t).toArray 55 (0, 0))) := by rw [hU]; exact setRow_heap _ _ _ _ _ _ gR7.out
        have hbU : Below w.heap.size w U := by rw [hU]; exact below_setRow (below_next hbV3 hbV3.size hH5) (by omega) _
        clear hU hH5 gR7 gR gT5 gZ5 hHeld
        have sRU : GR < U.heap.size := (Array.getElem?_eq_some_iff.1 uR.out).1
        have sTU : GT < U.heap.size := by omega
        have sZU : w.heap.size + 1 < U.heap.size := by omega
        go_upto_region 12 with fail
        refine wp_region_held_drew (S := (fun W' => Below U.heap.size U W')) (by kernel_rfl) ((Below.refl _ _).drew) (fun hHeld => ?_)
        refine wpAnyH_take (i := 0) (oi := ⟨(some 37), _, _, _, _, _⟩) (v := _) rfl (by kernel_rfl) (by kernel_rfl) (by kernel_rfl) (fun _ _ _ h => h) (yieldsIf_load_mid (by rfl) _ _ rfl GR 0 rfl (i64v t) _ (fun W' hW' => range_row ((hW'.block _ sRU).trans uR.out)) (Tryd.underlying55) (rfl) (by rw [i64v_len, HTT.out]; kernel_rfl)) hHeld ?_
        try simp only [Act.put, List.setIfInBounds_toArray, List.set_cons_zero, List.set_cons_succ]
        refine wpAnyH_take (i := 1) (oi := ⟨(some 38), _, _, _, _, _⟩) (v := _) rfl (by kernel_rfl) (by kernel_rfl) (by kernel_rfl) (fun _ _ _ h => h) (yieldsIf_load_mid (by rfl) _ _ rfl GR 0 rfl (i64v t) _ (fun W' hW' => range_row ((hW'.block _ sRU).trans uR.out)) (Tryd.underlying55) (rfl) (by rw [i64v_len, HTT.out]; kernel_rfl)) hHeld ?_
        try simp only [Act.put, List.setIfInBounds_toArray, List.set_cons_zero, List.set_cons_succ]
        refine wpAnyH_take (i := 4) (oi := ⟨(some 41), _, _, _, _, _⟩) (v := _) rfl (by kernel_rfl) (by kernel_rfl) (by kernel_rfl) (fun _ _ _ h => h) (yieldsIf_load_mid (by rfl) _ _ rfl GT 0 rfl (bv WT) _ (fun W' hW' => range_row ((hW'.block _ sTU).trans uT.out)) (Tryd.underlying23) (rfl) (by rw [bv_len, HWT.out]; kernel_rfl)) hHeld ?_
        try simp only [Act.put, List.setIfInBounds_toArray, List.set_cons_zero, List.set_cons_succ]
        refine wpAnyH_ready (rs := [2]) (by kernel_rfl) (by simp) ?_
        refine AllReadyH.cons (i := 2) (o := ⟨(some 39), _, _, _, _, _⟩) rfl (fun K hK => ?_) AllReadyH.nil
        go_simp
        refine (rtimes_any _ t t ht.out.1 ht.out.1).mono ?_
        rintro e y6 ⟨q2, rfl, e5, HQ2, hb5⟩
        have hq := vlt (fv_mul ht.out ht.out e5.out)
        refine hK.out _ _ (below_next hHeld hHeld.size hb5) (fun hHeld => ?_)
        clear hK K
        try simp only [Act.put, List.setIfInBounds_toArray, List.set_cons_zero, List.set_cons_succ]
        refine wpAnyH_ready (rs := [3]) (by kernel_rfl) (by simp) ?_
        refine AllReadyH.cons (i := 3) (o := ⟨(some 40), _, _, _, _, _⟩) rfl (fun K hK => ?_) AllReadyH.nil
        go_simp
        refine (rout_any _ q2 hq.out.1 ((X * TRN) * (X * TRN)) hq.out.2).mono ?_
        rintro e y7 ⟨l2, rfl, el, HLn2, hb6⟩
        refine hK.out _ _ (below_next hHeld hHeld.size hb6) (fun hHeld => ?_)
        clear hK K
        try simp only [Act.put, List.setIfInBounds_toArray, List.set_cons_zero, List.set_cons_succ]
        have heq := eql_bytes (P := Tryd.prog) Tryd.underlying23 Tryd.underlying5 Tryd.sizeByte l2 WT HLn2.out HWT.out
        have HD := vlt (show decide (l2 = WT) = decide ((X * TRN) * (X * TRN) % FP = N % FP) by rw [el.out, eW.out, wo_dec])
        generalize decide (l2 = WT) = b at *
        refine wpAnyH_take (i := 5) (oi := ⟨(some 42), _, _, _, _, _⟩) (v := ?vq3_0) rfl (by kernel_rfl) (by kernel_rfl) (by kernel_rfl) (fun _ _ _ h => h) (Or.inl ⟨by rfl, ?yq3_0⟩) hHeld ?_
        case yq3_0 => (intro W0 hSw; go_simp; try with_reducible rfl)
        try simp only [Act.put, List.setIfInBounds_toArray, List.set_cons_zero, List.set_cons_succ]
        refine wpAnyH_done (by kernel_rfl) ?_ _
        clear heq hq e5 el hb5 hb6
        have hb7 := below_next hbU hbU.size hHeld
        have vR := Lib.hid ((hHeld.block _ sRU).trans uR.out)
        have vZ := Lib.hid ((hHeld.block _ sZU).trans uZ.out)
        have svZ := Nat.lt_of_lt_of_le sZU hHeld.size
        clear hHeld uR uZ uT hbU
        cases b
        · have HN : ¬ (X * TRN) * (X * TRN) % FP = N % FP := by have h := HD.out; simpa using h.symm
          have HF := vlt (show (z32, false) = rawOf N by rw [HRAW.out, rawX, if_neg HNV.out, if_neg HN])
          clear HD HN
          go_wp2_with (with_reducible refine wpList_store_row rfl 23 (.tmp 2) (.tmp 45) rfl (w.heap.size + 1) (bv z32).toArray rfl rfl 23 _ vZ.out (by kernel_rfl) (by kernel_rfl) (all_oneCell_toArray (bv_one _)) ?_)
          refine bodyPost_ret (v := .tuple #[.agg (bv z32).toArray, .bool false]) (results_row_tmp Tryd.results62 _ _ (w.heap.size + 1) 23 _ (0, 0) _ rfl (setRow_heap _ _ _ _ _ _ vZ.out) Tryd.underlying23 rfl (by kernel_rfl) _ rfl) rfl ⟨z32, false, rfl, HF, z32_len, below_setRow hb7 (by omega) _⟩
        · have HN : (X * TRN) * (X * TRN) % FP = N % FP := by have h := HD.out; simpa using h.symm
          have HYV := vlt HN
          clear HN HD
          go_wp2_with (with_reducible refine wpList_load_row rfl 55 (.tmp 7) rfl GR rfl 55 (i64v t).toArray (0, 0) _ vR.out Tryd.underlying55 rfl (by rw [i64v_size t HTT.out]; kernel_rfl) ?_)
          refine (rout_any _ t ht.out.1 (X * TRN) ht.out.2).mono ?_
          rintro e w9 ⟨l9, rfl, e9, HL9, hb9⟩
          have gZ9 : Hid (w9.heap[w.heap.size + 1]? = some (.cells (bv z32).toArray 23 (0, 0))) := (hb9.block _ svZ).trans vZ.out
          have hbw9 := below_next hb7 hb7.size hb9
          have s9 : w.heap.size + 1 < w9.heap.size := Nat.lt_of_lt_of_le svZ hb9.size
          have HF := vlt (show (l9, true) = rawOf N by rw [HRAW.out, rawX, if_neg HNV.out, if_pos HYV.out, e9.out])
          clear e9
          go_wp2_with (with_reducible refine wpList_store_row rfl 23 (.tmp 2) (.tmp 44) rfl (w.heap.size + 1) (bv l9).toArray rfl rfl 23 _ gZ9.out (by rw [bv_size l9 HL9.out]; kernel_rfl) (by rw [bv_size l9 HL9.out]; kernel_rfl) (all_oneCell_toArray (bv_one _)) ?_)
          refine bodyPost_ret (v := .tuple #[.agg (bv l9).toArray, .bool true]) (results_row_tmp Tryd.results62 _ _ (w.heap.size + 1) 23 _ (0, 0) _ rfl (setRow_heap _ _ _ _ _ _ gZ9.out) Tryd.underlying23 rfl (by rw [bv_size l9 HL9.out]; kernel_rfl) _ rfl) rfl ⟨l9, true, rfl, HF, HL9, below_setRow hbw9 (by omega) _⟩
      · have HN : X * X % FP = N % FP := by have h := HD.out; simpa using h.symm
        have HYV := vlt HN
        clear HN HD
        have hb7 := below_next hbV3 hbV3.size hHeld
        have vR := Lib.hid ((hHeld.block _ sR).trans gR.out)
        have vZ := Lib.hid ((hHeld.block _ sZ).trans gZ5.out)
        have svZ := Nat.lt_of_lt_of_le sZ hHeld.size
        clear hHeld
        go_wp2_with (with_reducible refine wpList_load_row rfl 55 (.tmp 7) rfl GR rfl 55 (i64v r).toArray (0, 0) _ vR.out Tryd.underlying55 rfl (by rw [i64v_size r HR.out]; kernel_rfl) ?_)
        refine (rout_any _ r hr.out.1 (X) hr.out.2).mono ?_
        rintro e w9 ⟨l9, rfl, e9, HL9, hb9⟩
        have gZ9 : Hid (w9.heap[w.heap.size + 1]? = some (.cells (bv z32).toArray 23 (0, 0))) := (hb9.block _ svZ).trans vZ.out
        have hbw9 := below_next hb7 hb7.size hb9
        have s9 : w.heap.size + 1 < w9.heap.size := Nat.lt_of_lt_of_le svZ hb9.size
        have HF := vlt (show (l9, true) = rawOf N by rw [HRAW.out, rawX, if_pos HYV.out, e9.out])
        clear e9
        go_wp2_with (with_reducible refine wpList_store_row rfl 23 (.tmp 2) (.tmp 29) rfl (w.heap.size + 1) (bv l9).toArray rfl rfl 23 _ gZ9.out (by rw [bv_size l9 HL9.out]; kernel_rfl) (by rw [bv_size l9 HL9.out]; kernel_rfl) (all_oneCell_toArray (bv_one _)) ?_)
        refine bodyPost_ret (v := .tuple #[.agg (bv l9).toArray, .bool true]) (results_row_tmp Tryd.results62 _ _ (w.heap.size + 1) 23 _ (0, 0) _ rfl (setRow_heap _ _ _ _ _ _ gZ9.out) Tryd.underlying23 rfl (by rw [bv_size l9 HL9.out]; kernel_rfl) _ rfl) rfl ⟨l9, true, rfl, HF, HL9, below_setRow hbw9 (by omega) _⟩
end Go.Proofs.YtehkalbiomagjaaDoor
namespace Go.Proofs.YtehkalbiomagjaaDoor

/-- The even one of a word and what it lacks of the prime. -/
def evl (l : List UInt8) : List UInt8 := if ln l % 2 = 1 then wo (subF 0 (ln l)) else l
theorem evl_wo (r : Nat) : evl (wo r) = evenW r := by
  have h : wo (subF 0 (r % FP)) = wo (subF 0 r) := by rw [subF, subF, Nat.mod_mod]
  rw [evl, evenW, ln_wo, h]
theorem raw_root (N : Nat) : rootOf N = if (rawOf N).2 = true then (evl (rawOf N).1, true) else (z32, false) := by
  unfold rootOf rawOf rawX
  split
  · rw [if_pos rfl, evl_wo]
  · split
    · rw [if_pos rfl, evl_wo]
    · rfl
theorem rawX_no {N X : Nat} {l : List UInt8} (h : (l, false) = rawX N X) : l = z32 := by
  unfold rawX at h
  split at h
  · have h3 : false = true := congrArg Prod.snd h
    cases h3
  · split at h
    · have h3 : false = true := congrArg Prod.snd h
      cases h3
    · exact congrArg Prod.fst h
theorem raw_no {N : Nat} {l : List UInt8} (h : (l, false) = rawOf N) : l = z32 ∧ (z32, false) = rootOf N :=
  ⟨rawX_no h, by rw [raw_root, ← h]; rfl⟩
theorem raw_yes {N : Nat} {l : List UInt8} (h : (l, true) = rawOf N) : (evl l, true) = rootOf N := by rw [raw_root, ← h]; rfl
theorem evl_odd {l : List UInt8} (h : ln l % 2 = 1) : evl l = wo (subF (ln z32) (ln l)) := by rw [evl, if_pos h, ln_z32]
theorem evl_not {l : List UInt8} (h : ¬ ln l % 2 = 1) : evl l = l := by rw [evl, if_neg h]
end Go.Proofs.YtehkalbiomagjaaDoor
namespace Go.Proofs.YtehkalbiomagjaaDoor

theorem plus_diff {n : Nat} [NeZero n] (x1 y1 z1 x2 y2 z2 d : Fin n) :
    (x1 * z1 + y1 * z1) * (x2 * z2 + y2 * z2) - (x1 * z1 * (x2 * z2) + y1 * z1 * (y2 * z2)) = z1 * z2 * (x1 * y2 + y1 * x2) ∧
    x1 * z1 * (x2 * z2) + y1 * z1 * (y2 * z2) = z1 * z2 * (y1 * y2 + x1 * x2) ∧
    z1 * z2 - d * (x1 * y1 * z1 * (x2 * y2 * z2)) = z1 * z2 * (1 - d * (x1 * x2 * y1 * y2)) ∧
    z1 * z2 + d * (x1 * y1 * z1 * (x2 * y2 * z2)) = z1 * z2 * (1 + d * (x1 * x2 * y1 * y2)) := by
  refine ⟨?_, ?_, ?_, ?_⟩ <;> grind
theorem twice_diff {n : Nat} [NeZero n] (x y z d : Fin n) (h : OnE d x y) :
    x * z * (y * z) + x * z * (y * z) = z * z * (x * y + y * x) ∧
    x * z * (x * z) + y * z * (y * z) = z * z * (y * y + x * x) ∧
    z * z + z * z - (y * z * (y * z) - x * z * (x * z)) = z * z * (1 - d * (x * x * y * y)) ∧
    y * z * (y * z) - x * z * (x * z) = z * z * (1 + d * (x * x * y * y)) := by
  simp only [OnE] at h
  refine ⟨?_, ?_, ?_, ?_⟩ <;> grind
theorem ring_y2 {n : Nat} [NeZero n] {K y A B : Fin n} : K * (y * B) * (K * A) = y * (K * A * (K * B)) := by grind
/-- A sum in four numbers, of what is told apart: x over xu, y over yu. -/
theorem rep_at {X XU Y YU K : Fin FP} {P Q : PtE} (hP : OnP P) (hQ : OnP Q) (hK : K ≠ 0)
    (hx : X = K * (P.1 * Q.2 + P.2 * Q.1)) (hy : Y = K * (P.2 * Q.2 + P.1 * Q.1)) (hu : YU = K * (1 - cF dE * (P.1 * Q.1 * P.2 * Q.2))) (hv : XU = K * (1 + cF dE * (P.1 * Q.1 * P.2 * Q.2))) :
    RepE (X * YU) (Y * XU) (XU * YU) (X * Y) (addE P Q) := by
  have hs := addE_sm hP hQ
  have n1 := comp_p fld25519 hP hQ
  have n2 := comp_m fld25519 hP hQ
  have sx := hs.x
  have sy := hs.y
  rw [hx, hy, hu, hv, ← sx, ← sy]
  clear hx hy hu hv hs
  generalize 1 + cF dE * (P.1 * Q.1 * P.2 * Q.2) = A at *
  generalize 1 - cF dE * (P.1 * Q.1 * P.2 * Q.2) = B at *
  clear sx sy
  exact ⟨fld25519.mul_ne (fld25519.mul_ne hK n1) (fld25519.mul_ne hK n2), ring_x, ring_y2, ring_t⟩
theorem rep_plus {X1 Y1 Z1 T1 X2 Y2 Z2 T2 : Fin FP} {P Q : PtE} (hP : OnP P) (hQ : OnP Q) (h1 : RepE X1 Y1 Z1 T1 P) (h2 : RepE X2 Y2 Z2 T2 Q) {xx yy zz bent cross st X XU YU : Fin FP}
    (hxx : xx = X1 * X2) (hyy : yy = Y1 * Y2) (hzz : zz = Z1 * Z2) (hb : bent = cF dE * (T1 * T2)) (hc : cross = (X1 + Y1) * (X2 + Y2)) (hs : st = xx + yy) (hX : X = cross - st) (hXU : XU = zz + bent) (hYU : YU = zz - bent) :
    RepE (X * YU) (st * XU) (XU * YU) (X * st) (addE P Q) := by
  obtain ⟨r1, r2, r3, r4⟩ := plus_diff P.1 P.2 Z1 Q.1 Q.2 Z2 (cF dE)
  have e1 : (P.1 * Z1 * (Q.1 * Z2) + P.2 * Z1 * (Q.2 * Z2)) = st := by rw [hs, hxx, hyy, h1.x, h1.y, h2.x, h2.y]
  have e2 : bent = cF dE * (P.1 * P.2 * Z1 * (Q.1 * Q.2 * Z2)) := by rw [hb, h1.t, h2.t]
  refine rep_at hP hQ (fld25519.mul_ne h1.z h2.z) ?_ (e1.symm.trans r2) ?_ ?_
  · rw [hX, hc, ← e1, h1.x, h1.y, h2.x, h2.y]; exact r1
  · rw [hYU, hzz, e2]; exact r3
  · rw [hXU, hzz, e2]; exact r4
theorem rep_twice {X1 Y1 Z1 T1 : Fin FP} {P : PtE} (hP : OnP P) (h1 : RepE X1 Y1 Z1 T1 P) {xx yy zz xy X XU Y YU : Fin FP}
    (hxx : xx = X1 * X1) (hyy : yy = Y1 * Y1) (hzz : zz = Z1 * Z1) (hxy : xy = X1 * Y1) (hX : X = xy + xy) (hXU : XU = yy - xx) (hY : Y = xx + yy) (hYU : YU = zz + zz - XU) :
    RepE (X * YU) (Y * XU) (XU * YU) (X * Y) (addE P P) := by
  obtain ⟨r1, r2, r3, r4⟩ := twice_diff P.1 P.2 Z1 (cF dE) hP
  have ex := h1.x
  have ey := h1.y
  refine rep_at hP hP (fld25519.mul_ne h1.z h1.z) ?_ ?_ ?_ ?_
  · rw [hX, hxy, ex, ey]; exact r1
  · rw [hY, hxx, hyy, ex, ey]; exact r2
  · rw [hYU, hXU, hzz, hyy, hxx, ex, ey]; exact r3
  · rw [hXU, hyy, hxx, ex, ey]; exact r4
/-- A word as a number modulo the prime. -/
def cW (l : List UInt8) : Fin FP := cF (ln l)
theorem cW_wo (N : Nat) : cW (wo N) = cF N := by rw [cW, ln_wo, cF_eq, Nat.mod_mod]
theorem cW_lt (N : Nat) : ln (wo N) < FP := by rw [ln_wo]; exact Nat.mod_lt _ (by decide)
/-- A place's parts. -/
def sub (p : List UInt8) (o n : Nat) : List UInt8 := (p.drop o).take n
theorem sub_len (p : List UInt8) (o n : Nat) (h : o + n ≤ p.length) : (sub p o n).length = n := by simp [sub]; omega
structure PlE (p : List UInt8) (P : PtE) : Prop where
  rep : RepE (cW (sub p 0 32)) (cW (sub p 32 32)) (cW (sub p 64 32)) (cW (sub p 96 32)) P
  on : OnP P
theorem sub_four (x y z t : List UInt8) (hx : x.length = 32) (hy : y.length = 32) (hz : z.length = 32) (ht : t.length = 32) :
    sub (x ++ (y ++ (z ++ t))) 0 32 = x ∧ sub (x ++ (y ++ (z ++ t))) 32 32 = y ∧ sub (x ++ (y ++ (z ++ t))) 64 32 = z ∧ sub (x ++ (y ++ (z ++ t))) 96 32 = t := by
  refine ⟨?_, ?_, ?_, ?_⟩ <;> simp [sub, List.drop_append, hx, hy, hz, ht, List.drop_eq_nil_of_le, List.take_of_length_le]
theorem plE_four {x y z t p : List UInt8} {P : PtE} (hp : p = x ++ (y ++ (z ++ t))) (hx : x.length = 32) (hy : y.length = 32) (hz : z.length = 32) (ht : t.length = 32) (h : RepE (cW x) (cW y) (cW z) (cW t) P) (ho : OnP P) : PlE p P := by
  obtain ⟨h1, h2, h3, h4⟩ := sub_four x y z t hx hy hz ht
  subst hp
  exact ⟨by rw [h1, h2, h3, h4]; exact h, ho⟩
/-- A square's root, or none. -/
theorem root_none_E {l : List UInt8} {u : Fin FP} {N : Nat} (hN : cF N = u) (hlt : N < FP) (h : (l, false) = rootOf N) : ∀ x : Fin FP, x * x ≠ u := fun x hx => by
  have h1 := root_square x.val
  have h2 : cF (x.val * x.val) = cF N := by rw [cF_mul, cF_self, hx, hN]
  have h3 := cF_eq.1 h2
  rw [h3, Nat.mod_eq_of_lt hlt, ← h] at h1
  cases h1
theorem root_some_E {l : List UInt8} {u : Fin FP} {N : Nat} (hN : cF N = u) (h : (l, true) = rootOf N) : cW l * cW l = u ∧ ln l % 2 = 0 ∧ ln l < FP := by
  obtain ⟨h1, h2⟩ := root_yes h
  refine ⟨?_, h2, ?_⟩
  · rw [cW, ← cF_mul, ← hN, cF_eq]; exact h1
  · rw [← root_wo h]; exact cW_lt _
theorem raw_some_E {l : List UInt8} {u : Fin FP} {N : Nat} (hN : cF N = u) (h : (l, true) = rawOf N) : cW l * cW l = u ∧ ln l < FP := by
  unfold rawOf rawX at h
  split at h
  · rename_i h1
    have h2 : l = wo (N ^ E8) := congrArg Prod.fst h
    rw [h2, cW_wo, ← cF_mul, ← hN, cF_eq]
    exact ⟨h1, cW_lt _⟩
  · split at h
    · rename_i h1
      have h2 : l = wo (N ^ E8 * TRN) := congrArg Prod.fst h
      rw [h2, cW_wo, ← cF_mul, ← hN, cF_eq]
      exact ⟨h1, cW_lt _⟩
    · have h3 : true = false := congrArg Prod.snd h
      cases h3
theorem raw_mod (N : Nat) : rawOf (N % FP) = rawOf N := by
  have h0 : (N % FP) ^ E8 % FP = N ^ E8 % FP := (Nat.pow_mod _ _ _).symm
  unfold rawOf rawX
  rw [sq_of h0, Nat.mod_mod, wo_of h0, sq_of (mul_of (t := TRN) h0), wo_of (mul_of (t := TRN) h0)]
theorem raw_none_E {l : List UInt8} {u : Fin FP} {N : Nat} (hN : cF N = u) (h : (l, false) = rawOf N) : ∀ x : Fin FP, x * x ≠ u := by
  rw [← raw_mod] at h
  refine root_none_E (N := N % FP) (l := z32) ?_ (Nat.mod_lt _ (by decide)) (raw_no h).2
  rw [← hN, cF_eq, Nat.mod_mod]
end Go.Proofs.YtehkalbiomagjaaDoor
