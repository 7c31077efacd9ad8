/-
  Numbers in sixteen pieces of 16 bits, carried: words that the contracts of the document's own answers use. No statement is proved here. Conditions: none.
-/
import Derived.Test.YtpnodegmegpooaaDoorFdV
namespace Go.Proofs.YtpnodegmegpooaaDoor
open Go.RowKit

/-- A number in pieces of 16 bits, the lowest first. -/
def fvs : List Int → Int
  | [] => 0
  | x :: r => x + 65536 * fvs r
theorem fvs_app (l m : List Int) : fvs (l ++ m) = fvs l + 65536 ^ l.length * fvs m := by
  induction l with
  | nil => simp [fvs]
  | cons x r ih =>
    simp only [List.cons_append, fvs, ih, List.length_cons, Int.pow_succ]
    grind
def iat (l : List Int) (k : Nat) : Int := l.getD k 0
theorem iat_at {l : List Int} {k : Nat} (h : k < l.length) : l[k]? = some (iat l k) := by simp [iat, List.getElem?_eq_getElem h]
theorem iat_split {l : List Int} {k : Nat} (h : k < l.length) : l = l.take k ++ iat l k :: l.drop (k + 1) := by
  have h1 : l.drop k = iat l k :: l.drop (k + 1) := by rw [List.drop_eq_getElem_cons h]; simp [iat, List.getElem?_eq_getElem h]
  rw [← h1, List.take_append_drop]
theorem fvs_set (l : List Int) (k : Nat) (x : Int) (h : k < l.length) : fvs (l.set k x) = fvs l + (x - iat l k) * 65536 ^ k := by
  have h1 := iat_split h
  have h2 : l.set k x = l.take k ++ x :: l.drop (k + 1) := by rw [List.set_eq_take_append_cons_drop, if_pos h]
  have h3 : fvs l = fvs (l.take k ++ iat l k :: l.drop (k + 1)) := by rw [← h1]
  rw [h2, h3, fvs_app, fvs_app, fvs, fvs, List.length_take, Nat.min_eq_left (by omega)]
  grind
theorem take_iat {l : List Int} {k : Nat} (h : k < l.length) : l.take (k + 1) = l.take k ++ [iat l k] := by
  rw [List.take_succ_eq_append_getElem h]; simp [iat, List.getElem?_eq_getElem h]
theorem fvs_take (l : List Int) (k : Nat) (h : k < l.length) : fvs (l.take (k + 1)) = fvs (l.take k) + iat l k * 65536 ^ k := by
  rw [take_iat h, fvs_app, List.length_take, Nat.min_eq_left (by omega)]
  simp only [fvs]
  grind
theorem fvs_zeros (n : Nat) : fvs (List.replicate n 0) = 0 := by
  induction n with
  | zero => rfl
  | succ n ih => rw [List.replicate_succ, fvs, ih]; rfl
/-- Carried: what the pieces are, and what is over. -/
def carL (c : Int) : List Int → List Int × Int
  | [] => ([], c)
  | x :: r => ((x + c - (x + c) / 65536 * 65536) :: (carL ((x + c) / 65536) r).1, (carL ((x + c) / 65536) r).2)
theorem carL_len (l : List Int) : ∀ c, (carL c l).1.length = l.length := by
  induction l with
  | nil => intro c; rfl
  | cons x r ih => intro c; simp [carL, ih]
theorem carL_val (l : List Int) : ∀ c, fvs (carL c l).1 + 65536 ^ l.length * (carL c l).2 = fvs l + c := by
  induction l with
  | nil => intro c; simp [carL, fvs]
  | cons x r ih =>
    intro c
    have h := ih ((x + c) / 65536)
    simp only [carL, fvs, List.length_cons, Int.pow_succ]
    grind
theorem carL_snoc (l : List Int) (x : Int) : ∀ c, carL c (l ++ [x]) = ((carL c l).1 ++ [x + (carL c l).2 - (x + (carL c l).2) / 65536 * 65536], (x + (carL c l).2) / 65536) := by
  induction l with
  | nil => intro c; simp [carL]
  | cons y r ih => intro c; simp [carL, ih]
theorem carL_bits (l : List Int) : ∀ c, ∀ x ∈ (carL c l).1, 0 ≤ x ∧ x ≤ 65535 := by
  induction l with
  | nil => intro c x hx; simp [carL] at hx
  | cons y r ih =>
    intro c x hx
    simp only [carL, List.mem_cons] at hx
    rcases hx with rfl | hx
    · omega
    · exact ih _ x hx
/-- What is over stays small where the pieces are. -/
theorem carL_over (l : List Int) (B C : Int) (hBC : B + C ≤ 65536 * C) (hl : ∀ x ∈ l, -B ≤ x ∧ x ≤ B) : ∀ c, -C ≤ c → c ≤ C → -C ≤ (carL c l).2 ∧ (carL c l).2 ≤ C := by
  induction l with
  | nil => intro c h1 h2; exact ⟨h1, h2⟩
  | cons x r ih =>
    intro c h1 h2
    have hx := hl x (by simp)
    exact ih (fun y hy => hl y (by simp [hy])) _ (by omega) (by omega)
/-- With pieces of 16 bits what is over is one at most. -/
theorem carL_small (l : List Int) (hl : ∀ x ∈ l, 0 ≤ x ∧ x ≤ 65535) : ∀ c, -1 ≤ c → c ≤ 1 → -1 ≤ (carL c l).2 ∧ (carL c l).2 ≤ 1 := by
  induction l with
  | nil => intro c h1 h2; exact ⟨h1, h2⟩
  | cons x r ih =>
    intro c h1 h2
    have hx := hl x (by simp)
    exact ih (fun y hy => hl y (by simp [hy])) _ (by omega) (by omega)
/-- The document's carried. -/
def carI (l : List Int) : List Int := (carL 0 l).1.set 0 (iat (carL 0 l).1 0 + 38 * (carL 0 l).2)
theorem carI_len (l : List Int) : (carI l).length = l.length := by rw [carI, List.length_set, carL_len]
theorem carI_val (l : List Int) (h : l.length = 16) : fvs (carI l) = fvs l - 2 * (FP : Int) * (carL 0 l).2 := by
  have h1 := carL_val l 0
  rw [carI, fvs_set _ _ _ (by rw [carL_len, h]; decide)]
  rw [h] at h1
  have hp : (65536 : Int) ^ 16 = 2 * (FP : Int) + 38 := by decide
  rw [hp] at h1
  grind
theorem fvs_bits (l : List Int) (hl : ∀ x ∈ l, 0 ≤ x ∧ x ≤ 65535) : 0 ≤ fvs l ∧ fvs l ≤ 65536 ^ l.length - 1 := by
  induction l with
  | nil => simp [fvs]
  | cons x r ih =>
    have h1 := ih fun y hy => hl y (by simp [hy])
    have h2 := hl x (by simp)
    simp only [fvs, List.length_cons, Int.pow_succ]
    omega
/-- Pieces of 16 bits each; nearly so. -/
def Can (l : List Int) : Prop := l.length = 16 ∧ ∀ x ∈ l, 0 ≤ x ∧ x ≤ 65535
def Near (l : List Int) : Prop := ∃ x r, l = x :: r ∧ r.length = 15 ∧ (∀ y ∈ r, 0 ≤ y ∧ y ≤ 65535) ∧ -38 ≤ x ∧ x ≤ 65573
theorem Can.near {l : List Int} (h : Can l) : Near l := by
  match l, h with
  | x :: r, h => exact ⟨x, r, rfl, by have := h.1; simp at this; exact this, fun y hy => h.2 y (by simp [hy]), by have := h.2 x (by simp); omega, by have := h.2 x (by simp); omega⟩
theorem Near.len {l : List Int} (h : Near l) : l.length = 16 := by obtain ⟨x, r, rfl, h1, _⟩ := h; simp [h1]
theorem near_mem {l : List Int} (h : Near l) : ∀ x ∈ l, -38 ≤ x ∧ x ≤ 65573 := by
  obtain ⟨x, r, rfl, _, hb, h1, h2⟩ := h
  intro y hy
  rcases List.mem_cons.1 hy with rfl | hy
  · exact ⟨h1, h2⟩
  · have := hb y hy; omega
theorem carI_cons (x : Int) (r : List Int) : carI (x :: r) = (x - x / 65536 * 65536 + 38 * (carL (x / 65536) r).2) :: (carL (x / 65536) r).1 := by
  simp [carI, carL, iat]
theorem second_near (y : Int) (r : List Int) (hr : r.length = 15) (hb : ∀ z ∈ r, 0 ≤ z ∧ z ≤ 65535) (h1 : -1099511627776 ≤ y) (h2 : y ≤ 1099511627776) : Near (carI (y :: r)) := by
  rw [carI_cons]
  match r, hr with
  | a :: b :: s, hr =>
    have ha := hb a (by simp)
    have hbb := hb b (by simp)
    have hs := carL_small s (fun z hz => hb z (by simp [hz])) ((b + (a + y / 65536) / 65536) / 65536) (by omega) (by omega)
    have ho : (carL (y / 65536) (a :: b :: s)).2 = (carL ((b + (a + y / 65536) / 65536) / 65536) s).2 := by simp [carL]
    refine ⟨_, _, rfl, by rw [carL_len]; exact hr, carL_bits _ _, ?_, ?_⟩
    · rw [ho]; omega
    · rw [ho]; omega
theorem carI_first (l : List Int) (hl : l.length = 16) (hb : ∀ x ∈ l, -140737488355328 ≤ x ∧ x ≤ 140737488355328) : ∃ y r, carI l = y :: r ∧ r.length = 15 ∧ (∀ z ∈ r, 0 ≤ z ∧ z ≤ 65535) ∧ -1099511627776 ≤ y ∧ y ≤ 1099511627776 := by
  match l, hl with
  | x :: r, hl =>
    have hx := hb x (by simp)
    have ho := carL_over r 140737488355328 4294967296 (by decide) (fun y hy => hb y (by simp [hy])) (x / 65536) (by omega) (by omega)
    rw [carI_cons]
    exact ⟨_, _, rfl, by rw [carL_len]; simpa using hl, carL_bits _ _, by omega, by omega⟩
/-- Carried twice. -/
theorem carI_twice (l : List Int) (hl : l.length = 16) (hb : ∀ x ∈ l, -140737488355328 ≤ x ∧ x ≤ 140737488355328) : Near (carI (carI l)) ∧ fvs (carI (carI l)) % (FP : Int) = fvs l % (FP : Int) ∧ (∀ x ∈ carI l, -1099511627776 ≤ x ∧ x ≤ 1099511627776) := by
  obtain ⟨y, r, he, hr, hbr, h1, h2⟩ := carI_first l hl hb
  refine ⟨by rw [he]; exact second_near y r hr hbr h1 h2, ?_, ?_⟩
  · rw [carI_val (carI l) (by rw [carI_len, hl]), carI_val l hl]
    generalize (carL 0 (carI l)).2 = a
    generalize (carL 0 l).2 = b
    rw [show fvs l - 2 * (FP : Int) * b - 2 * (FP : Int) * a = fvs l + (FP : Int) * (-(2 * b) - 2 * a) by grind, Int.add_mul_emod_self_left]
  · intro x hx
    rw [he] at hx
    rcases List.mem_cons.1 hx with rfl | hx
    · exact ⟨h1, h2⟩
    · have := hbr x hx; omega
theorem carL_can (l : List Int) (hl : ∀ x ∈ l, 0 ≤ x ∧ x ≤ 65535) : carL 0 l = (l, 0) := by
  induction l with
  | nil => rfl
  | cons x r ih =>
    have hx := hl x (by simp)
    have h0 : (x + 0) / 65536 = 0 := by omega
    rw [carL, h0, ih fun y hy => hl y (by simp [hy])]
    simp
theorem Can.car {l : List Int} (h : Can l) : carI l = l := by
  have h1 := carL_can l h.2
  rw [carI, h1]
  match l, h.1 with
  | x :: r, _ => simp [iat]
theorem Near.car {l : List Int} (h : Near l) : Can (carI l) ∧ fvs (carI l) % (FP : Int) = fvs l % (FP : Int) := by
  have hl := h.len
  have hv := carI_val l hl
  have hmod : fvs (carI l) % (FP : Int) = fvs l % (FP : Int) := by
    rw [hv, show fvs l - 2 * (FP : Int) * (carL 0 l).2 = fvs l + (FP : Int) * (-(2 * (carL 0 l).2)) by grind, Int.add_mul_emod_self_left]
  refine ⟨⟨by rw [carI_len, hl], ?_⟩, hmod⟩
  obtain ⟨x, r, rfl, hr, hb, h1, h2⟩ := h
  have hval := carL_val (x :: r) 0
  have ho := carL_small r hb (x / 65536) (by omega) (by omega)
  have hbits := carL_bits r (x / 65536)
  have hfr := fvs_bits r hb
  have hfd := fvs_bits _ hbits
  rw [carL_len, hr] at hfd
  rw [hr] at hfr
  simp only [carL, fvs, List.length_cons, hr, Int.add_zero] at hval
  rw [carI_cons]
  intro y hy
  rcases List.mem_cons.1 hy with rfl | hy
  · obtain ⟨o, hoe⟩ : ∃ o, o = (carL (x / 65536) r).2 := ⟨_, rfl⟩
    rw [← hoe] at ho hval ⊢
    have h16 : (65536 : Int) ^ (15 + 1) = 65536 * 65536 ^ 15 := by decide
    have hp15 : (0 : Int) < 65536 ^ 15 := by decide
    rw [h16] at hval
    generalize (65536 : Int) ^ 15 = Q at *
    generalize fvs (carL (x / 65536) r).1 = D at *
    generalize fvs r = E at *
    have o3 : o = -1 ∨ o = 0 ∨ o = 1 := by omega
    rcases o3 with rfl | rfl | rfl
    · omega
    · omega
    · omega
  · exact hbits y hy
/-- The pieces on the way, ahead of step i. -/
def mC (l : List Int) (i : Nat) : List Int := if i < 16 then (carL 0 (l.take i)).1 ++ (iat l i + (carL 0 (l.take i)).2) :: l.drop (i + 1) else carI l
def vC (l : List Int) (i : Nat) : Int := iat l i + (carL 0 (l.take i)).2
theorem mC_zero (l : List Int) (hl : l.length = 16) : mC l 0 = l := by
  match l, hl with
  | x :: r, _ => simp [mC, carL, iat]
theorem mC_len (l : List Int) (hl : l.length = 16) (i : Nat) : (mC l i).length = 16 := by
  unfold mC
  split
  · rw [List.length_append, carL_len, List.length_cons, List.length_take, List.length_drop]; omega
  · rw [carI_len, hl]
theorem set_mid (A R : List Int) (v x : Int) (i : Nat) (h : A.length = i) : (A ++ v :: R).set i x = A ++ x :: R := by
  rw [List.set_append_right _ _ (by omega), h, Nat.sub_self, List.set_cons_zero]
theorem iat_mid (A R : List Int) (v : Int) (i : Nat) (h : A.length = i) : iat (A ++ v :: R) i = v := by
  rw [iat, List.getD_eq_getElem?_getD, List.getElem?_append_right (by omega), h, Nat.sub_self]; rfl
theorem car_take_len (l : List Int) (hl : l.length = 16) (i : Nat) (hi : i ≤ 16) : (carL 0 (l.take i)).1.length = i := by rw [carL_len, List.length_take]; omega
theorem mC_at (l : List Int) (hl : l.length = 16) (i : Nat) (hi : i < 16) : iat (mC l i) i = vC l i := by
  rw [mC, if_pos hi, iat_mid _ _ _ _ (car_take_len l hl i (by omega)), vC]
theorem mC_next (l : List Int) (hl : l.length = 16) (i : Nat) (hi : i < 15) (x : Int) : iat ((mC l i).set i x) (i + 1) = iat l (i + 1) ∧ ((mC l i).set i (vC l i - vC l i / 65536 * 65536)).set (i + 1) (iat l (i + 1) + vC l i / 65536) = mC l (i + 1) := by
  have hA := car_take_len l hl i (by omega)
  have hd : l.drop (i + 1) = iat l (i + 1) :: l.drop (i + 1 + 1) := by rw [List.drop_eq_getElem_cons (by omega)]; simp [iat, List.getElem?_eq_getElem (show i + 1 < l.length by omega)]
  have hs := carL_snoc (l.take i) (iat l i) 0
  rw [← take_iat (by omega)] at hs
  constructor
  · rw [mC, if_pos (by omega), set_mid _ _ _ _ _ hA, hd]
    have : (carL 0 (l.take i)).1 ++ x :: iat l (i + 1) :: l.drop (i + 1 + 1) = ((carL 0 (l.take i)).1 ++ [x]) ++ iat l (i + 1) :: l.drop (i + 1 + 1) := by simp
    rw [this, iat_mid _ _ _ _ (by rw [List.length_append, hA]; rfl)]
  · rw [mC, if_pos (by omega), set_mid _ _ _ _ _ hA, hd]
    have : ∀ y z, (carL 0 (l.take i)).1 ++ y :: z :: l.drop (i + 1 + 1) = ((carL 0 (l.take i)).1 ++ [y]) ++ z :: l.drop (i + 1 + 1) := by intro y z; simp
    rw [this, set_mid _ _ _ _ _ (by rw [List.length_append, hA]; rfl), mC, if_pos (by omega), hs, vC]
theorem mC_last (l : List Int) (hl : l.length = 16) (x : Int) : iat ((mC l 15).set 15 x) 0 = iat (carL 0 l).1 0 ∧ ((mC l 15).set 15 (vC l 15 - vC l 15 / 65536 * 65536)).set 0 (iat (carL 0 l).1 0 + 38 * (vC l 15 / 65536)) = mC l 16 := by
  have hA := car_take_len l hl 15 (by omega)
  have hd : l.drop 16 = [] := List.drop_eq_nil_of_le (by omega)
  have hs := carL_snoc (l.take 15) (iat l 15) 0
  rw [← take_iat (by omega), List.take_of_length_le (by omega)] at hs
  have hc : carI l = (carL 0 l).1.set 0 (iat (carL 0 l).1 0 + 38 * (carL 0 l).2) := rfl
  constructor
  · rw [mC, if_pos (by omega), set_mid _ _ _ _ _ hA, hd, hs]
    match (carL 0 (l.take 15)).1, hA with
    | y :: r, _ => simp [iat]
  · rw [mC, if_pos (by omega), set_mid _ _ _ _ _ hA, hd]
    rw [mC, if_neg (by omega), hc, hs, vC]
theorem vC_small (l : List Int) (hl : l.length = 16) (hb : ∀ x ∈ l, -140737488355328 ≤ x ∧ x ≤ 140737488355328) (i : Nat) (hi : i < 16) : -281474976710656 ≤ vC l i ∧ vC l i ≤ 281474976710656 := by
  have h1 := carL_over (l.take i) 140737488355328 4294967296 (by decide) (fun y hy => hb y (List.mem_of_mem_take hy)) 0 (by decide) (by decide)
  have h2 : iat l i ∈ l := by
    rw [iat, List.getD_eq_getElem?_getD, List.getElem?_eq_getElem (by omega)]
    exact List.getElem_mem _
  have h3 := hb _ h2
  unfold vC
  omega
theorem mem_iat {l : List Int} {P : Int → Prop} (h : ∀ x ∈ l, P x) {k : Nat} (hk : k < l.length) : P (iat l k) := by
  rw [iat, List.getD_eq_getElem?_getD, List.getElem?_eq_getElem hk]
  exact h _ (List.getElem_mem _)
theorem near_iat {l : List Int} (h : Near l) (k : Nat) (hk : k < 16) : -38 ≤ iat l k ∧ iat l k ≤ 65573 := mem_iat (P := fun x => -38 ≤ x ∧ x ≤ 65573) (near_mem h) (by rw [h.len]; exact hk)
theorem iat_set_other (l : List Int) (k j : Nat) (x : Int) (h : k ≠ j) : iat (l.set k x) j = iat l j := by
  rw [iat, iat, List.getD_eq_getElem?_getD, List.getD_eq_getElem?_getD, List.getElem?_set_ne h]
theorem mem_set {l : List Int} {P : Int → Prop} (h : ∀ x ∈ l, P x) {k : Nat} {y : Int} (hy : P y) : ∀ x ∈ l.set k y, P x := by
  intro x hx
  rcases List.mem_or_eq_of_mem_set hx with h1 | h1
  · exact h x h1
  · rw [h1]; exact hy
theorem iat_zeros (n k : Nat) : iat (List.replicate n 0) k = 0 := by
  rw [iat, List.getD_eq_getElem?_getD, List.getElem?_replicate]
  split <;> rfl
/-- One round of a loop that fills pieces: the value, what stays, the bounds. -/
structure Fill (o : List Int) (N : Int) (i : Nat) (rest : Nat → Int) (B : Int → Prop) : Prop where
  len : o.length = 16
  val : fvs o = N
  rest : ∀ j, i ≤ j → j < 16 → iat o j = rest j
  bnd : ∀ x ∈ o, B x
theorem Fill.step {o : List Int} {N : Int} {i : Nat} {rest : Nat → Int} {B : Int → Prop} (h : Fill o N i rest B) (hi : i < 16) (x : Int) (hx : B x) : Fill (o.set i x) (N + (x - rest i) * 65536 ^ i) (i + 1) rest B :=
  ⟨by rw [List.length_set, h.len], by rw [fvs_set _ _ _ (by rw [h.len]; exact hi), h.val, h.rest i (Nat.le_refl _) hi], fun j h1 h2 => by rw [iat_set_other _ _ _ _ (by omega)]; exact h.rest j (by omega) h2, mem_set h.bnd hx⟩
theorem fvs_all (l : List Int) (h : l.length = 16) : fvs (l.take 16) = fvs l := by rw [List.take_of_length_le (by omega)]
/-- Pieces as the cells of a row. -/
def i64v (l : List Int) : List Value := l.map fun x => Value.int .i64 x
theorem i64v_len (l : List Int) : (i64v l).length = l.length := by simp [i64v]
theorem i64v_at (l : List Int) (k : Nat) : (i64v l)[k]? = l[k]?.map fun x => Value.int .i64 x := by simp [i64v]
theorem i64v_set (l : List Int) (k : Nat) (x : Int) : (i64v l).set k (.int .i64 x) = i64v (l.set k x) := by simp [i64v, List.map_set]
theorem i64v_one (l : List Int) : ∀ u ∈ i64v l, u.oneCell' = true := by
  intro u hu
  obtain ⟨b, _, rfl⟩ := List.mem_map.1 hu
  rfl
theorem i64v_size (l : List Int) (h : l.length = 16) : (i64v l).toArray.size = 16 := by simp [i64v_len, h]
theorem int_at {w : World} {g : Nat} {l : List Int} {t : TypeId} (hg : w.heap[g]? = some (.cells (i64v l).toArray t (0, 0))) (k : Nat) (hk : k < l.length) : w.cell? ⟨g, k, none⟩ = some (.int .i64 (iat l k)) := by
  rw [cell_of_row _ _ _ _ _ _ hg]
  simp [i64v_at, iat, List.getElem?_eq_getElem hk]
theorem iat_set_same (l : List Int) (k : Nat) (x : Int) (h : k < l.length) : iat (l.set k x) k = x := by simp [iat, List.getD_eq_getElem?_getD, h]
end Go.Proofs.YtpnodegmegpooaaDoor
