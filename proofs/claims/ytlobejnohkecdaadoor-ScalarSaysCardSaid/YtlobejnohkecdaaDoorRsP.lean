/-
  Contract of the document's own product: all 64 bytes of two numbers of 32. Conditions: words of 32 bytes.
-/
import Derived.Test.YtlobejnohkecdaaDoorRsS
import Derived.Test.YtlobejnohkecdaaDoorRng
import Derived.Test.YtlobejnohkecdaaDoorOctDD
namespace Go.Proofs.YtlobejnohkecdaaDoor
open Go.RowKit

theorem less_is (a b : Nat) : (a + (FL - b % FL)) % FL = (a + b * (FL - 1)) % FL := by
  rw [fl_eq]
  omega
/-- A row of products added. -/
structure Pin (x i : Nat) (b : List UInt8) (V : Nat) (T : List Nat) (k : Nat) : Prop where
  len : T.length = 65
  lo : ∀ j, natAt T j < 65536
  fresh : ∀ j, i + k ≤ j → natAt T j < 256
  val : lvN T = V + x * 256 ^ i * ln (b.take k)
theorem byte_prod (x y : Nat) (hx : x < 256) (hy : y < 256) : x * y ≤ 65025 := Nat.mul_le_mul (show x ≤ 255 by omega) (show y ≤ 255 by omega)
theorem Pin.step {x i V k : Nat} {b : List UInt8} {T : List Nat} (h : Pin x i b V T k) (hb : b.length = 32) (hx : x < 256) (hi : i < 32) (hk : k < 32) : Pin x i b V (T.set (i + k) (natAt T (i + k) + x * nb b k)) (k + 1) := by
  have h1 := byte_prod x (nb b k) hx (nb_lt b k)
  have h2 := h.fresh (i + k) (Nat.le_refl _)
  refine ⟨by rw [List.length_set]; exact h.len, fun j => ?_, fun j hj => ?_, ?_⟩
  · rw [natAt_set _ _ _ _ (by rw [h.len]; omega)]
    split
    · omega
    · exact h.lo j
  · rw [natAt_set _ _ _ _ (by rw [h.len]; omega), if_neg (by omega)]; exact h.fresh j (by omega)
  · have h3 := lvN_set T (i + k) (natAt T (i + k) + x * nb b k) (by rw [h.len]; omega)
    rw [ln_take b k (by omega)]
    have h4 := h.val
    rw [Nat.pow_add] at h3
    generalize lvN (T.set (i + k) (natAt T (i + k) + x * nb b k)) = s at *
    generalize lvN T = t at *
    generalize natAt T (i + k) = c at *
    generalize ln (b.take k) = y at *
    generalize nb b k = d at *
    generalize 256 ^ i = P at *
    generalize 256 ^ k = R at *
    clear h1 h2
    grind
/-- What is carried on. -/
structure Pcr (V : Nat) (T : List Nat) (k : Nat) : Prop where
  len : T.length = 65
  low : ∀ j, j < k → natAt T j < 256
  mid : natAt T k < 65800
  hi : ∀ j, k < j → natAt T j < 65536
  val : lvN T = V
theorem Pcr.step {V k : Nat} {T : List Nat} (h : Pcr V T k) (hk : k < 64) : Pcr V ((T.set (k + 1) (natAt T (k + 1) + natAt T k / 256)).set k (natAt T k % 256)) (k + 1) := by
  have hm := h.mid
  have hh := h.hi (k + 1) (by omega)
  have hl := h.len
  have ha : ∀ j, natAt ((T.set (k + 1) (natAt T (k + 1) + natAt T k / 256)).set k (natAt T k % 256)) j = if j = k then natAt T k % 256 else if j = k + 1 then natAt T (k + 1) + natAt T k / 256 else natAt T j := by
    intro j
    rw [natAt_set _ _ _ _ (by rw [List.length_set]; omega), natAt_set _ _ _ _ (by omega)]
  refine ⟨by rw [List.length_set, List.length_set]; exact hl, fun j hj => ?_, ?_, fun j hj => ?_, ?_⟩
  · rw [ha]
    split
    · omega
    · rw [if_neg (by omega)]; exact h.low j (by omega)
  · rw [ha, if_neg (by omega), if_pos rfl]; omega
  · rw [ha, if_neg (by omega), if_neg (by omega)]; exact h.hi j (by omega)
  · have h1 := lvN_set T (k + 1) (natAt T (k + 1) + natAt T k / 256) (by omega)
    have h2 := lvN_set (T.set (k + 1) (natAt T (k + 1) + natAt T k / 256)) k (natAt T k % 256) (by rw [List.length_set]; omega)
    rw [natAt_set _ _ _ _ (by omega), if_neg (by omega)] at h2
    have h3 := h.val
    generalize lvN ((T.set (k + 1) (natAt T (k + 1) + natAt T k / 256)).set k (natAt T k % 256)) = s at *
    generalize lvN (T.set (k + 1) (natAt T (k + 1) + natAt T k / 256)) = t at *
    generalize lvN T = u at *
    generalize natAt T (k + 1) = c at *
    generalize natAt T k = d at *
    rw [Nat.pow_succ] at h1
    generalize 256 ^ k = P at *
    obtain ⟨q, hq⟩ : ∃ q, q = d / 256 := ⟨_, rfl⟩
    obtain ⟨r, hr⟩ : ∃ r, r = d % 256 := ⟨_, rfl⟩
    rw [← hq] at h1
    rw [← hr] at h2
    have e : d = r + 256 * q := by omega
    have e2 : d * P = (r + 256 * q) * P := by rw [e]
    clear hq hr e hm hh ha hl
    grind
/-- What the rows keep. -/
structure Pout (a b : List UInt8) (T : List Nat) (i : Nat) : Prop where
  len : T.length = 65
  all : ∀ j, natAt T j < 256
  val : lvN T = ln (a.take i) * ln b
theorem Pout.start {a b : List UInt8} {T : List Nat} {i : Nat} (h : Pout a b T i) : Pin (nb a i) i b (ln (a.take i) * ln b) T 0 :=
  ⟨h.len, fun j => Nat.lt_trans (h.all j) (by decide), fun j _ => h.all j, by rw [h.val]; simp [ln]⟩
theorem Pin.done {a b : List UInt8} {T : List Nat} {i : Nat} (h : Pin (nb a i) i b (ln (a.take i) * ln b) T 32) (ha : a.length = 32) (hb : b.length = 32) (hi : i < 32) : Pcr (ln (a.take (i + 1)) * ln b) T 0 := by
  refine ⟨h.len, fun j hj => by omega, Nat.lt_trans (h.lo 0) (by decide), fun j _ => h.lo j, ?_⟩
  rw [h.val, show b.take 32 = b from List.take_of_length_le (by omega), ln_take a i (by omega), Nat.add_mul]
theorem Pcr.done {a b : List UInt8} {T : List Nat} {i : Nat} (h : Pcr (ln (a.take (i + 1)) * ln b) T 64) (ha : a.length = 32) (hb : b.length = 32) (hi : i < 32) : Pout a b T (i + 1) ∧ natAt T 64 = 0 := by
  have h1 := lvN_take T 64 (by rw [h.len]; decide)
  rw [List.take_of_length_le (by rw [h.len]; decide)] at h1
  have h2 := ln_lt (i + 1) (a.take (i + 1)) (by simp; omega)
  have h3 := ln_lt 32 b hb
  have h4 : ln (a.take (i + 1)) * ln b < 256 ^ 64 := by
    have h5 : (256 : Nat) ^ (i + 1) ≤ 256 ^ 32 := Nat.pow_le_pow_right (by decide) (by omega)
    have h6 : ln (a.take (i + 1)) * ln b ≤ (256 ^ 32 - 1) * (256 ^ 32 - 1) := Nat.mul_le_mul (by omega) (by omega)
    exact Nat.lt_of_le_of_lt h6 (by decide)
  have h0 : natAt T 64 = 0 := by
    rw [h.val] at h1
    generalize natAt T 64 = c at *
    rcases Nat.eq_zero_or_pos c with h7 | h7
    · exact h7
    · exfalso
      have : 1 * 256 ^ 64 ≤ c * 256 ^ 64 := Nat.mul_le_mul_right _ h7
      omega
  refine ⟨⟨h.len, fun j => ?_, h.val⟩, h0⟩
  by_cases hj : j < 64
  · exact h.low j hj
  · by_cases hj2 : j = 64
    · rw [hj2, h0]; decide
    · simp only [natAt, List.getD_eq_getElem?_getD, List.getElem?_eq_none (show T.length ≤ j by rw [h.len]; omega)]; decide
theorem natAt_zeros (n j : Nat) : natAt (List.replicate n 0) j = 0 := by
  simp only [natAt, List.getD_eq_getElem?_getD, List.getElem?_replicate]
  split <;> rfl
theorem lvN_zeros (n : Nat) : lvN (List.replicate n 0) = 0 := by
  induction n with
  | zero => rfl
  | succ n ih => rw [List.replicate_succ, lvN, ih]
theorem Pout.first (a b : List UInt8) : Pout a b (List.replicate 65 0) 0 :=
  ⟨by simp, fun j => by rw [natAt_zeros]; decide, by rw [lvN_zeros]; simp [ln]⟩
/-- The bytes of small numbers. -/
def tob (T : List Nat) (k : Nat) : List UInt8 := (T.take k).map UInt8.ofNat
theorem tob_len (T : List Nat) (k : Nat) (h : k ≤ T.length) : (tob T k).length = k := by simp [tob]; omega
theorem tob_succ (T : List Nat) (k : Nat) (h : k < T.length) : tob T (k + 1) = tob T k ++ [UInt8.ofNat (natAt T k)] := by
  rw [tob, List.take_succ_eq_append_getElem h, List.map_append]
  simp [tob, natAt, h]
theorem ln_tob (T : List Nat) (h : ∀ j, natAt T j < 256) : ∀ k, k ≤ T.length → ln (tob T k) = lvN (T.take k)
  | 0, _ => by simp [tob, ln, lvN]
  | k + 1, hk => by
    have hs : ∀ (l : List UInt8) (b : UInt8), ln (l ++ [b]) = ln l + b.toNat * 256 ^ l.length := by
      intro l b
      induction l with
      | nil => simp [ln]
      | cons a r ih => simp only [List.cons_append, ln, ih, List.length_cons, Nat.pow_succ]; grind
    rw [tob_succ T k (by omega), hs, ln_tob T h k (by omega), tob_len T k (by omega), lvN_take T k (by omega), UInt8.toNat_ofNat', show (2 : Nat) ^ 8 = 256 by decide, Nat.mod_eq_of_lt (h k)]
theorem prod_bytes {a b : List UInt8} {T : List Nat} (h : Pout a b T 32) (h0 : natAt T 64 = 0) (ha : a.length = 32) : ln (tob T 64) = ln a * ln b := by
  have h1 := lvN_take T 64 (by rw [h.len]; decide)
  rw [List.take_of_length_le (by rw [h.len]; decide), h0, Nat.zero_mul, Nat.add_zero] at h1
  rw [ln_tob T h.all 64 (by rw [h.len]; decide), ← h1, h.val, List.take_of_length_le (by omega)]
/-- Small numbers as the cells of a row. -/
def i64n (l : List Nat) : List Value := l.map fun (x : Nat) => Value.int .i64 (x : Int)
theorem i64n_len (l : List Nat) : (i64n l).length = l.length := by simp [i64n]
theorem i64n_set (l : List Nat) (k x : Nat) : (i64n l).set k (.int .i64 (x : Int)) = i64n (l.set k x) := by simp [i64n, List.map_set]
theorem i64n_one (l : List Nat) : ∀ u ∈ i64n l, u.oneCell' = true := by
  intro u hu
  obtain ⟨b, _, rfl⟩ := List.mem_map.1 hu
  rfl
theorem small_at {w : World} {g : Nat} {l : List Nat} {t : TypeId} (hg : w.heap[g]? = some (.cells (i64n l).toArray t (0, 0))) (k : Nat) (hk : k < l.length) : w.cell? ⟨g, k, none⟩ = some (.int .i64 ((natAt l k : Nat) : Int)) := by
  rw [cell_of_row _ _ _ _ _ _ hg]
  simp [i64n, natAt, List.getElem?_eq_getElem hk]
theorem zero_65 (w : World) : (zeroValue 56).run Tryd.prog w = .ok (.agg (i64n (List.replicate 65 0)).toArray) w := by kernel_rfl
theorem tob_put (T : List Nat) (k : Nat) (h : k < 64) (hT : T.length = 65) : (uptoB 64 (tob T k)).set k (UInt8.ofNat (natAt T k)) = uptoB 64 (tob T (k + 1)) := by
  have hl := tob_len T k (by omega)
  obtain ⟨m, hm⟩ : ∃ m, 64 - (tob T k).length = m + 1 := ⟨63 - k, by omega⟩
  have e : uptoB 64 (tob T (k + 1)) = tob T k ++ (UInt8.ofNat (natAt T k) :: List.replicate m 0) := by
    rw [uptoB, tob_succ T k (by omega), List.append_assoc, List.length_append, List.length_singleton]
    congr 2
    rw [show 64 - ((tob T k).length + 1) = m by omega]; rfl
  have e2 : (uptoB 64 (tob T k)).set (tob T k).length (UInt8.ofNat (natAt T k)) = tob T k ++ (UInt8.ofNat (natAt T k) :: List.replicate m 0) := by
    rw [uptoB, List.set_append_right _ _ (Nat.le_refl _), Nat.sub_self, hm, List.replicate_succ, List.set_cons_zero]
  rw [hl] at e2
  rw [e2, e]
theorem low_255 (n : Int) : bits .and .i64 n 255 = n % 256 := by
  have h127 : (BitVec.ofInt 64 255).toNat = 2 ^ 8 - 1 := by decide
  have key : (BitVec.ofInt 64 n &&& BitVec.ofInt 64 255).toNat = (n % ((2 ^ 64 : Nat) : Int)).toNat % 2 ^ 8 := by
    rw [BitVec.toNat_and, BitVec.toNat_ofInt, h127, Nat.and_two_pow_sub_one_eq_mod]
  show IntKind.i64.wrap ((BitVec.ofInt 64 n &&& BitVec.ofInt 64 255).toNat : Nat) = n % 256
  rw [key, IntKind.wrap_i64]
  omega

set_option maxRecDepth 100000 in
set_option maxHeartbeats 2000000 in
theorem rproduct_any (w : World) (a b : List UInt8) (ha : a.length = 32) (hb : b.length = 32) :
    Calls Tryd.prog 29 #[.agg (bv a).toArray, .agg (bv b).toArray] w fun e w' => ∃ A' c' l, e = .returned (.slice A' 64 c') ∧ Byt w' w'.heap.size A' l ∧ Hid (l.length = 64) ∧ Vlt (ln l = ln a * ln b) ∧ Below w.heap.size w w' := by
  obtain ⟨i0, hi, hz0, hz1, hz2⟩ := info_parts Tryd.infoByte
  have hmk := fun W0 => make_bytes (P := Tryd.prog) Tryd.underlying31 hi hz0 hz1 hz2 64 64 64 64 rfl rfl (by decide) (by decide) W0
  have hz65 := zero_65
  obtain ⟨z, hz, hzl⟩ : ∃ z : List Nat, z = List.replicate 65 0 ∧ Hid (z.length = 65) := ⟨_, rfl, rfl⟩
  rw [← hz] at hz65
  have hP0 := vlt (show Pout a b z 0 by rw [hz]; exact Pout.first a b)
  obtain ⟨W, hW, hgA, hgB, hbW, hsW⟩ := pair_new w (bv a).toArray (bv b).toArray 24 24
  have HW := Lib.hid hW
  have HA := Lib.hid ha
  have HB := Lib.hid hb
  have hs1 : w.heap.size + 1 < W.heap.size := by have := hsW.out; omega
  clear hW ha hb hsW hz hi hz0 hz1 hz2
  go_enter Tryd.func29, Tryd.ntmps29
  go_upto_region 1 with fail
  rw [HW.out]
  go_upto_region 2 with fail
  obtain ⟨V, hV, hgT, hbV, hsV⟩ := one_new W (i64n z).toArray 56
  rw [hV]
  obtain ⟨T, hT⟩ : ∃ T, T = W.heap.size := ⟨_, rfl⟩
  rw [← hT] at hgT hs1 hbV ⊢
  have hgA1 : Hid (V.heap[w.heap.size]? = some (.cells (bv a).toArray 24 (0, 0))) := (hbV.block _ (by omega)).trans hgA.out
  have hgB1 : Hid (V.heap[w.heap.size + 1]? = some (.cells (bv b).toArray 24 (0, 0))) := (hbV.block _ (by omega)).trans hgB.out
  have hbw1 := below_next hbW hbW.size (by rw [hT] at hbV; exact hbV)
  have hsT : T < V.heap.size := (Array.getElem?_eq_some_iff.1 hgT.out).1
  clear hV hbV hgA hgB hbW hsV hT HW
  go_wp2_with fail
  go_loopw [6] (fun s wr => ∃ (i : Nat) (U : List Nat), i ≤ 32 ∧ s = .int .i64 (i : Int) ∧ Hid (wr.heap[T]? = some (.cells (i64n U).toArray 56 (0, 0))) ∧ Vlt (Pout a b U i ∧ (0 < i → natAt U 64 = 0)) ∧ But T V wr) (fun s _ => 32 - (intOf s).toNat)
  case atStart => exact ⟨0, z, by omega, rfl, hgT, vlt ⟨hP0.out, fun h => absurd h (by decide)⟩, But.refl _ _⟩
  case round =>
    clear hgT hP0
    obtain ⟨i, U, hi, rfl, hg, hO, hbt⟩ := hrel
    by_cases hlt : i < 32
    · have hin := vlt hO.out.1.start
      have lx := nb_lt a i
      obtain ⟨x, hx⟩ : ∃ x, x = nb a i := ⟨_, rfl⟩
      have HX := vlt hx
      rw [← hx] at lx
      clear hx
      go_upto_region 6 with fail
      obtain ⟨Y0, hY0⟩ : ∃ Y0, Y0 = wr := ⟨_, rfl⟩
      subst hY0
      generalize decide ((i : Int) < 32) = b1
      go_loopw [7] (fun s wi => ∃ (k : Nat) (U1 : List Nat), k ≤ 32 ∧ s = .int .i64 (k : Int) ∧ Hid (wi.heap[T]? = some (.cells (i64n U1).toArray 56 (0, 0))) ∧ Vlt (Pin (nb a i) i b (ln (a.take i) * ln b) U1 k) ∧ But T V wi) (fun s _ => 32 - (intOf s).toNat)
      case atStart => exact ⟨0, U, by omega, rfl, hg, hin, hbt⟩
      case round =>
        clear hg hO hbt hin
        obtain ⟨k, U1, hk, rfl, hg, hI, hbt⟩ := hrel
        by_cases hkt : k < 32
        · have hga : wr.heap[w.heap.size]? = some (.cells (bv a).toArray 24 (0, 0)) := (hbt.block _ (by omega) (by intro e; injection e; omega)).trans hgA1.out
          have hgb : wr.heap[w.heap.size + 1]? = some (.cells (bv b).toArray 24 (0, 0)) := (hbt.block _ (by omega) (by intro e; injection e; omega)).trans hgB1.out
          have c0 := nb_cell hga (show i < a.length by rw [HA.out]; exact hlt)
          rw [← HX.out] at c0
          have c1 := nb_cell hgb (show k < b.length by rw [HB.out]; exact hkt)
          have c2 := small_at hg.out (i + k) (by rw [hI.out.len]; omega)
          have ly := nb_lt b k
          have lz := hI.out.fresh (i + k) (Nat.le_refl _)
          have hst := vlt (hI.out.step HB.out (by rw [← HX.out]; exact lx) hlt hkt)
          have f0 : wr.frozen? ⟨T, i + k, none⟩ = false := frozen_of_row _ _ _ _ _ hg.out
          have hlen := Lib.hid hI.out.len
          rw [← HX.out] at hst
          obtain ⟨y, hy⟩ : ∃ y, y = nb b k := ⟨_, rfl⟩
          obtain ⟨u, hu⟩ : ∃ u, u = natAt U1 (i + k) := ⟨_, rfl⟩
          rw [← hy] at ly c1 hst
          rw [← hu] at lz c2 hst
          have hpl := byte_prod x y lx ly
          have hpe : (x : Int) * (y : Int) = ((x * y : Nat) : Int) := (Int.natCast_mul x y).symm
          obtain ⟨p, hp⟩ : ∃ p, p = x * y := ⟨_, rfl⟩
          rw [← hp] at hpl hpe hst
          have hw1 : IntKind.i64.wrap ((x : Int) * (y : Int)) = (p : Int) := by rw [hpe]; exact IntWalk.i64_in _ (by omega)
          have hw2 : IntKind.i64.wrap ((u : Int) + (p : Int)) = ((u + p : Nat) : Int) := by rw [← Int.natCast_add]; exact IntWalk.i64_in _ (by omega)
          have hik : IntKind.i64.wrap ((i : Int) + (k : Int)) = (i : Int) + (k : Int) := IntWalk.i64_in _ (by omega)
          have hset := world_set_cell hg.out (i + k) (.int .i64 ((u + p : Nat) : Int))
          rw [i64n_set] at hset
          have hb2 := hbt.set (i := i + k) (.int .i64 ((u + p : Nat) : Int))
          generalize u + p = v at *
          clear hI hga hgb hy hu hp hpe
          go_wp2_with fail
          go_region
          go_wp2
          go_roundw
          case rel => exact ⟨k + 1, _, by omega, by go_num, hset, (by rw [← HX.out]; exact hst), hb2.drew⟩
          case measure => simp [intOf]; omega
        · obtain rfl : k = 32 := by omega
          have hC0 := vlt (hI.out.done HA.out HB.out hlt)
          clear hI
          go_upto_region 10 with fail
          obtain ⟨Y1, hY1⟩ : ∃ Y1, Y1 = wr := ⟨_, rfl⟩
          subst hY1
          go_loopw [8] (fun s wi => ∃ (k : Nat) (U1 : List Nat), k ≤ 64 ∧ s = .int .i64 (k : Int) ∧ Hid (wi.heap[T]? = some (.cells (i64n U1).toArray 56 (0, 0))) ∧ Vlt (Pcr (ln (a.take (i + 1)) * ln b) U1 k) ∧ But T V wi) (fun s _ => 64 - (intOf s).toNat)
          case atStart => exact ⟨0, U1, by omega, rfl, hg, hC0, hbt⟩
          case round =>
            clear hg hbt hC0
            obtain ⟨k, U1, hk, rfl, hg, hC, hbt⟩ := hrel
            by_cases hkt : k < 64
            · have hlen := Lib.hid hC.out.len
              have c0 := small_at hg.out k (by rw [hlen.out]; omega)
              have c1 := small_at hg.out (k + 1) (by rw [hlen.out]; omega)
              have lm := hC.out.mid
              have lh := hC.out.hi (k + 1) (by omega)
              have hst := vlt (hC.out.step hkt)
              have f0 : wr.frozen? ⟨T, k + 1, none⟩ = false := frozen_of_row _ _ _ _ _ hg.out
              have hself : natAt (U1.set (k + 1) (natAt U1 (k + 1) + natAt U1 k / 256)) k = natAt U1 k := by rw [natAt_set _ _ _ _ (by rw [hlen.out]; omega), if_neg (by omega)]
              have hset1 := world_set_cell hg.out (k + 1) (.int .i64 ((natAt U1 (k + 1) + natAt U1 k / 256 : Nat) : Int))
              rw [i64n_set] at hset1
              have c2 := small_at hset1.out k (by rw [List.length_set, hlen.out]; omega)
              rw [hself] at c2
              have f1 : (wr.setCell ⟨T, k + 1, none⟩ (.int .i64 ((natAt U1 (k + 1) + natAt U1 k / 256 : Nat) : Int))).frozen? ⟨T, k, none⟩ = false := frozen_of_row _ _ _ _ _ hset1.out
              have hset := world_set_cell hset1.out k (.int .i64 ((natAt U1 k % 256 : Nat) : Int))
              rw [i64n_set] at hset
              have hb2 := (hbt.set (i := k + 1) (.int .i64 ((natAt U1 (k + 1) + natAt U1 k / 256 : Nat) : Int))).set (i := k) (.int .i64 ((natAt U1 k % 256 : Nat) : Int))
              clear hset1 hself hC
              generalize natAt U1 (k + 1) = y at *
              generalize natAt U1 k = x at *
              have hk1 : IntKind.i64.wrap ((k : Int) + 1) = (k : Int) + 1 := IntWalk.i64_in _ (by omega)
              have ed : (x : Int) / 256 = ((x / 256 : Nat) : Int) := by omega
              have hw2 : IntKind.i64.wrap ((y : Int) + ((x / 256 : Nat) : Int)) = ((y + x / 256 : Nat) : Int) := by rw [← Int.natCast_add]; exact IntWalk.i64_in _ (by omega)
              have em : (x : Int) % 256 = ((x % 256 : Nat) : Int) := by omega
              have el := low_255 (x : Int)
              rw [em] at el
              clear em
              generalize y + x / 256 = v at *
              generalize x / 256 = d at *
              generalize x % 256 = r at *
              go_wp2_with fail
              go_region
              go_wp2
              go_roundw
              case rel => exact ⟨k + 1, _, by omega, by go_num, hset, hst, hb2.drew⟩
              case measure => simp [intOf]; omega
            · obtain rfl : k = 64 := by omega
              have hd := vlt (hC.out.done HA.out HB.out hlt)
              clear hC
              go_wp2
              go_roundw
              case rel => exact ⟨i + 1, U1, by omega, by go_num, hg, vlt ⟨hd.out.1, fun _ => hd.out.2⟩, hbt⟩
              case measure => simp [intOf]; omega
    · obtain rfl : i = 32 := by omega
      have hres := vlt (prod_bytes hO.out.1 (hO.out.2 (by decide)) HA.out)
      have hall := vlt hO.out.1.all
      have hlen := Lib.hid hO.out.1.len
      have hbw : Below w.heap.size w wr := But.below hbw1 hbt (by omega) (by omega)
      have hsr : T < wr.heap.size := (Array.getElem?_eq_some_iff.1 hg.out).1
      obtain ⟨w1, hrun, hg1, hb1, hs2⟩ := hmk wr
      clear hO hmk
      have hbw2 := below_next hbw hbw.size hb1.out
      have hgT := Lib.hid ((hb1.out.block _ hsr).trans hg.out)
      go_upto_region 16 with fail
      obtain ⟨X, hX⟩ : ∃ X, X = wr.heap.size := ⟨_, rfl⟩
      rw [← hX] at hg1 hsr ⊢
      have hXw : w.heap.size ≤ X := by rw [hX]; exact hbw.size
      clear hX hrun hb1 hs2 hg hbt hbw
      have hsX : X < w1.heap.size := (Array.getElem?_eq_some_iff.1 hg1.out).1
      go_loopw [10] (fun s wi => ∃ k : Nat, k ≤ 64 ∧ s = .int .i64 (k : Int) ∧ Hid (wi.heap[X]? = some (.cells (bv (uptoB 64 (tob U k))).toArray 5 (0, 0))) ∧ But X w1 wi) (fun s _ => 64 - (intOf s).toNat)
      case atStart => exact ⟨0, by omega, rfl, hg1, But.refl _ _⟩
      case round =>
        clear hg1
        obtain ⟨k, hk, rfl, hg, hbt⟩ := hrel
        by_cases hkt : k < 64
        · have hgt : Hid (wr.heap[T]? = some (.cells (i64n U).toArray 56 (0, 0))) := (hbt.block _ (by omega) (by intro e; injection e; omega)).trans hgT.out
          have c0 := small_at hgt.out k (by rw [hlen.out]; omega)
          have lx := hall.out k
          have f0 : wr.frozen? ⟨X, k, none⟩ = false := frozen_of_row _ _ _ _ _ hg.out
          obtain ⟨u0, hu0⟩ : ∃ u, wr.cell? ⟨X, k, none⟩ = some u := by
            rw [cell_of_row _ _ _ _ _ _ hg.out]
            exact ⟨_, List.getElem?_toArray .. ▸ List.getElem?_eq_getElem (by rw [bv_len, uptoB_len _ _ (by rw [tob_len _ _ (by rw [hlen.out]; omega)]; exact hk)]; exact hkt)⟩
          have hset := world_set_cell hg.out k (.int .u8 ((natAt U k : Nat) : Int))
          rw [bv_put _ _ _ lx, tob_put U k hkt hlen.out] at hset
          have hb2 := hbt.set (i := k) (.int .u8 ((natAt U k : Nat) : Int))
          generalize natAt U k = x at *
          clear hgt
          go_wp2
          go_roundw
          case rel => exact ⟨k + 1, by omega, by go_num, hset, hb2⟩
          case measure => simp [intOf]; omega
        · obtain rfl : k = 64 := by omega
          have hl64 := Lib.hid (tob_len U 64 (by rw [hlen.out]; decide))
          rw [uptoB_all _ _ hl64.out] at hg
          obtain ⟨l, hl⟩ : ∃ l, l = tob U 64 := ⟨_, rfl⟩
          rw [← hl] at hg hres hl64
          have hby := byt_row hg.out
          have hbf : Below w.heap.size w wr := But.below hbw2 hbt (by omega) (by omega)
          clear hl hbt hg
          go_wp2
          go_ret
          exact ⟨_, _, l, rfl, hby, hl64, hres, hbf⟩
end Go.Proofs.YtlobejnohkecdaaDoor
