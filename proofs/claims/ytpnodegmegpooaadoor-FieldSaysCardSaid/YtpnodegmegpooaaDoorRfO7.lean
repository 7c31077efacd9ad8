/-
  Contract of the document's own Out: the number modulo the prime, its 32 bytes. Conditions: pieces nearly of 16 bits.
-/
import Derived.Test.YtpnodegmegpooaaDoorRfP7
import Derived.IntWalk
import Derived.Laws.BitsLemmas
namespace Go.Proofs.YtpnodegmegpooaaDoor
open Go.RowKit

/-- The prime's pieces; what is less them. -/
def PL : List Int := [65517, 65535, 65535, 65535, 65535, 65535, 65535, 65535, 65535, 65535, 65535, 65535, 65535, 65535, 65535, 32767]
def dif : List Int → List Int → List Int
  | x :: r, y :: s => (x - y) :: dif r s
  | _, _ => []
theorem dif_len : ∀ (a b : List Int), a.length = b.length → (dif a b).length = a.length
  | [], [], _ => rfl
  | x :: r, y :: s, h => by rw [dif, List.length_cons, List.length_cons, dif_len r s (by simpa using h)]
theorem dif_val : ∀ (a b : List Int), a.length = b.length → fvs (dif a b) = fvs a - fvs b
  | [], [], _ => by simp [dif, fvs]
  | x :: r, y :: s, h => by rw [dif, fvs, fvs, fvs, dif_val r s (by simpa using h)]; grind
theorem dif_at : ∀ (a b : List Int) (k : Nat), k < a.length → k < b.length → iat (dif a b) k = iat a k - iat b k
  | x :: r, y :: s, 0, _, _ => by simp [dif, iat]
  | x :: r, y :: s, k + 1, h1, h2 => by
    have := dif_at r s k (by simpa using h1) (by simpa using h2)
    simpa [dif, iat] using this
theorem pl_val : fvs PL = (FP : Int) := by decide
theorem pl_at (k : Nat) (h1 : 1 ≤ k) (h2 : k < 15) : iat PL k = 65535 := by
  match k, h1, h2 with
  | 1, _, _ | 2, _, _ | 3, _, _ | 4, _, _ | 5, _, _ | 6, _, _ | 7, _, _ | 8, _, _ | 9, _, _ | 10, _, _ | 11, _, _ | 12, _, _ | 13, _, _ | 14, _, _ => rfl
/-- The pieces of the one less the prime on the way. -/
def vS (D : List Int) (j : Nat) : Int := iat D j + (carL 0 (D.take j)).2
def mS (D : List Int) (j : Nat) : List Int := (carL 0 (D.take j)).1 ++ vS D j :: List.replicate (15 - j) 0
theorem mS_len (D : List Int) (hD : D.length = 16) (j : Nat) (hj : j < 16) : (mS D j).length = 16 := by
  rw [mS, List.length_append, carL_len, List.length_cons, List.length_take, List.length_replicate]; omega
theorem mS_at (D : List Int) (hD : D.length = 16) (j : Nat) (hj : j < 16) : iat (mS D j) j = vS D j := by
  rw [mS, iat_mid _ _ _ _ (car_take_len D hD j (by omega))]
theorem mS_next (D : List Int) (hD : D.length = 16) (j : Nat) (hj : j < 15) : ((mS D j).set (j + 1) (iat D (j + 1) + vS D j / 65536)).set j (vS D j - vS D j / 65536 * 65536) = mS D (j + 1) := by
  have hA := car_take_len D hD j (by omega)
  have hs := carL_snoc (D.take j) (iat D j) 0
  rw [← take_iat (by omega)] at hs
  have hr : List.replicate (15 - j) (0 : Int) = 0 :: List.replicate (15 - (j + 1)) 0 := by rw [show 15 - j = (15 - (j + 1)) + 1 by omega, List.replicate_succ]
  have ha : ∀ y z, (carL 0 (D.take j)).1 ++ y :: z :: List.replicate (15 - (j + 1)) 0 = ((carL 0 (D.take j)).1 ++ [y]) ++ z :: List.replicate (15 - (j + 1)) 0 := by intro y z; simp
  rw [mS, hr, ha, set_mid _ _ _ _ _ (by rw [List.length_append, hA]; rfl), ← ha, set_mid _ _ _ _ _ hA, ha, mS, hs, vS, vS, hs]
theorem vS_small (D : List Int) (hD : D.length = 16) (hb : ∀ x ∈ D, -65535 ≤ x ∧ x ≤ 65535) (j : Nat) (hj : j < 16) : -65536 ≤ vS D j ∧ vS D j ≤ 65535 := by
  have h : ∀ (l : List Int), (∀ x ∈ l, -65535 ≤ x ∧ x ≤ 65535) → ∀ c, -1 ≤ c → c ≤ 0 → -1 ≤ (carL c l).2 ∧ (carL c l).2 ≤ 0 := by
    intro l
    induction l with
    | nil => intro _ c h1 h2; exact ⟨h1, h2⟩
    | cons x r ih =>
      intro hl c h1 h2
      have hx := hl x (by simp)
      exact ih (fun y hy => hl y (by simp [hy])) _ (by omega) (by omega)
  have h1 := h (D.take j) (fun y hy => hb y (List.mem_of_mem_take hy)) 0 (by decide) (by decide)
  have h2 := mem_iat (P := fun x => -65535 ≤ x ∧ x ≤ 65535) hb (k := j) (by omega)
  unfold vS
  omega
theorem mS_end (D : List Int) (hD : D.length = 16) : fvs (mS D 15) = fvs D ∧ (vS D 15 < 0 → fvs D < 0) ∧ (0 ≤ vS D 15 → vS D 15 ≤ 65535 → Can (mS D 15)) := by
  have hv := carL_val (D.take 15) 0
  have hbits := carL_bits (D.take 15) 0
  have hA := car_take_len D hD 15 (by omega)
  have ht := fvs_take D 15 (by omega)
  rw [fvs_all D hD] at ht
  have hfb := fvs_bits _ hbits
  rw [hA] at hfb
  rw [List.length_take, hD, Nat.min_eq_left (by decide)] at hv
  have hval : fvs (mS D 15) = fvs (carL 0 (D.take 15)).1 + 65536 ^ 15 * vS D 15 := by
    rw [mS, fvs_app, hA]
    simp [fvs]
  have hvs : vS D 15 = iat D 15 + (carL 0 (D.take 15)).2 := rfl
  have h1 : fvs (mS D 15) = fvs D := by rw [hval, hvs, ht]; grind
  refine ⟨h1, fun h => ?_, fun h h2 => ⟨mS_len D hD 15 (by decide), fun x hx => ?_⟩⟩
  · rw [← h1, hval]
    have hp : (0 : Int) < 65536 ^ 15 := by decide
    generalize (65536 : Int) ^ 15 = Q at *
    have h3 : Q * vS D 15 ≤ Q * (-1) := Int.mul_le_mul_of_nonneg_left (by omega) (by omega)
    omega
  · rw [mS] at hx
    rcases List.mem_append.1 hx with h3 | h3
    · exact hbits x h3
    · simp at h3
      rw [h3]; exact ⟨h, h2⟩
theorem i64_low16 (n : Int) : bits .and .i64 n 65535 = n % 65536 := by
  have h127 : (BitVec.ofInt 64 65535).toNat = 2 ^ 16 - 1 := by decide
  have key : (BitVec.ofInt 64 n &&& BitVec.ofInt 64 65535).toNat = (n % ((2 ^ 64 : Nat) : Int)).toNat % 2 ^ 16 := by
    rw [BitVec.toNat_and, BitVec.toNat_ofInt, h127, Nat.and_two_pow_sub_one_eq_mod]
  show IntKind.i64.wrap ((BitVec.ofInt 64 n &&& BitVec.ofInt 64 65535).toNat : Nat) = n % 65536
  rw [key, IntKind.wrap_i64]
  omega
theorem i64_low1 (n : Int) : bits .and .i64 n 1 = n % 2 := by
  have h127 : (BitVec.ofInt 64 1).toNat = 2 ^ 1 - 1 := by decide
  have key : (BitVec.ofInt 64 n &&& BitVec.ofInt 64 1).toNat = (n % ((2 ^ 64 : Nat) : Int)).toNat % 2 ^ 1 := by
    rw [BitVec.toNat_and, BitVec.toNat_ofInt, h127, Nat.and_two_pow_sub_one_eq_mod]
  show IntKind.i64.wrap ((BitVec.ofInt 64 n &&& BitVec.ofInt 64 1).toNat : Nat) = n % 2
  rw [key, IntKind.wrap_i64]
  omega
theorem But.other {g q : Nat} {a b c : World} (h : But g a b) (k : But q b c) (hq : a.heap.size ≤ q) : But g a c :=
  ⟨k.os.trans h.os, k.tape.trans h.tape, k.output.trans h.output, Nat.le_trans h.size k.size, fun i hi hn => (k.block i (Nat.lt_of_lt_of_le hi h.size) (fun e => by injection e; omega)).trans (h.block i hi hn)⟩
theorem fin_val {V R : Int} {n N : Nat} (h0 : 0 ≤ V) (h1 : V < (FP : Int)) (h3 : V = R - (n : Int) * (FP : Int)) (hc : R % (FP : Int) = (N : Int) % (FP : Int)) : ((ln (wo N) : Nat) : Int) = V := by
  have h4 : V % (FP : Int) = (N : Int) % (FP : Int) := by
    rw [← hc, h3, show R - (n : Int) * (FP : Int) = R + (FP : Int) * (-(n : Int)) by grind, Int.add_mul_emod_self_left]
  rw [Int.emod_eq_of_lt h0 h1] at h4
  rw [ln_wo, h4, Int.natCast_emod]
theorem next_val (R : Int) (n : Nat) : R - (n : Int) * (FP : Int) - (FP : Int) = R - ((n + 1 : Nat) : Int) * (FP : Int) := by
  rw [Int.natCast_add]
  grind
/-- What the loop over the bytes has written. -/
structure Wr (u : List UInt8) (o : List Int) (i : Nat) : Prop where
  len : u.length = 32
  val : ((ln (u.take (2 * i)) : Nat) : Int) = fvs (o.take i)
theorem Wr.step {u : List UInt8} {o : List Int} {i : Nat} (h : Wr u o i) (ho : o.length = 16) (hi : i < 16) (c d : Nat) (lc : c < 256) (ld : d < 256) (he : iat o i = (c : Int) + (d : Int) * 256) :
    Wr ((u.set (2 * i) (UInt8.ofNat c)).set (2 * i + 1) (UInt8.ofNat d)) o (i + 1) := by
  refine ⟨by rw [List.length_set, List.length_set, h.len], ?_⟩
  have h1 := ln_pair ((u.set (2 * i) (UInt8.ofNat c)).set (2 * i + 1) (UInt8.ofNat d)) i c d
    (by rw [List.getElem?_set_ne (by omega), List.getElem?_set_self (by rw [h.len]; omega)])
    (by rw [List.getElem?_set_self (by rw [List.length_set, h.len]; omega)]) lc ld (by rw [List.length_set, List.length_set, h.len]; omega)
  rw [h1, List.take_set_of_le (by omega), List.take_set_of_le (by omega), h.val, fvs_take o i (by omega), he]
  grind
set_option maxRecDepth 100000 in
set_option maxHeartbeats 4000000 in
theorem rout_any (w : World) (l : List Int) (hn : Near l) (N : Nat) (hN : fvs l % (FP : Int) = (N : Int) % (FP : Int)) :
    Calls Tryd.prog 36 #[.agg (i64v l).toArray] w fun e w' => ∃ b, e = .returned (.agg (bv b).toArray) ∧ Vlt (b = wo N) ∧ Hid (b.length = 32) ∧ Below w.heap.size w w' := by
  have hzf := zero_fe
  have hzw := zero_word
  obtain ⟨W, hW, gA, gZ, hbW, hsW⟩ := pair_new w (i64v l).toArray (bv z32).toArray 41 24
  have HW := Lib.hid hW
  have NL := vlt hn
  have HNN := vlt hN
  have hs : w.heap.size + 1 < W.heap.size := by have := hsW.out; omega
  have hsl := Lib.hid (i64v_size l hn.len)
  clear hW hn hN hsW
  go_enter Tryd.func36, Tryd.ntmps36
  go_upto_region 1 with fail
  rw [HW.out]
  go_wp2_with (with_reducible refine wpList_load_row rfl 41 (.tmp 1) rfl w.heap.size rfl 41 (i64v l).toArray (0, 0) _ gA.out Tryd.underlying41 rfl (by rw [hsl.out]; kernel_rfl) ?_)
  refine (rcar_any W l NL.out.len (fun x hx => by have := near_mem NL.out x hx; omega)).mono ?_
  rintro e w1 ⟨r1, rfl, e1, hr1, hb1⟩
  have HC := vlt (show Can r1 ∧ fvs r1 % (FP : Int) = (N : Int) % (FP : Int) by rw [e1.out, NL.out.car.2]; exact ⟨NL.out.car.1, HNN.out⟩)
  go_wp2_with fail
  refine (rcar_any w1 r1 hr1.out (fun x hx => by have := HC.out.1.2 x hx; omega)).mono ?_
  rintro e w2 ⟨r2, rfl, e2, hr2, hb2⟩
  obtain rfl : r1 = r2 := by rw [e2.out, HC.out.1.car]
  go_wp2_with fail
  refine (rcar_any w2 r1 hr1.out (fun x hx => by have := HC.out.1.2 x hx; omega)).mono ?_
  rintro e w3 ⟨r3, rfl, e3, hr3, hb3⟩
  obtain rfl : r1 = r3 := by rw [e3.out, HC.out.1.car]
  clear e1 e2 e3
  have hbx := below_next (below_next hb1 hb1.size hb2) (below_next hb1 hb1.size hb2).size hb3
  have gA3 : Hid (w3.heap[w.heap.size]? = some (.cells (i64v l).toArray 41 (0, 0))) := (hbx.block _ (by omega)).trans gA.out
  have gZ3 : Hid (w3.heap[w.heap.size + 1]? = some (.cells (bv z32).toArray 24 (0, 0))) := (hbx.block _ (by omega)).trans gZ.out
  have hbw3 := below_next hbW hbW.size hbx
  have hs3 : w.heap.size + 1 < w3.heap.size := (Array.getElem?_eq_some_iff.1 gZ3.out).1
  have hsr := Lib.hid (i64v_size r1 hr1.out)
  go_upto_region 2 with (with_reducible refine wpList_store_row rfl 41 (.tmp 1) (.tmp 11) rfl w.heap.size (i64v r1).toArray rfl rfl 41 _ gA3.out (by rw [hsr.out]; kernel_rfl) (by rw [hsr.out, hsl.out]) (all_oneCell_toArray (i64v_one _)) ?_)
  obtain ⟨V, hV⟩ : ∃ V, V = w3.setRow w.heap.size (i64v r1).toArray := ⟨_, rfl⟩
  rw [← hV]
  have vA : Hid (V.heap[w.heap.size]? = some (.cells (i64v r1).toArray 41 (0, 0))) := by rw [hV]; exact setRow_heap _ _ _ _ _ _ gA3.out
  have vZ : Hid (V.heap[w.heap.size + 1]? = some (.cells (bv z32).toArray 24 (0, 0))) := by rw [hV]; exact (setRow_other _ _ _ _ (by omega)).trans gZ3.out
  have hbV : Below w.heap.size w V := by rw [hV]; exact below_setRow hbw3 (by omega) _
  have hsV : w.heap.size + 1 < V.heap.size := (Array.getElem?_eq_some_iff.1 vZ.out).1
  clear hV gA3 gZ3 hbw3 hbx hb1 hb2 hb3 gA gZ hbW hs3
  go_wp2_with fail
  go_loopw [3] (fun s wr => ∃ (n : Nat) (o : List Int), n ≤ 3 ∧ s = .int .i64 (n : Int) ∧ Hid (wr.heap[w.heap.size]? = some (.cells (i64v o).toArray 41 (0, 0))) ∧ Vlt (Can o ∧ fvs o = fvs r1 - (n : Int) * (FP : Int)) ∧ But w.heap.size V wr) (fun s _ => 3 - (intOf s).toNat)
  case atStart => exact ⟨0, r1, by omega, rfl, vA, vlt ⟨HC.out.1, by simp⟩, But.refl _ _⟩
  case round =>
    obtain ⟨n, o, hn3, rfl, hg, hO, hbt⟩ := hrel
    have hz : Hid (wr.heap[w.heap.size + 1]? = some (.cells (bv z32).toArray 24 (0, 0))) := (hbt.block _ (by omega) (by intro e; injection e; omega)).trans vZ.out
    have hsw : w.heap.size + 1 < wr.heap.size := (Array.getElem?_eq_some_iff.1 hz.out).1
    by_cases hlt : n < 3
    · have HOL := Lib.hid hO.out.1.1
      have hso := Lib.hid (i64v_size o hO.out.1.1)
      have HDL := Lib.hid (show (dif o PL).length = 16 by rw [dif_len o PL (by rw [HOL.out]; rfl), HOL.out])
      have HDV := vlt (show fvs (dif o PL) = fvs o - (FP : Int) by rw [dif_val o PL (by rw [HOL.out]; rfl), pl_val])
      have HDB := vlt (show ∀ x ∈ dif o PL, -65535 ≤ x ∧ x ≤ 65535 by
        intro x hx
        obtain ⟨k, hk, rfl⟩ := List.mem_iff_getElem.1 hx
        rw [HDL.out] at hk
        have h1 := dif_at o PL k (by rw [HOL.out]; exact hk) (by exact hk)
        have h2 := mem_iat (P := fun x => 0 ≤ x ∧ x ≤ 65535) hO.out.1.2 (k := k) (by rw [HOL.out]; exact hk)
        have h3 := mem_iat (l := PL) (P := fun x => 0 ≤ x ∧ x ≤ 65535) (by decide) (k := k) (by exact hk)
        have h4 : iat (dif o PL) k = (dif o PL)[k] := by rw [iat, List.getD_eq_getElem?_getD, List.getElem?_eq_getElem (by rw [HDL.out]; exact hk)]; rfl
        rw [← h4, h1]
        omega)
      have c0 := int_at hg.out 0 (by rw [HOL.out]; decide)
      have l0 := mem_iat (P := fun x => 0 ≤ x ∧ x ≤ 65535) hO.out.1.2 (k := 0) (by rw [HOL.out]; decide)
      go_upto_region 6 with ((with_reducible refine wpList_store_row rfl 41 (.tmp 4) (.tmp 16) rfl wr.heap.size (i64v z16).toArray rfl rfl 41 _ (heap_alloc_new _ _) (by kernel_rfl) (by kernel_rfl) (all_oneCell_toArray (i64v_one _)) ?_); rw [World.setRow_alloc_new])
      obtain ⟨U, hU⟩ : ∃ U, U = wr.alloc (.cells (i64v z16).toArray 41) := ⟨_, rfl⟩
      rw [← hU]
      have uO : Hid (U.heap[w.heap.size]? = some (.cells (i64v o).toArray 41 (0, 0))) := by rw [hU]; exact (Below.heap_alloc _ _ _ (by omega)).trans hg.out
      have uM : Hid (U.heap[wr.heap.size]? = some (.cells (i64v z16).toArray 41 (0, 0))) := by rw [hU]; exact heap_alloc_new _ _
      have hbU : But w.heap.size V U := by rw [hU]; exact hbt.alloc _
      obtain ⟨Q, hQ⟩ : ∃ Q, Q = wr.heap.size := ⟨_, rfl⟩
      rw [← hQ] at uM hsw ⊢
      have hQV : V.heap.size ≤ Q := by rw [hQ]; exact hbt.size
      clear hU hQ hz c0
      have hsU : Q < U.heap.size := (Array.getElem?_eq_some_iff.1 uM.out).1
      have c0 := int_at uO.out 0 (by rw [HOL.out]; decide)
      have cm0 := int_at uM.out 0 (by decide)
      have fm0 : U.frozen? ⟨Q, 0, none⟩ = false := frozen_of_row _ _ _ _ _ uM.out
      have hsm := world_set_cell uM.out 0 (.int .i64 (iat o 0 - 65517))
      rw [i64v_set, show z16.set 0 (iat o 0 - 65517) = mS (dif o PL) 0 by
        rw [mS, vS, dif_at o PL 0 (by rw [HOL.out]; decide) (by decide)]
        simp [carL, z16, List.replicate, iat, PL]] at hsm
      have hbm := (But.refl Q U).set (i := 0) (.int .i64 (iat o 0 - 65517))
      generalize iat o 0 = o0 at *
      generalize iat z16 0 = zz at *
      go_upto_region 7 with fail
      generalize U.setCell ⟨Q, 0, none⟩ (.int .i64 (o0 - 65517)) = U1 at *
      go_upto_region 8 with fail
      clear c0 cm0 fm0 l0
      obtain ⟨D, hD⟩ : ∃ D, D = dif o PL := ⟨_, rfl⟩
      rw [← hD] at HDL HDV HDB hsm
      have HDE := vlt (fun k (hk : k < 16) => show iat D k = iat o k - iat PL k by rw [hD]; exact dif_at o PL k (by rw [HOL.out]; exact hk) (by exact hk))
      clear hD
      generalize decide ((n : Int) < 3) = b3
      obtain ⟨Y0, hY0⟩ : ∃ Y0, Y0 = wr := ⟨_, rfl⟩
      subst hY0
      go_loopw [5] (fun s wi => ∃ (j : Nat), j ≤ 14 ∧ s = .int .i64 ((j : Int) + 1) ∧ Hid (wi.heap[Q]? = some (.cells (i64v (mS D j)).toArray 41 (0, 0))) ∧ But Q U wi) (fun s _ => 16 - (intOf s).toNat)
      case atStart => exact ⟨0, by omega, rfl, hsm, hbm⟩
      case round =>
        obtain ⟨j, hj, rfl, hgm, hbi⟩ := hrel
        have hgo : Hid (wr.heap[w.heap.size]? = some (.cells (i64v o).toArray 41 (0, 0))) := (hbi.block _ (by omega) (by intro e; injection e; omega)).trans uO.out
        have hv := vS_small D HDL.out HDB.out j (by omega)
        have cv := int_at hgm.out j (by rw [mS_len D HDL.out j (by omega)]; omega)
        rw [mS_at D HDL.out j (by omega)] at cv
        have hnext := vlt (fun (h : j < 15) => mS_next D HDL.out j h)
        have hrow := Lib.hid (mS_len D HDL.out j (by omega))
        obtain ⟨v, hve⟩ : ∃ v, v = vS D j := ⟨_, rfl⟩
        rw [← hve] at hv cv hnext
        have h1 : bits .and .i64 (v / 65536) 1 = -(v / 65536) := by rw [i64_low1]; omega
        have h2 : bits .and .i64 v 65535 = v - v / 65536 * 65536 := by rw [i64_low16]; omega
        obtain ⟨M, hM⟩ : ∃ M, M = mS D j := ⟨_, rfl⟩
        rw [← hM] at hgm hrow hnext
        clear hM hve
        by_cases hlt2 : j < 14
        · have cx := int_at hgo.out (j + 1) (by rw [HOL.out]; omega)
          have lx := mem_iat (P := fun x => 0 ≤ x ∧ x ≤ 65535) hO.out.1.2 (k := j + 1) (by rw [HOL.out]; omega)
          have hde := HDE.out (j + 1) (by omega)
          rw [pl_at (j + 1) (by omega) (by omega)] at hde
          have cm := int_at hgm.out (j + 1) (by rw [hrow.out]; omega)
          have f0 : wr.frozen? ⟨Q, j + 1, none⟩ = false := frozen_of_row _ _ _ _ _ hgm.out
          have hs1 := world_set_cell hgm.out (j + 1) (.int .i64 (iat o (j + 1) - 65535 + v / 65536))
          rw [i64v_set] at hs1
          have hb1 := hbi.set (i := j + 1) (.int .i64 (iat o (j + 1) - 65535 + v / 65536))
          have cv1 : (wr.setCell ⟨Q, j + 1, none⟩ (.int .i64 (iat o (j + 1) - 65535 + v / 65536))).cell? ⟨Q, j, none⟩ = some (.int .i64 v) := by
            rw [cell_of_row _ _ _ _ _ _ hs1.out]
            have h5 := cv
            rw [cell_of_row _ _ _ _ _ _ hgm.out] at h5
            rw [← h5]
            simp [i64v_at]
          have f1 : (wr.setCell ⟨Q, j + 1, none⟩ (.int .i64 (iat o (j + 1) - 65535 + v / 65536))).frozen? ⟨Q, j, none⟩ = false := frozen_of_row _ _ _ _ _ hs1.out
          have hs2 := world_set_cell hs1.out j (.int .i64 (v - v / 65536 * 65536))
          rw [i64v_set, show iat o (j + 1) - 65535 + v / 65536 = iat D (j + 1) + v / 65536 by rw [hde], hnext.out (by omega), ← show iat o (j + 1) - 65535 + v / 65536 = iat D (j + 1) + v / 65536 by rw [hde]] at hs2
          have hb2 := hb1.set (i := j) (.int .i64 (v - v / 65536 * 65536))
          clear hde hs1 hb1 hnext
          generalize iat M (j + 1) = mz at *
          generalize iat o (j + 1) = x at *
          go_wp2_with fail
          go_region
          go_wp2
          go_roundw
          case rel => exact ⟨j + 1, by omega, by go_num, hs2, hb2.drew⟩
          case measure => simp [intOf]; omega
        · obtain rfl : j = 14 := by omega
          have cx := int_at hgo.out 15 (by rw [HOL.out]; decide)
          have lx := mem_iat (P := fun x => 0 ≤ x ∧ x ≤ 65535) hO.out.1.2 (k := 15) (by rw [HOL.out]; decide)
          have hde := HDE.out 15 (by decide)
          rw [show iat PL 15 = 32767 from rfl] at hde
          have cm := int_at hgm.out 15 (by rw [hrow.out]; decide)
          have f0 : wr.frozen? ⟨Q, 15, none⟩ = false := frozen_of_row _ _ _ _ _ hgm.out
          have hs1 := world_set_cell hgm.out 15 (.int .i64 (iat o 15 - 32767 + v / 65536))
          rw [i64v_set] at hs1
          have hb1 := hbi.set (i := 15) (.int .i64 (iat o 15 - 32767 + v / 65536))
          have cv1 : (wr.setCell ⟨Q, 15, none⟩ (.int .i64 (iat o 15 - 32767 + v / 65536))).cell? ⟨Q, 14, none⟩ = some (.int .i64 v) := by
            rw [cell_of_row _ _ _ _ _ _ hs1.out]
            have h5 := cv
            rw [cell_of_row _ _ _ _ _ _ hgm.out] at h5
            rw [← h5]
            simp [i64v_at]
          have f1 : (wr.setCell ⟨Q, 15, none⟩ (.int .i64 (iat o 15 - 32767 + v / 65536))).frozen? ⟨Q, 14, none⟩ = false := frozen_of_row _ _ _ _ _ hs1.out
          have hs2 := world_set_cell hs1.out 14 (.int .i64 (v - v / 65536 * 65536))
          have he15 : iat o 15 - 32767 + v / 65536 = iat D 15 + v / 65536 := by rw [hde]
          rw [i64v_set, he15, hnext.out (by omega), ← he15] at hs2
          have hb2 := hb1.set (i := 14) (.int .i64 (v - v / 65536 * 65536))
          have hx15 := vlt (show vS D 15 = iat o 15 - 32767 + v / 65536 by
            rw [he15]
            have h5 := mS_at D HDL.out 15 (by decide)
            have h6 := hnext.out (by omega)
            rw [← h5, ← h6, iat_set_other _ _ _ _ (by decide), iat_set_same _ _ _ (by rw [hrow.out]; decide)])
          have c15 : ((wr.setCell ⟨Q, 15, none⟩ (.int .i64 (iat o 15 - 32767 + v / 65536))).setCell ⟨Q, 14, none⟩ (.int .i64 (v - v / 65536 * 65536))).cell? ⟨Q, 15, none⟩ = some (.int .i64 (iat o 15 - 32767 + v / 65536)) := by
            have h5 := int_at hs2.out 15 (by rw [mS_len D HDL.out 15 (by decide)]; decide)
            rw [mS_at D HDL.out 15 (by decide), hx15.out] at h5
            exact h5
          have HEND := vlt (mS_end D HDL.out)
          clear hde he15 hs1 hb1 hnext
          generalize iat M 15 = mz at *
          generalize iat o 15 = x at *
          have lxb : -65536 ≤ x - 32767 + v / 65536 ∧ x - 32767 + v / 65536 ≤ 65535 := by omega
          go_upto_region 14 with fail
          generalize (wr.setCell ⟨Q, 15, none⟩ (.int .i64 (x - 32767 + v / 65536))).setCell ⟨Q, 14, none⟩ (.int .i64 (v - v / 65536 * 65536)) = w5 at *
          have hbw5 := hbU.other hb2 hQV
          have go5 : Hid (w5.heap[w.heap.size]? = some (.cells (i64v o).toArray 41 (0, 0))) := (hb2.block _ (by omega) (by intro e; injection e; omega)).trans uO.out
          generalize x - 32767 + v / 65536 = y at *
          clear cx cm cv f0 f1 cv1 h1 h2 hv hbi hgo hgm hb2
          by_cases hneg : y < 0
          · have HLT := vlt (show fvs o < (FP : Int) by
              have h5 := HEND.out.2.1 (by rw [hx15.out]; exact hneg)
              rw [HDV.out] at h5
              omega)
            have hz5 : Hid (w5.heap[w.heap.size + 1]? = some (.cells (bv z32).toArray 24 (0, 0))) := (hbw5.block _ (by omega) (by intro e; injection e; omega)).trans vZ.out
            have hbl5 : Below w.heap.size w w5 := But.below hbV hbw5 (by omega) (by omega)
            have HFIN := vlt (fin_val (fvs_bits o hO.out.1.2).1 HLT.out hO.out.2 HC.out.2)
            have HOC := vlt hO.out.1
            clear hO HEND hx15 HDV HDB HDE HLT hs2 hsm hbm hg hbt uO uM hbU hbw5
            have hs5 : w.heap.size + 1 < w5.heap.size := (Array.getElem?_eq_some_iff.1 hz5.out).1
            go_upto_region 17 with ((with_reducible refine wpList_store_row rfl 24 (.tmp 6) (.tmp 63) rfl w5.heap.size (bv z32).toArray rfl rfl 24 _ (heap_alloc_new _ _) (by kernel_rfl) (by kernel_rfl) (all_oneCell_toArray (bv_one _)) ?_); rw [World.setRow_alloc_new])
            obtain ⟨X, hX⟩ : ∃ X, X = w5.alloc (.cells (bv z32).toArray 24) := ⟨_, rfl⟩
            rw [← hX]
            have xO : Hid (X.heap[w.heap.size]? = some (.cells (i64v o).toArray 41 (0, 0))) := by rw [hX]; exact (Below.heap_alloc _ _ _ (by omega)).trans go5.out
            have xZ : Hid (X.heap[w.heap.size + 1]? = some (.cells (bv z32).toArray 24 (0, 0))) := by rw [hX]; exact (Below.heap_alloc _ _ _ (by omega)).trans hz5.out
            have xU : Hid (X.heap[w5.heap.size]? = some (.cells (bv z32).toArray 24 (0, 0))) := by rw [hX]; exact heap_alloc_new _ _
            have hbX : Below w.heap.size w X := by rw [hX]; exact hbl5.alloc hbl5.size _
            obtain ⟨P, hP⟩ : ∃ P, P = w5.heap.size := ⟨_, rfl⟩
            rw [← hP] at xU hs5 ⊢
            clear hX hP go5 hz5 hbl5
            have hsX : P < X.heap.size := (Array.getElem?_eq_some_iff.1 xU.out).1
            go_wp2_with fail
            go_loopw [7] (fun s wi => ∃ (i : Nat) (u : List UInt8), i ≤ 16 ∧ s = .int .i64 (i : Int) ∧ Hid (wi.heap[P]? = some (.cells (bv u).toArray 24 (0, 0))) ∧ Vlt (Wr u o i) ∧ But P X wi) (fun s _ => 16 - (intOf s).toNat)
            case atStart => exact ⟨0, z32, by omega, rfl, xU, vlt ⟨z32_len, by simp [ln, fvs]⟩, But.refl _ _⟩
            case round =>
              obtain ⟨i, u, hi, rfl, hgu, hW, hbi⟩ := hrel
              have hgo : Hid (wr.heap[w.heap.size]? = some (.cells (i64v o).toArray 41 (0, 0))) := (hbi.block _ (by omega) (by intro e; injection e; omega)).trans xO.out
              by_cases hl16 : i < 16
              · have c0 := int_at hgo.out i (by rw [HOL.out]; exact hl16)
                have lx := mem_iat (P := fun x => 0 ≤ x ∧ x ≤ 65535) HOC.out.2 (k := i) (by rw [HOL.out]; exact hl16)
                obtain ⟨x, hx⟩ : ∃ x, x = iat o i := ⟨_, rfl⟩
                rw [← hx] at c0 lx
                have hW2 := vlt (hW.out.step HOL.out hl16 (x % 256).toNat (x / 256).toNat (by omega) (by omega) (by rw [← hx]; omega))
                clear hx
                have f0 : wr.frozen? ⟨P, 2 * i, none⟩ = false := frozen_of_row _ _ _ _ _ hgu.out
                have f1 : wr.frozen? ⟨P, 2 * i + 1, none⟩ = false := frozen_of_row _ _ _ _ _ hgu.out
                obtain ⟨b0, hb0⟩ : ∃ v, wr.cell? ⟨P, 2 * i, none⟩ = some v := by
                  rw [cell_of_row _ _ _ _ _ _ hgu.out]
                  exact ⟨_, List.getElem?_toArray .. ▸ List.getElem?_eq_getElem (by rw [bv_len, hW.out.len]; omega)⟩
                obtain ⟨b1, hb1⟩ : ∃ v, wr.cell? ⟨P, 2 * i + 1, none⟩ = some v := by
                  rw [cell_of_row _ _ _ _ _ _ hgu.out]
                  exact ⟨_, List.getElem?_toArray .. ▸ List.getElem?_eq_getElem (by rw [bv_len, hW.out.len]; omega)⟩
                have hs1 := world_set_cell (world_set_cell hgu.out (2 * i) (.int .u8 (x % 256))).out (2 * i + 1) (.int .u8 (x / 256))
                have e0 : x % 256 = ((UInt8.ofNat (x % 256).toNat).toNat : Int) := by
                  rw [UInt8.toNat_ofNat', show (2 : Nat) ^ 8 = 256 by decide, Nat.mod_eq_of_lt (by omega)]; omega
                have e1 : x / 256 = ((UInt8.ofNat (x / 256).toNat).toNat : Int) := by
                  rw [UInt8.toNat_ofNat', show (2 : Nat) ^ 8 = 256 by decide, Nat.mod_eq_of_lt (by omega)]; omega
                rw [show (Value.int .u8 (x % 256)) = Value.int .u8 ((UInt8.ofNat (x % 256).toNat).toNat : Int) by rw [← e0], show (Value.int .u8 (x / 256)) = Value.int .u8 ((UInt8.ofNat (x / 256).toNat).toNat : Int) by rw [← e1], bv_set, bv_set, ← e0, ← e1] at hs1
                have hbn := (hbi.set (i := 2 * i) (.int .u8 (x % 256))).set (i := 2 * i + 1) (.int .u8 (x / 256))
                clear e0 e1
                go_wp2_with fail
                go_region
                go_wp2
                go_roundw
                case rel => exact ⟨i + 1, _, by omega, by go_num, hs1, hW2, hbn.drew⟩
                case measure => simp [intOf]; omega
              · obtain rfl : i = 16 := by omega
                have HU := vlt (show u = wo N by
                  refine ln_inj _ _ (by rw [hW.out.len, wo_len]) ?_
                  have h1 := hW.out.val
                  rw [List.take_of_length_le (by rw [hW.out.len]; decide), fvs_all o HOL.out, ← HFIN.out] at h1
                  exact Int.ofNat.inj h1)
                have HUL := Lib.hid hW.out.len
                have hsz := Lib.hid (bv_size u hW.out.len)
                have hz : Hid (wr.heap[w.heap.size + 1]? = some (.cells (bv z32).toArray 24 (0, 0))) := (hbi.block _ (by omega) (by intro e; injection e; omega)).trans xZ.out
                have hbw : Below w.heap.size w wr := But.below hbX hbi (by omega) (by omega)
                go_wp2_with (first
                  | (with_reducible refine wpList_load_row rfl 24 (.tmp 6) rfl P rfl 24 (bv u).toArray (0, 0) _ hgu.out Tryd.underlying24 rfl (by rw [hsz.out]; kernel_rfl) ?_)
                  | (with_reducible refine wpList_store_row rfl 24 (.tmp 2) (.tmp 84) rfl (w.heap.size + 1) (bv u).toArray rfl rfl 24 _ hz.out (by rw [hsz.out]; kernel_rfl) (by rw [hsz.out]; kernel_rfl) (all_oneCell_toArray (bv_one _)) ?_))
                refine bodyPost_ret (v := .agg (bv u).toArray) (results_cell_row Tryd.results36 _ _ (w.heap.size + 1) 24 _ (0, 0) _ rfl (setRow_heap _ _ _ _ _ _ hz.out) Tryd.underlying24 rfl (by rw [hsz.out]; kernel_rfl)) rfl ⟨u, rfl, HU, HUL, below_setRow hbw (by omega) _⟩
          · obtain ⟨T, hT⟩ : ∃ T, T = mS D 15 := ⟨_, rfl⟩
            have HM := vlt (show Can T ∧ fvs T = fvs r1 - ((n + 1 : Nat) : Int) * (FP : Int) by
              rw [hT]
              refine ⟨HEND.out.2.2 (by rw [hx15.out]; omega) (by rw [hx15.out]; omega), ?_⟩
              rw [HEND.out.1, HDV.out, hO.out.2, next_val])
            rw [← hT] at hs2
            clear hT HEND hx15
            have hsT := Lib.hid (i64v_size T HM.out.1.1)
            have hgF : Hid ((w5.setRow w.heap.size (i64v T).toArray).heap[w.heap.size]? = some (.cells (i64v T).toArray 41 (0, 0))) := setRow_heap _ _ _ _ _ _ go5.out
            have hbF := hbw5.row (i64v T).toArray
            go_wp2_with (first
              | (with_reducible refine wpList_load_row rfl 41 (.tmp 4) rfl Q rfl 41 (i64v T).toArray (0, 0) _ hs2.out Tryd.underlying41 rfl (by rw [hsT.out]; kernel_rfl) ?_)
              | (with_reducible refine wpList_store_row rfl 41 (.tmp 1) (.tmp 62) rfl w.heap.size (i64v T).toArray rfl rfl 41 _ go5.out (by rw [hsT.out]; kernel_rfl) (by rw [hsT.out, hso.out]) (all_oneCell_toArray (i64v_one _)) ?_))
            go_roundw
            case rel => exact ⟨n + 1, T, by omega, by go_num, hgF, HM, hbF⟩
            case measure => simp [intOf]; omega
    · exfalso
      obtain rfl : n = 3 := by omega
      have h1 := fvs_bits o hO.out.1.2
      have h2 := fvs_bits r1 HC.out.1.2
      rw [HC.out.1.1, hO.out.1.1.symm, hO.out.1.1] at h2
      have h3 := hO.out.2
      rw [show (65536 : Int) ^ 16 = 2 * (FP : Int) + 38 by decide] at h2
      have h4 : (38 : Int) < (FP : Int) := by decide
      omega
end Go.Proofs.YtpnodegmegpooaaDoor
