/-
  Contracts of the document's own below, inv, half. Conditions: below's number is from 0 to 237.
-/
import Derived.Test.YtpnodegmegpooaaDoorRfW7
namespace Go.Proofs.YtpnodegmegpooaaDoor
open Go.RowKit

/-- Carried pieces of a number, modulo the prime. -/
def Fv (l : List Int) (N : Nat) : Prop := Near l ∧ fvs l % (FP : Int) = (N : Int) % (FP : Int)
theorem fv_in {o : List Int} {N : Nat} (h : fvs o = (N : Int) ∧ Can o) : Fv o N := ⟨h.2.near, by rw [h.1]⟩
theorem fv_add {x y z : List Int} {N M : Nat} (hx : Fv x N) (hy : Fv y M) (hz : Near z ∧ fvs z % (FP : Int) = (fvs x + fvs y) % (FP : Int)) : Fv z (N + M) :=
  ⟨hz.1, by rw [hz.2, Int.add_emod, hx.2, hy.2, ← Int.add_emod, Int.natCast_add]⟩
theorem fv_mul {x y z : List Int} {N M : Nat} (hx : Fv x N) (hy : Fv y M) (hz : Near z ∧ fvs z % (FP : Int) = (fvs x * fvs y) % (FP : Int)) : Fv z (N * M) :=
  ⟨hz.1, by rw [hz.2, Int.mul_emod, hx.2, hy.2, ← Int.mul_emod, Int.natCast_mul]⟩
theorem subF_int (N M : Nat) : ((subF N M : Nat) : Int) % (FP : Int) = ((N : Int) - (M : Int)) % (FP : Int) := by
  have hb : M % FP < FP := Nat.mod_lt _ fp_pos
  have h1 : ((subF N M : Nat) : Int) = (N : Int) - (M : Int) + (FP : Int) * ((M / FP : Nat) + 1 : Int) := by
    have h2 := Nat.div_add_mod M FP
    have h3 : (M : Int) = (FP : Int) * ((M / FP : Nat) : Int) + ((M % FP : Nat) : Int) := by rw [← Int.natCast_mul, ← Int.natCast_add, h2]
    have h4 : ((subF N M : Nat) : Int) = (N : Int) + ((FP : Int) - ((M % FP : Nat) : Int)) := by rw [subF, Int.natCast_add, Int.ofNat_sub (Nat.le_of_lt hb)]
    rw [h4, Int.mul_add, Int.mul_one]
    omega
  rw [h1, Int.add_mul_emod_self_left]
theorem fv_sub {x y z : List Int} {N M : Nat} (hx : Fv x N) (hy : Fv y M) (hz : Near z ∧ fvs z % (FP : Int) = (fvs x - fvs y) % (FP : Int)) : Fv z (subF N M) :=
  ⟨hz.1, by rw [hz.2, Int.sub_emod, hx.2, hy.2, ← Int.sub_emod, subF_int]⟩
theorem ipow_mod (a P : Int) (n : Nat) : a ^ n % P = (a % P) ^ n % P := by
  induction n with
  | zero => rw [Int.pow_zero, Int.pow_zero]
  | succ n ih => rw [Int.pow_succ, Int.mul_emod, ih, Int.pow_succ, Int.mul_emod ((a % P) ^ n), Int.emod_emod]
theorem fv_pow {x z : List Int} {N n : Nat} (hx : Fv x N) (hz : Near z ∧ fvs z % (FP : Int) = fvs x ^ n % (FP : Int)) : Fv z (N ^ n) :=
  ⟨hz.1, by rw [hz.2, ipow_mod, hx.2, ← ipow_mod, Int.natCast_pow]⟩
/-- The rows of the document's own below. -/
def brow : Nat → List UInt8
  | 0 => z32
  | k + 1 => (brow k).set (k + 1) 255
theorem brow_len : ∀ k, (brow k).length = 32
  | 0 => rfl
  | k + 1 => by rw [brow, List.length_set, brow_len k]
def bel (n : Int) : List UInt8 := ((brow 31).set 31 127).set 0 (UInt8.ofNat (237 - n).toNat)
theorem bel_len (n : Int) : (bel n).length = 32 := by rw [bel, List.length_set, List.length_set, brow_len]
theorem bel_2 : ln (bel 2) = FP2 := by decide +kernel
set_option maxRecDepth 100000 in
set_option maxHeartbeats 1000000 in
theorem below_any (w : World) (n : Int) (h1 : 0 ≤ n) (h2 : n ≤ 237) : Calls Tryd.prog 49 #[.int .i64 n] w fun e w' => ∃ l, e = .returned (.agg (bv l).toArray) ∧ Vlt (l = bel n) ∧ Hid (l.length = 32) ∧ Below w.heap.size w w' := by
  have hzw := zero_word
  obtain ⟨W, hW, hgZ, hgT, hbW, hsW⟩ := pair_new w (bv z32).toArray (bv z32).toArray 24 24
  have HW := Lib.hid hW
  have hs : w.heap.size + 1 < W.heap.size := by have := hsW.out; omega
  clear hW hsW
  go_enter Tryd.func49, Tryd.ntmps49
  go_upto_region 2 with (with_reducible refine wpList_store_row rfl 24 (.tmp 3) (.tmp 5) rfl (w.heap.size + 1) (bv z32).toArray rfl rfl 24 _ (heap_alloc2_new _ _ _) (by kernel_rfl) (by kernel_rfl) (all_oneCell_toArray (bv_one _)) ?_)
  obtain ⟨V, hV⟩ : ∃ V, V = ((w.alloc (.cells (bv z32).toArray 24)).alloc (.cells (bv z32).toArray 24)).setRow (w.heap.size + 1) (bv z32).toArray := ⟨_, rfl⟩
  rw [← hV]
  have hR : Hid (V.heap[w.heap.size + 1]? = some (.cells (bv z32).toArray 24 (0, 0))) := by rw [hV]; exact setRow_heap _ _ _ _ _ _ (heap_alloc2_new _ _ _)
  have hZ : Hid (V.heap[w.heap.size]? = some (.cells (bv z32).toArray 24 (0, 0))) := by rw [hV]; exact (setRow_other _ _ _ _ (by omega)).trans (heap_alloc2_old _ _ _)
  have hbV : Below w.heap.size w V := by rw [hV]; exact below_setRow (by rw [HW.out]; exact hbW) (by omega) _
  have hsV : w.heap.size + 1 < V.heap.size := (Array.getElem?_eq_some_iff.1 hR.out).1
  clear hV hgZ hgT hbW hs HW
  obtain ⟨R, hRe⟩ : ∃ R, R = w.heap.size + 1 := ⟨_, rfl⟩
  rw [← hRe] at hR hsV ⊢
  have hne : w.heap.size < R := by omega
  clear hRe
  simp only [Act.put]
  go_wp2_with fail
  go_loopw [4] (fun i wr => ∃ k : Nat, k ≤ 31 ∧ i = .int .i64 ((k : Int) + 1) ∧ Hid (wr.heap[R]? = some (.cells (bv (brow k)).toArray 24 (0, 0))) ∧ But R V wr) (fun i _ => 32 - (intOf i).toNat)
  case atStart => exact ⟨0, by omega, rfl, hR, But.refl _ _⟩
  case round =>
    obtain ⟨k, hk, rfl, hg, hbt⟩ := hrel
    by_cases hlt : k < 31
    · have f0 : wr.frozen? ⟨R, k + 1, none⟩ = false := frozen_of_row _ _ _ _ _ hg.out
      obtain ⟨u0, c0⟩ : ∃ u, wr.cell? ⟨R, k + 1, none⟩ = some u := by
        rw [cell_of_row _ _ _ _ _ _ hg.out]
        exact ⟨_, List.getElem?_toArray .. ▸ List.getElem?_eq_getElem (by rw [bv_len, brow_len]; omega)⟩
      have hset : Hid ((wr.setCell ⟨R, k + 1, none⟩ (.int .u8 255)).heap[R]? = some (.cells (bv (brow (k + 1))).toArray 24 (0, 0))) := by
        have h1 := (world_set_cell hg.out (k + 1) (.int .u8 255)).out
        rw [show (255 : Int) = ((255 : UInt8).toNat : Int) from rfl, bv_set] at h1
        exact h1
      have hb2 := hbt.set (i := k + 1) (.int .u8 255)
      go_wp2
      go_roundw
      case rel => exact ⟨k + 1, by omega, by go_num, hset, hb2⟩
      case measure => simp [intOf]; omega
    · obtain rfl : k = 31 := by omega
      have f0 : wr.frozen? ⟨R, 31, none⟩ = false := frozen_of_row _ _ _ _ _ hg.out
      have f1 : wr.frozen? ⟨R, 0, none⟩ = false := frozen_of_row _ _ _ _ _ hg.out
      obtain ⟨u0, c0⟩ : ∃ u, wr.cell? ⟨R, 31, none⟩ = some u := by
        rw [cell_of_row _ _ _ _ _ _ hg.out]
        exact ⟨_, List.getElem?_toArray .. ▸ List.getElem?_eq_getElem (by rw [bv_len, brow_len]; omega)⟩
      obtain ⟨u1, c1⟩ : ∃ u, wr.cell? ⟨R, 0, none⟩ = some u := by
        rw [cell_of_row _ _ _ _ _ _ hg.out]
        exact ⟨_, List.getElem?_toArray .. ▸ List.getElem?_eq_getElem (by rw [bv_len, brow_len]; omega)⟩
      obtain ⟨T, hT⟩ : ∃ T, T = bel n := ⟨_, rfl⟩
      have HT := vlt hT
      have HTL := Lib.hid (show T.length = 32 by rw [hT, bel_len])
      have hset : Hid (((wr.setCell ⟨R, 31, none⟩ (.int .u8 127)).setCell ⟨R, 0, none⟩ (.int .u8 (237 - n))).heap[R]? = some (.cells (bv T).toArray 24 (0, 0))) := by
        have h3 := (world_set_cell (world_set_cell hg.out 31 (.int .u8 127)).out 0 (.int .u8 (237 - n))).out
        have e1 : 237 - n = ((UInt8.ofNat (237 - n).toNat).toNat : Int) := by
          rw [UInt8.toNat_ofNat', show (2 : Nat) ^ 8 = 256 by decide, Nat.mod_eq_of_lt (by omega)]; omega
        rw [show (127 : Int) = ((127 : UInt8).toNat : Int) from rfl, bv_set, show (Value.int .u8 (237 - n)) = Value.int .u8 ((UInt8.ofNat (237 - n).toNat).toNat : Int) by rw [← e1], bv_set, ← show T = ((brow 31).set 31 127).set 0 (UInt8.ofNat (237 - n).toNat) by rw [hT]; rfl, ← e1] at h3
        exact h3
      have hb2 := (hbt.set (i := 31) (.int .u8 127)).set (i := 0) (.int .u8 (237 - n))
      clear hT hg hbt
      go_upto_region 8 with fail
      generalize (wr.setCell ⟨R, 31, none⟩ (.int .u8 127)).setCell ⟨R, 0, none⟩ (.int .u8 (237 - n)) = w3 at *
      have hz3 : Hid (w3.heap[w.heap.size]? = some (.cells (bv z32).toArray 24 (0, 0))) := (hb2.block _ (by omega) (by intro e; injection e; omega)).trans hZ.out
      have hbw : Below w.heap.size w w3 := But.below hbV hb2 (by omega) (by omega)
      have hsz := Lib.hid (bv_size T HTL.out)
      go_wp2_with (first
        | (with_reducible refine wpList_load_row rfl 24 (.tmp 3) rfl R rfl 24 (bv T).toArray (0, 0) _ hset.out Tryd.underlying24 rfl (by rw [hsz.out]; kernel_rfl) ?_)
        | (with_reducible refine wpList_store_row rfl 24 (.tmp 2) (.tmp 17) rfl w.heap.size (bv T).toArray rfl rfl 24 _ hz3.out (by rw [hsz.out]; kernel_rfl) (by rw [hsz.out]; kernel_rfl) (all_oneCell_toArray (bv_one _)) ?_))
      refine bodyPost_ret (v := .agg (bv T).toArray) (results_cell_row Tryd.results49 _ _ w.heap.size 24 _ (0, 0) _ rfl (setRow_heap _ _ _ _ _ _ hz3.out) Tryd.underlying24 rfl (by rw [hsz.out]; kernel_rfl)) rfl ⟨T, rfl, HT, HTL, below_setRow hbw (by omega) _⟩

set_option maxHeartbeats 1000000 in
theorem rinv_any (w : World) (x : List Int) (N : Nat) (hx : Fv x N) :
    Calls Tryd.prog 42 #[.agg (i64v x).toArray] w fun e w' => ∃ y, e = .returned (.agg (i64v y).toArray) ∧ Vlt (Fv y (N ^ FP2)) ∧ Hid (y.length = 16) ∧ Below w.heap.size w w' := by
  have hzf := zero_fe
  obtain ⟨W, hW, hgA, hgZ, hbW, hsW⟩ := pair_new w (i64v x).toArray (i64v z16).toArray 41 41
  have HW := Lib.hid hW
  have HX := vlt hx
  have HAS := Lib.hid (show (i64v x).length = 16 by rw [i64v_len, hx.1.len])
  have hs : w.heap.size + 1 < W.heap.size := by have := hsW.out; omega
  clear hW hx hsW
  go_enter Tryd.func42, Tryd.ntmps42
  go_upto_region 1 with fail
  rw [HW.out]
  refine wp_region_held_drew (S := (fun W' => W'.heap[w.heap.size]? = some (.cells (i64v x).toArray 41 (0, 0)))) (by kernel_rfl) (hgA.out) (fun hHeld => ?_)
  refine wpAnyH_take (i := 0) (oi := ⟨(some 3), _, _, _, _, _⟩) (v := _) rfl (by kernel_rfl) (by kernel_rfl) (by kernel_rfl) (fun _ _ _ h => h) (yieldsIf_load_mid (by rfl) _ _ rfl w.heap.size 0 rfl (i64v x) _ (fun W' hW' => range_row hW') (Tryd.underlying41) (rfl) (by rw [HAS.out]; kernel_rfl)) hHeld ?_
  try simp only [Act.put, List.setIfInBounds_toArray, List.set_cons_zero, List.set_cons_succ]
  refine wpAnyH_ready (rs := [1]) (by kernel_rfl) (by simp) ?_
  refine AllReadyH.cons (i := 1) (o := ⟨(some 4), _, _, _, _, _⟩) rfl (fun K hK => ?_) AllReadyH.nil
  go_simp
  refine (below_any _ 2 (by decide) (by decide)).mono ?_
  rintro e w1 ⟨b, rfl, e1, HB, hb1d⟩
  have hb1 : Below W.heap.size W w1 := below_undrew hb1d
  refine hK.out _ _ ((hb1.block _ (by omega)).trans hHeld) (fun hHeld => ?_)
  clear hK K
  try simp only [Act.put, List.setIfInBounds_toArray, List.set_cons_zero, List.set_cons_succ]
  have hbw1 := below_next hbW hbW.size hb1
  have hz1 : Hid (w1.heap[w.heap.size + 1]? = some (.cells (i64v z16).toArray 41 (0, 0))) := (hb1.block _ (by omega)).trans hgZ.out
  have hs1 : w.heap.size + 1 < w1.heap.size := (Array.getElem?_eq_some_iff.1 hz1.out).1
  refine wpAnyH_ready (rs := [2]) (by kernel_rfl) (by simp) ?_
  refine AllReadyH.cons (i := 2) (o := ⟨(some 5), _, _, _, _, _⟩) rfl (fun K hK => ?_) AllReadyH.nil
  go_simp
  refine (rpower_any w1 x HX.out.1 b HB.out).mono ?_
  rintro e w2 ⟨y, rfl, e2, HY, hb2⟩
  refine hK.out _ _ ((hb2.block _ (by omega)).trans hHeld) (fun hHeld => ?_)
  clear hK K
  try simp only [Act.put, List.setIfInBounds_toArray, List.set_cons_zero, List.set_cons_succ]
  have HE := vlt (show Fv y (N ^ FP2) by have h := fv_pow HX.out e2.out; rwa [e1.out, bel_2] at h)
  clear e1 e2
  have hbw2 := below_next hbw1 hbw1.size hb2
  have hz2 : Hid (w2.heap[w.heap.size + 1]? = some (.cells (i64v z16).toArray 41 (0, 0))) := (hb2.block _ (by omega)).trans hz1.out
  have HLS := Lib.hid (i64v_size y HY.out)
  refine wpAnyH_ready (rs := [3]) (by kernel_rfl) (by simp) ?_
  refine AllReadyH.cons (i := 3) (o := ⟨none, _, _, _, _, _⟩) rfl (fun K hK => ?_) AllReadyH.nil
  refine step_store_row rfl 41 (.tmp 2) (.tmp 5) rfl (w.heap.size + 1) (i64v y).toArray rfl rfl 41 _ hz2.out (by rw [HLS.out]; kernel_rfl) (by rw [HLS.out]; kernel_rfl) (all_oneCell_toArray (i64v_one _)) ?_
  refine hK.out _ _ ((setRow_other _ _ _ _ (by omega)).trans hHeld) (fun hHeld => ?_)
  clear hK K
  try simp only [Act.put]
  refine wpAnyH_done (by kernel_rfl) ?_ _
  go_wp2_with fail
  refine bodyPost_ret (v := .agg (i64v y).toArray) (results_cell_row Tryd.results42 _ _ (w.heap.size + 1) 41 _ (0, 0) _ rfl (setRow_heap _ _ _ _ _ _ hz2.out) Tryd.underlying41 rfl (by rw [HLS.out]; kernel_rfl)) rfl ⟨y, rfl, HE, HY, below_setRow hbw2 (by omega) _⟩

/-- A number's half, byte by byte. -/
def nb (l : List UInt8) (k : Nat) : Nat := (l.getD k 0).toNat
theorem nb_lt (l : List UInt8) (k : Nat) : nb l k < 256 := (l.getD k 0).toNat_lt
theorem nb_at {l : List UInt8} {k : Nat} (h : k < l.length) : l[k]? = some (UInt8.ofNat (nb l k)) := by
  rw [List.getElem?_eq_getElem h, nb, List.getD_eq_getElem?_getD, List.getElem?_eq_getElem h]; simp
def hb8 (l : List UInt8) (k : Nat) : UInt8 := UInt8.ofNat (nb l k / 2 + nb l (k + 1) % 2 * 128)
def halfB (l : List UInt8) : List UInt8 := (List.range 32).map (hb8 l)
theorem halfB_len (l : List UInt8) : (halfB l).length = 32 := by simp [halfB]
theorem halfB_at (l : List UInt8) (k : Nat) (h : k < 32) : (halfB l)[k]? = some (hb8 l k) := by simp [halfB, List.getElem?_range h]
structure Hlf (u l : List UInt8) (k : Nat) : Prop where
  len : u.length = 32
  rest : u.drop k = l.drop k
  done : u.take k = (halfB l).take k
theorem Hlf.now {u l : List UInt8} {k : Nat} (h : Hlf u l k) (hl : l.length = 32) (j : Nat) (hkj : k ≤ j) (hj : j < 32) : u[j]? = some (UInt8.ofNat (nb l j)) := by
  obtain ⟨i, rfl⟩ : ∃ i, j = k + i := ⟨j - k, by omega⟩
  rw [← List.getElem?_drop, h.rest, List.getElem?_drop]
  exact nb_at (by omega)
theorem Hlf.step {u l : List UInt8} {k : Nat} (h : Hlf u l k) (hk : k < 32) : Hlf (u.set k (hb8 l k)) l (k + 1) := by
  refine ⟨by rw [List.length_set, h.len], ?_, ?_⟩
  · rw [List.drop_set_of_lt (by omega), show k + 1 = k + 1 from rfl, ← List.drop_drop, h.rest, List.drop_drop]
  · have h1 : (u.set k (hb8 l k)).take (k + 1) = u.take k ++ [hb8 l k] := by
      rw [List.take_succ_eq_append_getElem (by rw [List.length_set, h.len]; exact hk), List.take_set_of_le (Nat.le_refl _)]; simp
    have h2 : (halfB l).take (k + 1) = (halfB l).take k ++ [hb8 l k] := by
      rw [List.take_succ_eq_append_getElem (by rw [halfB_len]; exact hk)]
      have := halfB_at l k hk
      rw [List.getElem?_eq_getElem (by rw [halfB_len]; exact hk)] at this
      rw [Option.some.inj this]
    rw [h1, h2, h.done]
theorem half_val (c d : Nat) (hc : c < 256) : ∃ y : Nat, y < 256 ∧ bits .or .u8 ((c : Int) / 2) ((d : Int) * 128 % 256) = (y : Int) ∧ y = c / 2 + d % 2 * 128 := by
  have h1 : (d : Int) * 128 % 256 = ((d % 2 * 128 : Nat) : Int) := by omega
  have h3 := u8_or_nat (c / 2) (d % 2 * 128) (by omega) (by omega)
  have h4 : c / 2 ||| d % 2 * 128 = c / 2 + d % 2 * 128 := by
    rw [Nat.or_comm, show d % 2 * 128 = (d % 2) <<< 7 by rw [Nat.shiftLeft_eq], ← Nat.shiftLeft_add_eq_or_of_lt (by omega)]; omega
  refine ⟨_, by omega, ?_, rfl⟩
  rw [h1, show (c : Int) / 2 = ((c / 2 : Nat) : Int) by omega, h3, h4]
set_option maxRecDepth 100000 in
set_option maxHeartbeats 2000000 in
theorem half_any (w : World) (l : List UInt8) (hl : l.length = 32) : Calls Tryd.prog 48 #[.agg (bv l).toArray] w fun e w' => ∃ r, e = .returned (.agg (bv r).toArray) ∧ Vlt (r = halfB l) ∧ Hid (r.length = 32) ∧ Below w.heap.size w w' := by
  have hzw := zero_word
  obtain ⟨W, hW, hgA, hgZ, hbW, hsW⟩ := pair_new w (bv l).toArray (bv z32).toArray 24 24
  have HW := Lib.hid hW
  have HL := Lib.hid hl
  have hs : w.heap.size + 1 < W.heap.size := by have := hsW.out; omega
  clear hW hl hsW
  go_enter Tryd.func48, Tryd.ntmps48
  go_upto_region 1 with fail
  rw [HW.out]
  go_wp2_with fail
  go_loopw [3] (fun s wr => ∃ (k : Nat) (u : List UInt8), k ≤ 32 ∧ s = .int .i64 (k : Int) ∧ Hid (wr.heap[w.heap.size]? = some (.cells (bv u).toArray 24 (0, 0))) ∧ Vlt (Hlf u l k) ∧ But w.heap.size W wr) (fun s _ => 32 - (intOf s).toNat)
  case atStart => exact ⟨0, l, by omega, rfl, hgA, vlt ⟨HL.out, rfl, by simp⟩, But.refl _ _⟩
  case round =>
    obtain ⟨k, u, hk, rfl, hg, hF, hbt⟩ := hrel
    by_cases hlt : k < 32
    · have f0 : wr.frozen? ⟨w.heap.size, k, none⟩ = false := frozen_of_row _ _ _ _ _ hg.out
      have lc := nb_lt l k
      have c0 := byte_cell hg.out (hF.out.now HL.out k (Nat.le_refl _) hlt)
      rw [UInt8.toNat_ofNat', show (2 : Nat) ^ 8 = 256 by decide, Nat.mod_eq_of_lt lc] at c0
      have hn := vlt (hF.out.step hlt)
      have hs1 := world_set_cell hg.out k (.int .u8 ((nb l k : Int) / 2))
      have hb1 := hbt.set (i := k) (.int .u8 ((nb l k : Int) / 2))
      by_cases hlt2 : k < 31
      · have ld := nb_lt l (k + 1)
        have hd := vlt (hF.out.now HL.out (k + 1) (by omega) (by omega))
        have c1 : (wr.setCell ⟨w.heap.size, k, none⟩ (.int .u8 ((nb l k : Int) / 2))).cell? ⟨w.heap.size, k + 1, none⟩ = some (.int .u8 ((nb l (k + 1) : Nat) : Int)) := by
          have h3 := byte_cell hg.out hd.out
          rw [UInt8.toNat_ofNat', show (2 : Nat) ^ 8 = 256 by decide, Nat.mod_eq_of_lt ld] at h3
          rw [cell_of_row _ _ _ _ _ _ hs1.out, ← h3, cell_of_row _ _ _ _ _ _ hg.out]
          simp
        have c2 : (wr.setCell ⟨w.heap.size, k, none⟩ (.int .u8 ((nb l k : Int) / 2))).cell? ⟨w.heap.size, k, none⟩ = some (.int .u8 ((nb l k : Int) / 2)) := by
          rw [cell_of_row _ _ _ _ _ _ hs1.out]
          simp [bv_len, hF.out.len, hlt]
        have f1 : (wr.setCell ⟨w.heap.size, k, none⟩ (.int .u8 ((nb l k : Int) / 2))).frozen? ⟨w.heap.size, k, none⟩ = false := frozen_of_row _ _ _ _ _ hs1.out
        obtain ⟨y, ly, ey, hy⟩ := half_val (nb l k) (nb l (k + 1)) lc
        have hs2 := world_set_cell hs1.out k (.int .u8 (y : Int))
        rw [List.set_set, show (Value.int .u8 (y : Int)) = Value.int .u8 ((hb8 l k).toNat : Int) by rw [hb8, ← hy, UInt8.toNat_ofNat', show (2 : Nat) ^ 8 = 256 by decide, Nat.mod_eq_of_lt ly], bv_set] at hs2
        rw [show ((hb8 l k).toNat : Int) = (y : Int) by rw [hb8, ← hy, UInt8.toNat_ofNat', show (2 : Nat) ^ 8 = 256 by decide, Nat.mod_eq_of_lt ly]] at hs2
        have hb2 := hb1.set (i := k) (.int .u8 (y : Int))
        clear hd hy hs1 hb1
        generalize nb l k = c at *
        generalize nb l (k + 1) = d at *
        go_upto_region 6 with fail
        generalize wr.setCell ⟨w.heap.size, k, none⟩ (.int .u8 ((c : Int) / 2)) = w1 at *
        go_wp2_with fail
        go_region
        go_wp2
        go_roundw
        case rel => exact ⟨k + 1, _, by omega, by go_num, hs2, hn, hb2.drew⟩
        case measure => simp [intOf]; omega
      · obtain rfl : k = 31 := by omega
        have h0 : nb l 32 = 0 := by
          have h1 : l[32]? = none := List.getElem?_eq_none (by rw [HL.out]; exact Nat.le_refl _)
          simp [nb, List.getD_eq_getElem?_getD, h1]
        have e1 : (nb l 31 : Int) / 2 = ((hb8 l 31).toNat : Int) := by
          rw [hb8, h0, UInt8.toNat_ofNat', show (2 : Nat) ^ 8 = 256 by decide, Nat.mod_eq_of_lt (by omega)]; omega
        rw [show (Value.int .u8 ((nb l 31 : Int) / 2)) = Value.int .u8 ((hb8 l 31).toNat : Int) by rw [← e1], bv_set, ← e1] at hs1
        clear e1 h0
        generalize nb l 31 = c at *
        go_wp2
        go_roundw
        case rel => exact ⟨32, _, by omega, by go_num, hs1, hn, hb1⟩
        case measure => simp [intOf]
    · obtain rfl : k = 32 := by omega
      have HU := vlt (show u = halfB l by have h := hF.out.done; rwa [List.take_of_length_le (by rw [hF.out.len]; decide), List.take_of_length_le (by rw [halfB_len]; decide)] at h)
      have HUL := Lib.hid hF.out.len
      have hsz := Lib.hid (bv_size u HUL.out)
      have hz : Hid (wr.heap[w.heap.size + 1]? = some (.cells (bv z32).toArray 24 (0, 0))) := (hbt.block _ (by omega) (by intro e; injection e; omega)).trans hgZ.out
      have hbw : Below w.heap.size w wr := But.below hbW hbt (by omega) (by omega)
      clear hF
      go_wp2_with (first
        | (with_reducible refine wpList_load_row rfl 24 (.tmp 1) rfl w.heap.size rfl 24 (bv u).toArray (0, 0) _ hg.out Tryd.underlying24 rfl (by rw [hsz.out]; kernel_rfl) ?_)
        | (with_reducible refine wpList_store_row rfl 24 (.tmp 2) (.tmp 27) rfl (w.heap.size + 1) (bv u).toArray rfl rfl 24 _ hz.out (by rw [hsz.out]; kernel_rfl) (by rw [hsz.out]; kernel_rfl) (all_oneCell_toArray (bv_one _)) ?_))
      refine bodyPost_ret (v := .agg (bv u).toArray) (results_cell_row Tryd.results48 _ _ (w.heap.size + 1) 24 _ (0, 0) _ rfl (setRow_heap _ _ _ _ _ _ hz.out) Tryd.underlying24 rfl (by rw [hsz.out]; kernel_rfl)) rfl ⟨u, rfl, HU, HUL, below_setRow hbw (by omega) _⟩
end Go.Proofs.YtpnodegmegpooaaDoor
