/-
  Contracts of law 8's order and awake: it returns true. Conditions: the package's own number lies as the program's text lays it.
-/
import Derived.Test.YtlobejnohkecdaaDoorScW
import Derived.Test.YtlobejnohkecdaaDoorWk
import Derived.Test.YtlobejnohkecdaaDoorOrd
namespace Go.Proofs.YtlobejnohkecdaaDoor
open Go.RowKit

theorem less_set : ordW.set 0 236 = wk (FL - 1) := by decide +kernel
theorem const_wk (n : Nat) (h : n < 115792089237316195423570985008687907853269984665640564039457584007913129639936) : ∃ T, T = wk n ∧ Hid (T.length = 32) ∧ Vlt (ln T = n) := ⟨_, rfl, wk_len n, vlt (by rw [wk, ln_le, Nat.mod_eq_of_lt (Nat.lt_of_lt_of_le h (by decide))])⟩
theorem less_word : ∃ T, T = wk (FL - 1) ∧ Hid (T.length = 32) ∧ Vlt (ln T = FL - 1) := const_wk (FL - 1) (by decide)
theorem wl_less {T : List UInt8} (h : ln T = FL - 1) (hl : T.length = 32) : le ((ln T) % FL) 32 = T := wl_ln T hl (by rw [h]; decide)
theorem z32_wl : z32 = wl 0 := by decide +kernel
set_option maxRecDepth 100000 in
set_option maxHeartbeats 1000000 in
theorem lorder_any (w : World) : Calls Tryd.prog 9 #[] w fun e w' => ∃ l, e = .returned (.agg (bv l).toArray) ∧ Vlt (l = ordW) ∧ Hid (l.length = 32) ∧ Below w.heap.size w w' := by
  have hzw := zero_word
  obtain ⟨W, hW, hgZ, hbW, hsW⟩ := one_new w (bv z32).toArray 24
  have HW := Lib.hid hW
  clear hW hsW
  obtain ⟨T, hT⟩ : ∃ T, T = ordW := ⟨_, rfl⟩
  have hbo := built_ord
  rw [← hT] at hbo
  have HE := vlt hT
  have HL := Lib.hid (show T.length = 32 by rw [hT]; rfl)
  have HLS := Lib.hid (bv_size T HL.out)
  clear hT
  go_enter Tryd.func9, Tryd.ntmps9
  go_upto_region 1 with fail
  rw [HW.out]
  go_wp2_with (first
    | (with_reducible refine wpList_build_to rfl 24 _ rfl [(0, .int .u8 237), (1, .int .u8 211), (2, .int .u8 245), (3, .int .u8 92), (4, .int .u8 26), (5, .int .u8 99), (6, .int .u8 18), (7, .int .u8 88), (8, .int .u8 214), (9, .int .u8 156), (10, .int .u8 247), (11, .int .u8 162), (12, .int .u8 222), (13, .int .u8 249), (14, .int .u8 222), (15, .int .u8 20), (16, .int .u8 0), (17, .int .u8 0), (18, .int .u8 0), (19, .int .u8 0), (20, .int .u8 0), (21, .int .u8 0), (22, .int .u8 0), (23, .int .u8 0), (24, .int .u8 0), (25, .int .u8 0), (26, .int .u8 0), (27, .int .u8 0), (28, .int .u8 0), (29, .int .u8 0), (30, .int .u8 0), (31, .int .u8 16)] (by kernel_rfl) _ hbo ?_)
    | (with_reducible refine wpList_store_row rfl 24 (.tmp 0) (.tmp 1) rfl w.heap.size (bv T).toArray rfl rfl 24 _ hgZ.out (by rw [HLS.out]; kernel_rfl) (by rw [HLS.out]; kernel_rfl) (all_oneCell_toArray (bv_one _)) ?_))
  refine bodyPost_ret (v := .agg (bv T).toArray) (results_cell_row Tryd.results9 _ _ w.heap.size 24 _ (0, 0) _ rfl (setRow_heap _ _ _ _ _ _ hgZ.out) Tryd.underlying24 rfl (by rw [HLS.out]; kernel_rfl)) rfl ⟨T, rfl, HE, HL, below_setRow hbW (by omega) _⟩

set_option maxRecDepth 100000 in
set_option maxHeartbeats 2000000 in
theorem awake8_any (w : World) (hla : LaidO w) : Calls Tryd.prog 8 #[] w fun e w' => e = .returned (.bool true) ∧ Below w.heap.size w w' := by
  have hzw := zero_word
  obtain ⟨ONE, dONE, HONE, lONE⟩ := const_wk 1 (by decide)
  have hsONE := set_w1
  rw [← dONE] at hsONE
  have hnz := bv_z32_ne
  clear dONE
  obtain ⟨LES, dLES, HLES, lLES⟩ := less_word
  have hbr := Below.refl w.heap.size w
  go_enter Tryd.func8, Tryd.ntmps8
  go_wp2_with fail
  refine (lorder_any w).mono ?_
  rintro e Z0 ⟨ORD, rfl, eORD, HORD, hbZ0⟩
  have hbz := below_next hbr hbr.size hbZ0
  have hlaZ := hla.below hla.2 hbZ0
  go_upto_region 2 with ((with_reducible refine wpList_store_row rfl 24 (.tmp 1) (.tmp 2) rfl Z0.heap.size (bv ORD).toArray rfl rfl 24 _ (heap_alloc_new _ _) (by rw [bv_size ORD HORD.out]; kernel_rfl) (by rw [bv_size ORD HORD.out]; kernel_rfl) (all_oneCell_toArray (bv_one _)) ?_); rw [World.setRow_alloc_new])
  obtain ⟨V0, hV, hgO, hbO, hsO⟩ := one_new Z0 (bv ORD).toArray 24
  rw [hV]
  obtain ⟨G, hG⟩ : ∃ G, G = Z0.heap.size := ⟨_, rfl⟩
  rw [← hG] at hgO hbO ⊢
  have hbw0 : Below w.heap.size w V0 := below_next hbz hbz.size (by rw [hG] at hbO; exact hbO)
  have hla0 := hlaZ.below (by rw [hG]; exact hlaZ.2) hbO
  have hGg : 0 < G := by rw [hG]; exact hlaZ.2
  have hGw : w.heap.size ≤ G := by rw [hG]; exact hbz.size
  clear hV hsO hG hbO hbz
  have c0 : V0.cell? ⟨G, 0, none⟩ = some (.int .u8 237) := by
    have h := byte_cell hgO.out (show ORD[0]? = some 237 by rw [eORD.out]; rfl)
    exact h
  have f0 : V0.frozen? ⟨G, 0, none⟩ = false := frozen_of_row _ _ _ _ _ hgO.out
  have hset : Hid ((V0.setCell ⟨G, 0, none⟩ (.int .u8 236)).heap[G]? = some (.cells (bv LES).toArray 24 (0, 0))) := by
    have h := (world_set_cell hgO.out 0 (.int .u8 236)).out
    rw [show (236 : Int) = ((236 : UInt8).toNat : Int) from rfl, bv_set, eORD.out, less_set, ← dLES] at h
    exact h
  have hbt : But G V0 (V0.setCell ⟨G, 0, none⟩ (.int .u8 236)) := (But.refl _ _).set _
  go_upto_region 3 with fail
  generalize V0.setCell ⟨G, 0, none⟩ (.int .u8 236) = V at *
  have hlaV := hla0.but hGg hbt
  have hbV : Below w.heap.size w V := But.below hbw0 hbt hGw (by have := (Array.getElem?_eq_some_iff.1 hgO.out).1; omega)
  have sGV : G < V.heap.size := (Array.getElem?_eq_some_iff.1 hset.out).1
  clear c0 f0 hgO hbt hbw0 hla0 dLES
  refine wp_region_held_drew (S := (fun W' => Below V.heap.size V W')) (by kernel_rfl) ((Below.refl _ _).drew) (fun hHeld => ?_)
  refine wpAnyH_take (i := 0) (oi := ⟨(some 7), _, _, _, _, _⟩) (v := ?vq1_0) rfl (by kernel_rfl) (by kernel_rfl) (by kernel_rfl) (fun _ _ _ h => h) (Or.inl ⟨by rfl, ?yq1_0⟩) hHeld ?_
  case yq1_0 => (intro W0 hSw; go_simp; try with_reducible rfl)
  try simp only [Act.put, List.setIfInBounds_toArray, List.set_cons_zero, List.set_cons_succ]
  refine wpAnyH_take (i := 1) (oi := ⟨(some 8), _, _, _, _, _⟩) (v := ?vq1_1) rfl (by kernel_rfl) (by kernel_rfl) (by kernel_rfl) (fun _ _ _ h => h) (Or.inl ⟨by rfl, ?yq1_1⟩) hHeld ?_
  case yq1_1 => (intro W0 hSw; go_simp; try with_reducible rfl)
  try simp only [Act.put, List.setIfInBounds_toArray, List.set_cons_zero, List.set_cons_succ]
  refine wpAnyH_take (i := 3) (oi := ⟨(some 10), _, _, _, _, _⟩) (v := _) rfl (by kernel_rfl) (by kernel_rfl) (by kernel_rfl) (fun _ _ _ h => h) (yieldsIf_load_mid (by rfl) _ _ rfl G 0 rfl (bv LES) _ (fun W' hW' => range_row ((hW'.block _ sGV).trans hset.out)) (Tryd.underlying24) (rfl) (by rw [bv_len, HLES.out]; kernel_rfl)) hHeld ?_
  try simp only [Act.put, List.setIfInBounds_toArray, List.set_cons_zero, List.set_cons_succ]
  refine wpAnyH_ready (rs := [2]) (by kernel_rfl) (by simp) ?_
  refine AllReadyH.cons (i := 2) (o := ⟨(some 9), _, _, _, _, _⟩) rfl (fun K hK => ?_) AllReadyH.nil
  go_simp
  refine (lsub_any _ (hlaV.below hlaV.2 hHeld) z32 ONE (z32_len) (HONE.out)).mono ?_
  rintro e w1 ⟨v9, rfl, e9, h9, hb1⟩
  refine hK.out _ _ (below_next hHeld hHeld.size hb1) (fun hHeld => ?_)
  clear hK K
  try simp only [Act.put, List.setIfInBounds_toArray, List.set_cons_zero, List.set_cons_succ]
  obtain rfl : LES = v9 := Eq.symm (by rw [e9.out, ln_z32, lONE.out, Nat.zero_add, Nat.one_mul, wl, ← lLES.out]; exact wl_less lLES.out HLES.out)
  have q0 := eql_bytes_same (P := Tryd.prog) Tryd.underlying24 Tryd.underlying5 Tryd.sizeByte LES (HLES.out)
  refine wpAnyH_take (i := 4) (oi := ⟨(some 11), _, _, _, _, _⟩) (v := ?vq1_2) rfl (by kernel_rfl) (by kernel_rfl) (by kernel_rfl) (fun _ _ _ h => h) (Or.inl ⟨by rfl, ?yq1_2⟩) hHeld ?_
  case yq1_2 => (intro W0 hSw; go_simp; try with_reducible rfl)
  try simp only [Act.put, List.setIfInBounds_toArray, List.set_cons_zero, List.set_cons_succ]
  refine wpAnyH_take (i := 5) (oi := ⟨(some 12), _, _, _, _, _⟩) (v := ?vq1_3) rfl (by kernel_rfl) (by kernel_rfl) (by kernel_rfl) (fun _ _ _ h => h) (Or.inl ⟨by rfl, ?yq1_3⟩) hHeld ?_
  case yq1_3 => (intro W0 hSw; go_simp; try with_reducible rfl)
  try simp only [Act.put, List.setIfInBounds_toArray, List.set_cons_zero, List.set_cons_succ]
  refine wpAnyH_take (i := 6) (oi := ⟨(some 13), _, _, _, _, _⟩) (v := _) rfl (by kernel_rfl) (by kernel_rfl) (by kernel_rfl) (fun _ _ _ h => h) (yieldsIf_load_mid (by rfl) _ _ rfl G 0 rfl (bv LES) _ (fun W' hW' => range_row ((hW'.block _ sGV).trans hset.out)) (Tryd.underlying24) (rfl) (by rw [bv_len, HLES.out]; kernel_rfl)) hHeld ?_
  try simp only [Act.put, List.setIfInBounds_toArray, List.set_cons_zero, List.set_cons_succ]
  refine wpAnyH_ready (rs := [7]) (by kernel_rfl) (by simp) ?_
  refine AllReadyH.cons (i := 7) (o := ⟨(some 14), _, _, _, _, _⟩) rfl (fun K hK => ?_) AllReadyH.nil
  go_simp
  refine (lgood_any _ (hlaV.below hlaV.2 hHeld) LES (HLES.out)).mono ?_
  rintro e w2 ⟨v14, rfl, e14, hb2⟩
  refine hK.out _ _ (below_next hHeld hHeld.size hb2) (fun hHeld => ?_)
  clear hK K
  try simp only [Act.put, List.setIfInBounds_toArray, List.set_cons_zero, List.set_cons_succ]
  obtain rfl : v14 = true := by rw [e14.out, lLES.out]; decide +kernel
  refine wpAnyH_take (i := 8) (oi := ⟨(some 15), _, _, _, _, _⟩) (v := ?vq1_4) rfl (by kernel_rfl) (by kernel_rfl) (by kernel_rfl) (fun _ _ _ h => h) (Or.inl ⟨by rfl, ?yq1_4⟩) hHeld ?_
  case yq1_4 => (intro W0 hSw; go_simp; try with_reducible rfl)
  try simp only [Act.put, List.setIfInBounds_toArray, List.set_cons_zero, List.set_cons_succ]
  refine wpAnyH_take (i := 9) (oi := ⟨(some 16), _, _, _, _, _⟩) (v := ?vq1_5) rfl (by kernel_rfl) (by kernel_rfl) (by kernel_rfl) (fun _ _ _ h => h) (Or.inl ⟨by rfl, ?yq1_5⟩) hHeld ?_
  case yq1_5 => (intro W0 hSw; go_simp; try with_reducible rfl)
  try simp only [Act.put, List.setIfInBounds_toArray, List.set_cons_zero, List.set_cons_succ]
  refine wpAnyH_ready (rs := [10]) (by kernel_rfl) (by simp) ?_
  refine AllReadyH.cons (i := 10) (o := ⟨(some 17), _, _, _, _, _⟩) rfl (fun K hK => ?_) AllReadyH.nil
  go_simp
  refine (lorder_any _).mono ?_
  rintro e w3 ⟨v17, rfl, e17, h17, hb3⟩
  refine hK.out _ _ (below_next hHeld hHeld.size hb3) (fun hHeld => ?_)
  clear hK K
  try simp only [Act.put, List.setIfInBounds_toArray, List.set_cons_zero, List.set_cons_succ]
  refine wpAnyH_ready (rs := [11]) (by kernel_rfl) (by simp) ?_
  refine AllReadyH.cons (i := 11) (o := ⟨(some 18), _, _, _, _, _⟩) rfl (fun K hK => ?_) AllReadyH.nil
  go_simp
  refine (lgood_any _ (hlaV.below hlaV.2 hHeld) v17 (h17.out)).mono ?_
  rintro e w4 ⟨v18, rfl, e18, hb4⟩
  refine hK.out _ _ (below_next hHeld hHeld.size hb4) (fun hHeld => ?_)
  clear hK K
  try simp only [Act.put, List.setIfInBounds_toArray, List.set_cons_zero, List.set_cons_succ]
  obtain rfl : v18 = false := by rw [e18.out, e17.out, ln_ordW]; decide +kernel
  refine wpAnyH_take (i := 12) (oi := ⟨(some 19), _, _, _, _, _⟩) (v := ?vq1_6) rfl (by kernel_rfl) (by kernel_rfl) (by kernel_rfl) (fun _ _ _ h => h) (Or.inl ⟨by rfl, ?yq1_6⟩) hHeld ?_
  case yq1_6 => (intro W0 hSw; go_simp; try with_reducible rfl)
  try simp only [Act.put, List.setIfInBounds_toArray, List.set_cons_zero, List.set_cons_succ]
  refine wpAnyH_take (i := 13) (oi := ⟨(some 20), _, _, _, _, _⟩) (v := ?vq1_7) rfl (by kernel_rfl) (by kernel_rfl) (by kernel_rfl) (fun _ _ _ h => h) (Or.inl ⟨by rfl, ?yq1_7⟩) hHeld ?_
  case yq1_7 => (intro W0 hSw; go_simp; try with_reducible rfl)
  try simp only [Act.put, List.setIfInBounds_toArray, List.set_cons_zero, List.set_cons_succ]
  refine wpAnyH_take (i := 14) (oi := ⟨(some 0), _, _, _, _, _⟩) (v := ?vq1_8) rfl (by kernel_rfl) (by kernel_rfl) (by kernel_rfl) (fun _ _ _ h => h) (Or.inl ⟨by rfl, ?yq1_8⟩) hHeld ?_
  case yq1_8 => (intro W0 hSw; go_simp; try with_reducible rfl)
  try simp only [Act.put, List.setIfInBounds_toArray, List.set_cons_zero]
  refine wpAnyH_done (by kernel_rfl) ?_ _
  go_wp2
  go_ret
  exact ⟨rfl, below_next hbV hbV.size hHeld⟩
end Go.Proofs.YtlobejnohkecdaaDoor
