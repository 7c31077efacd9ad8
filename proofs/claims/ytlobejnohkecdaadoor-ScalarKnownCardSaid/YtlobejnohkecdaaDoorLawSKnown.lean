/-
  ScalarKnown: the law's Go text returns true, whatever the input. Conditions: none beyond the row's own.
-/
import Derived.Test.YtlobejnohkecdaaDoorScY
import Derived.Test.YtlobejnohkecdaaDoorRsM
namespace Go.Proofs.YtlobejnohkecdaaDoor
open Go.RowKit

theorem built_w64k : Tryd.prog.built 26 [] = some (bv (List.replicate 64 0)).toArray := by kernel_rfl
theorem zeros64k : ∃ z : List UInt8, z = List.replicate 64 0 ∧ Hid (z.length = 64) ∧ Tryd.prog.built 26 [] = some (bv z).toArray := ⟨_, rfl, rfl, built_w64k⟩
/-- The rows of all ones. -/
def ffs : Nat → List UInt8
  | 0 => List.replicate 64 0
  | k + 1 => (ffs k).set k 255
theorem ffs_len : ∀ k, (ffs k).length = 64
  | 0 => rfl
  | k + 1 => by rw [ffs, List.length_set, ffs_len k]
set_option maxRecDepth 100000 in
set_option maxHeartbeats 4000000 in
theorem walk_ScalarKnown (w : World) (hla : LaidO w) :
    Calls Tryd.prog 3 #[] w fun e w' => e = .returned (.bool true) ∧ Below w.heap.size w w' := by
  have hzw := zero_word
  obtain ⟨ONE, dONE, HONE, lONE⟩ := const_wk 1 (by decide)
  have hsONE := set_w1
  rw [← dONE] at hsONE
  have hnz := bv_z32_ne
  clear dONE
  obtain ⟨LES, dLES, HLES, lLES⟩ := less_word
  have hz64 := zero_w64
  obtain ⟨Z, hz, HZL, hbz⟩ := zeros64k
  rw [← hz] at hz64
  have HZ := vlt hz
  have hfz := vlt (show Z = ffs 0 from hz)
  clear hz
  have HZS := Lib.hid (bv_size64 Z HZL.out)
  go_enter Tryd.func3, Tryd.ntmps3
  go_wp2_with fail
  refine (awake8_any w hla).mono ?_
  rintro e V ⟨rfl, hbV⟩
  have hlaV := hla.below hla.2 hbV
  go_wp2_with fail
  refine (lorder_any V).mono ?_
  rintro e Z0 ⟨ORD, rfl, eORD, HORD, hbZ0⟩
  have hbz := below_next hbV hbV.size hbZ0
  have hlaZ := hlaV.below hlaV.2 hbZ0
  go_upto_region 4 with ((with_reducible refine wpList_store_row rfl 24 (.tmp 1) (.tmp 6) rfl Z0.heap.size (bv ORD).toArray rfl rfl 24 _ (heap_alloc_new _ _) (by rw [bv_size ORD HORD.out]; kernel_rfl) (by rw [bv_size ORD HORD.out]; kernel_rfl) (all_oneCell_toArray (bv_one _)) ?_); rw [World.setRow_alloc_new])
  obtain ⟨V0, hV, hgO, hbO, hsO⟩ := one_new Z0 (bv ORD).toArray 24
  rw [hV]
  obtain ⟨G, hG⟩ : ∃ G, G = Z0.heap.size := ⟨_, rfl⟩
  rw [← hG] at hgO hbO ⊢
  have hbw0 : Below w.heap.size w V0 := below_next hbz hbz.size (by rw [hG] at hbO; exact hbO)
  have hla0 := hlaZ.below (by rw [hG]; exact hlaZ.2) hbO
  have hGg : 0 < G := by rw [hG]; exact hlaZ.2
  have hGw : w.heap.size ≤ G := by rw [hG]; exact hbz.size
  clear hV hsO hG hbO hbz
  have c0 : V0.cell? ⟨G, 0, none⟩ = some (.int .u8 237) := by
    have h := byte_cell hgO.out (show ORD[0]? = some 237 by rw [eORD.out]; rfl)
    exact h
  have f0 : V0.frozen? ⟨G, 0, none⟩ = false := frozen_of_row _ _ _ _ _ hgO.out
  have hset : Hid ((V0.setCell ⟨G, 0, none⟩ (.int .u8 236)).heap[G]? = some (.cells (bv LES).toArray 24 (0, 0))) := by
    have h := (world_set_cell hgO.out 0 (.int .u8 236)).out
    rw [show (236 : Int) = ((236 : UInt8).toNat : Int) from rfl, bv_set, eORD.out, less_set, ← dLES] at h
    exact h
  have hbt : But G V0 (V0.setCell ⟨G, 0, none⟩ (.int .u8 236)) := (But.refl _ _).set _
  go_upto_region 5 with fail
  generalize V0.setCell ⟨G, 0, none⟩ (.int .u8 236) = V1 at *
  have hlaV1 := hla0.but hGg hbt
  have hbV1 : Below w.heap.size w V1 := But.below hbw0 hbt hGw (by have := (Array.getElem?_eq_some_iff.1 hgO.out).1; omega)
  have sGV1 : G < V1.heap.size := (Array.getElem?_eq_some_iff.1 hset.out).1
  clear c0 f0 hgO hbt hbw0 hla0 dLES
  go_upto_region 6 with (first
    | (with_reducible refine wpList_build_as rfl 26 rfl (bv Z).toArray hbz ?_)
    | ((with_reducible refine wpList_store_row rfl 26 (.tmp 2) (.tmp 11) rfl V1.heap.size (bv Z).toArray rfl rfl 26 _ (heap_alloc_new _ _) (by rw [HZS.out]; kernel_rfl) (by rw [HZS.out]) (all_oneCell_toArray (bv_one _)) ?_); rw [World.setRow_alloc_new]))
  obtain ⟨V2, hV, hgH, hBV2, hsV⟩ := one_new V1 (bv Z).toArray 26
  rw [hV]
  obtain ⟨H, hH⟩ : ∃ H, H = V1.heap.size := ⟨_, rfl⟩
  rw [← hH] at hgH sGV1 hBV2 ⊢
  have gG2 := Lib.hid ((hBV2.block G sGV1).trans hset.out)
  have hbV2 := below_next hbV1 hbV1.size (by rw [hH] at hBV2; exact hBV2)
  have hlaV2 := hlaV1.below (by rw [hH]; exact hlaV1.2) hBV2
  have hHg : 0 < H := by rw [hH]; exact hlaV1.2
  have hHw : w.heap.size ≤ H := by rw [hH]; exact hbV1.size
  have sH2 : H < V2.heap.size := (Array.getElem?_eq_some_iff.1 hgH.out).1
  clear hV hBV2 hH hsV hbV1 hlaV1 hset
  rw [hfz.out] at hgH
  go_wp2_with fail
  go_loopw [3] (fun i wr => ∃ k : Nat, k ≤ 64 ∧ i = .int .i64 (k : Int) ∧ Hid (wr.heap[H]? = some (.cells (bv (ffs k)).toArray 26 (0, 0))) ∧ But H V2 wr) (fun i _ => 64 - (intOf i).toNat)
  case atStart => exact ⟨0, by omega, rfl, hgH, But.refl _ _⟩
  case round =>
    clear hgH
    obtain ⟨k, hk, rfl, hg, hbt⟩ := hrel
    by_cases hlt : k < 64
    · have f0 : wr.frozen? ⟨H, k, none⟩ = false := frozen_of_row _ _ _ _ _ hg.out
      obtain ⟨u0, c0⟩ : ∃ u, wr.cell? ⟨H, k, none⟩ = some u := by
        rw [cell_of_row _ _ _ _ _ _ hg.out]
        exact ⟨_, List.getElem?_toArray .. ▸ List.getElem?_eq_getElem (by rw [bv_len, ffs_len]; exact hlt)⟩
      have hset : Hid ((wr.setCell ⟨H, k, none⟩ (.int .u8 255)).heap[H]? = some (.cells (bv (ffs (k + 1))).toArray 26 (0, 0))) := by
        have h1 := (world_set_cell hg.out k (.int .u8 255)).out
        rw [show (255 : Int) = ((255 : UInt8).toNat : Int) from rfl, bv_set] at h1
        exact h1
      have hb2 := hbt.set (i := k) (.int .u8 255)
      go_wp2
      go_roundw
      case rel => exact ⟨k + 1, by omega, by go_num, hset, hb2⟩
      case measure => simp [intOf]; omega
    · obtain rfl : k = 64 := by omega
      have HLO := Lib.hid (ffs_len 64)
      generalize ffs 64 = LO at *
      have hc1 := cut_all Tryd.underlying26 Tryd.sizeByte H 0 (by decide)
      go_upto_region 10 with fail
      obtain ⟨X, hX⟩ : ∃ X, X = wr := ⟨_, rfl⟩
      subst hX
      have gG : Hid (X.heap[G]? = some (.cells (bv LES).toArray 24 (0, 0))) := (hbt.block _ (by omega) (by intro e; injection e; omega)).trans gG2.out
      have gH := hg
      have hlaX := hlaV2.but hHg hbt
      have hbX : Below w.heap.size w X := But.below hbV2 hbt (by omega) (by omega)
      have sG : G < X.heap.size := (Array.getElem?_eq_some_iff.1 gG.out).1
      have sH : H < X.heap.size := (Array.getElem?_eq_some_iff.1 gH.out).1
      clear hg hbt gG2 hlaV2 hbV2
      refine wp_region_held_drew (S := (fun W' => Below X.heap.size X W')) (by kernel_rfl) ((Below.refl _ _).drew) (fun hHeld => ?_)
      refine wpAnyH_take (i := 2) (oi := ⟨(some 20), _, _, _, _, _⟩) (v := ?vq1_0) rfl (by kernel_rfl) (by kernel_rfl) (by kernel_rfl) (fun _ _ _ h => h) (Or.inl ⟨by rfl, ?yq1_0⟩) hHeld ?_
      case yq1_0 => (intro W0 hSw; go_simp; try with_reducible rfl)
      try simp only [Act.put, List.setIfInBounds_toArray, List.set_cons_zero, List.set_cons_succ]
      refine wpAnyH_ready (rs := [0]) (by kernel_rfl) (by simp) ?_
      refine AllReadyH.cons (i := 0) (o := ⟨(some 18), _, _, _, _, _⟩) rfl (fun K hK => ?_) AllReadyH.nil
      go_simp
      refine (lorder_any _).mono ?_
      rintro e w1 ⟨v18, rfl, e18, h18, hb1⟩
      refine hK.out _ _ (below_next hHeld hHeld.size hb1) (fun hHeld => ?_)
      clear hK K
      try simp only [Act.put, List.setIfInBounds_toArray, List.set_cons_zero, List.set_cons_succ]
      refine wpAnyH_ready (rs := [1]) (by kernel_rfl) (by simp) ?_
      refine AllReadyH.cons (i := 1) (o := ⟨(some 19), _, _, _, _, _⟩) rfl (fun K hK => ?_) AllReadyH.nil
      go_simp
      refine (lnorm_any _ (hlaX.below hlaX.2 hHeld) v18 (h18.out)).mono ?_
      rintro e w2 ⟨v19, rfl, e19, h19, hb2⟩
      refine hK.out _ _ (below_next hHeld hHeld.size hb2) (fun hHeld => ?_)
      clear hK K
      try simp only [Act.put, List.setIfInBounds_toArray, List.set_cons_zero, List.set_cons_succ]
      obtain rfl : v19 = z32 := by rw [e19.out, e18.out, ln_ordW, z32_wl]; exact wl_of (by rw [Nat.mod_self, Nat.zero_mod])
      have q0 := eql_bytes_same (P := Tryd.prog) Tryd.underlying24 Tryd.underlying5 Tryd.sizeByte z32 (z32_len)
      refine wpAnyH_take (i := 3) (oi := ⟨(some 21), _, _, _, _, _⟩) (v := ?vq1_1) rfl (by kernel_rfl) (by kernel_rfl) (by kernel_rfl) (fun _ _ _ h => h) (Or.inl ⟨by rfl, ?yq1_1⟩) hHeld ?_
      case yq1_1 => (intro W0 hSw; go_simp; try with_reducible rfl)
      try simp only [Act.put, List.setIfInBounds_toArray, List.set_cons_zero, List.set_cons_succ]
      refine wpAnyH_take (i := 4) (oi := ⟨(some 22), _, _, _, _, _⟩) (v := ?vq1_2) rfl (by kernel_rfl) (by kernel_rfl) (by kernel_rfl) (fun _ _ _ h => h) (Or.inl ⟨by rfl, ?yq1_2⟩) hHeld ?_
      case yq1_2 => (intro W0 hSw; go_simp; try with_reducible rfl)
      try simp only [Act.put, List.setIfInBounds_toArray, List.set_cons_zero, List.set_cons_succ]
      refine wpAnyH_take (i := 5) (oi := ⟨(some 23), _, _, _, _, _⟩) (v := _) rfl (by kernel_rfl) (by kernel_rfl) (by kernel_rfl) (fun _ _ _ h => h) (yieldsIf_load_mid (by rfl) _ _ rfl G 0 rfl (bv LES) _ (fun W' hW' => range_row ((hW'.block _ sG).trans gG.out)) (Tryd.underlying24) (rfl) (by rw [bv_len, HLES.out]; kernel_rfl)) hHeld ?_
      try simp only [Act.put, List.setIfInBounds_toArray, List.set_cons_zero, List.set_cons_succ]
      refine wpAnyH_take (i := 6) (oi := ⟨(some 24), _, _, _, _, _⟩) (v := _) rfl (by kernel_rfl) (by kernel_rfl) (by kernel_rfl) (fun _ _ _ h => h) (yieldsIf_load_mid (by rfl) _ _ rfl G 0 rfl (bv LES) _ (fun W' hW' => range_row ((hW'.block _ sG).trans gG.out)) (Tryd.underlying24) (rfl) (by rw [bv_len, HLES.out]; kernel_rfl)) hHeld ?_
      try simp only [Act.put, List.setIfInBounds_toArray, List.set_cons_zero, List.set_cons_succ]
      refine wpAnyH_take (i := 8) (oi := ⟨(some 26), _, _, _, _, _⟩) (v := ?vq1_3) rfl (by kernel_rfl) (by kernel_rfl) (by kernel_rfl) (fun _ _ _ h => h) (Or.inl ⟨by rfl, ?yq1_3⟩) hHeld ?_
      case yq1_3 => (intro W0 hSw; go_simp; try with_reducible rfl)
      try simp only [Act.put, List.setIfInBounds_toArray, List.set_cons_zero, List.set_cons_succ]
      refine wpAnyH_ready (rs := [7]) (by kernel_rfl) (by simp) ?_
      refine AllReadyH.cons (i := 7) (o := ⟨(some 25), _, _, _, _, _⟩) rfl (fun K hK => ?_) AllReadyH.nil
      go_simp
      refine (lmul_any _ (hlaX.below hlaX.2 hHeld) LES LES (HLES.out) (HLES.out)).mono ?_
      rintro e w3 ⟨v25, rfl, e25, h25, hb3⟩
      refine hK.out _ _ (below_next hHeld hHeld.size hb3) (fun hHeld => ?_)
      clear hK K
      try simp only [Act.put, List.setIfInBounds_toArray, List.set_cons_zero, List.set_cons_succ]
      obtain rfl : ONE = v25 := Eq.symm (by rw [e25.out, lLES.out, ← wl_ln ONE HONE.out (by rw [lONE.out]; decide), lONE.out]; exact wl_of (by decide +kernel))
      have q1 := eql_bytes_same (P := Tryd.prog) Tryd.underlying24 Tryd.underlying5 Tryd.sizeByte ONE (HONE.out)
      refine wpAnyH_take (i := 9) (oi := ⟨(some 27), _, _, _, _, _⟩) (v := ?vq1_4) rfl (by kernel_rfl) (by kernel_rfl) (by kernel_rfl) (fun _ _ _ h => h) (Or.inl ⟨by rfl, ?yq1_4⟩) hHeld ?_
      case yq1_4 => (intro W0 hSw; go_simp; try with_reducible rfl)
      try simp only [Act.put, List.setIfInBounds_toArray, List.set_cons_zero, List.set_cons_succ]
      refine wpAnyH_take (i := 10) (oi := ⟨(some 28), _, _, _, _, _⟩) (v := ?vq1_5) rfl (by kernel_rfl) (by kernel_rfl) (by kernel_rfl) (fun _ _ _ h => h) (Or.inl ⟨by rfl, ?yq1_5⟩) hHeld ?_
      case yq1_5 => (intro W0 hSw; go_simp; try with_reducible rfl)
      try simp only [Act.put, List.setIfInBounds_toArray, List.set_cons_zero, List.set_cons_succ]
      refine wpAnyH_take (i := 11) (oi := ⟨(some 29), _, _, _, _, _⟩) (v := ?vq1_6) rfl (by kernel_rfl) (by kernel_rfl) (by kernel_rfl) (fun _ _ _ h => h) (Or.inl ⟨by rfl, ?yq1_6⟩) hHeld ?_
      case yq1_6 => (intro W0 hSw; go_simp; try with_reducible rfl)
      try simp only [Act.put, List.setIfInBounds_toArray, List.set_cons_zero, List.set_cons_succ]
      refine wpAnyH_take (i := 12) (oi := ⟨(some 30), _, _, _, _, _⟩) (v := _) rfl (by kernel_rfl) (by kernel_rfl) (by kernel_rfl) (fun _ _ _ h => h) (yieldsIf_load_mid (by rfl) _ _ rfl G 0 rfl (bv LES) _ (fun W' hW' => range_row ((hW'.block _ sG).trans gG.out)) (Tryd.underlying24) (rfl) (by rw [bv_len, HLES.out]; kernel_rfl)) hHeld ?_
      try simp only [Act.put, List.setIfInBounds_toArray, List.set_cons_zero, List.set_cons_succ]
      refine wpAnyH_take (i := 13) (oi := ⟨(some 31), _, _, _, _, _⟩) (v := ?vq1_7) rfl (by kernel_rfl) (by kernel_rfl) (by kernel_rfl) (fun _ _ _ h => h) (Or.inl ⟨by rfl, ?yq1_7⟩) hHeld ?_
      case yq1_7 => (intro W0 hSw; go_simp; try with_reducible rfl)
      try simp only [Act.put, List.setIfInBounds_toArray, List.set_cons_zero, List.set_cons_succ]
      refine wpAnyH_take (i := 15) (oi := ⟨(some 33), _, _, _, _, _⟩) (v := ?vq1_8) rfl (by kernel_rfl) (by kernel_rfl) (by kernel_rfl) (fun _ _ _ h => h) (Or.inl ⟨by rfl, ?yq1_8⟩) hHeld ?_
      case yq1_8 => (intro W0 hSw; go_simp; try with_reducible rfl)
      try simp only [Act.put, List.setIfInBounds_toArray, List.set_cons_zero, List.set_cons_succ]
      refine wpAnyH_ready (rs := [14]) (by kernel_rfl) (by simp) ?_
      refine AllReadyH.cons (i := 14) (o := ⟨(some 32), _, _, _, _, _⟩) rfl (fun K hK => ?_) AllReadyH.nil
      go_simp
      refine (ladd_any _ (hlaX.below hlaX.2 hHeld) LES ONE (HLES.out) (HONE.out)).mono ?_
      rintro e w4 ⟨v32, rfl, e32, h32, hb4⟩
      refine hK.out _ _ (below_next hHeld hHeld.size hb4) (fun hHeld => ?_)
      clear hK K
      try simp only [Act.put, List.setIfInBounds_toArray, List.set_cons_zero, List.set_cons_succ]
      obtain rfl : v32 = z32 := by rw [e32.out, lLES.out, lONE.out, z32_wl]; exact wl_of (by decide +kernel)
      have q2 := eql_bytes_same (P := Tryd.prog) Tryd.underlying24 Tryd.underlying5 Tryd.sizeByte z32 (z32_len)
      refine wpAnyH_take (i := 16) (oi := ⟨(some 34), _, _, _, _, _⟩) (v := ?vq1_9) rfl (by kernel_rfl) (by kernel_rfl) (by kernel_rfl) (fun _ _ _ h => h) (Or.inl ⟨by rfl, ?yq1_9⟩) hHeld ?_
      case yq1_9 => (intro W0 hSw; go_simp; try with_reducible rfl)
      try simp only [Act.put, List.setIfInBounds_toArray, List.set_cons_zero, List.set_cons_succ]
      refine wpAnyH_take (i := 17) (oi := ⟨(some 35), _, _, _, _, _⟩) (v := ?vq1_10) rfl (by kernel_rfl) (by kernel_rfl) (by kernel_rfl) (fun _ _ _ h => h) (Or.inl ⟨by rfl, ?yq1_10⟩) hHeld ?_
      case yq1_10 => (intro W0 hSw; go_simp; try with_reducible rfl)
      try simp only [Act.put, List.setIfInBounds_toArray, List.set_cons_zero, List.set_cons_succ]
      refine wpAnyH_take (i := 18) (oi := ⟨(some 36), _, _, _, _, _⟩) (v := ?vq1_11) rfl (by kernel_rfl) (by kernel_rfl) (by kernel_rfl) (fun _ _ _ h => h) (Or.inl ⟨by rfl, ?yq1_11⟩) hHeld ?_
      case yq1_11 => (intro W0 hSw; go_simp; try with_reducible rfl)
      try simp only [Act.put, List.setIfInBounds_toArray, List.set_cons_zero, List.set_cons_succ]
      refine wpAnyH_take (i := 19) (oi := ⟨(some 37), _, _, _, _, _⟩) (v := ?vq1_12) rfl (by kernel_rfl) (by kernel_rfl) (by kernel_rfl) (fun _ _ _ h => h) (Or.inl ⟨by rfl, ?yq1_12⟩) hHeld ?_
      case yq1_12 => (intro W0 hSw; go_simp; try with_reducible rfl)
      try simp only [Act.put, List.setIfInBounds_toArray, List.set_cons_zero, List.set_cons_succ]
      refine wpAnyH_take (i := 21) (oi := ⟨(some 39), _, _, _, _, _⟩) (v := ?vq1_13) rfl (by kernel_rfl) (by kernel_rfl) (by kernel_rfl) (fun _ _ _ h => h) (Or.inl ⟨by rfl, ?yq1_13⟩) hHeld ?_
      case yq1_13 => (intro W0 hSw; go_simp; try with_reducible rfl)
      try simp only [Act.put, List.setIfInBounds_toArray, List.set_cons_zero, List.set_cons_succ]
      refine wpAnyH_ready (rs := [20]) (by kernel_rfl) (by simp) ?_
      refine AllReadyH.cons (i := 20) (o := ⟨(some 38), _, _, _, _, _⟩) rfl (fun K hK => ?_) AllReadyH.nil
      go_simp
      refine (llong_any _ (hlaX.below hlaX.2 hHeld) Z (HZL.out)).mono ?_
      rintro e w5 ⟨v38, rfl, e38, h38, hb5⟩
      refine hK.out _ _ (below_next hHeld hHeld.size hb5) (fun hHeld => ?_)
      clear hK K
      try simp only [Act.put, List.setIfInBounds_toArray, List.set_cons_zero, List.set_cons_succ]
      obtain rfl : v38 = z32 := by rw [e38.out, HZ.out, ln_zeros, z32_wl]
      have q3 := eql_bytes_same (P := Tryd.prog) Tryd.underlying24 Tryd.underlying5 Tryd.sizeByte z32 (z32_len)
      refine wpAnyH_take (i := 22) (oi := ⟨(some 40), _, _, _, _, _⟩) (v := ?vq1_14) rfl (by kernel_rfl) (by kernel_rfl) (by kernel_rfl) (fun _ _ _ h => h) (Or.inl ⟨by rfl, ?yq1_14⟩) hHeld ?_
      case yq1_14 => (intro W0 hSw; go_simp; try with_reducible rfl)
      try simp only [Act.put, List.setIfInBounds_toArray, List.set_cons_zero, List.set_cons_succ]
      refine wpAnyH_take (i := 23) (oi := ⟨(some 41), _, _, _, _, _⟩) (v := ?vq1_15) rfl (by kernel_rfl) (by kernel_rfl) (by kernel_rfl) (fun _ _ _ h => h) (Or.inl ⟨by rfl, ?yq1_15⟩) hHeld ?_
      case yq1_15 => (intro W0 hSw; go_simp; try with_reducible rfl)
      try simp only [Act.put, List.setIfInBounds_toArray, List.set_cons_zero, List.set_cons_succ]
      refine wpAnyH_take (i := 24) (oi := ⟨(some 42), _, _, _, _, _⟩) (v := ?vq1_16) rfl (by kernel_rfl) (by kernel_rfl) (by kernel_rfl) (fun _ _ _ h => h) (Or.inl ⟨by rfl, ?yq1_16⟩) hHeld ?_
      case yq1_16 => (intro W0 hSw; go_simp; try with_reducible rfl)
      try simp only [Act.put, List.setIfInBounds_toArray, List.set_cons_zero, List.set_cons_succ]
      refine wpAnyH_take (i := 25) (oi := ⟨(some 43), _, _, _, _, _⟩) (v := _) rfl (by kernel_rfl) (by kernel_rfl) (by kernel_rfl) (fun _ _ _ h => h) (yieldsIf_load_mid (by rfl) _ _ rfl H 0 rfl (bv LO) _ (fun W' hW' => range_row ((hW'.block _ sH).trans gH.out)) (Tryd.underlying26) (rfl) (by rw [bv_len, HLO.out]; kernel_rfl)) hHeld ?_
      try simp only [Act.put, List.setIfInBounds_toArray, List.set_cons_zero, List.set_cons_succ]
      refine wpAnyH_take (i := 27) (oi := ⟨(some 45), _, _, _, _, _⟩) (v := ?vq1_17) rfl (by kernel_rfl) (by kernel_rfl) (by kernel_rfl) (fun _ _ _ h => h) (Or.inl ⟨by rfl, ?yq1_17⟩) hHeld ?_
      case yq1_17 => (intro W0 hSw; go_simp; try with_reducible rfl)
      try simp only [Act.put, List.setIfInBounds_toArray, List.set_cons_zero, List.set_cons_succ]
      refine wpAnyH_ready (rs := [26]) (by kernel_rfl) (by simp) ?_
      refine AllReadyH.cons (i := 26) (o := ⟨(some 44), _, _, _, _, _⟩) rfl (fun K hK => ?_) AllReadyH.nil
      go_simp
      refine (llong_any _ (hlaX.below hlaX.2 hHeld) LO (HLO.out)).mono ?_
      rintro e w6 ⟨v44, rfl, e44, h44, hb6⟩
      refine hK.out _ _ (below_next hHeld hHeld.size hb6) (fun hHeld => ?_)
      clear hK K
      try simp only [Act.put, List.setIfInBounds_toArray, List.set_cons_zero, List.set_cons_succ]
      refine wpAnyH_ready (rs := [28]) (by kernel_rfl) (by simp) ?_
      refine AllReadyH.cons (i := 28) (o := ⟨(some 46), _, _, _, _, _⟩) rfl (fun K hK => ?_) AllReadyH.nil
      go_simp
      refine (rmod_any _ (some ⟨H, 0, none⟩) 64 64 LO (byt_row ((hHeld.block _ sH).trans gH.out)) HLO.out (by decide)).mono ?_
      rintro e w7 ⟨v46, rfl, e46, h46, hb7⟩
      refine hK.out _ _ (below_next hHeld hHeld.size hb7) (fun hHeld => ?_)
      clear hK K
      try simp only [Act.put, List.setIfInBounds_toArray, List.set_cons_zero, List.set_cons_succ]
      obtain rfl : v44 = v46 := by rw [e44.out, e46.out]
      have q4 := eql_bytes_same (P := Tryd.prog) Tryd.underlying24 Tryd.underlying5 Tryd.sizeByte v44 (h44.out)
      refine wpAnyH_take (i := 29) (oi := ⟨(some 47), _, _, _, _, _⟩) (v := ?vq1_18) rfl (by kernel_rfl) (by kernel_rfl) (by kernel_rfl) (fun _ _ _ h => h) (Or.inl ⟨by rfl, ?yq1_18⟩) hHeld ?_
      case yq1_18 => (intro W0 hSw; go_simp; try with_reducible rfl)
      try simp only [Act.put, List.setIfInBounds_toArray, List.set_cons_zero, List.set_cons_succ]
      refine wpAnyH_take (i := 30) (oi := ⟨(some 48), _, _, _, _, _⟩) (v := ?vq1_19) rfl (by kernel_rfl) (by kernel_rfl) (by kernel_rfl) (fun _ _ _ h => h) (Or.inl ⟨by rfl, ?yq1_19⟩) hHeld ?_
      case yq1_19 => (intro W0 hSw; go_simp; try with_reducible rfl)
      try simp only [Act.put, List.setIfInBounds_toArray, List.set_cons_zero, List.set_cons_succ]
      refine wpAnyH_take (i := 31) (oi := ⟨(some 0), _, _, _, _, _⟩) (v := ?vq1_20) rfl (by kernel_rfl) (by kernel_rfl) (by kernel_rfl) (fun _ _ _ h => h) (Or.inl ⟨by rfl, ?yq1_20⟩) hHeld ?_
      case yq1_20 => (intro W0 hSw; go_simp; try with_reducible rfl)
      try simp only [Act.put, List.setIfInBounds_toArray, List.set_cons_zero]
      refine wpAnyH_done (by kernel_rfl) ?_ _
      go_wp2
      go_ret
      exact ⟨rfl, below_next hbX hbX.size hHeld⟩
end Go.Proofs.YtlobejnohkecdaaDoor
