/-
  ScalarSmall: the law's Go text returns true, whatever the input. Conditions: none beyond the row's own.
-/
import Derived.Test.YtlobejnohkecdaaDoorScY
namespace Go.Proofs.YtlobejnohkecdaaDoor
open Go.RowKit

theorem less_back2 (x y : Nat) : (x + y + y * (FL - 1)) % FL = x % FL := by
  have e : x + y + y * (FL - 1) = x + FL * y := by
    have h : FL - 1 + 1 = FL := by decide
    have h2 : y * (FL - 1 + 1) = y * FL := by rw [h]
    rw [Nat.mul_add, Nat.mul_one] at h2
    rw [Nat.add_assoc, Nat.add_comm y, h2, Nat.mul_comm]
  rw [e, Nat.add_mul_mod_self_left]
theorem eight_word (s : Nat) (h : s < 18446744073709551616) : uptoB 32 (le s 8) = wk s ∧ ln (uptoB 32 (le s 8)) = s := by
  have e : wk s = uptoB 32 (le s 8) := by
    rw [wk, show (32 : Nat) = 8 + 24 from rfl, le_add, show (2 : Nat) ^ (8 * 8) = 18446744073709551616 by decide, Nat.div_eq_of_lt h, le_zero, uptoB, le_len]
  refine ⟨e.symm, ?_⟩
  rw [← e, wk, ln_le, Nat.mod_eq_of_lt (Nat.lt_trans h (by decide))]
theorem prod_small (a b : Nat) (ha : a < 4294967296) (hb : b < 4294967296) : a * b < 18446744073709551616 := Nat.lt_of_le_of_lt (Nat.mul_le_mul (show a ≤ 4294967295 by omega) (show b ≤ 4294967295 by omega)) (by decide)
theorem built_wz : Tryd.prog.built 24 [] = some (bv z32).toArray := by kernel_rfl
set_option maxRecDepth 100000 in
set_option maxHeartbeats 4000000 in
theorem walk_ScalarSmall (w : World) (hla : LaidO w) (a : Nat) (ha : a < 4294967296) (b : Nat) (hb : b < 4294967296) :
    Calls Tryd.prog 7 #[.int .u32 (a : Int), .int .u32 (b : Int)] w fun e w' => e = .returned (.bool true) ∧ Below w.heap.size w w' := by
  have hzw := zero_word
  have hsX := set_four_w a ha
  have hsY := set_four_w b hb
  obtain ⟨X, dX, HX, lX⟩ := const_wk a (Nat.lt_trans ha (by decide))
  obtain ⟨Y, dY, HY, lY⟩ := const_wk b (Nat.lt_trans hb (by decide))
  rw [← dX] at hsX
  rw [← dY] at hsY
  have hp := prod_small a b ha hb
  have haF : a < FL := Nat.lt_trans ha (by decide)
  have hsF : a + b < FL := Nat.lt_trans (show a + b < 8589934592 by omega) (by decide)
  have hpF : a * b < FL := Nat.lt_trans hp (by decide)
  have hs : a + b < 18446744073709551616 := by omega
  have hnz := bv_z32_ne
  clear dX dY
  obtain ⟨s, hsE⟩ : ∃ s, s = a + b := ⟨_, rfl⟩
  obtain ⟨p, hpE⟩ : ∃ p, p = a * b := ⟨_, rfl⟩
  have esum : (a : Int) + (b : Int) = (s : Int) := by omega
  have eprod : IntKind.u64.wrap ((a : Int) * (b : Int)) = (p : Int) := by rw [mulN, wrapN _ hp, hpE]
  have ls : s < 18446744073709551616 := by omega
  have lp : p < 18446744073709551616 := by rw [hpE]; exact hp
  have HSE := vlt hsE
  have HPE := vlt hpE
  clear hs hp hsE hpE
  go_enter Tryd.func7, Tryd.ntmps7
  go_wp2_with fail
  refine (awake8_any w hla).mono ?_
  rintro e V ⟨rfl, hbV⟩
  have hlaV := hla.below hla.2 hbV
  go_upto_region 4 with ((with_reducible refine wpList_store_row rfl 24 (.tmp 5) (.tmp 25) rfl V.heap.size (bv X).toArray rfl rfl 24 _ (heap_alloc_new _ _) (by rw [bv_size X HX.out]; kernel_rfl) (by rw [bv_size X HX.out]; kernel_rfl) (all_oneCell_toArray (bv_one _)) ?_); rw [World.setRow_alloc_new])
  obtain ⟨V1, hX, gX, hBV1, hsX⟩ := one_new V (bv X).toArray 24
  rw [hX]
  have hbV1 := below_next hbV hbV.size hBV1
  have hlaV1 := hlaV.below hlaV.2 hBV1
  obtain ⟨GX, hG⟩ : ∃ G, G = V.heap.size := ⟨_, rfl⟩
  have hGXw : w.heap.size ≤ GX := by rw [hG]; exact hbV.size
  rw [← hG] at gX ⊢
  have sGX : GX < V1.heap.size := (Array.getElem?_eq_some_iff.1 gX.out).1
  clear hX hsX hG
  go_upto_region 5 with ((with_reducible refine wpList_store_row rfl 24 (.tmp 6) (.tmp 37) rfl V1.heap.size (bv Y).toArray rfl rfl 24 _ (heap_alloc_new _ _) (by rw [bv_size Y HY.out]; kernel_rfl) (by rw [bv_size Y HY.out]; kernel_rfl) (all_oneCell_toArray (bv_one _)) ?_); rw [World.setRow_alloc_new])
  obtain ⟨V2, hX, gY, hBV2, hsX⟩ := one_new V1 (bv Y).toArray 24
  rw [hX]
  have hbV2 := below_next hbV1 hbV1.size hBV2
  have hlaV2 := hlaV1.below hlaV1.2 hBV2
  obtain ⟨GY, hG⟩ : ∃ G, G = V1.heap.size := ⟨_, rfl⟩
  have hGYw : w.heap.size ≤ GY := by rw [hG]; exact hbV1.size
  rw [← hG] at gY ⊢
  have sGY : GY < V2.heap.size := (Array.getElem?_eq_some_iff.1 gY.out).1
  clear hX hsX hG
  have gX2 := Lib.hid ((hBV2.block GX sGX).trans gX.out)
  have hbuild := built_wz
  go_upto_region 7 with (first
    | (with_reducible refine wpList_build_as rfl 24 rfl (bv z32).toArray hbuild ?_)
    | (with_reducible refine wpList_store_row rfl 24 (.tmp 9) (.tmp 48) rfl V2.heap.size (bv z32).toArray rfl rfl 24 _ (heap_alloc2_old _ _ _) (by kernel_rfl) (by kernel_rfl) (all_oneCell_toArray (bv_one _)) ?_)
    | (with_reducible refine wpList_store_row rfl 24 (.tmp 10) (.tmp 49) rfl (V2.heap.size + 1) (bv z32).toArray rfl rfl 24 _ ((setRow_other _ _ _ _ (by omega)).trans (heap_alloc2_new _ _ _)) (by kernel_rfl) (by kernel_rfl) (all_oneCell_toArray (bv_one _)) ?_))
  obtain ⟨V3, hV3⟩ : ∃ u0, u0 = (((V2.alloc (.cells (bv z32).toArray 24)).alloc (.cells (bv z32).toArray 24)).setRow V2.heap.size (bv z32).toArray).setRow (V2.heap.size + 1) (bv z32).toArray := ⟨_, rfl⟩
  rw [← hV3]
  have hBV3 : Below V2.heap.size V2 V3 := by rw [hV3]; exact below_setRow (below_setRow (((Below.refl _ _).alloc (Nat.le_refl _) _).alloc (by simp) _) (Nat.le_refl _) _) (by omega) _
  have gU3 : Hid (V3.heap[V2.heap.size]? = some (.cells (bv z32).toArray 24 (0, 0))) := by rw [hV3]; exact (setRow_other _ _ _ _ (by omega)).trans (setRow_heap _ _ _ _ _ _ (heap_alloc2_old _ _ _))
  have gP3 : Hid (V3.heap[V2.heap.size + 1]? = some (.cells (bv z32).toArray 24 (0, 0))) := by rw [hV3]; exact setRow_heap _ _ _ _ _ _ ((setRow_other _ _ _ _ (by omega)).trans (heap_alloc2_new _ _ _))
  have hbV3 := below_next hbV2 hbV2.size hBV3
  have hlaV3 := hlaV2.below hlaV2.2 hBV3
  have gX3 := Lib.hid ((hBV3.block GX (by have := hBV2.size; omega)).trans gX2.out)
  have gY3 := Lib.hid ((hBV3.block GY sGY).trans gY.out)
  obtain ⟨GU, hGU⟩ : ∃ G, G = V2.heap.size := ⟨_, rfl⟩
  obtain ⟨GP, hGP⟩ : ∃ G, G = GU + 1 := ⟨_, rfl⟩
  have lGX : GX < GU := by have := hBV2.size; omega
  have lGY : GY < GU := by omega
  have lGw : w.heap.size ≤ GU := by rw [hGU]; exact hbV2.size
  have lGg : 0 < GU := by rw [hGU]; exact hlaV2.2
  rw [← hGU, ← hGP] at gP3 ⊢
  rw [← hGU] at gU3
  have lGP : GU < GP := by omega
  have sGU3 : GU < V3.heap.size := (Array.getElem?_eq_some_iff.1 gU3.out).1
  clear hV3 hBV3 hBV2 gX gX2 gY hGU hGP hbV2 hlaV2 hbuild hsX hsY esum eprod
  go_wp2_with fail
  go_loopw [11] (fun i wr => ∃ k : Nat, k ≤ 8 ∧ i = .int .i64 (k : Int) ∧ Hid (wr.heap[GU]? = some (.cells (bv (uptoB 32 (le s k))).toArray 24 (0, 0))) ∧ Hid (wr.heap[GP]? = some (.cells (bv (uptoB 32 (le p k))).toArray 24 (0, 0))) ∧ Below GU V3 wr) (fun i _ => 8 - (intOf i).toNat)
  case atStart => exact ⟨0, by omega, rfl, gU3, gP3, Below.refl _ _⟩
  case round =>
    clear gU3 gP3
    obtain ⟨k, hk, rfl, gu, gp, hbt⟩ := hrel
    by_cases hlt : k < 8
    · have f0 : wr.frozen? ⟨GU, k, none⟩ = false := frozen_of_row _ _ _ _ _ gu.out
      obtain ⟨u0, c0⟩ : ∃ u, wr.cell? ⟨GU, k, none⟩ = some u := by
        rw [cell_of_row _ _ _ _ _ _ gu.out]
        exact ⟨_, List.getElem?_toArray .. ▸ List.getElem?_eq_getElem (by rw [bv_len, uptoB_len _ _ (by rw [le_len]; omega)]; omega)⟩
      have hset := world_set_cell gu.out k (.int .u8 ((s : Int) / 2 ^ (8 * k) % 256))
      rw [byte_of s (8 * k), bv_set, le_set _ _ (by omega), ← byte_of s (8 * k)] at hset
      have gp1 : Hid ((wr.setCell ⟨GU, k, none⟩ (.int .u8 ((s : Int) / 2 ^ (8 * k) % 256))).heap[GP]? = some (.cells (bv (uptoB 32 (le p k))).toArray 24 (0, 0))) := (heap_setCell_other wr _ _ _ (by show GP ≠ GU; omega)).trans gp.out
      have hb1 := hbt.setCell (p := ⟨GU, k, none⟩) (Nat.le_refl _) (.int .u8 ((s : Int) / 2 ^ (8 * k) % 256))
      have f1 : (wr.setCell ⟨GU, k, none⟩ (.int .u8 ((s : Int) / 2 ^ (8 * k) % 256))).frozen? ⟨GP, k, none⟩ = false := frozen_of_row _ _ _ _ _ gp1.out
      obtain ⟨u1, c1⟩ : ∃ u, (wr.setCell ⟨GU, k, none⟩ (.int .u8 ((s : Int) / 2 ^ (8 * k) % 256))).cell? ⟨GP, k, none⟩ = some u := by
        rw [cell_of_row _ _ _ _ _ _ gp1.out]
        exact ⟨_, List.getElem?_toArray .. ▸ List.getElem?_eq_getElem (by rw [bv_len, uptoB_len _ _ (by rw [le_len]; omega)]; omega)⟩
      have hset2 := world_set_cell gp1.out k (.int .u8 ((p : Int) / 2 ^ (8 * k) % 256))
      rw [byte_of p (8 * k), bv_set, le_set _ _ (by omega), ← byte_of p (8 * k)] at hset2
      have gu2 : Hid (((wr.setCell ⟨GU, k, none⟩ (.int .u8 ((s : Int) / 2 ^ (8 * k) % 256))).setCell ⟨GP, k, none⟩ (.int .u8 ((p : Int) / 2 ^ (8 * k) % 256))).heap[GU]? = some (.cells (bv (uptoB 32 (le s (k + 1)))).toArray 24 (0, 0))) := (heap_setCell_other _ _ _ _ (by show GU ≠ GP; omega)).trans hset.out
      have hb2 := hb1.setCell (p := ⟨GP, k, none⟩) (show GU ≤ GP by omega) (.int .u8 ((p : Int) / 2 ^ (8 * k) % 256))
      clear hset gp1 hb1
      go_wp2
      go_roundw
      case rel => exact ⟨k + 1, by omega, by go_num, gu2, hset2, hb2⟩
      case measure => simp [intOf]; omega
    · obtain rfl : k = 8 := by omega
      have h8s := eight_word s ls
      have h8p := eight_word p lp
      have HU := Lib.hid (show (uptoB 32 (le s 8)).length = 32 from uptoB_len _ _ (by rw [le_len]; decide))
      have HP := Lib.hid (show (uptoB 32 (le p 8)).length = 32 from uptoB_len _ _ (by rw [le_len]; decide))
      have lU := vlt (show ln (uptoB 32 (le s 8)) = a + b by rw [h8s.2, HSE.out])
      have lP := vlt (show ln (uptoB 32 (le p 8)) = a * b by rw [h8p.2, HPE.out])
      clear h8s h8p
      generalize uptoB 32 (le s 8) = U at *
      generalize uptoB 32 (le p 8) = P at *
      go_upto_region 11 with fail
      obtain ⟨Z, hZ⟩ : ∃ Z, Z = wr := ⟨_, rfl⟩
      subst hZ
      have gX := Lib.hid ((hbt.block GX lGX).trans gX3.out)
      have gY := Lib.hid ((hbt.block GY lGY).trans gY3.out)
      have gU := gu
      have gP := gp
      have hlaZ := hlaV3.below lGg hbt
      have hbZ : Below w.heap.size w Z := ⟨hbt.os.trans hbV3.os, hbt.tape.trans hbV3.tape, hbt.output.trans hbV3.output, Nat.le_trans hbV3.size hbt.size, fun k hk => (hbt.block k (by omega)).trans (hbV3.block k hk)⟩
      have sGX : GX < Z.heap.size := (Array.getElem?_eq_some_iff.1 gX.out).1
      have sGY : GY < Z.heap.size := (Array.getElem?_eq_some_iff.1 gY.out).1
      have sGU : GU < Z.heap.size := (Array.getElem?_eq_some_iff.1 gU.out).1
      have sGP : GP < Z.heap.size := (Array.getElem?_eq_some_iff.1 gP.out).1
      clear gX3 gY3 gu gp hbt hbV3 hlaV3
      refine wp_region_held_drew (S := (fun W' => Below Z.heap.size Z W')) (by kernel_rfl) ((Below.refl _ _).drew) (fun hHeld => ?_)
      refine wpAnyH_take (i := 0) (oi := ⟨(some 70), _, _, _, _, _⟩) (v := _) rfl (by kernel_rfl) (by kernel_rfl) (by kernel_rfl) (fun _ _ _ h => h) (yieldsIf_load_mid (by rfl) _ _ rfl GX 0 rfl (bv X) _ (fun W' hW' => range_row ((hW'.block _ sGX).trans gX.out)) (Tryd.underlying24) (rfl) (by rw [bv_len, HX.out]; kernel_rfl)) hHeld ?_
      try simp only [Act.put, List.setIfInBounds_toArray, List.set_cons_zero, List.set_cons_succ]
      refine wpAnyH_take (i := 1) (oi := ⟨(some 71), _, _, _, _, _⟩) (v := _) rfl (by kernel_rfl) (by kernel_rfl) (by kernel_rfl) (fun _ _ _ h => h) (yieldsIf_load_mid (by rfl) _ _ rfl GY 0 rfl (bv Y) _ (fun W' hW' => range_row ((hW'.block _ sGY).trans gY.out)) (Tryd.underlying24) (rfl) (by rw [bv_len, HY.out]; kernel_rfl)) hHeld ?_
      try simp only [Act.put, List.setIfInBounds_toArray, List.set_cons_zero, List.set_cons_succ]
      refine wpAnyH_take (i := 3) (oi := ⟨(some 73), _, _, _, _, _⟩) (v := _) rfl (by kernel_rfl) (by kernel_rfl) (by kernel_rfl) (fun _ _ _ h => h) (yieldsIf_load_mid (by rfl) _ _ rfl GU 0 rfl (bv U) _ (fun W' hW' => range_row ((hW'.block _ sGU).trans gU.out)) (Tryd.underlying24) (rfl) (by rw [bv_len, HU.out]; kernel_rfl)) hHeld ?_
      try simp only [Act.put, List.setIfInBounds_toArray, List.set_cons_zero, List.set_cons_succ]
      refine wpAnyH_ready (rs := [2]) (by kernel_rfl) (by simp) ?_
      refine AllReadyH.cons (i := 2) (o := ⟨(some 72), _, _, _, _, _⟩) rfl (fun K hK => ?_) AllReadyH.nil
      go_simp
      refine (ladd_any _ (hlaZ.below hlaZ.2 hHeld) X Y (HX.out) (HY.out)).mono ?_
      rintro e w1 ⟨v72, rfl, e72, h72, hb1⟩
      refine hK.out _ _ (below_next hHeld hHeld.size hb1) (fun hHeld => ?_)
      clear hK K
      try simp only [Act.put, List.setIfInBounds_toArray, List.set_cons_zero, List.set_cons_succ]
      obtain rfl : U = v72 := Eq.symm (by rw [e72.out, lX.out, lY.out, ← lU.out]; exact wl_ln U HU.out (by rw [lU.out]; exact hsF))
      have q0 := eql_bytes_same (P := Tryd.prog) Tryd.underlying24 Tryd.underlying5 Tryd.sizeByte U (HU.out)
      refine wpAnyH_take (i := 4) (oi := ⟨(some 74), _, _, _, _, _⟩) (v := ?vq1_0) rfl (by kernel_rfl) (by kernel_rfl) (by kernel_rfl) (fun _ _ _ h => h) (Or.inl ⟨by rfl, ?yq1_0⟩) hHeld ?_
      case yq1_0 => (intro W0 hSw; go_simp; try with_reducible rfl)
      try simp only [Act.put, List.setIfInBounds_toArray, List.set_cons_zero, List.set_cons_succ]
      refine wpAnyH_take (i := 5) (oi := ⟨(some 75), _, _, _, _, _⟩) (v := ?vq1_1) rfl (by kernel_rfl) (by kernel_rfl) (by kernel_rfl) (fun _ _ _ h => h) (Or.inl ⟨by rfl, ?yq1_1⟩) hHeld ?_
      case yq1_1 => (intro W0 hSw; go_simp; try with_reducible rfl)
      try simp only [Act.put, List.setIfInBounds_toArray, List.set_cons_zero, List.set_cons_succ]
      refine wpAnyH_take (i := 6) (oi := ⟨(some 76), _, _, _, _, _⟩) (v := _) rfl (by kernel_rfl) (by kernel_rfl) (by kernel_rfl) (fun _ _ _ h => h) (yieldsIf_load_mid (by rfl) _ _ rfl GX 0 rfl (bv X) _ (fun W' hW' => range_row ((hW'.block _ sGX).trans gX.out)) (Tryd.underlying24) (rfl) (by rw [bv_len, HX.out]; kernel_rfl)) hHeld ?_
      try simp only [Act.put, List.setIfInBounds_toArray, List.set_cons_zero, List.set_cons_succ]
      refine wpAnyH_take (i := 7) (oi := ⟨(some 77), _, _, _, _, _⟩) (v := _) rfl (by kernel_rfl) (by kernel_rfl) (by kernel_rfl) (fun _ _ _ h => h) (yieldsIf_load_mid (by rfl) _ _ rfl GY 0 rfl (bv Y) _ (fun W' hW' => range_row ((hW'.block _ sGY).trans gY.out)) (Tryd.underlying24) (rfl) (by rw [bv_len, HY.out]; kernel_rfl)) hHeld ?_
      try simp only [Act.put, List.setIfInBounds_toArray, List.set_cons_zero, List.set_cons_succ]
      refine wpAnyH_take (i := 9) (oi := ⟨(some 79), _, _, _, _, _⟩) (v := _) rfl (by kernel_rfl) (by kernel_rfl) (by kernel_rfl) (fun _ _ _ h => h) (yieldsIf_load_mid (by rfl) _ _ rfl GP 0 rfl (bv P) _ (fun W' hW' => range_row ((hW'.block _ sGP).trans gP.out)) (Tryd.underlying24) (rfl) (by rw [bv_len, HP.out]; kernel_rfl)) hHeld ?_
      try simp only [Act.put, List.setIfInBounds_toArray, List.set_cons_zero, List.set_cons_succ]
      refine wpAnyH_ready (rs := [8]) (by kernel_rfl) (by simp) ?_
      refine AllReadyH.cons (i := 8) (o := ⟨(some 78), _, _, _, _, _⟩) rfl (fun K hK => ?_) AllReadyH.nil
      go_simp
      refine (lmul_any _ (hlaZ.below hlaZ.2 hHeld) X Y (HX.out) (HY.out)).mono ?_
      rintro e w2 ⟨v78, rfl, e78, h78, hb2⟩
      refine hK.out _ _ (below_next hHeld hHeld.size hb2) (fun hHeld => ?_)
      clear hK K
      try simp only [Act.put, List.setIfInBounds_toArray, List.set_cons_zero, List.set_cons_succ]
      obtain rfl : P = v78 := Eq.symm (by rw [e78.out, lX.out, lY.out, ← lP.out]; exact wl_ln P HP.out (by rw [lP.out]; exact hpF))
      have q1 := eql_bytes_same (P := Tryd.prog) Tryd.underlying24 Tryd.underlying5 Tryd.sizeByte P (HP.out)
      refine wpAnyH_take (i := 10) (oi := ⟨(some 80), _, _, _, _, _⟩) (v := ?vq1_2) rfl (by kernel_rfl) (by kernel_rfl) (by kernel_rfl) (fun _ _ _ h => h) (Or.inl ⟨by rfl, ?yq1_2⟩) hHeld ?_
      case yq1_2 => (intro W0 hSw; go_simp; try with_reducible rfl)
      try simp only [Act.put, List.setIfInBounds_toArray, List.set_cons_zero, List.set_cons_succ]
      refine wpAnyH_take (i := 11) (oi := ⟨(some 81), _, _, _, _, _⟩) (v := ?vq1_3) rfl (by kernel_rfl) (by kernel_rfl) (by kernel_rfl) (fun _ _ _ h => h) (Or.inl ⟨by rfl, ?yq1_3⟩) hHeld ?_
      case yq1_3 => (intro W0 hSw; go_simp; try with_reducible rfl)
      try simp only [Act.put, List.setIfInBounds_toArray, List.set_cons_zero, List.set_cons_succ]
      refine wpAnyH_take (i := 12) (oi := ⟨(some 82), _, _, _, _, _⟩) (v := ?vq1_4) rfl (by kernel_rfl) (by kernel_rfl) (by kernel_rfl) (fun _ _ _ h => h) (Or.inl ⟨by rfl, ?yq1_4⟩) hHeld ?_
      case yq1_4 => (intro W0 hSw; go_simp; try with_reducible rfl)
      try simp only [Act.put, List.setIfInBounds_toArray, List.set_cons_zero, List.set_cons_succ]
      refine wpAnyH_take (i := 13) (oi := ⟨(some 83), _, _, _, _, _⟩) (v := _) rfl (by kernel_rfl) (by kernel_rfl) (by kernel_rfl) (fun _ _ _ h => h) (yieldsIf_load_mid (by rfl) _ _ rfl GU 0 rfl (bv U) _ (fun W' hW' => range_row ((hW'.block _ sGU).trans gU.out)) (Tryd.underlying24) (rfl) (by rw [bv_len, HU.out]; kernel_rfl)) hHeld ?_
      try simp only [Act.put, List.setIfInBounds_toArray, List.set_cons_zero, List.set_cons_succ]
      refine wpAnyH_take (i := 14) (oi := ⟨(some 84), _, _, _, _, _⟩) (v := _) rfl (by kernel_rfl) (by kernel_rfl) (by kernel_rfl) (fun _ _ _ h => h) (yieldsIf_load_mid (by rfl) _ _ rfl GY 0 rfl (bv Y) _ (fun W' hW' => range_row ((hW'.block _ sGY).trans gY.out)) (Tryd.underlying24) (rfl) (by rw [bv_len, HY.out]; kernel_rfl)) hHeld ?_
      try simp only [Act.put, List.setIfInBounds_toArray, List.set_cons_zero, List.set_cons_succ]
      refine wpAnyH_take (i := 16) (oi := ⟨(some 86), _, _, _, _, _⟩) (v := _) rfl (by kernel_rfl) (by kernel_rfl) (by kernel_rfl) (fun _ _ _ h => h) (yieldsIf_load_mid (by rfl) _ _ rfl GX 0 rfl (bv X) _ (fun W' hW' => range_row ((hW'.block _ sGX).trans gX.out)) (Tryd.underlying24) (rfl) (by rw [bv_len, HX.out]; kernel_rfl)) hHeld ?_
      try simp only [Act.put, List.setIfInBounds_toArray, List.set_cons_zero, List.set_cons_succ]
      refine wpAnyH_ready (rs := [15]) (by kernel_rfl) (by simp) ?_
      refine AllReadyH.cons (i := 15) (o := ⟨(some 85), _, _, _, _, _⟩) rfl (fun K hK => ?_) AllReadyH.nil
      go_simp
      refine (lsub_any _ (hlaZ.below hlaZ.2 hHeld) U Y (HU.out) (HY.out)).mono ?_
      rintro e w3 ⟨v85, rfl, e85, h85, hb3⟩
      refine hK.out _ _ (below_next hHeld hHeld.size hb3) (fun hHeld => ?_)
      clear hK K
      try simp only [Act.put, List.setIfInBounds_toArray, List.set_cons_zero, List.set_cons_succ]
      obtain rfl : X = v85 := Eq.symm (by rw [e85.out, lU.out, lY.out, ← wl_ln X HX.out (by rw [lX.out]; exact haF), lX.out]; exact wl_of (less_back2 a b))
      have q2 := eql_bytes_same (P := Tryd.prog) Tryd.underlying24 Tryd.underlying5 Tryd.sizeByte X (HX.out)
      refine wpAnyH_take (i := 17) (oi := ⟨(some 87), _, _, _, _, _⟩) (v := ?vq1_5) rfl (by kernel_rfl) (by kernel_rfl) (by kernel_rfl) (fun _ _ _ h => h) (Or.inl ⟨by rfl, ?yq1_5⟩) hHeld ?_
      case yq1_5 => (intro W0 hSw; go_simp; try with_reducible rfl)
      try simp only [Act.put, List.setIfInBounds_toArray, List.set_cons_zero, List.set_cons_succ]
      refine wpAnyH_take (i := 18) (oi := ⟨(some 88), _, _, _, _, _⟩) (v := ?vq1_6) rfl (by kernel_rfl) (by kernel_rfl) (by kernel_rfl) (fun _ _ _ h => h) (Or.inl ⟨by rfl, ?yq1_6⟩) hHeld ?_
      case yq1_6 => (intro W0 hSw; go_simp; try with_reducible rfl)
      try simp only [Act.put, List.setIfInBounds_toArray, List.set_cons_zero, List.set_cons_succ]
      refine wpAnyH_take (i := 19) (oi := ⟨(some 89), _, _, _, _, _⟩) (v := ?vq1_7) rfl (by kernel_rfl) (by kernel_rfl) (by kernel_rfl) (fun _ _ _ h => h) (Or.inl ⟨by rfl, ?yq1_7⟩) hHeld ?_
      case yq1_7 => (intro W0 hSw; go_simp; try with_reducible rfl)
      try simp only [Act.put, List.setIfInBounds_toArray, List.set_cons_zero, List.set_cons_succ]
      refine wpAnyH_take (i := 20) (oi := ⟨(some 90), _, _, _, _, _⟩) (v := _) rfl (by kernel_rfl) (by kernel_rfl) (by kernel_rfl) (fun _ _ _ h => h) (yieldsIf_load_mid (by rfl) _ _ rfl GX 0 rfl (bv X) _ (fun W' hW' => range_row ((hW'.block _ sGX).trans gX.out)) (Tryd.underlying24) (rfl) (by rw [bv_len, HX.out]; kernel_rfl)) hHeld ?_
      try simp only [Act.put, List.setIfInBounds_toArray, List.set_cons_zero, List.set_cons_succ]
      refine wpAnyH_take (i := 22) (oi := ⟨(some 92), _, _, _, _, _⟩) (v := _) rfl (by kernel_rfl) (by kernel_rfl) (by kernel_rfl) (fun _ _ _ h => h) (yieldsIf_load_mid (by rfl) _ _ rfl GX 0 rfl (bv X) _ (fun W' hW' => range_row ((hW'.block _ sGX).trans gX.out)) (Tryd.underlying24) (rfl) (by rw [bv_len, HX.out]; kernel_rfl)) hHeld ?_
      try simp only [Act.put, List.setIfInBounds_toArray, List.set_cons_zero, List.set_cons_succ]
      refine wpAnyH_ready (rs := [21]) (by kernel_rfl) (by simp) ?_
      refine AllReadyH.cons (i := 21) (o := ⟨(some 91), _, _, _, _, _⟩) rfl (fun K hK => ?_) AllReadyH.nil
      go_simp
      refine (lnorm_any _ (hlaZ.below hlaZ.2 hHeld) X (HX.out)).mono ?_
      rintro e w4 ⟨v91, rfl, e91, h91, hb4⟩
      refine hK.out _ _ (below_next hHeld hHeld.size hb4) (fun hHeld => ?_)
      clear hK K
      try simp only [Act.put, List.setIfInBounds_toArray, List.set_cons_zero, List.set_cons_succ]
      obtain rfl : X = v91 := Eq.symm (by rw [e91.out]; exact wl_ln X HX.out (by rw [lX.out]; exact haF))
      have q3 := eql_bytes_same (P := Tryd.prog) Tryd.underlying24 Tryd.underlying5 Tryd.sizeByte X (HX.out)
      refine wpAnyH_take (i := 23) (oi := ⟨(some 93), _, _, _, _, _⟩) (v := ?vq1_8) rfl (by kernel_rfl) (by kernel_rfl) (by kernel_rfl) (fun _ _ _ h => h) (Or.inl ⟨by rfl, ?yq1_8⟩) hHeld ?_
      case yq1_8 => (intro W0 hSw; go_simp; try with_reducible rfl)
      try simp only [Act.put, List.setIfInBounds_toArray, List.set_cons_zero, List.set_cons_succ]
      refine wpAnyH_take (i := 24) (oi := ⟨(some 94), _, _, _, _, _⟩) (v := ?vq1_9) rfl (by kernel_rfl) (by kernel_rfl) (by kernel_rfl) (fun _ _ _ h => h) (Or.inl ⟨by rfl, ?yq1_9⟩) hHeld ?_
      case yq1_9 => (intro W0 hSw; go_simp; try with_reducible rfl)
      try simp only [Act.put, List.setIfInBounds_toArray, List.set_cons_zero, List.set_cons_succ]
      refine wpAnyH_take (i := 25) (oi := ⟨(some 4), _, _, _, _, _⟩) (v := ?vq1_10) rfl (by kernel_rfl) (by kernel_rfl) (by kernel_rfl) (fun _ _ _ h => h) (Or.inl ⟨by rfl, ?yq1_10⟩) hHeld ?_
      case yq1_10 => (intro W0 hSw; go_simp; try with_reducible rfl)
      try simp only [Act.put, List.setIfInBounds_toArray, List.set_cons_zero, List.set_cons_succ]
      refine wpAnyH_done (by kernel_rfl) ?_ _
      go_wp2
      go_ret
      exact ⟨rfl, below_next hbZ hbZ.size hHeld⟩
end Go.Proofs.YtlobejnohkecdaaDoor
