/-
  ScalarLong: the law's Go text returns true, whatever the input. Conditions: none beyond the row's own.
-/
import Derived.Test.YtlobejnohkecdaaDoorScY
namespace Go.Proofs.YtlobejnohkecdaaDoor
open Go.RowKit

theorem built_w64 : Tryd.prog.built 26 [] = some (bv (List.replicate 64 0)).toArray := by kernel_rfl
theorem zeros64 : ∃ z : List UInt8, z = List.replicate 64 0 ∧ Hid (z.length = 64) ∧ Tryd.prog.built 26 [] = some (bv z).toArray := ⟨_, rfl, rfl, built_w64⟩
theorem up_word : ln ((List.replicate 64 0 : List UInt8).set 32 1) = 256 ^ 32 := by decide +kernel
set_option maxRecDepth 100000 in
set_option maxHeartbeats 4000000 in
theorem walk_ScalarLong (w : World) (hla : LaidO w) (a : List UInt8) (ha : a.length = 32) (b : List UInt8) (hb : b.length = 32) :
    Calls Tryd.prog 6 #[.agg (bv a).toArray, .agg (bv b).toArray] w fun e w' => e = .returned (.bool true) ∧ Below w.heap.size w w' := by
  have hzw := zero_word
  have hz64 := zero_w64
  obtain ⟨z, hz, HZL, hbz⟩ := zeros64
  rw [← hz] at hz64
  have HZ := vlt hz
  clear hz
  have HZS := Lib.hid (bv_size64 z HZL.out)
  obtain ⟨W, hW, hgA0, hgB0, hbW, hsW⟩ := pair_new w (bv a).toArray (bv b).toArray 24 24
  have HW := Lib.hid hW
  have HA := Lib.hid ha
  have HB := Lib.hid hb
  have hlaW := hla.below hla.2 hbW
  have hs : w.heap.size + 1 < W.heap.size := by have := hsW.out; omega
  clear hW ha hb hsW hla
  go_enter Tryd.func6, Tryd.ntmps6
  go_upto_region 1 with fail
  rw [HW.out]
  go_wp2_with fail
  refine (awake8_any W hlaW).mono ?_
  rintro e V ⟨rfl, hbV⟩
  have hbw := below_next hbW hbW.size hbV
  have hlaV := hlaW.below hlaW.2 hbV
  have hgA1 := Lib.hid ((hbV.block _ (by omega)).trans hgA0.out)
  have hgB1 := Lib.hid ((hbV.block _ (by omega)).trans hgB0.out)
  have hs1 : w.heap.size + 1 < V.heap.size := by have := hbV.size; omega
  clear hgA0 hgB0 hbW hlaW hs
  go_upto_region 4 with (first
    | (with_reducible refine wpList_build_as rfl 26 rfl (bv z).toArray hbz ?_)
    | ((with_reducible refine wpList_store_row rfl 26 (.tmp 5) (.tmp 9) rfl V.heap.size (bv z).toArray rfl rfl 26 _ (heap_alloc_new _ _) (by rw [HZS.out]; kernel_rfl) (by rw [HZS.out]) (all_oneCell_toArray (bv_one _)) ?_); rw [World.setRow_alloc_new]))
  obtain ⟨V1, hV, hgG, hbV1, hsV⟩ := one_new V (bv z).toArray 26
  rw [hV]
  obtain ⟨G, hG⟩ : ∃ G, G = V.heap.size := ⟨_, rfl⟩
  rw [← hG] at hgG hbV1 hs1 ⊢
  have hgA2 := Lib.hid ((hbV1.block w.heap.size (by omega)).trans hgA1.out)
  have hgB2 := Lib.hid ((hbV1.block (w.heap.size + 1) (by omega)).trans hgB1.out)
  have hbw1 := below_next hbw hbw.size (by rw [hG] at hbV1; exact hbV1)
  have hla1 := hlaV.below (by rw [hG]; exact hlaV.2) hbV1
  have hGg : 0 < G := by rw [hG]; exact hlaV.2
  have sG1 : G < V1.heap.size := (Array.getElem?_eq_some_iff.1 hgG.out).1
  clear hV hbV1 hG hsV hbw hlaV hgA1 hgB1
  have hc1 := cut_all Tryd.underlying26 Tryd.sizeByte G 0 (by decide)
  have hc2 := cut_all Tryd.underlying24 Tryd.sizeByte w.heap.size 0 (by decide)
  have hc3 := cut_all Tryd.underlying24 Tryd.sizeByte (w.heap.size + 1) 0 (by decide)
  have hc4 := cut_l Tryd.underlying26 Tryd.sizeByte G 0 32 32 rfl (by decide)
  go_region_law ((refine step_copy_vals rfl (.tmp 10) (.tmp 11) 31 rfl 5 Tryd.underlying31 Tryd.sizeByte G 0 64 64 32 32 w.heap.size 0 (by rfl) (by rfl) (bv z) 26 hgG.out (bv a) (by rw [bv_len, HA.out]; rfl) (row_cells hgA2.out) (bv_one _) (by rw [bv_len, HZL.out]; decide) V1 (But.refl G V1).drew ?_; intro V2 hg2 hb2))
  rw [splice_bv] at hg2
  have HU := vlt (show z.take 0 ++ (a ++ z.drop (0 + a.length)) = a ++ List.replicate 32 0 by rw [HZ.out, List.take_zero, List.nil_append, List.drop_replicate, HA.out])
  generalize z.take 0 ++ (a ++ z.drop (0 + a.length)) = u at *
  have HUL := Lib.hid (show u.length = 64 by rw [HU.out]; simp [HA.out])
  have hgB3 : Hid (V2.heap[w.heap.size + 1]? = some (.cells (bv b).toArray 24 (0, 0))) := (hb2.block _ (by omega) (by intro e; injection e; omega)).trans hgB2.out
  go_upto_region 5 with fail
  go_region_law ((refine step_copy_vals rfl (.tmp 13) (.tmp 14) 31 rfl 5 Tryd.underlying31 Tryd.sizeByte G 32 32 32 32 32 (w.heap.size + 1) 0 (by rfl) (by rfl) (bv u) 26 hg2.out (bv b) (by rw [bv_len, HB.out]; rfl) (row_cells hgB3.out) (bv_one _) (by rw [bv_len, HUL.out]; decide) V1 hb2.drew ?_; intro V3 hg3 hb3))
  rw [splice_bv] at hg3
  have HLE := vlt (show u.take 32 ++ (b ++ u.drop (32 + b.length)) = a ++ b by rw [HU.out, HB.out, List.take_append_of_le_length (by rw [HA.out]; decide), List.take_of_length_le (by rw [HA.out]; decide), List.drop_eq_nil_of_le (by simp [HA.out]), List.append_nil])
  generalize u.take 32 ++ (b ++ u.drop (32 + b.length)) = L at *
  have HL := Lib.hid (show L.length = 64 by rw [HLE.out]; simp [HA.out, HB.out])
  have lL := vlt (show ln L = ln a + 256 ^ 32 * ln b by rw [HLE.out, ln_join, HA.out])
  have hgA3 : Hid (V3.heap[w.heap.size]? = some (.cells (bv a).toArray 24 (0, 0))) := (hb3.block _ (by omega) (by intro e; injection e; omega)).trans hgA2.out
  have hgB3 : Hid (V3.heap[w.heap.size + 1]? = some (.cells (bv b).toArray 24 (0, 0))) := (hb3.block _ (by omega) (by intro e; injection e; omega)).trans hgB2.out
  have hla3 := hla1.but hGg hb3
  have hbw3 : Below w.heap.size w V3 := But.below hbw1 hb3 (by omega) (by omega)
  have sG3 : G < V3.heap.size := (Array.getElem?_eq_some_iff.1 hg3.out).1
  clear hc1 hc2 hc3 hc4 hgG hb2 hb3 hg2 hbw1 hla1 hgA2 hgB2 sG1
  go_upto_region 7 with (first
    | (with_reducible refine wpList_build_as rfl 26 rfl (bv z).toArray hbz ?_)
    | ((with_reducible refine wpList_store_row rfl 26 (.tmp 6) (.tmp 16) rfl V3.heap.size (bv z).toArray rfl rfl 26 _ (heap_alloc_new _ _) (by rw [HZS.out]; kernel_rfl) (by rw [HZS.out]) (all_oneCell_toArray (bv_one _)) ?_); rw [World.setRow_alloc_new]))
  obtain ⟨V4, hV, hgH, hbV4, hsV⟩ := one_new V3 (bv z).toArray 26
  rw [hV]
  obtain ⟨H, hH⟩ : ∃ H, H = V3.heap.size := ⟨_, rfl⟩
  rw [← hH] at hgH hbV4 sG3 ⊢
  have hgA4 := Lib.hid ((hbV4.block w.heap.size (by omega)).trans hgA3.out)
  have hgB4 := Lib.hid ((hbV4.block (w.heap.size + 1) (by omega)).trans hgB3.out)
  have hgG4 := Lib.hid ((hbV4.block G sG3).trans hg3.out)
  have hbw4 := below_next hbw3 hbw3.size (by rw [hH] at hbV4; exact hbV4)
  have hla4 := hla3.below (by rw [hH]; exact hla3.2) hbV4
  have hHg : 0 < H := by rw [hH]; exact hla3.2
  have sH4 : H < V4.heap.size := (Array.getElem?_eq_some_iff.1 hgH.out).1
  clear hV hbV4 hH hsV hbw3 hla3 hgA3 hgB3 hg3
  obtain ⟨u0, c0⟩ : ∃ u, V4.cell? ⟨H, 32, none⟩ = some u := by
    rw [cell_of_row _ _ _ _ _ _ hgH.out]
    exact ⟨_, List.getElem?_toArray .. ▸ List.getElem?_eq_getElem (by rw [bv_len, HZL.out]; decide)⟩
  have f0 : V4.frozen? ⟨H, 32, none⟩ = false := frozen_of_row _ _ _ _ _ hgH.out
  have hset : Hid ((V4.setCell ⟨H, 32, none⟩ (.int .u8 1)).heap[H]? = some (.cells (bv (z.set 32 1)).toArray 26 (0, 0))) := by
    have h := (world_set_cell hgH.out 32 (.int .u8 1)).out
    rw [show (1 : Int) = ((1 : UInt8).toNat : Int) from rfl, bv_set] at h
    exact h
  have lUP := vlt (show ln (z.set 32 1) = 256 ^ 32 by rw [HZ.out]; exact up_word)
  have HUP := Lib.hid (show (z.set 32 1).length = 64 by rw [List.length_set]; exact HZL.out)
  generalize z.set 32 1 = UP at *
  have hbt : But H V4 (V4.setCell ⟨H, 32, none⟩ (.int .u8 1)) := (But.refl _ _).set _
  go_upto_region 8 with fail
  generalize V4.setCell ⟨H, 32, none⟩ (.int .u8 1) = X at *
  have hlaX := hla4.but hHg hbt
  have hbX : Below w.heap.size w X := But.below hbw4 hbt (by omega) (by omega)
  have hgA : Hid (X.heap[w.heap.size]? = some (.cells (bv a).toArray 24 (0, 0))) := (hbt.block _ (by omega) (by intro e; injection e; omega)).trans hgA4.out
  have hgB : Hid (X.heap[w.heap.size + 1]? = some (.cells (bv b).toArray 24 (0, 0))) := (hbt.block _ (by omega) (by intro e; injection e; omega)).trans hgB4.out
  have gL : Hid (X.heap[G]? = some (.cells (bv L).toArray 26 (0, 0))) := (hbt.block _ (by omega) (by intro e; injection e; omega)).trans hgG4.out
  have gU := hset
  have hs0 : w.heap.size < X.heap.size := (Array.getElem?_eq_some_iff.1 hgA.out).1
  have hs1 : w.heap.size + 1 < X.heap.size := (Array.getElem?_eq_some_iff.1 hgB.out).1
  have sG : G < X.heap.size := (Array.getElem?_eq_some_iff.1 gL.out).1
  have sH : H < X.heap.size := (Array.getElem?_eq_some_iff.1 gU.out).1
  clear c0 f0 hbt hgA4 hgB4 hgG4 hgH hla4 hbw4 hset
  refine wp_region_held_drew (S := (fun W' => Below X.heap.size X W')) (by kernel_rfl) ((Below.refl _ _).drew) (fun hHeld => ?_)
  refine wpAnyH_take (i := 0) (oi := ⟨(some 18), _, _, _, _, _⟩) (v := _) rfl (by kernel_rfl) (by kernel_rfl) (by kernel_rfl) (fun _ _ _ h => h) (yieldsIf_load_mid (by rfl) _ _ rfl G 0 rfl (bv L) _ (fun W' hW' => range_row ((hW'.block _ sG).trans gL.out)) (Tryd.underlying26) (rfl) (by rw [bv_len, HL.out]; kernel_rfl)) hHeld ?_
  try simp only [Act.put, List.setIfInBounds_toArray, List.set_cons_zero, List.set_cons_succ]
  refine wpAnyH_take (i := 2) (oi := ⟨(some 20), _, _, _, _, _⟩) (v := _) rfl (by kernel_rfl) (by kernel_rfl) (by kernel_rfl) (fun _ _ _ h => h) (yieldsIf_load_mid (by rfl) _ _ rfl (w.heap.size) 0 rfl (bv a) _ (fun W' hW' => range_row ((hW'.block _ hs0).trans hgA.out)) (Tryd.underlying24) (rfl) (by rw [bv_len, HA.out]; kernel_rfl)) hHeld ?_
  try simp only [Act.put, List.setIfInBounds_toArray, List.set_cons_zero, List.set_cons_succ]
  refine wpAnyH_take (i := 3) (oi := ⟨(some 21), _, _, _, _, _⟩) (v := _) rfl (by kernel_rfl) (by kernel_rfl) (by kernel_rfl) (fun _ _ _ h => h) (yieldsIf_load_mid (by rfl) _ _ rfl (w.heap.size + 1) 0 rfl (bv b) _ (fun W' hW' => range_row ((hW'.block _ hs1).trans hgB.out)) (Tryd.underlying24) (rfl) (by rw [bv_len, HB.out]; kernel_rfl)) hHeld ?_
  try simp only [Act.put, List.setIfInBounds_toArray, List.set_cons_zero, List.set_cons_succ]
  refine wpAnyH_take (i := 4) (oi := ⟨(some 22), _, _, _, _, _⟩) (v := _) rfl (by kernel_rfl) (by kernel_rfl) (by kernel_rfl) (fun _ _ _ h => h) (yieldsIf_load_mid (by rfl) _ _ rfl H 0 rfl (bv UP) _ (fun W' hW' => range_row ((hW'.block _ sH).trans gU.out)) (Tryd.underlying26) (rfl) (by rw [bv_len, HUP.out]; kernel_rfl)) hHeld ?_
  try simp only [Act.put, List.setIfInBounds_toArray, List.set_cons_zero, List.set_cons_succ]
  refine wpAnyH_ready (rs := [1]) (by kernel_rfl) (by simp) ?_
  refine AllReadyH.cons (i := 1) (o := ⟨(some 19), _, _, _, _, _⟩) rfl (fun K hK => ?_) AllReadyH.nil
  go_simp
  refine (llong_any _ (hlaX.below hlaX.2 hHeld) L (HL.out)).mono ?_
  rintro e w1 ⟨v19, rfl, e19, h19, hb1⟩
  refine hK.out _ _ (below_next hHeld hHeld.size hb1) (fun hHeld => ?_)
  clear hK K
  try simp only [Act.put, List.setIfInBounds_toArray, List.set_cons_zero, List.set_cons_succ]
  refine wpAnyH_ready (rs := [5]) (by kernel_rfl) (by simp) ?_
  refine AllReadyH.cons (i := 5) (o := ⟨(some 23), _, _, _, _, _⟩) rfl (fun K hK => ?_) AllReadyH.nil
  go_simp
  refine (llong_any _ (hlaX.below hlaX.2 hHeld) UP (HUP.out)).mono ?_
  rintro e w2 ⟨v23, rfl, e23, h23, hb2⟩
  refine hK.out _ _ (below_next hHeld hHeld.size hb2) (fun hHeld => ?_)
  clear hK K
  try simp only [Act.put, List.setIfInBounds_toArray, List.set_cons_zero, List.set_cons_succ]
  refine wpAnyH_ready (rs := [6]) (by kernel_rfl) (by simp) ?_
  refine AllReadyH.cons (i := 6) (o := ⟨(some 24), _, _, _, _, _⟩) rfl (fun K hK => ?_) AllReadyH.nil
  go_simp
  refine (lmul_any _ (hlaX.below hlaX.2 hHeld) b v23 (HB.out) (h23.out)).mono ?_
  rintro e w3 ⟨v24, rfl, e24, h24, hb3⟩
  refine hK.out _ _ (below_next hHeld hHeld.size hb3) (fun hHeld => ?_)
  clear hK K
  try simp only [Act.put, List.setIfInBounds_toArray, List.set_cons_zero, List.set_cons_succ]
  refine wpAnyH_ready (rs := [7]) (by kernel_rfl) (by simp) ?_
  refine AllReadyH.cons (i := 7) (o := ⟨(some 25), _, _, _, _, _⟩) rfl (fun K hK => ?_) AllReadyH.nil
  go_simp
  refine (ladd_any _ (hlaX.below hlaX.2 hHeld) a v24 (HA.out) (h24.out)).mono ?_
  rintro e w4 ⟨v25, rfl, e25, h25, hb4⟩
  refine hK.out _ _ (below_next hHeld hHeld.size hb4) (fun hHeld => ?_)
  clear hK K
  try simp only [Act.put, List.setIfInBounds_toArray, List.set_cons_zero, List.set_cons_succ]
  obtain rfl : v19 = v25 := by rw [e19.out, e25.out]; refine wl_of ?_; rw [e24.out, e23.out, ln_wl, ln_wl, Nat.mul_mod_mod, Nat.add_mod_mod, lL.out, lUP.out, Nat.mul_comm (ln b)]
  have q0 := eql_bytes_same (P := Tryd.prog) Tryd.underlying24 Tryd.underlying5 Tryd.sizeByte v19 (h19.out)
  refine wpAnyH_take (i := 8) (oi := ⟨(some 26), _, _, _, _, _⟩) (v := ?vq1_0) rfl (by kernel_rfl) (by kernel_rfl) (by kernel_rfl) (fun _ _ _ h => h) (Or.inl ⟨by rfl, ?yq1_0⟩) hHeld ?_
  case yq1_0 => (intro W0 hSw; go_simp; try with_reducible rfl)
  try simp only [Act.put, List.setIfInBounds_toArray, List.set_cons_zero, List.set_cons_succ]
  refine wpAnyH_take (i := 9) (oi := ⟨(some 4), _, _, _, _, _⟩) (v := ?vq1_1) rfl (by kernel_rfl) (by kernel_rfl) (by kernel_rfl) (fun _ _ _ h => h) (Or.inl ⟨by rfl, ?yq1_1⟩) hHeld ?_
  case yq1_1 => (intro W0 hSw; go_simp; try with_reducible rfl)
  try simp only [Act.put, List.setIfInBounds_toArray, List.set_cons_zero, List.set_cons_succ]
  refine wpAnyH_done (by kernel_rfl) ?_ _
  go_wp2
  go_ret
  exact ⟨rfl, below_next hbX hbX.size hHeld⟩
end Go.Proofs.YtlobejnohkecdaaDoor
