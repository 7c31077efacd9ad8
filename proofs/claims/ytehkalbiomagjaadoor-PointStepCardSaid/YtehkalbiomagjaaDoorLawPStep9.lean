/-
  PointStep: the law's Go text returns true, whatever the input. Conditions: none beyond the row's own.
-/
import Derived.Test.YtehkalbiomagjaaDoorPkE
import Derived.Test.YtehkalbiomagjaaDoorPkA
namespace Go.Proofs.YtehkalbiomagjaaDoor
open Go.RowKit

theorem const_wkp (n : Nat) (h : n < 115792089237316195423570985008687907853269984665640564039457584007913129639936) : ∃ T, T = wk n ∧ Hid (T.length = 32) ∧ Vlt (ln T = n) := ⟨_, rfl, wk_len n, vlt (by rw [wk, ln_le, Nat.mod_eq_of_lt (Nat.lt_of_lt_of_le h (by decide))])⟩
set_option maxRecDepth 100000 in
set_option maxHeartbeats 4000000 in
theorem walk_PointStep (w : World) (hla : LaidP w) (u : Nat) (o : u < 4294967296) :
    Calls Tryd.prog 7 #[.int .u32 (u : Int)] w fun e w' => e = .returned (.bool true) ∧ Below w.heap.size w w' := by
  have hzw := zero_word
  have hsX := set_four_w u o
  obtain ⟨s, hsE⟩ : ∃ s, s = u + 1 := ⟨_, rfl⟩
  have hsY := set_five_w s (by omega)
  obtain ⟨X, dX, HX, lX⟩ := const_wkp u (Nat.lt_trans o (by decide))
  obtain ⟨Y, dY, HY, lY⟩ := const_wkp s (Nat.lt_trans (show s < 1099511627776 by omega) (by decide))
  rw [← dX] at hsX
  rw [← dY] at hsY
  have hnz := bv_z32_ne
  have esum : (u : Int) + 1 = (s : Int) := by omega
  have ls : s < 18446744073709551616 := by omega
  have HSE := vlt hsE
  clear dX dY hsE
  go_enter Tryd.func7, Tryd.ntmps7
  go_wp2_with fail
  refine (awake9_any w hla).mono ?_
  rintro e V ⟨rfl, hbV⟩
  have hlaV := hla.next hbV
  go_upto_region 4 with ((with_reducible refine wpList_store_row rfl 23 (.tmp 3) (.tmp 19) rfl V.heap.size (bv X).toArray rfl rfl 23 _ (heap_alloc_new _ _) (by rw [bv_size X HX.out]; kernel_rfl) (by rw [bv_size X HX.out]; kernel_rfl) (all_oneCell_toArray (bv_one _)) ?_); rw [World.setRow_alloc_new])
  obtain ⟨V1, hX, gX, hBV1, hsX⟩ := one_new V (bv X).toArray 23
  rw [hX]
  have hbV1 := below_next hbV hbV.size hBV1
  have hlaV1 := hlaV.next hBV1
  obtain ⟨G3, hG⟩ : ∃ G, G = V.heap.size := ⟨_, rfl⟩
  have wG3 : w.heap.size ≤ G3 := by rw [hG]; exact hbV.size
  rw [← hG] at gX ⊢
  clear hX hsX hG
  go_upto_region 6 with ((with_reducible refine wpList_store_row rfl 23 (.tmp 5) (.tmp 37) rfl V1.heap.size (bv Y).toArray rfl rfl 23 _ (heap_alloc_new _ _) (by rw [bv_size Y HY.out]; kernel_rfl) (by rw [bv_size Y HY.out]; kernel_rfl) (all_oneCell_toArray (bv_one _)) ?_); rw [World.setRow_alloc_new])
  obtain ⟨V2, hX, gY, hBV2, hsX⟩ := one_new V1 (bv Y).toArray 23
  rw [hX]
  have hb_V2 := below_next hbV1 hbV1.size hBV2
  have hlaV2 := hlaV1.next hBV2
  obtain ⟨G5, hG⟩ : ∃ G, G = V1.heap.size := ⟨_, rfl⟩
  have wG5 : w.heap.size ≤ G5 := by rw [hG]; exact hbV1.size
  rw [← hG] at gY ⊢
  have gn3_V2 := row_next2 gX hBV2
  have gn5_V2 := gY
  have sn3_V2 := row_size gn3_V2
  have sn5_V2 := row_size gn5_V2
  clear hX hsX hG gX gY hBV1 hBV2 hbV1 hbV hlaV hlaV1 hsY esum
  refine wp_region_held_drew (S := fun W' => Below V2.heap.size V2 W') (by kernel_rfl) ((Below.refl _ _).drew) (fun hHeld => ?_)
  refine wpAnyH_take (i := 0) (oi := ⟨(some 38), _, _, _, _, _⟩) (v := _) rfl (by kernel_rfl) (by kernel_rfl) (by kernel_rfl) (fun _ _ _ h => h) (yieldsIf_load_mid (by rfl) _ _ rfl G3 0 rfl (bv X) _ (fun W' hW' => range_row ((hW'.block _ sn3_V2).trans gn3_V2.out)) (Tryd.underlying23) rfl (by rw [bv_len, HX.out]; kernel_rfl)) hHeld ?_
  try simp only [pu]
  refine wpAnyH_take (i := 4) (oi := ⟨(some 42), _, _, _, _, _⟩) (v := _) rfl (by kernel_rfl) (by kernel_rfl) (by kernel_rfl) (fun _ _ _ h => h) (yieldsIf_load_mid (by rfl) _ _ rfl G5 0 rfl (bv Y) _ (fun W' hW' => range_row ((hW'.block _ sn5_V2).trans gn5_V2.out)) (Tryd.underlying23) rfl (by rw [bv_len, HY.out]; kernel_rfl)) hHeld ?_
  try simp only [pu]
  refine wpAnyH_ready (rs := [1]) (by kernel_rfl) (by simp) ?_
  refine AllReadyH.cons (i := 1) (o := ⟨(some 39), _, _, _, _, _⟩) rfl (fun K hK => ?_) AllReadyH.nil
  go_simp
  refine (l9times_any _ (hlaV2.next hHeld) X (HX.out)).mono ?_
  rintro e W1 ⟨v39, rfl, e39, h39, hb1⟩
  refine hK.out _ _ (below_next hHeld hHeld.size hb1) (fun hHeld => ?_)
  clear hK K hb1
  try simp only [pu]
  refine wpAnyH_ready (rs := [2]) (by kernel_rfl) (by simp) ?_
  refine AllReadyH.cons (i := 2) (o := ⟨(some 40), _, _, _, _, _⟩) rfl (fun K hK => ?_) AllReadyH.nil
  go_simp
  refine (pbase_any _  ).mono ?_
  rintro e W2 ⟨v40, rfl, e40, h40, hb2⟩
  refine hK.out _ _ (below_next hHeld hHeld.size hb2) (fun hHeld => ?_)
  clear hK K hb2
  try simp only [pu]
  refine wpAnyH_ready (rs := [3]) (by kernel_rfl) (by simp) ?_
  refine AllReadyH.cons (i := 3) (o := ⟨(some 41), _, _, _, _, _⟩) rfl (fun K hK => ?_) AllReadyH.nil
  go_simp
  refine (l9sum_any _ (hlaV2.next hHeld) v39 v40 h39.out e39.out h40.out ⟨e40.out, bE_on⟩).mono ?_
  rintro e W3 ⟨v41, rfl, e41, h41, hb3⟩
  refine hK.out _ _ (below_next hHeld hHeld.size hb3) (fun hHeld => ?_)
  clear hK K hb3
  try simp only [pu]
  refine wpAnyH_ready (rs := [5]) (by kernel_rfl) (by simp) ?_
  refine AllReadyH.cons (i := 5) (o := ⟨(some 43), _, _, _, _, _⟩) rfl (fun K hK => ?_) AllReadyH.nil
  go_simp
  refine (l9times_any _ (hlaV2.next hHeld) Y (HY.out)).mono ?_
  rintro e W4 ⟨v43, rfl, e43, h43, hb4⟩
  refine hK.out _ _ (below_next hHeld hHeld.size hb4) (fun hHeld => ?_)
  clear hK K hb4
  try simp only [pu]
  obtain rfl : v41 = v43 := by rw [e41.out.1, e43.out.1, lX.out, lY.out, HSE.out]; rfl
  have qV2_6 := eql_bytes_same (P := Tryd.prog) Tryd.underlying23 Tryd.underlying5 Tryd.sizeByte v41 (h41.out)
  refine wpAnyH_take (i := 6) (oi := ⟨(some 44), _, _, _, _, _⟩) (v := ?vqV2_1_6) rfl (by kernel_rfl) (by kernel_rfl) (by kernel_rfl) (fun _ _ _ h => h) (Or.inl ⟨by rfl, ?yqV2_1_6⟩) hHeld ?_
  case yqV2_1_6 => (intro W0 hSw; go_simp; try with_reducible rfl)
  try simp only [pu]
  refine wpAnyH_take (i := 7) (oi := ⟨(some 2), _, _, _, _, _⟩) (v := ?vqV2_1_7) rfl (by kernel_rfl) (by kernel_rfl) (by kernel_rfl) (fun _ _ _ h => h) (Or.inl ⟨by rfl, ?yqV2_1_7⟩) hHeld ?_
  case yqV2_1_7 => (intro W0 hSw; go_simp; try with_reducible rfl)
  try simp only [pu]
  refine wpAnyH_done (by kernel_rfl) ?_ _
  obtain ⟨V3, rV3⟩ : ∃ X, X = W4 := ⟨_, rfl⟩
  subst rV3
  have gn3_V3 := row_next2 gn3_V2 hHeld
  have sn3_V3 := row_size gn3_V3
  have gn5_V3 := row_next2 gn5_V2 hHeld
  have sn5_V3 := row_size gn5_V3
  have hb_V3 := below_next hb_V2 hb_V2.size hHeld
  have hlaV3 := hlaV2.next hHeld
  clear hHeld hb_V2 sn3_V2 sn5_V2
  clear gn3_V2 gn5_V2 hlaV2
  go_wp2
  go_ret
  exact ⟨rfl, hb_V3⟩
end Go.Proofs.YtehkalbiomagjaaDoor
