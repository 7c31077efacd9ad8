/-
  PointAdds: the law's Go text returns true, whatever the input. Conditions: none beyond the row's own.
-/
import Derived.Test.YtehkalbiomagjaaDoorPkZ
namespace Go.Proofs.YtehkalbiomagjaaDoor
open Go.RowKit

set_option maxRecDepth 100000 in
set_option maxHeartbeats 4000000 in
theorem walk_PointAdds (w : World) (hla : LaidQ w) (n : List UInt8) (hn : n.length = 32) (m : List UInt8) (hm : m.length = 32) :
    Calls Tryd.prog 4 #[.agg (bv n).toArray, .agg (bv m).toArray] w fun e w' => e = .returned (.bool true) ∧ Below w.heap.size w w' := by
  have hzw := zero_word
  obtain ⟨V0, hW, gb0_V0, gb1_V0, hb_V0, hsW⟩ := pair_new w (bv n).toArray (bv m).toArray 23 23
  have HW := Lib.hid hW
  have Hhn := Lib.hid hn
  have Hhm := Lib.hid hm
  have sb0_V0 := row_size gb0_V0
  have sb1_V0 := row_size gb1_V0
  have hlaV0 := hla.next hb_V0
  clear hla
  clear hW hsW hn hm
  go_enter Tryd.func4, Tryd.ntmps4
  go_upto_region 1 with fail
  rw [HW.out]
  refine plain_start (S := fun W' => Below V0.heap.size V0 W') (by kernel_rfl) (Below.refl _ _) (fun hHeld => ?_)
  refine wpAnyH_ready (rs := [0]) (by kernel_rfl) (by simp) ?_
  refine AllReadyH.cons (i := 0) (o := ⟨(some 8), _, _, _, _, _⟩) rfl (fun K hK => ?_) AllReadyH.nil
  go_simp
  refine (awake9_any _ hlaV0.p).mono ?_
  rintro e W1 ⟨rfl, hb1⟩
  refine hK.out _ _ (below_next hHeld hHeld.size hb1) (fun hHeld => ?_)
  clear hK K hb1
  try simp only [pu]
  refine wpAnyH_take (i := 1) (oi := ⟨(some 9), _, _, _, _, _⟩) (v := ?vqV0_1_1) rfl (by kernel_rfl) (by kernel_rfl) (by kernel_rfl) (fun _ _ _ h => h) (Or.inl ⟨by rfl, ?yqV0_1_1⟩) hHeld ?_
  case yqV0_1_1 => (intro W0 hSw; go_simp; try with_reducible rfl)
  try simp only [pu]
  refine wpAnyH_done (by kernel_rfl) ?_ _
  obtain ⟨V1, rV1⟩ : ∃ X, X = W1 := ⟨_, rfl⟩
  subst rV1
  have gb0_V1 := row_next2 gb0_V0 hHeld
  have sb0_V1 := row_size gb0_V1
  have gb1_V1 := row_next2 gb1_V0 hHeld
  have sb1_V1 := row_size gb1_V1
  have hb_V1 := below_next hb_V0 hb_V0.size hHeld
  have hlaV1 := hlaV0.next hHeld
  clear hHeld hb_V0 sb0_V0 sb1_V0
  clear gb0_V0 gb1_V0 hlaV0
  go_upto_region 3 with fail
  refine wp_region_held_drew (S := fun W' => Below V1.heap.size V1 W') (by kernel_rfl) ((Below.refl _ _).drew) (fun hHeld => ?_)
  refine wpAnyH_take (i := 0) (oi := ⟨(some 10), _, _, _, _, _⟩) (v := _) rfl (by kernel_rfl) (by kernel_rfl) (by kernel_rfl) (fun _ _ _ h => h) (yieldsIf_load_mid (by rfl) _ _ rfl (w.heap.size) 0 rfl (bv n) _ (fun W' hW' => range_row ((hW'.block _ sb0_V1).trans gb0_V1.out)) (Tryd.underlying23) rfl (by rw [bv_len, Hhn.out]; kernel_rfl)) hHeld ?_
  try simp only [pu]
  refine wpAnyH_take (i := 2) (oi := ⟨(some 12), _, _, _, _, _⟩) (v := _) rfl (by kernel_rfl) (by kernel_rfl) (by kernel_rfl) (fun _ _ _ h => h) (yieldsIf_load_mid (by rfl) _ _ rfl (w.heap.size + 1) 0 rfl (bv m) _ (fun W' hW' => range_row ((hW'.block _ sb1_V1).trans gb1_V1.out)) (Tryd.underlying23) rfl (by rw [bv_len, Hhm.out]; kernel_rfl)) hHeld ?_
  try simp only [pu]
  refine mix_start (B := V1.heap.size) (al := [⟨4, 5, 23, ((bv z32)).toArray⟩, ⟨5, 6, 23, ((bv z32)).toArray⟩]) (fuel := 4) rfl hHeld (hHeld.size) ?_
  clear hHeld
  refine mix_call (i := 1) (o := ⟨(some 11), _, _, _, _, _⟩) rfl (by kernel_rfl) (by kernel_rfl) (by kernel_rfl) (by kernel_rfl) (fun x hx => by simp only [List.mem_cons, List.not_mem_nil, or_false] at hx; rcases hx with rfl | rfl <;> first | exact makes_new rfl rfl rfl rfl zero_word) (fun W x _ h => h.alloc h.size _) (fun _ _ _ _ _ h => h) (fun X2 hHeld hBX K hK => ?_)
  go_simp
  refine (l9times_any _ (hlaV1.next hHeld).p n (Hhn.out)).mono ?_
  rintro e W2 ⟨v11, rfl, e11, h11, hb2⟩
  refine hK.out _ _ (below_next hHeld hHeld.size hb2) hb2 ?_
  clear hK K hHeld hBX hb2
  try simp only [pu]
  refine mix_call (i := 3) (o := ⟨(some 13), _, _, _, _, _⟩) rfl (by kernel_rfl) (by kernel_rfl) (by kernel_rfl) (by kernel_rfl) (fun x hx => by simp only [List.mem_cons, List.not_mem_nil, or_false] at hx; rcases hx with rfl | rfl <;> first | exact makes_new rfl rfl rfl rfl zero_word) (fun W x _ h => h.alloc h.size _) (fun _ _ _ _ _ h => h) (fun X3 hHeld hBX K hK => ?_)
  go_simp
  refine (l9times_any _ (hlaV1.next hHeld).p m (Hhm.out)).mono ?_
  rintro e W3 ⟨v13, rfl, e13, h13, hb3⟩
  refine hK.out _ _ (below_next hHeld hHeld.size hb3) hb3 ?_
  clear hK K hHeld hBX hb3
  try simp only [pu]
  refine mix_end (by kernel_rfl) (by kernel_rfl) (by simp) (by simp) (fun x hx => by simp only [List.mem_cons, List.not_mem_nil, or_false] at hx; rcases hx with rfl | rfl <;> first | exact makes_new rfl rfl rfl rfl zero_word) (fun W x _ h => h.alloc h.size _) (fun D hD W4 hHeld hBX hHo => ?_)
  obtain ⟨G5, G6, rfl⟩ := v_two hD
  have xG5 : Hid (W4.heap[G5]? = some (.cells ((bv z32)).toArray 23 (0, 0))) := hHo.row (⟨4, 5, 23, ((bv z32)).toArray⟩, G5) (by simp)
  have lG5 : V1.heap.size ≤ G5 := hHo.new (⟨4, 5, 23, ((bv z32)).toArray⟩, G5) (by simp)
  have xG6 : Hid (W4.heap[G6]? = some (.cells ((bv z32)).toArray 23 (0, 0))) := hHo.row (⟨5, 6, 23, ((bv z32)).toArray⟩, G6) (by simp)
  have lG6 : V1.heap.size ≤ G6 := hHo.new (⟨5, 6, 23, ((bv z32)).toArray⟩, G6) (by simp)
  have hnd := hHo.nodup
  simp only [List.map_cons, List.map_nil, List.nodup_cons, List.mem_cons, List.not_mem_nil, or_false, not_false_eq_true, List.nodup_nil, and_true] at hnd
  have nG5G6 := hnd
  clear hnd
  clear hHo hBX hD
  simp only [markD, putD, List.foldr_cons, List.foldr_nil, pu, List.setIfInBounds_toArray, List.set_cons_zero, List.set_cons_succ]
  refine wpAnyH_ready (rs := [6]) (by kernel_rfl) (by simp) ?_
  refine AllReadyH.cons (i := 6) (o := ⟨none, _, _, _, _, _⟩) rfl (fun K hK => ?_) AllReadyH.nil
  refine step_row (by rfl) 23 (.tmp 5) (.tmp 11) rfl G5 (bv v11) rfl rfl 23 _ xG5.out (by rw [bv_len, h11.out]; kernel_rfl) (by rw [List.size_toArray, bv_len, bv_len, h11.out, z32_len]) (bv_one _) ?_
  intro W5 yG5 kG5
  have zG6 := row_but xG6 kG5 (by omega)
  clear xG6
  have xG6 := zG6
  clear zG6
  refine hK.out _ _ (But.below hHeld kG5 lG5 hHeld.size) (fun hHeld => ?_)
  clear hK K kG5 xG5
  have xG5 := yG5
  clear yG5
  try simp only [pu]
  refine wpAnyH_ready (rs := [7]) (by kernel_rfl) (by simp) ?_
  refine AllReadyH.cons (i := 7) (o := ⟨none, _, _, _, _, _⟩) rfl (fun K hK => ?_) AllReadyH.nil
  refine step_row (by rfl) 23 (.tmp 6) (.tmp 13) rfl G6 (bv v13) rfl rfl 23 _ xG6.out (by rw [bv_len, h13.out]; kernel_rfl) (by rw [List.size_toArray, bv_len, bv_len, h13.out, z32_len]) (bv_one _) ?_
  intro W6 yG6 kG6
  have zG5 := row_but xG5 kG6 (by omega)
  clear xG5
  have xG5 := zG5
  clear zG5
  refine hK.out _ _ (But.below hHeld kG6 lG6 hHeld.size) (fun hHeld => ?_)
  clear hK K kG6 xG6
  have xG6 := yG6
  clear yG6
  try simp only [pu]
  refine wpAnyH_done (by kernel_rfl) ?_ _
  obtain ⟨V2, rV2⟩ : ∃ X, X = W6 := ⟨_, rfl⟩
  subst rV2
  have gb0_V2 := row_next2 gb0_V1 hHeld
  have sb0_V2 := row_size gb0_V2
  have gb1_V2 := row_next2 gb1_V1 hHeld
  have sb1_V2 := row_size gb1_V2
  have hb_V2 := below_next hb_V1 hb_V1.size hHeld
  have hlaV2 := hlaV1.next hHeld
  have gn5_V2 := xG5
  have sn5_V2 := row_size gn5_V2
  clear xG5
  have gn6_V2 := xG6
  have sn6_V2 := row_size gn6_V2
  clear xG6
  have wG5 : w.heap.size + 2 ≤ G5 := by omega
  have wG6 : w.heap.size + 2 ≤ G6 := by omega
  clear hHeld hb_V1 sb0_V1 sb1_V1
  clear gb0_V1 gb1_V1 hlaV1 lG5 lG6
  go_upto_region 4 with fail
  refine plain_start (S := fun W' => Below V2.heap.size V2 W') (by kernel_rfl) (Below.refl _ _) (fun hHeld => ?_)
  refine wpAnyH_take (i := 0) (oi := ⟨(some 14), _, _, _, _, _⟩) (v := _) rfl (by kernel_rfl) (by kernel_rfl) (by kernel_rfl) (fun _ _ _ h => h) (yieldsIf_load_mid (by rfl) _ _ rfl G5 0 rfl (bv v11) _ (fun W' hW' => range_row ((hW'.block _ sn5_V2).trans gn5_V2.out)) (Tryd.underlying23) rfl (by rw [bv_len, h11.out]; kernel_rfl)) hHeld ?_
  try simp only [pu]
  refine wpAnyH_take (i := 1) (oi := ⟨(some 15), _, _, _, _, _⟩) (v := _) rfl (by kernel_rfl) (by kernel_rfl) (by kernel_rfl) (fun _ _ _ h => h) (yieldsIf_load_mid (by rfl) _ _ rfl G6 0 rfl (bv v13) _ (fun W' hW' => range_row ((hW'.block _ sn6_V2).trans gn6_V2.out)) (Tryd.underlying23) rfl (by rw [bv_len, h13.out]; kernel_rfl)) hHeld ?_
  try simp only [pu]
  refine mix_start (B := V2.heap.size) (al := [⟨3, 7, 23, ((bv z32)).toArray⟩]) (fuel := 2) rfl hHeld (hHeld.size) ?_
  clear hHeld
  refine mix_call (i := 2) (o := ⟨(some 16), _, _, _, _, _⟩) rfl (by kernel_rfl) (by kernel_rfl) (by kernel_rfl) (by kernel_rfl) (fun x hx => by simp only [List.mem_cons, List.not_mem_nil, or_false] at hx; rcases hx with rfl <;> first | exact makes_new rfl rfl rfl rfl zero_word) (fun W x _ h => h.alloc h.size _) (fun _ _ _ _ _ h => h) (fun X7 hHeld hBX K hK => ?_)
  go_simp
  refine (l9sum_any _ (hlaV2.next hHeld).p v11 v13 (h11.out) (e11.out) (h13.out) (e13.out)).mono ?_
  rintro e W7 ⟨v16, rfl, e16, h16, hb7⟩
  refine hK.out _ _ (below_next hHeld hHeld.size hb7) hb7 ?_
  clear hK K hHeld hBX hb7
  try simp only [pu]
  refine mix_end (by kernel_rfl) (by kernel_rfl) (by simp) (by simp) (fun x hx => by simp only [List.mem_cons, List.not_mem_nil, or_false] at hx; rcases hx with rfl <;> first | exact makes_new rfl rfl rfl rfl zero_word) (fun W x _ h => h.alloc h.size _) (fun D hD W8 hHeld hBX hHo => ?_)
  obtain ⟨G7, rfl⟩ := v_one hD
  have xG7 : Hid (W8.heap[G7]? = some (.cells ((bv z32)).toArray 23 (0, 0))) := hHo.row (⟨3, 7, 23, ((bv z32)).toArray⟩, G7) (by simp)
  have lG7 : V2.heap.size ≤ G7 := hHo.new (⟨3, 7, 23, ((bv z32)).toArray⟩, G7) (by simp)
  clear hHo hBX hD
  simp only [markD, putD, List.foldr_cons, List.foldr_nil, pu, List.setIfInBounds_toArray, List.set_cons_zero, List.set_cons_succ]
  refine wpAnyH_ready (rs := [4]) (by kernel_rfl) (by simp) ?_
  refine AllReadyH.cons (i := 4) (o := ⟨none, _, _, _, _, _⟩) rfl (fun K hK => ?_) AllReadyH.nil
  refine step_row (by rfl) 23 (.tmp 7) (.tmp 16) rfl G7 (bv v16) rfl rfl 23 _ xG7.out (by rw [bv_len, h16.out]; kernel_rfl) (by rw [List.size_toArray, bv_len, bv_len, h16.out, z32_len]) (bv_one _) ?_
  intro W9 yG7 kG7
  refine hK.out _ _ (But.below hHeld kG7 lG7 hHeld.size) (fun hHeld => ?_)
  clear hK K kG7 xG7
  have xG7 := yG7
  clear yG7
  try simp only [pu]
  refine wpAnyH_done (by kernel_rfl) ?_ _
  obtain ⟨V3, rV3⟩ : ∃ X, X = W9 := ⟨_, rfl⟩
  subst rV3
  have gb0_V3 := row_next2 gb0_V2 hHeld
  have sb0_V3 := row_size gb0_V3
  have gb1_V3 := row_next2 gb1_V2 hHeld
  have sb1_V3 := row_size gb1_V3
  have gn5_V3 := row_next2 gn5_V2 hHeld
  have sn5_V3 := row_size gn5_V3
  have gn6_V3 := row_next2 gn6_V2 hHeld
  have sn6_V3 := row_size gn6_V3
  have hb_V3 := below_next hb_V2 hb_V2.size hHeld
  have hlaV3 := hlaV2.next hHeld
  have gn7_V3 := xG7
  have sn7_V3 := row_size gn7_V3
  clear xG7
  have wG7 : w.heap.size + 2 ≤ G7 := by omega
  have nG5G7 : G5 ≠ G7 := by omega
  have nG6G7 : G6 ≠ G7 := by omega
  clear hHeld hb_V2 sb0_V2 sb1_V2 sn5_V2 sn6_V2
  clear gb0_V2 gb1_V2 gn5_V2 gn6_V2 hlaV2 lG7
  go_upto_region 5 with fail
  refine wp_region_held_drew (S := fun W' => Below V3.heap.size V3 W') (by kernel_rfl) ((Below.refl _ _).drew) (fun hHeld => ?_)
  refine wpAnyH_take (i := 0) (oi := ⟨(some 17), _, _, _, _, _⟩) (v := _) rfl (by kernel_rfl) (by kernel_rfl) (by kernel_rfl) (fun _ _ _ h => h) (yieldsIf_load_mid (by rfl) _ _ rfl G5 0 rfl (bv v11) _ (fun W' hW' => range_row ((hW'.block _ sn5_V3).trans gn5_V3.out)) (Tryd.underlying23) rfl (by rw [bv_len, h11.out]; kernel_rfl)) hHeld ?_
  try simp only [pu]
  refine wpAnyH_ready (rs := [1]) (by kernel_rfl) (by simp) ?_
  refine AllReadyH.cons (i := 1) (o := ⟨(some 18), _, _, _, _, _⟩) rfl (fun K hK => ?_) AllReadyH.nil
  go_simp
  refine (pgood_any _ (hlaV3.next hHeld).p v11 (h11.out)).mono ?_
  rintro e W10 ⟨o18, rfl, e18, hb10⟩
  refine hK.out _ _ (below_next hHeld hHeld.size hb10) (fun hHeld => ?_)
  clear hK K hb10
  try simp only [pu]
  obtain rfl : o18 = true := good_one e18.out e11.out.1 e11.out.2
  refine wpAnyH_take (i := 2) (oi := ⟨(some 19), _, _, _, _, _⟩) (v := ?vqV3_4_2) rfl (by kernel_rfl) (by kernel_rfl) (by kernel_rfl) (fun _ _ _ h => h) (Or.inl ⟨by rfl, ?yqV3_4_2⟩) hHeld ?_
  case yqV3_4_2 => (intro W0 hSw; go_simp; try with_reducible rfl)
  try simp only [pu]
  refine wpAnyH_take (i := 3) (oi := ⟨(some 20), _, _, _, _, _⟩) (v := _) rfl (by kernel_rfl) (by kernel_rfl) (by kernel_rfl) (fun _ _ _ h => h) (yieldsIf_load_mid (by rfl) _ _ rfl G7 0 rfl (bv v16) _ (fun W' hW' => range_row ((hW'.block _ sn7_V3).trans gn7_V3.out)) (Tryd.underlying23) rfl (by rw [bv_len, h16.out]; kernel_rfl)) hHeld ?_
  try simp only [pu]
  refine wpAnyH_ready (rs := [4]) (by kernel_rfl) (by simp) ?_
  refine AllReadyH.cons (i := 4) (o := ⟨(some 21), _, _, _, _, _⟩) rfl (fun K hK => ?_) AllReadyH.nil
  go_simp
  refine (pgood_any _ (hlaV3.next hHeld).p v16 (h16.out)).mono ?_
  rintro e W11 ⟨o21, rfl, e21, hb11⟩
  refine hK.out _ _ (below_next hHeld hHeld.size hb11) (fun hHeld => ?_)
  clear hK K hb11
  try simp only [pu]
  obtain rfl : o21 = true := good_one e21.out e16.out.1 e16.out.2
  refine wpAnyH_take (i := 5) (oi := ⟨(some 22), _, _, _, _, _⟩) (v := ?vqV3_4_5) rfl (by kernel_rfl) (by kernel_rfl) (by kernel_rfl) (fun _ _ _ h => h) (Or.inl ⟨by rfl, ?yqV3_4_5⟩) hHeld ?_
  case yqV3_4_5 => (intro W0 hSw; go_simp; try with_reducible rfl)
  try simp only [pu]
  refine wpAnyH_take (i := 6) (oi := ⟨(some 23), _, _, _, _, _⟩) (v := ?vqV3_4_6) rfl (by kernel_rfl) (by kernel_rfl) (by kernel_rfl) (fun _ _ _ h => h) (Or.inl ⟨by rfl, ?yqV3_4_6⟩) hHeld ?_
  case yqV3_4_6 => (intro W0 hSw; go_simp; try with_reducible rfl)
  try simp only [pu]
  refine wpAnyH_take (i := 7) (oi := ⟨(some 24), _, _, _, _, _⟩) (v := _) rfl (by kernel_rfl) (by kernel_rfl) (by kernel_rfl) (fun _ _ _ h => h) (yieldsIf_load_mid (by rfl) _ _ rfl G7 0 rfl (bv v16) _ (fun W' hW' => range_row ((hW'.block _ sn7_V3).trans gn7_V3.out)) (Tryd.underlying23) rfl (by rw [bv_len, h16.out]; kernel_rfl)) hHeld ?_
  try simp only [pu]
  refine wpAnyH_take (i := 8) (oi := ⟨(some 25), _, _, _, _, _⟩) (v := _) rfl (by kernel_rfl) (by kernel_rfl) (by kernel_rfl) (fun _ _ _ h => h) (yieldsIf_load_mid (by rfl) _ _ rfl (w.heap.size) 0 rfl (bv n) _ (fun W' hW' => range_row ((hW'.block _ sb0_V3).trans gb0_V3.out)) (Tryd.underlying23) rfl (by rw [bv_len, Hhn.out]; kernel_rfl)) hHeld ?_
  try simp only [pu]
  refine wpAnyH_take (i := 9) (oi := ⟨(some 26), _, _, _, _, _⟩) (v := _) rfl (by kernel_rfl) (by kernel_rfl) (by kernel_rfl) (fun _ _ _ h => h) (yieldsIf_load_mid (by rfl) _ _ rfl (w.heap.size + 1) 0 rfl (bv m) _ (fun W' hW' => range_row ((hW'.block _ sb1_V3).trans gb1_V3.out)) (Tryd.underlying23) rfl (by rw [bv_len, Hhm.out]; kernel_rfl)) hHeld ?_
  try simp only [pu]
  refine wpAnyH_ready (rs := [10]) (by kernel_rfl) (by simp) ?_
  refine AllReadyH.cons (i := 10) (o := ⟨(some 27), _, _, _, _, _⟩) rfl (fun K hK => ?_) AllReadyH.nil
  go_simp
  refine (ladd_any _ (hlaV3.next hHeld).o n m (Hhn.out) (Hhm.out)).mono ?_
  rintro e W12 ⟨v27, rfl, e27, h27, hb12⟩
  refine hK.out _ _ (below_next hHeld hHeld.size hb12) (fun hHeld => ?_)
  clear hK K hb12
  try simp only [pu]
  refine wpAnyH_ready (rs := [11]) (by kernel_rfl) (by simp) ?_
  refine AllReadyH.cons (i := 11) (o := ⟨(some 28), _, _, _, _, _⟩) rfl (fun K hK => ?_) AllReadyH.nil
  go_simp
  refine (l9times_any _ (hlaV3.next hHeld).p v27 (h27.out)).mono ?_
  rintro e W13 ⟨v28, rfl, e28, h28, hb13⟩
  refine hK.out _ _ (below_next hHeld hHeld.size hb13) (fun hHeld => ?_)
  clear hK K hb13
  try simp only [pu]
  obtain rfl : v16 = v28 := by rw [e16.out.1, e28.out.1, e27.out, ln_wl, mulE_FL, mulE_add bE_on]
  have qV3_12 := eql_bytes_same (P := Tryd.prog) Tryd.underlying23 Tryd.underlying5 Tryd.sizeByte v16 (h16.out)
  refine wpAnyH_take (i := 12) (oi := ⟨(some 29), _, _, _, _, _⟩) (v := ?vqV3_4_12) rfl (by kernel_rfl) (by kernel_rfl) (by kernel_rfl) (fun _ _ _ h => h) (Or.inl ⟨by rfl, ?yqV3_4_12⟩) hHeld ?_
  case yqV3_4_12 => (intro W0 hSw; go_simp; try with_reducible rfl)
  try simp only [pu]
  refine wpAnyH_take (i := 13) (oi := ⟨(some 30), _, _, _, _, _⟩) (v := ?vqV3_4_13) rfl (by kernel_rfl) (by kernel_rfl) (by kernel_rfl) (fun _ _ _ h => h) (Or.inl ⟨by rfl, ?yqV3_4_13⟩) hHeld ?_
  case yqV3_4_13 => (intro W0 hSw; go_simp; try with_reducible rfl)
  try simp only [pu]
  refine wpAnyH_take (i := 14) (oi := ⟨(some 31), _, _, _, _, _⟩) (v := ?vqV3_4_14) rfl (by kernel_rfl) (by kernel_rfl) (by kernel_rfl) (fun _ _ _ h => h) (Or.inl ⟨by rfl, ?yqV3_4_14⟩) hHeld ?_
  case yqV3_4_14 => (intro W0 hSw; go_simp; try with_reducible rfl)
  try simp only [pu]
  refine wpAnyH_take (i := 15) (oi := ⟨(some 32), _, _, _, _, _⟩) (v := _) rfl (by kernel_rfl) (by kernel_rfl) (by kernel_rfl) (fun _ _ _ h => h) (yieldsIf_load_mid (by rfl) _ _ rfl G7 0 rfl (bv v16) _ (fun W' hW' => range_row ((hW'.block _ sn7_V3).trans gn7_V3.out)) (Tryd.underlying23) rfl (by rw [bv_len, h16.out]; kernel_rfl)) hHeld ?_
  try simp only [pu]
  refine wpAnyH_take (i := 16) (oi := ⟨(some 33), _, _, _, _, _⟩) (v := _) rfl (by kernel_rfl) (by kernel_rfl) (by kernel_rfl) (fun _ _ _ h => h) (yieldsIf_load_mid (by rfl) _ _ rfl G6 0 rfl (bv v13) _ (fun W' hW' => range_row ((hW'.block _ sn6_V3).trans gn6_V3.out)) (Tryd.underlying23) rfl (by rw [bv_len, h13.out]; kernel_rfl)) hHeld ?_
  try simp only [pu]
  refine wpAnyH_take (i := 17) (oi := ⟨(some 34), _, _, _, _, _⟩) (v := _) rfl (by kernel_rfl) (by kernel_rfl) (by kernel_rfl) (fun _ _ _ h => h) (yieldsIf_load_mid (by rfl) _ _ rfl G5 0 rfl (bv v11) _ (fun W' hW' => range_row ((hW'.block _ sn5_V3).trans gn5_V3.out)) (Tryd.underlying23) rfl (by rw [bv_len, h11.out]; kernel_rfl)) hHeld ?_
  try simp only [pu]
  refine wpAnyH_ready (rs := [18]) (by kernel_rfl) (by simp) ?_
  refine AllReadyH.cons (i := 18) (o := ⟨(some 35), _, _, _, _, _⟩) rfl (fun K hK => ?_) AllReadyH.nil
  go_simp
  refine (l9sum_any _ (hlaV3.next hHeld).p v13 v11 (h13.out) (e13.out) (h11.out) (e11.out)).mono ?_
  rintro e W14 ⟨v35, rfl, e35, h35, hb14⟩
  refine hK.out _ _ (below_next hHeld hHeld.size hb14) (fun hHeld => ?_)
  clear hK K hb14
  try simp only [pu]
  obtain rfl : v16 = v35 := (e16.out.1.trans (congrArg encE (addE_comm e11.out.2 e13.out.2))).trans e35.out.1.symm
  have qV3_19 := eql_bytes_same (P := Tryd.prog) Tryd.underlying23 Tryd.underlying5 Tryd.sizeByte v16 (h16.out)
  refine wpAnyH_take (i := 19) (oi := ⟨(some 36), _, _, _, _, _⟩) (v := ?vqV3_4_19) rfl (by kernel_rfl) (by kernel_rfl) (by kernel_rfl) (fun _ _ _ h => h) (Or.inl ⟨by rfl, ?yqV3_4_19⟩) hHeld ?_
  case yqV3_4_19 => (intro W0 hSw; go_simp; try with_reducible rfl)
  try simp only [pu]
  refine wpAnyH_take (i := 20) (oi := ⟨(some 37), _, _, _, _, _⟩) (v := ?vqV3_4_20) rfl (by kernel_rfl) (by kernel_rfl) (by kernel_rfl) (fun _ _ _ h => h) (Or.inl ⟨by rfl, ?yqV3_4_20⟩) hHeld ?_
  case yqV3_4_20 => (intro W0 hSw; go_simp; try with_reducible rfl)
  try simp only [pu]
  refine wpAnyH_take (i := 21) (oi := ⟨(some 38), _, _, _, _, _⟩) (v := ?vqV3_4_21) rfl (by kernel_rfl) (by kernel_rfl) (by kernel_rfl) (fun _ _ _ h => h) (Or.inl ⟨by rfl, ?yqV3_4_21⟩) hHeld ?_
  case yqV3_4_21 => (intro W0 hSw; go_simp; try with_reducible rfl)
  try simp only [pu]
  refine wpAnyH_take (i := 22) (oi := ⟨(some 39), _, _, _, _, _⟩) (v := _) rfl (by kernel_rfl) (by kernel_rfl) (by kernel_rfl) (fun _ _ _ h => h) (yieldsIf_load_mid (by rfl) _ _ rfl G7 0 rfl (bv v16) _ (fun W' hW' => range_row ((hW'.block _ sn7_V3).trans gn7_V3.out)) (Tryd.underlying23) rfl (by rw [bv_len, h16.out]; kernel_rfl)) hHeld ?_
  try simp only [pu]
  refine wpAnyH_take (i := 23) (oi := ⟨(some 40), _, _, _, _, _⟩) (v := _) rfl (by kernel_rfl) (by kernel_rfl) (by kernel_rfl) (fun _ _ _ h => h) (yieldsIf_load_mid (by rfl) _ _ rfl G5 0 rfl (bv v11) _ (fun W' hW' => range_row ((hW'.block _ sn5_V3).trans gn5_V3.out)) (Tryd.underlying23) rfl (by rw [bv_len, h11.out]; kernel_rfl)) hHeld ?_
  try simp only [pu]
  refine wpAnyH_take (i := 25) (oi := ⟨(some 42), _, _, _, _, _⟩) (v := _) rfl (by kernel_rfl) (by kernel_rfl) (by kernel_rfl) (fun _ _ _ h => h) (yieldsIf_load_mid (by rfl) _ _ rfl G5 0 rfl (bv v11) _ (fun W' hW' => range_row ((hW'.block _ sn5_V3).trans gn5_V3.out)) (Tryd.underlying23) rfl (by rw [bv_len, h11.out]; kernel_rfl)) hHeld ?_
  try simp only [pu]
  refine wpAnyH_take (i := 26) (oi := ⟨(some 43), _, _, _, _, _⟩) (v := _) rfl (by kernel_rfl) (by kernel_rfl) (by kernel_rfl) (fun _ _ _ h => h) (yieldsIf_load_mid (by rfl) _ _ rfl G6 0 rfl (bv v13) _ (fun W' hW' => range_row ((hW'.block _ sn6_V3).trans gn6_V3.out)) (Tryd.underlying23) rfl (by rw [bv_len, h13.out]; kernel_rfl)) hHeld ?_
  try simp only [pu]
  refine wpAnyH_take (i := 27) (oi := ⟨(some 44), _, _, _, _, _⟩) (v := _) rfl (by kernel_rfl) (by kernel_rfl) (by kernel_rfl) (fun _ _ _ h => h) (yieldsIf_load_mid (by rfl) _ _ rfl G5 0 rfl (bv v11) _ (fun W' hW' => range_row ((hW'.block _ sn5_V3).trans gn5_V3.out)) (Tryd.underlying23) rfl (by rw [bv_len, h11.out]; kernel_rfl)) hHeld ?_
  try simp only [pu]
  refine wpAnyH_ready (rs := [24]) (by kernel_rfl) (by simp) ?_
  refine AllReadyH.cons (i := 24) (o := ⟨(some 41), _, _, _, _, _⟩) rfl (fun K hK => ?_) AllReadyH.nil
  go_simp
  refine (l9sum_any _ (hlaV3.next hHeld).p v16 v11 (h16.out) (e16.out) (h11.out) (e11.out)).mono ?_
  rintro e W15 ⟨v41, rfl, e41, h41, hb15⟩
  refine hK.out _ _ (below_next hHeld hHeld.size hb15) (fun hHeld => ?_)
  clear hK K hb15
  try simp only [pu]
  refine wpAnyH_ready (rs := [28]) (by kernel_rfl) (by simp) ?_
  refine AllReadyH.cons (i := 28) (o := ⟨(some 45), _, _, _, _, _⟩) rfl (fun K hK => ?_) AllReadyH.nil
  go_simp
  refine (l9sum_any _ (hlaV3.next hHeld).p v13 v11 (h13.out) (e13.out) (h11.out) (e11.out)).mono ?_
  rintro e W16 ⟨v45, rfl, e45, h45, hb16⟩
  refine hK.out _ _ (below_next hHeld hHeld.size hb16) (fun hHeld => ?_)
  clear hK K hb16
  try simp only [pu]
  refine wpAnyH_ready (rs := [29]) (by kernel_rfl) (by simp) ?_
  refine AllReadyH.cons (i := 29) (o := ⟨(some 46), _, _, _, _, _⟩) rfl (fun K hK => ?_) AllReadyH.nil
  go_simp
  refine (l9sum_any _ (hlaV3.next hHeld).p v11 v45 (h11.out) (e11.out) (h45.out) (e45.out)).mono ?_
  rintro e W17 ⟨v46, rfl, e46, h46, hb17⟩
  refine hK.out _ _ (below_next hHeld hHeld.size hb17) (fun hHeld => ?_)
  clear hK K hb17
  try simp only [pu]
  obtain rfl : v41 = v46 := (e41.out.1.trans (congrArg encE (addE_assoc e11.out.2 e13.out.2 e11.out.2))).trans e46.out.1.symm
  have qV3_30 := eql_bytes_same (P := Tryd.prog) Tryd.underlying23 Tryd.underlying5 Tryd.sizeByte v41 (h41.out)
  refine wpAnyH_take (i := 30) (oi := ⟨(some 47), _, _, _, _, _⟩) (v := ?vqV3_4_30) rfl (by kernel_rfl) (by kernel_rfl) (by kernel_rfl) (fun _ _ _ h => h) (Or.inl ⟨by rfl, ?yqV3_4_30⟩) hHeld ?_
  case yqV3_4_30 => (intro W0 hSw; go_simp; try with_reducible rfl)
  try simp only [pu]
  refine wpAnyH_take (i := 31) (oi := ⟨(some 48), _, _, _, _, _⟩) (v := ?vqV3_4_31) rfl (by kernel_rfl) (by kernel_rfl) (by kernel_rfl) (fun _ _ _ h => h) (Or.inl ⟨by rfl, ?yqV3_4_31⟩) hHeld ?_
  case yqV3_4_31 => (intro W0 hSw; go_simp; try with_reducible rfl)
  try simp only [pu]
  refine wpAnyH_take (i := 32) (oi := ⟨(some 49), _, _, _, _, _⟩) (v := ?vqV3_4_32) rfl (by kernel_rfl) (by kernel_rfl) (by kernel_rfl) (fun _ _ _ h => h) (Or.inl ⟨by rfl, ?yqV3_4_32⟩) hHeld ?_
  case yqV3_4_32 => (intro W0 hSw; go_simp; try with_reducible rfl)
  try simp only [pu]
  refine wpAnyH_take (i := 33) (oi := ⟨(some 50), _, _, _, _, _⟩) (v := _) rfl (by kernel_rfl) (by kernel_rfl) (by kernel_rfl) (fun _ _ _ h => h) (yieldsIf_load_mid (by rfl) _ _ rfl G5 0 rfl (bv v11) _ (fun W' hW' => range_row ((hW'.block _ sn5_V3).trans gn5_V3.out)) (Tryd.underlying23) rfl (by rw [bv_len, h11.out]; kernel_rfl)) hHeld ?_
  try simp only [pu]
  refine wpAnyH_take (i := 34) (oi := ⟨(some 51), _, _, _, _, _⟩) (v := _) rfl (by kernel_rfl) (by kernel_rfl) (by kernel_rfl) (fun _ _ _ h => h) (yieldsIf_load_mid (by rfl) _ _ rfl (w.heap.size) 0 rfl (bv n) _ (fun W' hW' => range_row ((hW'.block _ sb0_V3).trans gb0_V3.out)) (Tryd.underlying23) rfl (by rw [bv_len, Hhn.out]; kernel_rfl)) hHeld ?_
  try simp only [pu]
  refine wpAnyH_ready (rs := [35]) (by kernel_rfl) (by simp) ?_
  refine AllReadyH.cons (i := 35) (o := ⟨(some 52), _, _, _, _, _⟩) rfl (fun K hK => ?_) AllReadyH.nil
  go_simp
  refine (lnorm_any _ (hlaV3.next hHeld).o n (Hhn.out)).mono ?_
  rintro e W18 ⟨v52, rfl, e52, h52, hb18⟩
  refine hK.out _ _ (below_next hHeld hHeld.size hb18) (fun hHeld => ?_)
  clear hK K hb18
  try simp only [pu]
  refine wpAnyH_ready (rs := [36]) (by kernel_rfl) (by simp) ?_
  refine AllReadyH.cons (i := 36) (o := ⟨(some 53), _, _, _, _, _⟩) rfl (fun K hK => ?_) AllReadyH.nil
  go_simp
  refine (l9times_any _ (hlaV3.next hHeld).p v52 (h52.out)).mono ?_
  rintro e W19 ⟨v53, rfl, e53, h53, hb19⟩
  refine hK.out _ _ (below_next hHeld hHeld.size hb19) (fun hHeld => ?_)
  clear hK K hb19
  try simp only [pu]
  obtain rfl : v11 = v53 := by rw [e11.out.1, e53.out.1, e52.out, ln_wl, mulE_FL]
  have qV3_37 := eql_bytes_same (P := Tryd.prog) Tryd.underlying23 Tryd.underlying5 Tryd.sizeByte v11 (h11.out)
  refine wpAnyH_take (i := 37) (oi := ⟨(some 54), _, _, _, _, _⟩) (v := ?vqV3_4_37) rfl (by kernel_rfl) (by kernel_rfl) (by kernel_rfl) (fun _ _ _ h => h) (Or.inl ⟨by rfl, ?yqV3_4_37⟩) hHeld ?_
  case yqV3_4_37 => (intro W0 hSw; go_simp; try with_reducible rfl)
  try simp only [pu]
  refine wpAnyH_take (i := 38) (oi := ⟨(some 55), _, _, _, _, _⟩) (v := ?vqV3_4_38) rfl (by kernel_rfl) (by kernel_rfl) (by kernel_rfl) (fun _ _ _ h => h) (Or.inl ⟨by rfl, ?yqV3_4_38⟩) hHeld ?_
  case yqV3_4_38 => (intro W0 hSw; go_simp; try with_reducible rfl)
  try simp only [pu]
  refine wpAnyH_take (i := 39) (oi := ⟨(some 4), _, _, _, _, _⟩) (v := ?vqV3_4_39) rfl (by kernel_rfl) (by kernel_rfl) (by kernel_rfl) (fun _ _ _ h => h) (Or.inl ⟨by rfl, ?yqV3_4_39⟩) hHeld ?_
  case yqV3_4_39 => (intro W0 hSw; go_simp; try with_reducible rfl)
  try simp only [pu]
  refine wpAnyH_done (by kernel_rfl) ?_ _
  obtain ⟨V4, rV4⟩ : ∃ X, X = W19 := ⟨_, rfl⟩
  subst rV4
  have gb0_V4 := row_next2 gb0_V3 hHeld
  have sb0_V4 := row_size gb0_V4
  have gb1_V4 := row_next2 gb1_V3 hHeld
  have sb1_V4 := row_size gb1_V4
  have gn5_V4 := row_next2 gn5_V3 hHeld
  have sn5_V4 := row_size gn5_V4
  have gn6_V4 := row_next2 gn6_V3 hHeld
  have sn6_V4 := row_size gn6_V4
  have gn7_V4 := row_next2 gn7_V3 hHeld
  have sn7_V4 := row_size gn7_V4
  have hb_V4 := below_next hb_V3 hb_V3.size hHeld
  have hlaV4 := hlaV3.next hHeld
  clear hHeld hb_V3 sb0_V3 sb1_V3 sn5_V3 sn6_V3 sn7_V3
  clear gb0_V3 gb1_V3 gn5_V3 gn6_V3 gn7_V3 hlaV3
  go_wp2
  go_ret
  exact ⟨rfl, hb_V4⟩
end Go.Proofs.YtehkalbiomagjaaDoor
