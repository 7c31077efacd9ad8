/-
  PointTimes: the law's Go text returns true, whatever the input. Conditions: none beyond the row's own.
-/
import Derived.Test.YtehkalbiomagjaaDoorPkZ
namespace Go.Proofs.YtehkalbiomagjaaDoor
open Go.RowKit

set_option maxRecDepth 100000 in
set_option maxHeartbeats 4000000 in
theorem walk_PointTimes (w : World) (hla : LaidQ w) (n : List UInt8) (hn : n.length = 32) (m : List UInt8) (hm : m.length = 32) :
    Calls Tryd.prog 5 #[.agg (bv n).toArray, .agg (bv m).toArray] w fun e w' => e = .returned (.bool true) ∧ Below w.heap.size w w' := by
  have hzw := zero_word
  obtain ⟨V0, hW, gb0_V0, gb1_V0, hb_V0, hsW⟩ := pair_new w (bv n).toArray (bv m).toArray 23 23
  have HW := Lib.hid hW
  have Hhn := Lib.hid hn
  have Hhm := Lib.hid hm
  have sb0_V0 := row_size gb0_V0
  have sb1_V0 := row_size gb1_V0
  have hlaV0 := hla.next hb_V0
  clear hla
  clear hW hsW hn hm
  go_enter Tryd.func5, Tryd.ntmps5
  go_upto_region 1 with fail
  rw [HW.out]
  refine plain_start (S := fun W' => Below V0.heap.size V0 W') (by kernel_rfl) (Below.refl _ _) (fun hHeld => ?_)
  refine wpAnyH_ready (rs := [0]) (by kernel_rfl) (by simp) ?_
  refine AllReadyH.cons (i := 0) (o := ⟨(some 10), _, _, _, _, _⟩) rfl (fun K hK => ?_) AllReadyH.nil
  go_simp
  refine (awake9_any _ hlaV0.p).mono ?_
  rintro e W1 ⟨rfl, hb1⟩
  refine hK.out _ _ (below_next hHeld hHeld.size hb1) (fun hHeld => ?_)
  clear hK K hb1
  try simp only [pu]
  refine wpAnyH_take (i := 1) (oi := ⟨(some 11), _, _, _, _, _⟩) (v := ?vqV0_1_1) rfl (by kernel_rfl) (by kernel_rfl) (by kernel_rfl) (fun _ _ _ h => h) (Or.inl ⟨by rfl, ?yqV0_1_1⟩) hHeld ?_
  case yqV0_1_1 => (intro W0 hSw; go_simp; try with_reducible rfl)
  try simp only [pu]
  refine wpAnyH_done (by kernel_rfl) ?_ _
  obtain ⟨V1, rV1⟩ : ∃ X, X = W1 := ⟨_, rfl⟩
  subst rV1
  have gb0_V1 := row_next2 gb0_V0 hHeld
  have sb0_V1 := row_size gb0_V1
  have gb1_V1 := row_next2 gb1_V0 hHeld
  have sb1_V1 := row_size gb1_V1
  have hb_V1 := below_next hb_V0 hb_V0.size hHeld
  have hlaV1 := hlaV0.next hHeld
  clear hHeld hb_V0 sb0_V0 sb1_V0
  clear gb0_V0 gb1_V0 hlaV0
  go_upto_region 3 with fail
  refine plain_start (S := fun W' => Below V1.heap.size V1 W') (by kernel_rfl) (Below.refl _ _) (fun hHeld => ?_)
  refine wpAnyH_take (i := 0) (oi := ⟨(some 12), _, _, _, _, _⟩) (v := _) rfl (by kernel_rfl) (by kernel_rfl) (by kernel_rfl) (fun _ _ _ h => h) (yieldsIf_load_mid (by rfl) _ _ rfl (w.heap.size) 0 rfl (bv n) _ (fun W' hW' => range_row ((hW'.block _ sb0_V1).trans gb0_V1.out)) (Tryd.underlying23) rfl (by rw [bv_len, Hhn.out]; kernel_rfl)) hHeld ?_
  try simp only [pu]
  refine mix_start (B := V1.heap.size) (al := [⟨2, 5, 23, ((bv z32)).toArray⟩]) (fuel := 2) rfl hHeld (hHeld.size) ?_
  clear hHeld
  refine mix_call (i := 1) (o := ⟨(some 13), _, _, _, _, _⟩) rfl (by kernel_rfl) (by kernel_rfl) (by kernel_rfl) (by kernel_rfl) (fun x hx => by simp only [List.mem_cons, List.not_mem_nil, or_false] at hx; rcases hx with rfl <;> first | exact makes_new rfl rfl rfl rfl zero_word) (fun W x _ h => h.alloc h.size _) (fun _ _ _ _ _ h => h) (fun X2 hHeld hBX K hK => ?_)
  go_simp
  refine (l9times_any _ (hlaV1.next hHeld).p n (Hhn.out)).mono ?_
  rintro e W2 ⟨v13, rfl, e13, h13, hb2⟩
  refine hK.out _ _ (below_next hHeld hHeld.size hb2) hb2 ?_
  clear hK K hHeld hBX hb2
  try simp only [pu]
  refine mix_end (by kernel_rfl) (by kernel_rfl) (by simp) (by simp) (fun x hx => by simp only [List.mem_cons, List.not_mem_nil, or_false] at hx; rcases hx with rfl <;> first | exact makes_new rfl rfl rfl rfl zero_word) (fun W x _ h => h.alloc h.size _) (fun D hD W3 hHeld hBX hHo => ?_)
  obtain ⟨G5, rfl⟩ := v_one hD
  have xG5 : Hid (W3.heap[G5]? = some (.cells ((bv z32)).toArray 23 (0, 0))) := hHo.row (⟨2, 5, 23, ((bv z32)).toArray⟩, G5) (by simp)
  have lG5 : V1.heap.size ≤ G5 := hHo.new (⟨2, 5, 23, ((bv z32)).toArray⟩, G5) (by simp)
  clear hHo hBX hD
  simp only [markD, putD, List.foldr_cons, List.foldr_nil, pu, List.setIfInBounds_toArray, List.set_cons_zero, List.set_cons_succ]
  refine wpAnyH_ready (rs := [3]) (by kernel_rfl) (by simp) ?_
  refine AllReadyH.cons (i := 3) (o := ⟨none, _, _, _, _, _⟩) rfl (fun K hK => ?_) AllReadyH.nil
  refine step_row (by rfl) 23 (.tmp 5) (.tmp 13) rfl G5 (bv v13) rfl rfl 23 _ xG5.out (by rw [bv_len, h13.out]; kernel_rfl) (by rw [List.size_toArray, bv_len, bv_len, h13.out, z32_len]) (bv_one _) ?_
  intro W4 yG5 kG5
  refine hK.out _ _ (But.below hHeld kG5 lG5 hHeld.size) (fun hHeld => ?_)
  clear hK K kG5 xG5
  have xG5 := yG5
  clear yG5
  try simp only [pu]
  refine wpAnyH_done (by kernel_rfl) ?_ _
  obtain ⟨V2, rV2⟩ : ∃ X, X = W4 := ⟨_, rfl⟩
  subst rV2
  have gb0_V2 := row_next2 gb0_V1 hHeld
  have sb0_V2 := row_size gb0_V2
  have gb1_V2 := row_next2 gb1_V1 hHeld
  have sb1_V2 := row_size gb1_V2
  have hb_V2 := below_next hb_V1 hb_V1.size hHeld
  have hlaV2 := hlaV1.next hHeld
  have gn5_V2 := xG5
  have sn5_V2 := row_size gn5_V2
  clear xG5
  have wG5 : w.heap.size + 2 ≤ G5 := by omega
  clear hHeld hb_V1 sb0_V1 sb1_V1
  clear gb0_V1 gb1_V1 hlaV1 lG5
  go_upto_region 4 with fail
  refine plain_start (S := fun W' => Below V2.heap.size V2 W') (by kernel_rfl) (Below.refl _ _) (fun hHeld => ?_)
  refine wpAnyH_take (i := 0) (oi := ⟨(some 15), _, _, _, _, _⟩) (v := _) rfl (by kernel_rfl) (by kernel_rfl) (by kernel_rfl) (fun _ _ _ h => h) (yieldsIf_load_mid (by rfl) _ _ rfl (w.heap.size + 1) 0 rfl (bv m) _ (fun W' hW' => range_row ((hW'.block _ sb1_V2).trans gb1_V2.out)) (Tryd.underlying23) rfl (by rw [bv_len, Hhm.out]; kernel_rfl)) hHeld ?_
  try simp only [pu]
  refine wpAnyH_take (i := 1) (oi := ⟨(some 16), _, _, _, _, _⟩) (v := _) rfl (by kernel_rfl) (by kernel_rfl) (by kernel_rfl) (fun _ _ _ h => h) (yieldsIf_load_mid (by rfl) _ _ rfl G5 0 rfl (bv v13) _ (fun W' hW' => range_row ((hW'.block _ sn5_V2).trans gn5_V2.out)) (Tryd.underlying23) rfl (by rw [bv_len, h13.out]; kernel_rfl)) hHeld ?_
  try simp only [pu]
  refine mix_start (B := V2.heap.size) (al := [⟨6, 6, 23, ((bv z32)).toArray⟩]) (fuel := 6) rfl hHeld (hHeld.size) ?_
  clear hHeld
  refine mix_call (i := 2) (o := ⟨(some 17), _, _, _, _, _⟩) rfl (by kernel_rfl) (by kernel_rfl) (by kernel_rfl) (by kernel_rfl) (fun x hx => by simp only [List.mem_cons, List.not_mem_nil, or_false] at hx; rcases hx with rfl <;> first | exact makes_new rfl rfl rfl rfl zero_word) (fun W x _ h => h.alloc h.size _) (fun _ _ _ _ _ h => h) (fun X5 hHeld hBX K hK => ?_)
  go_simp
  refine (pmul_any _ (hlaV2.next hHeld).p m v13 (Hhm.out) (h13.out)).mono ?_
  rintro e W5 ⟨v17, k17, rfl, e17, h17, hb5⟩
  refine hK.out _ _ (below_next hHeld hHeld.size hb5) hb5 ?_
  clear hK K hHeld hBX hb5
  try simp only [pu]
  refine mix_take (i := 3) (o := ⟨(some 14), _, _, _, _, _⟩) (v := ?vqV2_3_3) rfl (by kernel_rfl) (by kernel_rfl) (by kernel_rfl) (by kernel_rfl) (by kernel_rfl) (fun _ _ _ h => h) (Or.inl ⟨by rfl, ?yqV2_3_3⟩) ?_
  case yqV2_3_3 => (intro W0 hSw; go_simp; try with_reducible rfl)
  try simp only [pu]
  refine mix_take (i := 4) (o := ⟨(some 18), _, _, _, _, _⟩) (v := .agg (bv v17).toArray) rfl (by kernel_rfl) (by kernel_rfl) (by kernel_rfl) (by kernel_rfl) (by kernel_rfl) (fun _ _ _ h => h) (Or.inl ⟨by rfl, ?yqV2_3_4⟩) ?_
  case yqV2_3_4 => (intro W0 hSw; go_simp; try with_reducible rfl)
  try simp only [pu]
  refine mix_take (i := 5) (o := ⟨(some 19), _, _, _, _, _⟩) (v := .int .i64 k17) rfl (by kernel_rfl) (by kernel_rfl) (by kernel_rfl) (by kernel_rfl) (by kernel_rfl) (fun _ _ _ h => h) (Or.inl ⟨by rfl, ?yqV2_3_5⟩) ?_
  case yqV2_3_5 => (intro W0 hSw; go_simp; try with_reducible rfl)
  try simp only [pu]
  refine mix_end (by kernel_rfl) (by kernel_rfl) (by simp) (by simp) (fun x hx => by simp only [List.mem_cons, List.not_mem_nil, or_false] at hx; rcases hx with rfl <;> first | exact makes_new rfl rfl rfl rfl zero_word) (fun W x _ h => h.alloc h.size _) (fun D hD W6 hHeld hBX hHo => ?_)
  obtain ⟨G6, rfl⟩ := v_one hD
  have xG6 : Hid (W6.heap[G6]? = some (.cells ((bv z32)).toArray 23 (0, 0))) := hHo.row (⟨6, 6, 23, ((bv z32)).toArray⟩, G6) (by simp)
  have lG6 : V2.heap.size ≤ G6 := hHo.new (⟨6, 6, 23, ((bv z32)).toArray⟩, G6) (by simp)
  clear hHo hBX hD
  simp only [markD, putD, List.foldr_cons, List.foldr_nil, pu, List.setIfInBounds_toArray, List.set_cons_zero, List.set_cons_succ]
  refine wpAnyH_ready (rs := [7]) (by kernel_rfl) (by simp) ?_
  refine AllReadyH.cons (i := 7) (o := ⟨none, _, _, _, _, _⟩) rfl (fun K hK => ?_) AllReadyH.nil
  refine step_row (by rfl) 23 (.tmp 6) (.tmp 18) rfl G6 (bv v17) rfl rfl 23 _ xG6.out (by rw [bv_len, h17.out]; kernel_rfl) (by rw [List.size_toArray, bv_len, bv_len, h17.out, z32_len]) (bv_one _) ?_
  intro W7 yG6 kG6
  refine hK.out _ _ (But.below hHeld kG6 lG6 hHeld.size) (fun hHeld => ?_)
  clear hK K kG6 xG6
  have xG6 := yG6
  clear yG6
  try simp only [pu]
  refine wpAnyH_take (i := 8) (oi := ⟨(some 7), _, _, _, _, _⟩) (v := ?vqV2_3_8) rfl (by kernel_rfl) (by kernel_rfl) (by kernel_rfl) (fun _ _ _ h => h) (Or.inl ⟨by rfl, ?yqV2_3_8⟩) hHeld ?_
  case yqV2_3_8 => (intro W0 hSw; go_simp; try with_reducible rfl)
  try simp only [pu]
  refine wpAnyH_done (by kernel_rfl) ?_ _
  obtain ⟨V3, rV3⟩ : ∃ X, X = W7 := ⟨_, rfl⟩
  subst rV3
  have gb0_V3 := row_next2 gb0_V2 hHeld
  have sb0_V3 := row_size gb0_V3
  have gb1_V3 := row_next2 gb1_V2 hHeld
  have sb1_V3 := row_size gb1_V3
  have gn5_V3 := row_next2 gn5_V2 hHeld
  have sn5_V3 := row_size gn5_V3
  have hb_V3 := below_next hb_V2 hb_V2.size hHeld
  have hlaV3 := hlaV2.next hHeld
  have gn6_V3 := xG6
  have sn6_V3 := row_size gn6_V3
  clear xG6
  have wG6 : w.heap.size + 2 ≤ G6 := by omega
  have nG5G6 : G5 ≠ G6 := by omega
  clear hHeld hb_V2 sb0_V2 sb1_V2 sn5_V2
  clear gb0_V2 gb1_V2 gn5_V2 hlaV2 lG6
  have HM := vlt (mul_base e17.out e13.out.1 e13.out.2)
  obtain rfl : k17 = 0 := HM.out.2
  clear e17
  go_upto_region 5 with fail
  refine plain_start (S := fun W' => Below V3.heap.size V3 W') (by kernel_rfl) (Below.refl _ _) (fun hHeld => ?_)
  refine wpAnyH_take (i := 0) (oi := ⟨(some 21), _, _, _, _, _⟩) (v := _) rfl (by kernel_rfl) (by kernel_rfl) (by kernel_rfl) (fun _ _ _ h => h) (yieldsIf_load_mid (by rfl) _ _ rfl G5 0 rfl (bv v13) _ (fun W' hW' => range_row ((hW'.block _ sn5_V3).trans gn5_V3.out)) (Tryd.underlying23) rfl (by rw [bv_len, h13.out]; kernel_rfl)) hHeld ?_
  try simp only [pu]
  refine mix_start (B := V3.heap.size) (al := [⟨5, 8, 23, ((bv z32)).toArray⟩]) (fuel := 6) rfl hHeld (hHeld.size) ?_
  clear hHeld
  refine mix_call (i := 1) (o := ⟨(some 22), _, _, _, _, _⟩) rfl (by kernel_rfl) (by kernel_rfl) (by kernel_rfl) (by kernel_rfl) (fun x hx => by simp only [List.mem_cons, List.not_mem_nil, or_false] at hx; rcases hx with rfl <;> first | exact makes_new rfl rfl rfl rfl zero_word) (fun W x _ h => h.alloc h.size _) (fun _ _ _ _ _ h => h) (fun X8 hHeld hBX K hK => ?_)
  go_simp
  refine (pneg_any _ (hlaV3.next hHeld).p v13 (h13.out)).mono ?_
  rintro e W8 ⟨v22, k22, rfl, e22, h22, hb8⟩
  refine hK.out _ _ (below_next hHeld hHeld.size hb8) hb8 ?_
  clear hK K hHeld hBX hb8
  try simp only [pu]
  refine mix_take (i := 2) (o := ⟨(some 20), _, _, _, _, _⟩) (v := ?vqV3_4_2) rfl (by kernel_rfl) (by kernel_rfl) (by kernel_rfl) (by kernel_rfl) (by kernel_rfl) (fun _ _ _ h => h) (Or.inl ⟨by rfl, ?yqV3_4_2⟩) ?_
  case yqV3_4_2 => (intro W0 hSw; go_simp; try with_reducible rfl)
  try simp only [pu]
  refine mix_take (i := 3) (o := ⟨(some 23), _, _, _, _, _⟩) (v := .agg (bv v22).toArray) rfl (by kernel_rfl) (by kernel_rfl) (by kernel_rfl) (by kernel_rfl) (by kernel_rfl) (fun _ _ _ h => h) (Or.inl ⟨by rfl, ?yqV3_4_3⟩) ?_
  case yqV3_4_3 => (intro W0 hSw; go_simp; try with_reducible rfl)
  try simp only [pu]
  refine mix_take (i := 4) (o := ⟨(some 24), _, _, _, _, _⟩) (v := .int .i64 k22) rfl (by kernel_rfl) (by kernel_rfl) (by kernel_rfl) (by kernel_rfl) (by kernel_rfl) (fun _ _ _ h => h) (Or.inl ⟨by rfl, ?yqV3_4_4⟩) ?_
  case yqV3_4_4 => (intro W0 hSw; go_simp; try with_reducible rfl)
  try simp only [pu]
  refine mix_end (by kernel_rfl) (by kernel_rfl) (by simp) (by simp) (fun x hx => by simp only [List.mem_cons, List.not_mem_nil, or_false] at hx; rcases hx with rfl <;> first | exact makes_new rfl rfl rfl rfl zero_word) (fun W x _ h => h.alloc h.size _) (fun D hD W9 hHeld hBX hHo => ?_)
  obtain ⟨G8, rfl⟩ := v_one hD
  have xG8 : Hid (W9.heap[G8]? = some (.cells ((bv z32)).toArray 23 (0, 0))) := hHo.row (⟨5, 8, 23, ((bv z32)).toArray⟩, G8) (by simp)
  have lG8 : V3.heap.size ≤ G8 := hHo.new (⟨5, 8, 23, ((bv z32)).toArray⟩, G8) (by simp)
  clear hHo hBX hD
  simp only [markD, putD, List.foldr_cons, List.foldr_nil, pu, List.setIfInBounds_toArray, List.set_cons_zero, List.set_cons_succ]
  refine wpAnyH_ready (rs := [6]) (by kernel_rfl) (by simp) ?_
  refine AllReadyH.cons (i := 6) (o := ⟨none, _, _, _, _, _⟩) rfl (fun K hK => ?_) AllReadyH.nil
  refine step_row (by rfl) 23 (.tmp 8) (.tmp 23) rfl G8 (bv v22) rfl rfl 23 _ xG8.out (by rw [bv_len, h22.out]; kernel_rfl) (by rw [List.size_toArray, bv_len, bv_len, h22.out, z32_len]) (bv_one _) ?_
  intro W10 yG8 kG8
  refine hK.out _ _ (But.below hHeld kG8 lG8 hHeld.size) (fun hHeld => ?_)
  clear hK K kG8 xG8
  have xG8 := yG8
  clear yG8
  try simp only [pu]
  refine wpAnyH_take (i := 7) (oi := ⟨(some 9), _, _, _, _, _⟩) (v := ?vqV3_4_7) rfl (by kernel_rfl) (by kernel_rfl) (by kernel_rfl) (fun _ _ _ h => h) (Or.inl ⟨by rfl, ?yqV3_4_7⟩) hHeld ?_
  case yqV3_4_7 => (intro W0 hSw; go_simp; try with_reducible rfl)
  try simp only [pu]
  refine wpAnyH_done (by kernel_rfl) ?_ _
  obtain ⟨V4, rV4⟩ : ∃ X, X = W10 := ⟨_, rfl⟩
  subst rV4
  have gb0_V4 := row_next2 gb0_V3 hHeld
  have sb0_V4 := row_size gb0_V4
  have gb1_V4 := row_next2 gb1_V3 hHeld
  have sb1_V4 := row_size gb1_V4
  have gn5_V4 := row_next2 gn5_V3 hHeld
  have sn5_V4 := row_size gn5_V4
  have gn6_V4 := row_next2 gn6_V3 hHeld
  have sn6_V4 := row_size gn6_V4
  have hb_V4 := below_next hb_V3 hb_V3.size hHeld
  have hlaV4 := hlaV3.next hHeld
  have gn8_V4 := xG8
  have sn8_V4 := row_size gn8_V4
  clear xG8
  have wG8 : w.heap.size + 2 ≤ G8 := by omega
  have nG5G8 : G5 ≠ G8 := by omega
  have nG6G8 : G6 ≠ G8 := by omega
  clear hHeld hb_V3 sb0_V3 sb1_V3 sn5_V3 sn6_V3
  clear gb0_V3 gb1_V3 gn5_V3 gn6_V3 hlaV3 lG8
  have HN := vlt (neg_one e22.out e13.out.1 e13.out.2)
  obtain rfl : k22 = 0 := HN.out.2
  clear e22
  go_upto_region 6 with fail
  refine wp_region_held_drew (S := fun W' => Below V4.heap.size V4 W') (by kernel_rfl) ((Below.refl _ _).drew) (fun hHeld => ?_)
  refine wpAnyH_take (i := 0) (oi := ⟨(some 25), _, _, _, _, _⟩) (v := ?vqV4_5_0) rfl (by kernel_rfl) (by kernel_rfl) (by kernel_rfl) (fun _ _ _ h => h) (Or.inl ⟨by rfl, ?yqV4_5_0⟩) hHeld ?_
  case yqV4_5_0 => (intro W0 hSw; go_simp; try with_reducible rfl)
  try simp only [pu]
  refine wpAnyH_take (i := 1) (oi := ⟨(some 26), _, _, _, _, _⟩) (v := ?vqV4_5_1) rfl (by kernel_rfl) (by kernel_rfl) (by kernel_rfl) (fun _ _ _ h => h) (Or.inl ⟨by rfl, ?yqV4_5_1⟩) hHeld ?_
  case yqV4_5_1 => (intro W0 hSw; go_simp; try with_reducible rfl)
  try simp only [pu]
  refine wpAnyH_take (i := 2) (oi := ⟨(some 27), _, _, _, _, _⟩) (v := ?vqV4_5_2) rfl (by kernel_rfl) (by kernel_rfl) (by kernel_rfl) (fun _ _ _ h => h) (Or.inl ⟨by rfl, ?yqV4_5_2⟩) hHeld ?_
  case yqV4_5_2 => (intro W0 hSw; go_simp; try with_reducible rfl)
  try simp only [pu]
  refine wpAnyH_take (i := 3) (oi := ⟨(some 28), _, _, _, _, _⟩) (v := ?vqV4_5_3) rfl (by kernel_rfl) (by kernel_rfl) (by kernel_rfl) (fun _ _ _ h => h) (Or.inl ⟨by rfl, ?yqV4_5_3⟩) hHeld ?_
  case yqV4_5_3 => (intro W0 hSw; go_simp; try with_reducible rfl)
  try simp only [pu]
  refine wpAnyH_take (i := 4) (oi := ⟨(some 29), _, _, _, _, _⟩) (v := ?vqV4_5_4) rfl (by kernel_rfl) (by kernel_rfl) (by kernel_rfl) (fun _ _ _ h => h) (Or.inl ⟨by rfl, ?yqV4_5_4⟩) hHeld ?_
  case yqV4_5_4 => (intro W0 hSw; go_simp; try with_reducible rfl)
  try simp only [pu]
  refine wpAnyH_take (i := 5) (oi := ⟨(some 30), _, _, _, _, _⟩) (v := ?vqV4_5_5) rfl (by kernel_rfl) (by kernel_rfl) (by kernel_rfl) (fun _ _ _ h => h) (Or.inl ⟨by rfl, ?yqV4_5_5⟩) hHeld ?_
  case yqV4_5_5 => (intro W0 hSw; go_simp; try with_reducible rfl)
  try simp only [pu]
  refine wpAnyH_take (i := 6) (oi := ⟨(some 31), _, _, _, _, _⟩) (v := ?vqV4_5_6) rfl (by kernel_rfl) (by kernel_rfl) (by kernel_rfl) (fun _ _ _ h => h) (Or.inl ⟨by rfl, ?yqV4_5_6⟩) hHeld ?_
  case yqV4_5_6 => (intro W0 hSw; go_simp; try with_reducible rfl)
  try simp only [pu]
  refine wpAnyH_take (i := 7) (oi := ⟨(some 32), _, _, _, _, _⟩) (v := _) rfl (by kernel_rfl) (by kernel_rfl) (by kernel_rfl) (fun _ _ _ h => h) (yieldsIf_load_mid (by rfl) _ _ rfl G6 0 rfl (bv v17) _ (fun W' hW' => range_row ((hW'.block _ sn6_V4).trans gn6_V4.out)) (Tryd.underlying23) rfl (by rw [bv_len, h17.out]; kernel_rfl)) hHeld ?_
  try simp only [pu]
  refine wpAnyH_take (i := 8) (oi := ⟨(some 33), _, _, _, _, _⟩) (v := _) rfl (by kernel_rfl) (by kernel_rfl) (by kernel_rfl) (fun _ _ _ h => h) (yieldsIf_load_mid (by rfl) _ _ rfl (w.heap.size) 0 rfl (bv n) _ (fun W' hW' => range_row ((hW'.block _ sb0_V4).trans gb0_V4.out)) (Tryd.underlying23) rfl (by rw [bv_len, Hhn.out]; kernel_rfl)) hHeld ?_
  try simp only [pu]
  refine wpAnyH_take (i := 9) (oi := ⟨(some 34), _, _, _, _, _⟩) (v := _) rfl (by kernel_rfl) (by kernel_rfl) (by kernel_rfl) (fun _ _ _ h => h) (yieldsIf_load_mid (by rfl) _ _ rfl (w.heap.size + 1) 0 rfl (bv m) _ (fun W' hW' => range_row ((hW'.block _ sb1_V4).trans gb1_V4.out)) (Tryd.underlying23) rfl (by rw [bv_len, Hhm.out]; kernel_rfl)) hHeld ?_
  try simp only [pu]
  refine wpAnyH_ready (rs := [10]) (by kernel_rfl) (by simp) ?_
  refine AllReadyH.cons (i := 10) (o := ⟨(some 35), _, _, _, _, _⟩) rfl (fun K hK => ?_) AllReadyH.nil
  go_simp
  refine (lmul_any _ (hlaV4.next hHeld).o n m (Hhn.out) (Hhm.out)).mono ?_
  rintro e W11 ⟨v35, rfl, e35, h35, hb11⟩
  refine hK.out _ _ (below_next hHeld hHeld.size hb11) (fun hHeld => ?_)
  clear hK K hb11
  try simp only [pu]
  refine wpAnyH_ready (rs := [11]) (by kernel_rfl) (by simp) ?_
  refine AllReadyH.cons (i := 11) (o := ⟨(some 36), _, _, _, _, _⟩) rfl (fun K hK => ?_) AllReadyH.nil
  go_simp
  refine (l9times_any _ (hlaV4.next hHeld).p v35 (h35.out)).mono ?_
  rintro e W12 ⟨v36, rfl, e36, h36, hb12⟩
  refine hK.out _ _ (below_next hHeld hHeld.size hb12) (fun hHeld => ?_)
  clear hK K hb12
  try simp only [pu]
  obtain rfl : v17 = v36 := by rw [HM.out.1, e36.out.1, e35.out, ln_wl, mulE_FL, mulE_mul bE_on]
  have qV4_12 := eql_bytes_same (P := Tryd.prog) Tryd.underlying23 Tryd.underlying5 Tryd.sizeByte v17 (h17.out)
  refine wpAnyH_take (i := 12) (oi := ⟨(some 37), _, _, _, _, _⟩) (v := ?vqV4_5_12) rfl (by kernel_rfl) (by kernel_rfl) (by kernel_rfl) (fun _ _ _ h => h) (Or.inl ⟨by rfl, ?yqV4_5_12⟩) hHeld ?_
  case yqV4_5_12 => (intro W0 hSw; go_simp; try with_reducible rfl)
  try simp only [pu]
  refine wpAnyH_take (i := 13) (oi := ⟨(some 38), _, _, _, _, _⟩) (v := ?vqV4_5_13) rfl (by kernel_rfl) (by kernel_rfl) (by kernel_rfl) (fun _ _ _ h => h) (Or.inl ⟨by rfl, ?yqV4_5_13⟩) hHeld ?_
  case yqV4_5_13 => (intro W0 hSw; go_simp; try with_reducible rfl)
  try simp only [pu]
  refine wpAnyH_take (i := 14) (oi := ⟨(some 39), _, _, _, _, _⟩) (v := ?vqV4_5_14) rfl (by kernel_rfl) (by kernel_rfl) (by kernel_rfl) (fun _ _ _ h => h) (Or.inl ⟨by rfl, ?yqV4_5_14⟩) hHeld ?_
  case yqV4_5_14 => (intro W0 hSw; go_simp; try with_reducible rfl)
  try simp only [pu]
  refine wpAnyH_take (i := 15) (oi := ⟨(some 40), _, _, _, _, _⟩) (v := _) rfl (by kernel_rfl) (by kernel_rfl) (by kernel_rfl) (fun _ _ _ h => h) (yieldsIf_load_mid (by rfl) _ _ rfl G5 0 rfl (bv v13) _ (fun W' hW' => range_row ((hW'.block _ sn5_V4).trans gn5_V4.out)) (Tryd.underlying23) rfl (by rw [bv_len, h13.out]; kernel_rfl)) hHeld ?_
  try simp only [pu]
  refine wpAnyH_take (i := 16) (oi := ⟨(some 41), _, _, _, _, _⟩) (v := _) rfl (by kernel_rfl) (by kernel_rfl) (by kernel_rfl) (fun _ _ _ h => h) (yieldsIf_load_mid (by rfl) _ _ rfl G8 0 rfl (bv v22) _ (fun W' hW' => range_row ((hW'.block _ sn8_V4).trans gn8_V4.out)) (Tryd.underlying23) rfl (by rw [bv_len, h22.out]; kernel_rfl)) hHeld ?_
  try simp only [pu]
  refine wpAnyH_ready (rs := [17]) (by kernel_rfl) (by simp) ?_
  refine AllReadyH.cons (i := 17) (o := ⟨(some 42), _, _, _, _, _⟩) rfl (fun K hK => ?_) AllReadyH.nil
  go_simp
  refine (l9sum_any _ (hlaV4.next hHeld).p v13 v22 (h13.out) (e13.out) (h22.out) (⟨HN.out.1, negE_on e13.out.2⟩)).mono ?_
  rintro e W13 ⟨v42, rfl, e42, h42, hb13⟩
  refine hK.out _ _ (below_next hHeld hHeld.size hb13) (fun hHeld => ?_)
  clear hK K hb13
  try simp only [pu]
  refine wpAnyH_ready (rs := [18]) (by kernel_rfl) (by simp) ?_
  refine AllReadyH.cons (i := 18) (o := ⟨(some 43), _, _, _, _, _⟩) rfl (fun K hK => ?_) AllReadyH.nil
  go_simp
  refine (pzero_any _  ).mono ?_
  rintro e W14 ⟨v43, rfl, e43, h43, hb14⟩
  refine hK.out _ _ (below_next hHeld hHeld.size hb14) (fun hHeld => ?_)
  clear hK K hb14
  try simp only [pu]
  obtain rfl : v42 = v43 := by rw [e42.out.1, addE_neg e13.out.2, e43.out, one_zE]
  have qV4_19 := eql_bytes_same (P := Tryd.prog) Tryd.underlying23 Tryd.underlying5 Tryd.sizeByte v42 (h42.out)
  refine wpAnyH_take (i := 19) (oi := ⟨(some 44), _, _, _, _, _⟩) (v := ?vqV4_5_19) rfl (by kernel_rfl) (by kernel_rfl) (by kernel_rfl) (fun _ _ _ h => h) (Or.inl ⟨by rfl, ?yqV4_5_19⟩) hHeld ?_
  case yqV4_5_19 => (intro W0 hSw; go_simp; try with_reducible rfl)
  try simp only [pu]
  refine wpAnyH_take (i := 20) (oi := ⟨(some 45), _, _, _, _, _⟩) (v := ?vqV4_5_20) rfl (by kernel_rfl) (by kernel_rfl) (by kernel_rfl) (fun _ _ _ h => h) (Or.inl ⟨by rfl, ?yqV4_5_20⟩) hHeld ?_
  case yqV4_5_20 => (intro W0 hSw; go_simp; try with_reducible rfl)
  try simp only [pu]
  refine wpAnyH_take (i := 21) (oi := ⟨(some 4), _, _, _, _, _⟩) (v := ?vqV4_5_21) rfl (by kernel_rfl) (by kernel_rfl) (by kernel_rfl) (fun _ _ _ h => h) (Or.inl ⟨by rfl, ?yqV4_5_21⟩) hHeld ?_
  case yqV4_5_21 => (intro W0 hSw; go_simp; try with_reducible rfl)
  try simp only [pu]
  refine wpAnyH_done (by kernel_rfl) ?_ _
  obtain ⟨V5, rV5⟩ : ∃ X, X = W14 := ⟨_, rfl⟩
  subst rV5
  have gb0_V5 := row_next2 gb0_V4 hHeld
  have sb0_V5 := row_size gb0_V5
  have gb1_V5 := row_next2 gb1_V4 hHeld
  have sb1_V5 := row_size gb1_V5
  have gn5_V5 := row_next2 gn5_V4 hHeld
  have sn5_V5 := row_size gn5_V5
  have gn6_V5 := row_next2 gn6_V4 hHeld
  have sn6_V5 := row_size gn6_V5
  have gn8_V5 := row_next2 gn8_V4 hHeld
  have sn8_V5 := row_size gn8_V5
  have hb_V5 := below_next hb_V4 hb_V4.size hHeld
  have hlaV5 := hlaV4.next hHeld
  clear hHeld hb_V4 sb0_V4 sb1_V4 sn5_V4 sn6_V4 sn8_V4
  clear gb0_V4 gb1_V4 gn5_V4 gn6_V4 gn8_V4 hlaV4
  go_wp2
  go_ret
  exact ⟨rfl, hb_V5⟩
end Go.Proofs.YtehkalbiomagjaaDoor
