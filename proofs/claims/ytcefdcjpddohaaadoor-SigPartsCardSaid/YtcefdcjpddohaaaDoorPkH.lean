/-
  Words and contracts that other texts share, several in one text. No statement of the seat is proved here. Conditions: as each contract says.
  Contracts of point's twice and sixteenfold. Conditions: none.
  Contract of point's acrossFrom: the even x at y, or none. Conditions: the packages' own numbers lie as the program's text lays them.
-/
import Derived.Test.YtcefdcjpddohaaaDoorPkF
import Derived.Test.YtcefdcjpddohaaaDoorPkG
namespace Go.Proofs.YtcefdcjpddohaaaDoor
open Go.RowKit

set_option maxRecDepth 100000 in
set_option maxHeartbeats 4000000 in
theorem twice_any (w : World) (p : List UInt8) {P : PtE} (hp : p.length = 128) (hPl : PlE p P) :
    Calls Tryd.prog 67 #[.agg (bv p).toArray] w fun e w' => ∃ p, e = .returned (.agg (bv p).toArray) ∧ Vlt (PlE p (addE P P)) ∧ Hid (p.length = 128) ∧ Below w.heap.size w w' := by
  have hzw := zero_word
  have hzp := zero_place
  have HP := vlt hPl
  clear hPl
  obtain ⟨V0, hW, gb0_V0, gb1_V0, hb_V0, hsW⟩ := pair_new w (bv p).toArray (bv z128).toArray 64 64
  have HW := Lib.hid hW
  have Hhp := Lib.hid hp
  have sb0_V0 := row_size gb0_V0
  have sb1_V0 := row_size gb1_V0
  clear hW hsW hp
  go_enter Tryd.func67, Tryd.ntmps67
  go_upto_region 1 with fail
  rw [HW.out]
  have Hp0 := Lib.hid (sub_len p 0 32 (by rw [Hhp.out]; decide))
  have Hp1 := Lib.hid (sub_len p 32 32 (by rw [Hhp.out]; decide))
  have Hp2 := Lib.hid (sub_len p 64 32 (by rw [Hhp.out]; decide))
  have Hp3 := Lib.hid (sub_len p 96 32 (by rw [Hhp.out]; decide))
  refine wp_region_held_drew (S := fun W' => Below V0.heap.size V0 W') (by kernel_rfl) ((Below.refl _ _).drew) (fun hHeld => ?_)
  refine wpAnyH_take (i := 0) (oi := ⟨(some 8), _, _, _, _, _⟩) (v := ?vqV0_1_0) rfl (by kernel_rfl) (by kernel_rfl) (by kernel_rfl) (fun _ _ _ h => h) (Or.inl ⟨by rfl, ?yqV0_1_0⟩) hHeld ?_
  case yqV0_1_0 => (intro W0 hSw; go_simp; try with_reducible rfl)
  try simp only [pu]
  refine wpAnyH_take (i := 1) (oi := ⟨(some 9), _, _, _, _, _⟩) (v := _) rfl (by kernel_rfl) (by kernel_rfl) (by kernel_rfl) (fun _ _ _ h => h) (yieldsIf_load_mid (by rfl) _ _ rfl (w.heap.size) 0 rfl (bv (sub p 0 32)) _ (fun W' hW' => range_sub ((hW'.block _ sb0_V0).trans gb0_V0.out)) (Tryd.underlying23) rfl (by rw [bv_len, Hp0.out]; kernel_rfl)) hHeld ?_
  try simp only [pu]
  refine wpAnyH_take (i := 2) (oi := ⟨(some 10), _, _, _, _, _⟩) (v := ?vqV0_1_2) rfl (by kernel_rfl) (by kernel_rfl) (by kernel_rfl) (fun _ _ _ h => h) (Or.inl ⟨by rfl, ?yqV0_1_2⟩) hHeld ?_
  case yqV0_1_2 => (intro W0 hSw; go_simp; try with_reducible rfl)
  try simp only [pu]
  refine wpAnyH_take (i := 3) (oi := ⟨(some 11), _, _, _, _, _⟩) (v := _) rfl (by kernel_rfl) (by kernel_rfl) (by kernel_rfl) (fun _ _ _ h => h) (yieldsIf_load_mid (by rfl) _ _ rfl (w.heap.size) 0 rfl (bv (sub p 0 32)) _ (fun W' hW' => range_sub ((hW'.block _ sb0_V0).trans gb0_V0.out)) (Tryd.underlying23) rfl (by rw [bv_len, Hp0.out]; kernel_rfl)) hHeld ?_
  try simp only [pu]
  refine wpAnyH_take (i := 5) (oi := ⟨(some 13), _, _, _, _, _⟩) (v := ?vqV0_1_5) rfl (by kernel_rfl) (by kernel_rfl) (by kernel_rfl) (fun _ _ _ h => h) (Or.inl ⟨by rfl, ?yqV0_1_5⟩) hHeld ?_
  case yqV0_1_5 => (intro W0 hSw; go_simp; try with_reducible rfl)
  try simp only [pu]
  refine wpAnyH_take (i := 6) (oi := ⟨(some 14), _, _, _, _, _⟩) (v := _) rfl (by kernel_rfl) (by kernel_rfl) (by kernel_rfl) (fun _ _ _ h => h) (yieldsIf_load_mid (by rfl) _ _ rfl (w.heap.size) 32 rfl (bv (sub p 32 32)) _ (fun W' hW' => range_sub ((hW'.block _ sb0_V0).trans gb0_V0.out)) (Tryd.underlying23) rfl (by rw [bv_len, Hp1.out]; kernel_rfl)) hHeld ?_
  try simp only [pu]
  refine wpAnyH_take (i := 7) (oi := ⟨(some 15), _, _, _, _, _⟩) (v := ?vqV0_1_7) rfl (by kernel_rfl) (by kernel_rfl) (by kernel_rfl) (fun _ _ _ h => h) (Or.inl ⟨by rfl, ?yqV0_1_7⟩) hHeld ?_
  case yqV0_1_7 => (intro W0 hSw; go_simp; try with_reducible rfl)
  try simp only [pu]
  refine wpAnyH_take (i := 8) (oi := ⟨(some 16), _, _, _, _, _⟩) (v := _) rfl (by kernel_rfl) (by kernel_rfl) (by kernel_rfl) (fun _ _ _ h => h) (yieldsIf_load_mid (by rfl) _ _ rfl (w.heap.size) 32 rfl (bv (sub p 32 32)) _ (fun W' hW' => range_sub ((hW'.block _ sb0_V0).trans gb0_V0.out)) (Tryd.underlying23) rfl (by rw [bv_len, Hp1.out]; kernel_rfl)) hHeld ?_
  try simp only [pu]
  refine wpAnyH_take (i := 10) (oi := ⟨(some 18), _, _, _, _, _⟩) (v := ?vqV0_1_10) rfl (by kernel_rfl) (by kernel_rfl) (by kernel_rfl) (fun _ _ _ h => h) (Or.inl ⟨by rfl, ?yqV0_1_10⟩) hHeld ?_
  case yqV0_1_10 => (intro W0 hSw; go_simp; try with_reducible rfl)
  try simp only [pu]
  refine wpAnyH_take (i := 11) (oi := ⟨(some 19), _, _, _, _, _⟩) (v := _) rfl (by kernel_rfl) (by kernel_rfl) (by kernel_rfl) (fun _ _ _ h => h) (yieldsIf_load_mid (by rfl) _ _ rfl (w.heap.size) 64 rfl (bv (sub p 64 32)) _ (fun W' hW' => range_sub ((hW'.block _ sb0_V0).trans gb0_V0.out)) (Tryd.underlying23) rfl (by rw [bv_len, Hp2.out]; kernel_rfl)) hHeld ?_
  try simp only [pu]
  refine wpAnyH_take (i := 12) (oi := ⟨(some 20), _, _, _, _, _⟩) (v := ?vqV0_1_12) rfl (by kernel_rfl) (by kernel_rfl) (by kernel_rfl) (fun _ _ _ h => h) (Or.inl ⟨by rfl, ?yqV0_1_12⟩) hHeld ?_
  case yqV0_1_12 => (intro W0 hSw; go_simp; try with_reducible rfl)
  try simp only [pu]
  refine wpAnyH_take (i := 13) (oi := ⟨(some 21), _, _, _, _, _⟩) (v := _) rfl (by kernel_rfl) (by kernel_rfl) (by kernel_rfl) (fun _ _ _ h => h) (yieldsIf_load_mid (by rfl) _ _ rfl (w.heap.size) 64 rfl (bv (sub p 64 32)) _ (fun W' hW' => range_sub ((hW'.block _ sb0_V0).trans gb0_V0.out)) (Tryd.underlying23) rfl (by rw [bv_len, Hp2.out]; kernel_rfl)) hHeld ?_
  try simp only [pu]
  refine wpAnyH_take (i := 15) (oi := ⟨(some 23), _, _, _, _, _⟩) (v := ?vqV0_1_15) rfl (by kernel_rfl) (by kernel_rfl) (by kernel_rfl) (fun _ _ _ h => h) (Or.inl ⟨by rfl, ?yqV0_1_15⟩) hHeld ?_
  case yqV0_1_15 => (intro W0 hSw; go_simp; try with_reducible rfl)
  try simp only [pu]
  refine wpAnyH_take (i := 16) (oi := ⟨(some 24), _, _, _, _, _⟩) (v := _) rfl (by kernel_rfl) (by kernel_rfl) (by kernel_rfl) (fun _ _ _ h => h) (yieldsIf_load_mid (by rfl) _ _ rfl (w.heap.size) 0 rfl (bv (sub p 0 32)) _ (fun W' hW' => range_sub ((hW'.block _ sb0_V0).trans gb0_V0.out)) (Tryd.underlying23) rfl (by rw [bv_len, Hp0.out]; kernel_rfl)) hHeld ?_
  try simp only [pu]
  refine wpAnyH_take (i := 17) (oi := ⟨(some 25), _, _, _, _, _⟩) (v := ?vqV0_1_17) rfl (by kernel_rfl) (by kernel_rfl) (by kernel_rfl) (fun _ _ _ h => h) (Or.inl ⟨by rfl, ?yqV0_1_17⟩) hHeld ?_
  case yqV0_1_17 => (intro W0 hSw; go_simp; try with_reducible rfl)
  try simp only [pu]
  refine wpAnyH_take (i := 18) (oi := ⟨(some 26), _, _, _, _, _⟩) (v := _) rfl (by kernel_rfl) (by kernel_rfl) (by kernel_rfl) (fun _ _ _ h => h) (yieldsIf_load_mid (by rfl) _ _ rfl (w.heap.size) 32 rfl (bv (sub p 32 32)) _ (fun W' hW' => range_sub ((hW'.block _ sb0_V0).trans gb0_V0.out)) (Tryd.underlying23) rfl (by rw [bv_len, Hp1.out]; kernel_rfl)) hHeld ?_
  try simp only [pu]
  refine mix_start (B := V0.heap.size) (al := [⟨20, 3, 23, ((bv z32)).toArray⟩, ⟨21, 4, 23, ((bv z32)).toArray⟩, ⟨22, 5, 23, ((bv z32)).toArray⟩, ⟨23, 6, 23, ((bv z32)).toArray⟩]) (fuel := 8) rfl hHeld (hHeld.size) ?_
  clear hHeld
  refine mix_call (i := 4) (o := ⟨(some 12), _, _, _, _, _⟩) rfl (by kernel_rfl) (by kernel_rfl) (by kernel_rfl) (by kernel_rfl) (fun x hx => by simp only [List.mem_cons, List.not_mem_nil, or_false] at hx; rcases hx with rfl | rfl | rfl | rfl <;> first | exact makes_new rfl rfl rfl rfl zero_word) (fun W x _ h => h.alloc h.size _) (fun _ _ _ _ _ h => h) (fun X1 hHeld hBX K hK => ?_)
  go_simp
  refine (fmul_any _ (sub p 0 32) (sub p 0 32) (Hp0.out) (Hp0.out)).mono ?_
  rintro e W1 ⟨v12, rfl, e12, h12, hb1⟩
  refine hK.out _ _ (below_next hHeld hHeld.size hb1) hb1 ?_
  clear hK K hHeld hBX hb1
  try simp only [pu]
  refine mix_call (i := 9) (o := ⟨(some 17), _, _, _, _, _⟩) rfl (by kernel_rfl) (by kernel_rfl) (by kernel_rfl) (by kernel_rfl) (fun x hx => by simp only [List.mem_cons, List.not_mem_nil, or_false] at hx; rcases hx with rfl | rfl | rfl | rfl <;> first | exact makes_new rfl rfl rfl rfl zero_word) (fun W x _ h => h.alloc h.size _) (fun _ _ _ _ _ h => h) (fun X2 hHeld hBX K hK => ?_)
  go_simp
  refine (fmul_any _ (sub p 32 32) (sub p 32 32) (Hp1.out) (Hp1.out)).mono ?_
  rintro e W2 ⟨v17, rfl, e17, h17, hb2⟩
  refine hK.out _ _ (below_next hHeld hHeld.size hb2) hb2 ?_
  clear hK K hHeld hBX hb2
  try simp only [pu]
  refine mix_call (i := 14) (o := ⟨(some 22), _, _, _, _, _⟩) rfl (by kernel_rfl) (by kernel_rfl) (by kernel_rfl) (by kernel_rfl) (fun x hx => by simp only [List.mem_cons, List.not_mem_nil, or_false] at hx; rcases hx with rfl | rfl | rfl | rfl <;> first | exact makes_new rfl rfl rfl rfl zero_word) (fun W x _ h => h.alloc h.size _) (fun _ _ _ _ _ h => h) (fun X3 hHeld hBX K hK => ?_)
  go_simp
  refine (fmul_any _ (sub p 64 32) (sub p 64 32) (Hp2.out) (Hp2.out)).mono ?_
  rintro e W3 ⟨v22, rfl, e22, h22, hb3⟩
  refine hK.out _ _ (below_next hHeld hHeld.size hb3) hb3 ?_
  clear hK K hHeld hBX hb3
  try simp only [pu]
  refine mix_call (i := 19) (o := ⟨(some 27), _, _, _, _, _⟩) rfl (by kernel_rfl) (by kernel_rfl) (by kernel_rfl) (by kernel_rfl) (fun x hx => by simp only [List.mem_cons, List.not_mem_nil, or_false] at hx; rcases hx with rfl | rfl | rfl | rfl <;> first | exact makes_new rfl rfl rfl rfl zero_word) (fun W x _ h => h.alloc h.size _) (fun _ _ _ _ _ h => h) (fun X4 hHeld hBX K hK => ?_)
  go_simp
  refine (fmul_any _ (sub p 0 32) (sub p 32 32) (Hp0.out) (Hp1.out)).mono ?_
  rintro e W4 ⟨v27, rfl, e27, h27, hb4⟩
  refine hK.out _ _ (below_next hHeld hHeld.size hb4) hb4 ?_
  clear hK K hHeld hBX hb4
  try simp only [pu]
  refine mix_end (by kernel_rfl) (by kernel_rfl) (by simp) (by simp) (fun x hx => by simp only [List.mem_cons, List.not_mem_nil, or_false] at hx; rcases hx with rfl | rfl | rfl | rfl <;> first | exact makes_new rfl rfl rfl rfl zero_word) (fun W x _ h => h.alloc h.size _) (fun D hD W5 hHeld hBX hHo => ?_)
  obtain ⟨G3, G4, G5, G6, rfl⟩ := v_four hD
  have xG3 : Hid (W5.heap[G3]? = some (.cells ((bv z32)).toArray 23 (0, 0))) := hHo.row (⟨20, 3, 23, ((bv z32)).toArray⟩, G3) (by simp)
  have lG3 : V0.heap.size ≤ G3 := hHo.new (⟨20, 3, 23, ((bv z32)).toArray⟩, G3) (by simp)
  have xG4 : Hid (W5.heap[G4]? = some (.cells ((bv z32)).toArray 23 (0, 0))) := hHo.row (⟨21, 4, 23, ((bv z32)).toArray⟩, G4) (by simp)
  have lG4 : V0.heap.size ≤ G4 := hHo.new (⟨21, 4, 23, ((bv z32)).toArray⟩, G4) (by simp)
  have xG5 : Hid (W5.heap[G5]? = some (.cells ((bv z32)).toArray 23 (0, 0))) := hHo.row (⟨22, 5, 23, ((bv z32)).toArray⟩, G5) (by simp)
  have lG5 : V0.heap.size ≤ G5 := hHo.new (⟨22, 5, 23, ((bv z32)).toArray⟩, G5) (by simp)
  have xG6 : Hid (W5.heap[G6]? = some (.cells ((bv z32)).toArray 23 (0, 0))) := hHo.row (⟨23, 6, 23, ((bv z32)).toArray⟩, G6) (by simp)
  have lG6 : V0.heap.size ≤ G6 := hHo.new (⟨23, 6, 23, ((bv z32)).toArray⟩, G6) (by simp)
  have hnd := hHo.nodup
  simp only [List.map_cons, List.map_nil, List.nodup_cons, List.mem_cons, List.not_mem_nil, or_false, not_or, not_false_eq_true, List.nodup_nil, and_true] at hnd
  obtain ⟨⟨nG3G4, nG3G5, nG3G6⟩, ⟨nG4G5, nG4G6⟩, nG5G6⟩ := hnd
  clear hHo hBX hD
  simp only [markD, putD, List.foldr_cons, List.foldr_nil, pu, List.setIfInBounds_toArray, List.set_cons_zero, List.set_cons_succ]
  refine wpAnyH_ready (rs := [24]) (by kernel_rfl) (by simp) ?_
  refine AllReadyH.cons (i := 24) (o := ⟨none, _, _, _, _, _⟩) rfl (fun K hK => ?_) AllReadyH.nil
  refine step_row (by rfl) 23 (.tmp 3) (.tmp 12) rfl G3 (bv v12) rfl rfl 23 _ xG3.out (by rw [bv_len, h12.out]; kernel_rfl) (by rw [List.size_toArray, bv_len, bv_len, h12.out, z32_len]) (bv_one _) ?_
  intro W6 yG3 kG3
  have zG4 := row_but xG4 kG3 (by omega)
  clear xG4
  have xG4 := zG4
  clear zG4
  have zG5 := row_but xG5 kG3 (by omega)
  clear xG5
  have xG5 := zG5
  clear zG5
  have zG6 := row_but xG6 kG3 (by omega)
  clear xG6
  have xG6 := zG6
  clear zG6
  refine hK.out _ _ (But.below hHeld kG3 lG3 hHeld.size) (fun hHeld => ?_)
  clear hK K kG3 xG3
  have xG3 := yG3
  clear yG3
  try simp only [pu]
  refine wpAnyH_ready (rs := [25]) (by kernel_rfl) (by simp) ?_
  refine AllReadyH.cons (i := 25) (o := ⟨none, _, _, _, _, _⟩) rfl (fun K hK => ?_) AllReadyH.nil
  refine step_row (by rfl) 23 (.tmp 4) (.tmp 17) rfl G4 (bv v17) rfl rfl 23 _ xG4.out (by rw [bv_len, h17.out]; kernel_rfl) (by rw [List.size_toArray, bv_len, bv_len, h17.out, z32_len]) (bv_one _) ?_
  intro W7 yG4 kG4
  have zG3 := row_but xG3 kG4 (by omega)
  clear xG3
  have xG3 := zG3
  clear zG3
  have zG5 := row_but xG5 kG4 (by omega)
  clear xG5
  have xG5 := zG5
  clear zG5
  have zG6 := row_but xG6 kG4 (by omega)
  clear xG6
  have xG6 := zG6
  clear zG6
  refine hK.out _ _ (But.below hHeld kG4 lG4 hHeld.size) (fun hHeld => ?_)
  clear hK K kG4 xG4
  have xG4 := yG4
  clear yG4
  try simp only [pu]
  refine wpAnyH_ready (rs := [26]) (by kernel_rfl) (by simp) ?_
  refine AllReadyH.cons (i := 26) (o := ⟨none, _, _, _, _, _⟩) rfl (fun K hK => ?_) AllReadyH.nil
  refine step_row (by rfl) 23 (.tmp 5) (.tmp 22) rfl G5 (bv v22) rfl rfl 23 _ xG5.out (by rw [bv_len, h22.out]; kernel_rfl) (by rw [List.size_toArray, bv_len, bv_len, h22.out, z32_len]) (bv_one _) ?_
  intro W8 yG5 kG5
  have zG3 := row_but xG3 kG5 (by omega)
  clear xG3
  have xG3 := zG3
  clear zG3
  have zG4 := row_but xG4 kG5 (by omega)
  clear xG4
  have xG4 := zG4
  clear zG4
  have zG6 := row_but xG6 kG5 (by omega)
  clear xG6
  have xG6 := zG6
  clear zG6
  refine hK.out _ _ (But.below hHeld kG5 lG5 hHeld.size) (fun hHeld => ?_)
  clear hK K kG5 xG5
  have xG5 := yG5
  clear yG5
  try simp only [pu]
  refine wpAnyH_ready (rs := [27]) (by kernel_rfl) (by simp) ?_
  refine AllReadyH.cons (i := 27) (o := ⟨none, _, _, _, _, _⟩) rfl (fun K hK => ?_) AllReadyH.nil
  refine step_row (by rfl) 23 (.tmp 6) (.tmp 27) rfl G6 (bv v27) rfl rfl 23 _ xG6.out (by rw [bv_len, h27.out]; kernel_rfl) (by rw [List.size_toArray, bv_len, bv_len, h27.out, z32_len]) (bv_one _) ?_
  intro W9 yG6 kG6
  have zG3 := row_but xG3 kG6 (by omega)
  clear xG3
  have xG3 := zG3
  clear zG3
  have zG4 := row_but xG4 kG6 (by omega)
  clear xG4
  have xG4 := zG4
  clear zG4
  have zG5 := row_but xG5 kG6 (by omega)
  clear xG5
  have xG5 := zG5
  clear zG5
  refine hK.out _ _ (But.below hHeld kG6 lG6 hHeld.size) (fun hHeld => ?_)
  clear hK K kG6 xG6
  have xG6 := yG6
  clear yG6
  try simp only [pu]
  refine wpAnyH_done (by kernel_rfl) ?_ _
  obtain ⟨V1, rV1⟩ : ∃ X, X = W9 := ⟨_, rfl⟩
  subst rV1
  have gb0_V1 := row_next2 gb0_V0 hHeld
  have sb0_V1 := row_size gb0_V1
  have gb1_V1 := row_next2 gb1_V0 hHeld
  have sb1_V1 := row_size gb1_V1
  have hb_V1 := below_next hb_V0 hb_V0.size hHeld
  have gn3_V1 := xG3
  have sn3_V1 := row_size gn3_V1
  clear xG3
  have gn4_V1 := xG4
  have sn4_V1 := row_size gn4_V1
  clear xG4
  have gn5_V1 := xG5
  have sn5_V1 := row_size gn5_V1
  clear xG5
  have gn6_V1 := xG6
  have sn6_V1 := row_size gn6_V1
  clear xG6
  have wG3 : w.heap.size + 2 ≤ G3 := by omega
  have wG4 : w.heap.size + 2 ≤ G4 := by omega
  have wG5 : w.heap.size + 2 ≤ G5 := by omega
  have wG6 : w.heap.size + 2 ≤ G6 := by omega
  clear hHeld hb_V0 sb0_V0 sb1_V0
  clear gb0_V0 gb1_V0 lG3 lG4 lG5 lG6
  go_upto_region 2 with fail
  refine plain_start (S := fun W' => Below V1.heap.size V1 W') (by kernel_rfl) (Below.refl _ _) (fun hHeld => ?_)
  refine wpAnyH_take (i := 0) (oi := ⟨(some 28), _, _, _, _, _⟩) (v := _) rfl (by kernel_rfl) (by kernel_rfl) (by kernel_rfl) (fun _ _ _ h => h) (yieldsIf_load_mid (by rfl) _ _ rfl G4 0 rfl (bv v17) _ (fun W' hW' => range_row ((hW'.block _ sn4_V1).trans gn4_V1.out)) (Tryd.underlying23) rfl (by rw [bv_len, h17.out]; kernel_rfl)) hHeld ?_
  try simp only [pu]
  refine wpAnyH_take (i := 1) (oi := ⟨(some 29), _, _, _, _, _⟩) (v := _) rfl (by kernel_rfl) (by kernel_rfl) (by kernel_rfl) (fun _ _ _ h => h) (yieldsIf_load_mid (by rfl) _ _ rfl G3 0 rfl (bv v12) _ (fun W' hW' => range_row ((hW'.block _ sn3_V1).trans gn3_V1.out)) (Tryd.underlying23) rfl (by rw [bv_len, h12.out]; kernel_rfl)) hHeld ?_
  try simp only [pu]
  refine mix_start (B := V1.heap.size) (al := [⟨3, 7, 23, ((bv z32)).toArray⟩]) (fuel := 2) rfl hHeld (hHeld.size) ?_
  clear hHeld
  refine mix_call (i := 2) (o := ⟨(some 30), _, _, _, _, _⟩) rfl (by kernel_rfl) (by kernel_rfl) (by kernel_rfl) (by kernel_rfl) (fun x hx => by simp only [List.mem_cons, List.not_mem_nil, or_false] at hx; rcases hx with rfl <;> first | exact makes_new rfl rfl rfl rfl zero_word) (fun W x _ h => h.alloc h.size _) (fun _ _ _ _ _ h => h) (fun X10 hHeld hBX K hK => ?_)
  go_simp
  refine (fsub_any _ v17 v12 (h17.out) (h12.out)).mono ?_
  rintro e W10 ⟨v30, rfl, e30, h30, hb10⟩
  refine hK.out _ _ (below_next hHeld hHeld.size hb10) hb10 ?_
  clear hK K hHeld hBX hb10
  try simp only [pu]
  refine mix_end (by kernel_rfl) (by kernel_rfl) (by simp) (by simp) (fun x hx => by simp only [List.mem_cons, List.not_mem_nil, or_false] at hx; rcases hx with rfl <;> first | exact makes_new rfl rfl rfl rfl zero_word) (fun W x _ h => h.alloc h.size _) (fun D hD W11 hHeld hBX hHo => ?_)
  obtain ⟨G7, rfl⟩ := v_one hD
  have xG7 : Hid (W11.heap[G7]? = some (.cells ((bv z32)).toArray 23 (0, 0))) := hHo.row (⟨3, 7, 23, ((bv z32)).toArray⟩, G7) (by simp)
  have lG7 : V1.heap.size ≤ G7 := hHo.new (⟨3, 7, 23, ((bv z32)).toArray⟩, G7) (by simp)
  clear hHo hBX hD
  simp only [markD, putD, List.foldr_cons, List.foldr_nil, pu, List.setIfInBounds_toArray, List.set_cons_zero, List.set_cons_succ]
  refine wpAnyH_ready (rs := [4]) (by kernel_rfl) (by simp) ?_
  refine AllReadyH.cons (i := 4) (o := ⟨none, _, _, _, _, _⟩) rfl (fun K hK => ?_) AllReadyH.nil
  refine step_row (by rfl) 23 (.tmp 7) (.tmp 30) rfl G7 (bv v30) rfl rfl 23 _ xG7.out (by rw [bv_len, h30.out]; kernel_rfl) (by rw [List.size_toArray, bv_len, bv_len, h30.out, z32_len]) (bv_one _) ?_
  intro W12 yG7 kG7
  refine hK.out _ _ (But.below hHeld kG7 lG7 hHeld.size) (fun hHeld => ?_)
  clear hK K kG7 xG7
  have xG7 := yG7
  clear yG7
  try simp only [pu]
  refine wpAnyH_done (by kernel_rfl) ?_ _
  obtain ⟨V2, rV2⟩ : ∃ X, X = W12 := ⟨_, rfl⟩
  subst rV2
  have gb0_V2 := row_next2 gb0_V1 hHeld
  have sb0_V2 := row_size gb0_V2
  have gb1_V2 := row_next2 gb1_V1 hHeld
  have sb1_V2 := row_size gb1_V2
  have gn3_V2 := row_next2 gn3_V1 hHeld
  have sn3_V2 := row_size gn3_V2
  have gn4_V2 := row_next2 gn4_V1 hHeld
  have sn4_V2 := row_size gn4_V2
  have gn5_V2 := row_next2 gn5_V1 hHeld
  have sn5_V2 := row_size gn5_V2
  have gn6_V2 := row_next2 gn6_V1 hHeld
  have sn6_V2 := row_size gn6_V2
  have hb_V2 := below_next hb_V1 hb_V1.size hHeld
  have gn7_V2 := xG7
  have sn7_V2 := row_size gn7_V2
  clear xG7
  have wG7 : w.heap.size + 2 ≤ G7 := by omega
  have nG3G7 : G3 ≠ G7 := by omega
  have nG4G7 : G4 ≠ G7 := by omega
  have nG5G7 : G5 ≠ G7 := by omega
  have nG6G7 : G6 ≠ G7 := by omega
  clear hHeld hb_V1 sb0_V1 sb1_V1 sn3_V1 sn4_V1 sn5_V1 sn6_V1
  clear gb0_V1 gb1_V1 gn3_V1 gn4_V1 gn5_V1 gn6_V1 lG7
  go_upto_region 3 with fail
  refine c_start (S := fun W' => Below V2.heap.size V2 W') 13 (by kernel_rfl) ((Below.refl _ _).drew) (fun hHeld => ?_)
  refine c_read (i := 0) (oi := ⟨(some 31), _, _, _, _, _⟩) (v := _) rfl (by decide) (by kernel_rfl) (by kernel_rfl) (by kernel_rfl) (by kernel_rfl) (by kernel_rfl) (fun _ _ _ h => h) (yieldsIf_load_mid (by rfl) _ _ rfl G6 0 rfl (bv v27) _ (fun W' hW' => range_row ((hW'.block _ sn6_V2).trans gn6_V2.out)) (Tryd.underlying23) rfl (by rw [bv_len, h27.out]; kernel_rfl)) hHeld ?_
  try simp only [pu]
  refine c_read (i := 1) (oi := ⟨(some 32), _, _, _, _, _⟩) (v := _) rfl (by decide) (by kernel_rfl) (by kernel_rfl) (by kernel_rfl) (by kernel_rfl) (by kernel_rfl) (fun _ _ _ h => h) (yieldsIf_load_mid (by rfl) _ _ rfl G6 0 rfl (bv v27) _ (fun W' hW' => range_row ((hW'.block _ sn6_V2).trans gn6_V2.out)) (Tryd.underlying23) rfl (by rw [bv_len, h27.out]; kernel_rfl)) hHeld ?_
  try simp only [pu]
  refine c_read (i := 3) (oi := ⟨(some 34), _, _, _, _, _⟩) (v := _) rfl (by decide) (by kernel_rfl) (by kernel_rfl) (by kernel_rfl) (by kernel_rfl) (by kernel_rfl) (fun _ _ _ h => h) (yieldsIf_load_mid (by rfl) _ _ rfl G7 0 rfl (bv v30) _ (fun W' hW' => range_row ((hW'.block _ sn7_V2).trans gn7_V2.out)) (Tryd.underlying23) rfl (by rw [bv_len, h30.out]; kernel_rfl)) hHeld ?_
  try simp only [pu]
  refine c_read (i := 4) (oi := ⟨(some 35), _, _, _, _, _⟩) (v := _) rfl (by decide) (by kernel_rfl) (by kernel_rfl) (by kernel_rfl) (by kernel_rfl) (by kernel_rfl) (fun _ _ _ h => h) (yieldsIf_load_mid (by rfl) _ _ rfl G3 0 rfl (bv v12) _ (fun W' hW' => range_row ((hW'.block _ sn3_V2).trans gn3_V2.out)) (Tryd.underlying23) rfl (by rw [bv_len, h12.out]; kernel_rfl)) hHeld ?_
  try simp only [pu]
  refine c_read (i := 5) (oi := ⟨(some 36), _, _, _, _, _⟩) (v := _) rfl (by decide) (by kernel_rfl) (by kernel_rfl) (by kernel_rfl) (by kernel_rfl) (by kernel_rfl) (fun _ _ _ h => h) (yieldsIf_load_mid (by rfl) _ _ rfl G4 0 rfl (bv v17) _ (fun W' hW' => range_row ((hW'.block _ sn4_V2).trans gn4_V2.out)) (Tryd.underlying23) rfl (by rw [bv_len, h17.out]; kernel_rfl)) hHeld ?_
  try simp only [pu]
  refine c_read (i := 7) (oi := ⟨(some 38), _, _, _, _, _⟩) (v := _) rfl (by decide) (by kernel_rfl) (by kernel_rfl) (by kernel_rfl) (by kernel_rfl) (by kernel_rfl) (fun _ _ _ h => h) (yieldsIf_load_mid (by rfl) _ _ rfl G5 0 rfl (bv v22) _ (fun W' hW' => range_row ((hW'.block _ sn5_V2).trans gn5_V2.out)) (Tryd.underlying23) rfl (by rw [bv_len, h22.out]; kernel_rfl)) hHeld ?_
  try simp only [pu]
  refine c_read (i := 8) (oi := ⟨(some 39), _, _, _, _, _⟩) (v := _) rfl (by decide) (by kernel_rfl) (by kernel_rfl) (by kernel_rfl) (by kernel_rfl) (by kernel_rfl) (fun _ _ _ h => h) (yieldsIf_load_mid (by rfl) _ _ rfl G5 0 rfl (bv v22) _ (fun W' hW' => range_row ((hW'.block _ sn5_V2).trans gn5_V2.out)) (Tryd.underlying23) rfl (by rw [bv_len, h22.out]; kernel_rfl)) hHeld ?_
  try simp only [pu]
  refine c_read (i := 10) (oi := ⟨(some 41), _, _, _, _, _⟩) (v := _) rfl (by decide) (by kernel_rfl) (by kernel_rfl) (by kernel_rfl) (by kernel_rfl) (by kernel_rfl) (fun _ _ _ h => h) (yieldsIf_load_mid (by rfl) _ _ rfl G7 0 rfl (bv v30) _ (fun W' hW' => range_row ((hW'.block _ sn7_V2).trans gn7_V2.out)) (Tryd.underlying23) rfl (by rw [bv_len, h30.out]; kernel_rfl)) hHeld ?_
  try simp only [pu]
  refine c_step (i := 2) (o := ⟨(some 33), _, _, _, _, _⟩) (by kernel_rfl) rfl (fun K hK => ?_)
  go_simp
  refine (fadd_any _ v27 v27 (h27.out) (h27.out)).mono ?_
  rintro e W13 ⟨v33, rfl, e33, h33, hb13⟩
  refine hK.out _ _ (below_next hHeld hHeld.size hb13) (fun hHeld => ?_)
  clear hK K hb13
  try simp only [pu]
  refine c_step (i := 6) (o := ⟨(some 37), _, _, _, _, _⟩) (by kernel_rfl) rfl (fun K hK => ?_)
  go_simp
  refine (fadd_any _ v12 v17 (h12.out) (h17.out)).mono ?_
  rintro e W14 ⟨v37, rfl, e37, h37, hb14⟩
  refine hK.out _ _ (below_next hHeld hHeld.size hb14) (fun hHeld => ?_)
  clear hK K hb14
  try simp only [pu]
  refine c_step (i := 9) (o := ⟨(some 40), _, _, _, _, _⟩) (by kernel_rfl) rfl (fun K hK => ?_)
  go_simp
  refine (fadd_any _ v22 v22 (h22.out) (h22.out)).mono ?_
  rintro e W15 ⟨v40, rfl, e40, h40, hb15⟩
  refine hK.out _ _ (below_next hHeld hHeld.size hb15) (fun hHeld => ?_)
  clear hK K hb15
  try simp only [pu]
  refine c_step (i := 11) (o := ⟨(some 42), _, _, _, _, _⟩) (by kernel_rfl) rfl (fun K hK => ?_)
  go_simp
  refine (fsub_any _ v40 v30 (h40.out) (h30.out)).mono ?_
  rintro e W16 ⟨v42, rfl, e42, h42, hb16⟩
  refine hK.out _ _ (below_next hHeld hHeld.size hb16) (fun hHeld => ?_)
  clear hK K hb16
  try simp only [pu]
  refine c_step (i := 12) (o := ⟨(some 43), _, _, _, _, _⟩) (by kernel_rfl) rfl (fun K hK => ?_)
  go_simp
  refine (placeAt_any _ v33 v30 v37 v42 (h33.out) (h30.out) (h37.out) (h42.out)).mono ?_
  rintro e W17 ⟨v43, rfl, e43, h43, hb17⟩
  refine hK.out _ _ (below_next hHeld hHeld.size hb17) (fun hHeld => ?_)
  clear hK K hb17
  try simp only [pu]
  refine c_call (S' := fun _ => True) (o := ⟨none, _, _, _, _, _⟩) (by kernel_rfl) (by kernel_rfl) rfl (fun K hK => ?_)
  have cb0_0 := row_next2 gb0_V2 hHeld
  have cb1_0 := row_next2 gb1_V2 hHeld
  have cn3_0 := row_next2 gn3_V2 hHeld
  have cn4_0 := row_next2 gn4_V2 hHeld
  have cn5_0 := row_next2 gn5_V2 hHeld
  have cn6_0 := row_next2 gn6_V2 hHeld
  have cn7_0 := row_next2 gn7_V2 hHeld
  have cb_0 := below_next hb_V2 hb_V2.size hHeld
  clear hHeld
  refine step_row (by rfl) 64 (.tmp 2) (.tmp 43) rfl (w.heap.size + 1) (bv v43) rfl rfl 64 _ cb1_0.out (by rw [bv_len, h43.out]; kernel_rfl) (by rw [List.size_toArray, bv_len, z128_len, bv_len, h43.out]) (bv_one _) ?_
  intro W18 cb1_1 kR
  refine hK.out _ _ trivial (fun hHeld => ?_)
  have cb0_1 := row_but cb0_0 kR (by omega)
  have cn3_1 := row_but cn3_0 kR (by omega)
  have cn4_1 := row_but cn4_0 kR (by omega)
  have cn5_1 := row_but cn5_0 kR (by omega)
  have cn6_1 := row_but cn6_0 kR (by omega)
  have cn7_1 := row_but cn7_0 kR (by omega)
  have cb_1 := But.below cb_0 kR (by omega) cb_0.size
  clear hK K kR cb_0 cb0_0 cb1_0 cn3_0 cn4_0 cn5_0 cn6_0 cn7_0 
  try simp only [pu]
  refine wpAnyH_done (by kernel_rfl) ?_ _
  obtain ⟨V3, rV3⟩ : ∃ X, X = W18 := ⟨_, rfl⟩
  subst rV3
  have gb0_V3 := cb0_1
  have sb0_V3 := row_size gb0_V3
  have gb1_V3 := cb1_1
  have sb1_V3 := row_size gb1_V3
  have gn3_V3 := cn3_1
  have sn3_V3 := row_size gn3_V3
  have gn4_V3 := cn4_1
  have sn4_V3 := row_size gn4_V3
  have gn5_V3 := cn5_1
  have sn5_V3 := row_size gn5_V3
  have gn6_V3 := cn6_1
  have sn6_V3 := row_size gn6_V3
  have gn7_V3 := cn7_1
  have sn7_V3 := row_size gn7_V3
  have hb_V3 := cb_1
  clear hHeld cb_1 hb_V2  cb0_1 cb1_1 cn3_1 cn4_1 cn5_1 cn6_1 cn7_1 sb0_V2 sb1_V2 sn3_V2 sn4_V2 sn5_V2 sn6_V2 sn7_V2 gb0_V2 gb1_V2 gn3_V2 gn4_V2 gn5_V2 gn6_V2 gn7_V2
  have HF := vlt (show PlE v43 (addE P P) by
    obtain ⟨a, b, c, d, hp, la, lb, lc, ld, ea, eb, ec, ed⟩ := e43.out
    refine plE_four hp la lb lc ld ?_ (addE_on HP.out.on HP.out.on)
    rw [ea, eb, ec, ed]
    exact rep_twice HP.out.on HP.out.rep e12.out.1 e17.out.1 e22.out.1 e27.out.1 e33.out.1 e30.out.1 e37.out.1 (by rw [e42.out.1, e40.out.1]))
  go_wp2_with fail
  refine bodyPost_ret (v := .agg (bv v43).toArray) (results_cell_row Tryd.results67 _ _ (w.heap.size + 1) 64 _ (0, 0) _ rfl gb1_V3.out Tryd.underlying64 rfl (by rw [List.size_toArray, bv_len, h43.out]; kernel_rfl)) rfl ⟨v43, rfl, HF, h43, hb_V3⟩
set_option maxRecDepth 100000 in
set_option maxHeartbeats 4000000 in
theorem sixteen_any (w : World) (p : List UInt8) {P : PtE} (hp : p.length = 128) (hPl : PlE p P) :
    Calls Tryd.prog 51 #[.agg (bv p).toArray] w fun e w' => ∃ p, e = .returned (.agg (bv p).toArray) ∧ Vlt (PlE p (mulE 16 P)) ∧ Hid (p.length = 128) ∧ Below w.heap.size w w' := by
  have hzp := zero_place
  have HP := vlt hPl
  clear hPl
  obtain ⟨V0, hW, gb0_V0, gb1_V0, hb_V0, hsW⟩ := pair_new w (bv p).toArray (bv z128).toArray 64 64
  have HW := Lib.hid hW
  have Hhp := Lib.hid hp
  have sb0_V0 := row_size gb0_V0
  have sb1_V0 := row_size gb1_V0
  clear hW hsW hp
  go_enter Tryd.func51, Tryd.ntmps51
  go_upto_region 1 with fail
  rw [HW.out]
  refine plain_start_c (S := fun W' => Below V0.heap.size V0 W') 5 (by kernel_rfl) (Below.refl _ _) (fun hHeld => ?_)
  refine c_read (i := 0) (oi := ⟨(some 3), _, _, _, _, _⟩) (v := _) rfl (by decide) (by kernel_rfl) (by kernel_rfl) (by kernel_rfl) (by kernel_rfl) (by kernel_rfl) (fun _ _ _ h => h) (yieldsIf_load_mid (by rfl) _ _ rfl (w.heap.size) 0 rfl (bv p) _ (fun W' hW' => range_row ((hW'.block _ sb0_V0).trans gb0_V0.out)) (Tryd.underlying64) rfl (by rw [bv_len, Hhp.out]; kernel_rfl)) hHeld ?_
  try simp only [pu]
  refine c_step (i := 1) (o := ⟨(some 4), _, _, _, _, _⟩) (by kernel_rfl) rfl (fun K hK => ?_)
  go_simp
  refine (twice_any _ p (Hhp.out) (HP.out)).mono ?_
  rintro e W1 ⟨v4, rfl, e4, h4, hb1⟩
  refine hK.out _ _ (below_next hHeld hHeld.size hb1) (fun hHeld => ?_)
  clear hK K hb1
  try simp only [pu]
  refine c_step (i := 2) (o := ⟨(some 5), _, _, _, _, _⟩) (by kernel_rfl) rfl (fun K hK => ?_)
  go_simp
  refine (twice_any _ v4 (h4.out) (e4.out)).mono ?_
  rintro e W2 ⟨v5, rfl, e5, h5, hb2⟩
  refine hK.out _ _ (below_next hHeld hHeld.size hb2) (fun hHeld => ?_)
  clear hK K hb2
  try simp only [pu]
  refine c_step (i := 3) (o := ⟨(some 6), _, _, _, _, _⟩) (by kernel_rfl) rfl (fun K hK => ?_)
  go_simp
  refine (twice_any _ v5 (h5.out) (e5.out)).mono ?_
  rintro e W3 ⟨v6, rfl, e6, h6, hb3⟩
  refine hK.out _ _ (below_next hHeld hHeld.size hb3) (fun hHeld => ?_)
  clear hK K hb3
  try simp only [pu]
  refine c_step (i := 4) (o := ⟨(some 7), _, _, _, _, _⟩) (by kernel_rfl) rfl (fun K hK => ?_)
  go_simp
  refine (twice_any _ v6 (h6.out) (e6.out)).mono ?_
  rintro e W4 ⟨v7, rfl, e7, h7, hb4⟩
  refine hK.out _ _ (below_next hHeld hHeld.size hb4) (fun hHeld => ?_)
  clear hK K hb4
  try simp only [pu]
  refine c_call (S' := fun _ => True) (o := ⟨none, _, _, _, _, _⟩) (by kernel_rfl) (by kernel_rfl) rfl (fun K hK => ?_)
  have cb0_0 := row_next2 gb0_V0 hHeld
  have cb1_0 := row_next2 gb1_V0 hHeld
  have cb_0 := below_next hb_V0 hb_V0.size hHeld
  clear hHeld
  refine step_row (by rfl) 64 (.tmp 2) (.tmp 7) rfl (w.heap.size + 1) (bv v7) rfl rfl 64 _ cb1_0.out (by rw [bv_len, h7.out]; kernel_rfl) (by rw [List.size_toArray, bv_len, z128_len, bv_len, h7.out]) (bv_one _) ?_
  intro W5 cb1_1 kR
  refine hK.out _ _ trivial (fun hHeld => ?_)
  have cb0_1 := row_but cb0_0 kR (by omega)
  have cb_1 := But.below cb_0 kR (by omega) cb_0.size
  clear hK K kR cb_0 cb0_0 cb1_0 
  try simp only [pu]
  refine wpAnyH_done (by kernel_rfl) ?_ _
  obtain ⟨V1, rV1⟩ : ∃ X, X = W5 := ⟨_, rfl⟩
  subst rV1
  have gb0_V1 := cb0_1
  have sb0_V1 := row_size gb0_V1
  have gb1_V1 := cb1_1
  have sb1_V1 := row_size gb1_V1
  have hb_V1 := cb_1
  clear hHeld cb_1 hb_V0  cb0_1 cb1_1 sb0_V0 sb1_V0 gb0_V0 gb1_V0
  have HF := vlt (show PlE v7 (mulE 16 P) by
    have h := HP.out.on
    rw [show (16 : Nat) = 2 * (2 * (2 * (2 * 1))) by rfl, mulE_two h, mulE_two h, mulE_two h, mulE_two h, mulE_one h]
    exact e7.out)
  go_wp2_with fail
  refine bodyPost_ret (v := .agg (bv v7).toArray) (results_cell_row Tryd.results51 _ _ (w.heap.size + 1) 64 _ (0, 0) _ rfl gb1_V1.out Tryd.underlying64 rfl (by rw [List.size_toArray, bv_len, h7.out]; kernel_rfl)) rfl ⟨v7, rfl, HF, h7, hb_V1⟩
end Go.Proofs.YtcefdcjpddohaaaDoor
namespace Go.Proofs.YtcefdcjpddohaaaDoor
open Go.RowKit

theorem results_rows_tmp {P : Program} {fn : Func} {p q u : Tmp} {ty ty2 : TypeId} (h : fn.results = #[.cell p ty, .cell q ty2, .tmp u]) (tmps : Array Value) (w : World)
    (g : Nat) (t : TypeId) (cs : Array Value) (fr : Nat × Nat) (d : TypeDesc) (hp : tmps.getD p undef = .pointer (some ⟨g, 0, none⟩)) (hg : w.heap[g]? = some (.cells cs t fr))
    (hu : P.underlying ty = some d) (hd : (match d with | .struct _ | .array _ _ => true | _ => false) = true) (hi : (P.info? ty).map (·.size) = some cs.size)
    (g2 : Nat) (t2 : TypeId) (cs2 : Array Value) (fr2 : Nat × Nat) (d2 : TypeDesc) (hp2 : tmps.getD q undef = .pointer (some ⟨g2, 0, none⟩)) (hg2 : w.heap[g2]? = some (.cells cs2 t2 fr2))
    (hu2 : P.underlying ty2 = some d2) (hd2 : (match d2 with | .struct _ | .array _ _ => true | _ => false) = true) (hi2 : (P.info? ty2).map (·.size) = some cs2.size) (v : Value) (hv : tmps.getD u undef = v) :
    (results fn tmps).run P w = .ok (.tuple #[.agg cs, .agg cs2, v]) w := by
  have hp' : tmps[p]?.getD undef = .pointer (some ⟨g, 0, none⟩) := by simpa using hp
  have hq' : tmps[q]?.getD undef = .pointer (some ⟨g2, 0, none⟩) := by simpa using hp2
  have hv' : tmps[u]?.getD undef = v := by simpa using hv
  simp [results, h, hp', hq', hv', asAddr, run_loadVar_row w g t ty cs fr d hg hu hd hi, run_loadVar_row w g2 t2 ty2 cs2 fr2 d2 hg2 hu2 hd2 hi2, Sem.run_bind, Result.andThen]
theorem across_is (y s u r : List UInt8) (m v : List UInt8) (es : cW s = cW y * cW y) (eb : cW v = cW bendL * cW s) (eu : cW u = cW v + 1) (em : cW m = (cW s - 1) * ivF (cW u)) (er : cW r = cW m) : cW r = uE (cW y) := by
  rw [er, em, eu, eb, es, bendL_is]; rfl
set_option maxRecDepth 100000 in
set_option maxHeartbeats 4000000 in
theorem across_any (w : World) (hla : LaidP w) (y : List UInt8) (hy : y.length = 32) :
    Calls Tryd.prog 46 #[.agg (bv y).toArray] w fun e w' => ∃ l ok, e = .returned (.tuple #[.agg (bv l).toArray, .bool ok]) ∧
      Vlt ((ok = true → cW l * cW l = uE (cW y) ∧ ln l % 2 = 0 ∧ ln l < FP) ∧ (ok = false → l = z32 ∧ ∀ x : Fin FP, x * x ≠ uE (cW y))) ∧ Hid (l.length = 32) ∧ Below w.heap.size w w' := by
  have hzw := zero_word
  obtain ⟨ONE, dONE, HONE⟩ := hides one32 one32_len
  have hb1 := built_one32
  rw [← dONE] at hb1
  have H1 := vlt (show cW ONE = 1 by rw [dONE]; exact one32_is)
  clear dONE
  obtain ⟨V0, hW, gb0_V0, gb1_V0, hb_V0, hsW⟩ := pair_new w (bv y).toArray (bv z32).toArray 23 23
  have HW := Lib.hid hW
  have Hhy := Lib.hid hy
  have sb0_V0 := row_size gb0_V0
  have sb1_V0 := row_size gb1_V0
  have hlaV0 := hla.next hb_V0
  have gl1 := hla.size
  have gl2 := hla.turn.2
  clear hla
  clear hW hsW hy
  go_enter Tryd.func46, Tryd.ntmps46
  go_upto_region 1 with fail
  rw [HW.out]
  refine plain_start (S := fun W' => Below V0.heap.size V0 W') (by kernel_rfl) (Below.refl _ _) (fun hHeld => ?_)
  refine wpAnyH_take (i := 0) (oi := ⟨(some 7), _, _, _, _, _⟩) (v := _) rfl (by kernel_rfl) (by kernel_rfl) (by kernel_rfl) (fun _ _ _ h => h) (yields_build (by rfl) _ _ rfl [(0, .int .u8 1)] (by rfl) _ hb1) hHeld ?_
  try simp only [pu]
  refine mix_start (B := V0.heap.size) (al := [⟨1, 4, 23, ((bv z32)).toArray⟩]) (fuel := 1) rfl hHeld (hHeld.size) ?_
  clear hHeld
  refine mix_end (by kernel_rfl) (by kernel_rfl) (by simp) (by simp) (fun x hx => by simp only [List.mem_cons, List.not_mem_nil, or_false] at hx; rcases hx with rfl <;> first | exact makes_new rfl rfl rfl rfl zero_word) (fun W x _ h => h.alloc h.size _) (fun D hD W1 hHeld hBX hHo => ?_)
  obtain ⟨G4, rfl⟩ := v_one hD
  have xG4 : Hid (W1.heap[G4]? = some (.cells ((bv z32)).toArray 23 (0, 0))) := hHo.row (⟨1, 4, 23, ((bv z32)).toArray⟩, G4) (by simp)
  have lG4 : V0.heap.size ≤ G4 := hHo.new (⟨1, 4, 23, ((bv z32)).toArray⟩, G4) (by simp)
  clear hHo hBX hD
  simp only [markD, putD, List.foldr_cons, List.foldr_nil, pu, List.setIfInBounds_toArray, List.set_cons_zero, List.set_cons_succ]
  refine wpAnyH_ready (rs := [2]) (by kernel_rfl) (by simp) ?_
  refine AllReadyH.cons (i := 2) (o := ⟨none, _, _, _, _, _⟩) rfl (fun K hK => ?_) AllReadyH.nil
  refine step_row (by rfl) 23 (.tmp 4) (.tmp 7) rfl G4 (bv ONE) rfl rfl 23 _ xG4.out (by rw [bv_len, HONE.out]; kernel_rfl) (by rw [List.size_toArray, bv_len, bv_len, HONE.out, z32_len]) (bv_one _) ?_
  intro W2 yG4 kG4
  refine hK.out _ _ (But.below hHeld kG4 lG4 hHeld.size) (fun hHeld => ?_)
  clear hK K kG4 xG4
  have xG4 := yG4
  clear yG4
  try simp only [pu]
  refine wpAnyH_done (by kernel_rfl) ?_ _
  obtain ⟨V1, rV1⟩ : ∃ X, X = W2 := ⟨_, rfl⟩
  subst rV1
  have gb0_V1 := row_next2 gb0_V0 hHeld
  have sb0_V1 := row_size gb0_V1
  have gb1_V1 := row_next2 gb1_V0 hHeld
  have sb1_V1 := row_size gb1_V1
  have hb_V1 := below_next hb_V0 hb_V0.size hHeld
  have hlaV1 := hlaV0.next hHeld
  have gn4_V1 := xG4
  have sn4_V1 := row_size gn4_V1
  clear xG4
  have wG4 : w.heap.size + 2 ≤ G4 := by omega
  clear hHeld hb_V0 sb0_V0 sb1_V0
  clear gb0_V0 gb1_V0 hlaV0 lG4
  go_upto_region 2 with fail
  refine plain_start (S := fun W' => Below V1.heap.size V1 W') (by kernel_rfl) (Below.refl _ _) (fun hHeld => ?_)
  refine wpAnyH_take (i := 0) (oi := ⟨(some 8), _, _, _, _, _⟩) (v := _) rfl (by kernel_rfl) (by kernel_rfl) (by kernel_rfl) (fun _ _ _ h => h) (yieldsIf_load_mid (by rfl) _ _ rfl (w.heap.size) 0 rfl (bv y) _ (fun W' hW' => range_row ((hW'.block _ sb0_V1).trans gb0_V1.out)) (Tryd.underlying23) rfl (by rw [bv_len, Hhy.out]; kernel_rfl)) hHeld ?_
  try simp only [pu]
  refine wpAnyH_take (i := 1) (oi := ⟨(some 9), _, _, _, _, _⟩) (v := _) rfl (by kernel_rfl) (by kernel_rfl) (by kernel_rfl) (fun _ _ _ h => h) (yieldsIf_load_mid (by rfl) _ _ rfl (w.heap.size) 0 rfl (bv y) _ (fun W' hW' => range_row ((hW'.block _ sb0_V1).trans gb0_V1.out)) (Tryd.underlying23) rfl (by rw [bv_len, Hhy.out]; kernel_rfl)) hHeld ?_
  try simp only [pu]
  refine mix_start (B := V1.heap.size) (al := [⟨3, 5, 23, ((bv z32)).toArray⟩]) (fuel := 2) rfl hHeld (hHeld.size) ?_
  clear hHeld
  refine mix_call (i := 2) (o := ⟨(some 10), _, _, _, _, _⟩) rfl (by kernel_rfl) (by kernel_rfl) (by kernel_rfl) (by kernel_rfl) (fun x hx => by simp only [List.mem_cons, List.not_mem_nil, or_false] at hx; rcases hx with rfl <;> first | exact makes_new rfl rfl rfl rfl zero_word) (fun W x _ h => h.alloc h.size _) (fun _ _ _ _ _ h => h) (fun X3 hHeld hBX K hK => ?_)
  go_simp
  refine (fmul_any _ y y (Hhy.out) (Hhy.out)).mono ?_
  rintro e W3 ⟨v10, rfl, e10, h10, hb3⟩
  refine hK.out _ _ (below_next hHeld hHeld.size hb3) hb3 ?_
  clear hK K hHeld hBX hb3
  try simp only [pu]
  refine mix_end (by kernel_rfl) (by kernel_rfl) (by simp) (by simp) (fun x hx => by simp only [List.mem_cons, List.not_mem_nil, or_false] at hx; rcases hx with rfl <;> first | exact makes_new rfl rfl rfl rfl zero_word) (fun W x _ h => h.alloc h.size _) (fun D hD W4 hHeld hBX hHo => ?_)
  obtain ⟨G5, rfl⟩ := v_one hD
  have xG5 : Hid (W4.heap[G5]? = some (.cells ((bv z32)).toArray 23 (0, 0))) := hHo.row (⟨3, 5, 23, ((bv z32)).toArray⟩, G5) (by simp)
  have lG5 : V1.heap.size ≤ G5 := hHo.new (⟨3, 5, 23, ((bv z32)).toArray⟩, G5) (by simp)
  clear hHo hBX hD
  simp only [markD, putD, List.foldr_cons, List.foldr_nil, pu, List.setIfInBounds_toArray, List.set_cons_zero, List.set_cons_succ]
  refine wpAnyH_ready (rs := [4]) (by kernel_rfl) (by simp) ?_
  refine AllReadyH.cons (i := 4) (o := ⟨none, _, _, _, _, _⟩) rfl (fun K hK => ?_) AllReadyH.nil
  refine step_row (by rfl) 23 (.tmp 5) (.tmp 10) rfl G5 (bv v10) rfl rfl 23 _ xG5.out (by rw [bv_len, h10.out]; kernel_rfl) (by rw [List.size_toArray, bv_len, bv_len, h10.out, z32_len]) (bv_one _) ?_
  intro W5 yG5 kG5
  refine hK.out _ _ (But.below hHeld kG5 lG5 hHeld.size) (fun hHeld => ?_)
  clear hK K kG5 xG5
  have xG5 := yG5
  clear yG5
  try simp only [pu]
  refine wpAnyH_done (by kernel_rfl) ?_ _
  obtain ⟨V2, rV2⟩ : ∃ X, X = W5 := ⟨_, rfl⟩
  subst rV2
  have gb0_V2 := row_next2 gb0_V1 hHeld
  have sb0_V2 := row_size gb0_V2
  have gb1_V2 := row_next2 gb1_V1 hHeld
  have sb1_V2 := row_size gb1_V2
  have gn4_V2 := row_next2 gn4_V1 hHeld
  have sn4_V2 := row_size gn4_V2
  have hb_V2 := below_next hb_V1 hb_V1.size hHeld
  have hlaV2 := hlaV1.next hHeld
  have gn5_V2 := xG5
  have sn5_V2 := row_size gn5_V2
  clear xG5
  have wG5 : w.heap.size + 2 ≤ G5 := by omega
  have nG4G5 : G4 ≠ G5 := by omega
  clear hHeld hb_V1 sb0_V1 sb1_V1 sn4_V1
  clear gb0_V1 gb1_V1 gn4_V1 hlaV1 lG5
  go_upto_region 3 with fail
  refine wp_region_held_drew (S := fun W' => Below V2.heap.size V2 W') (by kernel_rfl) ((Below.refl _ _).drew) (fun hHeld => ?_)
  refine wpAnyH_take (i := 0) (oi := ⟨(some 11), _, _, _, _, _⟩) (v := _) rfl (by kernel_rfl) (by kernel_rfl) (by kernel_rfl) (fun _ _ _ h => h) (yieldsIf_load_mid (by rfl) _ _ rfl 1 0 rfl (bv bendL) _ (fun W' hW' => ((hlaV2.next hW')).range) (Tryd.underlying23) rfl (by kernel_rfl)) hHeld ?_
  try simp only [pu]
  refine wpAnyH_take (i := 1) (oi := ⟨(some 12), _, _, _, _, _⟩) (v := _) rfl (by kernel_rfl) (by kernel_rfl) (by kernel_rfl) (fun _ _ _ h => h) (yieldsIf_load_mid (by rfl) _ _ rfl G5 0 rfl (bv v10) _ (fun W' hW' => range_row ((hW'.block _ sn5_V2).trans gn5_V2.out)) (Tryd.underlying23) rfl (by rw [bv_len, h10.out]; kernel_rfl)) hHeld ?_
  try simp only [pu]
  refine wpAnyH_take (i := 3) (oi := ⟨(some 14), _, _, _, _, _⟩) (v := _) rfl (by kernel_rfl) (by kernel_rfl) (by kernel_rfl) (fun _ _ _ h => h) (yieldsIf_load_mid (by rfl) _ _ rfl G4 0 rfl (bv ONE) _ (fun W' hW' => range_row ((hW'.block _ sn4_V2).trans gn4_V2.out)) (Tryd.underlying23) rfl (by rw [bv_len, HONE.out]; kernel_rfl)) hHeld ?_
  try simp only [pu]
  refine mix_start (B := V2.heap.size) (al := [⟨5, 6, 23, ((bv z32)).toArray⟩]) (fuel := 3) rfl hHeld (hHeld.size) ?_
  clear hHeld
  refine mix_call (i := 2) (o := ⟨(some 13), _, _, _, _, _⟩) rfl (by kernel_rfl) (by kernel_rfl) (by kernel_rfl) (by kernel_rfl) (fun x hx => by simp only [List.mem_cons, List.not_mem_nil, or_false] at hx; rcases hx with rfl <;> first | exact makes_new rfl rfl rfl rfl zero_word) (fun W x _ h => h.alloc h.size _) (fun _ _ _ _ _ h => h) (fun X6 hHeld hBX K hK => ?_)
  go_simp
  refine (fmul_any _ bendL v10 (bendL_len) (h10.out)).mono ?_
  rintro e W6 ⟨v13, rfl, e13, h13, hb6⟩
  refine hK.out _ _ (below_next hHeld hHeld.size hb6) hb6 ?_
  clear hK K hHeld hBX hb6
  try simp only [pu]
  refine mix_call (i := 4) (o := ⟨(some 15), _, _, _, _, _⟩) rfl (by kernel_rfl) (by kernel_rfl) (by kernel_rfl) (by kernel_rfl) (fun x hx => by simp only [List.mem_cons, List.not_mem_nil, or_false] at hx; rcases hx with rfl <;> first | exact makes_new rfl rfl rfl rfl zero_word) (fun W x _ h => h.alloc h.size _) (fun _ _ _ _ _ h => h) (fun X7 hHeld hBX K hK => ?_)
  go_simp
  refine (fadd_any _ v13 ONE (h13.out) (HONE.out)).mono ?_
  rintro e W7 ⟨v15, rfl, e15, h15, hb7⟩
  refine hK.out _ _ (below_next hHeld hHeld.size hb7) hb7 ?_
  clear hK K hHeld hBX hb7
  try simp only [pu]
  refine mix_end (by kernel_rfl) (by kernel_rfl) (by simp) (by simp) (fun x hx => by simp only [List.mem_cons, List.not_mem_nil, or_false] at hx; rcases hx with rfl <;> first | exact makes_new rfl rfl rfl rfl zero_word) (fun W x _ h => h.alloc h.size _) (fun D hD W8 hHeld hBX hHo => ?_)
  obtain ⟨G6, rfl⟩ := v_one hD
  have xG6 : Hid (W8.heap[G6]? = some (.cells ((bv z32)).toArray 23 (0, 0))) := hHo.row (⟨5, 6, 23, ((bv z32)).toArray⟩, G6) (by simp)
  have lG6 : V2.heap.size ≤ G6 := hHo.new (⟨5, 6, 23, ((bv z32)).toArray⟩, G6) (by simp)
  clear hHo hBX hD
  simp only [markD, putD, List.foldr_cons, List.foldr_nil, pu, List.setIfInBounds_toArray, List.set_cons_zero, List.set_cons_succ]
  refine wpAnyH_ready (rs := [6]) (by kernel_rfl) (by simp) ?_
  refine AllReadyH.cons (i := 6) (o := ⟨none, _, _, _, _, _⟩) rfl (fun K hK => ?_) AllReadyH.nil
  refine step_row (by rfl) 23 (.tmp 6) (.tmp 15) rfl G6 (bv v15) rfl rfl 23 _ xG6.out (by rw [bv_len, h15.out]; kernel_rfl) (by rw [List.size_toArray, bv_len, bv_len, h15.out, z32_len]) (bv_one _) ?_
  intro W9 yG6 kG6
  refine hK.out _ _ (But.below hHeld kG6 lG6 hHeld.size) (fun hHeld => ?_)
  clear hK K kG6 xG6
  have xG6 := yG6
  clear yG6
  try simp only [pu]
  refine wpAnyH_done (by kernel_rfl) ?_ _
  obtain ⟨V3, rV3⟩ : ∃ X, X = W9 := ⟨_, rfl⟩
  subst rV3
  have gb0_V3 := row_next2 gb0_V2 hHeld
  have sb0_V3 := row_size gb0_V3
  have gb1_V3 := row_next2 gb1_V2 hHeld
  have sb1_V3 := row_size gb1_V3
  have gn4_V3 := row_next2 gn4_V2 hHeld
  have sn4_V3 := row_size gn4_V3
  have gn5_V3 := row_next2 gn5_V2 hHeld
  have sn5_V3 := row_size gn5_V3
  have hb_V3 := below_next hb_V2 hb_V2.size hHeld
  have hlaV3 := hlaV2.next hHeld
  have gn6_V3 := xG6
  have sn6_V3 := row_size gn6_V3
  clear xG6
  have wG6 : w.heap.size + 2 ≤ G6 := by omega
  have nG4G6 : G4 ≠ G6 := by omega
  have nG5G6 : G5 ≠ G6 := by omega
  clear hHeld hb_V2 sb0_V2 sb1_V2 sn4_V2 sn5_V2
  clear gb0_V2 gb1_V2 gn4_V2 gn5_V2 hlaV2 lG6
  go_upto_region 4 with fail
  refine c_start (S := fun W' => Below V3.heap.size V3 W') 9 (by kernel_rfl) ((Below.refl _ _).drew) (fun hHeld => ?_)
  refine c_read (i := 0) (oi := ⟨(some 16), _, _, _, _, _⟩) (v := _) rfl (by decide) (by kernel_rfl) (by kernel_rfl) (by kernel_rfl) (by kernel_rfl) (by kernel_rfl) (fun _ _ _ h => h) (yieldsIf_load_mid (by rfl) _ _ rfl G5 0 rfl (bv v10) _ (fun W' hW' => range_row ((hW'.block _ sn5_V3).trans gn5_V3.out)) (Tryd.underlying23) rfl (by rw [bv_len, h10.out]; kernel_rfl)) hHeld ?_
  try simp only [pu]
  refine c_read (i := 1) (oi := ⟨(some 17), _, _, _, _, _⟩) (v := _) rfl (by decide) (by kernel_rfl) (by kernel_rfl) (by kernel_rfl) (by kernel_rfl) (by kernel_rfl) (fun _ _ _ h => h) (yieldsIf_load_mid (by rfl) _ _ rfl G4 0 rfl (bv ONE) _ (fun W' hW' => range_row ((hW'.block _ sn4_V3).trans gn4_V3.out)) (Tryd.underlying23) rfl (by rw [bv_len, HONE.out]; kernel_rfl)) hHeld ?_
  try simp only [pu]
  refine c_read (i := 3) (oi := ⟨(some 19), _, _, _, _, _⟩) (v := _) rfl (by decide) (by kernel_rfl) (by kernel_rfl) (by kernel_rfl) (by kernel_rfl) (by kernel_rfl) (fun _ _ _ h => h) (yieldsIf_load_mid (by rfl) _ _ rfl G6 0 rfl (bv v15) _ (fun W' hW' => range_row ((hW'.block _ sn6_V3).trans gn6_V3.out)) (Tryd.underlying23) rfl (by rw [bv_len, h15.out]; kernel_rfl)) hHeld ?_
  try simp only [pu]
  refine c_step (i := 2) (o := ⟨(some 18), _, _, _, _, _⟩) (by kernel_rfl) rfl (fun K hK => ?_)
  go_simp
  refine (fsub_any _ v10 ONE (h10.out) (HONE.out)).mono ?_
  rintro e W10 ⟨v18, rfl, e18, h18, hb10⟩
  refine hK.out _ _ (below_next hHeld hHeld.size hb10) (fun hHeld => ?_)
  clear hK K hb10
  try simp only [pu]
  refine c_step (i := 4) (o := ⟨(some 20), _, _, _, _, _⟩) (by kernel_rfl) rfl (fun K hK => ?_)
  go_simp
  refine (finv_any _ v15 (h15.out)).mono ?_
  rintro e W11 ⟨v20, rfl, e20, h20, hb11⟩
  refine hK.out _ _ (below_next hHeld hHeld.size hb11) (fun hHeld => ?_)
  clear hK K hb11
  try simp only [pu]
  refine c_step (i := 5) (o := ⟨(some 21), _, _, _, _, _⟩) (by kernel_rfl) rfl (fun K hK => ?_)
  go_simp
  refine (fmul_any _ v18 v20 (h18.out) (h20.out)).mono ?_
  rintro e W12 ⟨v21, rfl, e21, h21, hb12⟩
  refine hK.out _ _ (below_next hHeld hHeld.size hb12) (fun hHeld => ?_)
  clear hK K hb12
  try simp only [pu]
  refine c_step (i := 6) (o := ⟨(some 22), _, _, _, _, _⟩) (by kernel_rfl) rfl (fun K hK => ?_)
  go_simp
  refine (froot_any _ (hlaV3.next hHeld) v21 (h21.out) (vlt (e21.out).2)).mono ?_
  rintro e W13 ⟨v22, o22, rfl, e22, h22, hb13⟩
  refine hK.out _ _ (below_next hHeld hHeld.size hb13) (fun hHeld => ?_)
  clear hK K hb13
  try simp only [pu]
  refine c_take (i := 7) (oi := ⟨(some 23), _, _, _, _, _⟩) (v := .agg (bv v22).toArray) rfl (by decide) (by kernel_rfl) (by kernel_rfl) (by kernel_rfl) (fun _ _ _ h => h) (Or.inl ⟨by rfl, ?yqV3_4_7⟩) hHeld ?_
  case yqV3_4_7 => (intro W0 hSw; go_simp; try with_reducible rfl)
  try simp only [pu]
  refine c_take (i := 8) (oi := ⟨(some 24), _, _, _, _, _⟩) (v := .bool o22) rfl (by decide) (by kernel_rfl) (by kernel_rfl) (by kernel_rfl) (fun _ _ _ h => h) (Or.inl ⟨by rfl, ?yqV3_4_8⟩) hHeld ?_
  case yqV3_4_8 => (intro W0 hSw; go_simp; try with_reducible rfl)
  try simp only [pu]
  refine c_call (S' := fun _ => True) (o := ⟨none, _, _, _, _, _⟩) (by kernel_rfl) (by kernel_rfl) rfl (fun K hK => ?_)
  have cb0_0 := row_next2 gb0_V3 hHeld
  have cb1_0 := row_next2 gb1_V3 hHeld
  have cn4_0 := row_next2 gn4_V3 hHeld
  have cn5_0 := row_next2 gn5_V3 hHeld
  have cn6_0 := row_next2 gn6_V3 hHeld
  have cb_0 := below_next hb_V3 hb_V3.size hHeld
  have cl_0 := hlaV3.next hHeld
  clear hHeld
  refine step_row (by rfl) 23 (.tmp 2) (.tmp 23) rfl (w.heap.size + 1) (bv v22) rfl rfl 23 _ cb1_0.out (by rw [bv_len, h22.out]; kernel_rfl) (by rw [List.size_toArray, bv_len, z32_len, bv_len, h22.out]) (bv_one _) ?_
  intro W14 cb1_1 kR
  refine hK.out _ _ trivial (fun hHeld => ?_)
  have cb0_1 := row_but cb0_0 kR (by omega)
  have cn4_1 := row_but cn4_0 kR (by omega)
  have cn5_1 := row_but cn5_0 kR (by omega)
  have cn6_1 := row_but cn6_0 kR (by omega)
  have cb_1 := But.below cb_0 kR (by omega) cb_0.size
  have cl_1 := cl_0.but (by omega) (by omega) kR
  clear hK K kR cb_0 cb0_0 cb1_0 cn4_0 cn5_0 cn6_0 cl_0
  try simp only [pu]
  refine wpAnyH_take (i := 10) (oi := ⟨(some 3), _, _, _, _, _⟩) (v := ?vqV3_4_10) rfl (by kernel_rfl) (by kernel_rfl) (by kernel_rfl) (fun _ _ _ h => h) (Or.inl ⟨by rfl, ?yqV3_4_10⟩) hHeld ?_
  case yqV3_4_10 => (intro W0 hSw; go_simp; try with_reducible rfl)
  try simp only [pu]
  refine wpAnyH_done (by kernel_rfl) ?_ _
  obtain ⟨V4, rV4⟩ : ∃ X, X = W14 := ⟨_, rfl⟩
  subst rV4
  have gb0_V4 := cb0_1
  have sb0_V4 := row_size gb0_V4
  have gb1_V4 := cb1_1
  have sb1_V4 := row_size gb1_V4
  have gn4_V4 := cn4_1
  have sn4_V4 := row_size gn4_V4
  have gn5_V4 := cn5_1
  have sn5_V4 := row_size gn5_V4
  have gn6_V4 := cn6_1
  have sn6_V4 := row_size gn6_V4
  have hb_V4 := cb_1
  have hlaV4 := cl_1
  clear hHeld cb_1 hb_V3 cl_1 hlaV3 cb0_1 cb1_1 cn4_1 cn5_1 cn6_1 sb0_V3 sb1_V3 sn4_V3 sn5_V3 sn6_V3 gb0_V3 gb1_V3 gn4_V3 gn5_V3 gn6_V3
  have HF := vlt (show (o22 = true → cW v22 * cW v22 = uE (cW y) ∧ ln v22 % 2 = 0 ∧ ln v22 < FP) ∧ (o22 = false → v22 = z32 ∧ ∀ x : Fin FP, x * x ≠ uE (cW y)) by
    have h := across_is y v10 v15 v21 v21 v13 e10.out.1 e13.out.1 (by rw [e15.out.1, H1.out]) (by rw [e21.out.1, e18.out.1, e20.out.1, H1.out]) rfl
    rw [← h]
    exact e22.out)
  go_wp2_with fail
  refine bodyPost_ret (v := .tuple #[.agg (bv v22).toArray, .bool o22]) (results_row_tmp Tryd.results46 _ _ (w.heap.size + 1) 23 _ (0, 0) _ rfl gb1_V4.out Tryd.underlying23 rfl (by rw [List.size_toArray, bv_len, h22.out]; kernel_rfl) _ rfl) rfl ⟨v22, o22, rfl, HF, h22, hb_V4⟩
end Go.Proofs.YtcefdcjpddohaaaDoor
