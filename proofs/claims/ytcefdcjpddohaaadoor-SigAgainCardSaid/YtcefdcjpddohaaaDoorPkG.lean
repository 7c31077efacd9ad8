/-
  Words and contracts that other texts share, several in one text. No statement of the seat is proved here. Conditions: as each contract says.
  Contracts of point's told, zeroPlace. Conditions: none.
  Contract of point's plus: places are added. Conditions: the packages' own numbers lie as the program's text lays them.
  Contract of point's multiples. Conditions: the packages' own numbers lie as the program's text lays them.
-/
import Derived.Test.YtcefdcjpddohaaaDoorPkF
namespace Go.Proofs.YtcefdcjpddohaaaDoor
open Go.RowKit

def one32 : List UInt8 := 1 :: List.replicate 31 0
theorem one32_len : one32.length = 32 := rfl
theorem one32_is : cW one32 = 1 := by rw [cW, show ln one32 = 1 by decide +kernel]; rfl
theorem z32_is : cW z32 = 0 := by rw [cW, show ln z32 = 0 by decide +kernel]; rfl
theorem built_one32 : Tryd.prog.built 23 [(0, .int .u8 1)] = some (bv one32).toArray := by kernel_rfl
theorem built_z32 : Tryd.prog.built 23 [] = some (bv z32).toArray := by kernel_rfl
def zP : List UInt8 := z32 ++ (one32 ++ (one32 ++ z32))
theorem zP_len : zP.length = 128 := by simp [zP, z32_len, one32_len]
theorem zP_is : PlE zP zE := plE_four rfl z32_len one32_len one32_len z32_len (by rw [z32_is, one32_is]; exact rep_zero) zE_on
set_option maxRecDepth 100000 in
theorem built_zP : Tryd.prog.built 64 [(1, .agg (bv one32).toArray), (2, .agg (bv one32).toArray)] = some (bv zP).toArray := by kernel_rfl
/-- A word that stands for another. -/
theorem hides (l : List UInt8) (h : l.length = 32) : ∃ m : List UInt8, m = l ∧ Hid (m.length = 32) := ⟨l, rfl, h⟩
set_option maxRecDepth 100000 in
set_option maxHeartbeats 4000000 in
theorem ptold_any (w : World) (p : List UInt8) {P : PtE} (hp : p.length = 128) (hPl : PlE p P) :
    Calls Tryd.prog 35 #[.agg (bv p).toArray] w fun e w' => ∃ l, e = .returned (.agg (bv l).toArray) ∧ Vlt (l = encE P) ∧ Hid (l.length = 32) ∧ Below w.heap.size w w' := by
  have hzw := zero_word
  have HP := vlt hPl
  clear hPl
  obtain ⟨V0, hW, gb0_V0, gb1_V0, hb_V0, hsW⟩ := pair_new w (bv p).toArray (bv z32).toArray 64 23
  have HW := Lib.hid hW
  have Hhp := Lib.hid hp
  have sb0_V0 := row_size gb0_V0
  have sb1_V0 := row_size gb1_V0
  clear hW hsW hp
  go_enter Tryd.func35, Tryd.ntmps35
  go_upto_region 1 with fail
  rw [HW.out]
  have Hp0 := Lib.hid (sub_len p 0 32 (by rw [Hhp.out]; decide))
  have Hp1 := Lib.hid (sub_len p 32 32 (by rw [Hhp.out]; decide))
  have Hp2 := Lib.hid (sub_len p 64 32 (by rw [Hhp.out]; decide))
  have Hp3 := Lib.hid (sub_len p 96 32 (by rw [Hhp.out]; decide))
  refine plain_start (S := fun W' => Below V0.heap.size V0 W') (by kernel_rfl) (Below.refl _ _) (fun hHeld => ?_)
  refine wpAnyH_take (i := 0) (oi := ⟨(some 4), _, _, _, _, _⟩) (v := ?vqV0_1_0) rfl (by kernel_rfl) (by kernel_rfl) (by kernel_rfl) (fun _ _ _ h => h) (Or.inl ⟨by rfl, ?yqV0_1_0⟩) hHeld ?_
  case yqV0_1_0 => (intro W0 hSw; go_simp; try with_reducible rfl)
  try simp only [pu]
  refine wpAnyH_take (i := 1) (oi := ⟨(some 5), _, _, _, _, _⟩) (v := _) rfl (by kernel_rfl) (by kernel_rfl) (by kernel_rfl) (fun _ _ _ h => h) (yieldsIf_load_mid (by rfl) _ _ rfl (w.heap.size) 64 rfl (bv (sub p 64 32)) _ (fun W' hW' => range_sub ((hW'.block _ sb0_V0).trans gb0_V0.out)) (Tryd.underlying23) rfl (by rw [bv_len, Hp2.out]; kernel_rfl)) hHeld ?_
  try simp only [pu]
  refine mix_start (B := V0.heap.size) (al := [⟨3, 3, 23, ((bv z32)).toArray⟩]) (fuel := 2) rfl hHeld (hHeld.size) ?_
  clear hHeld
  refine mix_call (i := 2) (o := ⟨(some 6), _, _, _, _, _⟩) rfl (by kernel_rfl) (by kernel_rfl) (by kernel_rfl) (by kernel_rfl) (fun x hx => by simp only [List.mem_cons, List.not_mem_nil, or_false] at hx; rcases hx with rfl <;> first | exact makes_new rfl rfl rfl rfl zero_word) (fun W x _ h => h.alloc h.size _) (fun _ _ _ _ _ h => h) (fun X1 hHeld hBX K hK => ?_)
  go_simp
  refine (finv_any _ (sub p 64 32) (Hp2.out)).mono ?_
  rintro e W1 ⟨v6, rfl, e6, h6, hb1⟩
  refine hK.out _ _ (below_next hHeld hHeld.size hb1) hb1 ?_
  clear hK K hHeld hBX hb1
  try simp only [pu]
  refine mix_end (by kernel_rfl) (by kernel_rfl) (by simp) (by simp) (fun x hx => by simp only [List.mem_cons, List.not_mem_nil, or_false] at hx; rcases hx with rfl <;> first | exact makes_new rfl rfl rfl rfl zero_word) (fun W x _ h => h.alloc h.size _) (fun D hD W2 hHeld hBX hHo => ?_)
  obtain ⟨G3, rfl⟩ := v_one hD
  have xG3 : Hid (W2.heap[G3]? = some (.cells ((bv z32)).toArray 23 (0, 0))) := hHo.row (⟨3, 3, 23, ((bv z32)).toArray⟩, G3) (by simp)
  have lG3 : V0.heap.size ≤ G3 := hHo.new (⟨3, 3, 23, ((bv z32)).toArray⟩, G3) (by simp)
  clear hHo hBX hD
  simp only [markD, putD, List.foldr_cons, List.foldr_nil, pu, List.setIfInBounds_toArray, List.set_cons_zero, List.set_cons_succ]
  refine wpAnyH_ready (rs := [4]) (by kernel_rfl) (by simp) ?_
  refine AllReadyH.cons (i := 4) (o := ⟨none, _, _, _, _, _⟩) rfl (fun K hK => ?_) AllReadyH.nil
  refine step_row (by rfl) 23 (.tmp 3) (.tmp 6) rfl G3 (bv v6) rfl rfl 23 _ xG3.out (by rw [bv_len, h6.out]; kernel_rfl) (by rw [List.size_toArray, bv_len, bv_len, h6.out, z32_len]) (bv_one _) ?_
  intro W3 yG3 kG3
  refine hK.out _ _ (But.below hHeld kG3 lG3 hHeld.size) (fun hHeld => ?_)
  clear hK K kG3 xG3
  have xG3 := yG3
  clear yG3
  try simp only [pu]
  refine wpAnyH_done (by kernel_rfl) ?_ _
  obtain ⟨V1, rV1⟩ : ∃ X, X = W3 := ⟨_, rfl⟩
  subst rV1
  have gb0_V1 := row_next2 gb0_V0 hHeld
  have sb0_V1 := row_size gb0_V1
  have gb1_V1 := row_next2 gb1_V0 hHeld
  have sb1_V1 := row_size gb1_V1
  have hb_V1 := below_next hb_V0 hb_V0.size hHeld
  have gn3_V1 := xG3
  have sn3_V1 := row_size gn3_V1
  clear xG3
  have wG3 : w.heap.size + 2 ≤ G3 := by omega
  clear hHeld hb_V0 sb0_V0 sb1_V0
  clear gb0_V0 gb1_V0 lG3
  go_upto_region 2 with fail
  refine c_start (S := fun W' => Below V1.heap.size V1 W') 9 (by kernel_rfl) ((Below.refl _ _).drew) (fun hHeld => ?_)
  refine c_take (i := 0) (oi := ⟨(some 7), _, _, _, _, _⟩) (v := ?vqV1_2_0) rfl (by decide) (by kernel_rfl) (by kernel_rfl) (by kernel_rfl) (fun _ _ _ h => h) (Or.inl ⟨by rfl, ?yqV1_2_0⟩) hHeld ?_
  case yqV1_2_0 => (intro W0 hSw; go_simp; try with_reducible rfl)
  try simp only [pu]
  refine c_read (i := 1) (oi := ⟨(some 8), _, _, _, _, _⟩) (v := _) rfl (by decide) (by kernel_rfl) (by kernel_rfl) (by kernel_rfl) (by kernel_rfl) (by kernel_rfl) (fun _ _ _ h => h) (yieldsIf_load_mid (by rfl) _ _ rfl (w.heap.size) 0 rfl (bv (sub p 0 32)) _ (fun W' hW' => range_sub ((hW'.block _ sb0_V1).trans gb0_V1.out)) (Tryd.underlying23) rfl (by rw [bv_len, Hp0.out]; kernel_rfl)) hHeld ?_
  try simp only [pu]
  refine c_read (i := 2) (oi := ⟨(some 9), _, _, _, _, _⟩) (v := _) rfl (by decide) (by kernel_rfl) (by kernel_rfl) (by kernel_rfl) (by kernel_rfl) (by kernel_rfl) (fun _ _ _ h => h) (yieldsIf_load_mid (by rfl) _ _ rfl G3 0 rfl (bv v6) _ (fun W' hW' => range_row ((hW'.block _ sn3_V1).trans gn3_V1.out)) (Tryd.underlying23) rfl (by rw [bv_len, h6.out]; kernel_rfl)) hHeld ?_
  try simp only [pu]
  refine c_take (i := 4) (oi := ⟨(some 11), _, _, _, _, _⟩) (v := ?vqV1_2_4) rfl (by decide) (by kernel_rfl) (by kernel_rfl) (by kernel_rfl) (fun _ _ _ h => h) (Or.inl ⟨by rfl, ?yqV1_2_4⟩) hHeld ?_
  case yqV1_2_4 => (intro W0 hSw; go_simp; try with_reducible rfl)
  try simp only [pu]
  refine c_read (i := 5) (oi := ⟨(some 12), _, _, _, _, _⟩) (v := _) rfl (by decide) (by kernel_rfl) (by kernel_rfl) (by kernel_rfl) (by kernel_rfl) (by kernel_rfl) (fun _ _ _ h => h) (yieldsIf_load_mid (by rfl) _ _ rfl (w.heap.size) 32 rfl (bv (sub p 32 32)) _ (fun W' hW' => range_sub ((hW'.block _ sb0_V1).trans gb0_V1.out)) (Tryd.underlying23) rfl (by rw [bv_len, Hp1.out]; kernel_rfl)) hHeld ?_
  try simp only [pu]
  refine c_read (i := 6) (oi := ⟨(some 13), _, _, _, _, _⟩) (v := _) rfl (by decide) (by kernel_rfl) (by kernel_rfl) (by kernel_rfl) (by kernel_rfl) (by kernel_rfl) (fun _ _ _ h => h) (yieldsIf_load_mid (by rfl) _ _ rfl G3 0 rfl (bv v6) _ (fun W' hW' => range_row ((hW'.block _ sn3_V1).trans gn3_V1.out)) (Tryd.underlying23) rfl (by rw [bv_len, h6.out]; kernel_rfl)) hHeld ?_
  try simp only [pu]
  refine c_step (i := 3) (o := ⟨(some 10), _, _, _, _, _⟩) (by kernel_rfl) rfl (fun K hK => ?_)
  go_simp
  refine (fmul_any _ (sub p 0 32) v6 (Hp0.out) (h6.out)).mono ?_
  rintro e W4 ⟨v10, rfl, e10, h10, hb4⟩
  refine hK.out _ _ (below_next hHeld hHeld.size hb4) (fun hHeld => ?_)
  clear hK K hb4
  try simp only [pu]
  refine c_step (i := 7) (o := ⟨(some 14), _, _, _, _, _⟩) (by kernel_rfl) rfl (fun K hK => ?_)
  go_simp
  refine (fmul_any _ (sub p 32 32) v6 (Hp1.out) (h6.out)).mono ?_
  rintro e W5 ⟨v14, rfl, e14, h14, hb5⟩
  refine hK.out _ _ (below_next hHeld hHeld.size hb5) (fun hHeld => ?_)
  clear hK K hb5
  try simp only [pu]
  refine c_step (i := 8) (o := ⟨(some 15), _, _, _, _, _⟩) (by kernel_rfl) rfl (fun K hK => ?_)
  go_simp
  refine (written_any _ v10 v14 (h10.out) (e10.out).2 (h14.out) (e14.out).2).mono ?_
  rintro e W6 ⟨v15, rfl, e15, h15, hb6⟩
  refine hK.out _ _ (below_next hHeld hHeld.size hb6) (fun hHeld => ?_)
  clear hK K hb6
  try simp only [pu]
  refine c_call (S' := fun _ => True) (o := ⟨none, _, _, _, _, _⟩) (by kernel_rfl) (by kernel_rfl) rfl (fun K hK => ?_)
  have cb0_0 := row_next2 gb0_V1 hHeld
  have cb1_0 := row_next2 gb1_V1 hHeld
  have cn3_0 := row_next2 gn3_V1 hHeld
  have cb_0 := below_next hb_V1 hb_V1.size hHeld
  clear hHeld
  refine step_row (by rfl) 23 (.tmp 2) (.tmp 15) rfl (w.heap.size + 1) (bv v15) rfl rfl 23 _ cb1_0.out (by rw [bv_len, h15.out]; kernel_rfl) (by rw [List.size_toArray, bv_len, z32_len, bv_len, h15.out]) (bv_one _) ?_
  intro W7 cb1_1 kR
  refine hK.out _ _ trivial (fun hHeld => ?_)
  have cb0_1 := row_but cb0_0 kR (by omega)
  have cn3_1 := row_but cn3_0 kR (by omega)
  have cb_1 := But.below cb_0 kR (by omega) cb_0.size
  clear hK K kR cb_0 cb0_0 cb1_0 cn3_0 
  try simp only [pu]
  refine wpAnyH_done (by kernel_rfl) ?_ _
  obtain ⟨V2, rV2⟩ : ∃ X, X = W7 := ⟨_, rfl⟩
  subst rV2
  have gb0_V2 := cb0_1
  have sb0_V2 := row_size gb0_V2
  have gb1_V2 := cb1_1
  have sb1_V2 := row_size gb1_V2
  have gn3_V2 := cn3_1
  have sn3_V2 := row_size gn3_V2
  have hb_V2 := cb_1
  clear hHeld cb_1 hb_V1  cb0_1 cb1_1 cn3_1 sb0_V1 sb1_V1 sn3_V1 gb0_V1 gb1_V1 gn3_V1
  have HF := vlt (show v15 = encE P by
    have h := rep_x HP.out.rep
    rw [e15.out, e10.out.1, e14.out.1, e6.out.1, h.1, h.2])
  go_wp2_with fail
  refine bodyPost_ret (v := .agg (bv v15).toArray) (results_cell_row Tryd.results35 _ _ (w.heap.size + 1) 23 _ (0, 0) _ rfl gb1_V2.out Tryd.underlying23 rfl (by rw [List.size_toArray, bv_len, h15.out]; kernel_rfl)) rfl ⟨v15, rfl, HF, h15, hb_V2⟩
set_option maxRecDepth 100000 in
set_option maxHeartbeats 4000000 in
theorem zeroPlace_any (w : World) :
    Calls Tryd.prog 50 #[] w fun e w' => ∃ p, e = .returned (.agg (bv p).toArray) ∧ Vlt (p = zP) ∧ Hid (p.length = 128) ∧ Below w.heap.size w w' := by
  have hzw := zero_word
  have hzp := zero_place
  obtain ⟨ONE, dONE, HONE⟩ := hides one32 one32_len
  have hb1 := built_one32
  have hb2 := built_zP
  rw [← dONE] at hb1 hb2
  obtain ⟨ZP, dZP⟩ : ∃ p, p = zP := ⟨_, rfl⟩
  have HZP := Lib.hid (show ZP.length = 128 by rw [dZP]; exact zP_len)
  rw [← dZP] at hb2
  have HF := vlt dZP
  clear dONE dZP
  obtain ⟨V0, hW, gb0_V0, hb_V0, hsW⟩ := one_new w (bv z128).toArray 64
  have HW := Lib.hid hW
  have sb0_V0 := row_size gb0_V0
  clear hW hsW 
  go_enter Tryd.func50, Tryd.ntmps50
  go_upto_region 1 with fail
  rw [HW.out]
  refine plain_start (S := fun W' => Below V0.heap.size V0 W') (by kernel_rfl) (Below.refl _ _) (fun hHeld => ?_)
  refine wpAnyH_take (i := 0) (oi := ⟨(some 2), _, _, _, _, _⟩) (v := _) rfl (by kernel_rfl) (by kernel_rfl) (by kernel_rfl) (fun _ _ _ h => h) (yields_build (by rfl) _ _ rfl [(0, .int .u8 1)] (by rfl) _ hb1) hHeld ?_
  try simp only [pu]
  refine mix_start (B := V0.heap.size) (al := [⟨1, 1, 23, ((bv z32)).toArray⟩]) (fuel := 1) rfl hHeld (hHeld.size) ?_
  clear hHeld
  refine mix_end (by kernel_rfl) (by kernel_rfl) (by simp) (by simp) (fun x hx => by simp only [List.mem_cons, List.not_mem_nil, or_false] at hx; rcases hx with rfl <;> first | exact makes_new rfl rfl rfl rfl zero_word) (fun W x _ h => h.alloc h.size _) (fun D hD W1 hHeld hBX hHo => ?_)
  obtain ⟨G1, rfl⟩ := v_one hD
  have xG1 : Hid (W1.heap[G1]? = some (.cells ((bv z32)).toArray 23 (0, 0))) := hHo.row (⟨1, 1, 23, ((bv z32)).toArray⟩, G1) (by simp)
  have lG1 : V0.heap.size ≤ G1 := hHo.new (⟨1, 1, 23, ((bv z32)).toArray⟩, G1) (by simp)
  clear hHo hBX hD
  simp only [markD, putD, List.foldr_cons, List.foldr_nil, pu, List.setIfInBounds_toArray, List.set_cons_zero, List.set_cons_succ]
  refine wpAnyH_ready (rs := [2]) (by kernel_rfl) (by simp) ?_
  refine AllReadyH.cons (i := 2) (o := ⟨none, _, _, _, _, _⟩) rfl (fun K hK => ?_) AllReadyH.nil
  refine step_row (by rfl) 23 (.tmp 1) (.tmp 2) rfl G1 (bv ONE) rfl rfl 23 _ xG1.out (by rw [bv_len, HONE.out]; kernel_rfl) (by rw [List.size_toArray, bv_len, bv_len, HONE.out, z32_len]) (bv_one _) ?_
  intro W2 yG1 kG1
  refine hK.out _ _ (But.below hHeld kG1 lG1 hHeld.size) (fun hHeld => ?_)
  clear hK K kG1 xG1
  have xG1 := yG1
  clear yG1
  try simp only [pu]
  refine wpAnyH_done (by kernel_rfl) ?_ _
  obtain ⟨V1, rV1⟩ : ∃ X, X = W2 := ⟨_, rfl⟩
  subst rV1
  have gb0_V1 := row_next2 gb0_V0 hHeld
  have sb0_V1 := row_size gb0_V1
  have hb_V1 := below_next hb_V0 hb_V0.size hHeld
  have gn1_V1 := xG1
  have sn1_V1 := row_size gn1_V1
  clear xG1
  have wG1 : w.heap.size + 1 ≤ G1 := by omega
  clear hHeld hb_V0 sb0_V0
  clear gb0_V0 lG1
  go_upto_region 2 with fail
  refine plain_start_c (S := fun W' => Below V1.heap.size V1 W') 3 (by kernel_rfl) (Below.refl _ _) (fun hHeld => ?_)
  refine c_read (i := 0) (oi := ⟨(some 3), _, _, _, _, _⟩) (v := _) rfl (by decide) (by kernel_rfl) (by kernel_rfl) (by kernel_rfl) (by kernel_rfl) (by kernel_rfl) (fun _ _ _ h => h) (yieldsIf_load_mid (by rfl) _ _ rfl G1 0 rfl (bv ONE) _ (fun W' hW' => range_row ((hW'.block _ sn1_V1).trans gn1_V1.out)) (Tryd.underlying23) rfl (by rw [bv_len, HONE.out]; kernel_rfl)) hHeld ?_
  try simp only [pu]
  refine c_read (i := 1) (oi := ⟨(some 4), _, _, _, _, _⟩) (v := _) rfl (by decide) (by kernel_rfl) (by kernel_rfl) (by kernel_rfl) (by kernel_rfl) (by kernel_rfl) (fun _ _ _ h => h) (yieldsIf_load_mid (by rfl) _ _ rfl G1 0 rfl (bv ONE) _ (fun W' hW' => range_row ((hW'.block _ sn1_V1).trans gn1_V1.out)) (Tryd.underlying23) rfl (by rw [bv_len, HONE.out]; kernel_rfl)) hHeld ?_
  try simp only [pu]
  refine c_take (i := 2) (oi := ⟨(some 5), _, _, _, _, _⟩) (v := _) rfl (by decide) (by kernel_rfl) (by kernel_rfl) (by kernel_rfl) (fun _ _ _ h => h) (yields_build (by rfl) _ _ rfl [(1, .agg (bv ONE).toArray), (2, .agg (bv ONE).toArray)] (by rfl) _ hb2) hHeld ?_
  try simp only [pu]
  refine c_call (S' := fun _ => True) (o := ⟨none, _, _, _, _, _⟩) (by kernel_rfl) (by kernel_rfl) rfl (fun K hK => ?_)
  have cb0_0 := row_next2 gb0_V1 hHeld
  have cn1_0 := row_next2 gn1_V1 hHeld
  have cb_0 := below_next hb_V1 hb_V1.size hHeld
  clear hHeld
  refine step_row (by rfl) 64 (.tmp 0) (.tmp 5) rfl (w.heap.size) (bv ZP) rfl rfl 64 _ cb0_0.out (by rw [bv_len, HZP.out]; kernel_rfl) (by rw [List.size_toArray, bv_len, z128_len, bv_len, HZP.out]) (bv_one _) ?_
  intro W3 cb0_1 kR
  refine hK.out _ _ trivial (fun hHeld => ?_)
  have cn1_1 := row_but cn1_0 kR (by omega)
  have cb_1 := But.below cb_0 kR (by omega) cb_0.size
  clear hK K kR cb_0 cb0_0 cn1_0 
  try simp only [pu]
  refine wpAnyH_done (by kernel_rfl) ?_ _
  obtain ⟨V2, rV2⟩ : ∃ X, X = W3 := ⟨_, rfl⟩
  subst rV2
  have gb0_V2 := cb0_1
  have sb0_V2 := row_size gb0_V2
  have gn1_V2 := cn1_1
  have sn1_V2 := row_size gn1_V2
  have hb_V2 := cb_1
  clear hHeld cb_1 hb_V1  cb0_1 cn1_1 sb0_V1 sn1_V1 gb0_V1 gn1_V1
  go_wp2_with fail
  refine bodyPost_ret (v := .agg (bv ZP).toArray) (results_cell_row Tryd.results50 _ _ (w.heap.size) 64 _ (0, 0) _ rfl gb0_V2.out Tryd.underlying64 rfl (by rw [List.size_toArray, bv_len, HZP.out]; kernel_rfl)) rfl ⟨ZP, rfl, HF, HZP, hb_V2⟩
end Go.Proofs.YtcefdcjpddohaaaDoor
namespace Go.Proofs.YtcefdcjpddohaaaDoor
open Go.RowKit

set_option maxRecDepth 100000 in
set_option maxHeartbeats 4000000 in
theorem pplus_any (w : World) (hla : LaidP w) (p q : List UInt8) {P Q : PtE} (hp : p.length = 128) (hPl : PlE p P) (hq : q.length = 128) (hQl : PlE q Q) :
    Calls Tryd.prog 36 #[.agg (bv p).toArray, .agg (bv q).toArray] w fun e w' => ∃ p, e = .returned (.agg (bv p).toArray) ∧ Vlt (PlE p (addE P Q)) ∧ Hid (p.length = 128) ∧ Below w.heap.size w w' := by
  have hzw := zero_word
  have hzp := zero_place
  have HP := vlt hPl
  have HQ := vlt hQl
  clear hPl hQl
  obtain ⟨V0, hW, gb0_V0, gb1_V0, gb2_V0, hb_V0, hsW⟩ := three_new w (bv p).toArray (bv q).toArray (bv z128).toArray 64 64 64
  have HW := Lib.hid hW
  have Hhp := Lib.hid hp
  have Hhq := Lib.hid hq
  have sb0_V0 := row_size gb0_V0
  have sb1_V0 := row_size gb1_V0
  have sb2_V0 := row_size gb2_V0
  have hlaV0 := hla.next hb_V0
  have gl1 := hla.size
  have gl2 := hla.turn.2
  clear hla
  clear hW hsW hp hq
  go_enter Tryd.func36, Tryd.ntmps36
  go_upto_region 1 with fail
  rw [HW.out]
  have Hp0 := Lib.hid (sub_len p 0 32 (by rw [Hhp.out]; decide))
  have Hp1 := Lib.hid (sub_len p 32 32 (by rw [Hhp.out]; decide))
  have Hp2 := Lib.hid (sub_len p 64 32 (by rw [Hhp.out]; decide))
  have Hp3 := Lib.hid (sub_len p 96 32 (by rw [Hhp.out]; decide))
  have Hq0 := Lib.hid (sub_len q 0 32 (by rw [Hhq.out]; decide))
  have Hq1 := Lib.hid (sub_len q 32 32 (by rw [Hhq.out]; decide))
  have Hq2 := Lib.hid (sub_len q 64 32 (by rw [Hhq.out]; decide))
  have Hq3 := Lib.hid (sub_len q 96 32 (by rw [Hhq.out]; decide))
  refine wp_region_held_drew (S := fun W' => Below V0.heap.size V0 W') (by kernel_rfl) ((Below.refl _ _).drew) (fun hHeld => ?_)
  refine wpAnyH_take (i := 0) (oi := ⟨(some 11), _, _, _, _, _⟩) (v := ?vqV0_1_0) rfl (by kernel_rfl) (by kernel_rfl) (by kernel_rfl) (fun _ _ _ h => h) (Or.inl ⟨by rfl, ?yqV0_1_0⟩) hHeld ?_
  case yqV0_1_0 => (intro W0 hSw; go_simp; try with_reducible rfl)
  try simp only [pu]
  refine wpAnyH_take (i := 1) (oi := ⟨(some 12), _, _, _, _, _⟩) (v := _) rfl (by kernel_rfl) (by kernel_rfl) (by kernel_rfl) (fun _ _ _ h => h) (yieldsIf_load_mid (by rfl) _ _ rfl (w.heap.size) 0 rfl (bv (sub p 0 32)) _ (fun W' hW' => range_sub ((hW'.block _ sb0_V0).trans gb0_V0.out)) (Tryd.underlying23) rfl (by rw [bv_len, Hp0.out]; kernel_rfl)) hHeld ?_
  try simp only [pu]
  refine wpAnyH_take (i := 2) (oi := ⟨(some 13), _, _, _, _, _⟩) (v := ?vqV0_1_2) rfl (by kernel_rfl) (by kernel_rfl) (by kernel_rfl) (fun _ _ _ h => h) (Or.inl ⟨by rfl, ?yqV0_1_2⟩) hHeld ?_
  case yqV0_1_2 => (intro W0 hSw; go_simp; try with_reducible rfl)
  try simp only [pu]
  refine wpAnyH_take (i := 3) (oi := ⟨(some 14), _, _, _, _, _⟩) (v := _) rfl (by kernel_rfl) (by kernel_rfl) (by kernel_rfl) (fun _ _ _ h => h) (yieldsIf_load_mid (by rfl) _ _ rfl (w.heap.size + 1) 0 rfl (bv (sub q 0 32)) _ (fun W' hW' => range_sub ((hW'.block _ sb1_V0).trans gb1_V0.out)) (Tryd.underlying23) rfl (by rw [bv_len, Hq0.out]; kernel_rfl)) hHeld ?_
  try simp only [pu]
  refine wpAnyH_take (i := 5) (oi := ⟨(some 16), _, _, _, _, _⟩) (v := ?vqV0_1_5) rfl (by kernel_rfl) (by kernel_rfl) (by kernel_rfl) (fun _ _ _ h => h) (Or.inl ⟨by rfl, ?yqV0_1_5⟩) hHeld ?_
  case yqV0_1_5 => (intro W0 hSw; go_simp; try with_reducible rfl)
  try simp only [pu]
  refine wpAnyH_take (i := 6) (oi := ⟨(some 17), _, _, _, _, _⟩) (v := _) rfl (by kernel_rfl) (by kernel_rfl) (by kernel_rfl) (fun _ _ _ h => h) (yieldsIf_load_mid (by rfl) _ _ rfl (w.heap.size) 32 rfl (bv (sub p 32 32)) _ (fun W' hW' => range_sub ((hW'.block _ sb0_V0).trans gb0_V0.out)) (Tryd.underlying23) rfl (by rw [bv_len, Hp1.out]; kernel_rfl)) hHeld ?_
  try simp only [pu]
  refine wpAnyH_take (i := 7) (oi := ⟨(some 18), _, _, _, _, _⟩) (v := ?vqV0_1_7) rfl (by kernel_rfl) (by kernel_rfl) (by kernel_rfl) (fun _ _ _ h => h) (Or.inl ⟨by rfl, ?yqV0_1_7⟩) hHeld ?_
  case yqV0_1_7 => (intro W0 hSw; go_simp; try with_reducible rfl)
  try simp only [pu]
  refine wpAnyH_take (i := 8) (oi := ⟨(some 19), _, _, _, _, _⟩) (v := _) rfl (by kernel_rfl) (by kernel_rfl) (by kernel_rfl) (fun _ _ _ h => h) (yieldsIf_load_mid (by rfl) _ _ rfl (w.heap.size + 1) 32 rfl (bv (sub q 32 32)) _ (fun W' hW' => range_sub ((hW'.block _ sb1_V0).trans gb1_V0.out)) (Tryd.underlying23) rfl (by rw [bv_len, Hq1.out]; kernel_rfl)) hHeld ?_
  try simp only [pu]
  refine wpAnyH_take (i := 10) (oi := ⟨(some 21), _, _, _, _, _⟩) (v := ?vqV0_1_10) rfl (by kernel_rfl) (by kernel_rfl) (by kernel_rfl) (fun _ _ _ h => h) (Or.inl ⟨by rfl, ?yqV0_1_10⟩) hHeld ?_
  case yqV0_1_10 => (intro W0 hSw; go_simp; try with_reducible rfl)
  try simp only [pu]
  refine wpAnyH_take (i := 11) (oi := ⟨(some 22), _, _, _, _, _⟩) (v := _) rfl (by kernel_rfl) (by kernel_rfl) (by kernel_rfl) (fun _ _ _ h => h) (yieldsIf_load_mid (by rfl) _ _ rfl (w.heap.size) 64 rfl (bv (sub p 64 32)) _ (fun W' hW' => range_sub ((hW'.block _ sb0_V0).trans gb0_V0.out)) (Tryd.underlying23) rfl (by rw [bv_len, Hp2.out]; kernel_rfl)) hHeld ?_
  try simp only [pu]
  refine wpAnyH_take (i := 12) (oi := ⟨(some 23), _, _, _, _, _⟩) (v := ?vqV0_1_12) rfl (by kernel_rfl) (by kernel_rfl) (by kernel_rfl) (fun _ _ _ h => h) (Or.inl ⟨by rfl, ?yqV0_1_12⟩) hHeld ?_
  case yqV0_1_12 => (intro W0 hSw; go_simp; try with_reducible rfl)
  try simp only [pu]
  refine wpAnyH_take (i := 13) (oi := ⟨(some 24), _, _, _, _, _⟩) (v := _) rfl (by kernel_rfl) (by kernel_rfl) (by kernel_rfl) (fun _ _ _ h => h) (yieldsIf_load_mid (by rfl) _ _ rfl (w.heap.size + 1) 64 rfl (bv (sub q 64 32)) _ (fun W' hW' => range_sub ((hW'.block _ sb1_V0).trans gb1_V0.out)) (Tryd.underlying23) rfl (by rw [bv_len, Hq2.out]; kernel_rfl)) hHeld ?_
  try simp only [pu]
  refine mix_start (B := V0.heap.size) (al := [⟨15, 5, 23, ((bv z32)).toArray⟩, ⟨16, 6, 23, ((bv z32)).toArray⟩, ⟨17, 7, 23, ((bv z32)).toArray⟩]) (fuel := 6) rfl hHeld (hHeld.size) ?_
  clear hHeld
  refine mix_call (i := 4) (o := ⟨(some 15), _, _, _, _, _⟩) rfl (by kernel_rfl) (by kernel_rfl) (by kernel_rfl) (by kernel_rfl) (fun x hx => by simp only [List.mem_cons, List.not_mem_nil, or_false] at hx; rcases hx with rfl | rfl | rfl <;> first | exact makes_new rfl rfl rfl rfl zero_word) (fun W x _ h => h.alloc h.size _) (fun _ _ _ _ _ h => h) (fun X1 hHeld hBX K hK => ?_)
  go_simp
  refine (fmul_any _ (sub p 0 32) (sub q 0 32) (Hp0.out) (Hq0.out)).mono ?_
  rintro e W1 ⟨v15, rfl, e15, h15, hb1⟩
  refine hK.out _ _ (below_next hHeld hHeld.size hb1) hb1 ?_
  clear hK K hHeld hBX hb1
  try simp only [pu]
  refine mix_call (i := 9) (o := ⟨(some 20), _, _, _, _, _⟩) rfl (by kernel_rfl) (by kernel_rfl) (by kernel_rfl) (by kernel_rfl) (fun x hx => by simp only [List.mem_cons, List.not_mem_nil, or_false] at hx; rcases hx with rfl | rfl | rfl <;> first | exact makes_new rfl rfl rfl rfl zero_word) (fun W x _ h => h.alloc h.size _) (fun _ _ _ _ _ h => h) (fun X2 hHeld hBX K hK => ?_)
  go_simp
  refine (fmul_any _ (sub p 32 32) (sub q 32 32) (Hp1.out) (Hq1.out)).mono ?_
  rintro e W2 ⟨v20, rfl, e20, h20, hb2⟩
  refine hK.out _ _ (below_next hHeld hHeld.size hb2) hb2 ?_
  clear hK K hHeld hBX hb2
  try simp only [pu]
  refine mix_call (i := 14) (o := ⟨(some 25), _, _, _, _, _⟩) rfl (by kernel_rfl) (by kernel_rfl) (by kernel_rfl) (by kernel_rfl) (fun x hx => by simp only [List.mem_cons, List.not_mem_nil, or_false] at hx; rcases hx with rfl | rfl | rfl <;> first | exact makes_new rfl rfl rfl rfl zero_word) (fun W x _ h => h.alloc h.size _) (fun _ _ _ _ _ h => h) (fun X3 hHeld hBX K hK => ?_)
  go_simp
  refine (fmul_any _ (sub p 64 32) (sub q 64 32) (Hp2.out) (Hq2.out)).mono ?_
  rintro e W3 ⟨v25, rfl, e25, h25, hb3⟩
  refine hK.out _ _ (below_next hHeld hHeld.size hb3) hb3 ?_
  clear hK K hHeld hBX hb3
  try simp only [pu]
  refine mix_end (by kernel_rfl) (by kernel_rfl) (by simp) (by simp) (fun x hx => by simp only [List.mem_cons, List.not_mem_nil, or_false] at hx; rcases hx with rfl | rfl | rfl <;> first | exact makes_new rfl rfl rfl rfl zero_word) (fun W x _ h => h.alloc h.size _) (fun D hD W4 hHeld hBX hHo => ?_)
  obtain ⟨G5, G6, G7, rfl⟩ := v_three hD
  have xG5 : Hid (W4.heap[G5]? = some (.cells ((bv z32)).toArray 23 (0, 0))) := hHo.row (⟨15, 5, 23, ((bv z32)).toArray⟩, G5) (by simp)
  have lG5 : V0.heap.size ≤ G5 := hHo.new (⟨15, 5, 23, ((bv z32)).toArray⟩, G5) (by simp)
  have xG6 : Hid (W4.heap[G6]? = some (.cells ((bv z32)).toArray 23 (0, 0))) := hHo.row (⟨16, 6, 23, ((bv z32)).toArray⟩, G6) (by simp)
  have lG6 : V0.heap.size ≤ G6 := hHo.new (⟨16, 6, 23, ((bv z32)).toArray⟩, G6) (by simp)
  have xG7 : Hid (W4.heap[G7]? = some (.cells ((bv z32)).toArray 23 (0, 0))) := hHo.row (⟨17, 7, 23, ((bv z32)).toArray⟩, G7) (by simp)
  have lG7 : V0.heap.size ≤ G7 := hHo.new (⟨17, 7, 23, ((bv z32)).toArray⟩, G7) (by simp)
  have hnd := hHo.nodup
  simp only [List.map_cons, List.map_nil, List.nodup_cons, List.mem_cons, List.not_mem_nil, or_false, not_or, not_false_eq_true, List.nodup_nil, and_true] at hnd
  obtain ⟨⟨nG5G6, nG5G7⟩, nG6G7⟩ := hnd
  clear hHo hBX hD
  simp only [markD, putD, List.foldr_cons, List.foldr_nil, pu, List.setIfInBounds_toArray, List.set_cons_zero, List.set_cons_succ]
  refine wpAnyH_ready (rs := [18]) (by kernel_rfl) (by simp) ?_
  refine AllReadyH.cons (i := 18) (o := ⟨none, _, _, _, _, _⟩) rfl (fun K hK => ?_) AllReadyH.nil
  refine step_row (by rfl) 23 (.tmp 5) (.tmp 15) rfl G5 (bv v15) rfl rfl 23 _ xG5.out (by rw [bv_len, h15.out]; kernel_rfl) (by rw [List.size_toArray, bv_len, bv_len, h15.out, z32_len]) (bv_one _) ?_
  intro W5 yG5 kG5
  have zG6 := row_but xG6 kG5 (by omega)
  clear xG6
  have xG6 := zG6
  clear zG6
  have zG7 := row_but xG7 kG5 (by omega)
  clear xG7
  have xG7 := zG7
  clear zG7
  refine hK.out _ _ (But.below hHeld kG5 lG5 hHeld.size) (fun hHeld => ?_)
  clear hK K kG5 xG5
  have xG5 := yG5
  clear yG5
  try simp only [pu]
  refine wpAnyH_ready (rs := [19]) (by kernel_rfl) (by simp) ?_
  refine AllReadyH.cons (i := 19) (o := ⟨none, _, _, _, _, _⟩) rfl (fun K hK => ?_) AllReadyH.nil
  refine step_row (by rfl) 23 (.tmp 6) (.tmp 20) rfl G6 (bv v20) rfl rfl 23 _ xG6.out (by rw [bv_len, h20.out]; kernel_rfl) (by rw [List.size_toArray, bv_len, bv_len, h20.out, z32_len]) (bv_one _) ?_
  intro W6 yG6 kG6
  have zG5 := row_but xG5 kG6 (by omega)
  clear xG5
  have xG5 := zG5
  clear zG5
  have zG7 := row_but xG7 kG6 (by omega)
  clear xG7
  have xG7 := zG7
  clear zG7
  refine hK.out _ _ (But.below hHeld kG6 lG6 hHeld.size) (fun hHeld => ?_)
  clear hK K kG6 xG6
  have xG6 := yG6
  clear yG6
  try simp only [pu]
  refine wpAnyH_ready (rs := [20]) (by kernel_rfl) (by simp) ?_
  refine AllReadyH.cons (i := 20) (o := ⟨none, _, _, _, _, _⟩) rfl (fun K hK => ?_) AllReadyH.nil
  refine step_row (by rfl) 23 (.tmp 7) (.tmp 25) rfl G7 (bv v25) rfl rfl 23 _ xG7.out (by rw [bv_len, h25.out]; kernel_rfl) (by rw [List.size_toArray, bv_len, bv_len, h25.out, z32_len]) (bv_one _) ?_
  intro W7 yG7 kG7
  have zG5 := row_but xG5 kG7 (by omega)
  clear xG5
  have xG5 := zG5
  clear zG5
  have zG6 := row_but xG6 kG7 (by omega)
  clear xG6
  have xG6 := zG6
  clear zG6
  refine hK.out _ _ (But.below hHeld kG7 lG7 hHeld.size) (fun hHeld => ?_)
  clear hK K kG7 xG7
  have xG7 := yG7
  clear yG7
  try simp only [pu]
  refine wpAnyH_done (by kernel_rfl) ?_ _
  obtain ⟨V1, rV1⟩ : ∃ X, X = W7 := ⟨_, rfl⟩
  subst rV1
  have gb0_V1 := row_next2 gb0_V0 hHeld
  have sb0_V1 := row_size gb0_V1
  have gb1_V1 := row_next2 gb1_V0 hHeld
  have sb1_V1 := row_size gb1_V1
  have gb2_V1 := row_next2 gb2_V0 hHeld
  have sb2_V1 := row_size gb2_V1
  have hb_V1 := below_next hb_V0 hb_V0.size hHeld
  have hlaV1 := hlaV0.next hHeld
  have gn5_V1 := xG5
  have sn5_V1 := row_size gn5_V1
  clear xG5
  have gn6_V1 := xG6
  have sn6_V1 := row_size gn6_V1
  clear xG6
  have gn7_V1 := xG7
  have sn7_V1 := row_size gn7_V1
  clear xG7
  have wG5 : w.heap.size + 3 ≤ G5 := by omega
  have wG6 : w.heap.size + 3 ≤ G6 := by omega
  have wG7 : w.heap.size + 3 ≤ G7 := by omega
  clear hHeld hb_V0 sb0_V0 sb1_V0 sb2_V0
  clear gb0_V0 gb1_V0 gb2_V0 hlaV0 lG5 lG6 lG7
  go_upto_region 2 with fail
  refine wp_region_held_drew (S := fun W' => Below V1.heap.size V1 W') (by kernel_rfl) ((Below.refl _ _).drew) (fun hHeld => ?_)
  refine wpAnyH_take (i := 0) (oi := ⟨(some 26), _, _, _, _, _⟩) (v := _) rfl (by kernel_rfl) (by kernel_rfl) (by kernel_rfl) (fun _ _ _ h => h) (yieldsIf_load_mid (by rfl) _ _ rfl 1 0 rfl (bv bendL) _ (fun W' hW' => ((hlaV1.next hW')).range) (Tryd.underlying23) rfl (by kernel_rfl)) hHeld ?_
  try simp only [pu]
  refine wpAnyH_take (i := 1) (oi := ⟨(some 27), _, _, _, _, _⟩) (v := ?vqV1_2_1) rfl (by kernel_rfl) (by kernel_rfl) (by kernel_rfl) (fun _ _ _ h => h) (Or.inl ⟨by rfl, ?yqV1_2_1⟩) hHeld ?_
  case yqV1_2_1 => (intro W0 hSw; go_simp; try with_reducible rfl)
  try simp only [pu]
  refine wpAnyH_take (i := 2) (oi := ⟨(some 28), _, _, _, _, _⟩) (v := _) rfl (by kernel_rfl) (by kernel_rfl) (by kernel_rfl) (fun _ _ _ h => h) (yieldsIf_load_mid (by rfl) _ _ rfl (w.heap.size) 96 rfl (bv (sub p 96 32)) _ (fun W' hW' => range_sub ((hW'.block _ sb0_V1).trans gb0_V1.out)) (Tryd.underlying23) rfl (by rw [bv_len, Hp3.out]; kernel_rfl)) hHeld ?_
  try simp only [pu]
  refine wpAnyH_take (i := 3) (oi := ⟨(some 29), _, _, _, _, _⟩) (v := ?vqV1_2_3) rfl (by kernel_rfl) (by kernel_rfl) (by kernel_rfl) (fun _ _ _ h => h) (Or.inl ⟨by rfl, ?yqV1_2_3⟩) hHeld ?_
  case yqV1_2_3 => (intro W0 hSw; go_simp; try with_reducible rfl)
  try simp only [pu]
  refine wpAnyH_take (i := 4) (oi := ⟨(some 30), _, _, _, _, _⟩) (v := _) rfl (by kernel_rfl) (by kernel_rfl) (by kernel_rfl) (fun _ _ _ h => h) (yieldsIf_load_mid (by rfl) _ _ rfl (w.heap.size + 1) 96 rfl (bv (sub q 96 32)) _ (fun W' hW' => range_sub ((hW'.block _ sb1_V1).trans gb1_V1.out)) (Tryd.underlying23) rfl (by rw [bv_len, Hq3.out]; kernel_rfl)) hHeld ?_
  try simp only [pu]
  refine mix_start (B := V1.heap.size) (al := [⟨7, 8, 23, ((bv z32)).toArray⟩]) (fuel := 3) rfl hHeld (hHeld.size) ?_
  clear hHeld
  refine mix_call (i := 5) (o := ⟨(some 31), _, _, _, _, _⟩) rfl (by kernel_rfl) (by kernel_rfl) (by kernel_rfl) (by kernel_rfl) (fun x hx => by simp only [List.mem_cons, List.not_mem_nil, or_false] at hx; rcases hx with rfl <;> first | exact makes_new rfl rfl rfl rfl zero_word) (fun W x _ h => h.alloc h.size _) (fun _ _ _ _ _ h => h) (fun X8 hHeld hBX K hK => ?_)
  go_simp
  refine (fmul_any _ (sub p 96 32) (sub q 96 32) (Hp3.out) (Hq3.out)).mono ?_
  rintro e W8 ⟨v31, rfl, e31, h31, hb8⟩
  refine hK.out _ _ (below_next hHeld hHeld.size hb8) hb8 ?_
  clear hK K hHeld hBX hb8
  try simp only [pu]
  refine mix_call (i := 6) (o := ⟨(some 32), _, _, _, _, _⟩) rfl (by kernel_rfl) (by kernel_rfl) (by kernel_rfl) (by kernel_rfl) (fun x hx => by simp only [List.mem_cons, List.not_mem_nil, or_false] at hx; rcases hx with rfl <;> first | exact makes_new rfl rfl rfl rfl zero_word) (fun W x _ h => h.alloc h.size _) (fun _ _ _ _ _ h => h) (fun X9 hHeld hBX K hK => ?_)
  go_simp
  refine (fmul_any _ bendL v31 (bendL_len) (h31.out)).mono ?_
  rintro e W9 ⟨v32, rfl, e32, h32, hb9⟩
  refine hK.out _ _ (below_next hHeld hHeld.size hb9) hb9 ?_
  clear hK K hHeld hBX hb9
  try simp only [pu]
  refine mix_end (by kernel_rfl) (by kernel_rfl) (by simp) (by simp) (fun x hx => by simp only [List.mem_cons, List.not_mem_nil, or_false] at hx; rcases hx with rfl <;> first | exact makes_new rfl rfl rfl rfl zero_word) (fun W x _ h => h.alloc h.size _) (fun D hD W10 hHeld hBX hHo => ?_)
  obtain ⟨G8, rfl⟩ := v_one hD
  have xG8 : Hid (W10.heap[G8]? = some (.cells ((bv z32)).toArray 23 (0, 0))) := hHo.row (⟨7, 8, 23, ((bv z32)).toArray⟩, G8) (by simp)
  have lG8 : V1.heap.size ≤ G8 := hHo.new (⟨7, 8, 23, ((bv z32)).toArray⟩, G8) (by simp)
  clear hHo hBX hD
  simp only [markD, putD, List.foldr_cons, List.foldr_nil, pu, List.setIfInBounds_toArray, List.set_cons_zero, List.set_cons_succ]
  refine wpAnyH_ready (rs := [8]) (by kernel_rfl) (by simp) ?_
  refine AllReadyH.cons (i := 8) (o := ⟨none, _, _, _, _, _⟩) rfl (fun K hK => ?_) AllReadyH.nil
  refine step_row (by rfl) 23 (.tmp 8) (.tmp 32) rfl G8 (bv v32) rfl rfl 23 _ xG8.out (by rw [bv_len, h32.out]; kernel_rfl) (by rw [List.size_toArray, bv_len, bv_len, h32.out, z32_len]) (bv_one _) ?_
  intro W11 yG8 kG8
  refine hK.out _ _ (But.below hHeld kG8 lG8 hHeld.size) (fun hHeld => ?_)
  clear hK K kG8 xG8
  have xG8 := yG8
  clear yG8
  try simp only [pu]
  refine wpAnyH_done (by kernel_rfl) ?_ _
  obtain ⟨V2, rV2⟩ : ∃ X, X = W11 := ⟨_, rfl⟩
  subst rV2
  have gb0_V2 := row_next2 gb0_V1 hHeld
  have sb0_V2 := row_size gb0_V2
  have gb1_V2 := row_next2 gb1_V1 hHeld
  have sb1_V2 := row_size gb1_V2
  have gb2_V2 := row_next2 gb2_V1 hHeld
  have sb2_V2 := row_size gb2_V2
  have gn5_V2 := row_next2 gn5_V1 hHeld
  have sn5_V2 := row_size gn5_V2
  have gn6_V2 := row_next2 gn6_V1 hHeld
  have sn6_V2 := row_size gn6_V2
  have gn7_V2 := row_next2 gn7_V1 hHeld
  have sn7_V2 := row_size gn7_V2
  have hb_V2 := below_next hb_V1 hb_V1.size hHeld
  have hlaV2 := hlaV1.next hHeld
  have gn8_V2 := xG8
  have sn8_V2 := row_size gn8_V2
  clear xG8
  have wG8 : w.heap.size + 3 ≤ G8 := by omega
  have nG5G8 : G5 ≠ G8 := by omega
  have nG6G8 : G6 ≠ G8 := by omega
  have nG7G8 : G7 ≠ G8 := by omega
  clear hHeld hb_V1 sb0_V1 sb1_V1 sb2_V1 sn5_V1 sn6_V1 sn7_V1
  clear gb0_V1 gb1_V1 gb2_V1 gn5_V1 gn6_V1 gn7_V1 hlaV1 lG8
  go_upto_region 3 with fail
  refine wp_region_held_drew (S := fun W' => Below V2.heap.size V2 W') (by kernel_rfl) ((Below.refl _ _).drew) (fun hHeld => ?_)
  refine wpAnyH_take (i := 0) (oi := ⟨(some 33), _, _, _, _, _⟩) (v := ?vqV2_3_0) rfl (by kernel_rfl) (by kernel_rfl) (by kernel_rfl) (fun _ _ _ h => h) (Or.inl ⟨by rfl, ?yqV2_3_0⟩) hHeld ?_
  case yqV2_3_0 => (intro W0 hSw; go_simp; try with_reducible rfl)
  try simp only [pu]
  refine wpAnyH_take (i := 1) (oi := ⟨(some 34), _, _, _, _, _⟩) (v := _) rfl (by kernel_rfl) (by kernel_rfl) (by kernel_rfl) (fun _ _ _ h => h) (yieldsIf_load_mid (by rfl) _ _ rfl (w.heap.size) 0 rfl (bv (sub p 0 32)) _ (fun W' hW' => range_sub ((hW'.block _ sb0_V2).trans gb0_V2.out)) (Tryd.underlying23) rfl (by rw [bv_len, Hp0.out]; kernel_rfl)) hHeld ?_
  try simp only [pu]
  refine wpAnyH_take (i := 2) (oi := ⟨(some 35), _, _, _, _, _⟩) (v := ?vqV2_3_2) rfl (by kernel_rfl) (by kernel_rfl) (by kernel_rfl) (fun _ _ _ h => h) (Or.inl ⟨by rfl, ?yqV2_3_2⟩) hHeld ?_
  case yqV2_3_2 => (intro W0 hSw; go_simp; try with_reducible rfl)
  try simp only [pu]
  refine wpAnyH_take (i := 3) (oi := ⟨(some 36), _, _, _, _, _⟩) (v := _) rfl (by kernel_rfl) (by kernel_rfl) (by kernel_rfl) (fun _ _ _ h => h) (yieldsIf_load_mid (by rfl) _ _ rfl (w.heap.size) 32 rfl (bv (sub p 32 32)) _ (fun W' hW' => range_sub ((hW'.block _ sb0_V2).trans gb0_V2.out)) (Tryd.underlying23) rfl (by rw [bv_len, Hp1.out]; kernel_rfl)) hHeld ?_
  try simp only [pu]
  refine wpAnyH_take (i := 5) (oi := ⟨(some 38), _, _, _, _, _⟩) (v := ?vqV2_3_5) rfl (by kernel_rfl) (by kernel_rfl) (by kernel_rfl) (fun _ _ _ h => h) (Or.inl ⟨by rfl, ?yqV2_3_5⟩) hHeld ?_
  case yqV2_3_5 => (intro W0 hSw; go_simp; try with_reducible rfl)
  try simp only [pu]
  refine wpAnyH_take (i := 6) (oi := ⟨(some 39), _, _, _, _, _⟩) (v := _) rfl (by kernel_rfl) (by kernel_rfl) (by kernel_rfl) (fun _ _ _ h => h) (yieldsIf_load_mid (by rfl) _ _ rfl (w.heap.size + 1) 0 rfl (bv (sub q 0 32)) _ (fun W' hW' => range_sub ((hW'.block _ sb1_V2).trans gb1_V2.out)) (Tryd.underlying23) rfl (by rw [bv_len, Hq0.out]; kernel_rfl)) hHeld ?_
  try simp only [pu]
  refine wpAnyH_take (i := 7) (oi := ⟨(some 40), _, _, _, _, _⟩) (v := ?vqV2_3_7) rfl (by kernel_rfl) (by kernel_rfl) (by kernel_rfl) (fun _ _ _ h => h) (Or.inl ⟨by rfl, ?yqV2_3_7⟩) hHeld ?_
  case yqV2_3_7 => (intro W0 hSw; go_simp; try with_reducible rfl)
  try simp only [pu]
  refine wpAnyH_take (i := 8) (oi := ⟨(some 41), _, _, _, _, _⟩) (v := _) rfl (by kernel_rfl) (by kernel_rfl) (by kernel_rfl) (fun _ _ _ h => h) (yieldsIf_load_mid (by rfl) _ _ rfl (w.heap.size + 1) 32 rfl (bv (sub q 32 32)) _ (fun W' hW' => range_sub ((hW'.block _ sb1_V2).trans gb1_V2.out)) (Tryd.underlying23) rfl (by rw [bv_len, Hq1.out]; kernel_rfl)) hHeld ?_
  try simp only [pu]
  refine mix_start (B := V2.heap.size) (al := [⟨11, 9, 23, ((bv z32)).toArray⟩]) (fuel := 4) rfl hHeld (hHeld.size) ?_
  clear hHeld
  refine mix_call (i := 4) (o := ⟨(some 37), _, _, _, _, _⟩) rfl (by kernel_rfl) (by kernel_rfl) (by kernel_rfl) (by kernel_rfl) (fun x hx => by simp only [List.mem_cons, List.not_mem_nil, or_false] at hx; rcases hx with rfl <;> first | exact makes_new rfl rfl rfl rfl zero_word) (fun W x _ h => h.alloc h.size _) (fun _ _ _ _ _ h => h) (fun X12 hHeld hBX K hK => ?_)
  go_simp
  refine (fadd_any _ (sub p 0 32) (sub p 32 32) (Hp0.out) (Hp1.out)).mono ?_
  rintro e W12 ⟨v37, rfl, e37, h37, hb12⟩
  refine hK.out _ _ (below_next hHeld hHeld.size hb12) hb12 ?_
  clear hK K hHeld hBX hb12
  try simp only [pu]
  refine mix_call (i := 9) (o := ⟨(some 42), _, _, _, _, _⟩) rfl (by kernel_rfl) (by kernel_rfl) (by kernel_rfl) (by kernel_rfl) (fun x hx => by simp only [List.mem_cons, List.not_mem_nil, or_false] at hx; rcases hx with rfl <;> first | exact makes_new rfl rfl rfl rfl zero_word) (fun W x _ h => h.alloc h.size _) (fun _ _ _ _ _ h => h) (fun X13 hHeld hBX K hK => ?_)
  go_simp
  refine (fadd_any _ (sub q 0 32) (sub q 32 32) (Hq0.out) (Hq1.out)).mono ?_
  rintro e W13 ⟨v42, rfl, e42, h42, hb13⟩
  refine hK.out _ _ (below_next hHeld hHeld.size hb13) hb13 ?_
  clear hK K hHeld hBX hb13
  try simp only [pu]
  refine mix_call (i := 10) (o := ⟨(some 43), _, _, _, _, _⟩) rfl (by kernel_rfl) (by kernel_rfl) (by kernel_rfl) (by kernel_rfl) (fun x hx => by simp only [List.mem_cons, List.not_mem_nil, or_false] at hx; rcases hx with rfl <;> first | exact makes_new rfl rfl rfl rfl zero_word) (fun W x _ h => h.alloc h.size _) (fun _ _ _ _ _ h => h) (fun X14 hHeld hBX K hK => ?_)
  go_simp
  refine (fmul_any _ v37 v42 (h37.out) (h42.out)).mono ?_
  rintro e W14 ⟨v43, rfl, e43, h43, hb14⟩
  refine hK.out _ _ (below_next hHeld hHeld.size hb14) hb14 ?_
  clear hK K hHeld hBX hb14
  try simp only [pu]
  refine mix_end (by kernel_rfl) (by kernel_rfl) (by simp) (by simp) (fun x hx => by simp only [List.mem_cons, List.not_mem_nil, or_false] at hx; rcases hx with rfl <;> first | exact makes_new rfl rfl rfl rfl zero_word) (fun W x _ h => h.alloc h.size _) (fun D hD W15 hHeld hBX hHo => ?_)
  obtain ⟨G9, rfl⟩ := v_one hD
  have xG9 : Hid (W15.heap[G9]? = some (.cells ((bv z32)).toArray 23 (0, 0))) := hHo.row (⟨11, 9, 23, ((bv z32)).toArray⟩, G9) (by simp)
  have lG9 : V2.heap.size ≤ G9 := hHo.new (⟨11, 9, 23, ((bv z32)).toArray⟩, G9) (by simp)
  clear hHo hBX hD
  simp only [markD, putD, List.foldr_cons, List.foldr_nil, pu, List.setIfInBounds_toArray, List.set_cons_zero, List.set_cons_succ]
  refine wpAnyH_ready (rs := [12]) (by kernel_rfl) (by simp) ?_
  refine AllReadyH.cons (i := 12) (o := ⟨none, _, _, _, _, _⟩) rfl (fun K hK => ?_) AllReadyH.nil
  refine step_row (by rfl) 23 (.tmp 9) (.tmp 43) rfl G9 (bv v43) rfl rfl 23 _ xG9.out (by rw [bv_len, h43.out]; kernel_rfl) (by rw [List.size_toArray, bv_len, bv_len, h43.out, z32_len]) (bv_one _) ?_
  intro W16 yG9 kG9
  refine hK.out _ _ (But.below hHeld kG9 lG9 hHeld.size) (fun hHeld => ?_)
  clear hK K kG9 xG9
  have xG9 := yG9
  clear yG9
  try simp only [pu]
  refine wpAnyH_done (by kernel_rfl) ?_ _
  obtain ⟨V3, rV3⟩ : ∃ X, X = W16 := ⟨_, rfl⟩
  subst rV3
  have gb0_V3 := row_next2 gb0_V2 hHeld
  have sb0_V3 := row_size gb0_V3
  have gb1_V3 := row_next2 gb1_V2 hHeld
  have sb1_V3 := row_size gb1_V3
  have gb2_V3 := row_next2 gb2_V2 hHeld
  have sb2_V3 := row_size gb2_V3
  have gn5_V3 := row_next2 gn5_V2 hHeld
  have sn5_V3 := row_size gn5_V3
  have gn6_V3 := row_next2 gn6_V2 hHeld
  have sn6_V3 := row_size gn6_V3
  have gn7_V3 := row_next2 gn7_V2 hHeld
  have sn7_V3 := row_size gn7_V3
  have gn8_V3 := row_next2 gn8_V2 hHeld
  have sn8_V3 := row_size gn8_V3
  have hb_V3 := below_next hb_V2 hb_V2.size hHeld
  have hlaV3 := hlaV2.next hHeld
  have gn9_V3 := xG9
  have sn9_V3 := row_size gn9_V3
  clear xG9
  have wG9 : w.heap.size + 3 ≤ G9 := by omega
  have nG5G9 : G5 ≠ G9 := by omega
  have nG6G9 : G6 ≠ G9 := by omega
  have nG7G9 : G7 ≠ G9 := by omega
  have nG8G9 : G8 ≠ G9 := by omega
  clear hHeld hb_V2 sb0_V2 sb1_V2 sb2_V2 sn5_V2 sn6_V2 sn7_V2 sn8_V2
  clear gb0_V2 gb1_V2 gb2_V2 gn5_V2 gn6_V2 gn7_V2 gn8_V2 hlaV2 lG9
  go_upto_region 4 with fail
  refine plain_start (S := fun W' => Below V3.heap.size V3 W') (by kernel_rfl) (Below.refl _ _) (fun hHeld => ?_)
  refine wpAnyH_take (i := 0) (oi := ⟨(some 44), _, _, _, _, _⟩) (v := _) rfl (by kernel_rfl) (by kernel_rfl) (by kernel_rfl) (fun _ _ _ h => h) (yieldsIf_load_mid (by rfl) _ _ rfl G5 0 rfl (bv v15) _ (fun W' hW' => range_row ((hW'.block _ sn5_V3).trans gn5_V3.out)) (Tryd.underlying23) rfl (by rw [bv_len, h15.out]; kernel_rfl)) hHeld ?_
  try simp only [pu]
  refine wpAnyH_take (i := 1) (oi := ⟨(some 45), _, _, _, _, _⟩) (v := _) rfl (by kernel_rfl) (by kernel_rfl) (by kernel_rfl) (fun _ _ _ h => h) (yieldsIf_load_mid (by rfl) _ _ rfl G6 0 rfl (bv v20) _ (fun W' hW' => range_row ((hW'.block _ sn6_V3).trans gn6_V3.out)) (Tryd.underlying23) rfl (by rw [bv_len, h20.out]; kernel_rfl)) hHeld ?_
  try simp only [pu]
  refine mix_start (B := V3.heap.size) (al := [⟨3, 10, 23, ((bv z32)).toArray⟩]) (fuel := 2) rfl hHeld (hHeld.size) ?_
  clear hHeld
  refine mix_call (i := 2) (o := ⟨(some 46), _, _, _, _, _⟩) rfl (by kernel_rfl) (by kernel_rfl) (by kernel_rfl) (by kernel_rfl) (fun x hx => by simp only [List.mem_cons, List.not_mem_nil, or_false] at hx; rcases hx with rfl <;> first | exact makes_new rfl rfl rfl rfl zero_word) (fun W x _ h => h.alloc h.size _) (fun _ _ _ _ _ h => h) (fun X17 hHeld hBX K hK => ?_)
  go_simp
  refine (fadd_any _ v15 v20 (h15.out) (h20.out)).mono ?_
  rintro e W17 ⟨v46, rfl, e46, h46, hb17⟩
  refine hK.out _ _ (below_next hHeld hHeld.size hb17) hb17 ?_
  clear hK K hHeld hBX hb17
  try simp only [pu]
  refine mix_end (by kernel_rfl) (by kernel_rfl) (by simp) (by simp) (fun x hx => by simp only [List.mem_cons, List.not_mem_nil, or_false] at hx; rcases hx with rfl <;> first | exact makes_new rfl rfl rfl rfl zero_word) (fun W x _ h => h.alloc h.size _) (fun D hD W18 hHeld hBX hHo => ?_)
  obtain ⟨G10, rfl⟩ := v_one hD
  have xG10 : Hid (W18.heap[G10]? = some (.cells ((bv z32)).toArray 23 (0, 0))) := hHo.row (⟨3, 10, 23, ((bv z32)).toArray⟩, G10) (by simp)
  have lG10 : V3.heap.size ≤ G10 := hHo.new (⟨3, 10, 23, ((bv z32)).toArray⟩, G10) (by simp)
  clear hHo hBX hD
  simp only [markD, putD, List.foldr_cons, List.foldr_nil, pu, List.setIfInBounds_toArray, List.set_cons_zero, List.set_cons_succ]
  refine wpAnyH_ready (rs := [4]) (by kernel_rfl) (by simp) ?_
  refine AllReadyH.cons (i := 4) (o := ⟨none, _, _, _, _, _⟩) rfl (fun K hK => ?_) AllReadyH.nil
  refine step_row (by rfl) 23 (.tmp 10) (.tmp 46) rfl G10 (bv v46) rfl rfl 23 _ xG10.out (by rw [bv_len, h46.out]; kernel_rfl) (by rw [List.size_toArray, bv_len, bv_len, h46.out, z32_len]) (bv_one _) ?_
  intro W19 yG10 kG10
  refine hK.out _ _ (But.below hHeld kG10 lG10 hHeld.size) (fun hHeld => ?_)
  clear hK K kG10 xG10
  have xG10 := yG10
  clear yG10
  try simp only [pu]
  refine wpAnyH_done (by kernel_rfl) ?_ _
  obtain ⟨V4, rV4⟩ : ∃ X, X = W19 := ⟨_, rfl⟩
  subst rV4
  have gb0_V4 := row_next2 gb0_V3 hHeld
  have sb0_V4 := row_size gb0_V4
  have gb1_V4 := row_next2 gb1_V3 hHeld
  have sb1_V4 := row_size gb1_V4
  have gb2_V4 := row_next2 gb2_V3 hHeld
  have sb2_V4 := row_size gb2_V4
  have gn5_V4 := row_next2 gn5_V3 hHeld
  have sn5_V4 := row_size gn5_V4
  have gn6_V4 := row_next2 gn6_V3 hHeld
  have sn6_V4 := row_size gn6_V4
  have gn7_V4 := row_next2 gn7_V3 hHeld
  have sn7_V4 := row_size gn7_V4
  have gn8_V4 := row_next2 gn8_V3 hHeld
  have sn8_V4 := row_size gn8_V4
  have gn9_V4 := row_next2 gn9_V3 hHeld
  have sn9_V4 := row_size gn9_V4
  have hb_V4 := below_next hb_V3 hb_V3.size hHeld
  have hlaV4 := hlaV3.next hHeld
  have gn10_V4 := xG10
  have sn10_V4 := row_size gn10_V4
  clear xG10
  have wG10 : w.heap.size + 3 ≤ G10 := by omega
  have nG5G10 : G5 ≠ G10 := by omega
  have nG6G10 : G6 ≠ G10 := by omega
  have nG7G10 : G7 ≠ G10 := by omega
  have nG8G10 : G8 ≠ G10 := by omega
  have nG9G10 : G9 ≠ G10 := by omega
  clear hHeld hb_V3 sb0_V3 sb1_V3 sb2_V3 sn5_V3 sn6_V3 sn7_V3 sn8_V3 sn9_V3
  clear gb0_V3 gb1_V3 gb2_V3 gn5_V3 gn6_V3 gn7_V3 gn8_V3 gn9_V3 hlaV3 lG10
  go_upto_region 5 with fail
  refine c_start (S := fun W' => Below V4.heap.size V4 W') 11 (by kernel_rfl) ((Below.refl _ _).drew) (fun hHeld => ?_)
  refine c_read (i := 0) (oi := ⟨(some 47), _, _, _, _, _⟩) (v := _) rfl (by decide) (by kernel_rfl) (by kernel_rfl) (by kernel_rfl) (by kernel_rfl) (by kernel_rfl) (fun _ _ _ h => h) (yieldsIf_load_mid (by rfl) _ _ rfl G9 0 rfl (bv v43) _ (fun W' hW' => range_row ((hW'.block _ sn9_V4).trans gn9_V4.out)) (Tryd.underlying23) rfl (by rw [bv_len, h43.out]; kernel_rfl)) hHeld ?_
  try simp only [pu]
  refine c_read (i := 1) (oi := ⟨(some 48), _, _, _, _, _⟩) (v := _) rfl (by decide) (by kernel_rfl) (by kernel_rfl) (by kernel_rfl) (by kernel_rfl) (by kernel_rfl) (fun _ _ _ h => h) (yieldsIf_load_mid (by rfl) _ _ rfl G10 0 rfl (bv v46) _ (fun W' hW' => range_row ((hW'.block _ sn10_V4).trans gn10_V4.out)) (Tryd.underlying23) rfl (by rw [bv_len, h46.out]; kernel_rfl)) hHeld ?_
  try simp only [pu]
  refine c_read (i := 3) (oi := ⟨(some 50), _, _, _, _, _⟩) (v := _) rfl (by decide) (by kernel_rfl) (by kernel_rfl) (by kernel_rfl) (by kernel_rfl) (by kernel_rfl) (fun _ _ _ h => h) (yieldsIf_load_mid (by rfl) _ _ rfl G7 0 rfl (bv v25) _ (fun W' hW' => range_row ((hW'.block _ sn7_V4).trans gn7_V4.out)) (Tryd.underlying23) rfl (by rw [bv_len, h25.out]; kernel_rfl)) hHeld ?_
  try simp only [pu]
  refine c_read (i := 4) (oi := ⟨(some 51), _, _, _, _, _⟩) (v := _) rfl (by decide) (by kernel_rfl) (by kernel_rfl) (by kernel_rfl) (by kernel_rfl) (by kernel_rfl) (fun _ _ _ h => h) (yieldsIf_load_mid (by rfl) _ _ rfl G8 0 rfl (bv v32) _ (fun W' hW' => range_row ((hW'.block _ sn8_V4).trans gn8_V4.out)) (Tryd.underlying23) rfl (by rw [bv_len, h32.out]; kernel_rfl)) hHeld ?_
  try simp only [pu]
  refine c_read (i := 6) (oi := ⟨(some 53), _, _, _, _, _⟩) (v := _) rfl (by decide) (by kernel_rfl) (by kernel_rfl) (by kernel_rfl) (by kernel_rfl) (by kernel_rfl) (fun _ _ _ h => h) (yieldsIf_load_mid (by rfl) _ _ rfl G10 0 rfl (bv v46) _ (fun W' hW' => range_row ((hW'.block _ sn10_V4).trans gn10_V4.out)) (Tryd.underlying23) rfl (by rw [bv_len, h46.out]; kernel_rfl)) hHeld ?_
  try simp only [pu]
  refine c_read (i := 7) (oi := ⟨(some 54), _, _, _, _, _⟩) (v := _) rfl (by decide) (by kernel_rfl) (by kernel_rfl) (by kernel_rfl) (by kernel_rfl) (by kernel_rfl) (fun _ _ _ h => h) (yieldsIf_load_mid (by rfl) _ _ rfl G7 0 rfl (bv v25) _ (fun W' hW' => range_row ((hW'.block _ sn7_V4).trans gn7_V4.out)) (Tryd.underlying23) rfl (by rw [bv_len, h25.out]; kernel_rfl)) hHeld ?_
  try simp only [pu]
  refine c_read (i := 8) (oi := ⟨(some 55), _, _, _, _, _⟩) (v := _) rfl (by decide) (by kernel_rfl) (by kernel_rfl) (by kernel_rfl) (by kernel_rfl) (by kernel_rfl) (fun _ _ _ h => h) (yieldsIf_load_mid (by rfl) _ _ rfl G8 0 rfl (bv v32) _ (fun W' hW' => range_row ((hW'.block _ sn8_V4).trans gn8_V4.out)) (Tryd.underlying23) rfl (by rw [bv_len, h32.out]; kernel_rfl)) hHeld ?_
  try simp only [pu]
  refine c_step (i := 2) (o := ⟨(some 49), _, _, _, _, _⟩) (by kernel_rfl) rfl (fun K hK => ?_)
  go_simp
  refine (fsub_any _ v43 v46 (h43.out) (h46.out)).mono ?_
  rintro e W20 ⟨v49, rfl, e49, h49, hb20⟩
  refine hK.out _ _ (below_next hHeld hHeld.size hb20) (fun hHeld => ?_)
  clear hK K hb20
  try simp only [pu]
  refine c_step (i := 5) (o := ⟨(some 52), _, _, _, _, _⟩) (by kernel_rfl) rfl (fun K hK => ?_)
  go_simp
  refine (fadd_any _ v25 v32 (h25.out) (h32.out)).mono ?_
  rintro e W21 ⟨v52, rfl, e52, h52, hb21⟩
  refine hK.out _ _ (below_next hHeld hHeld.size hb21) (fun hHeld => ?_)
  clear hK K hb21
  try simp only [pu]
  refine c_step (i := 9) (o := ⟨(some 56), _, _, _, _, _⟩) (by kernel_rfl) rfl (fun K hK => ?_)
  go_simp
  refine (fsub_any _ v25 v32 (h25.out) (h32.out)).mono ?_
  rintro e W22 ⟨v56, rfl, e56, h56, hb22⟩
  refine hK.out _ _ (below_next hHeld hHeld.size hb22) (fun hHeld => ?_)
  clear hK K hb22
  try simp only [pu]
  refine c_step (i := 10) (o := ⟨(some 57), _, _, _, _, _⟩) (by kernel_rfl) rfl (fun K hK => ?_)
  go_simp
  refine (placeAt_any _ v49 v52 v46 v56 (h49.out) (h52.out) (h46.out) (h56.out)).mono ?_
  rintro e W23 ⟨v57, rfl, e57, h57, hb23⟩
  refine hK.out _ _ (below_next hHeld hHeld.size hb23) (fun hHeld => ?_)
  clear hK K hb23
  try simp only [pu]
  refine c_call (S' := fun _ => True) (o := ⟨none, _, _, _, _, _⟩) (by kernel_rfl) (by kernel_rfl) rfl (fun K hK => ?_)
  have cb0_0 := row_next2 gb0_V4 hHeld
  have cb1_0 := row_next2 gb1_V4 hHeld
  have cb2_0 := row_next2 gb2_V4 hHeld
  have cn5_0 := row_next2 gn5_V4 hHeld
  have cn6_0 := row_next2 gn6_V4 hHeld
  have cn7_0 := row_next2 gn7_V4 hHeld
  have cn8_0 := row_next2 gn8_V4 hHeld
  have cn9_0 := row_next2 gn9_V4 hHeld
  have cn10_0 := row_next2 gn10_V4 hHeld
  have cb_0 := below_next hb_V4 hb_V4.size hHeld
  have cl_0 := hlaV4.next hHeld
  clear hHeld
  refine step_row (by rfl) 64 (.tmp 4) (.tmp 57) rfl (w.heap.size + 2) (bv v57) rfl rfl 64 _ cb2_0.out (by rw [bv_len, h57.out]; kernel_rfl) (by rw [List.size_toArray, bv_len, z128_len, bv_len, h57.out]) (bv_one _) ?_
  intro W24 cb2_1 kR
  refine hK.out _ _ trivial (fun hHeld => ?_)
  have cb0_1 := row_but cb0_0 kR (by omega)
  have cb1_1 := row_but cb1_0 kR (by omega)
  have cn5_1 := row_but cn5_0 kR (by omega)
  have cn6_1 := row_but cn6_0 kR (by omega)
  have cn7_1 := row_but cn7_0 kR (by omega)
  have cn8_1 := row_but cn8_0 kR (by omega)
  have cn9_1 := row_but cn9_0 kR (by omega)
  have cn10_1 := row_but cn10_0 kR (by omega)
  have cb_1 := But.below cb_0 kR (by omega) cb_0.size
  have cl_1 := cl_0.but (by omega) (by omega) kR
  clear hK K kR cb_0 cb0_0 cb1_0 cb2_0 cn5_0 cn6_0 cn7_0 cn8_0 cn9_0 cn10_0 cl_0
  try simp only [pu]
  refine wpAnyH_done (by kernel_rfl) ?_ _
  obtain ⟨V5, rV5⟩ : ∃ X, X = W24 := ⟨_, rfl⟩
  subst rV5
  have gb0_V5 := cb0_1
  have sb0_V5 := row_size gb0_V5
  have gb1_V5 := cb1_1
  have sb1_V5 := row_size gb1_V5
  have gb2_V5 := cb2_1
  have sb2_V5 := row_size gb2_V5
  have gn5_V5 := cn5_1
  have sn5_V5 := row_size gn5_V5
  have gn6_V5 := cn6_1
  have sn6_V5 := row_size gn6_V5
  have gn7_V5 := cn7_1
  have sn7_V5 := row_size gn7_V5
  have gn8_V5 := cn8_1
  have sn8_V5 := row_size gn8_V5
  have gn9_V5 := cn9_1
  have sn9_V5 := row_size gn9_V5
  have gn10_V5 := cn10_1
  have sn10_V5 := row_size gn10_V5
  have hb_V5 := cb_1
  have hlaV5 := cl_1
  clear hHeld cb_1 hb_V4 cl_1 hlaV4 cb0_1 cb1_1 cb2_1 cn5_1 cn6_1 cn7_1 cn8_1 cn9_1 cn10_1 sb0_V4 sb1_V4 sb2_V4 sn5_V4 sn6_V4 sn7_V4 sn8_V4 sn9_V4 sn10_V4 gb0_V4 gb1_V4 gb2_V4 gn5_V4 gn6_V4 gn7_V4 gn8_V4 gn9_V4 gn10_V4
  have HF := vlt (show PlE v57 (addE P Q) by
    obtain ⟨a, b, c, d, hp, la, lb, lc, ld, ea, eb, ec, ed⟩ := e57.out
    refine plE_four hp la lb lc ld ?_ (addE_on HP.out.on HQ.out.on)
    rw [ea, eb, ec, ed]
    exact rep_plus HP.out.on HQ.out.on HP.out.rep HQ.out.rep e15.out.1 e20.out.1 e25.out.1 (by rw [e32.out.1, e31.out.1, bendL_is]) (by rw [e43.out.1, e37.out.1, e42.out.1]) e46.out.1 e49.out.1 e52.out.1 e56.out.1)
  go_wp2_with fail
  refine bodyPost_ret (v := .agg (bv v57).toArray) (results_cell_row Tryd.results36 _ _ (w.heap.size + 2) 64 _ (0, 0) _ rfl gb2_V5.out Tryd.underlying64 rfl (by rw [List.size_toArray, bv_len, h57.out]; kernel_rfl)) rfl ⟨v57, rfl, HF, h57, hb_V5⟩
end Go.Proofs.YtcefdcjpddohaaaDoor
namespace Go.Proofs.YtcefdcjpddohaaaDoor
open Go.RowKit

def z2048 : List UInt8 := List.replicate 2048 0
theorem z2048_len : z2048.length = 2048 := List.length_replicate
def rows0 : List UInt8 := zP ++ List.replicate 1920 0
theorem rows0_len : rows0.length = 2048 := by rw [rows0, List.length_append, zP_len, List.length_replicate]
theorem rows0_zero : sub rows0 0 128 = zP := by
  rw [sub, List.drop_zero, rows0, List.take_left' zP_len]
set_option maxRecDepth 100000 in
theorem zero_rows (w : World) : (zeroValue 87).run Tryd.prog w = .ok (.agg (bv z2048).toArray) w := by kernel_rfl
set_option maxRecDepth 100000 in
theorem built_rows : Tryd.prog.built 87 [(0, .agg (bv zP).toArray)] = some (bv rows0).toArray := by kernel_rfl
/-- The rows so far. -/
def MuRow (rs : List UInt8) (P : PtE) (k : Nat) : Prop := ∀ j, j ≤ k → PlE (sub rs (j * 128) 128) (mulE j P)
def laidAt (rs : List UInt8) (o : Nat) (v : List UInt8) : List UInt8 := rs.take o ++ (v ++ rs.drop (o + v.length))
theorem laidAt_len (rs v : List UInt8) (o : Nat) (h : o + v.length ≤ rs.length) : (laidAt rs o v).length = rs.length := by simp [laidAt]; omega
theorem laidAt_same (rs v : List UInt8) (o : Nat) (h : o + v.length ≤ rs.length) : sub (laidAt rs o v) o v.length = v := by
  have hl : (rs.take o).length = o := by rw [List.length_take]; omega
  rw [sub, laidAt, List.drop_left' hl, List.take_left']
  rfl
theorem laidAt_other (rs v : List UInt8) (o p n : Nat) (h : o + v.length ≤ rs.length) (hp : p + n ≤ o) : sub (laidAt rs o v) p n = sub rs p n := by
  have hl : (rs.take o).length = o := by rw [List.length_take]; omega
  rw [sub, sub, laidAt, List.drop_append_of_le_length (by omega), List.take_append_of_le_length (by rw [List.length_drop, hl]; omega), List.drop_take, List.take_take]
  congr 1
  omega
theorem MuRow.next {rs v : List UInt8} {P : PtE} {k : Nat} (h : MuRow rs P k) (hl : rs.length = 2048) (hk : k < 15) (hv : v.length = 128) (hP : PlE v (addE (mulE k P) P)) : MuRow (laidAt rs ((k + 1) * 128) v) P (k + 1) := by
  intro j hj
  by_cases hjk : j = k + 1
  · subst hjk
    have h1 := laidAt_same rs v ((k + 1) * 128) (by omega)
    rw [hv] at h1
    rw [h1]
    exact hP
  · rw [laidAt_other rs v ((k + 1) * 128) (j * 128) 128 (by omega) (by omega)]
    exact h j (by omega)
set_option maxRecDepth 100000 in
set_option maxHeartbeats 4000000 in
theorem multiples_any (w : World) (hla : LaidP w) (p : List UInt8) {P : PtE} (hp : p.length = 128) (hPl : PlE p P) :
    Calls Tryd.prog 49 #[.agg (bv p).toArray] w fun e w' => ∃ rs, e = .returned (.agg (bv rs).toArray) ∧ Vlt (MuRow rs P 15) ∧ Hid (rs.length = 2048) ∧ Below w.heap.size w w' := by
  have hzr := zero_rows
  obtain ⟨R0, dR0⟩ : ∃ r, r = rows0 := ⟨_, rfl⟩
  have HR0 := Lib.hid (show R0.length = 2048 by rw [dR0]; exact rows0_len)
  have hM0 := vlt (show MuRow R0 P 0 by
    intro j hj
    obtain rfl : j = 0 := by omega
    rw [dR0, Nat.zero_mul, rows0_zero]; exact zP_is)
  have dR := vlt dR0
  have HP := vlt hPl
  obtain ⟨ZR, dZ⟩ : ∃ r, r = z2048 := ⟨_, rfl⟩
  have HZR := Lib.hid (show ZR.length = 2048 by rw [dZ]; exact z2048_len)
  rw [← dZ] at hzr
  clear hPl dR0 dZ
  obtain ⟨V0, hW, gb0_V0, gb1_V0, hb_V0, hsW⟩ := pair_new w (bv p).toArray (bv ZR).toArray 64 87
  have HW := Lib.hid hW
  have Hhp := Lib.hid hp
  have sb0_V0 := row_size gb0_V0
  have sb1_V0 := row_size gb1_V0
  have hlaV0 := hla.next hb_V0
  have gl1 := hla.size
  have gl2 := hla.turn.2
  clear hla
  clear hW hsW hp
  go_enter Tryd.func49, Tryd.ntmps49
  go_upto_region 1 with fail
  rw [HW.out]
  refine plain_start (S := fun W' => Below V0.heap.size V0 W') (by kernel_rfl) (Below.refl _ _) (fun hHeld => ?_)
  refine mix_start (B := V0.heap.size) (al := [⟨2, 3, 87, ((bv ZR)).toArray⟩]) (fuel := 3) rfl hHeld (hHeld.size) ?_
  clear hHeld
  refine mix_call (i := 0) (o := ⟨(some 5), _, _, _, _, _⟩) rfl (by kernel_rfl) (by kernel_rfl) (by kernel_rfl) (by kernel_rfl) (fun x hx => by simp only [List.mem_cons, List.not_mem_nil, or_false] at hx; rcases hx with rfl <;> first | exact makes_new rfl rfl rfl rfl hzr) (fun W x _ h => h.alloc h.size _) (fun _ _ _ _ _ h => h) (fun X1 hHeld hBX K hK => ?_)
  go_simp
  refine (zeroPlace_any _  ).mono ?_
  rintro e W1 ⟨v5, rfl, e5, h5, hb1⟩
  refine hK.out _ _ (below_next hHeld hHeld.size hb1) hb1 ?_
  clear hK K hHeld hBX hb1
  try simp only [pu]
  have hbR := built_rows
  rw [← e5.out, ← dR.out] at hbR
  refine mix_take (i := 1) (o := ⟨(some 6), _, _, _, _, _⟩) (v := _) rfl (by kernel_rfl) (by kernel_rfl) (by kernel_rfl) (by kernel_rfl) (by kernel_rfl) (fun _ _ _ h => h) (yields_build (by rfl) _ _ rfl [(0, .agg (bv v5).toArray)] (by rfl) _ hbR) ?_
  try simp only [pu]
  refine mix_end (by kernel_rfl) (by kernel_rfl) (by simp) (by simp) (fun x hx => by simp only [List.mem_cons, List.not_mem_nil, or_false] at hx; rcases hx with rfl <;> first | exact makes_new rfl rfl rfl rfl hzr) (fun W x _ h => h.alloc h.size _) (fun D hD W2 hHeld hBX hHo => ?_)
  obtain ⟨G3, rfl⟩ := v_one hD
  have xG3 : Hid (W2.heap[G3]? = some (.cells ((bv ZR)).toArray 87 (0, 0))) := hHo.row (⟨2, 3, 87, ((bv ZR)).toArray⟩, G3) (by simp)
  have lG3 : V0.heap.size ≤ G3 := hHo.new (⟨2, 3, 87, ((bv ZR)).toArray⟩, G3) (by simp)
  clear hHo hBX hD
  simp only [markD, putD, List.foldr_cons, List.foldr_nil, pu, List.setIfInBounds_toArray, List.set_cons_zero, List.set_cons_succ]
  refine wpAnyH_ready (rs := [3]) (by kernel_rfl) (by simp) ?_
  refine AllReadyH.cons (i := 3) (o := ⟨none, _, _, _, _, _⟩) rfl (fun K hK => ?_) AllReadyH.nil
  refine step_row (by rfl) 87 (.tmp 3) (.tmp 6) rfl G3 (bv R0) rfl rfl 87 _ xG3.out (by rw [bv_len, HR0.out]; kernel_rfl) (by rw [List.size_toArray, bv_len, bv_len, HR0.out, HZR.out]) (bv_one _) ?_
  intro W3 yG3 kG3
  refine hK.out _ _ (But.below hHeld kG3 lG3 hHeld.size) (fun hHeld => ?_)
  clear hK K kG3 xG3
  have xG3 := yG3
  clear yG3
  try simp only [pu]
  refine wpAnyH_done (by kernel_rfl) ?_ _
  obtain ⟨V1, rV1⟩ : ∃ X, X = W3 := ⟨_, rfl⟩
  subst rV1
  have gb0_V1 := row_next2 gb0_V0 hHeld
  have sb0_V1 := row_size gb0_V1
  have gb1_V1 := row_next2 gb1_V0 hHeld
  have sb1_V1 := row_size gb1_V1
  have hb_V1 := below_next hb_V0 hb_V0.size hHeld
  have hlaV1 := hlaV0.next hHeld
  have gn3_V1 := xG3
  have sn3_V1 := row_size gn3_V1
  clear xG3
  have wG3 : w.heap.size + 2 ≤ G3 := by omega
  clear hHeld hb_V0 sb0_V0 sb1_V0
  clear gb0_V0 gb1_V0 hlaV0 lG3
  clear e5 hbR dR
  have HG := hb_V1.size
  clear HW
  go_wp2_with fail
  go_loopw [4, 9] (fun u s wr => ∃ (k : Nat) (rs : List UInt8), k ≤ 15 ∧ s = .int .i64 (k : Int) ∧ Hid (wr.heap[G3]? = some (.cells (bv rs).toArray 87 (0, 0))) ∧ Hid (rs.length = 2048) ∧ Vlt (MuRow rs P k) ∧ But G3 V1 wr) (fun u s _ => 16 - (intOf s).toNat)
  case atStart => exact ⟨0, R0, by omega, rfl, gn3_V1, HR0, hM0, But.refl _ _⟩
  case round =>
    obtain ⟨k, rs, hk, rfl, hg, hl, hM, hbt⟩ := hrel
    by_cases hlt : k < 15
    · have sG := row_size hg
      have g0 := row_but gb0_V1 hbt (by omega)
      have s0 := row_size g0
      have hla1 := hlaV1.but (by omega) (by omega) hbt
      have q1 : (0 : Int) ≤ (k : Int) + 1 := by omega
      have q2 : (k : Int) + 1 < 16 := by omega
      have q3 : ((k : Int) + 1).toNat = k + 1 := by omega
      have q4 : IntKind.i64.wrap ((k : Int) + 1) = (k : Int) + 1 := IntWalk.i64_in _ (by omega)
      have q5 : (k : Int) < 16 := by omega
      have HS := Lib.hid (sub_len rs (k * 128) 128 (by rw [hl.out]; omega))
      have HK := vlt (hM.out k (Nat.le_refl _))
      go_upto_region 5 with fail
      refine c_start (S := fun W' => Below wr.heap.size wr W') 8 (by kernel_rfl) ((Below.refl _ _).drew) (fun hHeld => ?_)
      refine c_take (i := 0) (oi := ⟨(some 12), _, _, _, _, _⟩) (v := ?vh2_0) rfl (by decide) (by kernel_rfl) (by kernel_rfl) (by kernel_rfl) (fun _ _ _ h => h) (Or.inl ⟨by rfl, ?yh2_0⟩) hHeld ?_
      case yh2_0 => (intro W0 hSw; go_simp; try with_reducible rfl)
      try simp only [pu]
      refine c_take (i := 1) (oi := ⟨(some 13), _, _, _, _, _⟩) (v := ?vh2_1) rfl (by decide) (by kernel_rfl) (by kernel_rfl) (by kernel_rfl) (fun _ _ _ h => h) (Or.inl ⟨by rfl, ?yh2_1⟩) hHeld ?_
      case yh2_1 => (intro W0 hSw; go_simp; try with_reducible rfl)
      try simp only [pu]
      refine c_take (i := 2) (oi := ⟨(some 14), _, _, _, _, _⟩) (v := ?vh2_2) rfl (by decide) (by kernel_rfl) (by kernel_rfl) (by kernel_rfl) (fun _ _ _ h => h) (Or.inl ⟨by rfl, ?yh2_2⟩) hHeld ?_
      case yh2_2 => (intro W0 hSw; go_simp; try with_reducible rfl)
      try simp only [pu]
      refine c_take (i := 3) (oi := ⟨(some 15), _, _, _, _, _⟩) (v := .pointer (some ⟨G3, k * 128, none⟩)) rfl (by decide) (by kernel_rfl) (by kernel_rfl) (by kernel_rfl) (fun _ _ _ h => h) (Or.inl ⟨by rfl, ?yh2_3⟩) hHeld ?_
      case yh2_3 => (intro W0 hSw; go_simp; try omega)
      try simp only [pu]
      refine c_read (i := 4) (oi := ⟨(some 16), _, _, _, _, _⟩) (v := _) rfl (by decide) (by kernel_rfl) (by kernel_rfl) (by kernel_rfl) (by kernel_rfl) (by kernel_rfl) (fun _ _ _ h => h) (yieldsIf_load_mid (by rfl) _ _ rfl G3 (k * 128) rfl (bv (sub rs (k * 128) 128)) _ (fun W' hW' => range_sub ((hW'.block _ sG).trans hg.out)) (Tryd.underlying64) rfl (by rw [bv_len, HS.out]; kernel_rfl)) hHeld ?_
      try simp only [pu]
      refine c_read (i := 5) (oi := ⟨(some 17), _, _, _, _, _⟩) (v := _) rfl (by decide) (by kernel_rfl) (by kernel_rfl) (by kernel_rfl) (by kernel_rfl) (by kernel_rfl) (fun _ _ _ h => h) (yieldsIf_load_mid (by rfl) _ _ rfl w.heap.size 0 rfl (bv p) _ (fun W' hW' => range_row ((hW'.block _ s0).trans g0.out)) (Tryd.underlying64) rfl (by rw [bv_len, Hhp.out]; kernel_rfl)) hHeld ?_
      try simp only [pu]
      refine c_step (i := 6) (o := ⟨(some 18), _, _, _, _, _⟩) (by kernel_rfl) rfl (fun K hK => ?_)
      go_simp
      refine (pplus_any _ (hla1.next hHeld) (sub rs (k * 128) 128) p HS.out HK.out Hhp.out HP.out).mono ?_
      rintro e W4 ⟨v18, rfl, e18, h18, hb18⟩
      refine hK.out _ _ (below_next hHeld hHeld.size hb18) (fun hHeld => ?_)
      clear hK K hb18
      try simp only [pu]
      refine c_take (i := 7) (oi := ⟨(some 19), _, _, _, _, _⟩) (v := .pointer (some ⟨G3, (k + 1) * 128, none⟩)) rfl (by decide) (by kernel_rfl) (by kernel_rfl) (by kernel_rfl) (fun _ _ _ h => h) (Or.inl ⟨by rfl, ?yh2_7⟩) hHeld ?_
      case yh2_7 => (intro W0 hSw; go_simp; try omega)
      try simp only [pu]
      refine c_call (S' := fun _ => True) (o := ⟨none, _, _, _, _, _⟩) (by kernel_rfl) (by kernel_rfl) rfl (fun K hK => ?_)
      have zg := row_next2 hg hHeld
      have zb := hbt.trans (But.of_below (g := G3) hHeld (Nat.le_refl _))
      clear hHeld
      refine step_store_mid (by rfl) 64 (.tmp 19) (.tmp 18) rfl G3 ((k + 1) * 128) (bv v18) rfl rfl (bv rs) _ zg.out (by rw [bv_len, bv_len, hl.out, h18.out]; omega) (by rw [bv_len, h18.out]; kernel_rfl) (bv_one _) V1 zb ?_
      intro W9 hn hbn
      refine hK.out _ _ trivial (fun _ => ?_)
      clear hK K zg zb
      try simp only [pu]
      refine wpAnyH_done (by kernel_rfl) ?_ _
      rw [splice_bv] at hn
      have HL := Lib.hid (show (laidAt rs ((k + 1) * 128) v18).length = 2048 by rw [laidAt_len _ _ _ (by rw [hl.out, h18.out]; omega), hl.out])
      have HN := vlt (hM.out.next hl.out hlt h18.out e18.out)
      go_wp2
      go_roundw
      case rel => exact ⟨k + 1, laidAt rs ((k + 1) * 128) v18, by omega, by go_num, hn, HL, HN, hbn⟩
      case measure => simp [intOf]; omega
    · obtain rfl : k = 15 := by omega
      have sG := row_size hg
      have g1 := row_but gb1_V1 hbt (by omega)
      have hbw := But.below hb_V1 hbt (by omega) hb_V1.size
      go_wp2_with (first
        | (with_reducible refine wpList_load_row rfl 87 (.tmp 3) rfl G3 rfl 87 (bv rs).toArray (0, 0) _ hg.out Tryd.underlying87 rfl (by rw [List.size_toArray, bv_len, hl.out]; kernel_rfl) ?_)
        | (with_reducible refine wpList_store_row rfl 87 (.tmp 2) (.tmp 21) rfl (w.heap.size + 1) (bv rs).toArray rfl rfl 87 _ g1.out (by rw [List.size_toArray, bv_len, hl.out]; kernel_rfl) (by rw [List.size_toArray, List.size_toArray, bv_len, bv_len, hl.out, HZR.out]) (all_oneCell_toArray (bv_one _)) ?_))
      refine bodyPost_ret (v := .agg (bv rs).toArray) (results_cell_row Tryd.results49 _ _ (w.heap.size + 1) 87 _ (0, 0) _ rfl (setRow_heap _ _ _ _ _ _ g1.out) Tryd.underlying87 rfl (by rw [List.size_toArray, bv_len, hl.out]; kernel_rfl)) rfl ⟨rs, rfl, hM, hl, below_setRow hbw (by omega) _⟩
end Go.Proofs.YtcefdcjpddohaaaDoor
