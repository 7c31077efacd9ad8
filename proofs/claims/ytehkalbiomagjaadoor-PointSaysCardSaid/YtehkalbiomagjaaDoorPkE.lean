/-
  Words and contracts that other texts share, several in one text. No statement of the seat is proved here. Conditions: as each contract says.
  Contract of point's acrossFrom: the even x at y, or none. Conditions: the packages' own numbers lie as the program's text lays them.
  Contract of point's read: the numbers of the point that bytes are, or none. Conditions: the packages' own numbers lie as the program's text lays them.
  Contracts of point's placeOf, Good, Neg, At, Add. Conditions: the packages' own numbers lie as the program's text lays them.
  Contracts of point's times, Mul. Conditions: the packages' own numbers lie as the program's text lays them.
  Contracts of point's Mul, Zero, Base. Conditions: Mul's: the packages' own numbers lie as the program's text lays them.
  Digits of bytes: no statement is proved here. Conditions: none.
  Contract of the document's own answer for chapter 1, fourth part: Hex. Conditions: the slice is shorter than 2^45 bytes.
  Contracts of law 9's times, sum, awake: it returns true. Conditions: the packages' own numbers lie as the program's text lays them.
-/
import Derived.Test.YtehkalbiomagjaaDoorPkD
import Derived.Test.YtehkalbiomagjaaDoorPkA
import Derived.LoopTactic
import Derived.Laws.Shifts
import Derived.Laws.ShiftsVar
import Derived.Laws.BitsAllLaws
namespace Go.Proofs.YtehkalbiomagjaaDoor
open Go.RowKit

theorem results_rows_tmp {P : Program} {fn : Func} {p q u : Tmp} {ty ty2 : TypeId} (h : fn.results = #[.cell p ty, .cell q ty2, .tmp u]) (tmps : Array Value) (w : World)
    (g : Nat) (t : TypeId) (cs : Array Value) (fr : Nat × Nat) (d : TypeDesc) (hp : tmps.getD p undef = .pointer (some ⟨g, 0, none⟩)) (hg : w.heap[g]? = some (.cells cs t fr))
    (hu : P.underlying ty = some d) (hd : (match d with | .struct _ | .array _ _ => true | _ => false) = true) (hi : (P.info? ty).map (·.size) = some cs.size)
    (g2 : Nat) (t2 : TypeId) (cs2 : Array Value) (fr2 : Nat × Nat) (d2 : TypeDesc) (hp2 : tmps.getD q undef = .pointer (some ⟨g2, 0, none⟩)) (hg2 : w.heap[g2]? = some (.cells cs2 t2 fr2))
    (hu2 : P.underlying ty2 = some d2) (hd2 : (match d2 with | .struct _ | .array _ _ => true | _ => false) = true) (hi2 : (P.info? ty2).map (·.size) = some cs2.size) (v : Value) (hv : tmps.getD u undef = v) :
    (results fn tmps).run P w = .ok (.tuple #[.agg cs, .agg cs2, v]) w := by
  have hp' : tmps[p]?.getD undef = .pointer (some ⟨g, 0, none⟩) := by simpa using hp
  have hq' : tmps[q]?.getD undef = .pointer (some ⟨g2, 0, none⟩) := by simpa using hp2
  have hv' : tmps[u]?.getD undef = v := by simpa using hv
  simp [results, h, hp', hq', hv', asAddr, run_loadVar_row w g t ty cs fr d hg hu hd hi, run_loadVar_row w g2 t2 ty2 cs2 fr2 d2 hg2 hu2 hd2 hi2, Sem.run_bind, Result.andThen]
theorem across_is (y s u r : List UInt8) (m v : List UInt8) (es : cW s = cW y * cW y) (eb : cW v = cW bendL * cW s) (eu : cW u = cW v + 1) (em : cW m = (cW s - 1) * ivF (cW u)) (er : cW r = cW m) : cW r = uE (cW y) := by
  rw [er, em, eu, eb, es, bendL_is]; rfl
set_option maxRecDepth 100000 in
set_option maxHeartbeats 4000000 in
theorem across_any (w : World) (hla : LaidP w) (y : List UInt8) (hy : y.length = 32) :
    Calls Tryd.prog 66 #[.agg (bv y).toArray] w fun e w' => ∃ l ok, e = .returned (.tuple #[.agg (bv l).toArray, .bool ok]) ∧
      Vlt ((ok = true → cW l * cW l = uE (cW y) ∧ ln l % 2 = 0 ∧ ln l < FP) ∧ (ok = false → l = z32 ∧ ∀ x : Fin FP, x * x ≠ uE (cW y))) ∧ Hid (l.length = 32) ∧ Below w.heap.size w w' := by
  have hzw := zero_word
  obtain ⟨ONE, dONE, HONE⟩ := hides one32 one32_len
  have hb1 := built_one32
  rw [← dONE] at hb1
  have H1 := vlt (show cW ONE = 1 by rw [dONE]; exact one32_is)
  clear dONE
  obtain ⟨V0, hW, gb0_V0, gb1_V0, hb_V0, hsW⟩ := pair_new w (bv y).toArray (bv z32).toArray 23 23
  have HW := Lib.hid hW
  have Hhy := Lib.hid hy
  have sb0_V0 := row_size gb0_V0
  have sb1_V0 := row_size gb1_V0
  have hlaV0 := hla.next hb_V0
  have gl1 := hla.size
  have gl2 := hla.turn.2
  clear hla
  clear hW hsW hy
  go_enter Tryd.func66, Tryd.ntmps66
  go_upto_region 1 with fail
  rw [HW.out]
  refine plain_start (S := fun W' => Below V0.heap.size V0 W') (by kernel_rfl) (Below.refl _ _) (fun hHeld => ?_)
  refine wpAnyH_take (i := 0) (oi := ⟨(some 7), _, _, _, _, _⟩) (v := _) rfl (by kernel_rfl) (by kernel_rfl) (by kernel_rfl) (fun _ _ _ h => h) (yields_build (by rfl) _ _ rfl [(0, .int .u8 1)] (by rfl) _ hb1) hHeld ?_
  try simp only [pu]
  refine mix_start (B := V0.heap.size) (al := [⟨1, 4, 23, ((bv z32)).toArray⟩]) (fuel := 1) rfl hHeld (hHeld.size) ?_
  clear hHeld
  refine mix_end (by kernel_rfl) (by kernel_rfl) (by simp) (by simp) (fun x hx => by simp only [List.mem_cons, List.not_mem_nil, or_false] at hx; rcases hx with rfl <;> first | exact makes_new rfl rfl rfl rfl zero_word) (fun W x _ h => h.alloc h.size _) (fun D hD W1 hHeld hBX hHo => ?_)
  obtain ⟨G4, rfl⟩ := v_one hD
  have xG4 : Hid (W1.heap[G4]? = some (.cells ((bv z32)).toArray 23 (0, 0))) := hHo.row (⟨1, 4, 23, ((bv z32)).toArray⟩, G4) (by simp)
  have lG4 : V0.heap.size ≤ G4 := hHo.new (⟨1, 4, 23, ((bv z32)).toArray⟩, G4) (by simp)
  clear hHo hBX hD
  simp only [markD, putD, List.foldr_cons, List.foldr_nil, pu, List.setIfInBounds_toArray, List.set_cons_zero, List.set_cons_succ]
  refine wpAnyH_ready (rs := [2]) (by kernel_rfl) (by simp) ?_
  refine AllReadyH.cons (i := 2) (o := ⟨none, _, _, _, _, _⟩) rfl (fun K hK => ?_) AllReadyH.nil
  refine step_row (by rfl) 23 (.tmp 4) (.tmp 7) rfl G4 (bv ONE) rfl rfl 23 _ xG4.out (by rw [bv_len, HONE.out]; kernel_rfl) (by rw [List.size_toArray, bv_len, bv_len, HONE.out, z32_len]) (bv_one _) ?_
  intro W2 yG4 kG4
  refine hK.out _ _ (But.below hHeld kG4 lG4 hHeld.size) (fun hHeld => ?_)
  clear hK K kG4 xG4
  have xG4 := yG4
  clear yG4
  try simp only [pu]
  refine wpAnyH_done (by kernel_rfl) ?_ _
  obtain ⟨V1, rV1⟩ : ∃ X, X = W2 := ⟨_, rfl⟩
  subst rV1
  have gb0_V1 := row_next2 gb0_V0 hHeld
  have sb0_V1 := row_size gb0_V1
  have gb1_V1 := row_next2 gb1_V0 hHeld
  have sb1_V1 := row_size gb1_V1
  have hb_V1 := below_next hb_V0 hb_V0.size hHeld
  have hlaV1 := hlaV0.next hHeld
  have gn4_V1 := xG4
  have sn4_V1 := row_size gn4_V1
  clear xG4
  have wG4 : w.heap.size + 2 ≤ G4 := by omega
  clear hHeld hb_V0 sb0_V0 sb1_V0
  clear gb0_V0 gb1_V0 hlaV0 lG4
  go_upto_region 2 with fail
  refine plain_start (S := fun W' => Below V1.heap.size V1 W') (by kernel_rfl) (Below.refl _ _) (fun hHeld => ?_)
  refine wpAnyH_take (i := 0) (oi := ⟨(some 8), _, _, _, _, _⟩) (v := _) rfl (by kernel_rfl) (by kernel_rfl) (by kernel_rfl) (fun _ _ _ h => h) (yieldsIf_load_mid (by rfl) _ _ rfl (w.heap.size) 0 rfl (bv y) _ (fun W' hW' => range_row ((hW'.block _ sb0_V1).trans gb0_V1.out)) (Tryd.underlying23) rfl (by rw [bv_len, Hhy.out]; kernel_rfl)) hHeld ?_
  try simp only [pu]
  refine wpAnyH_take (i := 1) (oi := ⟨(some 9), _, _, _, _, _⟩) (v := _) rfl (by kernel_rfl) (by kernel_rfl) (by kernel_rfl) (fun _ _ _ h => h) (yieldsIf_load_mid (by rfl) _ _ rfl (w.heap.size) 0 rfl (bv y) _ (fun W' hW' => range_row ((hW'.block _ sb0_V1).trans gb0_V1.out)) (Tryd.underlying23) rfl (by rw [bv_len, Hhy.out]; kernel_rfl)) hHeld ?_
  try simp only [pu]
  refine mix_start (B := V1.heap.size) (al := [⟨3, 5, 23, ((bv z32)).toArray⟩]) (fuel := 2) rfl hHeld (hHeld.size) ?_
  clear hHeld
  refine mix_call (i := 2) (o := ⟨(some 10), _, _, _, _, _⟩) rfl (by kernel_rfl) (by kernel_rfl) (by kernel_rfl) (by kernel_rfl) (fun x hx => by simp only [List.mem_cons, List.not_mem_nil, or_false] at hx; rcases hx with rfl <;> first | exact makes_new rfl rfl rfl rfl zero_word) (fun W x _ h => h.alloc h.size _) (fun _ _ _ _ _ h => h) (fun X3 hHeld hBX K hK => ?_)
  go_simp
  refine (fmul_any _ y y (Hhy.out) (Hhy.out)).mono ?_
  rintro e W3 ⟨v10, rfl, e10, h10, hb3⟩
  refine hK.out _ _ (below_next hHeld hHeld.size hb3) hb3 ?_
  clear hK K hHeld hBX hb3
  try simp only [pu]
  refine mix_end (by kernel_rfl) (by kernel_rfl) (by simp) (by simp) (fun x hx => by simp only [List.mem_cons, List.not_mem_nil, or_false] at hx; rcases hx with rfl <;> first | exact makes_new rfl rfl rfl rfl zero_word) (fun W x _ h => h.alloc h.size _) (fun D hD W4 hHeld hBX hHo => ?_)
  obtain ⟨G5, rfl⟩ := v_one hD
  have xG5 : Hid (W4.heap[G5]? = some (.cells ((bv z32)).toArray 23 (0, 0))) := hHo.row (⟨3, 5, 23, ((bv z32)).toArray⟩, G5) (by simp)
  have lG5 : V1.heap.size ≤ G5 := hHo.new (⟨3, 5, 23, ((bv z32)).toArray⟩, G5) (by simp)
  clear hHo hBX hD
  simp only [markD, putD, List.foldr_cons, List.foldr_nil, pu, List.setIfInBounds_toArray, List.set_cons_zero, List.set_cons_succ]
  refine wpAnyH_ready (rs := [4]) (by kernel_rfl) (by simp) ?_
  refine AllReadyH.cons (i := 4) (o := ⟨none, _, _, _, _, _⟩) rfl (fun K hK => ?_) AllReadyH.nil
  refine step_row (by rfl) 23 (.tmp 5) (.tmp 10) rfl G5 (bv v10) rfl rfl 23 _ xG5.out (by rw [bv_len, h10.out]; kernel_rfl) (by rw [List.size_toArray, bv_len, bv_len, h10.out, z32_len]) (bv_one _) ?_
  intro W5 yG5 kG5
  refine hK.out _ _ (But.below hHeld kG5 lG5 hHeld.size) (fun hHeld => ?_)
  clear hK K kG5 xG5
  have xG5 := yG5
  clear yG5
  try simp only [pu]
  refine wpAnyH_done (by kernel_rfl) ?_ _
  obtain ⟨V2, rV2⟩ : ∃ X, X = W5 := ⟨_, rfl⟩
  subst rV2
  have gb0_V2 := row_next2 gb0_V1 hHeld
  have sb0_V2 := row_size gb0_V2
  have gb1_V2 := row_next2 gb1_V1 hHeld
  have sb1_V2 := row_size gb1_V2
  have gn4_V2 := row_next2 gn4_V1 hHeld
  have sn4_V2 := row_size gn4_V2
  have hb_V2 := below_next hb_V1 hb_V1.size hHeld
  have hlaV2 := hlaV1.next hHeld
  have gn5_V2 := xG5
  have sn5_V2 := row_size gn5_V2
  clear xG5
  have wG5 : w.heap.size + 2 ≤ G5 := by omega
  have nG4G5 : G4 ≠ G5 := by omega
  clear hHeld hb_V1 sb0_V1 sb1_V1 sn4_V1
  clear gb0_V1 gb1_V1 gn4_V1 hlaV1 lG5
  go_upto_region 3 with fail
  refine wp_region_held_drew (S := fun W' => Below V2.heap.size V2 W') (by kernel_rfl) ((Below.refl _ _).drew) (fun hHeld => ?_)
  refine wpAnyH_take (i := 0) (oi := ⟨(some 11), _, _, _, _, _⟩) (v := _) rfl (by kernel_rfl) (by kernel_rfl) (by kernel_rfl) (fun _ _ _ h => h) (yieldsIf_load_mid (by rfl) _ _ rfl 0 0 rfl (bv bendL) _ (fun W' hW' => ((hlaV2.next hW')).range) (Tryd.underlying23) rfl (by kernel_rfl)) hHeld ?_
  try simp only [pu]
  refine wpAnyH_take (i := 1) (oi := ⟨(some 12), _, _, _, _, _⟩) (v := _) rfl (by kernel_rfl) (by kernel_rfl) (by kernel_rfl) (fun _ _ _ h => h) (yieldsIf_load_mid (by rfl) _ _ rfl G5 0 rfl (bv v10) _ (fun W' hW' => range_row ((hW'.block _ sn5_V2).trans gn5_V2.out)) (Tryd.underlying23) rfl (by rw [bv_len, h10.out]; kernel_rfl)) hHeld ?_
  try simp only [pu]
  refine wpAnyH_take (i := 3) (oi := ⟨(some 14), _, _, _, _, _⟩) (v := _) rfl (by kernel_rfl) (by kernel_rfl) (by kernel_rfl) (fun _ _ _ h => h) (yieldsIf_load_mid (by rfl) _ _ rfl G4 0 rfl (bv ONE) _ (fun W' hW' => range_row ((hW'.block _ sn4_V2).trans gn4_V2.out)) (Tryd.underlying23) rfl (by rw [bv_len, HONE.out]; kernel_rfl)) hHeld ?_
  try simp only [pu]
  refine mix_start (B := V2.heap.size) (al := [⟨5, 6, 23, ((bv z32)).toArray⟩]) (fuel := 3) rfl hHeld (hHeld.size) ?_
  clear hHeld
  refine mix_call (i := 2) (o := ⟨(some 13), _, _, _, _, _⟩) rfl (by kernel_rfl) (by kernel_rfl) (by kernel_rfl) (by kernel_rfl) (fun x hx => by simp only [List.mem_cons, List.not_mem_nil, or_false] at hx; rcases hx with rfl <;> first | exact makes_new rfl rfl rfl rfl zero_word) (fun W x _ h => h.alloc h.size _) (fun _ _ _ _ _ h => h) (fun X6 hHeld hBX K hK => ?_)
  go_simp
  refine (fmul_any _ bendL v10 (bendL_len) (h10.out)).mono ?_
  rintro e W6 ⟨v13, rfl, e13, h13, hb6⟩
  refine hK.out _ _ (below_next hHeld hHeld.size hb6) hb6 ?_
  clear hK K hHeld hBX hb6
  try simp only [pu]
  refine mix_call (i := 4) (o := ⟨(some 15), _, _, _, _, _⟩) rfl (by kernel_rfl) (by kernel_rfl) (by kernel_rfl) (by kernel_rfl) (fun x hx => by simp only [List.mem_cons, List.not_mem_nil, or_false] at hx; rcases hx with rfl <;> first | exact makes_new rfl rfl rfl rfl zero_word) (fun W x _ h => h.alloc h.size _) (fun _ _ _ _ _ h => h) (fun X7 hHeld hBX K hK => ?_)
  go_simp
  refine (fadd_any _ v13 ONE (h13.out) (HONE.out)).mono ?_
  rintro e W7 ⟨v15, rfl, e15, h15, hb7⟩
  refine hK.out _ _ (below_next hHeld hHeld.size hb7) hb7 ?_
  clear hK K hHeld hBX hb7
  try simp only [pu]
  refine mix_end (by kernel_rfl) (by kernel_rfl) (by simp) (by simp) (fun x hx => by simp only [List.mem_cons, List.not_mem_nil, or_false] at hx; rcases hx with rfl <;> first | exact makes_new rfl rfl rfl rfl zero_word) (fun W x _ h => h.alloc h.size _) (fun D hD W8 hHeld hBX hHo => ?_)
  obtain ⟨G6, rfl⟩ := v_one hD
  have xG6 : Hid (W8.heap[G6]? = some (.cells ((bv z32)).toArray 23 (0, 0))) := hHo.row (⟨5, 6, 23, ((bv z32)).toArray⟩, G6) (by simp)
  have lG6 : V2.heap.size ≤ G6 := hHo.new (⟨5, 6, 23, ((bv z32)).toArray⟩, G6) (by simp)
  clear hHo hBX hD
  simp only [markD, putD, List.foldr_cons, List.foldr_nil, pu, List.setIfInBounds_toArray, List.set_cons_zero, List.set_cons_succ]
  refine wpAnyH_ready (rs := [6]) (by kernel_rfl) (by simp) ?_
  refine AllReadyH.cons (i := 6) (o := ⟨none, _, _, _, _, _⟩) rfl (fun K hK => ?_) AllReadyH.nil
  refine step_row (by rfl) 23 (.tmp 6) (.tmp 15) rfl G6 (bv v15) rfl rfl 23 _ xG6.out (by rw [bv_len, h15.out]; kernel_rfl) (by rw [List.size_toArray, bv_len, bv_len, h15.out, z32_len]) (bv_one _) ?_
  intro W9 yG6 kG6
  refine hK.out _ _ (But.below hHeld kG6 lG6 hHeld.size) (fun hHeld => ?_)
  clear hK K kG6 xG6
  have xG6 := yG6
  clear yG6
  try simp only [pu]
  refine wpAnyH_done (by kernel_rfl) ?_ _
  obtain ⟨V3, rV3⟩ : ∃ X, X = W9 := ⟨_, rfl⟩
  subst rV3
  have gb0_V3 := row_next2 gb0_V2 hHeld
  have sb0_V3 := row_size gb0_V3
  have gb1_V3 := row_next2 gb1_V2 hHeld
  have sb1_V3 := row_size gb1_V3
  have gn4_V3 := row_next2 gn4_V2 hHeld
  have sn4_V3 := row_size gn4_V3
  have gn5_V3 := row_next2 gn5_V2 hHeld
  have sn5_V3 := row_size gn5_V3
  have hb_V3 := below_next hb_V2 hb_V2.size hHeld
  have hlaV3 := hlaV2.next hHeld
  have gn6_V3 := xG6
  have sn6_V3 := row_size gn6_V3
  clear xG6
  have wG6 : w.heap.size + 2 ≤ G6 := by omega
  have nG4G6 : G4 ≠ G6 := by omega
  have nG5G6 : G5 ≠ G6 := by omega
  clear hHeld hb_V2 sb0_V2 sb1_V2 sn4_V2 sn5_V2
  clear gb0_V2 gb1_V2 gn4_V2 gn5_V2 hlaV2 lG6
  go_upto_region 4 with fail
  refine c_start (S := fun W' => Below V3.heap.size V3 W') 9 (by kernel_rfl) ((Below.refl _ _).drew) (fun hHeld => ?_)
  refine c_read (i := 0) (oi := ⟨(some 16), _, _, _, _, _⟩) (v := _) rfl (by decide) (by kernel_rfl) (by kernel_rfl) (by kernel_rfl) (by kernel_rfl) (by kernel_rfl) (fun _ _ _ h => h) (yieldsIf_load_mid (by rfl) _ _ rfl G5 0 rfl (bv v10) _ (fun W' hW' => range_row ((hW'.block _ sn5_V3).trans gn5_V3.out)) (Tryd.underlying23) rfl (by rw [bv_len, h10.out]; kernel_rfl)) hHeld ?_
  try simp only [pu]
  refine c_read (i := 1) (oi := ⟨(some 17), _, _, _, _, _⟩) (v := _) rfl (by decide) (by kernel_rfl) (by kernel_rfl) (by kernel_rfl) (by kernel_rfl) (by kernel_rfl) (fun _ _ _ h => h) (yieldsIf_load_mid (by rfl) _ _ rfl G4 0 rfl (bv ONE) _ (fun W' hW' => range_row ((hW'.block _ sn4_V3).trans gn4_V3.out)) (Tryd.underlying23) rfl (by rw [bv_len, HONE.out]; kernel_rfl)) hHeld ?_
  try simp only [pu]
  refine c_read (i := 3) (oi := ⟨(some 19), _, _, _, _, _⟩) (v := _) rfl (by decide) (by kernel_rfl) (by kernel_rfl) (by kernel_rfl) (by kernel_rfl) (by kernel_rfl) (fun _ _ _ h => h) (yieldsIf_load_mid (by rfl) _ _ rfl G6 0 rfl (bv v15) _ (fun W' hW' => range_row ((hW'.block _ sn6_V3).trans gn6_V3.out)) (Tryd.underlying23) rfl (by rw [bv_len, h15.out]; kernel_rfl)) hHeld ?_
  try simp only [pu]
  refine c_step (i := 2) (o := ⟨(some 18), _, _, _, _, _⟩) (by kernel_rfl) rfl (fun K hK => ?_)
  go_simp
  refine (fsub_any _ v10 ONE (h10.out) (HONE.out)).mono ?_
  rintro e W10 ⟨v18, rfl, e18, h18, hb10⟩
  refine hK.out _ _ (below_next hHeld hHeld.size hb10) (fun hHeld => ?_)
  clear hK K hb10
  try simp only [pu]
  refine c_step (i := 4) (o := ⟨(some 20), _, _, _, _, _⟩) (by kernel_rfl) rfl (fun K hK => ?_)
  go_simp
  refine (finv_any _ v15 (h15.out)).mono ?_
  rintro e W11 ⟨v20, rfl, e20, h20, hb11⟩
  refine hK.out _ _ (below_next hHeld hHeld.size hb11) (fun hHeld => ?_)
  clear hK K hb11
  try simp only [pu]
  refine c_step (i := 5) (o := ⟨(some 21), _, _, _, _, _⟩) (by kernel_rfl) rfl (fun K hK => ?_)
  go_simp
  refine (fmul_any _ v18 v20 (h18.out) (h20.out)).mono ?_
  rintro e W12 ⟨v21, rfl, e21, h21, hb12⟩
  refine hK.out _ _ (below_next hHeld hHeld.size hb12) (fun hHeld => ?_)
  clear hK K hb12
  try simp only [pu]
  refine c_step (i := 6) (o := ⟨(some 22), _, _, _, _, _⟩) (by kernel_rfl) rfl (fun K hK => ?_)
  go_simp
  refine (froot_any _ (hlaV3.next hHeld) v21 (h21.out) (vlt (e21.out).2)).mono ?_
  rintro e W13 ⟨v22, o22, rfl, e22, h22, hb13⟩
  refine hK.out _ _ (below_next hHeld hHeld.size hb13) (fun hHeld => ?_)
  clear hK K hb13
  try simp only [pu]
  refine c_take (i := 7) (oi := ⟨(some 23), _, _, _, _, _⟩) (v := .agg (bv v22).toArray) rfl (by decide) (by kernel_rfl) (by kernel_rfl) (by kernel_rfl) (fun _ _ _ h => h) (Or.inl ⟨by rfl, ?yqV3_4_7⟩) hHeld ?_
  case yqV3_4_7 => (intro W0 hSw; go_simp; try with_reducible rfl)
  try simp only [pu]
  refine c_take (i := 8) (oi := ⟨(some 24), _, _, _, _, _⟩) (v := .bool o22) rfl (by decide) (by kernel_rfl) (by kernel_rfl) (by kernel_rfl) (fun _ _ _ h => h) (Or.inl ⟨by rfl, ?yqV3_4_8⟩) hHeld ?_
  case yqV3_4_8 => (intro W0 hSw; go_simp; try with_reducible rfl)
  try simp only [pu]
  refine c_call (S' := fun _ => True) (o := ⟨none, _, _, _, _, _⟩) (by kernel_rfl) (by kernel_rfl) rfl (fun K hK => ?_)
  have cb0_0 := row_next2 gb0_V3 hHeld
  have cb1_0 := row_next2 gb1_V3 hHeld
  have cn4_0 := row_next2 gn4_V3 hHeld
  have cn5_0 := row_next2 gn5_V3 hHeld
  have cn6_0 := row_next2 gn6_V3 hHeld
  have cb_0 := below_next hb_V3 hb_V3.size hHeld
  have cl_0 := hlaV3.next hHeld
  clear hHeld
  refine step_row (by rfl) 23 (.tmp 2) (.tmp 23) rfl (w.heap.size + 1) (bv v22) rfl rfl 23 _ cb1_0.out (by rw [bv_len, h22.out]; kernel_rfl) (by rw [List.size_toArray, bv_len, z32_len, bv_len, h22.out]) (bv_one _) ?_
  intro W14 cb1_1 kR
  refine hK.out _ _ trivial (fun hHeld => ?_)
  have cb0_1 := row_but cb0_0 kR (by omega)
  have cn4_1 := row_but cn4_0 kR (by omega)
  have cn5_1 := row_but cn5_0 kR (by omega)
  have cn6_1 := row_but cn6_0 kR (by omega)
  have cb_1 := But.below cb_0 kR (by omega) cb_0.size
  have cl_1 := cl_0.but (by omega) (by omega) kR
  clear hK K kR cb_0 cb0_0 cb1_0 cn4_0 cn5_0 cn6_0 cl_0
  try simp only [pu]
  refine wpAnyH_take (i := 10) (oi := ⟨(some 3), _, _, _, _, _⟩) (v := ?vqV3_4_10) rfl (by kernel_rfl) (by kernel_rfl) (by kernel_rfl) (fun _ _ _ h => h) (Or.inl ⟨by rfl, ?yqV3_4_10⟩) hHeld ?_
  case yqV3_4_10 => (intro W0 hSw; go_simp; try with_reducible rfl)
  try simp only [pu]
  refine wpAnyH_done (by kernel_rfl) ?_ _
  obtain ⟨V4, rV4⟩ : ∃ X, X = W14 := ⟨_, rfl⟩
  subst rV4
  have gb0_V4 := cb0_1
  have sb0_V4 := row_size gb0_V4
  have gb1_V4 := cb1_1
  have sb1_V4 := row_size gb1_V4
  have gn4_V4 := cn4_1
  have sn4_V4 := row_size gn4_V4
  have gn5_V4 := cn5_1
  have sn5_V4 := row_size gn5_V4
  have gn6_V4 := cn6_1
  have sn6_V4 := row_size gn6_V4
  have hb_V4 := cb_1
  have hlaV4 := cl_1
  clear hHeld cb_1 hb_V3 cl_1 hlaV3 cb0_1 cb1_1 cn4_1 cn5_1 cn6_1 sb0_V3 sb1_V3 sn4_V3 sn5_V3 sn6_V3 gb0_V3 gb1_V3 gn4_V3 gn5_V3 gn6_V3
  have HF := vlt (show (o22 = true → cW v22 * cW v22 = uE (cW y) ∧ ln v22 % 2 = 0 ∧ ln v22 < FP) ∧ (o22 = false → v22 = z32 ∧ ∀ x : Fin FP, x * x ≠ uE (cW y)) by
    have h := across_is y v10 v15 v21 v21 v13 e10.out.1 e13.out.1 (by rw [e15.out.1, H1.out]) (by rw [e21.out.1, e18.out.1, e20.out.1, H1.out]) rfl
    rw [← h]
    exact e22.out)
  go_wp2_with fail
  refine bodyPost_ret (v := .tuple #[.agg (bv v22).toArray, .bool o22]) (results_row_tmp Tryd.results66 _ _ (w.heap.size + 1) 23 _ (0, 0) _ rfl gb1_V4.out Tryd.underlying23 rfl (by rw [List.size_toArray, bv_len, h22.out]; kernel_rfl) _ rfl) rfl ⟨v22, o22, rfl, HF, h22, hb_V4⟩
end Go.Proofs.YtehkalbiomagjaaDoor
namespace Go.Proofs.YtehkalbiomagjaaDoor
open Go.RowKit

/-- What read tells. -/
def RdIs (a x y : List UInt8) (ok : Bool) : Prop := (ok = true → ln x < FP ∧ ln y < FP ∧ PtIs a (some (cW x, cW y))) ∧ (ok = false → x = z32 ∧ y = z32 ∧ PtIs a none)
theorem apart_is (m : List UInt8) (b r s : Nat) (h : m.length = 31) (hb : b < 256) (hr : r = b % 128) (hs : s = b / 128) :
    yW (m ++ [UInt8.ofNat b]) = ln (m ++ [UInt8.ofNat r]) ∧ sW (m ++ [UInt8.ofNat b]) = s := by
  have h1 := ln_31 m h
  rw [yW, sW, ln_last m b h hb, ln_last m r h (by omega)]
  rw [show (57896044618658097711785492504343953926634992332820282019728792003956564819968 : Nat) = 256 ^ 31 * 128 by decide]
  generalize 256 ^ 31 = M at *
  have e : ln m + M * b = (ln m + M * r) + M * 128 * s := by
    have : b = r + 128 * s := by omega
    rw [this, Nat.mul_add, Nat.mul_assoc]; omega
  have h2 : ln m + M * r < M * 128 := by
    have : M * r ≤ M * 127 := Nat.mul_le_mul_left M (by omega)
    omega
  rw [e, Nat.add_mul_mod_self_left, Nat.mod_eq_of_lt h2]
  refine ⟨rfl, ?_⟩
  have hM : 0 < M * 128 := by omega
  rw [Nat.add_mul_div_left _ _ hM, Nat.div_eq_of_lt h2, Nat.zero_add]
theorem good_iff (z : List UInt8) (h : z.length = 32) : wo (ln z) = z ↔ ln z < FP := by
  refine ⟨fun e => ?_, fun e => wo_ln z h e⟩
  rw [← e]; exact cW_lt _
/-- The number found, with the sign asked for, or not. -/
theorem read_yes {a z x : List UInt8} {s : Nat} (ha : a.length = 32) (hy : yW a = ln z) (hs : sW a = s) (hz : ln z < FP) (hx : ln x < FP) (hu : cW x * cW x = uE (cW z)) (hp : ln x % 2 = s) : RdIs a x z true := by
  refine ⟨fun _ => ⟨hx, hz, ?_⟩, fun h => by cases h⟩
  have h := dec_some (w := a) ha (by rw [hy]; exact hz) (r := ln x) hx (by rw [hy]; exact hu) (by rw [hs, hp])
  rw [hy] at h
  exact h
theorem read_no {a z l x : List UInt8} (hy : yW a = ln z) (hs : sW a = 1) (hl : ln l % 2 = 0) (hll : ln l < FP) (hu : cW l * cW l = uE (cW z)) (hx : cW x = 0 - cW l) (hxl : ln x < FP) (hp : ¬ ln x % 2 = 1) : RdIs a z32 z32 false := by
  refine ⟨fun h => (by cases h), fun _ => ⟨rfl, rfl, dec_nought ?_ hs⟩⟩
  rw [hy]
  show uE (cW z) = 0
  rw [← hu]
  have h0 : ln l = 0 := by
    by_cases h : ln l = 0
    · exact h
    · exfalso
      have h1 : ln x = FP - ln l := by
        have h2 : cF (ln x) = cF (FP - ln l) := by
          have h3 : cF (FP - ln l) + cF (ln l) = 0 := by rw [← cF_add, cF_nz, show FP - ln l + ln l = FP by omega, Nat.mod_self]
          have h4 : cF (ln x) = 0 - cF (ln l) := hx
          rw [h4]; grind
        rw [cF_eq, Nat.mod_eq_of_lt hxl, Nat.mod_eq_of_lt (by omega)] at h2
        exact h2
      have h2 : FP % 2 = 1 := by decide
      omega
  have : cW l = 0 := by rw [cW, h0]; rfl
  rw [this]; grind
theorem neg_root {l x z : List UInt8} (hu : cW l * cW l = uE (cW z)) (hx : cW x = 0 - cW l) : cW x * cW x = uE (cW z) := by rw [← hu, hx]; grind
theorem and_low (b r : Nat) (hb : b < 256) (hr : r = b % 128) : bits .and .u8 (b : Int) 127 = (r : Int) := by
  have h : ∀ b < 256, bits .and .u8 ((b : Nat) : Int) 127 = ((b % 128 : Nat) : Int) := by decide +kernel
  rw [hr]; exact h b hb
set_option maxRecDepth 100000 in
set_option maxHeartbeats 4000000 in
theorem read_any (w : World) (hla : LaidP w) (a : List UInt8) (ha : a.length = 32) :
    Calls Tryd.prog 38 #[.agg (bv a).toArray] w fun e w' => ∃ x y ok, e = .returned (.tuple #[.agg (bv x).toArray, .agg (bv y).toArray, .bool ok]) ∧ Vlt (RdIs a x y ok) ∧ Hid (x.length = 32) ∧ Hid (y.length = 32) ∧ Below w.heap.size w w' := by
  have hzw := zero_word
  have hbz := built_z32
  obtain ⟨m, b, ham, hm, hb⟩ := last_apart a ha
  obtain ⟨r, hr⟩ : ∃ r, r = b % 128 := ⟨_, rfl⟩
  obtain ⟨s, hs⟩ : ∃ s, s = b / 128 := ⟨_, rfl⟩
  have e2 := and_low b r hb hr
  have e1 : (b : Int) / 128 = (s : Int) := by omega
  have hs2 : s < 2 := by omega
  have hr2 : r < 256 := by omega
  obtain ⟨z, hz⟩ : ∃ z, z = m ++ [UInt8.ofNat r] := ⟨_, rfl⟩
  have Hz := Lib.hid (show z.length = 32 by rw [hz]; simp [hm])
  obtain ⟨k1, k2⟩ := apart_is m b r s hm hb hr hs
  rw [← ham, ← hz] at k1
  rw [← ham] at k2
  have HY := vlt k1
  have HS := vlt k2
  have HA := vlt ha
  obtain ⟨V0, hW, gb0_V0, gb1_V0, gb2_V0, hb_V0, hsW⟩ := three_new w (bv a).toArray (bv z32).toArray (bv z32).toArray 23 23 23
  have HW := Lib.hid hW
  have hlaV0 := hla.next hb_V0
  have gl1 := hla.size
  have gl2 := hla.turn.2
  have sb0_V0 := row_size gb0_V0
  have sb1_V0 := row_size gb1_V0
  have sb2_V0 := row_size gb2_V0
  have c31 : V0.cell? ⟨w.heap.size, 31, none⟩ = some (.int .u8 (b : Int)) := by
    have h := byte_cell gb0_V0.out (show a[31]? = some (UInt8.ofNat b) by rw [ham]; exact at_last _ _ hm)
    rwa [UInt8.toNat_ofNat', show (2 : Nat) ^ 8 = 256 by decide, Nat.mod_eq_of_lt hb] at h
  have f31 : V0.frozen? ⟨w.heap.size, 31, none⟩ = false := frozen_of_row _ _ _ _ _ gb0_V0.out
  have hset : Hid ((V0.setCell ⟨w.heap.size, 31, none⟩ (.int .u8 (r : Int))).heap[w.heap.size]? = some (.cells (bv z).toArray 23 (0, 0))) := by
    have h := (world_set_cell gb0_V0.out 31 (.int .u8 (r : Int))).out
    rw [show (Value.int .u8 (r : Int)) = Value.int .u8 ((UInt8.ofNat r).toNat : Int) by rw [UInt8.toNat_ofNat', show (2 : Nat) ^ 8 = 256 by decide, Nat.mod_eq_of_lt hr2], bv_set, ham, set_last _ _ _ hm, ← hz] at h
    rwa [UInt8.toNat_ofNat', show (2 : Nat) ^ 8 = 256 by decide, Nat.mod_eq_of_lt hr2] at h
  clear hz hW hsW ham hm hr hs k1 k2 hla ha hr2
  go_enter Tryd.func38, Tryd.ntmps38
  go_upto_region 1 with fail
  rw [HW.out]
  go_upto_region 3 with fail
  have hbt : But w.heap.size V0 (V0.setCell ⟨w.heap.size, 31, none⟩ (.int .u8 (r : Int))) := (But.refl _ _).set _
  have gb1_V1 := row_but gb1_V0 hbt (by omega)
  have gb2_V1 := row_but gb2_V0 hbt (by omega)
  have hlaV1 := hlaV0.but gl1 gl2 hbt
  generalize V0.setCell ⟨w.heap.size, 31, none⟩ (.int .u8 (r : Int)) = V1 at *
  have gb0_V1 := hset
  have hb_V1 := But.below hb_V0 hbt (by omega) hb_V0.size
  have sb0_V1 := row_size gb0_V1
  have sb1_V1 := row_size gb1_V1
  have sb2_V1 := row_size gb2_V1
  clear gb0_V0 gb1_V0 gb2_V0 sb0_V0 sb1_V0 sb2_V0 c31 f31 hbt hb_V0 hset hlaV0
  refine plain_start (S := fun W' => Below V1.heap.size V1 W') (by kernel_rfl) (Below.refl _ _) (fun hHeld => ?_)
  refine wpAnyH_take (i := 0) (oi := ⟨(some 13), _, _, _, _, _⟩) (v := _) rfl (by kernel_rfl) (by kernel_rfl) (by kernel_rfl) (fun _ _ _ h => h) (yieldsIf_load_mid (by rfl) _ _ rfl (w.heap.size) 0 rfl (bv z) _ (fun W' hW' => range_row ((hW'.block _ sb0_V1).trans gb0_V1.out)) (Tryd.underlying23) rfl (by rw [bv_len, Hz.out]; kernel_rfl)) hHeld ?_
  try simp only [pu]
  refine wpAnyH_ready (rs := [1]) (by kernel_rfl) (by simp) ?_
  refine AllReadyH.cons (i := 1) (o := ⟨(some 14), _, _, _, _, _⟩) rfl (fun K hK => ?_) AllReadyH.nil
  go_simp
  refine (good_any _ z Hz.out).mono ?_
  rintro e W1 ⟨o14, rfl, e14, hb1⟩
  refine hK.out _ _ (below_next hHeld hHeld.size hb1) (fun hHeld => ?_)
  clear hK K hb1
  try simp only [pu]
  refine wpAnyH_take (i := 2) (oi := ⟨(some 15), _, _, _, _, _⟩) (v := ?vqV1_1_2) rfl (by kernel_rfl) (by kernel_rfl) (by kernel_rfl) (fun _ _ _ h => h) (Or.inl ⟨by rfl, ?yqV1_1_2⟩) hHeld ?_
  case yqV1_1_2 => (intro W0 hSw; go_simp; try with_reducible rfl)
  try simp only [pu]
  refine wpAnyH_done (by kernel_rfl) ?_ _
  obtain ⟨V2, rV2⟩ : ∃ X, X = W1 := ⟨_, rfl⟩
  subst rV2
  have gb0_V2 := row_next2 gb0_V1 hHeld
  have sb0_V2 := row_size gb0_V2
  have gb1_V2 := row_next2 gb1_V1 hHeld
  have sb1_V2 := row_size gb1_V2
  have gb2_V2 := row_next2 gb2_V1 hHeld
  have sb2_V2 := row_size gb2_V2
  have hb_V2 := below_next hb_V1 hb_V1.size hHeld
  have hlaV2 := hlaV1.next hHeld
  clear hHeld hb_V1 sb0_V1 sb1_V1 sb2_V1
  clear gb0_V1 gb1_V1 gb2_V1 hlaV1
  rcases o14 with _ | _
  · have HF := vlt (show RdIs a z32 z32 false from ⟨fun h => (by cases h), fun _ => ⟨rfl, rfl, dec_big (by rw [HY.out]; intro h; have h2 := e14.out; rw [decide_eq_true ((good_iff z Hz.out).2 h)] at h2; cases h2)⟩⟩)
    go_upto_region 4 with fail
    refine plain_start_c (S := fun W' => Below V2.heap.size V2 W') 2 (by kernel_rfl) (Below.refl _ _) (fun hHeld => ?_)
    refine c_take (i := 0) (oi := ⟨(some 16), _, _, _, _, _⟩) (v := _) rfl (by decide) (by kernel_rfl) (by kernel_rfl) (by kernel_rfl) (fun _ _ _ h => h) (yields_build (by rfl) _ _ rfl [] (by rfl) _ hbz) hHeld ?_
    try simp only [pu]
    refine c_take (i := 1) (oi := ⟨(some 17), _, _, _, _, _⟩) (v := _) rfl (by decide) (by kernel_rfl) (by kernel_rfl) (by kernel_rfl) (fun _ _ _ h => h) (yields_build (by rfl) _ _ rfl [] (by rfl) _ hbz) hHeld ?_
    try simp only [pu]
    refine c_call (S' := fun _ => True) (o := ⟨none, _, _, _, _, _⟩) (by kernel_rfl) (by kernel_rfl) rfl (fun K hK => ?_)
    have cb0_0 := row_next2 gb0_V2 hHeld
    have cb1_0 := row_next2 gb1_V2 hHeld
    have cb2_0 := row_next2 gb2_V2 hHeld
    have cb_0 := below_next hb_V2 hb_V2.size hHeld
    have cl_0 := hlaV2.next hHeld
    clear hHeld
    refine step_row (by rfl) 23 (.tmp 2) (.tmp 16) rfl (w.heap.size + 1) (bv z32) rfl rfl 23 _ cb1_0.out (by rw [bv_len, z32_len]; kernel_rfl) (by rw [List.size_toArray]) (bv_one _) ?_
    intro W2 cb1_1 kR
    refine hK.out _ _ trivial (fun hHeld => ?_)
    have cb0_1 := row_but cb0_0 kR (by omega)
    have cb2_1 := row_but cb2_0 kR (by omega)
    have cb_1 := But.below cb_0 kR (by omega) cb_0.size
    have cl_1 := cl_0.but (by omega) (by omega) kR
    clear hK K kR cb_0 cb0_0 cb1_0 cb2_0 cl_0
    try simp only [pu]
    refine wpAnyH_ready (rs := [3]) (by kernel_rfl) (by simp) ?_
    refine AllReadyH.cons (i := 3) (o := ⟨none, _, _, _, _, _⟩) rfl (fun K hK => ?_) AllReadyH.nil
    refine step_row (by rfl) 23 (.tmp 3) (.tmp 17) rfl (w.heap.size + 2) (bv z32) rfl rfl 23 _ cb2_1.out (by rw [bv_len, z32_len]; kernel_rfl) (by rw [List.size_toArray]) (bv_one _) ?_
    intro W3 cb2_2 kR
    refine hK.out _ _ trivial (fun hHeld => ?_)
    have cb0_2 := row_but cb0_1 kR (by omega)
    have cb1_2 := row_but cb1_1 kR (by omega)
    have cb_2 := But.below cb_1 kR (by omega) cb_1.size
    have cl_2 := cl_1.but (by omega) (by omega) kR
    clear hK K kR cb_1 cb0_1 cb1_1 cb2_1 cl_1
    try simp only [pu]
    refine wpAnyH_take (i := 4) (oi := ⟨(some 4), _, _, _, _, _⟩) (v := (Value.bool false)) rfl (by kernel_rfl) (by kernel_rfl) (by kernel_rfl) (fun _ _ _ h => h) (Or.inl ⟨by rfl, ?yqV2_2_4⟩) hHeld ?_
    case yqV2_2_4 => (intro W0 hSw; go_simp; try with_reducible rfl)
    try simp only [pu]
    refine wpAnyH_done (by kernel_rfl) ?_ _
    obtain ⟨V3, rV3⟩ : ∃ X, X = W3 := ⟨_, rfl⟩
    subst rV3
    have gb0_V3 := cb0_2
    have sb0_V3 := row_size gb0_V3
    have gb1_V3 := cb1_2
    have sb1_V3 := row_size gb1_V3
    have gb2_V3 := cb2_2
    have sb2_V3 := row_size gb2_V3
    have hb_V3 := cb_2
    have hlaV3 := cl_2
    clear hHeld cb_2 hb_V2 cl_2 hlaV2 cb0_2 cb1_2 cb2_2 sb0_V2 sb1_V2 sb2_V2 gb0_V2 gb1_V2 gb2_V2
    go_wp2_with fail
    refine bodyPost_ret (v := .tuple #[.agg (bv z32).toArray, .agg (bv z32).toArray, .bool false]) (results_rows_tmp Tryd.results38 _ _ (w.heap.size + 1) 23 _ (0, 0) _ rfl gb1_V3.out Tryd.underlying23 rfl (by rw [List.size_toArray, bv_len, z32_len]; kernel_rfl) (w.heap.size + 2) 23 _ (0, 0) _ rfl gb2_V3.out Tryd.underlying23 rfl (by rw [List.size_toArray, bv_len, z32_len]; kernel_rfl) _ rfl) rfl ⟨z32, z32, false, rfl, HF, z32_len, z32_len, hb_V3⟩
  · have HG := vlt ((good_iff z Hz.out).1 (of_decide_eq_true e14.out.symm))
    clear e14
    go_upto_region 5 with fail
    refine plain_start_c (S := fun W' => Below V2.heap.size V2 W') 5 (by kernel_rfl) (Below.refl _ _) (fun hHeld => ?_)
    refine c_read (i := 0) (oi := ⟨(some 19), _, _, _, _, _⟩) (v := _) rfl (by decide) (by kernel_rfl) (by kernel_rfl) (by kernel_rfl) (by kernel_rfl) (by kernel_rfl) (fun _ _ _ h => h) (yieldsIf_load_mid (by rfl) _ _ rfl (w.heap.size) 0 rfl (bv z) _ (fun W' hW' => range_row ((hW'.block _ sb0_V2).trans gb0_V2.out)) (Tryd.underlying23) rfl (by rw [bv_len, Hz.out]; kernel_rfl)) hHeld ?_
    try simp only [pu]
    refine c_step (i := 1) (o := ⟨(some 20), _, _, _, _, _⟩) (by kernel_rfl) rfl (fun K hK => ?_)
    go_simp
    refine (across_any _ (hlaV2.next hHeld) z (Hz.out)).mono ?_
    rintro e W2 ⟨v20, o20, rfl, e20, h20, hb2⟩
    refine hK.out _ _ (below_next hHeld hHeld.size hb2) (fun hHeld => ?_)
    clear hK K hb2
    try simp only [pu]
    refine c_take (i := 2) (oi := ⟨(some 18), _, _, _, _, _⟩) (v := ?vqV2_2_2) rfl (by decide) (by kernel_rfl) (by kernel_rfl) (by kernel_rfl) (fun _ _ _ h => h) (Or.inl ⟨by rfl, ?yqV2_2_2⟩) hHeld ?_
    case yqV2_2_2 => (intro W0 hSw; go_simp; try with_reducible rfl)
    try simp only [pu]
    refine c_take (i := 3) (oi := ⟨(some 21), _, _, _, _, _⟩) (v := .agg (bv v20).toArray) rfl (by decide) (by kernel_rfl) (by kernel_rfl) (by kernel_rfl) (fun _ _ _ h => h) (Or.inl ⟨by rfl, ?yqV2_2_3⟩) hHeld ?_
    case yqV2_2_3 => (intro W0 hSw; go_simp; try with_reducible rfl)
    try simp only [pu]
    refine c_take (i := 4) (oi := ⟨(some 22), _, _, _, _, _⟩) (v := .bool o20) rfl (by decide) (by kernel_rfl) (by kernel_rfl) (by kernel_rfl) (fun _ _ _ h => h) (Or.inl ⟨by rfl, ?yqV2_2_4⟩) hHeld ?_
    case yqV2_2_4 => (intro W0 hSw; go_simp; try with_reducible rfl)
    try simp only [pu]
    refine c_call (S' := fun _ => True) (o := ⟨none, _, _, _, _, _⟩) (by kernel_rfl) (by kernel_rfl) rfl (fun K hK => ?_)
    have cb0_0 := row_next2 gb0_V2 hHeld
    have cb1_0 := row_next2 gb1_V2 hHeld
    have cb2_0 := row_next2 gb2_V2 hHeld
    have cb_0 := below_next hb_V2 hb_V2.size hHeld
    have cl_0 := hlaV2.next hHeld
    clear hHeld
    refine step_row (by rfl) 23 (.tmp 2) (.tmp 21) rfl (w.heap.size + 1) (bv v20) rfl rfl 23 _ cb1_0.out (by rw [bv_len, h20.out]; kernel_rfl) (by rw [List.size_toArray, bv_len, z32_len, bv_len, h20.out]) (bv_one _) ?_
    intro W3 cb1_1 kR
    refine hK.out _ _ trivial (fun hHeld => ?_)
    have cb0_1 := row_but cb0_0 kR (by omega)
    have cb2_1 := row_but cb2_0 kR (by omega)
    have cb_1 := But.below cb_0 kR (by omega) cb_0.size
    have cl_1 := cl_0.but (by omega) (by omega) kR
    clear hK K kR cb_0 cb0_0 cb1_0 cb2_0 cl_0
    try simp only [pu]
    refine wpAnyH_take (i := 6) (oi := ⟨(some 4), _, _, _, _, _⟩) (v := ?vqV2_2_6) rfl (by kernel_rfl) (by kernel_rfl) (by kernel_rfl) (fun _ _ _ h => h) (Or.inl ⟨by rfl, ?yqV2_2_6⟩) hHeld ?_
    case yqV2_2_6 => (intro W0 hSw; go_simp; try with_reducible rfl)
    try simp only [pu]
    refine wpAnyH_done (by kernel_rfl) ?_ _
    obtain ⟨V3, rV3⟩ : ∃ X, X = W3 := ⟨_, rfl⟩
    subst rV3
    have gb0_V3 := cb0_1
    have sb0_V3 := row_size gb0_V3
    have gb1_V3 := cb1_1
    have sb1_V3 := row_size gb1_V3
    have gb2_V3 := cb2_1
    have sb2_V3 := row_size gb2_V3
    have hb_V3 := cb_1
    have hlaV3 := cl_1
    clear hHeld cb_1 hb_V2 cl_1 hlaV2 cb0_1 cb1_1 cb2_1 sb0_V2 sb1_V2 sb2_V2 gb0_V2 gb1_V2 gb2_V2
    rcases o20 with _ | _
    · have HF := vlt (show RdIs a z32 z32 false from ⟨fun h => (by cases h), fun _ => ⟨rfl, rfl, dec_none (by rw [HY.out]; exact (e20.out.2 rfl).2)⟩⟩)
      clear e20
      obtain rfl | rfl : s = 0 ∨ s = 1 := by omega
      · go_upto_region 9 with fail
        refine plain_start_c (S := fun W' => Below V3.heap.size V3 W') 2 (by kernel_rfl) (Below.refl _ _) (fun hHeld => ?_)
        refine c_take (i := 0) (oi := ⟨(some 37), _, _, _, _, _⟩) (v := _) rfl (by decide) (by kernel_rfl) (by kernel_rfl) (by kernel_rfl) (fun _ _ _ h => h) (yields_build (by rfl) _ _ rfl [] (by rfl) _ hbz) hHeld ?_
        try simp only [pu]
        refine c_take (i := 1) (oi := ⟨(some 38), _, _, _, _, _⟩) (v := _) rfl (by decide) (by kernel_rfl) (by kernel_rfl) (by kernel_rfl) (fun _ _ _ h => h) (yields_build (by rfl) _ _ rfl [] (by rfl) _ hbz) hHeld ?_
        try simp only [pu]
        refine c_call (S' := fun _ => True) (o := ⟨none, _, _, _, _, _⟩) (by kernel_rfl) (by kernel_rfl) rfl (fun K hK => ?_)
        have cb0_0 := row_next2 gb0_V3 hHeld
        have cb1_0 := row_next2 gb1_V3 hHeld
        have cb2_0 := row_next2 gb2_V3 hHeld
        have cb_0 := below_next hb_V3 hb_V3.size hHeld
        have cl_0 := hlaV3.next hHeld
        clear hHeld
        refine step_row (by rfl) 23 (.tmp 2) (.tmp 37) rfl (w.heap.size + 1) (bv z32) rfl rfl 23 _ cb1_0.out (by rw [bv_len, z32_len]; kernel_rfl) (by rw [List.size_toArray, bv_len, h20.out, bv_len, z32_len]) (bv_one _) ?_
        intro W4 cb1_1 kR
        refine hK.out _ _ trivial (fun hHeld => ?_)
        have cb0_1 := row_but cb0_0 kR (by omega)
        have cb2_1 := row_but cb2_0 kR (by omega)
        have cb_1 := But.below cb_0 kR (by omega) cb_0.size
        have cl_1 := cl_0.but (by omega) (by omega) kR
        clear hK K kR cb_0 cb0_0 cb1_0 cb2_0 cl_0
        try simp only [pu]
        refine wpAnyH_ready (rs := [3]) (by kernel_rfl) (by simp) ?_
        refine AllReadyH.cons (i := 3) (o := ⟨none, _, _, _, _, _⟩) rfl (fun K hK => ?_) AllReadyH.nil
        refine step_row (by rfl) 23 (.tmp 3) (.tmp 38) rfl (w.heap.size + 2) (bv z32) rfl rfl 23 _ cb2_1.out (by rw [bv_len, z32_len]; kernel_rfl) (by rw [List.size_toArray]) (bv_one _) ?_
        intro W5 cb2_2 kR
        refine hK.out _ _ trivial (fun hHeld => ?_)
        have cb0_2 := row_but cb0_1 kR (by omega)
        have cb1_2 := row_but cb1_1 kR (by omega)
        have cb_2 := But.below cb_1 kR (by omega) cb_1.size
        have cl_2 := cl_1.but (by omega) (by omega) kR
        clear hK K kR cb_1 cb0_1 cb1_1 cb2_1 cl_1
        try simp only [pu]
        refine wpAnyH_take (i := 4) (oi := ⟨(some 4), _, _, _, _, _⟩) (v := (Value.bool false)) rfl (by kernel_rfl) (by kernel_rfl) (by kernel_rfl) (fun _ _ _ h => h) (Or.inl ⟨by rfl, ?yqV3_3_4⟩) hHeld ?_
        case yqV3_3_4 => (intro W0 hSw; go_simp; try with_reducible rfl)
        try simp only [pu]
        refine wpAnyH_done (by kernel_rfl) ?_ _
        obtain ⟨V4, rV4⟩ : ∃ X, X = W5 := ⟨_, rfl⟩
        subst rV4
        have gb0_V4 := cb0_2
        have sb0_V4 := row_size gb0_V4
        have gb1_V4 := cb1_2
        have sb1_V4 := row_size gb1_V4
        have gb2_V4 := cb2_2
        have sb2_V4 := row_size gb2_V4
        have hb_V4 := cb_2
        have hlaV4 := cl_2
        clear hHeld cb_2 hb_V3 cl_2 hlaV3 cb0_2 cb1_2 cb2_2 sb0_V3 sb1_V3 sb2_V3 gb0_V3 gb1_V3 gb2_V3
        go_wp2_with fail
        refine bodyPost_ret (v := .tuple #[.agg (bv z32).toArray, .agg (bv z32).toArray, .bool false]) (results_rows_tmp Tryd.results38 _ _ (w.heap.size + 1) 23 _ (0, 0) _ rfl gb1_V4.out Tryd.underlying23 rfl (by rw [List.size_toArray, bv_len, z32_len]; kernel_rfl) (w.heap.size + 2) 23 _ (0, 0) _ rfl gb2_V4.out Tryd.underlying23 rfl (by rw [List.size_toArray, bv_len, z32_len]; kernel_rfl) _ rfl) rfl ⟨z32, z32, false, rfl, HF, z32_len, z32_len, hb_V4⟩
      · go_upto_region 7 with fail
        refine plain_start_c (S := fun W' => Below V3.heap.size V3 W') 3 (by kernel_rfl) (Below.refl _ _) (fun hHeld => ?_)
        refine c_take (i := 0) (oi := ⟨(some 25), _, _, _, _, _⟩) (v := _) rfl (by decide) (by kernel_rfl) (by kernel_rfl) (by kernel_rfl) (fun _ _ _ h => h) (yields_build (by rfl) _ _ rfl [] (by rfl) _ hbz) hHeld ?_
        try simp only [pu]
        refine c_read (i := 1) (oi := ⟨(some 26), _, _, _, _, _⟩) (v := _) rfl (by decide) (by kernel_rfl) (by kernel_rfl) (by kernel_rfl) (by kernel_rfl) (by kernel_rfl) (fun _ _ _ h => h) (yieldsIf_load_mid (by rfl) _ _ rfl (w.heap.size + 1) 0 rfl (bv v20) _ (fun W' hW' => range_row ((hW'.block _ sb1_V3).trans gb1_V3.out)) (Tryd.underlying23) rfl (by rw [bv_len, h20.out]; kernel_rfl)) hHeld ?_
        try simp only [pu]
        refine c_step (i := 2) (o := ⟨(some 27), _, _, _, _, _⟩) (by kernel_rfl) rfl (fun K hK => ?_)
        go_simp
        refine (fsub_any _ z32 v20 (z32_len) (h20.out)).mono ?_
        rintro e W4 ⟨v27, rfl, e27, h27, hb4⟩
        refine hK.out _ _ (below_next hHeld hHeld.size hb4) (fun hHeld => ?_)
        clear hK K hb4
        try simp only [pu]
        refine c_call (S' := fun _ => True) (o := ⟨none, _, _, _, _, _⟩) (by kernel_rfl) (by kernel_rfl) rfl (fun K hK => ?_)
        have cb0_0 := row_next2 gb0_V3 hHeld
        have cb1_0 := row_next2 gb1_V3 hHeld
        have cb2_0 := row_next2 gb2_V3 hHeld
        have cb_0 := below_next hb_V3 hb_V3.size hHeld
        have cl_0 := hlaV3.next hHeld
        clear hHeld
        refine step_row (by rfl) 23 (.tmp 2) (.tmp 27) rfl (w.heap.size + 1) (bv v27) rfl rfl 23 _ cb1_0.out (by rw [bv_len, h27.out]; kernel_rfl) (by rw [List.size_toArray, bv_len, h20.out, bv_len, h27.out]) (bv_one _) ?_
        intro W5 cb1_1 kR
        refine hK.out _ _ trivial (fun hHeld => ?_)
        have cb0_1 := row_but cb0_0 kR (by omega)
        have cb2_1 := row_but cb2_0 kR (by omega)
        have cb_1 := But.below cb_0 kR (by omega) cb_0.size
        have cl_1 := cl_0.but (by omega) (by omega) kR
        clear hK K kR cb_0 cb0_0 cb1_0 cb2_0 cl_0
        try simp only [pu]
        refine wpAnyH_done (by kernel_rfl) ?_ _
        obtain ⟨V4, rV4⟩ : ∃ X, X = W5 := ⟨_, rfl⟩
        subst rV4
        have gb0_V4 := cb0_1
        have sb0_V4 := row_size gb0_V4
        have gb1_V4 := cb1_1
        have sb1_V4 := row_size gb1_V4
        have gb2_V4 := cb2_1
        have sb2_V4 := row_size gb2_V4
        have hb_V4 := cb_1
        have hlaV4 := cl_1
        clear hHeld cb_1 hb_V3 cl_1 hlaV3 cb0_1 cb1_1 cb2_1 sb0_V3 sb1_V3 sb2_V3 gb0_V3 gb1_V3 gb2_V3
        go_upto_region 9 with fail
        refine plain_start_c (S := fun W' => Below V4.heap.size V4 W') 2 (by kernel_rfl) (Below.refl _ _) (fun hHeld => ?_)
        refine c_take (i := 0) (oi := ⟨(some 37), _, _, _, _, _⟩) (v := _) rfl (by decide) (by kernel_rfl) (by kernel_rfl) (by kernel_rfl) (fun _ _ _ h => h) (yields_build (by rfl) _ _ rfl [] (by rfl) _ hbz) hHeld ?_
        try simp only [pu]
        refine c_take (i := 1) (oi := ⟨(some 38), _, _, _, _, _⟩) (v := _) rfl (by decide) (by kernel_rfl) (by kernel_rfl) (by kernel_rfl) (fun _ _ _ h => h) (yields_build (by rfl) _ _ rfl [] (by rfl) _ hbz) hHeld ?_
        try simp only [pu]
        refine c_call (S' := fun _ => True) (o := ⟨none, _, _, _, _, _⟩) (by kernel_rfl) (by kernel_rfl) rfl (fun K hK => ?_)
        have cb0_0 := row_next2 gb0_V4 hHeld
        have cb1_0 := row_next2 gb1_V4 hHeld
        have cb2_0 := row_next2 gb2_V4 hHeld
        have cb_0 := below_next hb_V4 hb_V4.size hHeld
        have cl_0 := hlaV4.next hHeld
        clear hHeld
        refine step_row (by rfl) 23 (.tmp 2) (.tmp 37) rfl (w.heap.size + 1) (bv z32) rfl rfl 23 _ cb1_0.out (by rw [bv_len, z32_len]; kernel_rfl) (by rw [List.size_toArray, bv_len, h27.out, bv_len, z32_len]) (bv_one _) ?_
        intro W6 cb1_1 kR
        refine hK.out _ _ trivial (fun hHeld => ?_)
        have cb0_1 := row_but cb0_0 kR (by omega)
        have cb2_1 := row_but cb2_0 kR (by omega)
        have cb_1 := But.below cb_0 kR (by omega) cb_0.size
        have cl_1 := cl_0.but (by omega) (by omega) kR
        clear hK K kR cb_0 cb0_0 cb1_0 cb2_0 cl_0
        try simp only [pu]
        refine wpAnyH_ready (rs := [3]) (by kernel_rfl) (by simp) ?_
        refine AllReadyH.cons (i := 3) (o := ⟨none, _, _, _, _, _⟩) rfl (fun K hK => ?_) AllReadyH.nil
        refine step_row (by rfl) 23 (.tmp 3) (.tmp 38) rfl (w.heap.size + 2) (bv z32) rfl rfl 23 _ cb2_1.out (by rw [bv_len, z32_len]; kernel_rfl) (by rw [List.size_toArray]) (bv_one _) ?_
        intro W7 cb2_2 kR
        refine hK.out _ _ trivial (fun hHeld => ?_)
        have cb0_2 := row_but cb0_1 kR (by omega)
        have cb1_2 := row_but cb1_1 kR (by omega)
        have cb_2 := But.below cb_1 kR (by omega) cb_1.size
        have cl_2 := cl_1.but (by omega) (by omega) kR
        clear hK K kR cb_1 cb0_1 cb1_1 cb2_1 cl_1
        try simp only [pu]
        refine wpAnyH_take (i := 4) (oi := ⟨(some 4), _, _, _, _, _⟩) (v := (Value.bool false)) rfl (by kernel_rfl) (by kernel_rfl) (by kernel_rfl) (fun _ _ _ h => h) (Or.inl ⟨by rfl, ?yqV4_4_4⟩) hHeld ?_
        case yqV4_4_4 => (intro W0 hSw; go_simp; try with_reducible rfl)
        try simp only [pu]
        refine wpAnyH_done (by kernel_rfl) ?_ _
        obtain ⟨V5, rV5⟩ : ∃ X, X = W7 := ⟨_, rfl⟩
        subst rV5
        have gb0_V5 := cb0_2
        have sb0_V5 := row_size gb0_V5
        have gb1_V5 := cb1_2
        have sb1_V5 := row_size gb1_V5
        have gb2_V5 := cb2_2
        have sb2_V5 := row_size gb2_V5
        have hb_V5 := cb_2
        have hlaV5 := cl_2
        clear hHeld cb_2 hb_V4 cl_2 hlaV4 cb0_2 cb1_2 cb2_2 sb0_V4 sb1_V4 sb2_V4 gb0_V4 gb1_V4 gb2_V4
        go_wp2_with fail
        refine bodyPost_ret (v := .tuple #[.agg (bv z32).toArray, .agg (bv z32).toArray, .bool false]) (results_rows_tmp Tryd.results38 _ _ (w.heap.size + 1) 23 _ (0, 0) _ rfl gb1_V5.out Tryd.underlying23 rfl (by rw [List.size_toArray, bv_len, z32_len]; kernel_rfl) (w.heap.size + 2) 23 _ (0, 0) _ rfl gb2_V5.out Tryd.underlying23 rfl (by rw [List.size_toArray, bv_len, z32_len]; kernel_rfl) _ rfl) rfl ⟨z32, z32, false, rfl, HF, z32_len, z32_len, hb_V5⟩
    · have HR := vlt (e20.out.1 rfl)
      clear e20
      obtain rfl | rfl : s = 0 ∨ s = 1 := by omega
      · obtain ⟨c, hc, hx0, hcx⟩ := first_byte v20 h20.out
        have c0 : V3.cell? ⟨w.heap.size + 1, 0, none⟩ = some (.int .u8 (c : Int)) := by
          have h := byte_cell gb1_V3.out hx0
          rwa [UInt8.toNat_ofNat', show (2 : Nat) ^ 8 = 256 by decide, Nat.mod_eq_of_lt hc] at h
        have el := low8 c hc
        obtain ⟨d, hd⟩ : ∃ d, d = c % 2 := ⟨_, rfl⟩
        have HD := vlt (show ln v20 % 2 = d by rw [hd, hcx])
        have hd2 : d < 2 := by omega
        rw [← hd] at el
        clear hd hcx hx0
        obtain rfl : d = 0 := by have := HD.out; have := HR.out.2.1; omega
        have HF := vlt (show RdIs a v20 z true from read_yes HA.out HY.out HS.out HG.out HR.out.2.2 HR.out.1 HD.out)
        go_upto_region 10 with fail
        clear c0 el
        refine c_start (S := fun W' => Below V3.heap.size V3 W') 3 (by kernel_rfl) ((Below.refl _ _).drew) (fun hHeld => ?_)
        refine c_read (i := 0) (oi := ⟨(some 39), _, _, _, _, _⟩) (v := _) rfl (by decide) (by kernel_rfl) (by kernel_rfl) (by kernel_rfl) (by kernel_rfl) (by kernel_rfl) (fun _ _ _ h => h) (yieldsIf_load_mid (by rfl) _ _ rfl (w.heap.size + 1) 0 rfl (bv v20) _ (fun W' hW' => range_row ((hW'.block _ sb1_V3).trans gb1_V3.out)) (Tryd.underlying23) rfl (by rw [bv_len, h20.out]; kernel_rfl)) hHeld ?_
        try simp only [pu]
        refine c_read (i := 1) (oi := ⟨(some 40), _, _, _, _, _⟩) (v := _) rfl (by decide) (by kernel_rfl) (by kernel_rfl) (by kernel_rfl) (by kernel_rfl) (by kernel_rfl) (fun _ _ _ h => h) (yieldsIf_load_mid (by rfl) _ _ rfl (w.heap.size) 0 rfl (bv z) _ (fun W' hW' => range_row ((hW'.block _ sb0_V3).trans gb0_V3.out)) (Tryd.underlying23) rfl (by rw [bv_len, Hz.out]; kernel_rfl)) hHeld ?_
        try simp only [pu]
        refine c_step (i := 2) (o := ⟨none, _, _, _, _, _⟩) (by kernel_rfl) rfl (fun K hK => ?_)
        refine step_same (by rfl) 23 (.tmp 2) (.tmp 39) rfl (w.heap.size + 1) (bv v20) rfl rfl 23 (row_next2 gb1_V3 hHeld).out (by rw [bv_len, h20.out]; kernel_rfl) (bv_one _) ?_
        intro W4 kR
        refine hK.out _ _ (below_next hHeld hHeld.size kR) (fun hHeld => ?_)
        clear hK K kR
        try simp only [pu]
        refine c_call (S' := fun _ => True) (o := ⟨none, _, _, _, _, _⟩) (by kernel_rfl) (by kernel_rfl) rfl (fun K hK => ?_)
        have cb0_0 := row_next2 gb0_V3 hHeld
        have cb1_0 := row_next2 gb1_V3 hHeld
        have cb2_0 := row_next2 gb2_V3 hHeld
        have cb_0 := below_next hb_V3 hb_V3.size hHeld
        have cl_0 := hlaV3.next hHeld
        clear hHeld
        refine step_row (by rfl) 23 (.tmp 3) (.tmp 40) rfl (w.heap.size + 2) (bv z) rfl rfl 23 _ cb2_0.out (by rw [bv_len, Hz.out]; kernel_rfl) (by rw [List.size_toArray, bv_len, z32_len, bv_len, Hz.out]) (bv_one _) ?_
        intro W5 cb2_1 kR
        refine hK.out _ _ trivial (fun hHeld => ?_)
        have cb0_1 := row_but cb0_0 kR (by omega)
        have cb1_1 := row_but cb1_0 kR (by omega)
        have cb_1 := But.below cb_0 kR (by omega) cb_0.size
        have cl_1 := cl_0.but (by omega) (by omega) kR
        clear hK K kR cb_0 cb0_0 cb1_0 cb2_0 cl_0
        try simp only [pu]
        refine wpAnyH_take (i := 4) (oi := ⟨(some 4), _, _, _, _, _⟩) (v := (Value.bool true)) rfl (by kernel_rfl) (by kernel_rfl) (by kernel_rfl) (fun _ _ _ h => h) (Or.inl ⟨by rfl, ?yqV3_3_4⟩) hHeld ?_
        case yqV3_3_4 => (intro W0 hSw; go_simp; try with_reducible rfl)
        try simp only [pu]
        refine wpAnyH_done (by kernel_rfl) ?_ _
        obtain ⟨V4, rV4⟩ : ∃ X, X = W5 := ⟨_, rfl⟩
        subst rV4
        have gb0_V4 := cb0_1
        have sb0_V4 := row_size gb0_V4
        have gb1_V4 := cb1_1
        have sb1_V4 := row_size gb1_V4
        have gb2_V4 := cb2_1
        have sb2_V4 := row_size gb2_V4
        have hb_V4 := cb_1
        have hlaV4 := cl_1
        clear hHeld cb_1 hb_V3 cl_1 hlaV3 cb0_1 cb1_1 cb2_1 sb0_V3 sb1_V3 sb2_V3 gb0_V3 gb1_V3 gb2_V3
        go_wp2_with fail
        refine bodyPost_ret (v := .tuple #[.agg (bv v20).toArray, .agg (bv z).toArray, .bool true]) (results_rows_tmp Tryd.results38 _ _ (w.heap.size + 1) 23 _ (0, 0) _ rfl gb1_V4.out Tryd.underlying23 rfl (by rw [List.size_toArray, bv_len, h20.out]; kernel_rfl) (w.heap.size + 2) 23 _ (0, 0) _ rfl gb2_V4.out Tryd.underlying23 rfl (by rw [List.size_toArray, bv_len, Hz.out]; kernel_rfl) _ rfl) rfl ⟨v20, z, true, rfl, HF, h20, Hz, hb_V4⟩
      · go_upto_region 7 with fail
        refine plain_start_c (S := fun W' => Below V3.heap.size V3 W') 3 (by kernel_rfl) (Below.refl _ _) (fun hHeld => ?_)
        refine c_take (i := 0) (oi := ⟨(some 25), _, _, _, _, _⟩) (v := _) rfl (by decide) (by kernel_rfl) (by kernel_rfl) (by kernel_rfl) (fun _ _ _ h => h) (yields_build (by rfl) _ _ rfl [] (by rfl) _ hbz) hHeld ?_
        try simp only [pu]
        refine c_read (i := 1) (oi := ⟨(some 26), _, _, _, _, _⟩) (v := _) rfl (by decide) (by kernel_rfl) (by kernel_rfl) (by kernel_rfl) (by kernel_rfl) (by kernel_rfl) (fun _ _ _ h => h) (yieldsIf_load_mid (by rfl) _ _ rfl (w.heap.size + 1) 0 rfl (bv v20) _ (fun W' hW' => range_row ((hW'.block _ sb1_V3).trans gb1_V3.out)) (Tryd.underlying23) rfl (by rw [bv_len, h20.out]; kernel_rfl)) hHeld ?_
        try simp only [pu]
        refine c_step (i := 2) (o := ⟨(some 27), _, _, _, _, _⟩) (by kernel_rfl) rfl (fun K hK => ?_)
        go_simp
        refine (fsub_any _ z32 v20 (z32_len) (h20.out)).mono ?_
        rintro e W4 ⟨v27, rfl, e27, h27, hb4⟩
        refine hK.out _ _ (below_next hHeld hHeld.size hb4) (fun hHeld => ?_)
        clear hK K hb4
        try simp only [pu]
        refine c_call (S' := fun _ => True) (o := ⟨none, _, _, _, _, _⟩) (by kernel_rfl) (by kernel_rfl) rfl (fun K hK => ?_)
        have cb0_0 := row_next2 gb0_V3 hHeld
        have cb1_0 := row_next2 gb1_V3 hHeld
        have cb2_0 := row_next2 gb2_V3 hHeld
        have cb_0 := below_next hb_V3 hb_V3.size hHeld
        have cl_0 := hlaV3.next hHeld
        clear hHeld
        refine step_row (by rfl) 23 (.tmp 2) (.tmp 27) rfl (w.heap.size + 1) (bv v27) rfl rfl 23 _ cb1_0.out (by rw [bv_len, h27.out]; kernel_rfl) (by rw [List.size_toArray, bv_len, h20.out, bv_len, h27.out]) (bv_one _) ?_
        intro W5 cb1_1 kR
        refine hK.out _ _ trivial (fun hHeld => ?_)
        have cb0_1 := row_but cb0_0 kR (by omega)
        have cb2_1 := row_but cb2_0 kR (by omega)
        have cb_1 := But.below cb_0 kR (by omega) cb_0.size
        have cl_1 := cl_0.but (by omega) (by omega) kR
        clear hK K kR cb_0 cb0_0 cb1_0 cb2_0 cl_0
        try simp only [pu]
        refine wpAnyH_done (by kernel_rfl) ?_ _
        obtain ⟨V4, rV4⟩ : ∃ X, X = W5 := ⟨_, rfl⟩
        subst rV4
        have gb0_V4 := cb0_1
        have sb0_V4 := row_size gb0_V4
        have gb1_V4 := cb1_1
        have sb1_V4 := row_size gb1_V4
        have gb2_V4 := cb2_1
        have sb2_V4 := row_size gb2_V4
        have hb_V4 := cb_1
        have hlaV4 := cl_1
        clear hHeld cb_1 hb_V3 cl_1 hlaV3 cb0_1 cb1_1 cb2_1 sb0_V3 sb1_V3 sb2_V3 gb0_V3 gb1_V3 gb2_V3
        obtain ⟨c, hc, hx0, hcx⟩ := first_byte v27 h27.out
        have c0 : V4.cell? ⟨w.heap.size + 1, 0, none⟩ = some (.int .u8 (c : Int)) := by
          have h := byte_cell gb1_V4.out hx0
          rwa [UInt8.toNat_ofNat', show (2 : Nat) ^ 8 = 256 by decide, Nat.mod_eq_of_lt hc] at h
        have el := low8 c hc
        obtain ⟨d, hd⟩ : ∃ d, d = c % 2 := ⟨_, rfl⟩
        have HD := vlt (show ln v27 % 2 = d by rw [hd, hcx])
        have hd2 : d < 2 := by omega
        rw [← hd] at el
        clear hd hcx hx0
        have HX := vlt (show cW v27 = 0 - cW v20 by rw [e27.out.1, z32_is])
        obtain rfl | rfl : d = 0 ∨ d = 1 := by omega
        · have HF := vlt (show RdIs a z32 z32 false from read_no HY.out HS.out HR.out.2.1 HR.out.2.2 HR.out.1 HX.out e27.out.2 (by rw [HD.out]; decide))
          go_upto_region 9 with fail
          clear c0 el
          refine plain_start_c (S := fun W' => Below V4.heap.size V4 W') 2 (by kernel_rfl) (Below.refl _ _) (fun hHeld => ?_)
          refine c_take (i := 0) (oi := ⟨(some 37), _, _, _, _, _⟩) (v := _) rfl (by decide) (by kernel_rfl) (by kernel_rfl) (by kernel_rfl) (fun _ _ _ h => h) (yields_build (by rfl) _ _ rfl [] (by rfl) _ hbz) hHeld ?_
          try simp only [pu]
          refine c_take (i := 1) (oi := ⟨(some 38), _, _, _, _, _⟩) (v := _) rfl (by decide) (by kernel_rfl) (by kernel_rfl) (by kernel_rfl) (fun _ _ _ h => h) (yields_build (by rfl) _ _ rfl [] (by rfl) _ hbz) hHeld ?_
          try simp only [pu]
          refine c_call (S' := fun _ => True) (o := ⟨none, _, _, _, _, _⟩) (by kernel_rfl) (by kernel_rfl) rfl (fun K hK => ?_)
          have cb0_0 := row_next2 gb0_V4 hHeld
          have cb1_0 := row_next2 gb1_V4 hHeld
          have cb2_0 := row_next2 gb2_V4 hHeld
          have cb_0 := below_next hb_V4 hb_V4.size hHeld
          have cl_0 := hlaV4.next hHeld
          clear hHeld
          refine step_row (by rfl) 23 (.tmp 2) (.tmp 37) rfl (w.heap.size + 1) (bv z32) rfl rfl 23 _ cb1_0.out (by rw [bv_len, z32_len]; kernel_rfl) (by rw [List.size_toArray, bv_len, h27.out, bv_len, z32_len]) (bv_one _) ?_
          intro W6 cb1_1 kR
          refine hK.out _ _ trivial (fun hHeld => ?_)
          have cb0_1 := row_but cb0_0 kR (by omega)
          have cb2_1 := row_but cb2_0 kR (by omega)
          have cb_1 := But.below cb_0 kR (by omega) cb_0.size
          have cl_1 := cl_0.but (by omega) (by omega) kR
          clear hK K kR cb_0 cb0_0 cb1_0 cb2_0 cl_0
          try simp only [pu]
          refine wpAnyH_ready (rs := [3]) (by kernel_rfl) (by simp) ?_
          refine AllReadyH.cons (i := 3) (o := ⟨none, _, _, _, _, _⟩) rfl (fun K hK => ?_) AllReadyH.nil
          refine step_row (by rfl) 23 (.tmp 3) (.tmp 38) rfl (w.heap.size + 2) (bv z32) rfl rfl 23 _ cb2_1.out (by rw [bv_len, z32_len]; kernel_rfl) (by rw [List.size_toArray]) (bv_one _) ?_
          intro W7 cb2_2 kR
          refine hK.out _ _ trivial (fun hHeld => ?_)
          have cb0_2 := row_but cb0_1 kR (by omega)
          have cb1_2 := row_but cb1_1 kR (by omega)
          have cb_2 := But.below cb_1 kR (by omega) cb_1.size
          have cl_2 := cl_1.but (by omega) (by omega) kR
          clear hK K kR cb_1 cb0_1 cb1_1 cb2_1 cl_1
          try simp only [pu]
          refine wpAnyH_take (i := 4) (oi := ⟨(some 4), _, _, _, _, _⟩) (v := (Value.bool false)) rfl (by kernel_rfl) (by kernel_rfl) (by kernel_rfl) (fun _ _ _ h => h) (Or.inl ⟨by rfl, ?yqV4_4_4⟩) hHeld ?_
          case yqV4_4_4 => (intro W0 hSw; go_simp; try with_reducible rfl)
          try simp only [pu]
          refine wpAnyH_done (by kernel_rfl) ?_ _
          obtain ⟨V5, rV5⟩ : ∃ X, X = W7 := ⟨_, rfl⟩
          subst rV5
          have gb0_V5 := cb0_2
          have sb0_V5 := row_size gb0_V5
          have gb1_V5 := cb1_2
          have sb1_V5 := row_size gb1_V5
          have gb2_V5 := cb2_2
          have sb2_V5 := row_size gb2_V5
          have hb_V5 := cb_2
          have hlaV5 := cl_2
          clear hHeld cb_2 hb_V4 cl_2 hlaV4 cb0_2 cb1_2 cb2_2 sb0_V4 sb1_V4 sb2_V4 gb0_V4 gb1_V4 gb2_V4
          go_wp2_with fail
          refine bodyPost_ret (v := .tuple #[.agg (bv z32).toArray, .agg (bv z32).toArray, .bool false]) (results_rows_tmp Tryd.results38 _ _ (w.heap.size + 1) 23 _ (0, 0) _ rfl gb1_V5.out Tryd.underlying23 rfl (by rw [List.size_toArray, bv_len, z32_len]; kernel_rfl) (w.heap.size + 2) 23 _ (0, 0) _ rfl gb2_V5.out Tryd.underlying23 rfl (by rw [List.size_toArray, bv_len, z32_len]; kernel_rfl) _ rfl) rfl ⟨z32, z32, false, rfl, HF, z32_len, z32_len, hb_V5⟩
        · have HF := vlt (show RdIs a v27 z true from read_yes HA.out HY.out HS.out HG.out e27.out.2 (neg_root HR.out.1 HX.out) HD.out)
          go_upto_region 10 with fail
          clear c0 el
          refine c_start (S := fun W' => Below V4.heap.size V4 W') 3 (by kernel_rfl) ((Below.refl _ _).drew) (fun hHeld => ?_)
          refine c_read (i := 0) (oi := ⟨(some 39), _, _, _, _, _⟩) (v := _) rfl (by decide) (by kernel_rfl) (by kernel_rfl) (by kernel_rfl) (by kernel_rfl) (by kernel_rfl) (fun _ _ _ h => h) (yieldsIf_load_mid (by rfl) _ _ rfl (w.heap.size + 1) 0 rfl (bv v27) _ (fun W' hW' => range_row ((hW'.block _ sb1_V4).trans gb1_V4.out)) (Tryd.underlying23) rfl (by rw [bv_len, h27.out]; kernel_rfl)) hHeld ?_
          try simp only [pu]
          refine c_read (i := 1) (oi := ⟨(some 40), _, _, _, _, _⟩) (v := _) rfl (by decide) (by kernel_rfl) (by kernel_rfl) (by kernel_rfl) (by kernel_rfl) (by kernel_rfl) (fun _ _ _ h => h) (yieldsIf_load_mid (by rfl) _ _ rfl (w.heap.size) 0 rfl (bv z) _ (fun W' hW' => range_row ((hW'.block _ sb0_V4).trans gb0_V4.out)) (Tryd.underlying23) rfl (by rw [bv_len, Hz.out]; kernel_rfl)) hHeld ?_
          try simp only [pu]
          refine c_step (i := 2) (o := ⟨none, _, _, _, _, _⟩) (by kernel_rfl) rfl (fun K hK => ?_)
          refine step_same (by rfl) 23 (.tmp 2) (.tmp 39) rfl (w.heap.size + 1) (bv v27) rfl rfl 23 (row_next2 gb1_V4 hHeld).out (by rw [bv_len, h27.out]; kernel_rfl) (bv_one _) ?_
          intro W6 kR
          refine hK.out _ _ (below_next hHeld hHeld.size kR) (fun hHeld => ?_)
          clear hK K kR
          try simp only [pu]
          refine c_call (S' := fun _ => True) (o := ⟨none, _, _, _, _, _⟩) (by kernel_rfl) (by kernel_rfl) rfl (fun K hK => ?_)
          have cb0_0 := row_next2 gb0_V4 hHeld
          have cb1_0 := row_next2 gb1_V4 hHeld
          have cb2_0 := row_next2 gb2_V4 hHeld
          have cb_0 := below_next hb_V4 hb_V4.size hHeld
          have cl_0 := hlaV4.next hHeld
          clear hHeld
          refine step_row (by rfl) 23 (.tmp 3) (.tmp 40) rfl (w.heap.size + 2) (bv z) rfl rfl 23 _ cb2_0.out (by rw [bv_len, Hz.out]; kernel_rfl) (by rw [List.size_toArray, bv_len, z32_len, bv_len, Hz.out]) (bv_one _) ?_
          intro W7 cb2_1 kR
          refine hK.out _ _ trivial (fun hHeld => ?_)
          have cb0_1 := row_but cb0_0 kR (by omega)
          have cb1_1 := row_but cb1_0 kR (by omega)
          have cb_1 := But.below cb_0 kR (by omega) cb_0.size
          have cl_1 := cl_0.but (by omega) (by omega) kR
          clear hK K kR cb_0 cb0_0 cb1_0 cb2_0 cl_0
          try simp only [pu]
          refine wpAnyH_take (i := 4) (oi := ⟨(some 4), _, _, _, _, _⟩) (v := (Value.bool true)) rfl (by kernel_rfl) (by kernel_rfl) (by kernel_rfl) (fun _ _ _ h => h) (Or.inl ⟨by rfl, ?yqV4_4_4⟩) hHeld ?_
          case yqV4_4_4 => (intro W0 hSw; go_simp; try with_reducible rfl)
          try simp only [pu]
          refine wpAnyH_done (by kernel_rfl) ?_ _
          obtain ⟨V5, rV5⟩ : ∃ X, X = W7 := ⟨_, rfl⟩
          subst rV5
          have gb0_V5 := cb0_1
          have sb0_V5 := row_size gb0_V5
          have gb1_V5 := cb1_1
          have sb1_V5 := row_size gb1_V5
          have gb2_V5 := cb2_1
          have sb2_V5 := row_size gb2_V5
          have hb_V5 := cb_1
          have hlaV5 := cl_1
          clear hHeld cb_1 hb_V4 cl_1 hlaV4 cb0_1 cb1_1 cb2_1 sb0_V4 sb1_V4 sb2_V4 gb0_V4 gb1_V4 gb2_V4
          go_wp2_with fail
          refine bodyPost_ret (v := .tuple #[.agg (bv v27).toArray, .agg (bv z).toArray, .bool true]) (results_rows_tmp Tryd.results38 _ _ (w.heap.size + 1) 23 _ (0, 0) _ rfl gb1_V5.out Tryd.underlying23 rfl (by rw [List.size_toArray, bv_len, h27.out]; kernel_rfl) (w.heap.size + 2) 23 _ (0, 0) _ rfl gb2_V5.out Tryd.underlying23 rfl (by rw [List.size_toArray, bv_len, Hz.out]; kernel_rfl) _ rfl) rfl ⟨v27, z, true, rfl, HF, h27, Hz, hb_V5⟩
end Go.Proofs.YtehkalbiomagjaaDoor
namespace Go.Proofs.YtehkalbiomagjaaDoor
open Go.RowKit

set_option maxRecDepth 100000 in
theorem built_z128 : Tryd.prog.built 50 [] = some (bv z128).toArray := by kernel_rfl
/-- What the package's calls answer, of points or none. -/
def add1 : Option PtE → Option PtE → List UInt8
  | some P, some Q => encE (addE P Q)
  | _, _ => z32
def neg1 : Option PtE → List UInt8
  | some P => encE (negE P)
  | none => z32
def mul1 (n : Nat) : Option PtE → List UInt8
  | some P => encE (mulE n P)
  | none => z32
def x1 : Option PtE → List UInt8
  | some P => le P.1.val 32
  | none => z32
def y1 : Option PtE → List UInt8
  | some P => le P.2.val 32
  | none => z32
def k1 (ok : Bool) : Int := if ok = true then 0 else 3
/-- What the calls tell of their points. -/
def PoIs (a p : List UInt8) (ok : Bool) : Prop := (ok = true → ∃ P, PlE p P ∧ PtIs a (some P)) ∧ (ok = false → PtIs a none)
def GdIs (a : List UInt8) (ok : Bool) : Prop := ∃ o, PtIs a o ∧ ok = o.isSome
def NgIs (a l : List UInt8) (k : Int) : Prop := ∃ o, PtIs a o ∧ l = neg1 o ∧ k = k1 o.isSome
def AtIs (a x y : List UInt8) (k : Int) : Prop := ∃ o, PtIs a o ∧ x = x1 o ∧ y = y1 o ∧ k = k1 o.isSome
def AdIs (a b l : List UInt8) (k : Int) : Prop := ∃ o p, PtIs a o ∧ PtIs b p ∧ l = add1 o p ∧ k = k1 (o.isSome && p.isSome)
def MuIs (n : Nat) (a l : List UInt8) (k : Int) : Prop := ∃ o, PtIs a o ∧ l = mul1 n o ∧ k = k1 o.isSome
theorem le_cW (x : List UInt8) (h : x.length = 32) (hx : ln x < FP) : le (cW x).val 32 = x := by
  rw [cW, cF_val]; exact wo_ln x h hx
theorem neg_is (x : List UInt8) (X : Fin FP) (h : cW x = 0 - X) : cW x = -X := by rw [h]; grind
set_option maxRecDepth 100000 in
set_option maxHeartbeats 4000000 in
theorem placeOf_any (w : World) (hla : LaidP w) (a : List UInt8) (ha : a.length = 32) :
    Calls Tryd.prog 31 #[.agg (bv a).toArray] w fun e w' => ∃ p ok, e = .returned (.tuple #[.agg (bv p).toArray, .bool ok]) ∧ Vlt (PoIs a p ok) ∧ Hid (p.length = 128) ∧ Below w.heap.size w w' := by
  have hzw := zero_word
  have hzp := zero_place
  have hbz := built_z128
  obtain ⟨ONE, dONE, HONE⟩ := hides one32 one32_len
  have hb1 := built_one32
  rw [← dONE] at hb1
  have H1 := vlt (show cW ONE = 1 by rw [dONE]; exact one32_is)
  clear dONE
  obtain ⟨V0, hW, gb0_V0, gb1_V0, hb_V0, hsW⟩ := pair_new w (bv a).toArray (bv z128).toArray 23 50
  have HW := Lib.hid hW
  have Hha := Lib.hid ha
  have sb0_V0 := row_size gb0_V0
  have sb1_V0 := row_size gb1_V0
  have hlaV0 := hla.next hb_V0
  have gl1 := hla.size
  have gl2 := hla.turn.2
  clear hla
  clear hW hsW ha
  go_enter Tryd.func31, Tryd.ntmps31
  go_upto_region 1 with fail
  rw [HW.out]
  refine plain_start (S := fun W' => Below V0.heap.size V0 W') (by kernel_rfl) (Below.refl _ _) (fun hHeld => ?_)
  refine wpAnyH_take (i := 0) (oi := ⟨(some 8), _, _, _, _, _⟩) (v := _) rfl (by kernel_rfl) (by kernel_rfl) (by kernel_rfl) (fun _ _ _ h => h) (yieldsIf_load_mid (by rfl) _ _ rfl (w.heap.size) 0 rfl (bv a) _ (fun W' hW' => range_row ((hW'.block _ sb0_V0).trans gb0_V0.out)) (Tryd.underlying23) rfl (by rw [bv_len, Hha.out]; kernel_rfl)) hHeld ?_
  try simp only [pu]
  refine mix_start (B := V0.heap.size) (al := [⟨6, 4, 23, ((bv z32)).toArray⟩, ⟨7, 5, 23, ((bv z32)).toArray⟩]) (fuel := 8) rfl hHeld (hHeld.size) ?_
  clear hHeld
  refine mix_call (i := 1) (o := ⟨(some 9), _, _, _, _, _⟩) rfl (by kernel_rfl) (by kernel_rfl) (by kernel_rfl) (by kernel_rfl) (fun x hx => by simp only [List.mem_cons, List.not_mem_nil, or_false] at hx; rcases hx with rfl | rfl <;> first | exact makes_new rfl rfl rfl rfl zero_word) (fun W x _ h => h.alloc h.size _) (fun _ _ _ _ _ h => h) (fun X1 hHeld hBX K hK => ?_)
  go_simp
  refine (read_any _ (hlaV0.next hHeld) a (Hha.out)).mono ?_
  rintro e W1 ⟨x9, y9, o9, rfl, e9, h9, j9, hb1⟩
  refine hK.out _ _ (below_next hHeld hHeld.size hb1) hb1 ?_
  clear hK K hHeld hBX hb1
  try simp only [pu]
  refine mix_take (i := 2) (o := ⟨(some 7), _, _, _, _, _⟩) (v := ?vqV0_1_2) rfl (by kernel_rfl) (by kernel_rfl) (by kernel_rfl) (by kernel_rfl) (by kernel_rfl) (fun _ _ _ h => h) (Or.inl ⟨by rfl, ?yqV0_1_2⟩) ?_
  case yqV0_1_2 => (intro W0 hSw; go_simp; try with_reducible rfl)
  try simp only [pu]
  refine mix_take (i := 3) (o := ⟨(some 10), _, _, _, _, _⟩) (v := .agg (bv x9).toArray) rfl (by kernel_rfl) (by kernel_rfl) (by kernel_rfl) (by kernel_rfl) (by kernel_rfl) (fun _ _ _ h => h) (Or.inl ⟨by rfl, ?yqV0_1_3⟩) ?_
  case yqV0_1_3 => (intro W0 hSw; go_simp; try with_reducible rfl)
  try simp only [pu]
  refine mix_take (i := 4) (o := ⟨(some 11), _, _, _, _, _⟩) (v := .agg (bv y9).toArray) rfl (by kernel_rfl) (by kernel_rfl) (by kernel_rfl) (by kernel_rfl) (by kernel_rfl) (fun _ _ _ h => h) (Or.inl ⟨by rfl, ?yqV0_1_4⟩) ?_
  case yqV0_1_4 => (intro W0 hSw; go_simp; try with_reducible rfl)
  try simp only [pu]
  refine mix_take (i := 5) (o := ⟨(some 12), _, _, _, _, _⟩) (v := .bool o9) rfl (by kernel_rfl) (by kernel_rfl) (by kernel_rfl) (by kernel_rfl) (by kernel_rfl) (fun _ _ _ h => h) (Or.inl ⟨by rfl, ?yqV0_1_5⟩) ?_
  case yqV0_1_5 => (intro W0 hSw; go_simp; try with_reducible rfl)
  try simp only [pu]
  refine mix_end (by kernel_rfl) (by kernel_rfl) (by simp) (by simp) (fun x hx => by simp only [List.mem_cons, List.not_mem_nil, or_false] at hx; rcases hx with rfl | rfl <;> first | exact makes_new rfl rfl rfl rfl zero_word) (fun W x _ h => h.alloc h.size _) (fun D hD W2 hHeld hBX hHo => ?_)
  obtain ⟨G4, G5, rfl⟩ := v_two hD
  have xG4 : Hid (W2.heap[G4]? = some (.cells ((bv z32)).toArray 23 (0, 0))) := hHo.row (⟨6, 4, 23, ((bv z32)).toArray⟩, G4) (by simp)
  have lG4 : V0.heap.size ≤ G4 := hHo.new (⟨6, 4, 23, ((bv z32)).toArray⟩, G4) (by simp)
  have xG5 : Hid (W2.heap[G5]? = some (.cells ((bv z32)).toArray 23 (0, 0))) := hHo.row (⟨7, 5, 23, ((bv z32)).toArray⟩, G5) (by simp)
  have lG5 : V0.heap.size ≤ G5 := hHo.new (⟨7, 5, 23, ((bv z32)).toArray⟩, G5) (by simp)
  have hnd := hHo.nodup
  simp only [List.map_cons, List.map_nil, List.nodup_cons, List.mem_cons, List.not_mem_nil, or_false, not_false_eq_true, List.nodup_nil, and_true] at hnd
  have nG4G5 := hnd
  clear hnd
  clear hHo hBX hD
  simp only [markD, putD, List.foldr_cons, List.foldr_nil, pu, List.setIfInBounds_toArray, List.set_cons_zero, List.set_cons_succ]
  refine wpAnyH_ready (rs := [8]) (by kernel_rfl) (by simp) ?_
  refine AllReadyH.cons (i := 8) (o := ⟨none, _, _, _, _, _⟩) rfl (fun K hK => ?_) AllReadyH.nil
  refine step_row (by rfl) 23 (.tmp 4) (.tmp 10) rfl G4 (bv x9) rfl rfl 23 _ xG4.out (by rw [bv_len, h9.out]; kernel_rfl) (by rw [List.size_toArray, bv_len, bv_len, h9.out, z32_len]) (bv_one _) ?_
  intro W3 yG4 kG4
  have zG5 := row_but xG5 kG4 (by omega)
  clear xG5
  have xG5 := zG5
  clear zG5
  refine hK.out _ _ (But.below hHeld kG4 lG4 hHeld.size) (fun hHeld => ?_)
  clear hK K kG4 xG4
  have xG4 := yG4
  clear yG4
  try simp only [pu]
  refine wpAnyH_ready (rs := [9]) (by kernel_rfl) (by simp) ?_
  refine AllReadyH.cons (i := 9) (o := ⟨none, _, _, _, _, _⟩) rfl (fun K hK => ?_) AllReadyH.nil
  refine step_row (by rfl) 23 (.tmp 5) (.tmp 11) rfl G5 (bv y9) rfl rfl 23 _ xG5.out (by rw [bv_len, j9.out]; kernel_rfl) (by rw [List.size_toArray, bv_len, bv_len, j9.out, z32_len]) (bv_one _) ?_
  intro W4 yG5 kG5
  have zG4 := row_but xG4 kG5 (by omega)
  clear xG4
  have xG4 := zG4
  clear zG4
  refine hK.out _ _ (But.below hHeld kG5 lG5 hHeld.size) (fun hHeld => ?_)
  clear hK K kG5 xG5
  have xG5 := yG5
  clear yG5
  try simp only [pu]
  refine wpAnyH_take (i := 10) (oi := ⟨(some 6), _, _, _, _, _⟩) (v := ?vqV0_1_10) rfl (by kernel_rfl) (by kernel_rfl) (by kernel_rfl) (fun _ _ _ h => h) (Or.inl ⟨by rfl, ?yqV0_1_10⟩) hHeld ?_
  case yqV0_1_10 => (intro W0 hSw; go_simp; try with_reducible rfl)
  try simp only [pu]
  refine wpAnyH_done (by kernel_rfl) ?_ _
  obtain ⟨V1, rV1⟩ : ∃ X, X = W4 := ⟨_, rfl⟩
  subst rV1
  have gb0_V1 := row_next2 gb0_V0 hHeld
  have sb0_V1 := row_size gb0_V1
  have gb1_V1 := row_next2 gb1_V0 hHeld
  have sb1_V1 := row_size gb1_V1
  have hb_V1 := below_next hb_V0 hb_V0.size hHeld
  have hlaV1 := hlaV0.next hHeld
  have gn4_V1 := xG4
  have sn4_V1 := row_size gn4_V1
  clear xG4
  have gn5_V1 := xG5
  have sn5_V1 := row_size gn5_V1
  clear xG5
  have wG4 : w.heap.size + 2 ≤ G4 := by omega
  have wG5 : w.heap.size + 2 ≤ G5 := by omega
  clear hHeld hb_V0 sb0_V0 sb1_V0
  clear gb0_V0 gb1_V0 hlaV0 lG4 lG5
  rcases o9 with _ | _
  · have HF := vlt (show PoIs a z128 false from ⟨fun h => (by cases h), fun _ => (e9.out.2 rfl).2.2⟩)
    go_upto_region 3 with fail
    refine plain_start_c (S := fun W' => Below V1.heap.size V1 W') 1 (by kernel_rfl) (Below.refl _ _) (fun hHeld => ?_)
    refine c_take (i := 0) (oi := ⟨(some 15), _, _, _, _, _⟩) (v := _) rfl (by decide) (by kernel_rfl) (by kernel_rfl) (by kernel_rfl) (fun _ _ _ h => h) (yields_build (by rfl) _ _ rfl [] (by rfl) _ hbz) hHeld ?_
    try simp only [pu]
    refine c_call (S' := fun _ => True) (o := ⟨none, _, _, _, _, _⟩) (by kernel_rfl) (by kernel_rfl) rfl (fun K hK => ?_)
    have cb0_0 := row_next2 gb0_V1 hHeld
    have cb1_0 := row_next2 gb1_V1 hHeld
    have cn4_0 := row_next2 gn4_V1 hHeld
    have cn5_0 := row_next2 gn5_V1 hHeld
    have cb_0 := below_next hb_V1 hb_V1.size hHeld
    have cl_0 := hlaV1.next hHeld
    clear hHeld
    refine step_row (by rfl) 50 (.tmp 2) (.tmp 15) rfl (w.heap.size + 1) (bv z128) rfl rfl 50 _ cb1_0.out (by rw [bv_len, z128_len]; kernel_rfl) (by rw [List.size_toArray]) (bv_one _) ?_
    intro W5 cb1_1 kR
    refine hK.out _ _ trivial (fun hHeld => ?_)
    have cb0_1 := row_but cb0_0 kR (by omega)
    have cn4_1 := row_but cn4_0 kR (by omega)
    have cn5_1 := row_but cn5_0 kR (by omega)
    have cb_1 := But.below cb_0 kR (by omega) cb_0.size
    have cl_1 := cl_0.but (by omega) (by omega) kR
    clear hK K kR cb_0 cb0_0 cb1_0 cn4_0 cn5_0 cl_0
    try simp only [pu]
    refine wpAnyH_take (i := 2) (oi := ⟨(some 3), _, _, _, _, _⟩) (v := (Value.bool false)) rfl (by kernel_rfl) (by kernel_rfl) (by kernel_rfl) (fun _ _ _ h => h) (Or.inl ⟨by rfl, ?yqV1_2_2⟩) hHeld ?_
    case yqV1_2_2 => (intro W0 hSw; go_simp; try with_reducible rfl)
    try simp only [pu]
    refine wpAnyH_done (by kernel_rfl) ?_ _
    obtain ⟨V2, rV2⟩ : ∃ X, X = W5 := ⟨_, rfl⟩
    subst rV2
    have gb0_V2 := cb0_1
    have sb0_V2 := row_size gb0_V2
    have gb1_V2 := cb1_1
    have sb1_V2 := row_size gb1_V2
    have gn4_V2 := cn4_1
    have sn4_V2 := row_size gn4_V2
    have gn5_V2 := cn5_1
    have sn5_V2 := row_size gn5_V2
    have hb_V2 := cb_1
    have hlaV2 := cl_1
    clear hHeld cb_1 hb_V1 cl_1 hlaV1 cb0_1 cb1_1 cn4_1 cn5_1 sb0_V1 sb1_V1 sn4_V1 sn5_V1 gb0_V1 gb1_V1 gn4_V1 gn5_V1
    go_wp2_with fail
    refine bodyPost_ret (v := .tuple #[.agg (bv z128).toArray, .bool false]) (results_row_tmp Tryd.results31 _ _ (w.heap.size + 1) 50 _ (0, 0) _ rfl gb1_V2.out Tryd.underlying50 rfl (by rw [List.size_toArray, bv_len, z128_len]; kernel_rfl) _ rfl) rfl ⟨z128, false, rfl, HF, z128_len, hb_V2⟩
  · go_upto_region 4 with fail
    refine c_start (S := fun W' => Below V1.heap.size V1 W') 7 (by kernel_rfl) ((Below.refl _ _).drew) (fun hHeld => ?_)
    refine c_read (i := 0) (oi := ⟨(some 16), _, _, _, _, _⟩) (v := _) rfl (by decide) (by kernel_rfl) (by kernel_rfl) (by kernel_rfl) (by kernel_rfl) (by kernel_rfl) (fun _ _ _ h => h) (yieldsIf_load_mid (by rfl) _ _ rfl G4 0 rfl (bv x9) _ (fun W' hW' => range_row ((hW'.block _ sn4_V1).trans gn4_V1.out)) (Tryd.underlying23) rfl (by rw [bv_len, h9.out]; kernel_rfl)) hHeld ?_
    try simp only [pu]
    refine c_read (i := 1) (oi := ⟨(some 17), _, _, _, _, _⟩) (v := _) rfl (by decide) (by kernel_rfl) (by kernel_rfl) (by kernel_rfl) (by kernel_rfl) (by kernel_rfl) (fun _ _ _ h => h) (yieldsIf_load_mid (by rfl) _ _ rfl G5 0 rfl (bv y9) _ (fun W' hW' => range_row ((hW'.block _ sn5_V1).trans gn5_V1.out)) (Tryd.underlying23) rfl (by rw [bv_len, j9.out]; kernel_rfl)) hHeld ?_
    try simp only [pu]
    refine c_take (i := 2) (oi := ⟨(some 18), _, _, _, _, _⟩) (v := _) rfl (by decide) (by kernel_rfl) (by kernel_rfl) (by kernel_rfl) (fun _ _ _ h => h) (yields_build (by rfl) _ _ rfl [(0, .int .u8 1)] (by rfl) _ hb1) hHeld ?_
    try simp only [pu]
    refine c_read (i := 3) (oi := ⟨(some 19), _, _, _, _, _⟩) (v := _) rfl (by decide) (by kernel_rfl) (by kernel_rfl) (by kernel_rfl) (by kernel_rfl) (by kernel_rfl) (fun _ _ _ h => h) (yieldsIf_load_mid (by rfl) _ _ rfl G4 0 rfl (bv x9) _ (fun W' hW' => range_row ((hW'.block _ sn4_V1).trans gn4_V1.out)) (Tryd.underlying23) rfl (by rw [bv_len, h9.out]; kernel_rfl)) hHeld ?_
    try simp only [pu]
    refine c_read (i := 4) (oi := ⟨(some 20), _, _, _, _, _⟩) (v := _) rfl (by decide) (by kernel_rfl) (by kernel_rfl) (by kernel_rfl) (by kernel_rfl) (by kernel_rfl) (fun _ _ _ h => h) (yieldsIf_load_mid (by rfl) _ _ rfl G5 0 rfl (bv y9) _ (fun W' hW' => range_row ((hW'.block _ sn5_V1).trans gn5_V1.out)) (Tryd.underlying23) rfl (by rw [bv_len, j9.out]; kernel_rfl)) hHeld ?_
    try simp only [pu]
    refine c_step (i := 5) (o := ⟨(some 21), _, _, _, _, _⟩) (by kernel_rfl) rfl (fun K hK => ?_)
    go_simp
    refine (fmul_any _ x9 y9 (h9.out) (j9.out)).mono ?_
    rintro e W5 ⟨v21, rfl, e21, h21, hb5⟩
    refine hK.out _ _ (below_next hHeld hHeld.size hb5) (fun hHeld => ?_)
    clear hK K hb5
    try simp only [pu]
    obtain ⟨p6, ep6⟩ : ∃ p, p = x9 ++ (y9 ++ (ONE ++ (v21))) := ⟨_, rfl⟩
    have bp6 := built_place x9 y9 ONE v21 (h9.out) (j9.out) (HONE.out) (h21.out)
    rw [← ep6] at bp6
    have hp6 := Lib.hid (show p6.length = 128 by rw [ep6]; simp [h9.out, j9.out, HONE.out, h21.out])
    have vp6 := vlt ep6
    clear ep6
    refine c_take (i := 6) (oi := ⟨(some 22), _, _, _, _, _⟩) (v := _) rfl (by decide) (by kernel_rfl) (by kernel_rfl) (by kernel_rfl) (fun _ _ _ h => h) (yields_build (by rfl) _ _ rfl [(0, .agg (bv x9).toArray), (1, .agg (bv y9).toArray), (2, .agg (bv ONE).toArray), (3, .agg (bv v21).toArray)] (by rfl) _ bp6) hHeld ?_
    try simp only [pu]
    refine c_call (S' := fun _ => True) (o := ⟨none, _, _, _, _, _⟩) (by kernel_rfl) (by kernel_rfl) rfl (fun K hK => ?_)
    have cb0_0 := row_next2 gb0_V1 hHeld
    have cb1_0 := row_next2 gb1_V1 hHeld
    have cn4_0 := row_next2 gn4_V1 hHeld
    have cn5_0 := row_next2 gn5_V1 hHeld
    have cb_0 := below_next hb_V1 hb_V1.size hHeld
    have cl_0 := hlaV1.next hHeld
    clear hHeld
    refine step_row (by rfl) 50 (.tmp 2) (.tmp 22) rfl (w.heap.size + 1) (bv p6) rfl rfl 50 _ cb1_0.out (by rw [bv_len, hp6.out]; kernel_rfl) (by rw [List.size_toArray, bv_len, z128_len, bv_len, hp6.out]) (bv_one _) ?_
    intro W6 cb1_1 kR
    refine hK.out _ _ trivial (fun hHeld => ?_)
    have cb0_1 := row_but cb0_0 kR (by omega)
    have cn4_1 := row_but cn4_0 kR (by omega)
    have cn5_1 := row_but cn5_0 kR (by omega)
    have cb_1 := But.below cb_0 kR (by omega) cb_0.size
    have cl_1 := cl_0.but (by omega) (by omega) kR
    clear hK K kR cb_0 cb0_0 cb1_0 cn4_0 cn5_0 cl_0
    try simp only [pu]
    refine wpAnyH_take (i := 8) (oi := ⟨(some 3), _, _, _, _, _⟩) (v := (Value.bool true)) rfl (by kernel_rfl) (by kernel_rfl) (by kernel_rfl) (fun _ _ _ h => h) (Or.inl ⟨by rfl, ?yqV1_2_8⟩) hHeld ?_
    case yqV1_2_8 => (intro W0 hSw; go_simp; try with_reducible rfl)
    try simp only [pu]
    refine wpAnyH_done (by kernel_rfl) ?_ _
    obtain ⟨V2, rV2⟩ : ∃ X, X = W6 := ⟨_, rfl⟩
    subst rV2
    have gb0_V2 := cb0_1
    have sb0_V2 := row_size gb0_V2
    have gb1_V2 := cb1_1
    have sb1_V2 := row_size gb1_V2
    have gn4_V2 := cn4_1
    have sn4_V2 := row_size gn4_V2
    have gn5_V2 := cn5_1
    have sn5_V2 := row_size gn5_V2
    have hb_V2 := cb_1
    have hlaV2 := cl_1
    clear hHeld cb_1 hb_V1 cl_1 hlaV1 cb0_1 cb1_1 cn4_1 cn5_1 sb0_V1 sb1_V1 sn4_V1 sn5_V1 gb0_V1 gb1_V1 gn4_V1 gn5_V1
    have HF := vlt (show PoIs a p6 true from ⟨fun _ => ⟨(cW x9, cW y9), plE_four vp6.out h9.out j9.out HONE.out h21.out (by rw [H1.out, e21.out.1]; exact rep_one (cW x9, cW y9)) (e9.out.1 rfl).2.2.1, (e9.out.1 rfl).2.2⟩, fun h => (by cases h)⟩)
    go_wp2_with fail
    refine bodyPost_ret (v := .tuple #[.agg (bv p6).toArray, .bool true]) (results_row_tmp Tryd.results31 _ _ (w.heap.size + 1) 50 _ (0, 0) _ rfl gb1_V2.out Tryd.underlying50 rfl (by rw [List.size_toArray, bv_len, hp6.out]; kernel_rfl) _ rfl) rfl ⟨p6, true, rfl, HF, hp6, hb_V2⟩
set_option maxRecDepth 100000 in
set_option maxHeartbeats 4000000 in
theorem pgood_any (w : World) (hla : LaidP w) (a : List UInt8) (ha : a.length = 32) :
    Calls Tryd.prog 17 #[.agg (bv a).toArray] w fun e w' => ∃ ok, e = .returned (.bool ok) ∧ Vlt (GdIs a ok) ∧ Below w.heap.size w w' := by
  have hzw := zero_word
  obtain ⟨V0, hW, gb0_V0, hb_V0, hsW⟩ := one_new w (bv a).toArray 23
  have HW := Lib.hid hW
  have Hha := Lib.hid ha
  have sb0_V0 := row_size gb0_V0
  have hlaV0 := hla.next hb_V0
  have gl1 := hla.size
  have gl2 := hla.turn.2
  clear hla
  clear hW hsW ha
  go_enter Tryd.func17, Tryd.ntmps17
  go_upto_region 1 with fail
  rw [HW.out]
  refine plain_start (S := fun W' => Below V0.heap.size V0 W') (by kernel_rfl) (Below.refl _ _) (fun hHeld => ?_)
  refine wpAnyH_take (i := 0) (oi := ⟨(some 7), _, _, _, _, _⟩) (v := _) rfl (by kernel_rfl) (by kernel_rfl) (by kernel_rfl) (fun _ _ _ h => h) (yieldsIf_load_mid (by rfl) _ _ rfl (w.heap.size) 0 rfl (bv a) _ (fun W' hW' => range_row ((hW'.block _ sb0_V0).trans gb0_V0.out)) (Tryd.underlying23) rfl (by rw [bv_len, Hha.out]; kernel_rfl)) hHeld ?_
  try simp only [pu]
  refine mix_start (B := V0.heap.size) (al := [⟨6, 3, 23, ((bv z32)).toArray⟩, ⟨7, 4, 23, ((bv z32)).toArray⟩]) (fuel := 8) rfl hHeld (hHeld.size) ?_
  clear hHeld
  refine mix_call (i := 1) (o := ⟨(some 8), _, _, _, _, _⟩) rfl (by kernel_rfl) (by kernel_rfl) (by kernel_rfl) (by kernel_rfl) (fun x hx => by simp only [List.mem_cons, List.not_mem_nil, or_false] at hx; rcases hx with rfl | rfl <;> first | exact makes_new rfl rfl rfl rfl zero_word) (fun W x _ h => h.alloc h.size _) (fun _ _ _ _ _ h => h) (fun X1 hHeld hBX K hK => ?_)
  go_simp
  refine (read_any _ (hlaV0.next hHeld) a (Hha.out)).mono ?_
  rintro e W1 ⟨x8, y8, o8, rfl, e8, h8, j8, hb1⟩
  refine hK.out _ _ (below_next hHeld hHeld.size hb1) hb1 ?_
  clear hK K hHeld hBX hb1
  try simp only [pu]
  refine mix_take (i := 2) (o := ⟨(some 6), _, _, _, _, _⟩) (v := ?vqV0_1_2) rfl (by kernel_rfl) (by kernel_rfl) (by kernel_rfl) (by kernel_rfl) (by kernel_rfl) (fun _ _ _ h => h) (Or.inl ⟨by rfl, ?yqV0_1_2⟩) ?_
  case yqV0_1_2 => (intro W0 hSw; go_simp; try with_reducible rfl)
  try simp only [pu]
  refine mix_take (i := 3) (o := ⟨(some 9), _, _, _, _, _⟩) (v := .agg (bv x8).toArray) rfl (by kernel_rfl) (by kernel_rfl) (by kernel_rfl) (by kernel_rfl) (by kernel_rfl) (fun _ _ _ h => h) (Or.inl ⟨by rfl, ?yqV0_1_3⟩) ?_
  case yqV0_1_3 => (intro W0 hSw; go_simp; try with_reducible rfl)
  try simp only [pu]
  refine mix_take (i := 4) (o := ⟨(some 10), _, _, _, _, _⟩) (v := .agg (bv y8).toArray) rfl (by kernel_rfl) (by kernel_rfl) (by kernel_rfl) (by kernel_rfl) (by kernel_rfl) (fun _ _ _ h => h) (Or.inl ⟨by rfl, ?yqV0_1_4⟩) ?_
  case yqV0_1_4 => (intro W0 hSw; go_simp; try with_reducible rfl)
  try simp only [pu]
  refine mix_take (i := 5) (o := ⟨(some 11), _, _, _, _, _⟩) (v := .bool o8) rfl (by kernel_rfl) (by kernel_rfl) (by kernel_rfl) (by kernel_rfl) (by kernel_rfl) (fun _ _ _ h => h) (Or.inl ⟨by rfl, ?yqV0_1_5⟩) ?_
  case yqV0_1_5 => (intro W0 hSw; go_simp; try with_reducible rfl)
  try simp only [pu]
  refine mix_end (by kernel_rfl) (by kernel_rfl) (by simp) (by simp) (fun x hx => by simp only [List.mem_cons, List.not_mem_nil, or_false] at hx; rcases hx with rfl | rfl <;> first | exact makes_new rfl rfl rfl rfl zero_word) (fun W x _ h => h.alloc h.size _) (fun D hD W2 hHeld hBX hHo => ?_)
  obtain ⟨G3, G4, rfl⟩ := v_two hD
  have xG3 : Hid (W2.heap[G3]? = some (.cells ((bv z32)).toArray 23 (0, 0))) := hHo.row (⟨6, 3, 23, ((bv z32)).toArray⟩, G3) (by simp)
  have lG3 : V0.heap.size ≤ G3 := hHo.new (⟨6, 3, 23, ((bv z32)).toArray⟩, G3) (by simp)
  have xG4 : Hid (W2.heap[G4]? = some (.cells ((bv z32)).toArray 23 (0, 0))) := hHo.row (⟨7, 4, 23, ((bv z32)).toArray⟩, G4) (by simp)
  have lG4 : V0.heap.size ≤ G4 := hHo.new (⟨7, 4, 23, ((bv z32)).toArray⟩, G4) (by simp)
  have hnd := hHo.nodup
  simp only [List.map_cons, List.map_nil, List.nodup_cons, List.mem_cons, List.not_mem_nil, or_false, not_false_eq_true, List.nodup_nil, and_true] at hnd
  have nG3G4 := hnd
  clear hnd
  clear hHo hBX hD
  simp only [markD, putD, List.foldr_cons, List.foldr_nil, pu, List.setIfInBounds_toArray, List.set_cons_zero, List.set_cons_succ]
  refine wpAnyH_ready (rs := [8]) (by kernel_rfl) (by simp) ?_
  refine AllReadyH.cons (i := 8) (o := ⟨none, _, _, _, _, _⟩) rfl (fun K hK => ?_) AllReadyH.nil
  refine step_row (by rfl) 23 (.tmp 3) (.tmp 9) rfl G3 (bv x8) rfl rfl 23 _ xG3.out (by rw [bv_len, h8.out]; kernel_rfl) (by rw [List.size_toArray, bv_len, bv_len, h8.out, z32_len]) (bv_one _) ?_
  intro W3 yG3 kG3
  have zG4 := row_but xG4 kG3 (by omega)
  clear xG4
  have xG4 := zG4
  clear zG4
  refine hK.out _ _ (But.below hHeld kG3 lG3 hHeld.size) (fun hHeld => ?_)
  clear hK K kG3 xG3
  have xG3 := yG3
  clear yG3
  try simp only [pu]
  refine wpAnyH_ready (rs := [9]) (by kernel_rfl) (by simp) ?_
  refine AllReadyH.cons (i := 9) (o := ⟨none, _, _, _, _, _⟩) rfl (fun K hK => ?_) AllReadyH.nil
  refine step_row (by rfl) 23 (.tmp 4) (.tmp 10) rfl G4 (bv y8) rfl rfl 23 _ xG4.out (by rw [bv_len, j8.out]; kernel_rfl) (by rw [List.size_toArray, bv_len, bv_len, j8.out, z32_len]) (bv_one _) ?_
  intro W4 yG4 kG4
  have zG3 := row_but xG3 kG4 (by omega)
  clear xG3
  have xG3 := zG3
  clear zG3
  refine hK.out _ _ (But.below hHeld kG4 lG4 hHeld.size) (fun hHeld => ?_)
  clear hK K kG4 xG4
  have xG4 := yG4
  clear yG4
  try simp only [pu]
  refine wpAnyH_take (i := 10) (oi := ⟨(some 5), _, _, _, _, _⟩) (v := ?vqV0_1_10) rfl (by kernel_rfl) (by kernel_rfl) (by kernel_rfl) (fun _ _ _ h => h) (Or.inl ⟨by rfl, ?yqV0_1_10⟩) hHeld ?_
  case yqV0_1_10 => (intro W0 hSw; go_simp; try with_reducible rfl)
  try simp only [pu]
  refine wpAnyH_done (by kernel_rfl) ?_ _
  obtain ⟨V1, rV1⟩ : ∃ X, X = W4 := ⟨_, rfl⟩
  subst rV1
  have gb0_V1 := row_next2 gb0_V0 hHeld
  have sb0_V1 := row_size gb0_V1
  have hb_V1 := below_next hb_V0 hb_V0.size hHeld
  have hlaV1 := hlaV0.next hHeld
  have gn3_V1 := xG3
  have sn3_V1 := row_size gn3_V1
  clear xG3
  have gn4_V1 := xG4
  have sn4_V1 := row_size gn4_V1
  clear xG4
  have wG3 : w.heap.size + 1 ≤ G3 := by omega
  have wG4 : w.heap.size + 1 ≤ G4 := by omega
  clear hHeld hb_V0 sb0_V0
  clear gb0_V0 hlaV0 lG3 lG4
  have HF := vlt (show GdIs a o8 by
    rcases o8 with _ | _
    · exact ⟨none, (e8.out.2 rfl).2.2, rfl⟩
    · exact ⟨some _, (e8.out.1 rfl).2.2, rfl⟩)
  go_wp2
  go_ret
  exact ⟨o8, rfl, HF, hb_V1⟩
set_option maxRecDepth 100000 in
set_option maxHeartbeats 4000000 in
theorem pneg_any (w : World) (hla : LaidP w) (a : List UInt8) (ha : a.length = 32) :
    Calls Tryd.prog 11 #[.agg (bv a).toArray] w fun e w' => ∃ l k, e = .returned (.tuple #[.agg (bv l).toArray, .int .i64 k]) ∧ Vlt (NgIs a l k) ∧ Hid (l.length = 32) ∧ Below w.heap.size w w' := by
  have hzw := zero_word
  have hbz := built_z32
  obtain ⟨V0, hW, gb0_V0, gb1_V0, hb_V0, hsW⟩ := pair_new w (bv a).toArray (bv z32).toArray 23 23
  have HW := Lib.hid hW
  have Hha := Lib.hid ha
  have sb0_V0 := row_size gb0_V0
  have sb1_V0 := row_size gb1_V0
  have hlaV0 := hla.next hb_V0
  have gl1 := hla.size
  have gl2 := hla.turn.2
  clear hla
  clear hW hsW ha
  go_enter Tryd.func11, Tryd.ntmps11
  go_upto_region 1 with fail
  rw [HW.out]
  refine plain_start (S := fun W' => Below V0.heap.size V0 W') (by kernel_rfl) (Below.refl _ _) (fun hHeld => ?_)
  refine wpAnyH_take (i := 0) (oi := ⟨(some 8), _, _, _, _, _⟩) (v := _) rfl (by kernel_rfl) (by kernel_rfl) (by kernel_rfl) (fun _ _ _ h => h) (yieldsIf_load_mid (by rfl) _ _ rfl (w.heap.size) 0 rfl (bv a) _ (fun W' hW' => range_row ((hW'.block _ sb0_V0).trans gb0_V0.out)) (Tryd.underlying23) rfl (by rw [bv_len, Hha.out]; kernel_rfl)) hHeld ?_
  try simp only [pu]
  refine mix_start (B := V0.heap.size) (al := [⟨6, 4, 23, ((bv z32)).toArray⟩, ⟨7, 5, 23, ((bv z32)).toArray⟩]) (fuel := 8) rfl hHeld (hHeld.size) ?_
  clear hHeld
  refine mix_call (i := 1) (o := ⟨(some 9), _, _, _, _, _⟩) rfl (by kernel_rfl) (by kernel_rfl) (by kernel_rfl) (by kernel_rfl) (fun x hx => by simp only [List.mem_cons, List.not_mem_nil, or_false] at hx; rcases hx with rfl | rfl <;> first | exact makes_new rfl rfl rfl rfl zero_word) (fun W x _ h => h.alloc h.size _) (fun _ _ _ _ _ h => h) (fun X1 hHeld hBX K hK => ?_)
  go_simp
  refine (read_any _ (hlaV0.next hHeld) a (Hha.out)).mono ?_
  rintro e W1 ⟨x9, y9, o9, rfl, e9, h9, j9, hb1⟩
  refine hK.out _ _ (below_next hHeld hHeld.size hb1) hb1 ?_
  clear hK K hHeld hBX hb1
  try simp only [pu]
  refine mix_take (i := 2) (o := ⟨(some 7), _, _, _, _, _⟩) (v := ?vqV0_1_2) rfl (by kernel_rfl) (by kernel_rfl) (by kernel_rfl) (by kernel_rfl) (by kernel_rfl) (fun _ _ _ h => h) (Or.inl ⟨by rfl, ?yqV0_1_2⟩) ?_
  case yqV0_1_2 => (intro W0 hSw; go_simp; try with_reducible rfl)
  try simp only [pu]
  refine mix_take (i := 3) (o := ⟨(some 10), _, _, _, _, _⟩) (v := .agg (bv x9).toArray) rfl (by kernel_rfl) (by kernel_rfl) (by kernel_rfl) (by kernel_rfl) (by kernel_rfl) (fun _ _ _ h => h) (Or.inl ⟨by rfl, ?yqV0_1_3⟩) ?_
  case yqV0_1_3 => (intro W0 hSw; go_simp; try with_reducible rfl)
  try simp only [pu]
  refine mix_take (i := 4) (o := ⟨(some 11), _, _, _, _, _⟩) (v := .agg (bv y9).toArray) rfl (by kernel_rfl) (by kernel_rfl) (by kernel_rfl) (by kernel_rfl) (by kernel_rfl) (fun _ _ _ h => h) (Or.inl ⟨by rfl, ?yqV0_1_4⟩) ?_
  case yqV0_1_4 => (intro W0 hSw; go_simp; try with_reducible rfl)
  try simp only [pu]
  refine mix_take (i := 5) (o := ⟨(some 12), _, _, _, _, _⟩) (v := .bool o9) rfl (by kernel_rfl) (by kernel_rfl) (by kernel_rfl) (by kernel_rfl) (by kernel_rfl) (fun _ _ _ h => h) (Or.inl ⟨by rfl, ?yqV0_1_5⟩) ?_
  case yqV0_1_5 => (intro W0 hSw; go_simp; try with_reducible rfl)
  try simp only [pu]
  refine mix_end (by kernel_rfl) (by kernel_rfl) (by simp) (by simp) (fun x hx => by simp only [List.mem_cons, List.not_mem_nil, or_false] at hx; rcases hx with rfl | rfl <;> first | exact makes_new rfl rfl rfl rfl zero_word) (fun W x _ h => h.alloc h.size _) (fun D hD W2 hHeld hBX hHo => ?_)
  obtain ⟨G4, G5, rfl⟩ := v_two hD
  have xG4 : Hid (W2.heap[G4]? = some (.cells ((bv z32)).toArray 23 (0, 0))) := hHo.row (⟨6, 4, 23, ((bv z32)).toArray⟩, G4) (by simp)
  have lG4 : V0.heap.size ≤ G4 := hHo.new (⟨6, 4, 23, ((bv z32)).toArray⟩, G4) (by simp)
  have xG5 : Hid (W2.heap[G5]? = some (.cells ((bv z32)).toArray 23 (0, 0))) := hHo.row (⟨7, 5, 23, ((bv z32)).toArray⟩, G5) (by simp)
  have lG5 : V0.heap.size ≤ G5 := hHo.new (⟨7, 5, 23, ((bv z32)).toArray⟩, G5) (by simp)
  have hnd := hHo.nodup
  simp only [List.map_cons, List.map_nil, List.nodup_cons, List.mem_cons, List.not_mem_nil, or_false, not_false_eq_true, List.nodup_nil, and_true] at hnd
  have nG4G5 := hnd
  clear hnd
  clear hHo hBX hD
  simp only [markD, putD, List.foldr_cons, List.foldr_nil, pu, List.setIfInBounds_toArray, List.set_cons_zero, List.set_cons_succ]
  refine wpAnyH_ready (rs := [8]) (by kernel_rfl) (by simp) ?_
  refine AllReadyH.cons (i := 8) (o := ⟨none, _, _, _, _, _⟩) rfl (fun K hK => ?_) AllReadyH.nil
  refine step_row (by rfl) 23 (.tmp 4) (.tmp 10) rfl G4 (bv x9) rfl rfl 23 _ xG4.out (by rw [bv_len, h9.out]; kernel_rfl) (by rw [List.size_toArray, bv_len, bv_len, h9.out, z32_len]) (bv_one _) ?_
  intro W3 yG4 kG4
  have zG5 := row_but xG5 kG4 (by omega)
  clear xG5
  have xG5 := zG5
  clear zG5
  refine hK.out _ _ (But.below hHeld kG4 lG4 hHeld.size) (fun hHeld => ?_)
  clear hK K kG4 xG4
  have xG4 := yG4
  clear yG4
  try simp only [pu]
  refine wpAnyH_ready (rs := [9]) (by kernel_rfl) (by simp) ?_
  refine AllReadyH.cons (i := 9) (o := ⟨none, _, _, _, _, _⟩) rfl (fun K hK => ?_) AllReadyH.nil
  refine step_row (by rfl) 23 (.tmp 5) (.tmp 11) rfl G5 (bv y9) rfl rfl 23 _ xG5.out (by rw [bv_len, j9.out]; kernel_rfl) (by rw [List.size_toArray, bv_len, bv_len, j9.out, z32_len]) (bv_one _) ?_
  intro W4 yG5 kG5
  have zG4 := row_but xG4 kG5 (by omega)
  clear xG4
  have xG4 := zG4
  clear zG4
  refine hK.out _ _ (But.below hHeld kG5 lG5 hHeld.size) (fun hHeld => ?_)
  clear hK K kG5 xG5
  have xG5 := yG5
  clear yG5
  try simp only [pu]
  refine wpAnyH_take (i := 10) (oi := ⟨(some 6), _, _, _, _, _⟩) (v := ?vqV0_1_10) rfl (by kernel_rfl) (by kernel_rfl) (by kernel_rfl) (fun _ _ _ h => h) (Or.inl ⟨by rfl, ?yqV0_1_10⟩) hHeld ?_
  case yqV0_1_10 => (intro W0 hSw; go_simp; try with_reducible rfl)
  try simp only [pu]
  refine wpAnyH_done (by kernel_rfl) ?_ _
  obtain ⟨V1, rV1⟩ : ∃ X, X = W4 := ⟨_, rfl⟩
  subst rV1
  have gb0_V1 := row_next2 gb0_V0 hHeld
  have sb0_V1 := row_size gb0_V1
  have gb1_V1 := row_next2 gb1_V0 hHeld
  have sb1_V1 := row_size gb1_V1
  have hb_V1 := below_next hb_V0 hb_V0.size hHeld
  have hlaV1 := hlaV0.next hHeld
  have gn4_V1 := xG4
  have sn4_V1 := row_size gn4_V1
  clear xG4
  have gn5_V1 := xG5
  have sn5_V1 := row_size gn5_V1
  clear xG5
  have wG4 : w.heap.size + 2 ≤ G4 := by omega
  have wG5 : w.heap.size + 2 ≤ G5 := by omega
  clear hHeld hb_V0 sb0_V0 sb1_V0
  clear gb0_V0 gb1_V0 hlaV0 lG4 lG5
  rcases o9 with _ | _
  · have HF := vlt (show NgIs a z32 3 from ⟨none, (e9.out.2 rfl).2.2, rfl, rfl⟩)
    go_upto_region 3 with fail
    refine plain_start_c (S := fun W' => Below V1.heap.size V1 W') 1 (by kernel_rfl) (Below.refl _ _) (fun hHeld => ?_)
    refine c_take (i := 0) (oi := ⟨(some 15), _, _, _, _, _⟩) (v := _) rfl (by decide) (by kernel_rfl) (by kernel_rfl) (by kernel_rfl) (fun _ _ _ h => h) (yields_build (by rfl) _ _ rfl [] (by rfl) _ hbz) hHeld ?_
    try simp only [pu]
    refine c_call (S' := fun _ => True) (o := ⟨none, _, _, _, _, _⟩) (by kernel_rfl) (by kernel_rfl) rfl (fun K hK => ?_)
    have cb0_0 := row_next2 gb0_V1 hHeld
    have cb1_0 := row_next2 gb1_V1 hHeld
    have cn4_0 := row_next2 gn4_V1 hHeld
    have cn5_0 := row_next2 gn5_V1 hHeld
    have cb_0 := below_next hb_V1 hb_V1.size hHeld
    have cl_0 := hlaV1.next hHeld
    clear hHeld
    refine step_row (by rfl) 23 (.tmp 2) (.tmp 15) rfl (w.heap.size + 1) (bv z32) rfl rfl 23 _ cb1_0.out (by rw [bv_len, z32_len]; kernel_rfl) (by rw [List.size_toArray]) (bv_one _) ?_
    intro W5 cb1_1 kR
    refine hK.out _ _ trivial (fun hHeld => ?_)
    have cb0_1 := row_but cb0_0 kR (by omega)
    have cn4_1 := row_but cn4_0 kR (by omega)
    have cn5_1 := row_but cn5_0 kR (by omega)
    have cb_1 := But.below cb_0 kR (by omega) cb_0.size
    have cl_1 := cl_0.but (by omega) (by omega) kR
    clear hK K kR cb_0 cb0_0 cb1_0 cn4_0 cn5_0 cl_0
    try simp only [pu]
    refine wpAnyH_take (i := 2) (oi := ⟨(some 3), _, _, _, _, _⟩) (v := (Value.int IntKind.i64 3)) rfl (by kernel_rfl) (by kernel_rfl) (by kernel_rfl) (fun _ _ _ h => h) (Or.inl ⟨by rfl, ?yqV1_2_2⟩) hHeld ?_
    case yqV1_2_2 => (intro W0 hSw; go_simp; try with_reducible rfl)
    try simp only [pu]
    refine wpAnyH_done (by kernel_rfl) ?_ _
    obtain ⟨V2, rV2⟩ : ∃ X, X = W5 := ⟨_, rfl⟩
    subst rV2
    have gb0_V2 := cb0_1
    have sb0_V2 := row_size gb0_V2
    have gb1_V2 := cb1_1
    have sb1_V2 := row_size gb1_V2
    have gn4_V2 := cn4_1
    have sn4_V2 := row_size gn4_V2
    have gn5_V2 := cn5_1
    have sn5_V2 := row_size gn5_V2
    have hb_V2 := cb_1
    have hlaV2 := cl_1
    clear hHeld cb_1 hb_V1 cl_1 hlaV1 cb0_1 cb1_1 cn4_1 cn5_1 sb0_V1 sb1_V1 sn4_V1 sn5_V1 gb0_V1 gb1_V1 gn4_V1 gn5_V1
    go_wp2_with fail
    refine bodyPost_ret (v := .tuple #[.agg (bv z32).toArray, .int .i64 3]) (results_row_tmp Tryd.results11 _ _ (w.heap.size + 1) 23 _ (0, 0) _ rfl gb1_V2.out Tryd.underlying23 rfl (by rw [List.size_toArray, bv_len, z32_len]; kernel_rfl) _ rfl) rfl ⟨z32, 3, rfl, HF, z32_len, hb_V2⟩
  · have HR := e9.out.1 rfl
    have HY := vlt HR.2.1
    have HP := vlt HR.2.2
    clear HR e9
    go_upto_region 4 with fail
    refine c_start (S := fun W' => Below V1.heap.size V1 W') 5 (by kernel_rfl) ((Below.refl _ _).drew) (fun hHeld => ?_)
    refine c_take (i := 0) (oi := ⟨(some 16), _, _, _, _, _⟩) (v := _) rfl (by decide) (by kernel_rfl) (by kernel_rfl) (by kernel_rfl) (fun _ _ _ h => h) (yields_build (by rfl) _ _ rfl [] (by rfl) _ hbz) hHeld ?_
    try simp only [pu]
    refine c_read (i := 1) (oi := ⟨(some 17), _, _, _, _, _⟩) (v := _) rfl (by decide) (by kernel_rfl) (by kernel_rfl) (by kernel_rfl) (by kernel_rfl) (by kernel_rfl) (fun _ _ _ h => h) (yieldsIf_load_mid (by rfl) _ _ rfl G4 0 rfl (bv x9) _ (fun W' hW' => range_row ((hW'.block _ sn4_V1).trans gn4_V1.out)) (Tryd.underlying23) rfl (by rw [bv_len, h9.out]; kernel_rfl)) hHeld ?_
    try simp only [pu]
    refine c_read (i := 3) (oi := ⟨(some 19), _, _, _, _, _⟩) (v := _) rfl (by decide) (by kernel_rfl) (by kernel_rfl) (by kernel_rfl) (by kernel_rfl) (by kernel_rfl) (fun _ _ _ h => h) (yieldsIf_load_mid (by rfl) _ _ rfl G5 0 rfl (bv y9) _ (fun W' hW' => range_row ((hW'.block _ sn5_V1).trans gn5_V1.out)) (Tryd.underlying23) rfl (by rw [bv_len, j9.out]; kernel_rfl)) hHeld ?_
    try simp only [pu]
    refine c_step (i := 2) (o := ⟨(some 18), _, _, _, _, _⟩) (by kernel_rfl) rfl (fun K hK => ?_)
    go_simp
    refine (fsub_any _ z32 x9 (z32_len) (h9.out)).mono ?_
    rintro e W5 ⟨v18, rfl, e18, h18, hb5⟩
    refine hK.out _ _ (below_next hHeld hHeld.size hb5) (fun hHeld => ?_)
    clear hK K hb5
    try simp only [pu]
    refine c_step (i := 4) (o := ⟨(some 20), _, _, _, _, _⟩) (by kernel_rfl) rfl (fun K hK => ?_)
    go_simp
    refine (written_any _ v18 y9 (h18.out) (e18.out).2 (j9.out) ((show cW y9 = cW y9 ∧ ln y9 < FP from ⟨rfl, HY.out⟩)).2).mono ?_
    rintro e W6 ⟨v20, rfl, e20, h20, hb6⟩
    refine hK.out _ _ (below_next hHeld hHeld.size hb6) (fun hHeld => ?_)
    clear hK K hb6
    try simp only [pu]
    refine c_call (S' := fun _ => True) (o := ⟨none, _, _, _, _, _⟩) (by kernel_rfl) (by kernel_rfl) rfl (fun K hK => ?_)
    have cb0_0 := row_next2 gb0_V1 hHeld
    have cb1_0 := row_next2 gb1_V1 hHeld
    have cn4_0 := row_next2 gn4_V1 hHeld
    have cn5_0 := row_next2 gn5_V1 hHeld
    have cb_0 := below_next hb_V1 hb_V1.size hHeld
    have cl_0 := hlaV1.next hHeld
    clear hHeld
    refine step_row (by rfl) 23 (.tmp 2) (.tmp 20) rfl (w.heap.size + 1) (bv v20) rfl rfl 23 _ cb1_0.out (by rw [bv_len, h20.out]; kernel_rfl) (by rw [List.size_toArray, bv_len, z32_len, bv_len, h20.out]) (bv_one _) ?_
    intro W7 cb1_1 kR
    refine hK.out _ _ trivial (fun hHeld => ?_)
    have cb0_1 := row_but cb0_0 kR (by omega)
    have cn4_1 := row_but cn4_0 kR (by omega)
    have cn5_1 := row_but cn5_0 kR (by omega)
    have cb_1 := But.below cb_0 kR (by omega) cb_0.size
    have cl_1 := cl_0.but (by omega) (by omega) kR
    clear hK K kR cb_0 cb0_0 cb1_0 cn4_0 cn5_0 cl_0
    try simp only [pu]
    refine wpAnyH_take (i := 6) (oi := ⟨(some 3), _, _, _, _, _⟩) (v := (Value.int IntKind.i64 0)) rfl (by kernel_rfl) (by kernel_rfl) (by kernel_rfl) (fun _ _ _ h => h) (Or.inl ⟨by rfl, ?yqV1_2_6⟩) hHeld ?_
    case yqV1_2_6 => (intro W0 hSw; go_simp; try with_reducible rfl)
    try simp only [pu]
    refine wpAnyH_done (by kernel_rfl) ?_ _
    obtain ⟨V2, rV2⟩ : ∃ X, X = W7 := ⟨_, rfl⟩
    subst rV2
    have gb0_V2 := cb0_1
    have sb0_V2 := row_size gb0_V2
    have gb1_V2 := cb1_1
    have sb1_V2 := row_size gb1_V2
    have gn4_V2 := cn4_1
    have sn4_V2 := row_size gn4_V2
    have gn5_V2 := cn5_1
    have sn5_V2 := row_size gn5_V2
    have hb_V2 := cb_1
    have hlaV2 := cl_1
    clear hHeld cb_1 hb_V1 cl_1 hlaV1 cb0_1 cb1_1 cn4_1 cn5_1 sb0_V1 sb1_V1 sn4_V1 sn5_V1 gb0_V1 gb1_V1 gn4_V1 gn5_V1
    have HF := vlt (show NgIs a v20 0 from ⟨some (cW x9, cW y9), HP.out, (by rw [e20.out, neg_is v18 (cW x9) (by rw [e18.out.1, z32_is])]; rfl), rfl⟩)
    go_wp2_with fail
    refine bodyPost_ret (v := .tuple #[.agg (bv v20).toArray, .int .i64 0]) (results_row_tmp Tryd.results11 _ _ (w.heap.size + 1) 23 _ (0, 0) _ rfl gb1_V2.out Tryd.underlying23 rfl (by rw [List.size_toArray, bv_len, h20.out]; kernel_rfl) _ rfl) rfl ⟨v20, 0, rfl, HF, h20, hb_V2⟩
set_option maxRecDepth 100000 in
set_option maxHeartbeats 4000000 in
theorem pat_any (w : World) (hla : LaidP w) (a : List UInt8) (ha : a.length = 32) :
    Calls Tryd.prog 15 #[.agg (bv a).toArray] w fun e w' => ∃ x y k, e = .returned (.tuple #[.agg (bv x).toArray, .agg (bv y).toArray, .int .i64 k]) ∧ Vlt (AtIs a x y k) ∧ Hid (x.length = 32) ∧ Hid (y.length = 32) ∧ Below w.heap.size w w' := by
  have hzw := zero_word
  have hbz := built_z32
  obtain ⟨V0, hW, gb0_V0, gb1_V0, gb2_V0, hb_V0, hsW⟩ := three_new w (bv a).toArray (bv z32).toArray (bv z32).toArray 23 23 23
  have HW := Lib.hid hW
  have Hha := Lib.hid ha
  have sb0_V0 := row_size gb0_V0
  have sb1_V0 := row_size gb1_V0
  have sb2_V0 := row_size gb2_V0
  have hlaV0 := hla.next hb_V0
  have gl1 := hla.size
  have gl2 := hla.turn.2
  clear hla
  clear hW hsW ha
  go_enter Tryd.func15, Tryd.ntmps15
  go_upto_region 1 with fail
  rw [HW.out]
  refine plain_start_c (S := fun W' => Below V0.heap.size V0 W') 6 (by kernel_rfl) (Below.refl _ _) (fun hHeld => ?_)
  refine c_read (i := 0) (oi := ⟨(some 7), _, _, _, _, _⟩) (v := _) rfl (by decide) (by kernel_rfl) (by kernel_rfl) (by kernel_rfl) (by kernel_rfl) (by kernel_rfl) (fun _ _ _ h => h) (yieldsIf_load_mid (by rfl) _ _ rfl (w.heap.size) 0 rfl (bv a) _ (fun W' hW' => range_row ((hW'.block _ sb0_V0).trans gb0_V0.out)) (Tryd.underlying23) rfl (by rw [bv_len, Hha.out]; kernel_rfl)) hHeld ?_
  try simp only [pu]
  refine c_step (i := 1) (o := ⟨(some 8), _, _, _, _, _⟩) (by kernel_rfl) rfl (fun K hK => ?_)
  go_simp
  refine (read_any _ (hlaV0.next hHeld) a (Hha.out)).mono ?_
  rintro e W1 ⟨x8, y8, o8, rfl, e8, h8, j8, hb1⟩
  refine hK.out _ _ (below_next hHeld hHeld.size hb1) (fun hHeld => ?_)
  clear hK K hb1
  try simp only [pu]
  refine c_take (i := 2) (oi := ⟨(some 6), _, _, _, _, _⟩) (v := ?vqV0_1_2) rfl (by decide) (by kernel_rfl) (by kernel_rfl) (by kernel_rfl) (fun _ _ _ h => h) (Or.inl ⟨by rfl, ?yqV0_1_2⟩) hHeld ?_
  case yqV0_1_2 => (intro W0 hSw; go_simp; try with_reducible rfl)
  try simp only [pu]
  refine c_take (i := 3) (oi := ⟨(some 9), _, _, _, _, _⟩) (v := .agg (bv x8).toArray) rfl (by decide) (by kernel_rfl) (by kernel_rfl) (by kernel_rfl) (fun _ _ _ h => h) (Or.inl ⟨by rfl, ?yqV0_1_3⟩) hHeld ?_
  case yqV0_1_3 => (intro W0 hSw; go_simp; try with_reducible rfl)
  try simp only [pu]
  refine c_take (i := 4) (oi := ⟨(some 10), _, _, _, _, _⟩) (v := .agg (bv y8).toArray) rfl (by decide) (by kernel_rfl) (by kernel_rfl) (by kernel_rfl) (fun _ _ _ h => h) (Or.inl ⟨by rfl, ?yqV0_1_4⟩) hHeld ?_
  case yqV0_1_4 => (intro W0 hSw; go_simp; try with_reducible rfl)
  try simp only [pu]
  refine c_take (i := 5) (oi := ⟨(some 11), _, _, _, _, _⟩) (v := .bool o8) rfl (by decide) (by kernel_rfl) (by kernel_rfl) (by kernel_rfl) (fun _ _ _ h => h) (Or.inl ⟨by rfl, ?yqV0_1_5⟩) hHeld ?_
  case yqV0_1_5 => (intro W0 hSw; go_simp; try with_reducible rfl)
  try simp only [pu]
  refine c_call (S' := fun _ => True) (o := ⟨none, _, _, _, _, _⟩) (by kernel_rfl) (by kernel_rfl) rfl (fun K hK => ?_)
  have cb0_0 := row_next2 gb0_V0 hHeld
  have cb1_0 := row_next2 gb1_V0 hHeld
  have cb2_0 := row_next2 gb2_V0 hHeld
  have cb_0 := below_next hb_V0 hb_V0.size hHeld
  have cl_0 := hlaV0.next hHeld
  clear hHeld
  refine step_row (by rfl) 23 (.tmp 2) (.tmp 9) rfl (w.heap.size + 1) (bv x8) rfl rfl 23 _ cb1_0.out (by rw [bv_len, h8.out]; kernel_rfl) (by rw [List.size_toArray, bv_len, z32_len, bv_len, h8.out]) (bv_one _) ?_
  intro W2 cb1_1 kR
  refine hK.out _ _ trivial (fun hHeld => ?_)
  have cb0_1 := row_but cb0_0 kR (by omega)
  have cb2_1 := row_but cb2_0 kR (by omega)
  have cb_1 := But.below cb_0 kR (by omega) cb_0.size
  have cl_1 := cl_0.but (by omega) (by omega) kR
  clear hK K kR cb_0 cb0_0 cb1_0 cb2_0 cl_0
  try simp only [pu]
  refine wpAnyH_ready (rs := [7]) (by kernel_rfl) (by simp) ?_
  refine AllReadyH.cons (i := 7) (o := ⟨none, _, _, _, _, _⟩) rfl (fun K hK => ?_) AllReadyH.nil
  refine step_row (by rfl) 23 (.tmp 3) (.tmp 10) rfl (w.heap.size + 2) (bv y8) rfl rfl 23 _ cb2_1.out (by rw [bv_len, j8.out]; kernel_rfl) (by rw [List.size_toArray, bv_len, z32_len, bv_len, j8.out]) (bv_one _) ?_
  intro W3 cb2_2 kR
  refine hK.out _ _ trivial (fun hHeld => ?_)
  have cb0_2 := row_but cb0_1 kR (by omega)
  have cb1_2 := row_but cb1_1 kR (by omega)
  have cb_2 := But.below cb_1 kR (by omega) cb_1.size
  have cl_2 := cl_1.but (by omega) (by omega) kR
  clear hK K kR cb_1 cb0_1 cb1_1 cb2_1 cl_1
  try simp only [pu]
  refine wpAnyH_take (i := 8) (oi := ⟨(some 5), _, _, _, _, _⟩) (v := ?vqV0_1_8) rfl (by kernel_rfl) (by kernel_rfl) (by kernel_rfl) (fun _ _ _ h => h) (Or.inl ⟨by rfl, ?yqV0_1_8⟩) hHeld ?_
  case yqV0_1_8 => (intro W0 hSw; go_simp; try with_reducible rfl)
  try simp only [pu]
  refine wpAnyH_done (by kernel_rfl) ?_ _
  obtain ⟨V1, rV1⟩ : ∃ X, X = W3 := ⟨_, rfl⟩
  subst rV1
  have gb0_V1 := cb0_2
  have sb0_V1 := row_size gb0_V1
  have gb1_V1 := cb1_2
  have sb1_V1 := row_size gb1_V1
  have gb2_V1 := cb2_2
  have sb2_V1 := row_size gb2_V1
  have hb_V1 := cb_2
  have hlaV1 := cl_2
  clear hHeld cb_2 hb_V0 cl_2 hlaV0 cb0_2 cb1_2 cb2_2 sb0_V0 sb1_V0 sb2_V0 gb0_V0 gb1_V0 gb2_V0
  rcases o8 with _ | _
  · have HF := vlt (show AtIs a z32 z32 3 from ⟨none, (e8.out.2 rfl).2.2, rfl, rfl, rfl⟩)
    go_upto_region 3 with fail
    refine plain_start_c (S := fun W' => Below V1.heap.size V1 W') 2 (by kernel_rfl) (Below.refl _ _) (fun hHeld => ?_)
    refine c_take (i := 0) (oi := ⟨(some 14), _, _, _, _, _⟩) (v := _) rfl (by decide) (by kernel_rfl) (by kernel_rfl) (by kernel_rfl) (fun _ _ _ h => h) (yields_build (by rfl) _ _ rfl [] (by rfl) _ hbz) hHeld ?_
    try simp only [pu]
    refine c_take (i := 1) (oi := ⟨(some 15), _, _, _, _, _⟩) (v := _) rfl (by decide) (by kernel_rfl) (by kernel_rfl) (by kernel_rfl) (fun _ _ _ h => h) (yields_build (by rfl) _ _ rfl [] (by rfl) _ hbz) hHeld ?_
    try simp only [pu]
    refine c_call (S' := fun _ => True) (o := ⟨none, _, _, _, _, _⟩) (by kernel_rfl) (by kernel_rfl) rfl (fun K hK => ?_)
    have cb0_0 := row_next2 gb0_V1 hHeld
    have cb1_0 := row_next2 gb1_V1 hHeld
    have cb2_0 := row_next2 gb2_V1 hHeld
    have cb_0 := below_next hb_V1 hb_V1.size hHeld
    have cl_0 := hlaV1.next hHeld
    clear hHeld
    refine step_row (by rfl) 23 (.tmp 2) (.tmp 14) rfl (w.heap.size + 1) (bv z32) rfl rfl 23 _ cb1_0.out (by rw [bv_len, z32_len]; kernel_rfl) (by rw [List.size_toArray, bv_len, h8.out, bv_len, z32_len]) (bv_one _) ?_
    intro W4 cb1_1 kR
    refine hK.out _ _ trivial (fun hHeld => ?_)
    have cb0_1 := row_but cb0_0 kR (by omega)
    have cb2_1 := row_but cb2_0 kR (by omega)
    have cb_1 := But.below cb_0 kR (by omega) cb_0.size
    have cl_1 := cl_0.but (by omega) (by omega) kR
    clear hK K kR cb_0 cb0_0 cb1_0 cb2_0 cl_0
    try simp only [pu]
    refine wpAnyH_ready (rs := [3]) (by kernel_rfl) (by simp) ?_
    refine AllReadyH.cons (i := 3) (o := ⟨none, _, _, _, _, _⟩) rfl (fun K hK => ?_) AllReadyH.nil
    refine step_row (by rfl) 23 (.tmp 3) (.tmp 15) rfl (w.heap.size + 2) (bv z32) rfl rfl 23 _ cb2_1.out (by rw [bv_len, z32_len]; kernel_rfl) (by rw [List.size_toArray, bv_len, j8.out, bv_len, z32_len]) (bv_one _) ?_
    intro W5 cb2_2 kR
    refine hK.out _ _ trivial (fun hHeld => ?_)
    have cb0_2 := row_but cb0_1 kR (by omega)
    have cb1_2 := row_but cb1_1 kR (by omega)
    have cb_2 := But.below cb_1 kR (by omega) cb_1.size
    have cl_2 := cl_1.but (by omega) (by omega) kR
    clear hK K kR cb_1 cb0_1 cb1_1 cb2_1 cl_1
    try simp only [pu]
    refine wpAnyH_take (i := 4) (oi := ⟨(some 4), _, _, _, _, _⟩) (v := (Value.int IntKind.i64 3)) rfl (by kernel_rfl) (by kernel_rfl) (by kernel_rfl) (fun _ _ _ h => h) (Or.inl ⟨by rfl, ?yqV1_2_4⟩) hHeld ?_
    case yqV1_2_4 => (intro W0 hSw; go_simp; try with_reducible rfl)
    try simp only [pu]
    refine wpAnyH_done (by kernel_rfl) ?_ _
    obtain ⟨V2, rV2⟩ : ∃ X, X = W5 := ⟨_, rfl⟩
    subst rV2
    have gb0_V2 := cb0_2
    have sb0_V2 := row_size gb0_V2
    have gb1_V2 := cb1_2
    have sb1_V2 := row_size gb1_V2
    have gb2_V2 := cb2_2
    have sb2_V2 := row_size gb2_V2
    have hb_V2 := cb_2
    have hlaV2 := cl_2
    clear hHeld cb_2 hb_V1 cl_2 hlaV1 cb0_2 cb1_2 cb2_2 sb0_V1 sb1_V1 sb2_V1 gb0_V1 gb1_V1 gb2_V1
    go_wp2_with fail
    refine bodyPost_ret (v := .tuple #[.agg (bv z32).toArray, .agg (bv z32).toArray, .int .i64 3]) (results_rows_tmp Tryd.results15 _ _ (w.heap.size + 1) 23 _ (0, 0) _ rfl gb1_V2.out Tryd.underlying23 rfl (by rw [List.size_toArray, bv_len, z32_len]; kernel_rfl) (w.heap.size + 2) 23 _ (0, 0) _ rfl gb2_V2.out Tryd.underlying23 rfl (by rw [List.size_toArray, bv_len, z32_len]; kernel_rfl) _ rfl) rfl ⟨z32, z32, 3, rfl, HF, z32_len, z32_len, hb_V2⟩
  · have HF := vlt (show AtIs a x8 y8 0 by
      obtain ⟨hx, hy, hp⟩ := e8.out.1 rfl
      exact ⟨some (cW x8, cW y8), hp, (le_cW x8 h8.out hx).symm, (le_cW y8 j8.out hy).symm, rfl⟩)
    go_upto_region 4 with fail
    refine wp_region_held_drew (S := fun W' => Below V1.heap.size V1 W') (by kernel_rfl) ((Below.refl _ _).drew) (fun hHeld => ?_)
    refine wpAnyH_take (i := 0) (oi := ⟨(some 16), _, _, _, _, _⟩) (v := _) rfl (by kernel_rfl) (by kernel_rfl) (by kernel_rfl) (fun _ _ _ h => h) (yieldsIf_load_mid (by rfl) _ _ rfl (w.heap.size + 1) 0 rfl (bv x8) _ (fun W' hW' => range_row ((hW'.block _ sb1_V1).trans gb1_V1.out)) (Tryd.underlying23) rfl (by rw [bv_len, h8.out]; kernel_rfl)) hHeld ?_
    try simp only [pu]
    refine wpAnyH_take (i := 1) (oi := ⟨(some 17), _, _, _, _, _⟩) (v := _) rfl (by kernel_rfl) (by kernel_rfl) (by kernel_rfl) (fun _ _ _ h => h) (yieldsIf_load_mid (by rfl) _ _ rfl (w.heap.size + 2) 0 rfl (bv y8) _ (fun W' hW' => range_row ((hW'.block _ sb2_V1).trans gb2_V1.out)) (Tryd.underlying23) rfl (by rw [bv_len, j8.out]; kernel_rfl)) hHeld ?_
    try simp only [pu]
    refine wpAnyH_ready (rs := [2]) (by kernel_rfl) (by simp) ?_
    refine AllReadyH.cons (i := 2) (o := ⟨none, _, _, _, _, _⟩) rfl (fun K hK => ?_) AllReadyH.nil
    refine step_same (by rfl) 23 (.tmp 2) (.tmp 16) rfl (w.heap.size + 1) (bv x8) rfl rfl 23 (row_next2 gb1_V1 hHeld).out (by rw [bv_len, h8.out]; kernel_rfl) (bv_one _) ?_
    intro W4 kR
    refine hK.out _ _ (below_next hHeld hHeld.size kR) (fun hHeld => ?_)
    clear hK K kR
    try simp only [pu]
    refine wpAnyH_ready (rs := [3]) (by kernel_rfl) (by simp) ?_
    refine AllReadyH.cons (i := 3) (o := ⟨none, _, _, _, _, _⟩) rfl (fun K hK => ?_) AllReadyH.nil
    refine step_same (by rfl) 23 (.tmp 3) (.tmp 17) rfl (w.heap.size + 2) (bv y8) rfl rfl 23 (row_next2 gb2_V1 hHeld).out (by rw [bv_len, j8.out]; kernel_rfl) (bv_one _) ?_
    intro W5 kR
    refine hK.out _ _ (below_next hHeld hHeld.size kR) (fun hHeld => ?_)
    clear hK K kR
    try simp only [pu]
    refine wpAnyH_take (i := 4) (oi := ⟨(some 4), _, _, _, _, _⟩) (v := (Value.int IntKind.i64 0)) rfl (by kernel_rfl) (by kernel_rfl) (by kernel_rfl) (fun _ _ _ h => h) (Or.inl ⟨by rfl, ?yqV1_2_4⟩) hHeld ?_
    case yqV1_2_4 => (intro W0 hSw; go_simp; try with_reducible rfl)
    try simp only [pu]
    refine wpAnyH_done (by kernel_rfl) ?_ _
    obtain ⟨V2, rV2⟩ : ∃ X, X = W5 := ⟨_, rfl⟩
    subst rV2
    have gb0_V2 := row_next2 gb0_V1 hHeld
    have sb0_V2 := row_size gb0_V2
    have gb1_V2 := row_next2 gb1_V1 hHeld
    have sb1_V2 := row_size gb1_V2
    have gb2_V2 := row_next2 gb2_V1 hHeld
    have sb2_V2 := row_size gb2_V2
    have hb_V2 := below_next hb_V1 hb_V1.size hHeld
    have hlaV2 := hlaV1.next hHeld
    clear hHeld hb_V1 sb0_V1 sb1_V1 sb2_V1
    clear gb0_V1 gb1_V1 gb2_V1 hlaV1
    go_wp2_with fail
    refine bodyPost_ret (v := .tuple #[.agg (bv x8).toArray, .agg (bv y8).toArray, .int .i64 0]) (results_rows_tmp Tryd.results15 _ _ (w.heap.size + 1) 23 _ (0, 0) _ rfl gb1_V2.out Tryd.underlying23 rfl (by rw [List.size_toArray, bv_len, h8.out]; kernel_rfl) (w.heap.size + 2) 23 _ (0, 0) _ rfl gb2_V2.out Tryd.underlying23 rfl (by rw [List.size_toArray, bv_len, j8.out]; kernel_rfl) _ rfl) rfl ⟨x8, y8, 0, rfl, HF, h8, j8, hb_V2⟩
set_option maxRecDepth 100000 in
set_option maxHeartbeats 4000000 in
theorem padd_any (w : World) (hla : LaidP w) (a b : List UInt8) (ha : a.length = 32) (hb : b.length = 32) :
    Calls Tryd.prog 9 #[.agg (bv a).toArray, .agg (bv b).toArray] w fun e w' => ∃ l k, e = .returned (.tuple #[.agg (bv l).toArray, .int .i64 k]) ∧ Vlt (AdIs a b l k) ∧ Hid (l.length = 32) ∧ Below w.heap.size w w' := by
  have hzw := zero_word
  have hzp := zero_place
  have hbz := built_z32
  obtain ⟨V0, hW, gb0_V0, gb1_V0, gb2_V0, hb_V0, hsW⟩ := three_new w (bv a).toArray (bv b).toArray (bv z32).toArray 23 23 23
  have HW := Lib.hid hW
  have Hha := Lib.hid ha
  have Hhb := Lib.hid hb
  have sb0_V0 := row_size gb0_V0
  have sb1_V0 := row_size gb1_V0
  have sb2_V0 := row_size gb2_V0
  have hlaV0 := hla.next hb_V0
  have gl1 := hla.size
  have gl2 := hla.turn.2
  clear hla
  clear hW hsW ha hb
  go_enter Tryd.func9, Tryd.ntmps9
  go_upto_region 1 with fail
  rw [HW.out]
  refine plain_start (S := fun W' => Below V0.heap.size V0 W') (by kernel_rfl) (Below.refl _ _) (fun hHeld => ?_)
  refine wpAnyH_take (i := 0) (oi := ⟨(some 11), _, _, _, _, _⟩) (v := _) rfl (by kernel_rfl) (by kernel_rfl) (by kernel_rfl) (fun _ _ _ h => h) (yieldsIf_load_mid (by rfl) _ _ rfl (w.heap.size) 0 rfl (bv a) _ (fun W' hW' => range_row ((hW'.block _ sb0_V0).trans gb0_V0.out)) (Tryd.underlying23) rfl (by rw [bv_len, Hha.out]; kernel_rfl)) hHeld ?_
  try simp only [pu]
  refine mix_start (B := V0.heap.size) (al := [⟨5, 6, 50, ((bv z128)).toArray⟩]) (fuel := 6) rfl hHeld (hHeld.size) ?_
  clear hHeld
  refine mix_call (i := 1) (o := ⟨(some 12), _, _, _, _, _⟩) rfl (by kernel_rfl) (by kernel_rfl) (by kernel_rfl) (by kernel_rfl) (fun x hx => by simp only [List.mem_cons, List.not_mem_nil, or_false] at hx; rcases hx with rfl <;> first | exact makes_new rfl rfl rfl rfl zero_place) (fun W x _ h => h.alloc h.size _) (fun _ _ _ _ _ h => h) (fun X1 hHeld hBX K hK => ?_)
  go_simp
  refine (placeOf_any _ (hlaV0.next hHeld) a (Hha.out)).mono ?_
  rintro e W1 ⟨v12, o12, rfl, e12, h12, hb1⟩
  refine hK.out _ _ (below_next hHeld hHeld.size hb1) hb1 ?_
  clear hK K hHeld hBX hb1
  try simp only [pu]
  refine mix_take (i := 2) (o := ⟨(some 10), _, _, _, _, _⟩) (v := ?vqV0_1_2) rfl (by kernel_rfl) (by kernel_rfl) (by kernel_rfl) (by kernel_rfl) (by kernel_rfl) (fun _ _ _ h => h) (Or.inl ⟨by rfl, ?yqV0_1_2⟩) ?_
  case yqV0_1_2 => (intro W0 hSw; go_simp; try with_reducible rfl)
  try simp only [pu]
  refine mix_take (i := 3) (o := ⟨(some 13), _, _, _, _, _⟩) (v := .agg (bv v12).toArray) rfl (by kernel_rfl) (by kernel_rfl) (by kernel_rfl) (by kernel_rfl) (by kernel_rfl) (fun _ _ _ h => h) (Or.inl ⟨by rfl, ?yqV0_1_3⟩) ?_
  case yqV0_1_3 => (intro W0 hSw; go_simp; try with_reducible rfl)
  try simp only [pu]
  refine mix_take (i := 4) (o := ⟨(some 14), _, _, _, _, _⟩) (v := .bool o12) rfl (by kernel_rfl) (by kernel_rfl) (by kernel_rfl) (by kernel_rfl) (by kernel_rfl) (fun _ _ _ h => h) (Or.inl ⟨by rfl, ?yqV0_1_4⟩) ?_
  case yqV0_1_4 => (intro W0 hSw; go_simp; try with_reducible rfl)
  try simp only [pu]
  refine mix_end (by kernel_rfl) (by kernel_rfl) (by simp) (by simp) (fun x hx => by simp only [List.mem_cons, List.not_mem_nil, or_false] at hx; rcases hx with rfl <;> first | exact makes_new rfl rfl rfl rfl zero_place) (fun W x _ h => h.alloc h.size _) (fun D hD W2 hHeld hBX hHo => ?_)
  obtain ⟨G6, rfl⟩ := v_one hD
  have xG6 : Hid (W2.heap[G6]? = some (.cells ((bv z128)).toArray 50 (0, 0))) := hHo.row (⟨5, 6, 50, ((bv z128)).toArray⟩, G6) (by simp)
  have lG6 : V0.heap.size ≤ G6 := hHo.new (⟨5, 6, 50, ((bv z128)).toArray⟩, G6) (by simp)
  clear hHo hBX hD
  simp only [markD, putD, List.foldr_cons, List.foldr_nil, pu, List.setIfInBounds_toArray, List.set_cons_zero, List.set_cons_succ]
  refine wpAnyH_ready (rs := [6]) (by kernel_rfl) (by simp) ?_
  refine AllReadyH.cons (i := 6) (o := ⟨none, _, _, _, _, _⟩) rfl (fun K hK => ?_) AllReadyH.nil
  refine step_row (by rfl) 50 (.tmp 6) (.tmp 13) rfl G6 (bv v12) rfl rfl 50 _ xG6.out (by rw [bv_len, h12.out]; kernel_rfl) (by rw [List.size_toArray, bv_len, bv_len, h12.out, z128_len]) (bv_one _) ?_
  intro W3 yG6 kG6
  refine hK.out _ _ (But.below hHeld kG6 lG6 hHeld.size) (fun hHeld => ?_)
  clear hK K kG6 xG6
  have xG6 := yG6
  clear yG6
  try simp only [pu]
  refine wpAnyH_take (i := 7) (oi := ⟨(some 7), _, _, _, _, _⟩) (v := ?vqV0_1_7) rfl (by kernel_rfl) (by kernel_rfl) (by kernel_rfl) (fun _ _ _ h => h) (Or.inl ⟨by rfl, ?yqV0_1_7⟩) hHeld ?_
  case yqV0_1_7 => (intro W0 hSw; go_simp; try with_reducible rfl)
  try simp only [pu]
  refine wpAnyH_done (by kernel_rfl) ?_ _
  obtain ⟨V1, rV1⟩ : ∃ X, X = W3 := ⟨_, rfl⟩
  subst rV1
  have gb0_V1 := row_next2 gb0_V0 hHeld
  have sb0_V1 := row_size gb0_V1
  have gb1_V1 := row_next2 gb1_V0 hHeld
  have sb1_V1 := row_size gb1_V1
  have gb2_V1 := row_next2 gb2_V0 hHeld
  have sb2_V1 := row_size gb2_V1
  have hb_V1 := below_next hb_V0 hb_V0.size hHeld
  have hlaV1 := hlaV0.next hHeld
  have gn6_V1 := xG6
  have sn6_V1 := row_size gn6_V1
  clear xG6
  have wG6 : w.heap.size + 3 ≤ G6 := by omega
  clear hHeld hb_V0 sb0_V0 sb1_V0 sb2_V0
  clear gb0_V0 gb1_V0 gb2_V0 hlaV0 lG6
  go_upto_region 2 with fail
  refine plain_start (S := fun W' => Below V1.heap.size V1 W') (by kernel_rfl) (Below.refl _ _) (fun hHeld => ?_)
  refine wpAnyH_take (i := 0) (oi := ⟨(some 16), _, _, _, _, _⟩) (v := _) rfl (by kernel_rfl) (by kernel_rfl) (by kernel_rfl) (fun _ _ _ h => h) (yieldsIf_load_mid (by rfl) _ _ rfl (w.heap.size + 1) 0 rfl (bv b) _ (fun W' hW' => range_row ((hW'.block _ sb1_V1).trans gb1_V1.out)) (Tryd.underlying23) rfl (by rw [bv_len, Hhb.out]; kernel_rfl)) hHeld ?_
  try simp only [pu]
  refine mix_start (B := V1.heap.size) (al := [⟨5, 8, 50, ((bv z128)).toArray⟩]) (fuel := 6) rfl hHeld (hHeld.size) ?_
  clear hHeld
  refine mix_call (i := 1) (o := ⟨(some 17), _, _, _, _, _⟩) rfl (by kernel_rfl) (by kernel_rfl) (by kernel_rfl) (by kernel_rfl) (fun x hx => by simp only [List.mem_cons, List.not_mem_nil, or_false] at hx; rcases hx with rfl <;> first | exact makes_new rfl rfl rfl rfl zero_place) (fun W x _ h => h.alloc h.size _) (fun _ _ _ _ _ h => h) (fun X4 hHeld hBX K hK => ?_)
  go_simp
  refine (placeOf_any _ (hlaV1.next hHeld) b (Hhb.out)).mono ?_
  rintro e W4 ⟨v17, o17, rfl, e17, h17, hb4⟩
  refine hK.out _ _ (below_next hHeld hHeld.size hb4) hb4 ?_
  clear hK K hHeld hBX hb4
  try simp only [pu]
  refine mix_take (i := 2) (o := ⟨(some 15), _, _, _, _, _⟩) (v := ?vqV1_2_2) rfl (by kernel_rfl) (by kernel_rfl) (by kernel_rfl) (by kernel_rfl) (by kernel_rfl) (fun _ _ _ h => h) (Or.inl ⟨by rfl, ?yqV1_2_2⟩) ?_
  case yqV1_2_2 => (intro W0 hSw; go_simp; try with_reducible rfl)
  try simp only [pu]
  refine mix_take (i := 3) (o := ⟨(some 18), _, _, _, _, _⟩) (v := .agg (bv v17).toArray) rfl (by kernel_rfl) (by kernel_rfl) (by kernel_rfl) (by kernel_rfl) (by kernel_rfl) (fun _ _ _ h => h) (Or.inl ⟨by rfl, ?yqV1_2_3⟩) ?_
  case yqV1_2_3 => (intro W0 hSw; go_simp; try with_reducible rfl)
  try simp only [pu]
  refine mix_take (i := 4) (o := ⟨(some 19), _, _, _, _, _⟩) (v := .bool o17) rfl (by kernel_rfl) (by kernel_rfl) (by kernel_rfl) (by kernel_rfl) (by kernel_rfl) (fun _ _ _ h => h) (Or.inl ⟨by rfl, ?yqV1_2_4⟩) ?_
  case yqV1_2_4 => (intro W0 hSw; go_simp; try with_reducible rfl)
  try simp only [pu]
  refine mix_end (by kernel_rfl) (by kernel_rfl) (by simp) (by simp) (fun x hx => by simp only [List.mem_cons, List.not_mem_nil, or_false] at hx; rcases hx with rfl <;> first | exact makes_new rfl rfl rfl rfl zero_place) (fun W x _ h => h.alloc h.size _) (fun D hD W5 hHeld hBX hHo => ?_)
  obtain ⟨G8, rfl⟩ := v_one hD
  have xG8 : Hid (W5.heap[G8]? = some (.cells ((bv z128)).toArray 50 (0, 0))) := hHo.row (⟨5, 8, 50, ((bv z128)).toArray⟩, G8) (by simp)
  have lG8 : V1.heap.size ≤ G8 := hHo.new (⟨5, 8, 50, ((bv z128)).toArray⟩, G8) (by simp)
  clear hHo hBX hD
  simp only [markD, putD, List.foldr_cons, List.foldr_nil, pu, List.setIfInBounds_toArray, List.set_cons_zero, List.set_cons_succ]
  refine wpAnyH_ready (rs := [6]) (by kernel_rfl) (by simp) ?_
  refine AllReadyH.cons (i := 6) (o := ⟨none, _, _, _, _, _⟩) rfl (fun K hK => ?_) AllReadyH.nil
  refine step_row (by rfl) 50 (.tmp 8) (.tmp 18) rfl G8 (bv v17) rfl rfl 50 _ xG8.out (by rw [bv_len, h17.out]; kernel_rfl) (by rw [List.size_toArray, bv_len, bv_len, h17.out, z128_len]) (bv_one _) ?_
  intro W6 yG8 kG8
  refine hK.out _ _ (But.below hHeld kG8 lG8 hHeld.size) (fun hHeld => ?_)
  clear hK K kG8 xG8
  have xG8 := yG8
  clear yG8
  try simp only [pu]
  refine wpAnyH_take (i := 7) (oi := ⟨(some 9), _, _, _, _, _⟩) (v := ?vqV1_2_7) rfl (by kernel_rfl) (by kernel_rfl) (by kernel_rfl) (fun _ _ _ h => h) (Or.inl ⟨by rfl, ?yqV1_2_7⟩) hHeld ?_
  case yqV1_2_7 => (intro W0 hSw; go_simp; try with_reducible rfl)
  try simp only [pu]
  refine wpAnyH_done (by kernel_rfl) ?_ _
  obtain ⟨V2, rV2⟩ : ∃ X, X = W6 := ⟨_, rfl⟩
  subst rV2
  have gb0_V2 := row_next2 gb0_V1 hHeld
  have sb0_V2 := row_size gb0_V2
  have gb1_V2 := row_next2 gb1_V1 hHeld
  have sb1_V2 := row_size gb1_V2
  have gb2_V2 := row_next2 gb2_V1 hHeld
  have sb2_V2 := row_size gb2_V2
  have gn6_V2 := row_next2 gn6_V1 hHeld
  have sn6_V2 := row_size gn6_V2
  have hb_V2 := below_next hb_V1 hb_V1.size hHeld
  have hlaV2 := hlaV1.next hHeld
  have gn8_V2 := xG8
  have sn8_V2 := row_size gn8_V2
  clear xG8
  have wG8 : w.heap.size + 3 ≤ G8 := by omega
  have nG6G8 : G6 ≠ G8 := by omega
  clear hHeld hb_V1 sb0_V1 sb1_V1 sb2_V1 sn6_V1
  clear gb0_V1 gb1_V1 gb2_V1 gn6_V1 hlaV1 lG8
  rcases o12 with _ | _
  · have HB : Vlt (∃ p, PtIs b p) := vlt (by rcases o17 with _ | _; exact ⟨none, e17.out.2 rfl⟩; obtain ⟨Q, _, h⟩ := e17.out.1 rfl; exact ⟨some Q, h⟩)
    have HF := vlt (show AdIs a b z32 3 by
      obtain ⟨p, hp⟩ := HB.out
      exact ⟨none, p, e12.out.2 rfl, hp, rfl, rfl⟩)
    go_upto_region 4 with fail
    refine plain_start_c (S := fun W' => Below V2.heap.size V2 W') 1 (by kernel_rfl) (Below.refl _ _) (fun hHeld => ?_)
    refine c_take (i := 0) (oi := ⟨(some 26), _, _, _, _, _⟩) (v := _) rfl (by decide) (by kernel_rfl) (by kernel_rfl) (by kernel_rfl) (fun _ _ _ h => h) (yields_build (by rfl) _ _ rfl [] (by rfl) _ hbz) hHeld ?_
    try simp only [pu]
    refine c_call (S' := fun _ => True) (o := ⟨none, _, _, _, _, _⟩) (by kernel_rfl) (by kernel_rfl) rfl (fun K hK => ?_)
    have cb0_0 := row_next2 gb0_V2 hHeld
    have cb1_0 := row_next2 gb1_V2 hHeld
    have cb2_0 := row_next2 gb2_V2 hHeld
    have cn6_0 := row_next2 gn6_V2 hHeld
    have cn8_0 := row_next2 gn8_V2 hHeld
    have cb_0 := below_next hb_V2 hb_V2.size hHeld
    have cl_0 := hlaV2.next hHeld
    clear hHeld
    refine step_row (by rfl) 23 (.tmp 4) (.tmp 26) rfl (w.heap.size + 2) (bv z32) rfl rfl 23 _ cb2_0.out (by rw [bv_len, z32_len]; kernel_rfl) (by rw [List.size_toArray]) (bv_one _) ?_
    intro W7 cb2_1 kR
    refine hK.out _ _ trivial (fun hHeld => ?_)
    have cb0_1 := row_but cb0_0 kR (by omega)
    have cb1_1 := row_but cb1_0 kR (by omega)
    have cn6_1 := row_but cn6_0 kR (by omega)
    have cn8_1 := row_but cn8_0 kR (by omega)
    have cb_1 := But.below cb_0 kR (by omega) cb_0.size
    have cl_1 := cl_0.but (by omega) (by omega) kR
    clear hK K kR cb_0 cb0_0 cb1_0 cb2_0 cn6_0 cn8_0 cl_0
    try simp only [pu]
    refine wpAnyH_take (i := 2) (oi := ⟨(some 5), _, _, _, _, _⟩) (v := (Value.int IntKind.i64 3)) rfl (by kernel_rfl) (by kernel_rfl) (by kernel_rfl) (fun _ _ _ h => h) (Or.inl ⟨by rfl, ?yqV2_3_2⟩) hHeld ?_
    case yqV2_3_2 => (intro W0 hSw; go_simp; try with_reducible rfl)
    try simp only [pu]
    refine wpAnyH_done (by kernel_rfl) ?_ _
    obtain ⟨V3, rV3⟩ : ∃ X, X = W7 := ⟨_, rfl⟩
    subst rV3
    have gb0_V3 := cb0_1
    have sb0_V3 := row_size gb0_V3
    have gb1_V3 := cb1_1
    have sb1_V3 := row_size gb1_V3
    have gb2_V3 := cb2_1
    have sb2_V3 := row_size gb2_V3
    have gn6_V3 := cn6_1
    have sn6_V3 := row_size gn6_V3
    have gn8_V3 := cn8_1
    have sn8_V3 := row_size gn8_V3
    have hb_V3 := cb_1
    have hlaV3 := cl_1
    clear hHeld cb_1 hb_V2 cl_1 hlaV2 cb0_1 cb1_1 cb2_1 cn6_1 cn8_1 sb0_V2 sb1_V2 sb2_V2 sn6_V2 sn8_V2 gb0_V2 gb1_V2 gb2_V2 gn6_V2 gn8_V2
    go_wp2_with fail
    refine bodyPost_ret (v := .tuple #[.agg (bv z32).toArray, .int .i64 3]) (results_row_tmp Tryd.results9 _ _ (w.heap.size + 2) 23 _ (0, 0) _ rfl gb2_V3.out Tryd.underlying23 rfl (by rw [List.size_toArray, bv_len, z32_len]; kernel_rfl) _ rfl) rfl ⟨z32, 3, rfl, HF, z32_len, hb_V3⟩
  · rcases o17 with _ | _
    · have HF := vlt (show AdIs a b z32 3 by
        obtain ⟨P, _, h⟩ := e12.out.1 rfl
        exact ⟨some P, none, h, e17.out.2 rfl, rfl, rfl⟩)
      go_upto_region 4 with fail
      refine plain_start_c (S := fun W' => Below V2.heap.size V2 W') 1 (by kernel_rfl) (Below.refl _ _) (fun hHeld => ?_)
      refine c_take (i := 0) (oi := ⟨(some 26), _, _, _, _, _⟩) (v := _) rfl (by decide) (by kernel_rfl) (by kernel_rfl) (by kernel_rfl) (fun _ _ _ h => h) (yields_build (by rfl) _ _ rfl [] (by rfl) _ hbz) hHeld ?_
      try simp only [pu]
      refine c_call (S' := fun _ => True) (o := ⟨none, _, _, _, _, _⟩) (by kernel_rfl) (by kernel_rfl) rfl (fun K hK => ?_)
      have cb0_0 := row_next2 gb0_V2 hHeld
      have cb1_0 := row_next2 gb1_V2 hHeld
      have cb2_0 := row_next2 gb2_V2 hHeld
      have cn6_0 := row_next2 gn6_V2 hHeld
      have cn8_0 := row_next2 gn8_V2 hHeld
      have cb_0 := below_next hb_V2 hb_V2.size hHeld
      have cl_0 := hlaV2.next hHeld
      clear hHeld
      refine step_row (by rfl) 23 (.tmp 4) (.tmp 26) rfl (w.heap.size + 2) (bv z32) rfl rfl 23 _ cb2_0.out (by rw [bv_len, z32_len]; kernel_rfl) (by rw [List.size_toArray]) (bv_one _) ?_
      intro W7 cb2_1 kR
      refine hK.out _ _ trivial (fun hHeld => ?_)
      have cb0_1 := row_but cb0_0 kR (by omega)
      have cb1_1 := row_but cb1_0 kR (by omega)
      have cn6_1 := row_but cn6_0 kR (by omega)
      have cn8_1 := row_but cn8_0 kR (by omega)
      have cb_1 := But.below cb_0 kR (by omega) cb_0.size
      have cl_1 := cl_0.but (by omega) (by omega) kR
      clear hK K kR cb_0 cb0_0 cb1_0 cb2_0 cn6_0 cn8_0 cl_0
      try simp only [pu]
      refine wpAnyH_take (i := 2) (oi := ⟨(some 5), _, _, _, _, _⟩) (v := (Value.int IntKind.i64 3)) rfl (by kernel_rfl) (by kernel_rfl) (by kernel_rfl) (fun _ _ _ h => h) (Or.inl ⟨by rfl, ?yqV2_3_2⟩) hHeld ?_
      case yqV2_3_2 => (intro W0 hSw; go_simp; try with_reducible rfl)
      try simp only [pu]
      refine wpAnyH_done (by kernel_rfl) ?_ _
      obtain ⟨V3, rV3⟩ : ∃ X, X = W7 := ⟨_, rfl⟩
      subst rV3
      have gb0_V3 := cb0_1
      have sb0_V3 := row_size gb0_V3
      have gb1_V3 := cb1_1
      have sb1_V3 := row_size gb1_V3
      have gb2_V3 := cb2_1
      have sb2_V3 := row_size gb2_V3
      have gn6_V3 := cn6_1
      have sn6_V3 := row_size gn6_V3
      have gn8_V3 := cn8_1
      have sn8_V3 := row_size gn8_V3
      have hb_V3 := cb_1
      have hlaV3 := cl_1
      clear hHeld cb_1 hb_V2 cl_1 hlaV2 cb0_1 cb1_1 cb2_1 cn6_1 cn8_1 sb0_V2 sb1_V2 sb2_V2 sn6_V2 sn8_V2 gb0_V2 gb1_V2 gb2_V2 gn6_V2 gn8_V2
      go_wp2_with fail
      refine bodyPost_ret (v := .tuple #[.agg (bv z32).toArray, .int .i64 3]) (results_row_tmp Tryd.results9 _ _ (w.heap.size + 2) 23 _ (0, 0) _ rfl gb2_V3.out Tryd.underlying23 rfl (by rw [List.size_toArray, bv_len, z32_len]; kernel_rfl) _ rfl) rfl ⟨z32, 3, rfl, HF, z32_len, hb_V3⟩
    · obtain ⟨P, hP, hPa⟩ := e12.out.1 rfl
      obtain ⟨R, hR, hRb⟩ := e17.out.1 rfl
      have HP := vlt hP
      have HR := vlt hR
      have HPa := vlt hPa
      have HRb := vlt hRb
      clear hP hR hPa hRb e12 e17
      go_upto_region 5 with fail
      refine plain_start_c (S := fun W' => Below V2.heap.size V2 W') 4 (by kernel_rfl) (Below.refl _ _) (fun hHeld => ?_)
      refine c_read (i := 0) (oi := ⟨(some 27), _, _, _, _, _⟩) (v := _) rfl (by decide) (by kernel_rfl) (by kernel_rfl) (by kernel_rfl) (by kernel_rfl) (by kernel_rfl) (fun _ _ _ h => h) (yieldsIf_load_mid (by rfl) _ _ rfl G6 0 rfl (bv v12) _ (fun W' hW' => range_row ((hW'.block _ sn6_V2).trans gn6_V2.out)) (Tryd.underlying50) rfl (by rw [bv_len, h12.out]; kernel_rfl)) hHeld ?_
      try simp only [pu]
      refine c_read (i := 1) (oi := ⟨(some 28), _, _, _, _, _⟩) (v := _) rfl (by decide) (by kernel_rfl) (by kernel_rfl) (by kernel_rfl) (by kernel_rfl) (by kernel_rfl) (fun _ _ _ h => h) (yieldsIf_load_mid (by rfl) _ _ rfl G8 0 rfl (bv v17) _ (fun W' hW' => range_row ((hW'.block _ sn8_V2).trans gn8_V2.out)) (Tryd.underlying50) rfl (by rw [bv_len, h17.out]; kernel_rfl)) hHeld ?_
      try simp only [pu]
      refine c_step (i := 2) (o := ⟨(some 29), _, _, _, _, _⟩) (by kernel_rfl) rfl (fun K hK => ?_)
      go_simp
      refine (pplus_any _ (hlaV2.next hHeld) v12 v17 (h12.out) (HP.out) (h17.out) (HR.out)).mono ?_
      rintro e W7 ⟨v29, rfl, e29, h29, hb7⟩
      refine hK.out _ _ (below_next hHeld hHeld.size hb7) (fun hHeld => ?_)
      clear hK K hb7
      try simp only [pu]
      refine c_step (i := 3) (o := ⟨(some 30), _, _, _, _, _⟩) (by kernel_rfl) rfl (fun K hK => ?_)
      go_simp
      refine (ptold_any _ v29 (h29.out) (e29.out)).mono ?_
      rintro e W8 ⟨v30, rfl, e30, h30, hb8⟩
      refine hK.out _ _ (below_next hHeld hHeld.size hb8) (fun hHeld => ?_)
      clear hK K hb8
      try simp only [pu]
      refine c_call (S' := fun _ => True) (o := ⟨none, _, _, _, _, _⟩) (by kernel_rfl) (by kernel_rfl) rfl (fun K hK => ?_)
      have cb0_0 := row_next2 gb0_V2 hHeld
      have cb1_0 := row_next2 gb1_V2 hHeld
      have cb2_0 := row_next2 gb2_V2 hHeld
      have cn6_0 := row_next2 gn6_V2 hHeld
      have cn8_0 := row_next2 gn8_V2 hHeld
      have cb_0 := below_next hb_V2 hb_V2.size hHeld
      have cl_0 := hlaV2.next hHeld
      clear hHeld
      refine step_row (by rfl) 23 (.tmp 4) (.tmp 30) rfl (w.heap.size + 2) (bv v30) rfl rfl 23 _ cb2_0.out (by rw [bv_len, h30.out]; kernel_rfl) (by rw [List.size_toArray, bv_len, z32_len, bv_len, h30.out]) (bv_one _) ?_
      intro W9 cb2_1 kR
      refine hK.out _ _ trivial (fun hHeld => ?_)
      have cb0_1 := row_but cb0_0 kR (by omega)
      have cb1_1 := row_but cb1_0 kR (by omega)
      have cn6_1 := row_but cn6_0 kR (by omega)
      have cn8_1 := row_but cn8_0 kR (by omega)
      have cb_1 := But.below cb_0 kR (by omega) cb_0.size
      have cl_1 := cl_0.but (by omega) (by omega) kR
      clear hK K kR cb_0 cb0_0 cb1_0 cb2_0 cn6_0 cn8_0 cl_0
      try simp only [pu]
      refine wpAnyH_take (i := 5) (oi := ⟨(some 5), _, _, _, _, _⟩) (v := (Value.int IntKind.i64 0)) rfl (by kernel_rfl) (by kernel_rfl) (by kernel_rfl) (fun _ _ _ h => h) (Or.inl ⟨by rfl, ?yqV2_3_5⟩) hHeld ?_
      case yqV2_3_5 => (intro W0 hSw; go_simp; try with_reducible rfl)
      try simp only [pu]
      refine wpAnyH_done (by kernel_rfl) ?_ _
      obtain ⟨V3, rV3⟩ : ∃ X, X = W9 := ⟨_, rfl⟩
      subst rV3
      have gb0_V3 := cb0_1
      have sb0_V3 := row_size gb0_V3
      have gb1_V3 := cb1_1
      have sb1_V3 := row_size gb1_V3
      have gb2_V3 := cb2_1
      have sb2_V3 := row_size gb2_V3
      have gn6_V3 := cn6_1
      have sn6_V3 := row_size gn6_V3
      have gn8_V3 := cn8_1
      have sn8_V3 := row_size gn8_V3
      have hb_V3 := cb_1
      have hlaV3 := cl_1
      clear hHeld cb_1 hb_V2 cl_1 hlaV2 cb0_1 cb1_1 cb2_1 cn6_1 cn8_1 sb0_V2 sb1_V2 sb2_V2 sn6_V2 sn8_V2 gb0_V2 gb1_V2 gb2_V2 gn6_V2 gn8_V2
      have HF := vlt (show AdIs a b v30 0 from ⟨some P, some R, HPa.out, HRb.out, e30.out, rfl⟩)
      go_wp2_with fail
      refine bodyPost_ret (v := .tuple #[.agg (bv v30).toArray, .int .i64 0]) (results_row_tmp Tryd.results9 _ _ (w.heap.size + 2) 23 _ (0, 0) _ rfl gb2_V3.out Tryd.underlying23 rfl (by rw [List.size_toArray, bv_len, h30.out]; kernel_rfl) _ rfl) rfl ⟨v30, 0, rfl, HF, h30, hb_V3⟩
end Go.Proofs.YtehkalbiomagjaaDoor
namespace Go.Proofs.YtehkalbiomagjaaDoor
open Go.RowKit

theorem low_15 (c d : Nat) (hc : c < 256) (hd : d = c % 16) : bits .and .u8 (c : Int) 15 = (d : Int) := by
  have h : ∀ c < 256, bits .and .u8 ((c : Nat) : Int) 15 = ((c % 16 : Nat) : Int) := by decide +kernel
  rw [hd]; exact h c hc
theorem times_step {P : PtE} (h : OnP P) (m j : Nat) : addE (mulE 16 (mulE m P)) (mulE j P) = mulE (m * 16 + j) P := by
  rw [← mulE_mul h, ← mulE_add h]
theorem ln_drop (n : List UInt8) (j : Nat) (b : UInt8) (h : n[j]? = some b) : ln (n.drop j) = b.toNat + 256 * ln (n.drop (j + 1)) := by
  obtain ⟨hj, he⟩ := List.getElem?_eq_some_iff.1 h
  rw [List.drop_eq_getElem_cons hj, he, ln]
set_option maxRecDepth 100000 in
set_option maxHeartbeats 4000000 in
theorem ptimes_any (w : World) (hla : LaidP w) (p n : List UInt8) {P : PtE} (hp : p.length = 128) (hPl : PlE p P) (hn : n.length = 32) :
    Calls Tryd.prog 41 #[.agg (bv p).toArray, .agg (bv n).toArray] w fun e w' => ∃ p, e = .returned (.agg (bv p).toArray) ∧ Vlt (PlE p (mulE (ln n) P)) ∧ Hid (p.length = 128) ∧ Below w.heap.size w w' := by
  have hzp := zero_place
  have hzr := zero_rows
  have HP := vlt hPl
  obtain ⟨ZR, dZ⟩ : ∃ r, r = z2048 := ⟨_, rfl⟩
  have HZR := Lib.hid (show ZR.length = 2048 by rw [dZ]; exact z2048_len)
  rw [← dZ] at hzr
  clear hPl dZ
  obtain ⟨V0, hW, gb0_V0, gb1_V0, gb2_V0, hb_V0, hsW⟩ := three_new w (bv p).toArray (bv n).toArray (bv z128).toArray 50 23 50
  have HW := Lib.hid hW
  have Hhp := Lib.hid hp
  have Hhn := Lib.hid hn
  have sb0_V0 := row_size gb0_V0
  have sb1_V0 := row_size gb1_V0
  have sb2_V0 := row_size gb2_V0
  have hlaV0 := hla.next hb_V0
  have gl1 := hla.size
  have gl2 := hla.turn.2
  clear hla
  clear hW hsW hp hn
  go_enter Tryd.func41, Tryd.ntmps41
  go_upto_region 1 with fail
  rw [HW.out]
  refine plain_start (S := fun W' => Below V0.heap.size V0 W') (by kernel_rfl) (Below.refl _ _) (fun hHeld => ?_)
  refine wpAnyH_take (i := 0) (oi := ⟨(some 8), _, _, _, _, _⟩) (v := _) rfl (by kernel_rfl) (by kernel_rfl) (by kernel_rfl) (fun _ _ _ h => h) (yieldsIf_load_mid (by rfl) _ _ rfl (w.heap.size) 0 rfl (bv p) _ (fun W' hW' => range_row ((hW'.block _ sb0_V0).trans gb0_V0.out)) (Tryd.underlying50) rfl (by rw [bv_len, Hhp.out]; kernel_rfl)) hHeld ?_
  try simp only [pu]
  refine mix_start (B := V0.heap.size) (al := [⟨2, 5, 85, ((bv ZR)).toArray⟩]) (fuel := 2) rfl hHeld (hHeld.size) ?_
  clear hHeld
  refine mix_call (i := 1) (o := ⟨(some 9), _, _, _, _, _⟩) rfl (by kernel_rfl) (by kernel_rfl) (by kernel_rfl) (by kernel_rfl) (fun x hx => by simp only [List.mem_cons, List.not_mem_nil, or_false] at hx; rcases hx with rfl <;> first | exact makes_new rfl rfl rfl rfl hzr) (fun W x _ h => h.alloc h.size _) (fun _ _ _ _ _ h => h) (fun X1 hHeld hBX K hK => ?_)
  go_simp
  refine (multiples_any _ (hlaV0.next hHeld) p (Hhp.out) (HP.out)).mono ?_
  rintro e W1 ⟨v9, rfl, e9, h9, hb1⟩
  refine hK.out _ _ (below_next hHeld hHeld.size hb1) hb1 ?_
  clear hK K hHeld hBX hb1
  try simp only [pu]
  refine mix_end (by kernel_rfl) (by kernel_rfl) (by simp) (by simp) (fun x hx => by simp only [List.mem_cons, List.not_mem_nil, or_false] at hx; rcases hx with rfl <;> first | exact makes_new rfl rfl rfl rfl hzr) (fun W x _ h => h.alloc h.size _) (fun D hD W2 hHeld hBX hHo => ?_)
  obtain ⟨G5, rfl⟩ := v_one hD
  have xG5 : Hid (W2.heap[G5]? = some (.cells ((bv ZR)).toArray 85 (0, 0))) := hHo.row (⟨2, 5, 85, ((bv ZR)).toArray⟩, G5) (by simp)
  have lG5 : V0.heap.size ≤ G5 := hHo.new (⟨2, 5, 85, ((bv ZR)).toArray⟩, G5) (by simp)
  clear hHo hBX hD
  simp only [markD, putD, List.foldr_cons, List.foldr_nil, pu, List.setIfInBounds_toArray, List.set_cons_zero, List.set_cons_succ]
  refine wpAnyH_ready (rs := [3]) (by kernel_rfl) (by simp) ?_
  refine AllReadyH.cons (i := 3) (o := ⟨none, _, _, _, _, _⟩) rfl (fun K hK => ?_) AllReadyH.nil
  refine step_row (by rfl) 85 (.tmp 5) (.tmp 9) rfl G5 (bv v9) rfl rfl 85 _ xG5.out (by rw [bv_len, h9.out]; kernel_rfl) (by rw [List.size_toArray, bv_len, bv_len, h9.out, HZR.out]) (bv_one _) ?_
  intro W3 yG5 kG5
  refine hK.out _ _ (But.below hHeld kG5 lG5 hHeld.size) (fun hHeld => ?_)
  clear hK K kG5 xG5
  have xG5 := yG5
  clear yG5
  try simp only [pu]
  refine wpAnyH_done (by kernel_rfl) ?_ _
  obtain ⟨V1, rV1⟩ : ∃ X, X = W3 := ⟨_, rfl⟩
  subst rV1
  have gb0_V1 := row_next2 gb0_V0 hHeld
  have sb0_V1 := row_size gb0_V1
  have gb1_V1 := row_next2 gb1_V0 hHeld
  have sb1_V1 := row_size gb1_V1
  have gb2_V1 := row_next2 gb2_V0 hHeld
  have sb2_V1 := row_size gb2_V1
  have hb_V1 := below_next hb_V0 hb_V0.size hHeld
  have hlaV1 := hlaV0.next hHeld
  have gn5_V1 := xG5
  have sn5_V1 := row_size gn5_V1
  clear xG5
  have wG5 : w.heap.size + 3 ≤ G5 := by omega
  clear hHeld hb_V0 sb0_V0 sb1_V0 sb2_V0
  clear gb0_V0 gb1_V0 gb2_V0 hlaV0 lG5
  go_upto_region 2 with fail
  refine plain_start (S := fun W' => Below V1.heap.size V1 W') (by kernel_rfl) (Below.refl _ _) (fun hHeld => ?_)
  refine mix_start (B := V1.heap.size) (al := [⟨1, 6, 50, ((bv z128)).toArray⟩]) (fuel := 2) rfl hHeld (hHeld.size) ?_
  clear hHeld
  refine mix_call (i := 0) (o := ⟨(some 10), _, _, _, _, _⟩) rfl (by kernel_rfl) (by kernel_rfl) (by kernel_rfl) (by kernel_rfl) (fun x hx => by simp only [List.mem_cons, List.not_mem_nil, or_false] at hx; rcases hx with rfl <;> first | exact makes_new rfl rfl rfl rfl zero_place) (fun W x _ h => h.alloc h.size _) (fun _ _ _ _ _ h => h) (fun X4 hHeld hBX K hK => ?_)
  go_simp
  refine (zeroPlace_any _  ).mono ?_
  rintro e W4 ⟨v10, rfl, e10, h10, hb4⟩
  refine hK.out _ _ (below_next hHeld hHeld.size hb4) hb4 ?_
  clear hK K hHeld hBX hb4
  try simp only [pu]
  refine mix_end (by kernel_rfl) (by kernel_rfl) (by simp) (by simp) (fun x hx => by simp only [List.mem_cons, List.not_mem_nil, or_false] at hx; rcases hx with rfl <;> first | exact makes_new rfl rfl rfl rfl zero_place) (fun W x _ h => h.alloc h.size _) (fun D hD W5 hHeld hBX hHo => ?_)
  obtain ⟨G6, rfl⟩ := v_one hD
  have xG6 : Hid (W5.heap[G6]? = some (.cells ((bv z128)).toArray 50 (0, 0))) := hHo.row (⟨1, 6, 50, ((bv z128)).toArray⟩, G6) (by simp)
  have lG6 : V1.heap.size ≤ G6 := hHo.new (⟨1, 6, 50, ((bv z128)).toArray⟩, G6) (by simp)
  clear hHo hBX hD
  simp only [markD, putD, List.foldr_cons, List.foldr_nil, pu, List.setIfInBounds_toArray, List.set_cons_zero, List.set_cons_succ]
  refine wpAnyH_ready (rs := [2]) (by kernel_rfl) (by simp) ?_
  refine AllReadyH.cons (i := 2) (o := ⟨none, _, _, _, _, _⟩) rfl (fun K hK => ?_) AllReadyH.nil
  refine step_row (by rfl) 50 (.tmp 6) (.tmp 10) rfl G6 (bv v10) rfl rfl 50 _ xG6.out (by rw [bv_len, h10.out]; kernel_rfl) (by rw [List.size_toArray, bv_len, bv_len, h10.out, z128_len]) (bv_one _) ?_
  intro W6 yG6 kG6
  refine hK.out _ _ (But.below hHeld kG6 lG6 hHeld.size) (fun hHeld => ?_)
  clear hK K kG6 xG6
  have xG6 := yG6
  clear yG6
  try simp only [pu]
  refine wpAnyH_done (by kernel_rfl) ?_ _
  obtain ⟨V2, rV2⟩ : ∃ X, X = W6 := ⟨_, rfl⟩
  subst rV2
  have gb0_V2 := row_next2 gb0_V1 hHeld
  have sb0_V2 := row_size gb0_V2
  have gb1_V2 := row_next2 gb1_V1 hHeld
  have sb1_V2 := row_size gb1_V2
  have gb2_V2 := row_next2 gb2_V1 hHeld
  have sb2_V2 := row_size gb2_V2
  have gn5_V2 := row_next2 gn5_V1 hHeld
  have sn5_V2 := row_size gn5_V2
  have hb_V2 := below_next hb_V1 hb_V1.size hHeld
  have hlaV2 := hlaV1.next hHeld
  have gn6_V2 := xG6
  have sn6_V2 := row_size gn6_V2
  clear xG6
  have wG6 : w.heap.size + 3 ≤ G6 := by omega
  have nG5G6 : G5 ≠ G6 := by omega
  clear hHeld hb_V1 sb0_V1 sb1_V1 sb2_V1 sn5_V1
  clear gb0_V1 gb1_V1 gb2_V1 gn5_V1 hlaV1 lG6
  have HO := vlt HP.out.on
  have HM : Vlt (MuRow v9 P 15) := e9
  have HZ := vlt (show PlE v10 (mulE (ln (n.drop 32)) P) by rw [e10.out, List.drop_eq_nil_of_le (by rw [Hhn.out]; exact Nat.le_refl _)]; exact zP_is)
  clear HW e9 e10
  go_wp2_with fail
  go_loopw [7] (fun s wr => ∃ (k : Nat) (q : List UInt8), k ≤ 32 ∧ s = .int .i64 ((k : Int) - 1) ∧ Hid (wr.heap[G6]? = some (.cells (bv q).toArray 50 (0, 0))) ∧ Hid (q.length = 128) ∧ Vlt (PlE q (mulE (ln (n.drop k)) P)) ∧ But G6 V2 wr) (fun s _ => ((intOf s) + 1).toNat)
  case atStart => exact ⟨32, v10, by omega, rfl, gn6_V2, h10, HZ, But.refl _ _⟩
  case round =>
    obtain ⟨k, q, hk, rfl, hg, hl, hM, hbt⟩ := hrel
    by_cases hk0 : 0 < k
    · obtain ⟨j, rfl⟩ : ∃ j, k = j + 1 := ⟨k - 1, by omega⟩
      have ej : ((j + 1 : Nat) : Int) - 1 = (j : Int) := by omega
      rw [ej]
      obtain ⟨c, hc, hcn⟩ : ∃ c, c < 256 ∧ n[j]? = some (UInt8.ofNat c) := by
        have hj : j < n.length := by rw [Hhn.out]; omega
        exact ⟨(n[j]).toNat, UInt8.toNat_lt _, by rw [UInt8.ofNat_toNat]; exact List.getElem?_eq_getElem hj⟩
      have hln := ln_drop n j _ hcn
      rw [UInt8.toNat_ofNat', show (2 : Nat) ^ 8 = 256 by decide, Nat.mod_eq_of_lt hc] at hln
      have HLN := vlt hln
      have sG := row_size hg
      have gN := row_but gb1_V2 hbt (by omega)
      have gR := row_but gn5_V2 hbt (by omega)
      have sN := row_size gN
      have sR := row_size gR
      have hla1 := hlaV2.but (by omega) (by omega) hbt
      have cN : wr.cell? ⟨w.heap.size + 1, j, none⟩ = some (.int .u8 (c : Int)) := by
        have h := byte_cell gN.out hcn
        rwa [UInt8.toNat_ofNat', show (2 : Nat) ^ 8 = 256 by decide, Nat.mod_eq_of_lt hc] at h
      obtain ⟨d, hd⟩ : ∃ d, d = c / 16 := ⟨_, rfl⟩
      obtain ⟨f, hf⟩ : ∃ f, f = c % 16 := ⟨_, rfl⟩
      have ed : (c : Int) / 16 = (d : Int) := by omega
      have ef := low_15 c f hc hf
      have hcd := vlt (show c = d * 16 + f by omega)
      have qd : (d : Int) < 16 := by omega
      have qf : (f : Int) < 16 := by omega
      have qj : (j : Int) < 32 := by omega
      have q0 : (0 : Int) ≤ (j : Int) := by omega
      have HD := vlt (HM.out d (by omega))
      have HF := vlt (HM.out f (by omega))
      have HLD := Lib.hid (sub_len v9 (d * 128) 128 (by rw [h9.out]; omega))
      have HLF := Lib.hid (sub_len v9 (f * 128) 128 (by rw [h9.out]; omega))
      clear hcn hln hd hf ej
      generalize HMM : ln (n.drop (j + 1)) = m at hM HLN
      clear HMM
      go_upto_region 6 with fail
      refine c_start (S := fun W' => Below wr.heap.size wr W') 9 (by kernel_rfl) ((Below.refl _ _).drew) (fun hHeld => ?_)
      refine c_read (i := 0) (oi := ⟨(some 15), _, _, _, _, _⟩) (v := _) rfl (by decide) (by kernel_rfl) (by kernel_rfl) (by kernel_rfl) (by kernel_rfl) (by kernel_rfl) (fun _ _ _ h => h) (yieldsIf_load_mid (by rfl) _ _ rfl G6 0 rfl (bv q) _ (fun W' hW' => range_row ((hW'.block _ sG).trans hg.out)) (Tryd.underlying50) rfl (by rw [bv_len, hl.out]; kernel_rfl)) hHeld ?_
      try simp only [pu]
      refine c_take (i := 2) (oi := ⟨(some 17), _, _, _, _, _⟩) (v := ?vh3_2) rfl (by decide) (by kernel_rfl) (by kernel_rfl) (by kernel_rfl) (fun _ _ _ h => h) (Or.inl ⟨by rfl, ?yh3_2⟩) hHeld ?_
      case yh3_2 => (intro W0 hSw; go_simp; try with_reducible rfl)
      try simp only [pu]
      refine c_take (i := 3) (oi := ⟨(some 18), _, _, _, _, _⟩) (v := .pointer (some ⟨w.heap.size + 1, j, none⟩)) rfl (by decide) (by kernel_rfl) (by kernel_rfl) (by kernel_rfl) (fun _ _ _ h => h) (Or.inl ⟨by rfl, ?yh3_3⟩) hHeld ?_
      case yh3_3 => (intro W0 hSw; go_simp; try with_reducible rfl)
      try simp only [pu]
      refine c_read (i := 4) (oi := ⟨(some 19), _, _, _, _, _⟩) (v := .int .u8 (c : Int)) rfl (by decide) (by kernel_rfl) (by kernel_rfl) (by kernel_rfl) (by kernel_rfl) (by kernel_rfl) (fun _ _ _ h => h) (Or.inl ⟨by rfl, ?yc15⟩) hHeld ?_
      case yc15 => (intro W0 hSw; have hcc := (World.cell?_of_block (hSw.block _ sN)).trans cN; go_simp; try with_reducible rfl)
      try simp only [pu]
      refine c_take (i := 5) (oi := ⟨(some 20), _, _, _, _, _⟩) (v := .int .u8 (d : Int)) rfl (by decide) (by kernel_rfl) (by kernel_rfl) (by kernel_rfl) (fun _ _ _ h => h) (Or.inl ⟨by rfl, ?yh3_5⟩) hHeld ?_
      case yh3_5 => (intro W0 hSw; go_simp; try with_reducible rfl)
      try simp only [pu]
      refine c_take (i := 6) (oi := ⟨(some 21), _, _, _, _, _⟩) (v := .pointer (some ⟨G5, d * 128, none⟩)) rfl (by decide) (by kernel_rfl) (by kernel_rfl) (by kernel_rfl) (fun _ _ _ h => h) (Or.inl ⟨by rfl, ?yh3_6⟩) hHeld ?_
      case yh3_6 => (intro W0 hSw; go_simp; try with_reducible rfl)
      try simp only [pu]
      refine c_read (i := 7) (oi := ⟨(some 22), _, _, _, _, _⟩) (v := _) rfl (by decide) (by kernel_rfl) (by kernel_rfl) (by kernel_rfl) (by kernel_rfl) (by kernel_rfl) (fun _ _ _ h => h) (yieldsIf_load_mid (by rfl) _ _ rfl G5 (d * 128) rfl (bv (sub v9 (d * 128) 128)) _ (fun W' hW' => range_sub ((hW'.block _ sR).trans gR.out)) (Tryd.underlying50) rfl (by rw [bv_len, HLD.out]; kernel_rfl)) hHeld ?_
      try simp only [pu]
      refine c_step (i := 1) (o := ⟨(some 16), _, _, _, _, _⟩) (by kernel_rfl) rfl (fun K hK => ?_)
      go_simp
      refine (sixteen_any _ q hl.out hM.out).mono ?_
      rintro e W7 ⟨v16, rfl, e16, h16, hb16⟩
      refine hK.out _ _ (below_next hHeld hHeld.size hb16) (fun hHeld => ?_)
      clear hK K hb16
      try simp only [pu]
      refine c_step (i := 8) (o := ⟨(some 23), _, _, _, _, _⟩) (by kernel_rfl) rfl (fun K hK => ?_)
      go_simp
      refine (pplus_any _ (hla1.next hHeld) v16 (sub v9 (d * 128) 128) h16.out e16.out HLD.out HD.out).mono ?_
      rintro e W8 ⟨v23, rfl, e23, h23, hb23⟩
      refine hK.out _ _ (below_next hHeld hHeld.size hb23) (fun hHeld => ?_)
      clear hK K hb23
      try simp only [pu]
      refine c_call (S' := fun _ => True) (o := ⟨none, _, _, _, _, _⟩) (by kernel_rfl) (by kernel_rfl) rfl (fun K hK => ?_)
      have zg := row_next2 hg hHeld
      have zo := But.of_below (g := G6) hHeld (Nat.le_refl _)
      clear hHeld
      refine step_row (by rfl) 50 (.tmp 6) (.tmp 23) rfl G6 (bv v23) rfl rfl 50 _ zg.out (by rw [bv_len, h23.out]; kernel_rfl) (by rw [List.size_toArray, bv_len, bv_len, h23.out, hl.out]) (bv_one _) ?_
      intro X6 hg15 kR
      have hB15 := zo.trans kR
      refine hK.out _ _ trivial (fun _ => ?_)
      clear hK K zg zo kR
      try simp only [pu]
      refine wpAnyH_done (by kernel_rfl) ?_ _
      have hP15 := vlt (show PlE v23 (mulE (m * 16 + d) P) by rw [← times_step HO.out]; exact e23.out)
      clear e16 e23 hM
      have sG6 := row_size hg15
      have gN6 := row_but gN hB15 (by omega)
      have gR6 := row_but gR hB15 (by omega)
      have sN6 := row_size gN6
      have sR6 := row_size gR6
      have hla6 := hla1.but (by omega) (by omega) hB15
      have cN6 : X6.cell? ⟨w.heap.size + 1, j, none⟩ = some (.int .u8 (c : Int)) := (World.cell?_of_block (hB15.block _ sN (fun e => by injection e with e; have e2 : w.heap.size + 1 = G6 := e; omega))).trans cN
      go_upto_region 7 with fail
      refine c_start (S := fun W' => Below X6.heap.size X6 W') 9 (by kernel_rfl) ((Below.refl _ _).drew) (fun hHeld => ?_)
      refine c_read (i := 0) (oi := ⟨(some 24), _, _, _, _, _⟩) (v := _) rfl (by decide) (by kernel_rfl) (by kernel_rfl) (by kernel_rfl) (by kernel_rfl) (by kernel_rfl) (fun _ _ _ h => h) (yieldsIf_load_mid (by rfl) _ _ rfl G6 0 rfl (bv v23) _ (fun W' hW' => range_row ((hW'.block _ sG6).trans hg15.out)) (Tryd.underlying50) rfl (by rw [bv_len, h23.out]; kernel_rfl)) hHeld ?_
      try simp only [pu]
      refine c_take (i := 2) (oi := ⟨(some 26), _, _, _, _, _⟩) (v := ?vh4_2) rfl (by decide) (by kernel_rfl) (by kernel_rfl) (by kernel_rfl) (fun _ _ _ h => h) (Or.inl ⟨by rfl, ?yh4_2⟩) hHeld ?_
      case yh4_2 => (intro W0 hSw; go_simp; try with_reducible rfl)
      try simp only [pu]
      refine c_take (i := 3) (oi := ⟨(some 27), _, _, _, _, _⟩) (v := .pointer (some ⟨w.heap.size + 1, j, none⟩)) rfl (by decide) (by kernel_rfl) (by kernel_rfl) (by kernel_rfl) (fun _ _ _ h => h) (Or.inl ⟨by rfl, ?yh4_3⟩) hHeld ?_
      case yh4_3 => (intro W0 hSw; go_simp; try with_reducible rfl)
      try simp only [pu]
      refine c_read (i := 4) (oi := ⟨(some 28), _, _, _, _, _⟩) (v := .int .u8 (c : Int)) rfl (by decide) (by kernel_rfl) (by kernel_rfl) (by kernel_rfl) (by kernel_rfl) (by kernel_rfl) (fun _ _ _ h => h) (Or.inl ⟨by rfl, ?yc24⟩) hHeld ?_
      case yc24 => (intro W0 hSw; have hcc := (World.cell?_of_block (hSw.block _ sN6)).trans cN6; go_simp; try with_reducible rfl)
      try simp only [pu]
      refine c_take (i := 5) (oi := ⟨(some 29), _, _, _, _, _⟩) (v := .int .u8 (f : Int)) rfl (by decide) (by kernel_rfl) (by kernel_rfl) (by kernel_rfl) (fun _ _ _ h => h) (Or.inl ⟨by rfl, ?yh4_5⟩) hHeld ?_
      case yh4_5 => (intro W0 hSw; go_simp; try with_reducible rfl)
      try simp only [pu]
      refine c_take (i := 6) (oi := ⟨(some 30), _, _, _, _, _⟩) (v := .pointer (some ⟨G5, f * 128, none⟩)) rfl (by decide) (by kernel_rfl) (by kernel_rfl) (by kernel_rfl) (fun _ _ _ h => h) (Or.inl ⟨by rfl, ?yh4_6⟩) hHeld ?_
      case yh4_6 => (intro W0 hSw; go_simp; try with_reducible rfl)
      try simp only [pu]
      refine c_read (i := 7) (oi := ⟨(some 31), _, _, _, _, _⟩) (v := _) rfl (by decide) (by kernel_rfl) (by kernel_rfl) (by kernel_rfl) (by kernel_rfl) (by kernel_rfl) (fun _ _ _ h => h) (yieldsIf_load_mid (by rfl) _ _ rfl G5 (f * 128) rfl (bv (sub v9 (f * 128) 128)) _ (fun W' hW' => range_sub ((hW'.block _ sR6).trans gR6.out)) (Tryd.underlying50) rfl (by rw [bv_len, HLF.out]; kernel_rfl)) hHeld ?_
      try simp only [pu]
      refine c_step (i := 1) (o := ⟨(some 25), _, _, _, _, _⟩) (by kernel_rfl) rfl (fun K hK => ?_)
      go_simp
      refine (sixteen_any _ v23 h23.out hP15.out).mono ?_
      rintro e W9 ⟨v25, rfl, e25, h25, hb25⟩
      refine hK.out _ _ (below_next hHeld hHeld.size hb25) (fun hHeld => ?_)
      clear hK K hb25
      try simp only [pu]
      refine c_step (i := 8) (o := ⟨(some 32), _, _, _, _, _⟩) (by kernel_rfl) rfl (fun K hK => ?_)
      go_simp
      refine (pplus_any _ (hla6.next hHeld) v25 (sub v9 (f * 128) 128) h25.out e25.out HLF.out HF.out).mono ?_
      rintro e W10 ⟨v32, rfl, e32, h32, hb32⟩
      refine hK.out _ _ (below_next hHeld hHeld.size hb32) (fun hHeld => ?_)
      clear hK K hb32
      try simp only [pu]
      refine c_call (S' := fun _ => True) (o := ⟨none, _, _, _, _, _⟩) (by kernel_rfl) (by kernel_rfl) rfl (fun K hK => ?_)
      have zg := row_next2 hg15 hHeld
      have zo := But.of_below (g := G6) hHeld (Nat.le_refl _)
      clear hHeld
      refine step_row (by rfl) 50 (.tmp 6) (.tmp 32) rfl G6 (bv v32) rfl rfl 50 _ zg.out (by rw [bv_len, h32.out]; kernel_rfl) (by rw [List.size_toArray, bv_len, bv_len, h32.out, h23.out]) (bv_one _) ?_
      intro X7 hg24 kR
      have hB24 := zo.trans kR
      refine hK.out _ _ trivial (fun _ => ?_)
      clear hK K zg zo kR
      try simp only [pu]
      refine wpAnyH_done (by kernel_rfl) ?_ _
      have hP24 := vlt (show PlE v32 (mulE (ln (n.drop j)) P) by rw [HLN.out, hcd.out, show d * 16 + f + 256 * m = (m * 16 + d) * 16 + f by omega, ← times_step HO.out]; exact e32.out)
      have hBt := (hbt.trans hB15).trans hB24
      clear cN cN6 ed ef
      go_wp2
      go_roundw
      case rel => exact ⟨j, v32, by omega, by go_num, hg24, h32, hP24, hBt⟩
      case measure => simp [intOf]
    · obtain rfl : k = 0 := by omega
      have g1 := row_but gb2_V2 hbt (by omega)
      have hbw := But.below hb_V2 hbt (by omega) hb_V2.size
      rw [List.drop_zero] at hM
      go_wp2_with (first
        | (with_reducible refine wpList_load_row rfl 50 (.tmp 6) rfl G6 rfl 50 (bv q).toArray (0, 0) _ hg.out Tryd.underlying50 rfl (by rw [List.size_toArray, bv_len, hl.out]; kernel_rfl) ?_)
        | (with_reducible refine wpList_store_row rfl 50 (.tmp 4) (.tmp 33) rfl (w.heap.size + 2) (bv q).toArray rfl rfl 50 _ g1.out (by rw [List.size_toArray, bv_len, hl.out]; kernel_rfl) (by rw [List.size_toArray, List.size_toArray, bv_len, bv_len, hl.out, z128_len]) (all_oneCell_toArray (bv_one _)) ?_))
      refine bodyPost_ret (v := .agg (bv q).toArray) (results_cell_row Tryd.results41 _ _ (w.heap.size + 2) 50 _ (0, 0) _ rfl (setRow_heap _ _ _ _ _ _ g1.out) Tryd.underlying50 rfl (by rw [List.size_toArray, bv_len, hl.out]; kernel_rfl)) rfl ⟨q, rfl, hM, hl, below_setRow hbw (by omega) _⟩
end Go.Proofs.YtehkalbiomagjaaDoor
namespace Go.Proofs.YtehkalbiomagjaaDoor
open Go.RowKit

set_option maxRecDepth 100000 in
set_option maxHeartbeats 4000000 in
theorem pmul_any (w : World) (hla : LaidP w) (n a : List UInt8) (hn : n.length = 32) (ha : a.length = 32) :
    Calls Tryd.prog 13 #[.agg (bv n).toArray, .agg (bv a).toArray] w fun e w' => ∃ l k, e = .returned (.tuple #[.agg (bv l).toArray, .int .i64 k]) ∧ Vlt (MuIs (ln n) a l k) ∧ Hid (l.length = 32) ∧ Below w.heap.size w w' := by
  have hzw := zero_word
  have hzp := zero_place
  have hbz := built_z32
  obtain ⟨V0, hW, gb0_V0, gb1_V0, gb2_V0, hb_V0, hsW⟩ := three_new w (bv n).toArray (bv a).toArray (bv z32).toArray 23 23 23
  have HW := Lib.hid hW
  have Hhn := Lib.hid hn
  have Hha := Lib.hid ha
  have sb0_V0 := row_size gb0_V0
  have sb1_V0 := row_size gb1_V0
  have sb2_V0 := row_size gb2_V0
  have hlaV0 := hla.next hb_V0
  have gl1 := hla.size
  have gl2 := hla.turn.2
  clear hla
  clear hW hsW hn ha
  go_enter Tryd.func13, Tryd.ntmps13
  go_upto_region 1 with fail
  rw [HW.out]
  refine plain_start (S := fun W' => Below V0.heap.size V0 W') (by kernel_rfl) (Below.refl _ _) (fun hHeld => ?_)
  refine wpAnyH_take (i := 0) (oi := ⟨(some 9), _, _, _, _, _⟩) (v := _) rfl (by kernel_rfl) (by kernel_rfl) (by kernel_rfl) (fun _ _ _ h => h) (yieldsIf_load_mid (by rfl) _ _ rfl (w.heap.size + 1) 0 rfl (bv a) _ (fun W' hW' => range_row ((hW'.block _ sb1_V0).trans gb1_V0.out)) (Tryd.underlying23) rfl (by rw [bv_len, Hha.out]; kernel_rfl)) hHeld ?_
  try simp only [pu]
  refine mix_start (B := V0.heap.size) (al := [⟨5, 6, 50, ((bv z128)).toArray⟩]) (fuel := 6) rfl hHeld (hHeld.size) ?_
  clear hHeld
  refine mix_call (i := 1) (o := ⟨(some 10), _, _, _, _, _⟩) rfl (by kernel_rfl) (by kernel_rfl) (by kernel_rfl) (by kernel_rfl) (fun x hx => by simp only [List.mem_cons, List.not_mem_nil, or_false] at hx; rcases hx with rfl <;> first | exact makes_new rfl rfl rfl rfl zero_place) (fun W x _ h => h.alloc h.size _) (fun _ _ _ _ _ h => h) (fun X1 hHeld hBX K hK => ?_)
  go_simp
  refine (placeOf_any _ (hlaV0.next hHeld) a (Hha.out)).mono ?_
  rintro e W1 ⟨v10, o10, rfl, e10, h10, hb1⟩
  refine hK.out _ _ (below_next hHeld hHeld.size hb1) hb1 ?_
  clear hK K hHeld hBX hb1
  try simp only [pu]
  refine mix_take (i := 2) (o := ⟨(some 8), _, _, _, _, _⟩) (v := ?vqV0_1_2) rfl (by kernel_rfl) (by kernel_rfl) (by kernel_rfl) (by kernel_rfl) (by kernel_rfl) (fun _ _ _ h => h) (Or.inl ⟨by rfl, ?yqV0_1_2⟩) ?_
  case yqV0_1_2 => (intro W0 hSw; go_simp; try with_reducible rfl)
  try simp only [pu]
  refine mix_take (i := 3) (o := ⟨(some 11), _, _, _, _, _⟩) (v := .agg (bv v10).toArray) rfl (by kernel_rfl) (by kernel_rfl) (by kernel_rfl) (by kernel_rfl) (by kernel_rfl) (fun _ _ _ h => h) (Or.inl ⟨by rfl, ?yqV0_1_3⟩) ?_
  case yqV0_1_3 => (intro W0 hSw; go_simp; try with_reducible rfl)
  try simp only [pu]
  refine mix_take (i := 4) (o := ⟨(some 12), _, _, _, _, _⟩) (v := .bool o10) rfl (by kernel_rfl) (by kernel_rfl) (by kernel_rfl) (by kernel_rfl) (by kernel_rfl) (fun _ _ _ h => h) (Or.inl ⟨by rfl, ?yqV0_1_4⟩) ?_
  case yqV0_1_4 => (intro W0 hSw; go_simp; try with_reducible rfl)
  try simp only [pu]
  refine mix_end (by kernel_rfl) (by kernel_rfl) (by simp) (by simp) (fun x hx => by simp only [List.mem_cons, List.not_mem_nil, or_false] at hx; rcases hx with rfl <;> first | exact makes_new rfl rfl rfl rfl zero_place) (fun W x _ h => h.alloc h.size _) (fun D hD W2 hHeld hBX hHo => ?_)
  obtain ⟨G6, rfl⟩ := v_one hD
  have xG6 : Hid (W2.heap[G6]? = some (.cells ((bv z128)).toArray 50 (0, 0))) := hHo.row (⟨5, 6, 50, ((bv z128)).toArray⟩, G6) (by simp)
  have lG6 : V0.heap.size ≤ G6 := hHo.new (⟨5, 6, 50, ((bv z128)).toArray⟩, G6) (by simp)
  clear hHo hBX hD
  simp only [markD, putD, List.foldr_cons, List.foldr_nil, pu, List.setIfInBounds_toArray, List.set_cons_zero, List.set_cons_succ]
  refine wpAnyH_ready (rs := [6]) (by kernel_rfl) (by simp) ?_
  refine AllReadyH.cons (i := 6) (o := ⟨none, _, _, _, _, _⟩) rfl (fun K hK => ?_) AllReadyH.nil
  refine step_row (by rfl) 50 (.tmp 6) (.tmp 11) rfl G6 (bv v10) rfl rfl 50 _ xG6.out (by rw [bv_len, h10.out]; kernel_rfl) (by rw [List.size_toArray, bv_len, bv_len, h10.out, z128_len]) (bv_one _) ?_
  intro W3 yG6 kG6
  refine hK.out _ _ (But.below hHeld kG6 lG6 hHeld.size) (fun hHeld => ?_)
  clear hK K kG6 xG6
  have xG6 := yG6
  clear yG6
  try simp only [pu]
  refine wpAnyH_take (i := 7) (oi := ⟨(some 7), _, _, _, _, _⟩) (v := ?vqV0_1_7) rfl (by kernel_rfl) (by kernel_rfl) (by kernel_rfl) (fun _ _ _ h => h) (Or.inl ⟨by rfl, ?yqV0_1_7⟩) hHeld ?_
  case yqV0_1_7 => (intro W0 hSw; go_simp; try with_reducible rfl)
  try simp only [pu]
  refine wpAnyH_done (by kernel_rfl) ?_ _
  obtain ⟨V1, rV1⟩ : ∃ X, X = W3 := ⟨_, rfl⟩
  subst rV1
  have gb0_V1 := row_next2 gb0_V0 hHeld
  have sb0_V1 := row_size gb0_V1
  have gb1_V1 := row_next2 gb1_V0 hHeld
  have sb1_V1 := row_size gb1_V1
  have gb2_V1 := row_next2 gb2_V0 hHeld
  have sb2_V1 := row_size gb2_V1
  have hb_V1 := below_next hb_V0 hb_V0.size hHeld
  have hlaV1 := hlaV0.next hHeld
  have gn6_V1 := xG6
  have sn6_V1 := row_size gn6_V1
  clear xG6
  have wG6 : w.heap.size + 3 ≤ G6 := by omega
  clear hHeld hb_V0 sb0_V0 sb1_V0 sb2_V0
  clear gb0_V0 gb1_V0 gb2_V0 hlaV0 lG6
  rcases o10 with _ | _
  · have HF := vlt (show MuIs (ln n) a z32 3 from ⟨none, e10.out.2 rfl, rfl, rfl⟩)
    go_upto_region 3 with fail
    refine plain_start_c (S := fun W' => Below V1.heap.size V1 W') 1 (by kernel_rfl) (Below.refl _ _) (fun hHeld => ?_)
    refine c_take (i := 0) (oi := ⟨(some 15), _, _, _, _, _⟩) (v := _) rfl (by decide) (by kernel_rfl) (by kernel_rfl) (by kernel_rfl) (fun _ _ _ h => h) (yields_build (by rfl) _ _ rfl [] (by rfl) _ hbz) hHeld ?_
    try simp only [pu]
    refine c_call (S' := fun _ => True) (o := ⟨none, _, _, _, _, _⟩) (by kernel_rfl) (by kernel_rfl) rfl (fun K hK => ?_)
    have cb0_0 := row_next2 gb0_V1 hHeld
    have cb1_0 := row_next2 gb1_V1 hHeld
    have cb2_0 := row_next2 gb2_V1 hHeld
    have cn6_0 := row_next2 gn6_V1 hHeld
    have cb_0 := below_next hb_V1 hb_V1.size hHeld
    have cl_0 := hlaV1.next hHeld
    clear hHeld
    refine step_row (by rfl) 23 (.tmp 4) (.tmp 15) rfl (w.heap.size + 2) (bv z32) rfl rfl 23 _ cb2_0.out (by rw [bv_len, z32_len]; kernel_rfl) (by rw [List.size_toArray]) (bv_one _) ?_
    intro W4 cb2_1 kR
    refine hK.out _ _ trivial (fun hHeld => ?_)
    have cb0_1 := row_but cb0_0 kR (by omega)
    have cb1_1 := row_but cb1_0 kR (by omega)
    have cn6_1 := row_but cn6_0 kR (by omega)
    have cb_1 := But.below cb_0 kR (by omega) cb_0.size
    have cl_1 := cl_0.but (by omega) (by omega) kR
    clear hK K kR cb_0 cb0_0 cb1_0 cb2_0 cn6_0 cl_0
    try simp only [pu]
    refine wpAnyH_take (i := 2) (oi := ⟨(some 5), _, _, _, _, _⟩) (v := (Value.int IntKind.i64 3)) rfl (by kernel_rfl) (by kernel_rfl) (by kernel_rfl) (fun _ _ _ h => h) (Or.inl ⟨by rfl, ?yqV1_2_2⟩) hHeld ?_
    case yqV1_2_2 => (intro W0 hSw; go_simp; try with_reducible rfl)
    try simp only [pu]
    refine wpAnyH_done (by kernel_rfl) ?_ _
    obtain ⟨V2, rV2⟩ : ∃ X, X = W4 := ⟨_, rfl⟩
    subst rV2
    have gb0_V2 := cb0_1
    have sb0_V2 := row_size gb0_V2
    have gb1_V2 := cb1_1
    have sb1_V2 := row_size gb1_V2
    have gb2_V2 := cb2_1
    have sb2_V2 := row_size gb2_V2
    have gn6_V2 := cn6_1
    have sn6_V2 := row_size gn6_V2
    have hb_V2 := cb_1
    have hlaV2 := cl_1
    clear hHeld cb_1 hb_V1 cl_1 hlaV1 cb0_1 cb1_1 cb2_1 cn6_1 sb0_V1 sb1_V1 sb2_V1 sn6_V1 gb0_V1 gb1_V1 gb2_V1 gn6_V1
    go_wp2_with fail
    refine bodyPost_ret (v := .tuple #[.agg (bv z32).toArray, .int .i64 3]) (results_row_tmp Tryd.results13 _ _ (w.heap.size + 2) 23 _ (0, 0) _ rfl gb2_V2.out Tryd.underlying23 rfl (by rw [List.size_toArray, bv_len, z32_len]; kernel_rfl) _ rfl) rfl ⟨z32, 3, rfl, HF, z32_len, hb_V2⟩
  · obtain ⟨P, hP, hPa⟩ := e10.out.1 rfl
    have HP := vlt hP
    have HPa := vlt hPa
    clear hP hPa e10
    go_upto_region 4 with fail
    refine plain_start_c (S := fun W' => Below V1.heap.size V1 W') 4 (by kernel_rfl) (Below.refl _ _) (fun hHeld => ?_)
    refine c_read (i := 0) (oi := ⟨(some 16), _, _, _, _, _⟩) (v := _) rfl (by decide) (by kernel_rfl) (by kernel_rfl) (by kernel_rfl) (by kernel_rfl) (by kernel_rfl) (fun _ _ _ h => h) (yieldsIf_load_mid (by rfl) _ _ rfl G6 0 rfl (bv v10) _ (fun W' hW' => range_row ((hW'.block _ sn6_V1).trans gn6_V1.out)) (Tryd.underlying50) rfl (by rw [bv_len, h10.out]; kernel_rfl)) hHeld ?_
    try simp only [pu]
    refine c_read (i := 1) (oi := ⟨(some 17), _, _, _, _, _⟩) (v := _) rfl (by decide) (by kernel_rfl) (by kernel_rfl) (by kernel_rfl) (by kernel_rfl) (by kernel_rfl) (fun _ _ _ h => h) (yieldsIf_load_mid (by rfl) _ _ rfl (w.heap.size) 0 rfl (bv n) _ (fun W' hW' => range_row ((hW'.block _ sb0_V1).trans gb0_V1.out)) (Tryd.underlying23) rfl (by rw [bv_len, Hhn.out]; kernel_rfl)) hHeld ?_
    try simp only [pu]
    refine c_step (i := 2) (o := ⟨(some 18), _, _, _, _, _⟩) (by kernel_rfl) rfl (fun K hK => ?_)
    go_simp
    refine (ptimes_any _ (hlaV1.next hHeld) v10 n h10.out HP.out Hhn.out).mono ?_
    rintro e W4 ⟨v18, rfl, e18, h18, hb4⟩
    refine hK.out _ _ (below_next hHeld hHeld.size hb4) (fun hHeld => ?_)
    clear hK K hb4
    try simp only [pu]
    refine c_step (i := 3) (o := ⟨(some 19), _, _, _, _, _⟩) (by kernel_rfl) rfl (fun K hK => ?_)
    go_simp
    refine (ptold_any _ v18 (h18.out) (e18.out)).mono ?_
    rintro e W5 ⟨v19, rfl, e19, h19, hb5⟩
    refine hK.out _ _ (below_next hHeld hHeld.size hb5) (fun hHeld => ?_)
    clear hK K hb5
    try simp only [pu]
    refine c_call (S' := fun _ => True) (o := ⟨none, _, _, _, _, _⟩) (by kernel_rfl) (by kernel_rfl) rfl (fun K hK => ?_)
    have cb0_0 := row_next2 gb0_V1 hHeld
    have cb1_0 := row_next2 gb1_V1 hHeld
    have cb2_0 := row_next2 gb2_V1 hHeld
    have cn6_0 := row_next2 gn6_V1 hHeld
    have cb_0 := below_next hb_V1 hb_V1.size hHeld
    have cl_0 := hlaV1.next hHeld
    clear hHeld
    refine step_row (by rfl) 23 (.tmp 4) (.tmp 19) rfl (w.heap.size + 2) (bv v19) rfl rfl 23 _ cb2_0.out (by rw [bv_len, h19.out]; kernel_rfl) (by rw [List.size_toArray, bv_len, z32_len, bv_len, h19.out]) (bv_one _) ?_
    intro W6 cb2_1 kR
    refine hK.out _ _ trivial (fun hHeld => ?_)
    have cb0_1 := row_but cb0_0 kR (by omega)
    have cb1_1 := row_but cb1_0 kR (by omega)
    have cn6_1 := row_but cn6_0 kR (by omega)
    have cb_1 := But.below cb_0 kR (by omega) cb_0.size
    have cl_1 := cl_0.but (by omega) (by omega) kR
    clear hK K kR cb_0 cb0_0 cb1_0 cb2_0 cn6_0 cl_0
    try simp only [pu]
    refine wpAnyH_take (i := 5) (oi := ⟨(some 5), _, _, _, _, _⟩) (v := (Value.int IntKind.i64 0)) rfl (by kernel_rfl) (by kernel_rfl) (by kernel_rfl) (fun _ _ _ h => h) (Or.inl ⟨by rfl, ?yqV1_2_5⟩) hHeld ?_
    case yqV1_2_5 => (intro W0 hSw; go_simp; try with_reducible rfl)
    try simp only [pu]
    refine wpAnyH_done (by kernel_rfl) ?_ _
    obtain ⟨V2, rV2⟩ : ∃ X, X = W6 := ⟨_, rfl⟩
    subst rV2
    have gb0_V2 := cb0_1
    have sb0_V2 := row_size gb0_V2
    have gb1_V2 := cb1_1
    have sb1_V2 := row_size gb1_V2
    have gb2_V2 := cb2_1
    have sb2_V2 := row_size gb2_V2
    have gn6_V2 := cn6_1
    have sn6_V2 := row_size gn6_V2
    have hb_V2 := cb_1
    have hlaV2 := cl_1
    clear hHeld cb_1 hb_V1 cl_1 hlaV1 cb0_1 cb1_1 cb2_1 cn6_1 sb0_V1 sb1_V1 sb2_V1 sn6_V1 gb0_V1 gb1_V1 gb2_V1 gn6_V1
    have HF := vlt (show MuIs (ln n) a v19 0 from ⟨some P, HPa.out, e19.out, rfl⟩)
    go_wp2_with fail
    refine bodyPost_ret (v := .tuple #[.agg (bv v19).toArray, .int .i64 0]) (results_row_tmp Tryd.results13 _ _ (w.heap.size + 2) 23 _ (0, 0) _ rfl gb2_V2.out Tryd.underlying23 rfl (by rw [List.size_toArray, bv_len, h19.out]; kernel_rfl) _ rfl) rfl ⟨v19, 0, rfl, HF, h19, hb_V2⟩
set_option maxRecDepth 100000 in
set_option maxHeartbeats 4000000 in
theorem pzero_any (w : World) :
    Calls Tryd.prog 23 #[] w fun e w' => ∃ l, e = .returned (.agg (bv l).toArray) ∧ Vlt (l = one32) ∧ Hid (l.length = 32) ∧ Below w.heap.size w w' := by
  have hzw := zero_word
  obtain ⟨ONE, dONE, HONE⟩ := hides one32 one32_len
  have hb1 := built_one32
  rw [← dONE] at hb1
  have HF := vlt dONE
  clear dONE
  obtain ⟨V0, hW, gb0_V0, hb_V0, hsW⟩ := one_new w (bv z32).toArray 23
  have HW := Lib.hid hW
  have sb0_V0 := row_size gb0_V0
  clear hW hsW 
  go_enter Tryd.func23, Tryd.ntmps23
  go_upto_region 1 with fail
  rw [HW.out]
  refine plain_start_c (S := fun W' => Below V0.heap.size V0 W') 1 (by kernel_rfl) (Below.refl _ _) (fun hHeld => ?_)
  refine c_take (i := 0) (oi := ⟨(some 1), _, _, _, _, _⟩) (v := _) rfl (by decide) (by kernel_rfl) (by kernel_rfl) (by kernel_rfl) (fun _ _ _ h => h) (yields_build (by rfl) _ _ rfl [(0, .int .u8 1)] (by rfl) _ hb1) hHeld ?_
  try simp only [pu]
  refine c_call (S' := fun _ => True) (o := ⟨none, _, _, _, _, _⟩) (by kernel_rfl) (by kernel_rfl) rfl (fun K hK => ?_)
  have cb0_0 := row_next2 gb0_V0 hHeld
  have cb_0 := below_next hb_V0 hb_V0.size hHeld
  clear hHeld
  refine step_row (by rfl) 23 (.tmp 0) (.tmp 1) rfl (w.heap.size) (bv ONE) rfl rfl 23 _ cb0_0.out (by rw [bv_len, HONE.out]; kernel_rfl) (by rw [List.size_toArray, bv_len, z32_len, bv_len, HONE.out]) (bv_one _) ?_
  intro W1 cb0_1 kR
  refine hK.out _ _ trivial (fun hHeld => ?_)
  have cb_1 := But.below cb_0 kR (by omega) cb_0.size
  clear hK K kR cb_0 cb0_0 
  try simp only [pu]
  refine wpAnyH_done (by kernel_rfl) ?_ _
  obtain ⟨V1, rV1⟩ : ∃ X, X = W1 := ⟨_, rfl⟩
  subst rV1
  have gb0_V1 := cb0_1
  have sb0_V1 := row_size gb0_V1
  have hb_V1 := cb_1
  clear hHeld cb_1 hb_V0  cb0_1 sb0_V0 gb0_V0
  go_wp2_with fail
  refine bodyPost_ret (v := .agg (bv ONE).toArray) (results_cell_row Tryd.results23 _ _ (w.heap.size) 23 _ (0, 0) _ rfl gb0_V1.out Tryd.underlying23 rfl (by rw [List.size_toArray, bv_len, HONE.out]; kernel_rfl)) rfl ⟨ONE, rfl, HF, HONE, hb_V1⟩
/-- The base's bytes, so far. -/
def bsr : Nat → List UInt8
  | 0 => 0x58 :: List.replicate 31 0
  | k + 1 => (bsr k).set (k + 1) 0x66
theorem bsr_len : ∀ k, (bsr k).length = 32
  | 0 => rfl
  | k + 1 => by rw [bsr, List.length_set, bsr_len k]
theorem bsr_enc : bsr 31 = encE bE := by rw [bE_enc]; decide +kernel
theorem built_bsr : Tryd.prog.built 23 [(0, .int .u8 88)] = some (bv (bsr 0)).toArray := by kernel_rfl
set_option maxRecDepth 100000 in
set_option maxHeartbeats 4000000 in
theorem pbase_any (w : World) :
    Calls Tryd.prog 29 #[] w fun e w' => ∃ l, e = .returned (.agg (bv l).toArray) ∧ Vlt (l = encE bE) ∧ Hid (l.length = 32) ∧ Below w.heap.size w w' := by
  have hzw := zero_word
  obtain ⟨B0, dB0⟩ : ∃ l, l = bsr 0 := ⟨_, rfl⟩
  have HB0 := Lib.hid (show B0.length = 32 by rw [dB0]; exact bsr_len 0)
  have hb1 := built_bsr
  rw [← dB0] at hb1
  have HD := vlt dB0
  clear dB0
  obtain ⟨V0, hW, gb0_V0, hb_V0, hsW⟩ := one_new w (bv z32).toArray 23
  have HW := Lib.hid hW
  have sb0_V0 := row_size gb0_V0
  clear hW hsW 
  go_enter Tryd.func29, Tryd.ntmps29
  go_upto_region 1 with fail
  rw [HW.out]
  refine plain_start (S := fun W' => Below V0.heap.size V0 W') (by kernel_rfl) (Below.refl _ _) (fun hHeld => ?_)
  refine wpAnyH_take (i := 0) (oi := ⟨(some 3), _, _, _, _, _⟩) (v := _) rfl (by kernel_rfl) (by kernel_rfl) (by kernel_rfl) (fun _ _ _ h => h) (yields_build (by rfl) _ _ rfl [(0, .int .u8 88)] (by rfl) _ hb1) hHeld ?_
  try simp only [pu]
  refine mix_start (B := V0.heap.size) (al := [⟨1, 1, 23, ((bv z32)).toArray⟩]) (fuel := 1) rfl hHeld (hHeld.size) ?_
  clear hHeld
  refine mix_end (by kernel_rfl) (by kernel_rfl) (by simp) (by simp) (fun x hx => by simp only [List.mem_cons, List.not_mem_nil, or_false] at hx; rcases hx with rfl <;> first | exact makes_new rfl rfl rfl rfl zero_word) (fun W x _ h => h.alloc h.size _) (fun D hD W1 hHeld hBX hHo => ?_)
  obtain ⟨G1, rfl⟩ := v_one hD
  have xG1 : Hid (W1.heap[G1]? = some (.cells ((bv z32)).toArray 23 (0, 0))) := hHo.row (⟨1, 1, 23, ((bv z32)).toArray⟩, G1) (by simp)
  have lG1 : V0.heap.size ≤ G1 := hHo.new (⟨1, 1, 23, ((bv z32)).toArray⟩, G1) (by simp)
  clear hHo hBX hD
  simp only [markD, putD, List.foldr_cons, List.foldr_nil, pu, List.setIfInBounds_toArray, List.set_cons_zero, List.set_cons_succ]
  refine wpAnyH_ready (rs := [2]) (by kernel_rfl) (by simp) ?_
  refine AllReadyH.cons (i := 2) (o := ⟨none, _, _, _, _, _⟩) rfl (fun K hK => ?_) AllReadyH.nil
  refine step_row (by rfl) 23 (.tmp 1) (.tmp 3) rfl G1 (bv B0) rfl rfl 23 _ xG1.out (by rw [bv_len, HB0.out]; kernel_rfl) (by rw [List.size_toArray, bv_len, bv_len, HB0.out, z32_len]) (bv_one _) ?_
  intro W2 yG1 kG1
  refine hK.out _ _ (But.below hHeld kG1 lG1 hHeld.size) (fun hHeld => ?_)
  clear hK K kG1 xG1
  have xG1 := yG1
  clear yG1
  try simp only [pu]
  refine wpAnyH_done (by kernel_rfl) ?_ _
  obtain ⟨V1, rV1⟩ : ∃ X, X = W2 := ⟨_, rfl⟩
  subst rV1
  have gb0_V1 := row_next2 gb0_V0 hHeld
  have sb0_V1 := row_size gb0_V1
  have hb_V1 := below_next hb_V0 hb_V0.size hHeld
  have gn1_V1 := xG1
  have sn1_V1 := row_size gn1_V1
  clear xG1
  have wG1 : w.heap.size + 1 ≤ G1 := by omega
  clear hHeld hb_V0 sb0_V0
  clear gb0_V0 lG1
  clear HW hb1
  have gs : Hid (V1.heap[G1]? = some (.cells (bv (bsr 0)).toArray 23 (0, 0))) := by rw [← HD.out]; exact gn1_V1.out
  clear gn1_V1
  go_wp2_with fail
  go_loopw [2, 6] (fun u s wr => ∃ k : Nat, k ≤ 31 ∧ s = .int .i64 (k : Int) ∧ Hid (wr.heap[G1]? = some (.cells (bv (bsr k)).toArray 23 (0, 0))) ∧ But G1 V1 wr) (fun u s _ => 32 - (intOf s).toNat)
  case atStart => exact ⟨0, by omega, rfl, gs, But.refl _ _⟩
  case round =>
    obtain ⟨k, hk, rfl, hg, hbt⟩ := hrel
    by_cases hlt : k < 31
    · have f0 : wr.frozen? ⟨G1, k + 1, none⟩ = false := frozen_of_row _ _ _ _ _ hg.out
      obtain ⟨u0, c0⟩ : ∃ u, wr.cell? ⟨G1, k + 1, none⟩ = some u := by
        rw [cell_of_row _ _ _ _ _ _ hg.out]
        exact ⟨_, List.getElem?_toArray .. ▸ List.getElem?_eq_getElem (by rw [bv_len, bsr_len]; omega)⟩
      have hset : Hid ((wr.setCell ⟨G1, k + 1, none⟩ (.int .u8 102)).heap[G1]? = some (.cells (bv (bsr (k + 1))).toArray 23 (0, 0))) := by
        have h1 := (world_set_cell hg.out (k + 1) (.int .u8 102)).out
        rw [show (102 : Int) = ((0x66 : UInt8).toNat : Int) from rfl, bv_set] at h1
        exact h1
      have hb2 := hbt.set (i := k + 1) (.int .u8 102)
      go_wp2
      go_roundw
      case rel => exact ⟨k + 1, by omega, by go_num, hset, hb2⟩
      case measure => simp [intOf]; omega
    · obtain rfl : k = 31 := by omega
      have HL := Lib.hid (bsr_len 31)
      have HF := vlt bsr_enc
      obtain ⟨B, hB⟩ : ∃ l, l = bsr 31 := ⟨_, rfl⟩
      rw [← hB] at hg HL HF
      clear hB
      have g1 := row_but gb0_V1 hbt (by omega)
      have hbw := But.below hb_V1 hbt (by omega) hb_V1.size
      go_wp2_with (first
        | (with_reducible refine wpList_load_row rfl 23 (.tmp 1) rfl G1 rfl 23 (bv B).toArray (0, 0) _ hg.out Tryd.underlying23 rfl (by rw [bv_size B HL.out]; kernel_rfl) ?_)
        | (with_reducible refine wpList_store_row rfl 23 (.tmp 0) (.tmp 13) rfl w.heap.size (bv B).toArray rfl rfl 23 _ g1.out (by rw [bv_size B HL.out]; kernel_rfl) (by rw [bv_size B HL.out]; kernel_rfl) (all_oneCell_toArray (bv_one _)) ?_))
      refine bodyPost_ret (v := .agg (bv B).toArray) (results_cell_row Tryd.results29 _ _ w.heap.size 23 _ (0, 0) _ rfl (setRow_heap _ _ _ _ _ _ g1.out) Tryd.underlying23 rfl (by rw [bv_size B HL.out]; kernel_rfl)) rfl ⟨B, rfl, HF, HL, below_setRow hbw (by omega) _⟩
end Go.Proofs.YtehkalbiomagjaaDoor
namespace Go.Proofs.YtehkalbiomagjaaDoor
open Go.RowKit

/-- One digit; the digits of bytes. -/
def dg (n : Nat) : UInt8 := if n < 10 then UInt8.ofNat (48 + n) else UInt8.ofNat (87 + n)
def hexd : List UInt8 → List UInt8
  | [] => []
  | b :: r => dg (b.toNat / 16) :: dg (b.toNat % 16) :: hexd r
theorem hexd_len (l : List UInt8) : (hexd l).length = 2 * l.length := by induction l with | nil => rfl | cons b r ih => simp [hexd, ih]; omega
theorem hexd_app (l m : List UInt8) : hexd (l ++ m) = hexd l ++ hexd m := by induction l with | nil => rfl | cons b r ih => simp [hexd, ih]

theorem digit_at : ∀ m : Fin 16, ((⟨#[48, 49, 50, 51, 52, 53, 54, 55, 56, 57, 97, 98, 99, 100, 101, 102]⟩ : ByteArray)[m.val]'(m.isLt)).toNat = (dg m.val).toNat := by decide

theorem dig_hi (x : Nat) (hx : x < 256) {h : ((x : Int) / 16).toNat < (⟨#[48, 49, 50, 51, 52, 53, 54, 55, 56, 57, 97, 98, 99, 100, 101, 102]⟩ : ByteArray).size} :
    (((⟨#[48, 49, 50, 51, 52, 53, 54, 55, 56, 57, 97, 98, 99, 100, 101, 102]⟩ : ByteArray)[((x : Int) / 16).toNat]'h).toNat : Int) = ((dg (x / 16)).toNat : Int) := by
  have h1 := digit_at ⟨x / 16, by omega⟩
  have e : ((x : Int) / 16).toNat = x / 16 := by omega
  simp only [e]; rw [← h1]
theorem dig_lo (x : Nat) {h : ((x : Int) % 16).toNat < (⟨#[48, 49, 50, 51, 52, 53, 54, 55, 56, 57, 97, 98, 99, 100, 101, 102]⟩ : ByteArray).size} :
    (((⟨#[48, 49, 50, 51, 52, 53, 54, 55, 56, 57, 97, 98, 99, 100, 101, 102]⟩ : ByteArray)[((x : Int) % 16).toNat]'h).toNat : Int) = ((dg (x % 16)).toNat : Int) := by
  have h1 := digit_at ⟨x % 16, by omega⟩
  have e : ((x : Int) % 16).toNat = x % 16 := by omega
  simp only [e]; rw [← h1]
end Go.Proofs.YtehkalbiomagjaaDoor
namespace Go.Proofs.YtehkalbiomagjaaDoor
open Go.RowKit

set_option maxRecDepth 100000 in
theorem refHex_any (A : Option Addr) (l : List UInt8) (n c : Nat) (w : World) (ha : Byt w w.heap.size A l) (hl : l.length = n) (hn : n ≤ 35184372088832) :
    Calls Tryd.prog 30 #[.slice A n c] w fun e w' => e = .returned (.string ⟨(hexd l).toArray⟩) ∧ Below w.heap.size w w' := by
  obtain ⟨i0, hi, hz0, hz1, hz2⟩ := info_parts Tryd.infoByte
  obtain ⟨w1, hrun, hg1, hb1, hs1⟩ := make_bytes (P := Tryd.prog) Tryd.underlying48 hi hz0 hz1 hz2 0 (2 * n) (0 : Int) (2 * (n : Int)) rfl (by omega) (by omega) (by omega) w
  have HL := Lib.hid hl
  clear hl hi hz0 hz1 hz2
  go_enter Tryd.func30, Tryd.ntmps30
  go_wp2
  go_loopw [3, 4] (fun s i wr => ∃ (k : Nat) (A2 : Option Addr) (c2 : Nat), k ≤ n ∧ i = .int .i64 (k : Int) ∧ s = .slice A2 (2 * k) c2 ∧ Res wr w.heap.size 5 A2 (2 * k) c2 (hexd (l.take k)) ∧ Below w.heap.size w wr) (fun _ i _ => n - (intOf i).toNat)
  case atStart => exact ⟨0, _, _, Nat.zero_le _, rfl, rfl, Res.row (Nat.le_refl _) hg1.out (by omega) (by omega) (by simp [bv]) rfl (by simp [hexd, bv]), hb1.out⟩
  case round =>
    obtain ⟨k, A2, c2, hk, rfl, rfl, hres, hbel⟩ := hrel
    by_cases hlt : k < n
    · obtain ⟨g, o, x, rfl, hg, hx, hcell, hget⟩ := (ha.below hbel).at_ (k := k) (by rw [HL.out]; exact hlt)
      have hm : bits .and .u8 (x : Int) 15 = (x : Int) % 16 := by
        have h1 := u8_and_nat x 15 hx (by omega)
        rw [nat_mask4] at h1
        rw [show (15 : Int) = ((15 : Nat) : Int) from rfl, h1]; omega
      have b1 : 0 ≤ (x : Int) / 16 ∧ (x : Int) / 16 < 16 := by omega
      have b2 : 0 ≤ (x : Int) % 16 ∧ (x : Int) % 16 < 16 := by omega
      go_wp2
      go_region_law ((refine step_append_bytes _ rfl (.tmp 15) (.tmp 28) 48 rfl 5 Tryd.underlying48 Tryd.infoByte w.heap.size A2 (2 * k) c2 (hexd (l.take k)) (by simp [Act.eval]) (by exact (hres.alloc _).drew) ⟨wr.heap.size, 0, none⟩ 2 2 (by simp [Act.eval]) [dg (x / 16), dg (x % 16)] rfl (new_bytes2d wr _ _ _ _ _ (dig_hi x hx) (dig_lo x)) (by omega) (by have := hbel.size; simp; omega) ?_; intro A3 c3 w3 hres3 hb3))
      all_goals
        have hbel3 := hb3 w.heap.size w (Nat.le_refl _) ((hbel.alloc (by have := hbel.size; omega) _).drew)
        clear hb3 hres hbel
        go_wp2
        go_roundw
        case rel =>
          refine ⟨k + 1, A3, c3, by omega, by go_num, rfl, ?_, hbel3⟩
          rw [take_at hget.out, hexd_app]
          have h3 : Res w3 w.heap.size 5 A3 (2 * (k + 1)) c3 (hexd (l.take k) ++ [dg (x / 16), dg (x % 16)]) := hres3
          simpa [hexd, Nat.mod_eq_of_lt hx] using h3
        case measure => simp [intOf]; omega
    · obtain rfl : k = n := by omega
      have hcv := conv_bytes (P := Tryd.prog) Tryd.underlying48 Tryd.underlying5 Tryd.underlying9 hres.byt (2 * k) c2 hres.len
      go_wp2
      go_ret
      rw [List.take_of_length_le (by rw [HL.out]; exact Nat.le_refl _)]
      exact ⟨rfl, hbel⟩
end Go.Proofs.YtehkalbiomagjaaDoor
namespace Go.Proofs.YtehkalbiomagjaaDoor
open Go.RowKit

theorem one_zE : one32 = encE zE := by rw [zE_enc]; decide +kernel
theorem mul_base {n : Nat} {a l : List UInt8} {k : Int} {P : PtE} (h : MuIs n a l k) (ha : a = encE P) (hP : OnP P) : l = encE (mulE n P) ∧ k = 0 := by
  obtain ⟨o, ho, hl, hk⟩ := h
  obtain rfl := ptIs_only ho (by rw [ha]; exact ptIs_enc hP)
  exact ⟨hl, hk⟩
theorem add_two {a b l : List UInt8} {k : Int} {P Q : PtE} (h : AdIs a b l k) (ha : a = encE P) (hb : b = encE Q) (hP : OnP P) (hQ : OnP Q) : l = encE (addE P Q) ∧ k = 0 := by
  obtain ⟨o, p, ho, hp, hl, hk⟩ := h
  obtain rfl := ptIs_only ho (by rw [ha]; exact ptIs_enc hP)
  obtain rfl := ptIs_only hp (by rw [hb]; exact ptIs_enc hQ)
  exact ⟨hl, hk⟩
theorem neg_one {a l : List UInt8} {k : Int} {P : PtE} (h : NgIs a l k) (ha : a = encE P) (hP : OnP P) : l = encE (negE P) ∧ k = 0 := by
  obtain ⟨o, ho, hl, hk⟩ := h
  obtain rfl := ptIs_only ho (by rw [ha]; exact ptIs_enc hP)
  exact ⟨hl, hk⟩
theorem good_one {a : List UInt8} {ok : Bool} {P : PtE} (h : GdIs a ok) (ha : a = encE P) (hP : OnP P) : ok = true := by
  obtain ⟨o, ho, hk⟩ := h
  obtain rfl := ptIs_only ho (by rw [ha]; exact ptIs_enc hP)
  exact hk
theorem hex_base : hexd (encE bE) = [53, 56, 54, 54, 54, 54, 54, 54, 54, 54, 54, 54, 54, 54, 54, 54, 54, 54, 54, 54, 54, 54, 54, 54, 54, 54, 54, 54, 54, 54, 54, 54, 54, 54, 54, 54, 54, 54, 54, 54, 54, 54, 54, 54, 54, 54, 54, 54, 54, 54, 54, 54, 54, 54, 54, 54, 54, 54, 54, 54, 54, 54, 54, 54] := by
  rw [bE_enc]; decide +kernel
set_option maxRecDepth 100000 in
set_option maxHeartbeats 4000000 in
theorem l9times_any (w : World) (hla : LaidP w) (n : List UInt8) (hn : n.length = 32) :
    Calls Tryd.prog 18 #[.agg (bv n).toArray] w fun e w' => ∃ l, e = .returned (.agg (bv l).toArray) ∧ Vlt (l = encE (mulE (ln n) bE) ∧ OnP (mulE (ln n) bE)) ∧ Hid (l.length = 32) ∧ Below w.heap.size w w' := by
  have hzw := zero_word
  obtain ⟨V0, hW, gb0_V0, gb1_V0, hb_V0, hsW⟩ := pair_new w (bv n).toArray (bv z32).toArray 23 23
  have HW := Lib.hid hW
  have Hhn := Lib.hid hn
  have sb0_V0 := row_size gb0_V0
  have sb1_V0 := row_size gb1_V0
  have hlaV0 := hla.next hb_V0
  have gl1 := hla.size
  have gl2 := hla.turn.2
  clear hla
  clear hW hsW hn
  go_enter Tryd.func18, Tryd.ntmps18
  go_upto_region 1 with fail
  rw [HW.out]
  refine wp_region_held_drew (S := fun W' => Below V0.heap.size V0 W') (by kernel_rfl) ((Below.refl _ _).drew) (fun hHeld => ?_)
  refine wpAnyH_take (i := 0) (oi := ⟨(some 6), _, _, _, _, _⟩) (v := _) rfl (by kernel_rfl) (by kernel_rfl) (by kernel_rfl) (fun _ _ _ h => h) (yieldsIf_load_mid (by rfl) _ _ rfl (w.heap.size) 0 rfl (bv n) _ (fun W' hW' => range_row ((hW'.block _ sb0_V0).trans gb0_V0.out)) (Tryd.underlying23) rfl (by rw [bv_len, Hhn.out]; kernel_rfl)) hHeld ?_
  try simp only [pu]
  refine mix_start (B := V0.heap.size) (al := [⟨6, 3, 23, ((bv z32)).toArray⟩]) (fuel := 7) rfl hHeld (hHeld.size) ?_
  clear hHeld
  refine mix_call (i := 1) (o := ⟨(some 7), _, _, _, _, _⟩) rfl (by kernel_rfl) (by kernel_rfl) (by kernel_rfl) (by kernel_rfl) (fun x hx => by simp only [List.mem_cons, List.not_mem_nil, or_false] at hx; rcases hx with rfl <;> first | exact makes_new rfl rfl rfl rfl zero_word) (fun W x _ h => h.alloc h.size _) (fun _ _ _ _ _ h => h) (fun X1 hHeld hBX K hK => ?_)
  go_simp
  refine (pbase_any _  ).mono ?_
  rintro e W1 ⟨v7, rfl, e7, h7, hb1⟩
  refine hK.out _ _ (below_next hHeld hHeld.size hb1) hb1 ?_
  clear hK K hHeld hBX hb1
  try simp only [pu]
  refine mix_call (i := 2) (o := ⟨(some 8), _, _, _, _, _⟩) rfl (by kernel_rfl) (by kernel_rfl) (by kernel_rfl) (by kernel_rfl) (fun x hx => by simp only [List.mem_cons, List.not_mem_nil, or_false] at hx; rcases hx with rfl <;> first | exact makes_new rfl rfl rfl rfl zero_word) (fun W x _ h => h.alloc h.size _) (fun _ _ _ _ _ h => h) (fun X2 hHeld hBX K hK => ?_)
  go_simp
  refine (pmul_any _ (hlaV0.next hHeld) n v7 (Hhn.out) (h7.out)).mono ?_
  rintro e W2 ⟨v8, k8, rfl, e8, h8, hb2⟩
  refine hK.out _ _ (below_next hHeld hHeld.size hb2) hb2 ?_
  clear hK K hHeld hBX hb2
  try simp only [pu]
  refine mix_take (i := 3) (o := ⟨(some 5), _, _, _, _, _⟩) (v := ?vqV0_1_3) rfl (by kernel_rfl) (by kernel_rfl) (by kernel_rfl) (by kernel_rfl) (by kernel_rfl) (fun _ _ _ h => h) (Or.inl ⟨by rfl, ?yqV0_1_3⟩) ?_
  case yqV0_1_3 => (intro W0 hSw; go_simp; try with_reducible rfl)
  try simp only [pu]
  refine mix_take (i := 4) (o := ⟨(some 9), _, _, _, _, _⟩) (v := .agg (bv v8).toArray) rfl (by kernel_rfl) (by kernel_rfl) (by kernel_rfl) (by kernel_rfl) (by kernel_rfl) (fun _ _ _ h => h) (Or.inl ⟨by rfl, ?yqV0_1_4⟩) ?_
  case yqV0_1_4 => (intro W0 hSw; go_simp; try with_reducible rfl)
  try simp only [pu]
  refine mix_take (i := 5) (o := ⟨(some 10), _, _, _, _, _⟩) (v := .int .i64 k8) rfl (by kernel_rfl) (by kernel_rfl) (by kernel_rfl) (by kernel_rfl) (by kernel_rfl) (fun _ _ _ h => h) (Or.inl ⟨by rfl, ?yqV0_1_5⟩) ?_
  case yqV0_1_5 => (intro W0 hSw; go_simp; try with_reducible rfl)
  try simp only [pu]
  refine mix_end (by kernel_rfl) (by kernel_rfl) (by simp) (by simp) (fun x hx => by simp only [List.mem_cons, List.not_mem_nil, or_false] at hx; rcases hx with rfl <;> first | exact makes_new rfl rfl rfl rfl zero_word) (fun W x _ h => h.alloc h.size _) (fun D hD W3 hHeld hBX hHo => ?_)
  obtain ⟨G3, rfl⟩ := v_one hD
  have xG3 : Hid (W3.heap[G3]? = some (.cells ((bv z32)).toArray 23 (0, 0))) := hHo.row (⟨6, 3, 23, ((bv z32)).toArray⟩, G3) (by simp)
  have lG3 : V0.heap.size ≤ G3 := hHo.new (⟨6, 3, 23, ((bv z32)).toArray⟩, G3) (by simp)
  clear hHo hBX hD
  simp only [markD, putD, List.foldr_cons, List.foldr_nil, pu, List.setIfInBounds_toArray, List.set_cons_zero, List.set_cons_succ]
  refine wpAnyH_ready (rs := [7]) (by kernel_rfl) (by simp) ?_
  refine AllReadyH.cons (i := 7) (o := ⟨none, _, _, _, _, _⟩) rfl (fun K hK => ?_) AllReadyH.nil
  refine step_row (by rfl) 23 (.tmp 3) (.tmp 9) rfl G3 (bv v8) rfl rfl 23 _ xG3.out (by rw [bv_len, h8.out]; kernel_rfl) (by rw [List.size_toArray, bv_len, bv_len, h8.out, z32_len]) (bv_one _) ?_
  intro W4 yG3 kG3
  refine hK.out _ _ (But.below hHeld kG3 lG3 hHeld.size) (fun hHeld => ?_)
  clear hK K kG3 xG3
  have xG3 := yG3
  clear yG3
  try simp only [pu]
  refine wpAnyH_take (i := 8) (oi := ⟨(some 4), _, _, _, _, _⟩) (v := ?vqV0_1_8) rfl (by kernel_rfl) (by kernel_rfl) (by kernel_rfl) (fun _ _ _ h => h) (Or.inl ⟨by rfl, ?yqV0_1_8⟩) hHeld ?_
  case yqV0_1_8 => (intro W0 hSw; go_simp; try with_reducible rfl)
  try simp only [pu]
  refine wpAnyH_done (by kernel_rfl) ?_ _
  obtain ⟨V1, rV1⟩ : ∃ X, X = W4 := ⟨_, rfl⟩
  subst rV1
  have gb0_V1 := row_next2 gb0_V0 hHeld
  have sb0_V1 := row_size gb0_V1
  have gb1_V1 := row_next2 gb1_V0 hHeld
  have sb1_V1 := row_size gb1_V1
  have hb_V1 := below_next hb_V0 hb_V0.size hHeld
  have hlaV1 := hlaV0.next hHeld
  have gn3_V1 := xG3
  have sn3_V1 := row_size gn3_V1
  clear xG3
  have wG3 : w.heap.size + 2 ≤ G3 := by omega
  clear hHeld hb_V0 sb0_V0 sb1_V0
  clear gb0_V0 gb1_V0 hlaV0 lG3
  go_upto_region 2 with fail
  refine plain_start_c (S := fun W' => Below V1.heap.size V1 W') 1 (by kernel_rfl) (Below.refl _ _) (fun hHeld => ?_)
  refine c_read (i := 0) (oi := ⟨(some 11), _, _, _, _, _⟩) (v := _) rfl (by decide) (by kernel_rfl) (by kernel_rfl) (by kernel_rfl) (by kernel_rfl) (by kernel_rfl) (fun _ _ _ h => h) (yieldsIf_load_mid (by rfl) _ _ rfl G3 0 rfl (bv v8) _ (fun W' hW' => range_row ((hW'.block _ sn3_V1).trans gn3_V1.out)) (Tryd.underlying23) rfl (by rw [bv_len, h8.out]; kernel_rfl)) hHeld ?_
  try simp only [pu]
  refine c_call (S' := fun _ => True) (o := ⟨none, _, _, _, _, _⟩) (by kernel_rfl) (by kernel_rfl) rfl (fun K hK => ?_)
  have cb0_0 := row_next2 gb0_V1 hHeld
  have cb1_0 := row_next2 gb1_V1 hHeld
  have cn3_0 := row_next2 gn3_V1 hHeld
  have cb_0 := below_next hb_V1 hb_V1.size hHeld
  have cl_0 := hlaV1.next hHeld
  clear hHeld
  refine step_row (by rfl) 23 (.tmp 2) (.tmp 11) rfl (w.heap.size + 1) (bv v8) rfl rfl 23 _ cb1_0.out (by rw [bv_len, h8.out]; kernel_rfl) (by rw [List.size_toArray, bv_len, z32_len, bv_len, h8.out]) (bv_one _) ?_
  intro W5 cb1_1 kR
  refine hK.out _ _ trivial (fun hHeld => ?_)
  have cb0_1 := row_but cb0_0 kR (by omega)
  have cn3_1 := row_but cn3_0 kR (by omega)
  have cb_1 := But.below cb_0 kR (by omega) cb_0.size
  have cl_1 := cl_0.but (by omega) (by omega) kR
  clear hK K kR cb_0 cb0_0 cb1_0 cn3_0 cl_0
  try simp only [pu]
  refine wpAnyH_done (by kernel_rfl) ?_ _
  obtain ⟨V2, rV2⟩ : ∃ X, X = W5 := ⟨_, rfl⟩
  subst rV2
  have gb0_V2 := cb0_1
  have sb0_V2 := row_size gb0_V2
  have gb1_V2 := cb1_1
  have sb1_V2 := row_size gb1_V2
  have gn3_V2 := cn3_1
  have sn3_V2 := row_size gn3_V2
  have hb_V2 := cb_1
  have hlaV2 := cl_1
  clear hHeld cb_1 hb_V1 cl_1 hlaV1 cb0_1 cb1_1 cn3_1 sb0_V1 sb1_V1 sn3_V1 gb0_V1 gb1_V1 gn3_V1
  have HF := vlt (show v8 = encE (mulE (ln n) bE) ∧ OnP (mulE (ln n) bE) from ⟨(mul_base e8.out e7.out bE_on).1, mulE_on bE_on _⟩)
  go_wp2_with fail
  refine bodyPost_ret (v := .agg (bv v8).toArray) (results_cell_row Tryd.results18 _ _ (w.heap.size + 1) 23 _ (0, 0) _ rfl gb1_V2.out Tryd.underlying23 rfl (by rw [List.size_toArray, bv_len, h8.out]; kernel_rfl)) rfl ⟨v8, rfl, HF, h8, hb_V2⟩
set_option maxRecDepth 100000 in
set_option maxHeartbeats 4000000 in
theorem l9sum_any (w : World) (hla : LaidP w) (a b : List UInt8) {P Q : PtE} (ha : a.length = 32) (hea : a = encE P ∧ OnP P) (hb : b.length = 32) (heb : b = encE Q ∧ OnP Q) :
    Calls Tryd.prog 19 #[.agg (bv a).toArray, .agg (bv b).toArray] w fun e w' => ∃ l, e = .returned (.agg (bv l).toArray) ∧ Vlt (l = encE (addE P Q) ∧ OnP (addE P Q)) ∧ Hid (l.length = 32) ∧ Below w.heap.size w w' := by
  have hzw := zero_word
  have HP := vlt hea
  have HQ := vlt heb
  clear hea heb
  obtain ⟨V0, hW, gb0_V0, gb1_V0, gb2_V0, hb_V0, hsW⟩ := three_new w (bv a).toArray (bv b).toArray (bv z32).toArray 23 23 23
  have HW := Lib.hid hW
  have Hha := Lib.hid ha
  have Hhb := Lib.hid hb
  have sb0_V0 := row_size gb0_V0
  have sb1_V0 := row_size gb1_V0
  have sb2_V0 := row_size gb2_V0
  have hlaV0 := hla.next hb_V0
  have gl1 := hla.size
  have gl2 := hla.turn.2
  clear hla
  clear hW hsW ha hb
  go_enter Tryd.func19, Tryd.ntmps19
  go_upto_region 1 with fail
  rw [HW.out]
  refine plain_start (S := fun W' => Below V0.heap.size V0 W') (by kernel_rfl) (Below.refl _ _) (fun hHeld => ?_)
  refine wpAnyH_take (i := 0) (oi := ⟨(some 8), _, _, _, _, _⟩) (v := _) rfl (by kernel_rfl) (by kernel_rfl) (by kernel_rfl) (fun _ _ _ h => h) (yieldsIf_load_mid (by rfl) _ _ rfl (w.heap.size) 0 rfl (bv a) _ (fun W' hW' => range_row ((hW'.block _ sb0_V0).trans gb0_V0.out)) (Tryd.underlying23) rfl (by rw [bv_len, Hha.out]; kernel_rfl)) hHeld ?_
  try simp only [pu]
  refine wpAnyH_take (i := 1) (oi := ⟨(some 9), _, _, _, _, _⟩) (v := _) rfl (by kernel_rfl) (by kernel_rfl) (by kernel_rfl) (fun _ _ _ h => h) (yieldsIf_load_mid (by rfl) _ _ rfl (w.heap.size + 1) 0 rfl (bv b) _ (fun W' hW' => range_row ((hW'.block _ sb1_V0).trans gb1_V0.out)) (Tryd.underlying23) rfl (by rw [bv_len, Hhb.out]; kernel_rfl)) hHeld ?_
  try simp only [pu]
  refine mix_start (B := V0.heap.size) (al := [⟨6, 5, 23, ((bv z32)).toArray⟩]) (fuel := 6) rfl hHeld (hHeld.size) ?_
  clear hHeld
  refine mix_call (i := 2) (o := ⟨(some 10), _, _, _, _, _⟩) rfl (by kernel_rfl) (by kernel_rfl) (by kernel_rfl) (by kernel_rfl) (fun x hx => by simp only [List.mem_cons, List.not_mem_nil, or_false] at hx; rcases hx with rfl <;> first | exact makes_new rfl rfl rfl rfl zero_word) (fun W x _ h => h.alloc h.size _) (fun _ _ _ _ _ h => h) (fun X1 hHeld hBX K hK => ?_)
  go_simp
  refine (padd_any _ (hlaV0.next hHeld) a b (Hha.out) (Hhb.out)).mono ?_
  rintro e W1 ⟨v10, k10, rfl, e10, h10, hb1⟩
  refine hK.out _ _ (below_next hHeld hHeld.size hb1) hb1 ?_
  clear hK K hHeld hBX hb1
  try simp only [pu]
  refine mix_take (i := 3) (o := ⟨(some 7), _, _, _, _, _⟩) (v := ?vqV0_1_3) rfl (by kernel_rfl) (by kernel_rfl) (by kernel_rfl) (by kernel_rfl) (by kernel_rfl) (fun _ _ _ h => h) (Or.inl ⟨by rfl, ?yqV0_1_3⟩) ?_
  case yqV0_1_3 => (intro W0 hSw; go_simp; try with_reducible rfl)
  try simp only [pu]
  refine mix_take (i := 4) (o := ⟨(some 11), _, _, _, _, _⟩) (v := .agg (bv v10).toArray) rfl (by kernel_rfl) (by kernel_rfl) (by kernel_rfl) (by kernel_rfl) (by kernel_rfl) (fun _ _ _ h => h) (Or.inl ⟨by rfl, ?yqV0_1_4⟩) ?_
  case yqV0_1_4 => (intro W0 hSw; go_simp; try with_reducible rfl)
  try simp only [pu]
  refine mix_take (i := 5) (o := ⟨(some 12), _, _, _, _, _⟩) (v := .int .i64 k10) rfl (by kernel_rfl) (by kernel_rfl) (by kernel_rfl) (by kernel_rfl) (by kernel_rfl) (fun _ _ _ h => h) (Or.inl ⟨by rfl, ?yqV0_1_5⟩) ?_
  case yqV0_1_5 => (intro W0 hSw; go_simp; try with_reducible rfl)
  try simp only [pu]
  refine mix_end (by kernel_rfl) (by kernel_rfl) (by simp) (by simp) (fun x hx => by simp only [List.mem_cons, List.not_mem_nil, or_false] at hx; rcases hx with rfl <;> first | exact makes_new rfl rfl rfl rfl zero_word) (fun W x _ h => h.alloc h.size _) (fun D hD W2 hHeld hBX hHo => ?_)
  obtain ⟨G5, rfl⟩ := v_one hD
  have xG5 : Hid (W2.heap[G5]? = some (.cells ((bv z32)).toArray 23 (0, 0))) := hHo.row (⟨6, 5, 23, ((bv z32)).toArray⟩, G5) (by simp)
  have lG5 : V0.heap.size ≤ G5 := hHo.new (⟨6, 5, 23, ((bv z32)).toArray⟩, G5) (by simp)
  clear hHo hBX hD
  simp only [markD, putD, List.foldr_cons, List.foldr_nil, pu, List.setIfInBounds_toArray, List.set_cons_zero, List.set_cons_succ]
  refine wpAnyH_ready (rs := [7]) (by kernel_rfl) (by simp) ?_
  refine AllReadyH.cons (i := 7) (o := ⟨none, _, _, _, _, _⟩) rfl (fun K hK => ?_) AllReadyH.nil
  refine step_row (by rfl) 23 (.tmp 5) (.tmp 11) rfl G5 (bv v10) rfl rfl 23 _ xG5.out (by rw [bv_len, h10.out]; kernel_rfl) (by rw [List.size_toArray, bv_len, bv_len, h10.out, z32_len]) (bv_one _) ?_
  intro W3 yG5 kG5
  refine hK.out _ _ (But.below hHeld kG5 lG5 hHeld.size) (fun hHeld => ?_)
  clear hK K kG5 xG5
  have xG5 := yG5
  clear yG5
  try simp only [pu]
  refine wpAnyH_take (i := 8) (oi := ⟨(some 6), _, _, _, _, _⟩) (v := ?vqV0_1_8) rfl (by kernel_rfl) (by kernel_rfl) (by kernel_rfl) (fun _ _ _ h => h) (Or.inl ⟨by rfl, ?yqV0_1_8⟩) hHeld ?_
  case yqV0_1_8 => (intro W0 hSw; go_simp; try with_reducible rfl)
  try simp only [pu]
  refine wpAnyH_done (by kernel_rfl) ?_ _
  obtain ⟨V1, rV1⟩ : ∃ X, X = W3 := ⟨_, rfl⟩
  subst rV1
  have gb0_V1 := row_next2 gb0_V0 hHeld
  have sb0_V1 := row_size gb0_V1
  have gb1_V1 := row_next2 gb1_V0 hHeld
  have sb1_V1 := row_size gb1_V1
  have gb2_V1 := row_next2 gb2_V0 hHeld
  have sb2_V1 := row_size gb2_V1
  have hb_V1 := below_next hb_V0 hb_V0.size hHeld
  have hlaV1 := hlaV0.next hHeld
  have gn5_V1 := xG5
  have sn5_V1 := row_size gn5_V1
  clear xG5
  have wG5 : w.heap.size + 3 ≤ G5 := by omega
  clear hHeld hb_V0 sb0_V0 sb1_V0 sb2_V0
  clear gb0_V0 gb1_V0 gb2_V0 hlaV0 lG5
  go_upto_region 2 with fail
  refine plain_start_c (S := fun W' => Below V1.heap.size V1 W') 1 (by kernel_rfl) (Below.refl _ _) (fun hHeld => ?_)
  refine c_read (i := 0) (oi := ⟨(some 13), _, _, _, _, _⟩) (v := _) rfl (by decide) (by kernel_rfl) (by kernel_rfl) (by kernel_rfl) (by kernel_rfl) (by kernel_rfl) (fun _ _ _ h => h) (yieldsIf_load_mid (by rfl) _ _ rfl G5 0 rfl (bv v10) _ (fun W' hW' => range_row ((hW'.block _ sn5_V1).trans gn5_V1.out)) (Tryd.underlying23) rfl (by rw [bv_len, h10.out]; kernel_rfl)) hHeld ?_
  try simp only [pu]
  refine c_call (S' := fun _ => True) (o := ⟨none, _, _, _, _, _⟩) (by kernel_rfl) (by kernel_rfl) rfl (fun K hK => ?_)
  have cb0_0 := row_next2 gb0_V1 hHeld
  have cb1_0 := row_next2 gb1_V1 hHeld
  have cb2_0 := row_next2 gb2_V1 hHeld
  have cn5_0 := row_next2 gn5_V1 hHeld
  have cb_0 := below_next hb_V1 hb_V1.size hHeld
  have cl_0 := hlaV1.next hHeld
  clear hHeld
  refine step_row (by rfl) 23 (.tmp 4) (.tmp 13) rfl (w.heap.size + 2) (bv v10) rfl rfl 23 _ cb2_0.out (by rw [bv_len, h10.out]; kernel_rfl) (by rw [List.size_toArray, bv_len, z32_len, bv_len, h10.out]) (bv_one _) ?_
  intro W4 cb2_1 kR
  refine hK.out _ _ trivial (fun hHeld => ?_)
  have cb0_1 := row_but cb0_0 kR (by omega)
  have cb1_1 := row_but cb1_0 kR (by omega)
  have cn5_1 := row_but cn5_0 kR (by omega)
  have cb_1 := But.below cb_0 kR (by omega) cb_0.size
  have cl_1 := cl_0.but (by omega) (by omega) kR
  clear hK K kR cb_0 cb0_0 cb1_0 cb2_0 cn5_0 cl_0
  try simp only [pu]
  refine wpAnyH_done (by kernel_rfl) ?_ _
  obtain ⟨V2, rV2⟩ : ∃ X, X = W4 := ⟨_, rfl⟩
  subst rV2
  have gb0_V2 := cb0_1
  have sb0_V2 := row_size gb0_V2
  have gb1_V2 := cb1_1
  have sb1_V2 := row_size gb1_V2
  have gb2_V2 := cb2_1
  have sb2_V2 := row_size gb2_V2
  have gn5_V2 := cn5_1
  have sn5_V2 := row_size gn5_V2
  have hb_V2 := cb_1
  have hlaV2 := cl_1
  clear hHeld cb_1 hb_V1 cl_1 hlaV1 cb0_1 cb1_1 cb2_1 cn5_1 sb0_V1 sb1_V1 sb2_V1 sn5_V1 gb0_V1 gb1_V1 gb2_V1 gn5_V1
  have HF := vlt (show v10 = encE (addE P Q) ∧ OnP (addE P Q) from ⟨(add_two e10.out HP.out.1 HQ.out.1 HP.out.2 HQ.out.2).1, addE_on HP.out.2 HQ.out.2⟩)
  go_wp2_with fail
  refine bodyPost_ret (v := .agg (bv v10).toArray) (results_cell_row Tryd.results19 _ _ (w.heap.size + 2) 23 _ (0, 0) _ rfl gb2_V2.out Tryd.underlying23 rfl (by rw [List.size_toArray, bv_len, h10.out]; kernel_rfl)) rfl ⟨v10, rfl, HF, h10, hb_V2⟩
set_option maxRecDepth 100000 in
set_option maxHeartbeats 4000000 in
theorem awake9_any (w : World) (hla : LaidP w) :
    Calls Tryd.prog 8 #[] w fun e w' => e = .returned (.bool true) ∧ Below w.heap.size w w' := by
  have hzw := zero_word
  obtain ⟨ONE, dONE, HONE⟩ := hides one32 one32_len
  have hb1 := built_one32
  rw [← dONE] at hb1
  have HO1 := vlt (show ln ONE = 1 by rw [dONE]; decide +kernel)
  have HOZ := vlt dONE
  clear dONE
  have hb_w := Below.refl w.heap.size w
  have hlaw := hla
  clear hla
  go_enter Tryd.func8, Tryd.ntmps8
  go_upto_region 1 with fail
  refine plain_start (S := fun W' => Below w.heap.size w W') (by kernel_rfl) (Below.refl _ _) (fun hHeld => ?_)
  refine mix_start (B := w.heap.size) (al := [⟨1, 1, 23, ((bv z32)).toArray⟩]) (fuel := 2) rfl hHeld (hHeld.size) ?_
  clear hHeld
  refine mix_call (i := 0) (o := ⟨(some 6), _, _, _, _, _⟩) rfl (by kernel_rfl) (by kernel_rfl) (by kernel_rfl) (by kernel_rfl) (fun x hx => by simp only [List.mem_cons, List.not_mem_nil, or_false] at hx; rcases hx with rfl <;> first | exact makes_new rfl rfl rfl rfl zero_word) (fun W x _ h => h.alloc h.size _) (fun _ _ _ _ _ h => h) (fun X1 hHeld hBX K hK => ?_)
  go_simp
  refine (pbase_any _  ).mono ?_
  rintro e W1 ⟨v6, rfl, e6, h6, hb1⟩
  refine hK.out _ _ (below_next hHeld hHeld.size hb1) hb1 ?_
  clear hK K hHeld hBX hb1
  try simp only [pu]
  refine mix_end (by kernel_rfl) (by kernel_rfl) (by simp) (by simp) (fun x hx => by simp only [List.mem_cons, List.not_mem_nil, or_false] at hx; rcases hx with rfl <;> first | exact makes_new rfl rfl rfl rfl zero_word) (fun W x _ h => h.alloc h.size _) (fun D hD W2 hHeld hBX hHo => ?_)
  obtain ⟨G1, rfl⟩ := v_one hD
  have xG1 : Hid (W2.heap[G1]? = some (.cells ((bv z32)).toArray 23 (0, 0))) := hHo.row (⟨1, 1, 23, ((bv z32)).toArray⟩, G1) (by simp)
  have lG1 : w.heap.size ≤ G1 := hHo.new (⟨1, 1, 23, ((bv z32)).toArray⟩, G1) (by simp)
  clear hHo hBX hD
  simp only [markD, putD, List.foldr_cons, List.foldr_nil, pu, List.setIfInBounds_toArray, List.set_cons_zero, List.set_cons_succ]
  refine wpAnyH_ready (rs := [2]) (by kernel_rfl) (by simp) ?_
  refine AllReadyH.cons (i := 2) (o := ⟨none, _, _, _, _, _⟩) rfl (fun K hK => ?_) AllReadyH.nil
  refine step_row (by rfl) 23 (.tmp 1) (.tmp 6) rfl G1 (bv v6) rfl rfl 23 _ xG1.out (by rw [bv_len, h6.out]; kernel_rfl) (by rw [List.size_toArray, bv_len, bv_len, h6.out, z32_len]) (bv_one _) ?_
  intro W3 yG1 kG1
  refine hK.out _ _ (But.below hHeld kG1 lG1 hHeld.size) (fun hHeld => ?_)
  clear hK K kG1 xG1
  have xG1 := yG1
  clear yG1
  try simp only [pu]
  refine wpAnyH_done (by kernel_rfl) ?_ _
  obtain ⟨V1, rV1⟩ : ∃ X, X = W3 := ⟨_, rfl⟩
  subst rV1
  have hb_V1 := below_next hb_w hb_w.size hHeld
  have hlaV1 := hlaw.next hHeld
  have gn1_V1 := xG1
  have sn1_V1 := row_size gn1_V1
  clear xG1
  have wG1 : w.heap.size + 0 ≤ G1 := by omega
  clear hHeld hb_w 
  clear hlaw lG1
  go_upto_region 2 with fail
  refine plain_start (S := fun W' => Below V1.heap.size V1 W') (by kernel_rfl) (Below.refl _ _) (fun hHeld => ?_)
  refine wpAnyH_take (i := 0) (oi := ⟨(some 8), _, _, _, _, _⟩) (v := _) rfl (by kernel_rfl) (by kernel_rfl) (by kernel_rfl) (fun _ _ _ h => h) (yields_build (by rfl) _ _ rfl [(0, .int .u8 1)] (by rfl) _ hb1) hHeld ?_
  try simp only [pu]
  refine wpAnyH_take (i := 1) (oi := ⟨(some 9), _, _, _, _, _⟩) (v := _) rfl (by kernel_rfl) (by kernel_rfl) (by kernel_rfl) (fun _ _ _ h => h) (yieldsIf_load_mid (by rfl) _ _ rfl G1 0 rfl (bv v6) _ (fun W' hW' => range_row ((hW'.block _ sn1_V1).trans gn1_V1.out)) (Tryd.underlying23) rfl (by rw [bv_len, h6.out]; kernel_rfl)) hHeld ?_
  try simp only [pu]
  refine mix_start (B := V1.heap.size) (al := [⟨6, 2, 23, ((bv z32)).toArray⟩]) (fuel := 6) rfl hHeld (hHeld.size) ?_
  clear hHeld
  refine mix_call (i := 2) (o := ⟨(some 10), _, _, _, _, _⟩) rfl (by kernel_rfl) (by kernel_rfl) (by kernel_rfl) (by kernel_rfl) (fun x hx => by simp only [List.mem_cons, List.not_mem_nil, or_false] at hx; rcases hx with rfl <;> first | exact makes_new rfl rfl rfl rfl zero_word) (fun W x _ h => h.alloc h.size _) (fun _ _ _ _ _ h => h) (fun X4 hHeld hBX K hK => ?_)
  go_simp
  refine (pmul_any _ (hlaV1.next hHeld) ONE v6 (HONE.out) (h6.out)).mono ?_
  rintro e W4 ⟨v10, k10, rfl, e10, h10, hb4⟩
  refine hK.out _ _ (below_next hHeld hHeld.size hb4) hb4 ?_
  clear hK K hHeld hBX hb4
  try simp only [pu]
  refine mix_take (i := 3) (o := ⟨(some 7), _, _, _, _, _⟩) (v := ?vqV1_2_3) rfl (by kernel_rfl) (by kernel_rfl) (by kernel_rfl) (by kernel_rfl) (by kernel_rfl) (fun _ _ _ h => h) (Or.inl ⟨by rfl, ?yqV1_2_3⟩) ?_
  case yqV1_2_3 => (intro W0 hSw; go_simp; try with_reducible rfl)
  try simp only [pu]
  refine mix_take (i := 4) (o := ⟨(some 11), _, _, _, _, _⟩) (v := .agg (bv v10).toArray) rfl (by kernel_rfl) (by kernel_rfl) (by kernel_rfl) (by kernel_rfl) (by kernel_rfl) (fun _ _ _ h => h) (Or.inl ⟨by rfl, ?yqV1_2_4⟩) ?_
  case yqV1_2_4 => (intro W0 hSw; go_simp; try with_reducible rfl)
  try simp only [pu]
  refine mix_take (i := 5) (o := ⟨(some 12), _, _, _, _, _⟩) (v := .int .i64 k10) rfl (by kernel_rfl) (by kernel_rfl) (by kernel_rfl) (by kernel_rfl) (by kernel_rfl) (fun _ _ _ h => h) (Or.inl ⟨by rfl, ?yqV1_2_5⟩) ?_
  case yqV1_2_5 => (intro W0 hSw; go_simp; try with_reducible rfl)
  try simp only [pu]
  refine mix_end (by kernel_rfl) (by kernel_rfl) (by simp) (by simp) (fun x hx => by simp only [List.mem_cons, List.not_mem_nil, or_false] at hx; rcases hx with rfl <;> first | exact makes_new rfl rfl rfl rfl zero_word) (fun W x _ h => h.alloc h.size _) (fun D hD W5 hHeld hBX hHo => ?_)
  obtain ⟨G2, rfl⟩ := v_one hD
  have xG2 : Hid (W5.heap[G2]? = some (.cells ((bv z32)).toArray 23 (0, 0))) := hHo.row (⟨6, 2, 23, ((bv z32)).toArray⟩, G2) (by simp)
  have lG2 : V1.heap.size ≤ G2 := hHo.new (⟨6, 2, 23, ((bv z32)).toArray⟩, G2) (by simp)
  clear hHo hBX hD
  simp only [markD, putD, List.foldr_cons, List.foldr_nil, pu, List.setIfInBounds_toArray, List.set_cons_zero, List.set_cons_succ]
  refine wpAnyH_ready (rs := [7]) (by kernel_rfl) (by simp) ?_
  refine AllReadyH.cons (i := 7) (o := ⟨none, _, _, _, _, _⟩) rfl (fun K hK => ?_) AllReadyH.nil
  refine step_row (by rfl) 23 (.tmp 2) (.tmp 11) rfl G2 (bv v10) rfl rfl 23 _ xG2.out (by rw [bv_len, h10.out]; kernel_rfl) (by rw [List.size_toArray, bv_len, bv_len, h10.out, z32_len]) (bv_one _) ?_
  intro W6 yG2 kG2
  refine hK.out _ _ (But.below hHeld kG2 lG2 hHeld.size) (fun hHeld => ?_)
  clear hK K kG2 xG2
  have xG2 := yG2
  clear yG2
  try simp only [pu]
  refine wpAnyH_take (i := 8) (oi := ⟨(some 3), _, _, _, _, _⟩) (v := ?vqV1_2_8) rfl (by kernel_rfl) (by kernel_rfl) (by kernel_rfl) (fun _ _ _ h => h) (Or.inl ⟨by rfl, ?yqV1_2_8⟩) hHeld ?_
  case yqV1_2_8 => (intro W0 hSw; go_simp; try with_reducible rfl)
  try simp only [pu]
  refine wpAnyH_done (by kernel_rfl) ?_ _
  obtain ⟨V2, rV2⟩ : ∃ X, X = W6 := ⟨_, rfl⟩
  subst rV2
  have gn1_V2 := row_next2 gn1_V1 hHeld
  have sn1_V2 := row_size gn1_V2
  have hb_V2 := below_next hb_V1 hb_V1.size hHeld
  have hlaV2 := hlaV1.next hHeld
  have gn2_V2 := xG2
  have sn2_V2 := row_size gn2_V2
  clear xG2
  have wG2 : w.heap.size + 0 ≤ G2 := by omega
  have nG1G2 : G1 ≠ G2 := by omega
  clear hHeld hb_V1 sn1_V1
  clear gn1_V1 hlaV1 lG2
  have HM := mul_base e10.out e6.out bE_on
  obtain rfl : k10 = 0 := HM.2
  obtain rfl : v6 = v10 := by rw [HM.1, e6.out, HO1.out, mulE_one bE_on]
  clear HM e10
  go_upto_region 3 with fail
  refine wp_region_held_drew (S := fun W' => Below V2.heap.size V2 W') (by kernel_rfl) ((Below.refl _ _).drew) (fun hHeld => ?_)
  refine wpAnyH_take (i := 0) (oi := ⟨(some 14), _, _, _, _, _⟩) (v := _) rfl (by kernel_rfl) (by kernel_rfl) (by kernel_rfl) (fun _ _ _ h => h) (yieldsIf_load_mid (by rfl) _ _ rfl G1 0 rfl (bv v6) _ (fun W' hW' => range_row ((hW'.block _ sn1_V2).trans gn1_V2.out)) (Tryd.underlying23) rfl (by rw [bv_len, h6.out]; kernel_rfl)) hHeld ?_
  try simp only [pu]
  refine mix_start (B := V2.heap.size) (al := [⟨6, 4, 23, ((bv z32)).toArray⟩]) (fuel := 7) rfl hHeld (hHeld.size) ?_
  clear hHeld
  refine mix_call (i := 1) (o := ⟨(some 15), _, _, _, _, _⟩) rfl (by kernel_rfl) (by kernel_rfl) (by kernel_rfl) (by kernel_rfl) (fun x hx => by simp only [List.mem_cons, List.not_mem_nil, or_false] at hx; rcases hx with rfl <;> first | exact makes_new rfl rfl rfl rfl zero_word) (fun W x _ h => h.alloc h.size _) (fun _ _ _ _ _ h => h) (fun X7 hHeld hBX K hK => ?_)
  go_simp
  refine (pzero_any _  ).mono ?_
  rintro e W7 ⟨v15, rfl, e15, h15, hb7⟩
  refine hK.out _ _ (below_next hHeld hHeld.size hb7) hb7 ?_
  clear hK K hHeld hBX hb7
  try simp only [pu]
  refine mix_call (i := 2) (o := ⟨(some 16), _, _, _, _, _⟩) rfl (by kernel_rfl) (by kernel_rfl) (by kernel_rfl) (by kernel_rfl) (fun x hx => by simp only [List.mem_cons, List.not_mem_nil, or_false] at hx; rcases hx with rfl <;> first | exact makes_new rfl rfl rfl rfl zero_word) (fun W x _ h => h.alloc h.size _) (fun _ _ _ _ _ h => h) (fun X8 hHeld hBX K hK => ?_)
  go_simp
  refine (padd_any _ (hlaV2.next hHeld) v6 v15 (h6.out) (h15.out)).mono ?_
  rintro e W8 ⟨v16, k16, rfl, e16, h16, hb8⟩
  refine hK.out _ _ (below_next hHeld hHeld.size hb8) hb8 ?_
  clear hK K hHeld hBX hb8
  try simp only [pu]
  refine mix_take (i := 3) (o := ⟨(some 13), _, _, _, _, _⟩) (v := ?vqV2_3_3) rfl (by kernel_rfl) (by kernel_rfl) (by kernel_rfl) (by kernel_rfl) (by kernel_rfl) (fun _ _ _ h => h) (Or.inl ⟨by rfl, ?yqV2_3_3⟩) ?_
  case yqV2_3_3 => (intro W0 hSw; go_simp; try with_reducible rfl)
  try simp only [pu]
  refine mix_take (i := 4) (o := ⟨(some 17), _, _, _, _, _⟩) (v := .agg (bv v16).toArray) rfl (by kernel_rfl) (by kernel_rfl) (by kernel_rfl) (by kernel_rfl) (by kernel_rfl) (fun _ _ _ h => h) (Or.inl ⟨by rfl, ?yqV2_3_4⟩) ?_
  case yqV2_3_4 => (intro W0 hSw; go_simp; try with_reducible rfl)
  try simp only [pu]
  refine mix_take (i := 5) (o := ⟨(some 18), _, _, _, _, _⟩) (v := .int .i64 k16) rfl (by kernel_rfl) (by kernel_rfl) (by kernel_rfl) (by kernel_rfl) (by kernel_rfl) (fun _ _ _ h => h) (Or.inl ⟨by rfl, ?yqV2_3_5⟩) ?_
  case yqV2_3_5 => (intro W0 hSw; go_simp; try with_reducible rfl)
  try simp only [pu]
  refine mix_end (by kernel_rfl) (by kernel_rfl) (by simp) (by simp) (fun x hx => by simp only [List.mem_cons, List.not_mem_nil, or_false] at hx; rcases hx with rfl <;> first | exact makes_new rfl rfl rfl rfl zero_word) (fun W x _ h => h.alloc h.size _) (fun D hD W9 hHeld hBX hHo => ?_)
  obtain ⟨G4, rfl⟩ := v_one hD
  have xG4 : Hid (W9.heap[G4]? = some (.cells ((bv z32)).toArray 23 (0, 0))) := hHo.row (⟨6, 4, 23, ((bv z32)).toArray⟩, G4) (by simp)
  have lG4 : V2.heap.size ≤ G4 := hHo.new (⟨6, 4, 23, ((bv z32)).toArray⟩, G4) (by simp)
  clear hHo hBX hD
  simp only [markD, putD, List.foldr_cons, List.foldr_nil, pu, List.setIfInBounds_toArray, List.set_cons_zero, List.set_cons_succ]
  refine wpAnyH_ready (rs := [7]) (by kernel_rfl) (by simp) ?_
  refine AllReadyH.cons (i := 7) (o := ⟨none, _, _, _, _, _⟩) rfl (fun K hK => ?_) AllReadyH.nil
  refine step_row (by rfl) 23 (.tmp 4) (.tmp 17) rfl G4 (bv v16) rfl rfl 23 _ xG4.out (by rw [bv_len, h16.out]; kernel_rfl) (by rw [List.size_toArray, bv_len, bv_len, h16.out, z32_len]) (bv_one _) ?_
  intro W10 yG4 kG4
  refine hK.out _ _ (But.below hHeld kG4 lG4 hHeld.size) (fun hHeld => ?_)
  clear hK K kG4 xG4
  have xG4 := yG4
  clear yG4
  try simp only [pu]
  refine wpAnyH_take (i := 8) (oi := ⟨(some 5), _, _, _, _, _⟩) (v := ?vqV2_3_8) rfl (by kernel_rfl) (by kernel_rfl) (by kernel_rfl) (fun _ _ _ h => h) (Or.inl ⟨by rfl, ?yqV2_3_8⟩) hHeld ?_
  case yqV2_3_8 => (intro W0 hSw; go_simp; try with_reducible rfl)
  try simp only [pu]
  refine wpAnyH_done (by kernel_rfl) ?_ _
  obtain ⟨V3, rV3⟩ : ∃ X, X = W10 := ⟨_, rfl⟩
  subst rV3
  have gn1_V3 := row_next2 gn1_V2 hHeld
  have sn1_V3 := row_size gn1_V3
  have gn2_V3 := row_next2 gn2_V2 hHeld
  have sn2_V3 := row_size gn2_V3
  have hb_V3 := below_next hb_V2 hb_V2.size hHeld
  have hlaV3 := hlaV2.next hHeld
  have gn4_V3 := xG4
  have sn4_V3 := row_size gn4_V3
  clear xG4
  have wG4 : w.heap.size + 0 ≤ G4 := by omega
  have nG1G4 : G1 ≠ G4 := by omega
  have nG2G4 : G2 ≠ G4 := by omega
  clear hHeld hb_V2 sn1_V2 sn2_V2
  clear gn1_V2 gn2_V2 hlaV2 lG4
  have HN := add_two e16.out e6.out (show v15 = encE zE by rw [e15.out, one_zE]) bE_on zE_on
  obtain rfl : k16 = 0 := HN.2
  obtain rfl : v6 = v16 := by rw [HN.1, e6.out, addE_zero bE_on]
  clear HN e16
  have hcut := cut_all (P := Tryd.prog) Tryd.underlying23 Tryd.sizeByte G1 0 (by decide)
  have HHEX := Lib.hid ((congrArg hexd e6.out).trans hex_base)
  go_upto_region 4 with fail
  refine plain_start (S := fun W' => Below V3.heap.size V3 W') (by kernel_rfl) (Below.refl _ _) (fun hHeld => ?_)
  refine wpAnyH_take (i := 0) (oi := ⟨(some 19), _, _, _, _, _⟩) (v := ?vqV3_4_0) rfl (by kernel_rfl) (by kernel_rfl) (by kernel_rfl) (fun _ _ _ h => h) (Or.inl ⟨by rfl, ?yqV3_4_0⟩) hHeld ?_
  case yqV3_4_0 => (intro W0 hSw; go_simp; try with_reducible rfl)
  try simp only [pu]
  refine wpAnyH_ready (rs := [1]) (by kernel_rfl) (by simp) ?_
  refine AllReadyH.cons (i := 1) (o := ⟨(some 20), _, _, _, _, _⟩) rfl (fun K hK => ?_) AllReadyH.nil
  go_simp
  refine (refHex_any (some ⟨G1, 0, none⟩) v6 32 32 _ (byt_row ((hHeld.block _ sn1_V3).trans gn1_V3.out)) h6.out (by decide)).mono ?_
  rintro e W11 ⟨rfl, hb11⟩
  refine hK.out _ _ (below_next hHeld hHeld.size hb11) (fun hHeld => ?_)
  clear hK K hb11
  try simp only [pu]
  rw [HHEX.out]
  refine wpAnyH_take (i := 2) (oi := ⟨(some 21), _, _, _, _, _⟩) (v := ?vqV3_4_2) rfl (by kernel_rfl) (by kernel_rfl) (by kernel_rfl) (fun _ _ _ h => h) (Or.inl ⟨by rfl, ?yqV3_4_2⟩) hHeld ?_
  case yqV3_4_2 => (intro W0 hSw; go_simp; try with_reducible rfl)
  try simp only [pu]
  refine wpAnyH_take (i := 3) (oi := ⟨(some 22), _, _, _, _, _⟩) (v := ?vqV3_4_3) rfl (by kernel_rfl) (by kernel_rfl) (by kernel_rfl) (fun _ _ _ h => h) (Or.inl ⟨by rfl, ?yqV3_4_3⟩) hHeld ?_
  case yqV3_4_3 => (intro W0 hSw; go_simp; try with_reducible rfl)
  try simp only [pu]
  refine wpAnyH_take (i := 4) (oi := ⟨(some 23), _, _, _, _, _⟩) (v := ?vqV3_4_4) rfl (by kernel_rfl) (by kernel_rfl) (by kernel_rfl) (fun _ _ _ h => h) (Or.inl ⟨by rfl, ?yqV3_4_4⟩) hHeld ?_
  case yqV3_4_4 => (intro W0 hSw; go_simp; try with_reducible rfl)
  try simp only [pu]
  refine wpAnyH_take (i := 5) (oi := ⟨(some 24), _, _, _, _, _⟩) (v := ?vqV3_4_5) rfl (by kernel_rfl) (by kernel_rfl) (by kernel_rfl) (fun _ _ _ h => h) (Or.inl ⟨by rfl, ?yqV3_4_5⟩) hHeld ?_
  case yqV3_4_5 => (intro W0 hSw; go_simp; try with_reducible rfl)
  try simp only [pu]
  refine wpAnyH_take (i := 6) (oi := ⟨(some 25), _, _, _, _, _⟩) (v := ?vqV3_4_6) rfl (by kernel_rfl) (by kernel_rfl) (by kernel_rfl) (fun _ _ _ h => h) (Or.inl ⟨by rfl, ?yqV3_4_6⟩) hHeld ?_
  case yqV3_4_6 => (intro W0 hSw; go_simp; try with_reducible rfl)
  try simp only [pu]
  refine wpAnyH_take (i := 7) (oi := ⟨(some 26), _, _, _, _, _⟩) (v := ?vqV3_4_7) rfl (by kernel_rfl) (by kernel_rfl) (by kernel_rfl) (fun _ _ _ h => h) (Or.inl ⟨by rfl, ?yqV3_4_7⟩) hHeld ?_
  case yqV3_4_7 => (intro W0 hSw; go_simp; try with_reducible rfl)
  try simp only [pu]
  refine wpAnyH_take (i := 8) (oi := ⟨(some 27), _, _, _, _, _⟩) (v := _) rfl (by kernel_rfl) (by kernel_rfl) (by kernel_rfl) (fun _ _ _ h => h) (yieldsIf_load_mid (by rfl) _ _ rfl G2 0 rfl (bv v6) _ (fun W' hW' => range_row ((hW'.block _ sn2_V3).trans gn2_V3.out)) (Tryd.underlying23) rfl (by rw [bv_len, h6.out]; kernel_rfl)) hHeld ?_
  try simp only [pu]
  refine wpAnyH_take (i := 9) (oi := ⟨(some 28), _, _, _, _, _⟩) (v := _) rfl (by kernel_rfl) (by kernel_rfl) (by kernel_rfl) (fun _ _ _ h => h) (yieldsIf_load_mid (by rfl) _ _ rfl G1 0 rfl (bv v6) _ (fun W' hW' => range_row ((hW'.block _ sn1_V3).trans gn1_V3.out)) (Tryd.underlying23) rfl (by rw [bv_len, h6.out]; kernel_rfl)) hHeld ?_
  try simp only [pu]
  have qV3_10 := eql_bytes_same (P := Tryd.prog) Tryd.underlying23 Tryd.underlying5 Tryd.sizeByte v6 (h6.out)
  refine wpAnyH_take (i := 10) (oi := ⟨(some 29), _, _, _, _, _⟩) (v := ?vqV3_4_10) rfl (by kernel_rfl) (by kernel_rfl) (by kernel_rfl) (fun _ _ _ h => h) (Or.inl ⟨by rfl, ?yqV3_4_10⟩) hHeld ?_
  case yqV3_4_10 => (intro W0 hSw; go_simp; try with_reducible rfl)
  try simp only [pu]
  refine wpAnyH_take (i := 11) (oi := ⟨(some 30), _, _, _, _, _⟩) (v := ?vqV3_4_11) rfl (by kernel_rfl) (by kernel_rfl) (by kernel_rfl) (fun _ _ _ h => h) (Or.inl ⟨by rfl, ?yqV3_4_11⟩) hHeld ?_
  case yqV3_4_11 => (intro W0 hSw; go_simp; try with_reducible rfl)
  try simp only [pu]
  refine wpAnyH_take (i := 12) (oi := ⟨(some 31), _, _, _, _, _⟩) (v := ?vqV3_4_12) rfl (by kernel_rfl) (by kernel_rfl) (by kernel_rfl) (fun _ _ _ h => h) (Or.inl ⟨by rfl, ?yqV3_4_12⟩) hHeld ?_
  case yqV3_4_12 => (intro W0 hSw; go_simp; try with_reducible rfl)
  try simp only [pu]
  refine wpAnyH_take (i := 13) (oi := ⟨(some 32), _, _, _, _, _⟩) (v := ?vqV3_4_13) rfl (by kernel_rfl) (by kernel_rfl) (by kernel_rfl) (fun _ _ _ h => h) (Or.inl ⟨by rfl, ?yqV3_4_13⟩) hHeld ?_
  case yqV3_4_13 => (intro W0 hSw; go_simp; try with_reducible rfl)
  try simp only [pu]
  refine wpAnyH_take (i := 14) (oi := ⟨(some 33), _, _, _, _, _⟩) (v := ?vqV3_4_14) rfl (by kernel_rfl) (by kernel_rfl) (by kernel_rfl) (fun _ _ _ h => h) (Or.inl ⟨by rfl, ?yqV3_4_14⟩) hHeld ?_
  case yqV3_4_14 => (intro W0 hSw; go_simp; try with_reducible rfl)
  try simp only [pu]
  refine wpAnyH_take (i := 15) (oi := ⟨(some 34), _, _, _, _, _⟩) (v := ?vqV3_4_15) rfl (by kernel_rfl) (by kernel_rfl) (by kernel_rfl) (fun _ _ _ h => h) (Or.inl ⟨by rfl, ?yqV3_4_15⟩) hHeld ?_
  case yqV3_4_15 => (intro W0 hSw; go_simp; try with_reducible rfl)
  try simp only [pu]
  refine wpAnyH_take (i := 16) (oi := ⟨(some 35), _, _, _, _, _⟩) (v := ?vqV3_4_16) rfl (by kernel_rfl) (by kernel_rfl) (by kernel_rfl) (fun _ _ _ h => h) (Or.inl ⟨by rfl, ?yqV3_4_16⟩) hHeld ?_
  case yqV3_4_16 => (intro W0 hSw; go_simp; try with_reducible rfl)
  try simp only [pu]
  refine wpAnyH_take (i := 17) (oi := ⟨(some 36), _, _, _, _, _⟩) (v := _) rfl (by kernel_rfl) (by kernel_rfl) (by kernel_rfl) (fun _ _ _ h => h) (yieldsIf_load_mid (by rfl) _ _ rfl G4 0 rfl (bv v6) _ (fun W' hW' => range_row ((hW'.block _ sn4_V3).trans gn4_V3.out)) (Tryd.underlying23) rfl (by rw [bv_len, h6.out]; kernel_rfl)) hHeld ?_
  try simp only [pu]
  refine wpAnyH_take (i := 18) (oi := ⟨(some 37), _, _, _, _, _⟩) (v := _) rfl (by kernel_rfl) (by kernel_rfl) (by kernel_rfl) (fun _ _ _ h => h) (yieldsIf_load_mid (by rfl) _ _ rfl G1 0 rfl (bv v6) _ (fun W' hW' => range_row ((hW'.block _ sn1_V3).trans gn1_V3.out)) (Tryd.underlying23) rfl (by rw [bv_len, h6.out]; kernel_rfl)) hHeld ?_
  try simp only [pu]
  have qV3_19 := eql_bytes_same (P := Tryd.prog) Tryd.underlying23 Tryd.underlying5 Tryd.sizeByte v6 (h6.out)
  refine wpAnyH_take (i := 19) (oi := ⟨(some 38), _, _, _, _, _⟩) (v := ?vqV3_4_19) rfl (by kernel_rfl) (by kernel_rfl) (by kernel_rfl) (fun _ _ _ h => h) (Or.inl ⟨by rfl, ?yqV3_4_19⟩) hHeld ?_
  case yqV3_4_19 => (intro W0 hSw; go_simp; try with_reducible rfl)
  try simp only [pu]
  refine wpAnyH_take (i := 20) (oi := ⟨(some 39), _, _, _, _, _⟩) (v := ?vqV3_4_20) rfl (by kernel_rfl) (by kernel_rfl) (by kernel_rfl) (fun _ _ _ h => h) (Or.inl ⟨by rfl, ?yqV3_4_20⟩) hHeld ?_
  case yqV3_4_20 => (intro W0 hSw; go_simp; try with_reducible rfl)
  try simp only [pu]
  refine wpAnyH_take (i := 21) (oi := ⟨(some 40), _, _, _, _, _⟩) (v := ?vqV3_4_21) rfl (by kernel_rfl) (by kernel_rfl) (by kernel_rfl) (fun _ _ _ h => h) (Or.inl ⟨by rfl, ?yqV3_4_21⟩) hHeld ?_
  case yqV3_4_21 => (intro W0 hSw; go_simp; try with_reducible rfl)
  try simp only [pu]
  refine wpAnyH_take (i := 22) (oi := ⟨(some 41), _, _, _, _, _⟩) (v := _) rfl (by kernel_rfl) (by kernel_rfl) (by kernel_rfl) (fun _ _ _ h => h) (yieldsIf_load_mid (by rfl) _ _ rfl G1 0 rfl (bv v6) _ (fun W' hW' => range_row ((hW'.block _ sn1_V3).trans gn1_V3.out)) (Tryd.underlying23) rfl (by rw [bv_len, h6.out]; kernel_rfl)) hHeld ?_
  try simp only [pu]
  refine wpAnyH_ready (rs := [23]) (by kernel_rfl) (by simp) ?_
  refine AllReadyH.cons (i := 23) (o := ⟨(some 42), _, _, _, _, _⟩) rfl (fun K hK => ?_) AllReadyH.nil
  go_simp
  refine (pgood_any _ (hlaV3.next hHeld) v6 (h6.out)).mono ?_
  rintro e W12 ⟨o42, rfl, e42, hb12⟩
  refine hK.out _ _ (below_next hHeld hHeld.size hb12) (fun hHeld => ?_)
  clear hK K hb12
  try simp only [pu]
  obtain rfl : o42 = true := good_one e42.out e6.out bE_on
  refine wpAnyH_take (i := 24) (oi := ⟨(some 43), _, _, _, _, _⟩) (v := ?vqV3_4_24) rfl (by kernel_rfl) (by kernel_rfl) (by kernel_rfl) (fun _ _ _ h => h) (Or.inl ⟨by rfl, ?yqV3_4_24⟩) hHeld ?_
  case yqV3_4_24 => (intro W0 hSw; go_simp; try with_reducible rfl)
  try simp only [pu]
  refine wpAnyH_take (i := 25) (oi := ⟨(some 44), _, _, _, _, _⟩) (v := ?vqV3_4_25) rfl (by kernel_rfl) (by kernel_rfl) (by kernel_rfl) (fun _ _ _ h => h) (Or.inl ⟨by rfl, ?yqV3_4_25⟩) hHeld ?_
  case yqV3_4_25 => (intro W0 hSw; go_simp; try with_reducible rfl)
  try simp only [pu]
  refine wpAnyH_take (i := 27) (oi := ⟨(some 46), _, _, _, _, _⟩) (v := _) rfl (by kernel_rfl) (by kernel_rfl) (by kernel_rfl) (fun _ _ _ h => h) (yields_build (by rfl) _ _ rfl [(0, .int .u8 1)] (by rfl) _ hb1) hHeld ?_
  try simp only [pu]
  refine wpAnyH_ready (rs := [26]) (by kernel_rfl) (by simp) ?_
  refine AllReadyH.cons (i := 26) (o := ⟨(some 45), _, _, _, _, _⟩) rfl (fun K hK => ?_) AllReadyH.nil
  go_simp
  refine (pzero_any _  ).mono ?_
  rintro e W13 ⟨v45, rfl, e45, h45, hb13⟩
  refine hK.out _ _ (below_next hHeld hHeld.size hb13) (fun hHeld => ?_)
  clear hK K hb13
  try simp only [pu]
  obtain rfl : ONE = v45 := Eq.symm (by rw [e45.out, HOZ.out])
  have qV3_28 := eql_bytes_same (P := Tryd.prog) Tryd.underlying23 Tryd.underlying5 Tryd.sizeByte ONE (HONE.out)
  refine wpAnyH_take (i := 28) (oi := ⟨(some 47), _, _, _, _, _⟩) (v := ?vqV3_4_28) rfl (by kernel_rfl) (by kernel_rfl) (by kernel_rfl) (fun _ _ _ h => h) (Or.inl ⟨by rfl, ?yqV3_4_28⟩) hHeld ?_
  case yqV3_4_28 => (intro W0 hSw; go_simp; try with_reducible rfl)
  try simp only [pu]
  refine wpAnyH_take (i := 29) (oi := ⟨(some 48), _, _, _, _, _⟩) (v := ?vqV3_4_29) rfl (by kernel_rfl) (by kernel_rfl) (by kernel_rfl) (fun _ _ _ h => h) (Or.inl ⟨by rfl, ?yqV3_4_29⟩) hHeld ?_
  case yqV3_4_29 => (intro W0 hSw; go_simp; try with_reducible rfl)
  try simp only [pu]
  refine wpAnyH_take (i := 30) (oi := ⟨(some 0), _, _, _, _, _⟩) (v := ?vqV3_4_30) rfl (by kernel_rfl) (by kernel_rfl) (by kernel_rfl) (fun _ _ _ h => h) (Or.inl ⟨by rfl, ?yqV3_4_30⟩) hHeld ?_
  case yqV3_4_30 => (intro W0 hSw; go_simp; try with_reducible rfl)
  try simp only [pu]
  refine wpAnyH_done (by kernel_rfl) ?_ _
  obtain ⟨V4, rV4⟩ : ∃ X, X = W13 := ⟨_, rfl⟩
  subst rV4
  have gn1_V4 := row_next2 gn1_V3 hHeld
  have sn1_V4 := row_size gn1_V4
  have gn2_V4 := row_next2 gn2_V3 hHeld
  have sn2_V4 := row_size gn2_V4
  have gn4_V4 := row_next2 gn4_V3 hHeld
  have sn4_V4 := row_size gn4_V4
  have hb_V4 := below_next hb_V3 hb_V3.size hHeld
  have hlaV4 := hlaV3.next hHeld
  clear hHeld hb_V3 sn1_V3 sn2_V3 sn4_V3
  clear gn1_V3 gn2_V3 gn4_V3 hlaV3
  go_wp2
  go_ret
  exact ⟨rfl, hb_V4⟩
end Go.Proofs.YtehkalbiomagjaaDoor
