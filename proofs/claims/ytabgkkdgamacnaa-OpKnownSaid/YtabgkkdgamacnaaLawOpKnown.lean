/-
  OpKnown: the law's Go text returns true. Conditions: none.
-/
import Derived.Test.YtabgkkdgamacnaaOpW
import Derived.Test.YtabgkkdgamacnaaWiCs
import Derived.Test.YtabgkkdgamacnaaReg
import Derived.Test.YtabgkkdgamacnaaMix
namespace Go.Proofs.Ytabgkkdgamacnaa
open Go.RowKit

def knO : Ed := ⟨0, 1, [0, 0, 0, 0, 0, 0, 0, 0], 1, ⟨#[99]⟩, ⟨#[102]⟩, ⟨#[]⟩, 0⟩
theorem knO_len : knO.seen.length = 8 := rfl
def knA : Ed := ⟨0, 1, [1, 0, 0, 0, 0, 0, 0, 0], 1, ⟨#[99]⟩, ⟨#[102]⟩, ⟨#[]⟩, 0⟩
theorem knA_len : knA.seen.length = 8 := rfl
def knB : Ed := ⟨0, 1, [0, 0, 0, 0, 0, 0, 0, 0], 1, ⟨#[97, 32, 98]⟩, ⟨#[102]⟩, ⟨#[]⟩, 0⟩
theorem knB_len : knB.seen.length = 8 := rfl
def knC : Ed := ⟨0, 1, [0, 0, 0, 0, 0, 0, 0, 0], 2, ⟨#[99]⟩, ⟨#[102]⟩, ⟨#[]⟩, 0⟩
theorem knC_len : knC.seen.length = 8 := rfl
def knD : Ed := ⟨0, 1, [0, 0, 0, 0, 0, 0, 0, 0], 1, ⟨#[99]⟩, ⟨#[102]⟩, ⟨(List.replicate 201 0).toArray⟩, 0⟩
theorem knD_len : knD.seen.length = 8 := rfl
def knE : Ed := ⟨0, 0, [0, 0, 0, 0, 0, 0, 0, 0], 1, ⟨#[99]⟩, ⟨#[102]⟩, ⟨#[]⟩, 0⟩
theorem knE_len : knE.seen.length = 8 := rfl
def knR : Ed := ⟨2, 1, [1, 0, 0, 0, 0, 0, 0, 0], 2, ⟨#[99]⟩, ⟨#[]⟩, ⟨#[]⟩, 0⟩
theorem knR_len : knR.seen.length = 8 := rfl
theorem knO_good : knO.good = true := by decide +kernel
theorem knA_good : knA.good = false := by decide +kernel
theorem knB_good : knB.good = false := by decide +kernel
theorem knC_good : knC.good = false := by decide +kernel
theorem knD_good : knD.good = false := by decide +kernel
theorem knE_good : knE.good = false := by decide +kernel
theorem knR_good : knR.good = true := by decide +kernel
theorem kn_over : eover knR knO = true := by decide +kernel
theorem kn_own : eover knR knR = false := by decide +kernel
theorem kn_nil : eget [] = none := by decide +kernel
theorem kn_more : eget (knO.put ++ [0]) = none := by decide +kernel
theorem oput_nil (w : World) (a : Ed) (ha : a.seen.length = 8) (h : a.good = false) : Calls Try.prog 10 #[.agg a.cells.toArray] w fun e w' => ∃ A c, e = .returned (.slice A 0 c) ∧ Below w.heap.size w w' := by
  refine (oput_any w a ha).mono ?_
  rintro e w' ⟨A, m, c, rfl, hr, hb⟩
  have hl := hr.len
  rw [put_no h] at hl
  obtain rfl : m = 0 := hl.symm
  exact ⟨A, c, rfl, hb⟩
theorem v_five {D : List (NewV × Nat)} {x y z u v : NewV} (h : D.map (·.1) = [x, y, z, u, v]) : ∃ g1 g2 g3 g4 g5, D = [(x, g1), (y, g2), (z, g3), (u, g4), (v, g5)] := by
  match D, h with
  | [(a, g1), (b, g2), (c, g3), (d, g4), (e, g5)], h =>
    simp only [List.map_cons, List.map_nil, List.cons.injEq, and_true] at h
    obtain ⟨rfl, rfl, rfl, rfl, rfl⟩ := h
    exact ⟨g1, g2, g3, g4, g5, rfl⟩

set_option maxRecDepth 100000 in
set_option maxHeartbeats 8000000 in
theorem walk_OpKnown (w : World) : Calls Try.prog 3 #[] w fun e w' => e = .returned (.bool true) ∧ Below w.heap.size w w' := by
  have hzf := zero_ed
  go_enter Try.func3, Try.ntmps3
  go_wp2_with fail
  refine (awake16_any w).mono ?_
  rintro e V ⟨rfl, hb⟩
  go_upto_region 4 with ((with_reducible refine wpList_store_row rfl 28 (.tmp 1) (.tmp 15) rfl V.heap.size knO.cells.toArray rfl (by kernel_rfl) 28 _ (heap_alloc_new _ _) (by kernel_rfl) (by kernel_rfl) (all_oneCell_toArray (Ed.cells_one _)) ?_); rw [World.setRow_alloc_new])
  obtain ⟨V0, hV⟩ : ∃ X, X = V.alloc (.cells knO.cells.toArray 28) := ⟨_, rfl⟩
  have gK_V0 := new_row V knO.cells.toArray 28
  have hb_V0 := hb.alloc hb.size (.cells knO.cells.toArray 28)
  rw [← hV] at gK_V0 hb_V0 ⊢
  obtain ⟨K, hK⟩ : ∃ K, K = V.heap.size := ⟨_, rfl⟩
  rw [← hK] at gK_V0 ⊢
  have hwK : w.heap.size ≤ K := by rw [hK]; exact hb.size
  have sK_V0 := row_size gK_V0
  clear hV hK hb
  refine wp_region_held_drew (S := fun W' => Below V0.heap.size V0 W') (by kernel_rfl) ((Below.refl _ _).drew) (fun hHeld => ?_)
  refine wpAnyH_take (i := 0) (oi := ⟨(some 16), _, _, _, _, _⟩) (v := _) rfl (by kernel_rfl) (by kernel_rfl) (by kernel_rfl) (fun _ _ _ h => h) (yieldsIf_load_mid (by rfl) _ _ rfl K 0 rfl (Ed.cells knO) _ (fun W' hW' => range_row ((hW'.block _ sK_V0).trans gK_V0.out)) (Try.underlying28) rfl (by kernel_rfl)) hHeld ?_
  try simp only [pu]
  refine wpAnyH_take (i := 1) (oi := ⟨(some 17), _, _, _, _, _⟩) (v := _) rfl (by kernel_rfl) (by kernel_rfl) (by kernel_rfl) (fun _ _ _ h => h) (yieldsIf_load_mid (by rfl) _ _ rfl K 0 rfl (Ed.cells knO) _ (fun W' hW' => range_row ((hW'.block _ sK_V0).trans gK_V0.out)) (Try.underlying28) rfl (by kernel_rfl)) hHeld ?_
  try simp only [pu]
  refine wpAnyH_take (i := 2) (oi := ⟨(some 18), _, _, _, _, _⟩) (v := _) rfl (by kernel_rfl) (by kernel_rfl) (by kernel_rfl) (fun _ _ _ h => h) (yieldsIf_load_mid (by rfl) _ _ rfl K 0 rfl (Ed.cells knO) _ (fun W' hW' => range_row ((hW'.block _ sK_V0).trans gK_V0.out)) (Try.underlying28) rfl (by kernel_rfl)) hHeld ?_
  try simp only [pu]
  refine wpAnyH_take (i := 3) (oi := ⟨(some 19), _, _, _, _, _⟩) (v := _) rfl (by kernel_rfl) (by kernel_rfl) (by kernel_rfl) (fun _ _ _ h => h) (yieldsIf_load_mid (by rfl) _ _ rfl K 0 rfl (Ed.cells knO) _ (fun W' hW' => range_row ((hW'.block _ sK_V0).trans gK_V0.out)) (Try.underlying28) rfl (by kernel_rfl)) hHeld ?_
  try simp only [pu]
  refine wpAnyH_take (i := 4) (oi := ⟨(some 20), _, _, _, _, _⟩) (v := _) rfl (by kernel_rfl) (by kernel_rfl) (by kernel_rfl) (fun _ _ _ h => h) (yieldsIf_load_mid (by rfl) _ _ rfl K 0 rfl (Ed.cells knO) _ (fun W' hW' => range_row ((hW'.block _ sK_V0).trans gK_V0.out)) (Try.underlying28) rfl (by kernel_rfl)) hHeld ?_
  try simp only [pu]
  refine mix_start (B := V0.heap.size) (al := [⟨5, 2, 28, ((Ed.cells ed0)).toArray⟩, ⟨6, 3, 28, ((Ed.cells ed0)).toArray⟩, ⟨7, 4, 28, ((Ed.cells ed0)).toArray⟩, ⟨8, 5, 28, ((Ed.cells ed0)).toArray⟩, ⟨9, 6, 28, ((Ed.cells ed0)).toArray⟩]) (fuel := 5) rfl hHeld (hHeld.size) ?_
  clear hHeld
  refine mix_end (by kernel_rfl) (by kernel_rfl) (by simp) (by simp) (fun x hx => by simp only [List.mem_cons, List.not_mem_nil, or_false] at hx; rcases hx with rfl | rfl | rfl | rfl | rfl <;> first | exact makes_new rfl rfl rfl rfl zero_ed) (fun W x _ h => h.alloc h.size _) (fun D hD W1 hHeld hBX hHo => ?_)
  obtain ⟨G2, G3, G4, G5, G6, rfl⟩ := v_five hD
  have xG2 : Hid (W1.heap[G2]? = some (.cells ((Ed.cells ed0)).toArray 28 (0, 0))) := hHo.row (⟨5, 2, 28, ((Ed.cells ed0)).toArray⟩, G2) (by simp)
  have lG2 : V0.heap.size ≤ G2 := hHo.new (⟨5, 2, 28, ((Ed.cells ed0)).toArray⟩, G2) (by simp)
  have xG3 : Hid (W1.heap[G3]? = some (.cells ((Ed.cells ed0)).toArray 28 (0, 0))) := hHo.row (⟨6, 3, 28, ((Ed.cells ed0)).toArray⟩, G3) (by simp)
  have lG3 : V0.heap.size ≤ G3 := hHo.new (⟨6, 3, 28, ((Ed.cells ed0)).toArray⟩, G3) (by simp)
  have xG4 : Hid (W1.heap[G4]? = some (.cells ((Ed.cells ed0)).toArray 28 (0, 0))) := hHo.row (⟨7, 4, 28, ((Ed.cells ed0)).toArray⟩, G4) (by simp)
  have lG4 : V0.heap.size ≤ G4 := hHo.new (⟨7, 4, 28, ((Ed.cells ed0)).toArray⟩, G4) (by simp)
  have xG5 : Hid (W1.heap[G5]? = some (.cells ((Ed.cells ed0)).toArray 28 (0, 0))) := hHo.row (⟨8, 5, 28, ((Ed.cells ed0)).toArray⟩, G5) (by simp)
  have lG5 : V0.heap.size ≤ G5 := hHo.new (⟨8, 5, 28, ((Ed.cells ed0)).toArray⟩, G5) (by simp)
  have xG6 : Hid (W1.heap[G6]? = some (.cells ((Ed.cells ed0)).toArray 28 (0, 0))) := hHo.row (⟨9, 6, 28, ((Ed.cells ed0)).toArray⟩, G6) (by simp)
  have lG6 : V0.heap.size ≤ G6 := hHo.new (⟨9, 6, 28, ((Ed.cells ed0)).toArray⟩, G6) (by simp)
  have hnd := hHo.nodup
  simp only [List.map_cons, List.map_nil, List.nodup_cons, List.mem_cons, List.not_mem_nil, or_false, not_or, not_false_eq_true, List.nodup_nil, and_true] at hnd
  obtain ⟨⟨nG2G3, nG2G4, nG2G5, nG2G6⟩, ⟨nG3G4, nG3G5, nG3G6⟩, ⟨nG4G5, nG4G6⟩, nG5G6⟩ := hnd
  clear hHo hBX hD
  simp only [markD, putD, List.foldr_cons, List.foldr_nil, pu, List.setIfInBounds_toArray, List.set_cons_zero, List.set_cons_succ]
  refine wpAnyH_ready (rs := [10]) (by kernel_rfl) (by simp) ?_
  refine AllReadyH.cons (i := 10) (o := ⟨none, _, _, _, _, _⟩) rfl (fun K hK => ?_) AllReadyH.nil
  refine step_row (by rfl) 28 (.tmp 2) (.tmp 16) rfl G2 (Ed.cells knO) rfl rfl 28 _ xG2.out (by kernel_rfl) (by kernel_rfl) (Ed.cells_one _) ?_
  intro W2 yG2 kG2
  have zG3 := row_but xG3 kG2 (by omega)
  clear xG3
  have xG3 := zG3
  clear zG3
  have zG4 := row_but xG4 kG2 (by omega)
  clear xG4
  have xG4 := zG4
  clear zG4
  have zG5 := row_but xG5 kG2 (by omega)
  clear xG5
  have xG5 := zG5
  clear zG5
  have zG6 := row_but xG6 kG2 (by omega)
  clear xG6
  have xG6 := zG6
  clear zG6
  refine hK.out _ _ (But.below hHeld kG2 lG2 hHeld.size) (fun hHeld => ?_)
  clear hK K kG2 xG2
  have xG2 := yG2
  clear yG2
  try simp only [pu]
  refine wpAnyH_ready (rs := [11]) (by kernel_rfl) (by simp) ?_
  refine AllReadyH.cons (i := 11) (o := ⟨none, _, _, _, _, _⟩) rfl (fun K hK => ?_) AllReadyH.nil
  refine step_row (by rfl) 28 (.tmp 3) (.tmp 17) rfl G3 (Ed.cells knO) rfl rfl 28 _ xG3.out (by kernel_rfl) (by kernel_rfl) (Ed.cells_one _) ?_
  intro W3 yG3 kG3
  have zG2 := row_but xG2 kG3 (by omega)
  clear xG2
  have xG2 := zG2
  clear zG2
  have zG4 := row_but xG4 kG3 (by omega)
  clear xG4
  have xG4 := zG4
  clear zG4
  have zG5 := row_but xG5 kG3 (by omega)
  clear xG5
  have xG5 := zG5
  clear zG5
  have zG6 := row_but xG6 kG3 (by omega)
  clear xG6
  have xG6 := zG6
  clear zG6
  refine hK.out _ _ (But.below hHeld kG3 lG3 hHeld.size) (fun hHeld => ?_)
  clear hK K kG3 xG3
  have xG3 := yG3
  clear yG3
  try simp only [pu]
  refine wpAnyH_ready (rs := [12]) (by kernel_rfl) (by simp) ?_
  refine AllReadyH.cons (i := 12) (o := ⟨none, _, _, _, _, _⟩) rfl (fun K hK => ?_) AllReadyH.nil
  refine step_row (by rfl) 28 (.tmp 4) (.tmp 18) rfl G4 (Ed.cells knO) rfl rfl 28 _ xG4.out (by kernel_rfl) (by kernel_rfl) (Ed.cells_one _) ?_
  intro W4 yG4 kG4
  have zG2 := row_but xG2 kG4 (by omega)
  clear xG2
  have xG2 := zG2
  clear zG2
  have zG3 := row_but xG3 kG4 (by omega)
  clear xG3
  have xG3 := zG3
  clear zG3
  have zG5 := row_but xG5 kG4 (by omega)
  clear xG5
  have xG5 := zG5
  clear zG5
  have zG6 := row_but xG6 kG4 (by omega)
  clear xG6
  have xG6 := zG6
  clear zG6
  refine hK.out _ _ (But.below hHeld kG4 lG4 hHeld.size) (fun hHeld => ?_)
  clear hK K kG4 xG4
  have xG4 := yG4
  clear yG4
  try simp only [pu]
  refine wpAnyH_ready (rs := [13]) (by kernel_rfl) (by simp) ?_
  refine AllReadyH.cons (i := 13) (o := ⟨none, _, _, _, _, _⟩) rfl (fun K hK => ?_) AllReadyH.nil
  refine step_row (by rfl) 28 (.tmp 5) (.tmp 19) rfl G5 (Ed.cells knO) rfl rfl 28 _ xG5.out (by kernel_rfl) (by kernel_rfl) (Ed.cells_one _) ?_
  intro W5 yG5 kG5
  have zG2 := row_but xG2 kG5 (by omega)
  clear xG2
  have xG2 := zG2
  clear zG2
  have zG3 := row_but xG3 kG5 (by omega)
  clear xG3
  have xG3 := zG3
  clear zG3
  have zG4 := row_but xG4 kG5 (by omega)
  clear xG4
  have xG4 := zG4
  clear zG4
  have zG6 := row_but xG6 kG5 (by omega)
  clear xG6
  have xG6 := zG6
  clear zG6
  refine hK.out _ _ (But.below hHeld kG5 lG5 hHeld.size) (fun hHeld => ?_)
  clear hK K kG5 xG5
  have xG5 := yG5
  clear yG5
  try simp only [pu]
  refine wpAnyH_ready (rs := [14]) (by kernel_rfl) (by simp) ?_
  refine AllReadyH.cons (i := 14) (o := ⟨none, _, _, _, _, _⟩) rfl (fun K hK => ?_) AllReadyH.nil
  refine step_row (by rfl) 28 (.tmp 6) (.tmp 20) rfl G6 (Ed.cells knO) rfl rfl 28 _ xG6.out (by kernel_rfl) (by kernel_rfl) (Ed.cells_one _) ?_
  intro W6 yG6 kG6
  have zG2 := row_but xG2 kG6 (by omega)
  clear xG2
  have xG2 := zG2
  clear zG2
  have zG3 := row_but xG3 kG6 (by omega)
  clear xG3
  have xG3 := zG3
  clear zG3
  have zG4 := row_but xG4 kG6 (by omega)
  clear xG4
  have xG4 := zG4
  clear zG4
  have zG5 := row_but xG5 kG6 (by omega)
  clear xG5
  have xG5 := zG5
  clear zG5
  refine hK.out _ _ (But.below hHeld kG6 lG6 hHeld.size) (fun hHeld => ?_)
  clear hK K kG6 xG6
  have xG6 := yG6
  clear yG6
  try simp only [pu]
  refine wpAnyH_done (by kernel_rfl) ?_ _
  obtain ⟨V1, rV1⟩ : ∃ X, X = W6 := ⟨_, rfl⟩
  subst rV1
  have gK_V1 := row_next2 gK_V0 hHeld
  have sK_V1 := row_size gK_V1
  have hb_V1 := below_next hb_V0 hb_V0.size hHeld
  have gn2_V1 := xG2
  have sn2_V1 := row_size gn2_V1
  clear xG2
  have gn3_V1 := xG3
  have sn3_V1 := row_size gn3_V1
  clear xG3
  have gn4_V1 := xG4
  have sn4_V1 := row_size gn4_V1
  clear xG4
  have gn5_V1 := xG5
  have sn5_V1 := row_size gn5_V1
  clear xG5
  have gn6_V1 := xG6
  have sn6_V1 := row_size gn6_V1
  clear xG6
  have wG2 : w.heap.size + 0 ≤ G2 := by omega
  have wG3 : w.heap.size + 0 ≤ G3 := by omega
  have wG4 : w.heap.size + 0 ≤ G4 := by omega
  have wG5 : w.heap.size + 0 ≤ G5 := by omega
  have wG6 : w.heap.size + 0 ≤ G6 := by omega
  have nKG2 : K ≠ G2 := by omega
  have nKG3 : K ≠ G3 := by omega
  have nKG4 : K ≠ G4 := by omega
  have nKG5 : K ≠ G5 := by omega
  have nKG6 : K ≠ G6 := by omega
  clear hHeld hb_V0 sK_V0
  clear gK_V0 lG2 lG3 lG4 lG5 lG6
  have ht := there_seen gn2_V1 knO_len [1, 0, 0, 0, 0, 0, 0, 0] rfl
  have hp := put_seen gn2_V1 rfl [1, 0, 0, 0, 0, 0, 0, 0] rfl
  have gNew := hp.1
  have hk := hp.2
  clear hp
  go_upto_region 6 with (first | (with_reducible refine wpList_build_as rfl 26 rfl _ aw_vec1 ?_) | (with_reducible refine wpList_store_mid rfl 26 (.tmp 22) (.tmp 21) rfl G2 2 (i64v [1, 0, 0, 0, 0, 0, 0, 0]).toArray rfl rfl ht (by kernel_rfl) (all_oneCell_toArray (i64v_one _)) ?_))
  obtain ⟨V2, hV⟩ : ∃ X, X = V1.setCells G2 2 (i64v [1, 0, 0, 0, 0, 0, 0, 0]) := ⟨_, rfl⟩
  rw [← hV] at hk gNew ⊢
  have gK_V2 := row_but gK_V1 hk (by omega)
  have gG2_V2 : Hid (V2.heap[G2]? = some (.cells knA.cells.toArray 28 (0, 0))) := gNew
  have gG3_V2 := row_but gn3_V1 hk (by omega)
  have gG4_V2 := row_but gn4_V1 hk (by omega)
  have gG5_V2 := row_but gn5_V1 hk (by omega)
  have gG6_V2 := row_but gn6_V1 hk (by omega)
  have hb_V2 := But.below hb_V1 hk (by omega) hb_V1.size
  clear hV hk gNew hb_V1 gK_V1 gn2_V1 gn3_V1 gn4_V1 gn5_V1 gn6_V1
  clear ht
  have f0 : V2.frozen? ⟨G3, 11, none⟩ = false := frozen_of_row _ _ _ _ _ gG3_V2.out
  have u0 := ed_con gG3_V2 knO_len
  have gNew := put_con gG3_V2 rfl (⟨#[97, 32, 98]⟩)
  have hk : But G3 V2 (V2.setCell ⟨G3, 11, none⟩ (.string ⟨#[97, 32, 98]⟩)) := (But.refl _ _).set (i := 11) _
  go_upto_region 7 with fail
  obtain ⟨V3, hV⟩ : ∃ X, X = V2.setCell ⟨G3, 11, none⟩ (.string ⟨#[97, 32, 98]⟩) := ⟨_, rfl⟩
  rw [← hV] at hk gNew ⊢
  have gK_V3 := row_but gK_V2 hk (by omega)
  have gG2_V3 := row_but gG2_V2 hk (by omega)
  have gG3_V3 : Hid (V3.heap[G3]? = some (.cells knB.cells.toArray 28 (0, 0))) := gNew
  have gG4_V3 := row_but gG4_V2 hk (by omega)
  have gG5_V3 := row_but gG5_V2 hk (by omega)
  have gG6_V3 := row_but gG6_V2 hk (by omega)
  have hb_V3 := But.below hb_V2 hk (by omega) hb_V2.size
  clear hV hk gNew hb_V2 gK_V2 gG2_V2 gG3_V2 gG4_V2 gG5_V2 gG6_V2
  clear f0 u0
  have f0 : V3.frozen? ⟨G4, 10, none⟩ = false := frozen_of_row _ _ _ _ _ gG4_V3.out
  have f1 : V3.frozen? ⟨G4, 12, none⟩ = false := frozen_of_row _ _ _ _ _ gG4_V3.out
  have u0 := ed_kind gG4_V3 knO_len
  have u1 := ed_fld gG4_V3 knO_len
  have gNew := put_fld (put_kind gG4_V3 rfl 2) rfl ⟨#[102]⟩
  have hk : But G4 V3 ((V3.setCell ⟨G4, 10, none⟩ (.int .i64 2)).setCell ⟨G4, 12, none⟩ (.string ⟨#[102]⟩)) := ((But.refl G4 V3).set (i := 10) (.int .i64 2)).set (i := 12) (.string ⟨#[102]⟩)
  go_upto_region 8 with fail
  obtain ⟨V4, hV⟩ : ∃ X, X = (V3.setCell ⟨G4, 10, none⟩ (.int .i64 2)).setCell ⟨G4, 12, none⟩ (.string ⟨#[102]⟩) := ⟨_, rfl⟩
  rw [← hV] at hk gNew ⊢
  have gK_V4 := row_but gK_V3 hk (by omega)
  have gG2_V4 := row_but gG2_V3 hk (by omega)
  have gG3_V4 := row_but gG3_V3 hk (by omega)
  have gG4_V4 : Hid (V4.heap[G4]? = some (.cells knC.cells.toArray 28 (0, 0))) := gNew
  have gG5_V4 := row_but gG5_V3 hk (by omega)
  have gG6_V4 := row_but gG6_V3 hk (by omega)
  have hb_V4 := But.below hb_V3 hk (by omega) hb_V3.size
  clear hV hk gNew hb_V3 gK_V3 gG2_V3 gG3_V3 gG4_V3 gG5_V3 gG6_V3
  clear f0 f1 u0 u1
  obtain ⟨i, hi, hz0, hz1, hz2⟩ := info_parts Try.infoByte
  obtain ⟨U, hrun, hg1, hbU, hsU⟩ := make_bytes (P := Try.prog) Try.underlying29 hi hz0 hz1 hz2 201 201 (201 : Int) (201 : Int) rfl rfl (Nat.le_refl _) (by decide) V4
  obtain ⟨sD, hsD⟩ : ∃ s : ByteArray, s = ⟨(List.replicate 201 0).toArray⟩ := ⟨_, rfl⟩
  have HSD := vlt hsD
  clear hsD hi hz0 hz1 hz2 hsU
  have hcv := conv_as HSD.out 201 201 (byt_row hg1.out) (List.length_replicate ..)
  have gK_U := row_next2 gK_V4 hbU.out
  have gG2_U := row_next2 gG2_V4 hbU.out
  have gG3_U := row_next2 gG3_V4 hbU.out
  have gG4_U := row_next2 gG4_V4 hbU.out
  have gG5_U := row_next2 gG5_V4 hbU.out
  have gG6_U := row_next2 gG6_V4 hbU.out
  have hb_U := below_next hb_V4 hb_V4.size hbU.out
  clear hbU hg1 hb_V4 gK_V4 gG2_V4 gG3_V4 gG4_V4 gG5_V4 gG6_V4
  have f0 : U.frozen? ⟨G5, 13, none⟩ = false := frozen_of_row _ _ _ _ _ gG5_U.out
  have u0 := ed_val gG5_U knO_len
  have gNew := put_val gG5_U rfl sD
  have hk : But G5 U (U.setCell ⟨G5, 13, none⟩ (.string sD)) := (But.refl _ _).set (i := 13) _
  have gNew2 := gNew
  clear gNew2
  go_upto_region 9 with fail
  obtain ⟨V5, hV⟩ : ∃ X, X = U.setCell ⟨G5, 13, none⟩ (.string sD) := ⟨_, rfl⟩
  rw [← hV] at hk gNew ⊢
  have gK_V5 := row_but gK_U hk (by omega)
  have gG2_V5 := row_but gG2_U hk (by omega)
  have gG3_V5 := row_but gG3_U hk (by omega)
  have gG4_V5 := row_but gG4_U hk (by omega)
  have gG5_V5 : Hid (V5.heap[G5]? = some (.cells (Ed.mk 0 1 [0, 0, 0, 0, 0, 0, 0, 0] 1 ⟨#[99]⟩ ⟨#[102]⟩ sD 0).cells.toArray 28 (0, 0))) := gNew
  have gG6_V5 := row_but gG6_U hk (by omega)
  have hb_V5 := But.below hb_U hk (by omega) hb_U.size
  clear hV hk gNew hb_U gK_U gG2_U gG3_U gG4_U gG5_U gG6_U
  clear f0 u0 hrun hcv
  rw [HSD.out] at gG5_V5
  replace gG5_V5 : Hid (V5.heap[G5]? = some (.cells knD.cells.toArray 28 (0, 0))) := gG5_V5
  have f0 : V5.frozen? ⟨G6, 1, none⟩ = false := frozen_of_row _ _ _ _ _ gG6_V5.out
  have u0 := ed_num gG6_V5
  have gNew := put_num gG6_V5 (0)
  have hk : But G6 V5 (V5.setCell ⟨G6, 1, none⟩ (.int .i64 0)) := (But.refl _ _).set (i := 1) _
  go_upto_region 10 with fail
  obtain ⟨V6, hV⟩ : ∃ X, X = V5.setCell ⟨G6, 1, none⟩ (.int .i64 0) := ⟨_, rfl⟩
  rw [← hV] at hk gNew ⊢
  have gK_V6 := row_but gK_V5 hk (by omega)
  have gG2_V6 := row_but gG2_V5 hk (by omega)
  have gG3_V6 := row_but gG3_V5 hk (by omega)
  have gG4_V6 := row_but gG4_V5 hk (by omega)
  have gG5_V6 := row_but gG5_V5 hk (by omega)
  have gG6_V6 : Hid (V6.heap[G6]? = some (.cells knE.cells.toArray 28 (0, 0))) := gNew
  have hb_V6 := But.below hb_V5 hk (by omega) hb_V5.size
  clear hV hk gNew hb_V5 gK_V5 gG2_V5 gG3_V5 gG4_V5 gG5_V5 gG6_V5
  clear f0 u0
  go_upto_region 11 with ((with_reducible refine wpList_store_row rfl 28 (.tmp 7) (.tmp 33) rfl V6.heap.size knR.cells.toArray rfl (by kernel_rfl) 28 _ (heap_alloc_new _ _) (by kernel_rfl) (by kernel_rfl) (all_oneCell_toArray (Ed.cells_one _)) ?_); rw [World.setRow_alloc_new])
  obtain ⟨X1, hV⟩ : ∃ X, X = V6.alloc (.cells knR.cells.toArray 28) := ⟨_, rfl⟩
  have gNew := new_row V6 knR.cells.toArray 28
  have gK_X1 := row_alloc (o := (.cells knR.cells.toArray 28)) gK_V6
  have gG2_X1 := row_alloc (o := (.cells knR.cells.toArray 28)) gG2_V6
  have gG3_X1 := row_alloc (o := (.cells knR.cells.toArray 28)) gG3_V6
  have gG4_X1 := row_alloc (o := (.cells knR.cells.toArray 28)) gG4_V6
  have gG5_X1 := row_alloc (o := (.cells knR.cells.toArray 28)) gG5_V6
  have gG6_X1 := row_alloc (o := (.cells knR.cells.toArray 28)) gG6_V6
  have hb_X1 := hb_V6.alloc hb_V6.size (.cells knR.cells.toArray 28)
  rw [← hV] at gNew hb_X1 gK_X1 gG2_X1 gG3_X1 gG4_X1 gG5_X1 gG6_X1 ⊢
  obtain ⟨R, hR⟩ : ∃ R, R = V6.heap.size := ⟨_, rfl⟩
  rw [← hR] at gNew ⊢
  have gR_X1 := gNew
  clear hV hR gNew hb_V6 gK_V6 gG2_V6 gG3_V6 gG4_V6 gG5_V6 gG6_V6
  have hget := oget_none X1 none [] 0 0 kn_nil (.inl rfl) rfl (by decide)
  go_wp2_with fail
  refine hget.mono ?_
  rintro e X2 ⟨rfl, hbn⟩
  clear hget
  have gK_X2 := row_next2 gK_X1 hbn
  have gG2_X2 := row_next2 gG2_X1 hbn
  have gG3_X2 := row_next2 gG3_X1 hbn
  have gG4_X2 := row_next2 gG4_X1 hbn
  have gG5_X2 := row_next2 gG5_X1 hbn
  have gG6_X2 := row_next2 gG6_X1 hbn
  have gR_X2 := row_next2 gR_X1 hbn
  have hb_X2 := below_next hb_X1 hb_X1.size hbn
  clear hb_X1 gK_X1 gG2_X1 gG3_X1 gG4_X1 gG5_X1 gG6_X1 gR_X1
  clear hbn
  go_upto_region 12 with ((with_reducible refine wpList_store_row rfl 28 (.tmp 8) (.tmp 36) rfl X2.heap.size ed0.cells.toArray rfl (by kernel_rfl) 28 _ (heap_alloc_new _ _) (by kernel_rfl) (by kernel_rfl) (all_oneCell_toArray (Ed.cells_one _)) ?_); rw [World.setRow_alloc_new])
  obtain ⟨X3, hV⟩ : ∃ X, X = X2.alloc (.cells ed0.cells.toArray 28) := ⟨_, rfl⟩
  have gNew := new_row X2 ed0.cells.toArray 28
  have gK_X3 := row_alloc (o := (.cells ed0.cells.toArray 28)) gK_X2
  have gG2_X3 := row_alloc (o := (.cells ed0.cells.toArray 28)) gG2_X2
  have gG3_X3 := row_alloc (o := (.cells ed0.cells.toArray 28)) gG3_X2
  have gG4_X3 := row_alloc (o := (.cells ed0.cells.toArray 28)) gG4_X2
  have gG5_X3 := row_alloc (o := (.cells ed0.cells.toArray 28)) gG5_X2
  have gG6_X3 := row_alloc (o := (.cells ed0.cells.toArray 28)) gG6_X2
  have gR_X3 := row_alloc (o := (.cells ed0.cells.toArray 28)) gR_X2
  have hb_X3 := hb_X2.alloc hb_X2.size (.cells ed0.cells.toArray 28)
  rw [← hV] at gNew hb_X3 gK_X3 gG2_X3 gG3_X3 gG4_X3 gG5_X3 gG6_X3 gR_X3 ⊢
  obtain ⟨Y1, hR⟩ : ∃ R, R = X2.heap.size := ⟨_, rfl⟩
  rw [← hR] at gNew ⊢
  have gY1_X3 := gNew
  clear hV hR gNew hb_X2 gK_X2 gG2_X2 gG3_X2 gG4_X2 gG5_X2 gG6_X2 gR_X2
  clear gY1_X3
  have hput := oput_any X3 knO knO_len
  have hle := put_le knO_len knO_good
  have hmore := kn_more
  obtain ⟨P, hP⟩ : ∃ P, P = knO.put := ⟨_, rfl⟩
  rw [← hP] at hput hle hmore
  clear hP
  go_wp2_with (with_reducible refine wpList_load_row rfl 28 (.tmp 1) rfl K rfl 28 knO.cells.toArray (0, 0) _ gK_X3.out Try.underlying28 rfl (by rw [Ed.cells_size knO_len]; kernel_rfl) ?_)
  refine hput.mono ?_
  rintro e X4 ⟨A4, n4, c4, rfl, hr4, hbn⟩
  have hl4 := hr4.len
  clear hput
  have hsz := hbn.size
  go_wp2_with (at_builtin; refine wp_append_bytes _ rfl (.tmp 40) (.tmp 41) 29 rfl 5 Try.underlying29 Try.infoByte X3.heap.size A4 n4 c4 P rfl (hr4.alloc _) ⟨X4.heap.size, 0, none⟩ 1 1 rfl [0] rfl (new_byte _ _ _ _ rfl) (by omega) (by simp; omega) ?_)
  intro A5 c5 X5 hr5 hbx
  have hb35 := hbx X3.heap.size X3 (Nat.le_refl _) (hbn.alloc hbn.size _)
  clear hbx hbn hr4
  have gK_X5 := row_next2 gK_X3 hb35
  have gG2_X5 := row_next2 gG2_X3 hb35
  have gG3_X5 := row_next2 gG3_X3 hb35
  have gG4_X5 := row_next2 gG4_X3 hb35
  have gG5_X5 := row_next2 gG5_X3 hb35
  have gG6_X5 := row_next2 gG6_X3 hb35
  have gR_X5 := row_next2 gR_X3 hb35
  have hb_X5 := below_next hb_X3 hb_X3.size hb35
  clear hb_X3 gK_X3 gG2_X3 gG3_X3 gG4_X3 gG5_X3 gG6_X3 gR_X3
  clear hb35 hsz
  have hget := oget_none X5 A5 (P ++ [0]) (n4 + 1) c5 hmore hr5.byt hr5.len (by omega)
  go_wp2_with fail
  refine hget.mono ?_
  rintro e X6 ⟨rfl, hbn⟩
  clear hget hr5 hmore hle hl4
  have gK_X6 := row_next2 gK_X5 hbn
  have gG2_X6 := row_next2 gG2_X5 hbn
  have gG3_X6 := row_next2 gG3_X5 hbn
  have gG4_X6 := row_next2 gG4_X5 hbn
  have gG5_X6 := row_next2 gG5_X5 hbn
  have gG6_X6 := row_next2 gG6_X5 hbn
  have gR_X6 := row_next2 gR_X5 hbn
  have hb_X6 := below_next hb_X5 hb_X5.size hbn
  clear hb_X5 gK_X5 gG2_X5 gG3_X5 gG4_X5 gG5_X5 gG6_X5 gR_X5
  clear hbn
  go_upto_region 13 with ((with_reducible refine wpList_store_row rfl 28 (.tmp 10) (.tmp 44) rfl X6.heap.size ed0.cells.toArray rfl (by kernel_rfl) 28 _ (heap_alloc_new _ _) (by kernel_rfl) (by kernel_rfl) (all_oneCell_toArray (Ed.cells_one _)) ?_); rw [World.setRow_alloc_new])
  obtain ⟨X7, hV⟩ : ∃ X, X = X6.alloc (.cells ed0.cells.toArray 28) := ⟨_, rfl⟩
  have gNew := new_row X6 ed0.cells.toArray 28
  have gK_X7 := row_alloc (o := (.cells ed0.cells.toArray 28)) gK_X6
  have gG2_X7 := row_alloc (o := (.cells ed0.cells.toArray 28)) gG2_X6
  have gG3_X7 := row_alloc (o := (.cells ed0.cells.toArray 28)) gG3_X6
  have gG4_X7 := row_alloc (o := (.cells ed0.cells.toArray 28)) gG4_X6
  have gG5_X7 := row_alloc (o := (.cells ed0.cells.toArray 28)) gG5_X6
  have gG6_X7 := row_alloc (o := (.cells ed0.cells.toArray 28)) gG6_X6
  have gR_X7 := row_alloc (o := (.cells ed0.cells.toArray 28)) gR_X6
  have hb_X7 := hb_X6.alloc hb_X6.size (.cells ed0.cells.toArray 28)
  rw [← hV] at gNew hb_X7 gK_X7 gG2_X7 gG3_X7 gG4_X7 gG5_X7 gG6_X7 gR_X7 ⊢
  obtain ⟨Y2, hR⟩ : ∃ R, R = X6.heap.size := ⟨_, rfl⟩
  rw [← hR] at gNew ⊢
  have gY2_X7 := gNew
  clear hV hR gNew hb_X6 gK_X6 gG2_X6 gG3_X6 gG4_X6 gG5_X6 gG6_X6 gR_X6
  clear gY2_X7
  have c1 := fun w => ogood_any w knO knO_len
  simp only [knO_good] at c1
  have c2 := fun w => ogood_any w knR knR_len
  simp only [knR_good] at c2
  have c3 := fun w => oover_any w knR knO knR_len knO_len
  simp only [kn_over] at c3
  have c4 := fun w => oover_any w knR knR knR_len knR_len
  simp only [kn_own] at c4
  have c5 := fun w => ogood_any w knA knA_len
  simp only [knA_good] at c5
  have c6 := fun w => ogood_any w knB knB_len
  simp only [knB_good] at c6
  have c7 := fun w => ogood_any w knC knC_len
  simp only [knC_good] at c7
  have c8 := fun w => ogood_any w knD knD_len
  simp only [knD_good] at c8
  have c9 := fun w => ogood_any w knE knE_len
  simp only [knE_good] at c9
  have c10 := fun w => oput_nil w knA knA_len knA_good
  refine plain_start (S := fun W' => Below X7.heap.size X7 W') (by kernel_rfl) (Below.refl _ _) (fun hHeld => ?_)
  refine wpAnyH_take (i := 0) (oi := ⟨(some 46), _, _, _, _, _⟩) (v := .agg knO.cells.toArray) rfl (by kernel_rfl) (by kernel_rfl) (by kernel_rfl) (fun _ _ _ h => h) (yieldsIf_load_mid (by rfl) _ _ rfl K 0 rfl knO.cells _ (fun W' hW' => ed_allR (row_next2 gK_X7 hW')) (Try.underlying28) rfl (by rw [Ed.cells_len knO_len]; kernel_rfl)) hHeld ?_
  try simp only [pu]
  refine wpAnyH_ready (rs := [1]) (by kernel_rfl) (by simp) ?_
  refine AllReadyH.cons (i := 1) (o := ⟨(some 47), _, _, _, _, _⟩) rfl (fun K hK => ?_) AllReadyH.nil
  go_simp
  refine (c1 _).mono ?_
  rintro e r13W1 ⟨rfl, r13h1⟩
  refine hK.out _ _ (below_next hHeld hHeld.size r13h1) (fun hHeld => ?_)
  clear hK K r13h1
  try simp only [pu]
  refine wpAnyH_take (i := 2) (oi := ⟨(some 48), _, _, _, _, _⟩) (v := .bool true) rfl (by kernel_rfl) (by kernel_rfl) (by kernel_rfl) (fun _ _ _ h => h) (Or.inl ⟨by rfl, ?yr13_2⟩) hHeld ?_
  case yr13_2 => (intro W0 hSw; go_simp; try with_reducible rfl)
  try simp only [pu]
  refine wpAnyH_take (i := 3) (oi := ⟨(some 49), _, _, _, _, _⟩) (v := .agg knR.cells.toArray) rfl (by kernel_rfl) (by kernel_rfl) (by kernel_rfl) (fun _ _ _ h => h) (yieldsIf_load_mid (by rfl) _ _ rfl R 0 rfl knR.cells _ (fun W' hW' => ed_allR (row_next2 gR_X7 hW')) (Try.underlying28) rfl (by rw [Ed.cells_len knR_len]; kernel_rfl)) hHeld ?_
  try simp only [pu]
  refine wpAnyH_ready (rs := [4]) (by kernel_rfl) (by simp) ?_
  refine AllReadyH.cons (i := 4) (o := ⟨(some 50), _, _, _, _, _⟩) rfl (fun K hK => ?_) AllReadyH.nil
  go_simp
  refine (c2 _).mono ?_
  rintro e r13W2 ⟨rfl, r13h2⟩
  refine hK.out _ _ (below_next hHeld hHeld.size r13h2) (fun hHeld => ?_)
  clear hK K r13h2
  try simp only [pu]
  refine wpAnyH_take (i := 5) (oi := ⟨(some 51), _, _, _, _, _⟩) (v := .bool true) rfl (by kernel_rfl) (by kernel_rfl) (by kernel_rfl) (fun _ _ _ h => h) (Or.inl ⟨by rfl, ?yr13_5⟩) hHeld ?_
  case yr13_5 => (intro W0 hSw; go_simp; try with_reducible rfl)
  try simp only [pu]
  refine wpAnyH_take (i := 6) (oi := ⟨(some 52), _, _, _, _, _⟩) (v := .bool true) rfl (by kernel_rfl) (by kernel_rfl) (by kernel_rfl) (fun _ _ _ h => h) (Or.inl ⟨by rfl, ?yr13_6⟩) hHeld ?_
  case yr13_6 => (intro W0 hSw; go_simp; try with_reducible rfl)
  try simp only [pu]
  refine wpAnyH_take (i := 7) (oi := ⟨(some 53), _, _, _, _, _⟩) (v := .agg knR.cells.toArray) rfl (by kernel_rfl) (by kernel_rfl) (by kernel_rfl) (fun _ _ _ h => h) (yieldsIf_load_mid (by rfl) _ _ rfl R 0 rfl knR.cells _ (fun W' hW' => ed_allR (row_next2 gR_X7 hW')) (Try.underlying28) rfl (by rw [Ed.cells_len knR_len]; kernel_rfl)) hHeld ?_
  try simp only [pu]
  refine wpAnyH_take (i := 8) (oi := ⟨(some 54), _, _, _, _, _⟩) (v := .agg knO.cells.toArray) rfl (by kernel_rfl) (by kernel_rfl) (by kernel_rfl) (fun _ _ _ h => h) (yieldsIf_load_mid (by rfl) _ _ rfl K 0 rfl knO.cells _ (fun W' hW' => ed_allR (row_next2 gK_X7 hW')) (Try.underlying28) rfl (by rw [Ed.cells_len knO_len]; kernel_rfl)) hHeld ?_
  try simp only [pu]
  refine wpAnyH_ready (rs := [9]) (by kernel_rfl) (by simp) ?_
  refine AllReadyH.cons (i := 9) (o := ⟨(some 55), _, _, _, _, _⟩) rfl (fun K hK => ?_) AllReadyH.nil
  go_simp
  refine (c3 _).mono ?_
  rintro e r13W3 ⟨rfl, r13h3⟩
  refine hK.out _ _ (below_next hHeld hHeld.size r13h3) (fun hHeld => ?_)
  clear hK K r13h3
  try simp only [pu]
  refine wpAnyH_take (i := 10) (oi := ⟨(some 56), _, _, _, _, _⟩) (v := .bool true) rfl (by kernel_rfl) (by kernel_rfl) (by kernel_rfl) (fun _ _ _ h => h) (Or.inl ⟨by rfl, ?yr13_10⟩) hHeld ?_
  case yr13_10 => (intro W0 hSw; go_simp; try with_reducible rfl)
  try simp only [pu]
  refine wpAnyH_take (i := 11) (oi := ⟨(some 57), _, _, _, _, _⟩) (v := .bool true) rfl (by kernel_rfl) (by kernel_rfl) (by kernel_rfl) (fun _ _ _ h => h) (Or.inl ⟨by rfl, ?yr13_11⟩) hHeld ?_
  case yr13_11 => (intro W0 hSw; go_simp; try with_reducible rfl)
  try simp only [pu]
  refine wpAnyH_take (i := 12) (oi := ⟨(some 58), _, _, _, _, _⟩) (v := .agg knR.cells.toArray) rfl (by kernel_rfl) (by kernel_rfl) (by kernel_rfl) (fun _ _ _ h => h) (yieldsIf_load_mid (by rfl) _ _ rfl R 0 rfl knR.cells _ (fun W' hW' => ed_allR (row_next2 gR_X7 hW')) (Try.underlying28) rfl (by rw [Ed.cells_len knR_len]; kernel_rfl)) hHeld ?_
  try simp only [pu]
  refine wpAnyH_take (i := 13) (oi := ⟨(some 59), _, _, _, _, _⟩) (v := .agg knR.cells.toArray) rfl (by kernel_rfl) (by kernel_rfl) (by kernel_rfl) (fun _ _ _ h => h) (yieldsIf_load_mid (by rfl) _ _ rfl R 0 rfl knR.cells _ (fun W' hW' => ed_allR (row_next2 gR_X7 hW')) (Try.underlying28) rfl (by rw [Ed.cells_len knR_len]; kernel_rfl)) hHeld ?_
  try simp only [pu]
  refine wpAnyH_ready (rs := [14]) (by kernel_rfl) (by simp) ?_
  refine AllReadyH.cons (i := 14) (o := ⟨(some 60), _, _, _, _, _⟩) rfl (fun K hK => ?_) AllReadyH.nil
  go_simp
  refine (c4 _).mono ?_
  rintro e r13W4 ⟨rfl, r13h4⟩
  refine hK.out _ _ (below_next hHeld hHeld.size r13h4) (fun hHeld => ?_)
  clear hK K r13h4
  try simp only [pu]
  refine wpAnyH_take (i := 15) (oi := ⟨(some 61), _, _, _, _, _⟩) (v := .bool true) rfl (by kernel_rfl) (by kernel_rfl) (by kernel_rfl) (fun _ _ _ h => h) (Or.inl ⟨by rfl, ?yr13_15⟩) hHeld ?_
  case yr13_15 => (intro W0 hSw; go_simp; try with_reducible rfl)
  try simp only [pu]
  refine wpAnyH_take (i := 16) (oi := ⟨(some 62), _, _, _, _, _⟩) (v := .bool true) rfl (by kernel_rfl) (by kernel_rfl) (by kernel_rfl) (fun _ _ _ h => h) (Or.inl ⟨by rfl, ?yr13_16⟩) hHeld ?_
  case yr13_16 => (intro W0 hSw; go_simp; try with_reducible rfl)
  try simp only [pu]
  refine wpAnyH_take (i := 17) (oi := ⟨(some 63), _, _, _, _, _⟩) (v := .bool true) rfl (by kernel_rfl) (by kernel_rfl) (by kernel_rfl) (fun _ _ _ h => h) (Or.inl ⟨by rfl, ?yr13_17⟩) hHeld ?_
  case yr13_17 => (intro W0 hSw; go_simp; try with_reducible rfl)
  try simp only [pu]
  refine wpAnyH_take (i := 18) (oi := ⟨(some 64), _, _, _, _, _⟩) (v := .agg knA.cells.toArray) rfl (by kernel_rfl) (by kernel_rfl) (by kernel_rfl) (fun _ _ _ h => h) (yieldsIf_load_mid (by rfl) _ _ rfl G2 0 rfl knA.cells _ (fun W' hW' => ed_allR (row_next2 gG2_X7 hW')) (Try.underlying28) rfl (by rw [Ed.cells_len knA_len]; kernel_rfl)) hHeld ?_
  try simp only [pu]
  refine wpAnyH_ready (rs := [19]) (by kernel_rfl) (by simp) ?_
  refine AllReadyH.cons (i := 19) (o := ⟨(some 65), _, _, _, _, _⟩) rfl (fun K hK => ?_) AllReadyH.nil
  go_simp
  refine (c5 _).mono ?_
  rintro e r13W5 ⟨rfl, r13h5⟩
  refine hK.out _ _ (below_next hHeld hHeld.size r13h5) (fun hHeld => ?_)
  clear hK K r13h5
  try simp only [pu]
  refine wpAnyH_take (i := 20) (oi := ⟨(some 66), _, _, _, _, _⟩) (v := .bool true) rfl (by kernel_rfl) (by kernel_rfl) (by kernel_rfl) (fun _ _ _ h => h) (Or.inl ⟨by rfl, ?yr13_20⟩) hHeld ?_
  case yr13_20 => (intro W0 hSw; go_simp; try with_reducible rfl)
  try simp only [pu]
  refine wpAnyH_take (i := 21) (oi := ⟨(some 67), _, _, _, _, _⟩) (v := .bool true) rfl (by kernel_rfl) (by kernel_rfl) (by kernel_rfl) (fun _ _ _ h => h) (Or.inl ⟨by rfl, ?yr13_21⟩) hHeld ?_
  case yr13_21 => (intro W0 hSw; go_simp; try with_reducible rfl)
  try simp only [pu]
  refine wpAnyH_take (i := 22) (oi := ⟨(some 68), _, _, _, _, _⟩) (v := .bool true) rfl (by kernel_rfl) (by kernel_rfl) (by kernel_rfl) (fun _ _ _ h => h) (Or.inl ⟨by rfl, ?yr13_22⟩) hHeld ?_
  case yr13_22 => (intro W0 hSw; go_simp; try with_reducible rfl)
  try simp only [pu]
  refine wpAnyH_take (i := 23) (oi := ⟨(some 69), _, _, _, _, _⟩) (v := .agg knB.cells.toArray) rfl (by kernel_rfl) (by kernel_rfl) (by kernel_rfl) (fun _ _ _ h => h) (yieldsIf_load_mid (by rfl) _ _ rfl G3 0 rfl knB.cells _ (fun W' hW' => ed_allR (row_next2 gG3_X7 hW')) (Try.underlying28) rfl (by rw [Ed.cells_len knB_len]; kernel_rfl)) hHeld ?_
  try simp only [pu]
  refine wpAnyH_ready (rs := [24]) (by kernel_rfl) (by simp) ?_
  refine AllReadyH.cons (i := 24) (o := ⟨(some 70), _, _, _, _, _⟩) rfl (fun K hK => ?_) AllReadyH.nil
  go_simp
  refine (c6 _).mono ?_
  rintro e r13W6 ⟨rfl, r13h6⟩
  refine hK.out _ _ (below_next hHeld hHeld.size r13h6) (fun hHeld => ?_)
  clear hK K r13h6
  try simp only [pu]
  refine wpAnyH_take (i := 25) (oi := ⟨(some 71), _, _, _, _, _⟩) (v := .bool true) rfl (by kernel_rfl) (by kernel_rfl) (by kernel_rfl) (fun _ _ _ h => h) (Or.inl ⟨by rfl, ?yr13_25⟩) hHeld ?_
  case yr13_25 => (intro W0 hSw; go_simp; try with_reducible rfl)
  try simp only [pu]
  refine wpAnyH_take (i := 26) (oi := ⟨(some 72), _, _, _, _, _⟩) (v := .bool true) rfl (by kernel_rfl) (by kernel_rfl) (by kernel_rfl) (fun _ _ _ h => h) (Or.inl ⟨by rfl, ?yr13_26⟩) hHeld ?_
  case yr13_26 => (intro W0 hSw; go_simp; try with_reducible rfl)
  try simp only [pu]
  refine wpAnyH_take (i := 27) (oi := ⟨(some 73), _, _, _, _, _⟩) (v := .bool true) rfl (by kernel_rfl) (by kernel_rfl) (by kernel_rfl) (fun _ _ _ h => h) (Or.inl ⟨by rfl, ?yr13_27⟩) hHeld ?_
  case yr13_27 => (intro W0 hSw; go_simp; try with_reducible rfl)
  try simp only [pu]
  refine wpAnyH_take (i := 28) (oi := ⟨(some 74), _, _, _, _, _⟩) (v := .agg knC.cells.toArray) rfl (by kernel_rfl) (by kernel_rfl) (by kernel_rfl) (fun _ _ _ h => h) (yieldsIf_load_mid (by rfl) _ _ rfl G4 0 rfl knC.cells _ (fun W' hW' => ed_allR (row_next2 gG4_X7 hW')) (Try.underlying28) rfl (by rw [Ed.cells_len knC_len]; kernel_rfl)) hHeld ?_
  try simp only [pu]
  refine wpAnyH_ready (rs := [29]) (by kernel_rfl) (by simp) ?_
  refine AllReadyH.cons (i := 29) (o := ⟨(some 75), _, _, _, _, _⟩) rfl (fun K hK => ?_) AllReadyH.nil
  go_simp
  refine (c7 _).mono ?_
  rintro e r13W7 ⟨rfl, r13h7⟩
  refine hK.out _ _ (below_next hHeld hHeld.size r13h7) (fun hHeld => ?_)
  clear hK K r13h7
  try simp only [pu]
  refine wpAnyH_take (i := 30) (oi := ⟨(some 76), _, _, _, _, _⟩) (v := .bool true) rfl (by kernel_rfl) (by kernel_rfl) (by kernel_rfl) (fun _ _ _ h => h) (Or.inl ⟨by rfl, ?yr13_30⟩) hHeld ?_
  case yr13_30 => (intro W0 hSw; go_simp; try with_reducible rfl)
  try simp only [pu]
  refine wpAnyH_take (i := 31) (oi := ⟨(some 77), _, _, _, _, _⟩) (v := .bool true) rfl (by kernel_rfl) (by kernel_rfl) (by kernel_rfl) (fun _ _ _ h => h) (Or.inl ⟨by rfl, ?yr13_31⟩) hHeld ?_
  case yr13_31 => (intro W0 hSw; go_simp; try with_reducible rfl)
  try simp only [pu]
  refine wpAnyH_take (i := 32) (oi := ⟨(some 78), _, _, _, _, _⟩) (v := .bool true) rfl (by kernel_rfl) (by kernel_rfl) (by kernel_rfl) (fun _ _ _ h => h) (Or.inl ⟨by rfl, ?yr13_32⟩) hHeld ?_
  case yr13_32 => (intro W0 hSw; go_simp; try with_reducible rfl)
  try simp only [pu]
  refine wpAnyH_take (i := 33) (oi := ⟨(some 79), _, _, _, _, _⟩) (v := .agg knD.cells.toArray) rfl (by kernel_rfl) (by kernel_rfl) (by kernel_rfl) (fun _ _ _ h => h) (yieldsIf_load_mid (by rfl) _ _ rfl G5 0 rfl knD.cells _ (fun W' hW' => ed_allR (row_next2 gG5_X7 hW')) (Try.underlying28) rfl (by rw [Ed.cells_len knD_len]; kernel_rfl)) hHeld ?_
  try simp only [pu]
  refine wpAnyH_ready (rs := [34]) (by kernel_rfl) (by simp) ?_
  refine AllReadyH.cons (i := 34) (o := ⟨(some 80), _, _, _, _, _⟩) rfl (fun K hK => ?_) AllReadyH.nil
  go_simp
  refine (c8 _).mono ?_
  rintro e r13W8 ⟨rfl, r13h8⟩
  refine hK.out _ _ (below_next hHeld hHeld.size r13h8) (fun hHeld => ?_)
  clear hK K r13h8
  try simp only [pu]
  refine wpAnyH_take (i := 35) (oi := ⟨(some 81), _, _, _, _, _⟩) (v := .bool true) rfl (by kernel_rfl) (by kernel_rfl) (by kernel_rfl) (fun _ _ _ h => h) (Or.inl ⟨by rfl, ?yr13_35⟩) hHeld ?_
  case yr13_35 => (intro W0 hSw; go_simp; try with_reducible rfl)
  try simp only [pu]
  refine wpAnyH_take (i := 36) (oi := ⟨(some 82), _, _, _, _, _⟩) (v := .bool true) rfl (by kernel_rfl) (by kernel_rfl) (by kernel_rfl) (fun _ _ _ h => h) (Or.inl ⟨by rfl, ?yr13_36⟩) hHeld ?_
  case yr13_36 => (intro W0 hSw; go_simp; try with_reducible rfl)
  try simp only [pu]
  refine wpAnyH_take (i := 37) (oi := ⟨(some 83), _, _, _, _, _⟩) (v := .bool true) rfl (by kernel_rfl) (by kernel_rfl) (by kernel_rfl) (fun _ _ _ h => h) (Or.inl ⟨by rfl, ?yr13_37⟩) hHeld ?_
  case yr13_37 => (intro W0 hSw; go_simp; try with_reducible rfl)
  try simp only [pu]
  refine wpAnyH_take (i := 38) (oi := ⟨(some 84), _, _, _, _, _⟩) (v := .agg knE.cells.toArray) rfl (by kernel_rfl) (by kernel_rfl) (by kernel_rfl) (fun _ _ _ h => h) (yieldsIf_load_mid (by rfl) _ _ rfl G6 0 rfl knE.cells _ (fun W' hW' => ed_allR (row_next2 gG6_X7 hW')) (Try.underlying28) rfl (by rw [Ed.cells_len knE_len]; kernel_rfl)) hHeld ?_
  try simp only [pu]
  refine wpAnyH_ready (rs := [39]) (by kernel_rfl) (by simp) ?_
  refine AllReadyH.cons (i := 39) (o := ⟨(some 85), _, _, _, _, _⟩) rfl (fun K hK => ?_) AllReadyH.nil
  go_simp
  refine (c9 _).mono ?_
  rintro e r13W9 ⟨rfl, r13h9⟩
  refine hK.out _ _ (below_next hHeld hHeld.size r13h9) (fun hHeld => ?_)
  clear hK K r13h9
  try simp only [pu]
  refine wpAnyH_take (i := 40) (oi := ⟨(some 86), _, _, _, _, _⟩) (v := .bool true) rfl (by kernel_rfl) (by kernel_rfl) (by kernel_rfl) (fun _ _ _ h => h) (Or.inl ⟨by rfl, ?yr13_40⟩) hHeld ?_
  case yr13_40 => (intro W0 hSw; go_simp; try with_reducible rfl)
  try simp only [pu]
  refine wpAnyH_take (i := 41) (oi := ⟨(some 87), _, _, _, _, _⟩) (v := .bool true) rfl (by kernel_rfl) (by kernel_rfl) (by kernel_rfl) (fun _ _ _ h => h) (Or.inl ⟨by rfl, ?yr13_41⟩) hHeld ?_
  case yr13_41 => (intro W0 hSw; go_simp; try with_reducible rfl)
  try simp only [pu]
  refine wpAnyH_take (i := 42) (oi := ⟨(some 88), _, _, _, _, _⟩) (v := .bool true) rfl (by kernel_rfl) (by kernel_rfl) (by kernel_rfl) (fun _ _ _ h => h) (Or.inl ⟨by rfl, ?yr13_42⟩) hHeld ?_
  case yr13_42 => (intro W0 hSw; go_simp; try with_reducible rfl)
  try simp only [pu]
  refine wpAnyH_take (i := 43) (oi := ⟨(some 89), _, _, _, _, _⟩) (v := .agg knA.cells.toArray) rfl (by kernel_rfl) (by kernel_rfl) (by kernel_rfl) (fun _ _ _ h => h) (yieldsIf_load_mid (by rfl) _ _ rfl G2 0 rfl knA.cells _ (fun W' hW' => ed_allR (row_next2 gG2_X7 hW')) (Try.underlying28) rfl (by rw [Ed.cells_len knA_len]; kernel_rfl)) hHeld ?_
  try simp only [pu]
  refine wpAnyH_ready (rs := [44]) (by kernel_rfl) (by simp) ?_
  refine AllReadyH.cons (i := 44) (o := ⟨(some 90), _, _, _, _, _⟩) rfl (fun K hK => ?_) AllReadyH.nil
  go_simp
  refine (c10 _).mono ?_
  rintro e r13W10 ⟨A9, c9', rfl, r13h10⟩
  refine hK.out _ _ (below_next hHeld hHeld.size r13h10) (fun hHeld => ?_)
  clear hK K r13h10
  try simp only [pu]
  refine wpAnyH_take (i := 45) (oi := ⟨(some 91), _, _, _, _, _⟩) (v := .int .i64 0) rfl (by kernel_rfl) (by kernel_rfl) (by kernel_rfl) (fun _ _ _ h => h) (Or.inl ⟨by rfl, ?yr13_45⟩) hHeld ?_
  case yr13_45 => (intro W0 hSw; go_simp; try with_reducible rfl)
  try simp only [pu]
  refine wpAnyH_take (i := 46) (oi := ⟨(some 92), _, _, _, _, _⟩) (v := .bool true) rfl (by kernel_rfl) (by kernel_rfl) (by kernel_rfl) (fun _ _ _ h => h) (Or.inl ⟨by rfl, ?yr13_46⟩) hHeld ?_
  case yr13_46 => (intro W0 hSw; go_simp; try with_reducible rfl)
  try simp only [pu]
  refine wpAnyH_take (i := 47) (oi := ⟨(some 93), _, _, _, _, _⟩) (v := .bool true) rfl (by kernel_rfl) (by kernel_rfl) (by kernel_rfl) (fun _ _ _ h => h) (Or.inl ⟨by rfl, ?yr13_47⟩) hHeld ?_
  case yr13_47 => (intro W0 hSw; go_simp; try with_reducible rfl)
  try simp only [pu]
  refine wpAnyH_take (i := 48) (oi := ⟨(some 94), _, _, _, _, _⟩) (v := .bool true) rfl (by kernel_rfl) (by kernel_rfl) (by kernel_rfl) (fun _ _ _ h => h) (Or.inl ⟨by rfl, ?yr13_48⟩) hHeld ?_
  case yr13_48 => (intro W0 hSw; go_simp; try with_reducible rfl)
  try simp only [pu]
  refine wpAnyH_take (i := 49) (oi := ⟨(some 95), _, _, _, _, _⟩) (v := .int .i64 3) rfl (by kernel_rfl) (by kernel_rfl) (by kernel_rfl) (fun _ _ _ h => h) (Or.inl ⟨by rfl, ?yr13_49⟩) hHeld ?_
  case yr13_49 => (intro W0 hSw; go_simp; try with_reducible rfl)
  try simp only [pu]
  refine wpAnyH_take (i := 50) (oi := ⟨(some 96), _, _, _, _, _⟩) (v := .bool true) rfl (by kernel_rfl) (by kernel_rfl) (by kernel_rfl) (fun _ _ _ h => h) (Or.inl ⟨by rfl, ?yr13_50⟩) hHeld ?_
  case yr13_50 => (intro W0 hSw; go_simp; try with_reducible rfl)
  try simp only [pu]
  refine wpAnyH_take (i := 51) (oi := ⟨(some 97), _, _, _, _, _⟩) (v := .bool true) rfl (by kernel_rfl) (by kernel_rfl) (by kernel_rfl) (fun _ _ _ h => h) (Or.inl ⟨by rfl, ?yr13_51⟩) hHeld ?_
  case yr13_51 => (intro W0 hSw; go_simp; try with_reducible rfl)
  try simp only [pu]
  refine wpAnyH_take (i := 52) (oi := ⟨(some 98), _, _, _, _, _⟩) (v := .bool true) rfl (by kernel_rfl) (by kernel_rfl) (by kernel_rfl) (fun _ _ _ h => h) (Or.inl ⟨by rfl, ?yr13_52⟩) hHeld ?_
  case yr13_52 => (intro W0 hSw; go_simp; try with_reducible rfl)
  try simp only [pu]
  refine wpAnyH_take (i := 53) (oi := ⟨(some 99), _, _, _, _, _⟩) (v := .int .i64 3) rfl (by kernel_rfl) (by kernel_rfl) (by kernel_rfl) (fun _ _ _ h => h) (Or.inl ⟨by rfl, ?yr13_53⟩) hHeld ?_
  case yr13_53 => (intro W0 hSw; go_simp; try with_reducible rfl)
  try simp only [pu]
  refine wpAnyH_take (i := 54) (oi := ⟨(some 100), _, _, _, _, _⟩) (v := .bool true) rfl (by kernel_rfl) (by kernel_rfl) (by kernel_rfl) (fun _ _ _ h => h) (Or.inl ⟨by rfl, ?yr13_54⟩) hHeld ?_
  case yr13_54 => (intro W0 hSw; go_simp; try with_reducible rfl)
  try simp only [pu]
  refine wpAnyH_take (i := 55) (oi := ⟨(some 101), _, _, _, _, _⟩) (v := .bool true) rfl (by kernel_rfl) (by kernel_rfl) (by kernel_rfl) (fun _ _ _ h => h) (Or.inl ⟨by rfl, ?yr13_55⟩) hHeld ?_
  case yr13_55 => (intro W0 hSw; go_simp; try with_reducible rfl)
  try simp only [pu]
  refine wpAnyH_take (i := 56) (oi := ⟨(some 0), _, _, _, _, _⟩) (v := .bool true) rfl (by kernel_rfl) (by kernel_rfl) (by kernel_rfl) (fun _ _ _ h => h) (Or.inl ⟨by rfl, ?yr13_56⟩) hHeld ?_
  case yr13_56 => (intro W0 hSw; go_simp; try with_reducible rfl)
  try simp only [pu]
  refine wpAnyH_done (by kernel_rfl) ?_ _
  go_wp2
  go_ret
  exact ⟨rfl, below_next hb_X7 hb_X7.size hHeld⟩
end Go.Proofs.Ytabgkkdgamacnaa
