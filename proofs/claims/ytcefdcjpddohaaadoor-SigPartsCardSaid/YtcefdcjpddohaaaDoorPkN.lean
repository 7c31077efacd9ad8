/-
  Words and contracts that other texts share, several in one text. No statement of the seat is proved here. Conditions: as each contract says.
  Contract of sig's Public. Conditions: the packages' own numbers lie as the program's text lays them.
  Contract of sig's Sign. Conditions: the packages' own numbers lie as the program's text lays them; fewer than 2^57 bytes, fewer than 2^31 parts.
-/
import Derived.Test.YtcefdcjpddohaaaDoorPkM
namespace Go.Proofs.YtcefdcjpddohaaaDoor
open Go.RowKit

set_option maxRecDepth 100000 in
set_option maxHeartbeats 4000000 in
theorem public_any (w : World) (hla : LaidG w) (s : List UInt8) (hs : s.length = 32) :
    Calls Tryd.prog 7 #[.agg (bv s).toArray] w fun e w' => ∃ l, e = .returned (.agg (bv l).toArray) ∧ Vlt (l = pubL s) ∧ Hid (l.length = 32) ∧ Below w.heap.size w w' := by
  have hzw := zero_word
  obtain ⟨V0, hW, gb0_V0, gb1_V0, hb_V0, hsW⟩ := pair_new w (bv s).toArray (bv z32).toArray 23 23
  have HW := Lib.hid hW
  have Hhs := Lib.hid hs
  have sb0_V0 := row_size gb0_V0
  have sb1_V0 := row_size gb1_V0
  have hlaV0 := hla.next hb_V0
  have hHG := hla.hi (Nat.le_refl _)
  clear hla
  clear hW hsW hs
  go_enter Tryd.func7, Tryd.ntmps7
  go_upto_region 1 with fail
  rw [HW.out]
  refine plain_start (S := fun W' => Below V0.heap.size V0 W') (by kernel_rfl) (Below.refl _ _) (fun hHeld => ?_)
  refine wpAnyH_take (i := 0) (oi := ⟨(some 6), _, _, _, _, _⟩) (v := _) rfl (by kernel_rfl) (by kernel_rfl) (by kernel_rfl) (fun _ _ _ h => h) (yieldsIf_load_mid (by rfl) _ _ rfl (w.heap.size) 0 rfl (bv s) _ (fun W' hW' => range_row ((hW'.block _ sb0_V0).trans gb0_V0.out)) (Tryd.underlying23) rfl (by rw [bv_len, Hhs.out]; kernel_rfl)) hHeld ?_
  try simp only [pu]
  refine mixX_start (B := V0.heap.size) (al := [⟨5, 3, 23, ((bv z32)).toArray, fun g => .pointer (some ⟨g, 0, none⟩)⟩, ⟨6, 4, 23, ((bv z32)).toArray, fun g => .pointer (some ⟨g, 0, none⟩)⟩]) (fuel := 6) rfl hHeld (hHeld.size) ?_
  clear hHeld
  refine mixX_call (i := 1) (o := ⟨(some 7), _, _, _, _, _⟩) rfl (by kernel_rfl) (by kernel_rfl) (by kernel_rfl) (by kernel_rfl) (by simp) (by simp) (fun x hx => by simp only [List.mem_cons, List.not_mem_nil, or_false] at hx; rcases hx with rfl | rfl <;> first | exact makesX_new rfl (by kernel_rfl) rfl rfl rfl zero_word | exact makesX_new rfl (by kernel_rfl) rfl rfl rfl zero_word) (fun W x _ h => h.alloc h.size _) (fun _ _ _ _ _ h => h) (fun X1 hHeld hBX K hK => ?_)
  try simp only [pu]
  go_simp
  refine (spread_any _ (hlaV0.next hHeld) s Hhs.out).mono ?_
  rintro e W1 ⟨u, v, rfl, eS, hu, hv, hb1⟩
  refine hK.out _ _ (below_next hHeld hHeld.size hb1) hb1 ?_
  clear hK K hHeld hBX hb1
  try simp only [pu]
  refine mixX_take (i := 2) (o := ⟨(some 5), _, _, _, _, _⟩) (v := ?vy1_2) rfl (by kernel_rfl) (by kernel_rfl) (by kernel_rfl) (by kernel_rfl) (by kernel_rfl) (fun _ _ _ h => h) (Or.inl ⟨by rfl, ?y1_2⟩) ?_
  case y1_2 => (intro W0 hSw; go_simp; try with_reducible rfl)
  try simp only [pu]
  refine mixX_take (i := 3) (o := ⟨(some 8), _, _, _, _, _⟩) (v := .agg (bv u).toArray) rfl (by kernel_rfl) (by kernel_rfl) (by kernel_rfl) (by kernel_rfl) (by kernel_rfl) (fun _ _ _ h => h) (Or.inl ⟨by rfl, ?y1_3⟩) ?_
  case y1_3 => (intro W0 hSw; go_simp; try with_reducible rfl)
  try simp only [pu]
  refine mixX_take (i := 4) (o := ⟨(some 9), _, _, _, _, _⟩) (v := .agg (bv v).toArray) rfl (by kernel_rfl) (by kernel_rfl) (by kernel_rfl) (by kernel_rfl) (by kernel_rfl) (fun _ _ _ h => h) (Or.inl ⟨by rfl, ?y1_4⟩) ?_
  case y1_4 => (intro W0 hSw; go_simp; try with_reducible rfl)
  try simp only [pu]
  refine mixX_end (by kernel_rfl) (by kernel_rfl) (fun _ _ _ _ _ h => h) (by simp) (by simp) (fun x hx => by simp only [List.mem_cons, List.not_mem_nil, or_false] at hx; rcases hx with rfl | rfl <;> first | exact makesX_new rfl (by kernel_rfl) rfl rfl rfl zero_word | exact makesX_new rfl (by kernel_rfl) rfl rfl rfl zero_word) (fun W x _ h => h.alloc h.size _) (fun D hD W2 hHeld hBX hHo => ?_)
  obtain ⟨G3, G4, rfl⟩ := x_two hD
  have xG3 : Hid (W2.heap[G3]? = some (.cells ((bv z32)).toArray 23 (0, 0))) := hHo.row (⟨5, 3, 23, ((bv z32)).toArray, fun g => .pointer (some ⟨g, 0, none⟩)⟩, G3) (by simp)
  have lG3 : V0.heap.size ≤ G3 := hHo.new (⟨5, 3, 23, ((bv z32)).toArray, fun g => .pointer (some ⟨g, 0, none⟩)⟩, G3) (by simp)
  have xG4 : Hid (W2.heap[G4]? = some (.cells ((bv z32)).toArray 23 (0, 0))) := hHo.row (⟨6, 4, 23, ((bv z32)).toArray, fun g => .pointer (some ⟨g, 0, none⟩)⟩, G4) (by simp)
  have lG4 : V0.heap.size ≤ G4 := hHo.new (⟨6, 4, 23, ((bv z32)).toArray, fun g => .pointer (some ⟨g, 0, none⟩)⟩, G4) (by simp)
  have hnd := hHo.nodup
  simp only [List.map_cons, List.map_nil, List.nodup_cons, List.mem_cons, List.not_mem_nil, or_false, not_false_eq_true, List.nodup_nil, and_true] at hnd
  have nG3G4 := hnd
  clear hnd
  clear hHo hBX hD
  simp only [markDX, putX, List.foldr_cons, List.foldr_nil, pu, List.setIfInBounds_toArray, List.set_cons_zero, List.set_cons_succ]
  refine wpAnyH_ready (rs := [7]) (by kernel_rfl) (by simp) ?_
  refine AllReadyH.cons (i := 7) (o := ⟨none, _, _, _, _, _⟩) rfl (fun K hK => ?_) AllReadyH.nil
  refine step_row (by rfl) 23 (.tmp 3) (.tmp 8) rfl G3 (bv u) rfl rfl 23 _ xG3.out (by rw [bv_len, hu.out]; kernel_rfl) (by rw [List.size_toArray, bv_len, bv_len, hu.out, z32_len]) (bv_one _) ?_
  intro W3 yG3 kG3
  have zG4 := row_but xG4 kG3 (by omega)
  clear xG4
  have xG4 := zG4
  clear zG4
  refine hK.out _ _ (But.below hHeld kG3 lG3 hHeld.size) (fun hHeld => ?_)
  clear hK K kG3 xG3
  have xG3 := yG3
  clear yG3
  try simp only [pu]
  refine wpAnyH_ready (rs := [8]) (by kernel_rfl) (by simp) ?_
  refine AllReadyH.cons (i := 8) (o := ⟨none, _, _, _, _, _⟩) rfl (fun K hK => ?_) AllReadyH.nil
  refine step_row (by rfl) 23 (.tmp 4) (.tmp 9) rfl G4 (bv v) rfl rfl 23 _ xG4.out (by rw [bv_len, hv.out]; kernel_rfl) (by rw [List.size_toArray, bv_len, bv_len, hv.out, z32_len]) (bv_one _) ?_
  intro W4 yG4 kG4
  have zG3 := row_but xG3 kG4 (by omega)
  clear xG3
  have xG3 := zG3
  clear zG3
  refine hK.out _ _ (But.below hHeld kG4 lG4 hHeld.size) (fun hHeld => ?_)
  clear hK K kG4 xG4
  have xG4 := yG4
  clear yG4
  try simp only [pu]
  refine wpAnyH_done (by kernel_rfl) ?_ _
  obtain ⟨V1, rV1⟩ : ∃ X, X = W4 := ⟨_, rfl⟩
  subst rV1
  have gb0_V1 := row_next2 gb0_V0 hHeld
  have sb0_V1 := row_size gb0_V1
  have gb1_V1 := row_next2 gb1_V0 hHeld
  have sb1_V1 := row_size gb1_V1
  have hb_V1 := below_next hb_V0 hb_V0.size hHeld
  have hlaV1 := hlaV0.next hHeld
  have gn3_V1 := xG3
  have sn3_V1 := row_size gn3_V1
  clear xG3
  have wG3 : w.heap.size + 2 ≤ G3 := by omega
  have gn4_V1 := xG4
  have sn4_V1 := row_size gn4_V1
  clear xG4
  have wG4 : w.heap.size + 2 ≤ G4 := by omega
  clear hHeld hb_V0 hlaV0 sb0_V0 gb0_V0 sb1_V0 gb1_V0 lG3 lG4
  go_upto_region 2 with fail
  refine plain_start_c (S := fun W' => Below V1.heap.size V1 W') 2 (by kernel_rfl) (Below.refl _ _) (fun hHeld => ?_)
  refine c_read (i := 0) (oi := ⟨(some 10), _, _, _, _, _⟩) (v := _) rfl (by decide) (by kernel_rfl) (by kernel_rfl) (by kernel_rfl) (by kernel_rfl) (by kernel_rfl) (fun _ _ _ h => h) (yieldsIf_load_mid (by rfl) _ _ rfl G3 0 rfl (bv u) _ (fun W' hW' => range_row ((hW'.block _ sn3_V1).trans gn3_V1.out)) (Tryd.underlying23) rfl (by rw [bv_len, hu.out]; kernel_rfl)) hHeld ?_
  try simp only [pu]
  refine c_step (i := 1) (o := ⟨(some 11), _, _, _, _, _⟩) (by kernel_rfl) rfl (fun K hK => ?_)
  go_simp
  refine (ofBase_any _ (hlaV1.next hHeld) u hu.out).mono ?_
  rintro e W5 ⟨l, rfl, eB, hl, hb5⟩
  refine hK.out _ _ (below_next hHeld hHeld.size hb5) (fun hHeld => ?_)
  clear hK K hb5
  try simp only [pu]
  refine c_call (S' := fun _ => True) (o := ⟨none, _, _, _, _, _⟩) (by kernel_rfl) (by kernel_rfl) rfl (fun K hK => ?_)
  have cb0_0 := row_next2 gb0_V1 hHeld
  have cb1_0 := row_next2 gb1_V1 hHeld
  have cn3_0 := row_next2 gn3_V1 hHeld
  have cn4_0 := row_next2 gn4_V1 hHeld
  have cb_0 := below_next hb_V1 hb_V1.size hHeld
  have cl_0 := hlaV1.next hHeld
  clear hHeld
  refine step_row (by rfl) 23 (.tmp 2) (.tmp 11) rfl (w.heap.size + 1) (bv l) rfl rfl 23 _ cb1_0.out (by rw [bv_len, hl.out]; kernel_rfl) (by rw [List.size_toArray, bv_len, z32_len, bv_len, hl.out]) (bv_one _) ?_
  intro W6 cb1_1 kR
  refine hK.out _ _ trivial (fun hHeld => ?_)
  have cb0_1 := row_but cb0_0 kR (by omega)
  have cn3_1 := row_but cn3_0 kR (by omega)
  have cn4_1 := row_but cn4_0 kR (by omega)
  have cb_1 := But.below cb_0 kR (by omega) cb_0.size
  have cl_1 := cl_0.but (hHG.up (by omega)) kR
  clear hK K kR cb_0 cb0_0 cb1_0 cn3_0 cn4_0 cl_0
  try simp only [pu]
  refine wpAnyH_done (by kernel_rfl) ?_ _
  obtain ⟨V2, rV2⟩ : ∃ X, X = W6 := ⟨_, rfl⟩
  subst rV2
  have gb0_V2 := cb0_1
  have sb0_V2 := row_size gb0_V2
  have gb1_V2 := cb1_1
  have sb1_V2 := row_size gb1_V2
  have gn3_V2 := cn3_1
  have sn3_V2 := row_size gn3_V2
  have gn4_V2 := cn4_1
  have sn4_V2 := row_size gn4_V2
  have hb_V2 := cb_1
  have hlaV2 := cl_1
  clear hHeld cb_1 hb_V1 cl_1 hlaV1 cb0_1 cb1_1 cn3_1 cn4_1 sb0_V1 sb1_V1 sn3_V1 sn4_V1 gb0_V1 gb1_V1 gn3_V1 gn4_V1
  have HE := vlt (show l = pubL s by rw [eB.out, eS.out.1]; rfl)
  go_wp2_with fail
  refine bodyPost_ret (v := .agg (bv l).toArray) (results_cell_row Tryd.results7 _ _ (w.heap.size + 1) 23 _ (0, 0) _ rfl gb1_V2.out Tryd.underlying23 rfl (by rw [List.size_toArray, bv_len, hl.out]; kernel_rfl)) rfl ⟨l, rfl, HE, hl, hb_V2⟩
end Go.Proofs.YtcefdcjpddohaaaDoor
namespace Go.Proofs.YtcefdcjpddohaaaDoor
open Go.RowKit

set_option maxRecDepth 100000 in
set_option maxHeartbeats 4000000 in
theorem sign_any (w : World) (hla : LaidG w) (s : List UInt8) (hs : s.length = 32) (A : Option Addr) (n c : Nat) (ps : List (List UInt8)) (hps : Lst w A n c ps) (hbig : ps.flatten.length ≤ 144115188075855872) (hn : n ≤ 2147483648) :
    Calls Tryd.prog 8 #[.agg (bv s).toArray, .slice A n c] w fun e w' => ∃ l, e = .returned (.agg (bv l).toArray) ∧ Vlt (l = signL s ps.flatten) ∧ Hid (l.length = 64) ∧ Below w.heap.size w w' := by
  have hzw := zero_word
  have hzs := zero_sig
  obtain ⟨V0, hW, gb0_V0, gb1_V0, hb_V0, hsW⟩ := pair_new w (bv s).toArray (bv z64).toArray 23 28
  have HW := Lib.hid hW
  have Hhs := Lib.hid hs
  have Hhbig := Lib.hid hbig
  have sb0_V0 := row_size gb0_V0
  have sb1_V0 := row_size gb1_V0
  have hlaV0 := hla.next hb_V0
  have hHG := hla.hi (Nat.le_refl _)
  clear hla
  have hP_V0 := hps.next hb_V0
  clear hps
  clear hW hsW hs hbig
  go_enter Tryd.func8, Tryd.ntmps8
  go_upto_region 1 with fail
  rw [HW.out]
  refine plain_start (S := fun W' => Below V0.heap.size V0 W') (by kernel_rfl) (Below.refl _ _) (fun hHeld => ?_)
  refine wpAnyH_take (i := 0) (oi := ⟨(some 13), _, _, _, _, _⟩) (v := _) rfl (by kernel_rfl) (by kernel_rfl) (by kernel_rfl) (fun _ _ _ h => h) (yieldsIf_load_mid (by rfl) _ _ rfl (w.heap.size) 0 rfl (bv s) _ (fun W' hW' => range_row ((hW'.block _ sb0_V0).trans gb0_V0.out)) (Tryd.underlying23) rfl (by rw [bv_len, Hhs.out]; kernel_rfl)) hHeld ?_
  try simp only [pu]
  refine mixX_start (B := V0.heap.size) (al := [⟨5, 5, 23, ((bv z32)).toArray, fun g => .pointer (some ⟨g, 0, none⟩)⟩, ⟨6, 6, 23, ((bv z32)).toArray, fun g => .pointer (some ⟨g, 0, none⟩)⟩]) (fuel := 6) rfl hHeld (hHeld.size) ?_
  clear hHeld
  refine mixX_call (i := 1) (o := ⟨(some 14), _, _, _, _, _⟩) rfl (by kernel_rfl) (by kernel_rfl) (by kernel_rfl) (by kernel_rfl) (by simp) (by simp) (fun x hx => by simp only [List.mem_cons, List.not_mem_nil, or_false] at hx; rcases hx with rfl | rfl <;> first | exact makesX_new rfl (by kernel_rfl) rfl rfl rfl zero_word | exact makesX_new rfl (by kernel_rfl) rfl rfl rfl zero_word) (fun W x _ h => h.alloc h.size _) (fun _ _ _ _ _ h => h) (fun X1 hHeld hBX K hK => ?_)
  try simp only [pu]
  go_simp
  refine (spread_any _ (hlaV0.next hHeld) s Hhs.out).mono ?_
  rintro e W1 ⟨u, v, rfl, eS, hu, hv, hb1⟩
  refine hK.out _ _ (below_next hHeld hHeld.size hb1) hb1 ?_
  clear hK K hHeld hBX hb1
  try simp only [pu]
  refine mixX_take (i := 2) (o := ⟨(some 12), _, _, _, _, _⟩) (v := ?vy1_2) rfl (by kernel_rfl) (by kernel_rfl) (by kernel_rfl) (by kernel_rfl) (by kernel_rfl) (fun _ _ _ h => h) (Or.inl ⟨by rfl, ?y1_2⟩) ?_
  case y1_2 => (intro W0 hSw; go_simp; try with_reducible rfl)
  try simp only [pu]
  refine mixX_take (i := 3) (o := ⟨(some 15), _, _, _, _, _⟩) (v := .agg (bv u).toArray) rfl (by kernel_rfl) (by kernel_rfl) (by kernel_rfl) (by kernel_rfl) (by kernel_rfl) (fun _ _ _ h => h) (Or.inl ⟨by rfl, ?y1_3⟩) ?_
  case y1_3 => (intro W0 hSw; go_simp; try with_reducible rfl)
  try simp only [pu]
  refine mixX_take (i := 4) (o := ⟨(some 16), _, _, _, _, _⟩) (v := .agg (bv v).toArray) rfl (by kernel_rfl) (by kernel_rfl) (by kernel_rfl) (by kernel_rfl) (by kernel_rfl) (fun _ _ _ h => h) (Or.inl ⟨by rfl, ?y1_4⟩) ?_
  case y1_4 => (intro W0 hSw; go_simp; try with_reducible rfl)
  try simp only [pu]
  refine mixX_end (by kernel_rfl) (by kernel_rfl) (fun _ _ _ _ _ h => h) (by simp) (by simp) (fun x hx => by simp only [List.mem_cons, List.not_mem_nil, or_false] at hx; rcases hx with rfl | rfl <;> first | exact makesX_new rfl (by kernel_rfl) rfl rfl rfl zero_word | exact makesX_new rfl (by kernel_rfl) rfl rfl rfl zero_word) (fun W x _ h => h.alloc h.size _) (fun D hD W2 hHeld hBX hHo => ?_)
  obtain ⟨G5, G6, rfl⟩ := x_two hD
  have xG5 : Hid (W2.heap[G5]? = some (.cells ((bv z32)).toArray 23 (0, 0))) := hHo.row (⟨5, 5, 23, ((bv z32)).toArray, fun g => .pointer (some ⟨g, 0, none⟩)⟩, G5) (by simp)
  have lG5 : V0.heap.size ≤ G5 := hHo.new (⟨5, 5, 23, ((bv z32)).toArray, fun g => .pointer (some ⟨g, 0, none⟩)⟩, G5) (by simp)
  have xG6 : Hid (W2.heap[G6]? = some (.cells ((bv z32)).toArray 23 (0, 0))) := hHo.row (⟨6, 6, 23, ((bv z32)).toArray, fun g => .pointer (some ⟨g, 0, none⟩)⟩, G6) (by simp)
  have lG6 : V0.heap.size ≤ G6 := hHo.new (⟨6, 6, 23, ((bv z32)).toArray, fun g => .pointer (some ⟨g, 0, none⟩)⟩, G6) (by simp)
  have hnd := hHo.nodup
  simp only [List.map_cons, List.map_nil, List.nodup_cons, List.mem_cons, List.not_mem_nil, or_false, not_false_eq_true, List.nodup_nil, and_true] at hnd
  have nG5G6 := hnd
  clear hnd
  clear hHo hBX hD
  simp only [markDX, putX, List.foldr_cons, List.foldr_nil, pu, List.setIfInBounds_toArray, List.set_cons_zero, List.set_cons_succ]
  refine wpAnyH_ready (rs := [7]) (by kernel_rfl) (by simp) ?_
  refine AllReadyH.cons (i := 7) (o := ⟨none, _, _, _, _, _⟩) rfl (fun K hK => ?_) AllReadyH.nil
  refine step_row (by rfl) 23 (.tmp 5) (.tmp 15) rfl G5 (bv u) rfl rfl 23 _ xG5.out (by rw [bv_len, hu.out]; kernel_rfl) (by rw [List.size_toArray, bv_len, bv_len, hu.out, z32_len]) (bv_one _) ?_
  intro W3 yG5 kG5
  have zG6 := row_but xG6 kG5 (by omega)
  clear xG6
  have xG6 := zG6
  clear zG6
  refine hK.out _ _ (But.below hHeld kG5 lG5 hHeld.size) (fun hHeld => ?_)
  clear hK K kG5 xG5
  have xG5 := yG5
  clear yG5
  try simp only [pu]
  refine wpAnyH_ready (rs := [8]) (by kernel_rfl) (by simp) ?_
  refine AllReadyH.cons (i := 8) (o := ⟨none, _, _, _, _, _⟩) rfl (fun K hK => ?_) AllReadyH.nil
  refine step_row (by rfl) 23 (.tmp 6) (.tmp 16) rfl G6 (bv v) rfl rfl 23 _ xG6.out (by rw [bv_len, hv.out]; kernel_rfl) (by rw [List.size_toArray, bv_len, bv_len, hv.out, z32_len]) (bv_one _) ?_
  intro W4 yG6 kG6
  have zG5 := row_but xG5 kG6 (by omega)
  clear xG5
  have xG5 := zG5
  clear zG5
  refine hK.out _ _ (But.below hHeld kG6 lG6 hHeld.size) (fun hHeld => ?_)
  clear hK K kG6 xG6
  have xG6 := yG6
  clear yG6
  try simp only [pu]
  refine wpAnyH_done (by kernel_rfl) ?_ _
  obtain ⟨V1, rV1⟩ : ∃ X, X = W4 := ⟨_, rfl⟩
  subst rV1
  have gb0_V1 := row_next2 gb0_V0 hHeld
  have sb0_V1 := row_size gb0_V1
  have gb1_V1 := row_next2 gb1_V0 hHeld
  have sb1_V1 := row_size gb1_V1
  have hb_V1 := below_next hb_V0 hb_V0.size hHeld
  have hlaV1 := hlaV0.next hHeld
  have hP_V1 := hP_V0.next hHeld
  have gn5_V1 := xG5
  have sn5_V1 := row_size gn5_V1
  clear xG5
  have wG5 : w.heap.size + 2 ≤ G5 := by omega
  have gn6_V1 := xG6
  have sn6_V1 := row_size gn6_V1
  clear xG6
  have wG6 : w.heap.size + 2 ≤ G6 := by omega
  clear hHeld hb_V0 hlaV0 sb0_V0 gb0_V0 sb1_V0 gb1_V0 hP_V0 lG5 lG6
  go_upto_region 2 with fail
  refine plain_start (S := fun W' => Below V1.heap.size V1 W') (by kernel_rfl) (Below.refl _ _) (fun hHeld => ?_)
  refine wpAnyH_take (i := 0) (oi := ⟨(some 17), _, _, _, _, _⟩) (v := _) rfl (by kernel_rfl) (by kernel_rfl) (by kernel_rfl) (fun _ _ _ h => h) (yieldsIf_load_mid (by rfl) _ _ rfl G5 0 rfl (bv u) _ (fun W' hW' => range_row ((hW'.block _ sn5_V1).trans gn5_V1.out)) (Tryd.underlying23) rfl (by rw [bv_len, hu.out]; kernel_rfl)) hHeld ?_
  try simp only [pu]
  refine mixX_start (B := V1.heap.size) (al := [⟨2, 7, 23, ((bv z32)).toArray, fun g => .pointer (some ⟨g, 0, none⟩)⟩]) (fuel := 2) rfl hHeld (hHeld.size) ?_
  clear hHeld
  refine mixX_call (i := 1) (o := ⟨(some 18), _, _, _, _, _⟩) rfl (by kernel_rfl) (by kernel_rfl) (by kernel_rfl) (by kernel_rfl) (by simp) (by simp) (fun x hx => by simp only [List.mem_cons, List.not_mem_nil, or_false] at hx; rcases hx with rfl <;> first | exact makesX_new rfl (by kernel_rfl) rfl rfl rfl zero_word) (fun W x _ h => h.alloc h.size _) (fun _ _ _ _ _ h => h) (fun X5 hHeld hBX K hK => ?_)
  try simp only [pu]
  go_simp
  refine (ofBase_any _ (hlaV1.next hHeld) u hu.out).mono ?_
  rintro e W5 ⟨pb, rfl, eP, hpb, hb5⟩
  refine hK.out _ _ (below_next hHeld hHeld.size hb5) hb5 ?_
  clear hK K hHeld hBX hb5
  try simp only [pu]
  refine mixX_end (by kernel_rfl) (by kernel_rfl) (fun _ _ _ _ _ h => h) (by simp) (by simp) (fun x hx => by simp only [List.mem_cons, List.not_mem_nil, or_false] at hx; rcases hx with rfl <;> first | exact makesX_new rfl (by kernel_rfl) rfl rfl rfl zero_word) (fun W x _ h => h.alloc h.size _) (fun D hD W6 hHeld hBX hHo => ?_)
  obtain ⟨G7, rfl⟩ := x_one hD
  have xG7 : Hid (W6.heap[G7]? = some (.cells ((bv z32)).toArray 23 (0, 0))) := hHo.row (⟨2, 7, 23, ((bv z32)).toArray, fun g => .pointer (some ⟨g, 0, none⟩)⟩, G7) (by simp)
  have lG7 : V1.heap.size ≤ G7 := hHo.new (⟨2, 7, 23, ((bv z32)).toArray, fun g => .pointer (some ⟨g, 0, none⟩)⟩, G7) (by simp)
  clear hHo hBX hD
  simp only [markDX, putX, List.foldr_cons, List.foldr_nil, pu, List.setIfInBounds_toArray, List.set_cons_zero, List.set_cons_succ]
  refine wpAnyH_ready (rs := [3]) (by kernel_rfl) (by simp) ?_
  refine AllReadyH.cons (i := 3) (o := ⟨none, _, _, _, _, _⟩) rfl (fun K hK => ?_) AllReadyH.nil
  refine step_row (by rfl) 23 (.tmp 7) (.tmp 18) rfl G7 (bv pb) rfl rfl 23 _ xG7.out (by rw [bv_len, hpb.out]; kernel_rfl) (by rw [List.size_toArray, bv_len, bv_len, hpb.out, z32_len]) (bv_one _) ?_
  intro W7 yG7 kG7
  refine hK.out _ _ (But.below hHeld kG7 lG7 hHeld.size) (fun hHeld => ?_)
  clear hK K kG7 xG7
  have xG7 := yG7
  clear yG7
  try simp only [pu]
  refine wpAnyH_done (by kernel_rfl) ?_ _
  obtain ⟨V2, rV2⟩ : ∃ X, X = W7 := ⟨_, rfl⟩
  subst rV2
  have gb0_V2 := row_next2 gb0_V1 hHeld
  have sb0_V2 := row_size gb0_V2
  have gb1_V2 := row_next2 gb1_V1 hHeld
  have sb1_V2 := row_size gb1_V2
  have gn5_V2 := row_next2 gn5_V1 hHeld
  have sn5_V2 := row_size gn5_V2
  have gn6_V2 := row_next2 gn6_V1 hHeld
  have sn6_V2 := row_size gn6_V2
  have hb_V2 := below_next hb_V1 hb_V1.size hHeld
  have hlaV2 := hlaV1.next hHeld
  have hP_V2 := hP_V1.next hHeld
  have gn7_V2 := xG7
  have sn7_V2 := row_size gn7_V2
  clear xG7
  have wG7 : w.heap.size + 2 ≤ G7 := by omega
  have nG5G7 : G5 ≠ G7 := by omega
  have nG6G7 : G6 ≠ G7 := by omega
  clear hHeld hb_V1 hlaV1 sb0_V1 gb0_V1 sb1_V1 gb1_V1 sn5_V1 gn5_V1 sn6_V1 gn6_V1 hP_V1 lG7
  go_upto_region 3 with fail
  refine plain_start (S := fun W' => Below V2.heap.size V2 W') (by kernel_rfl) (Below.refl _ _) (fun hHeld => ?_)
  refine wpAnyH_take (i := 0) (oi := ⟨(some 19), _, _, _, _, _⟩) (v := .slice A n c) rfl (by kernel_rfl) (by kernel_rfl) (by kernel_rfl) (fun _ _ _ h => h) (Or.inl ⟨by rfl, ?y3_0⟩) hHeld ?_
  case y3_0 => (intro W0 hSw; go_simp; try with_reducible rfl)
  try simp only [pu]
  have hcut1 := cut_all Tryd.underlying23 Tryd.sizeByte G6 0 (by decide)
  refine wpAnyH_take (i := 1) (oi := ⟨(some 20), _, _, _, _, _⟩) (v := .slice (some ⟨G6, 0, none⟩) 32 32) rfl (by kernel_rfl) (by kernel_rfl) (by kernel_rfl) (fun _ _ _ h => h) (Or.inl ⟨by rfl, ?y3_1⟩) hHeld ?_
  case y3_1 => (intro W0 hSw; go_simp; try simp only [hcut1]; try with_reducible rfl)
  try simp only [pu]
  clear hcut1
  refine mixX_start (B := V2.heap.size) (al := [⟨2, 21, 24, [Value.slice (some ⟨G6, 0, none⟩) 32 32].toArray, fun g => .slice (some ⟨g, 0, none⟩) 1 1⟩, ⟨4, 8, 23, ((bv z32)).toArray, fun g => .pointer (some ⟨g, 0, none⟩)⟩]) (fuel := 2) rfl hHeld (hHeld.size) ?_
  clear hHeld
  refine mixX_call1 (i := 3) (o := ⟨(some 22), _, _, _, _, _⟩) rfl (by kernel_rfl) (by kernel_rfl) (by kernel_rfl) (by kernel_rfl) (by kernel_rfl) (by kernel_rfl) (by simp) (by simp) (fun x hx => by simp only [List.mem_cons, List.not_mem_nil, or_false] at hx; rcases hx with rfl | rfl <;> first | exact makesX_new rfl (by kernel_rfl) rfl rfl rfl zero_word | exact makesX_list (cells := [Value.slice (some ⟨G6, 0, none⟩) 32 32]) rfl (by kernel_rfl) rfl rfl (by rfl) Tryd.underlying38 [(0, Value.slice (some ⟨G6, 0, none⟩) 32 32)] (by rfl) (bs_one (some ⟨G6, 0, none⟩) 32 32)) (fun W x _ h => h.alloc h.size _) (fun _ _ _ _ _ h => h) (fun g3 X8 hHeld hBX hg hBg K hK => ?_)
  have hL3 := Lst.row1 (l1 := v) hg (byt_row (row_next2 gn6_V2 hHeld)) (hv.out) (Nat.le_refl _)
  clear hg hBg
  try simp only [pu]
  go_simp
  refine (hash_any _ (hlaV2.next hHeld) A (some ⟨g3, 0, none⟩) n c 1 1 ps [v] (hP_V2.next hHeld) hL3 (by rw [flat1, List.length_append, hv.out]; have := Hhbig.out; omega) (by omega)).mono ?_
  rintro e W8 ⟨on, rfl, eO, hon, hb8⟩
  refine hK.out _ _ (below_next hHeld hHeld.size hb8) hb8 ?_
  clear hK K hHeld hBX hb8 hL3
  try simp only [pu]
  refine mixX_end (by kernel_rfl) (by kernel_rfl) (fun _ _ _ _ _ h => h) (by simp) (by simp) (fun x hx => by simp only [List.mem_cons, List.not_mem_nil, or_false] at hx; rcases hx with rfl <;> first | exact makesX_new rfl (by kernel_rfl) rfl rfl rfl zero_word) (fun W x _ h => h.alloc h.size _) (fun D hD W9 hHeld hBX hHo => ?_)
  obtain ⟨G8, rfl⟩ := x_one hD
  have xG8 : Hid (W9.heap[G8]? = some (.cells ((bv z32)).toArray 23 (0, 0))) := hHo.row (⟨4, 8, 23, ((bv z32)).toArray, fun g => .pointer (some ⟨g, 0, none⟩)⟩, G8) (by simp)
  have lG8 : V2.heap.size ≤ G8 := hHo.new (⟨4, 8, 23, ((bv z32)).toArray, fun g => .pointer (some ⟨g, 0, none⟩)⟩, G8) (by simp)
  clear hHo hBX hD
  simp only [markDX, putX, List.foldr_cons, List.foldr_nil, pu, List.setIfInBounds_toArray, List.set_cons_zero, List.set_cons_succ]
  refine wpAnyH_ready (rs := [5]) (by kernel_rfl) (by simp) ?_
  refine AllReadyH.cons (i := 5) (o := ⟨none, _, _, _, _, _⟩) rfl (fun K hK => ?_) AllReadyH.nil
  refine step_row (by rfl) 23 (.tmp 8) (.tmp 22) rfl G8 (bv on) rfl rfl 23 _ xG8.out (by rw [bv_len, hon.out]; kernel_rfl) (by rw [List.size_toArray, bv_len, bv_len, hon.out, z32_len]) (bv_one _) ?_
  intro W10 yG8 kG8
  refine hK.out _ _ (But.below hHeld kG8 lG8 hHeld.size) (fun hHeld => ?_)
  clear hK K kG8 xG8
  have xG8 := yG8
  clear yG8
  try simp only [pu]
  refine wpAnyH_done (by kernel_rfl) ?_ _
  obtain ⟨V3, rV3⟩ : ∃ X, X = W10 := ⟨_, rfl⟩
  subst rV3
  have gb0_V3 := row_next2 gb0_V2 hHeld
  have sb0_V3 := row_size gb0_V3
  have gb1_V3 := row_next2 gb1_V2 hHeld
  have sb1_V3 := row_size gb1_V3
  have gn5_V3 := row_next2 gn5_V2 hHeld
  have sn5_V3 := row_size gn5_V3
  have gn6_V3 := row_next2 gn6_V2 hHeld
  have sn6_V3 := row_size gn6_V3
  have gn7_V3 := row_next2 gn7_V2 hHeld
  have sn7_V3 := row_size gn7_V3
  have hb_V3 := below_next hb_V2 hb_V2.size hHeld
  have hlaV3 := hlaV2.next hHeld
  have hP_V3 := hP_V2.next hHeld
  have gn8_V3 := xG8
  have sn8_V3 := row_size gn8_V3
  clear xG8
  have wG8 : w.heap.size + 2 ≤ G8 := by omega
  have nG5G8 : G5 ≠ G8 := by omega
  have nG6G8 : G6 ≠ G8 := by omega
  have nG7G8 : G7 ≠ G8 := by omega
  clear hHeld hb_V2 hlaV2 sb0_V2 gb0_V2 sb1_V2 gb1_V2 sn5_V2 gn5_V2 sn6_V2 gn6_V2 sn7_V2 gn7_V2 hP_V2 lG8
  go_upto_region 4 with fail
  refine plain_start (S := fun W' => Below V3.heap.size V3 W') (by kernel_rfl) (Below.refl _ _) (fun hHeld => ?_)
  refine wpAnyH_take (i := 0) (oi := ⟨(some 23), _, _, _, _, _⟩) (v := _) rfl (by kernel_rfl) (by kernel_rfl) (by kernel_rfl) (fun _ _ _ h => h) (yieldsIf_load_mid (by rfl) _ _ rfl G8 0 rfl (bv on) _ (fun W' hW' => range_row ((hW'.block _ sn8_V3).trans gn8_V3.out)) (Tryd.underlying23) rfl (by rw [bv_len, hon.out]; kernel_rfl)) hHeld ?_
  try simp only [pu]
  refine mixX_start (B := V3.heap.size) (al := [⟨2, 9, 23, ((bv z32)).toArray, fun g => .pointer (some ⟨g, 0, none⟩)⟩]) (fuel := 2) rfl hHeld (hHeld.size) ?_
  clear hHeld
  refine mixX_call (i := 1) (o := ⟨(some 24), _, _, _, _, _⟩) rfl (by kernel_rfl) (by kernel_rfl) (by kernel_rfl) (by kernel_rfl) (by simp) (by simp) (fun x hx => by simp only [List.mem_cons, List.not_mem_nil, or_false] at hx; rcases hx with rfl <;> first | exact makesX_new rfl (by kernel_rfl) rfl rfl rfl zero_word) (fun W x _ h => h.alloc h.size _) (fun _ _ _ _ _ h => h) (fun X11 hHeld hBX K hK => ?_)
  try simp only [pu]
  go_simp
  refine (ofBase_any _ (hlaV3.next hHeld) on hon.out).mono ?_
  rintro e W11 ⟨fi, rfl, eF, hfi, hb11⟩
  refine hK.out _ _ (below_next hHeld hHeld.size hb11) hb11 ?_
  clear hK K hHeld hBX hb11
  try simp only [pu]
  refine mixX_end (by kernel_rfl) (by kernel_rfl) (fun _ _ _ _ _ h => h) (by simp) (by simp) (fun x hx => by simp only [List.mem_cons, List.not_mem_nil, or_false] at hx; rcases hx with rfl <;> first | exact makesX_new rfl (by kernel_rfl) rfl rfl rfl zero_word) (fun W x _ h => h.alloc h.size _) (fun D hD W12 hHeld hBX hHo => ?_)
  obtain ⟨G9, rfl⟩ := x_one hD
  have xG9 : Hid (W12.heap[G9]? = some (.cells ((bv z32)).toArray 23 (0, 0))) := hHo.row (⟨2, 9, 23, ((bv z32)).toArray, fun g => .pointer (some ⟨g, 0, none⟩)⟩, G9) (by simp)
  have lG9 : V3.heap.size ≤ G9 := hHo.new (⟨2, 9, 23, ((bv z32)).toArray, fun g => .pointer (some ⟨g, 0, none⟩)⟩, G9) (by simp)
  clear hHo hBX hD
  simp only [markDX, putX, List.foldr_cons, List.foldr_nil, pu, List.setIfInBounds_toArray, List.set_cons_zero, List.set_cons_succ]
  refine wpAnyH_ready (rs := [3]) (by kernel_rfl) (by simp) ?_
  refine AllReadyH.cons (i := 3) (o := ⟨none, _, _, _, _, _⟩) rfl (fun K hK => ?_) AllReadyH.nil
  refine step_row (by rfl) 23 (.tmp 9) (.tmp 24) rfl G9 (bv fi) rfl rfl 23 _ xG9.out (by rw [bv_len, hfi.out]; kernel_rfl) (by rw [List.size_toArray, bv_len, bv_len, hfi.out, z32_len]) (bv_one _) ?_
  intro W13 yG9 kG9
  refine hK.out _ _ (But.below hHeld kG9 lG9 hHeld.size) (fun hHeld => ?_)
  clear hK K kG9 xG9
  have xG9 := yG9
  clear yG9
  try simp only [pu]
  refine wpAnyH_done (by kernel_rfl) ?_ _
  obtain ⟨V4, rV4⟩ : ∃ X, X = W13 := ⟨_, rfl⟩
  subst rV4
  have gb0_V4 := row_next2 gb0_V3 hHeld
  have sb0_V4 := row_size gb0_V4
  have gb1_V4 := row_next2 gb1_V3 hHeld
  have sb1_V4 := row_size gb1_V4
  have gn5_V4 := row_next2 gn5_V3 hHeld
  have sn5_V4 := row_size gn5_V4
  have gn6_V4 := row_next2 gn6_V3 hHeld
  have sn6_V4 := row_size gn6_V4
  have gn7_V4 := row_next2 gn7_V3 hHeld
  have sn7_V4 := row_size gn7_V4
  have gn8_V4 := row_next2 gn8_V3 hHeld
  have sn8_V4 := row_size gn8_V4
  have hb_V4 := below_next hb_V3 hb_V3.size hHeld
  have hlaV4 := hlaV3.next hHeld
  have hP_V4 := hP_V3.next hHeld
  have gn9_V4 := xG9
  have sn9_V4 := row_size gn9_V4
  clear xG9
  have wG9 : w.heap.size + 2 ≤ G9 := by omega
  have nG5G9 : G5 ≠ G9 := by omega
  have nG6G9 : G6 ≠ G9 := by omega
  have nG7G9 : G7 ≠ G9 := by omega
  have nG8G9 : G8 ≠ G9 := by omega
  clear hHeld hb_V3 hlaV3 sb0_V3 gb0_V3 sb1_V3 gb1_V3 sn5_V3 gn5_V3 sn6_V3 gn6_V3 sn7_V3 gn7_V3 sn8_V3 gn8_V3 hP_V3 lG9
  go_upto_region 5 with fail
  refine wp_region_held_drew (S := fun W' => Below V4.heap.size V4 W') (by kernel_rfl) ((Below.refl _ _).drew) (fun hHeld => ?_)
  refine wpAnyH_take (i := 0) (oi := ⟨(some 25), _, _, _, _, _⟩) (v := _) rfl (by kernel_rfl) (by kernel_rfl) (by kernel_rfl) (fun _ _ _ h => h) (yieldsIf_load_mid (by rfl) _ _ rfl G8 0 rfl (bv on) _ (fun W' hW' => range_row ((hW'.block _ sn8_V4).trans gn8_V4.out)) (Tryd.underlying23) rfl (by rw [bv_len, hon.out]; kernel_rfl)) hHeld ?_
  try simp only [pu]
  refine wpAnyH_take (i := 1) (oi := ⟨(some 26), _, _, _, _, _⟩) (v := .slice A n c) rfl (by kernel_rfl) (by kernel_rfl) (by kernel_rfl) (fun _ _ _ h => h) (Or.inl ⟨by rfl, ?y5_1⟩) hHeld ?_
  case y5_1 => (intro W0 hSw; go_simp; try with_reducible rfl)
  try simp only [pu]
  have hcut2 := cut_all Tryd.underlying23 Tryd.sizeByte G9 0 (by decide)
  refine wpAnyH_take (i := 2) (oi := ⟨(some 27), _, _, _, _, _⟩) (v := .slice (some ⟨G9, 0, none⟩) 32 32) rfl (by kernel_rfl) (by kernel_rfl) (by kernel_rfl) (fun _ _ _ h => h) (Or.inl ⟨by rfl, ?y5_2⟩) hHeld ?_
  case y5_2 => (intro W0 hSw; go_simp; try simp only [hcut2]; try with_reducible rfl)
  try simp only [pu]
  clear hcut2
  have hcut3 := cut_all Tryd.underlying23 Tryd.sizeByte G7 0 (by decide)
  refine wpAnyH_take (i := 3) (oi := ⟨(some 28), _, _, _, _, _⟩) (v := .slice (some ⟨G7, 0, none⟩) 32 32) rfl (by kernel_rfl) (by kernel_rfl) (by kernel_rfl) (fun _ _ _ h => h) (Or.inl ⟨by rfl, ?y5_3⟩) hHeld ?_
  case y5_3 => (intro W0 hSw; go_simp; try simp only [hcut3]; try with_reducible rfl)
  try simp only [pu]
  clear hcut3
  refine wpAnyH_take (i := 6) (oi := ⟨(some 31), _, _, _, _, _⟩) (v := _) rfl (by kernel_rfl) (by kernel_rfl) (by kernel_rfl) (fun _ _ _ h => h) (yieldsIf_load_mid (by rfl) _ _ rfl G5 0 rfl (bv u) _ (fun W' hW' => range_row ((hW'.block _ sn5_V4).trans gn5_V4.out)) (Tryd.underlying23) rfl (by rw [bv_len, hu.out]; kernel_rfl)) hHeld ?_
  try simp only [pu]
  refine mixX_start (B := V4.heap.size) (al := [⟨4, 29, 24, [Value.slice (some ⟨G9, 0, none⟩) 32 32, Value.slice (some ⟨G7, 0, none⟩) 32 32].toArray, fun g => .slice (some ⟨g, 0, none⟩) 2 2⟩, ⟨9, 10, 23, ((bv z32)).toArray, fun g => .pointer (some ⟨g, 0, none⟩)⟩]) (fuel := 4) rfl hHeld (hHeld.size) ?_
  clear hHeld
  refine mixX_call1 (i := 5) (o := ⟨(some 30), _, _, _, _, _⟩) rfl (by kernel_rfl) (by kernel_rfl) (by kernel_rfl) (by kernel_rfl) (by kernel_rfl) (by kernel_rfl) (by simp) (by simp) (fun x hx => by simp only [List.mem_cons, List.not_mem_nil, or_false] at hx; rcases hx with rfl | rfl <;> first | exact makesX_new rfl (by kernel_rfl) rfl rfl rfl zero_word | exact makesX_list (cells := [Value.slice (some ⟨G9, 0, none⟩) 32 32, Value.slice (some ⟨G7, 0, none⟩) 32 32]) rfl (by kernel_rfl) rfl rfl (by rfl) Tryd.underlying38 [(0, Value.slice (some ⟨G9, 0, none⟩) 32 32), (1, Value.slice (some ⟨G7, 0, none⟩) 32 32)] (by rfl) (bs_two (some ⟨G9, 0, none⟩) (some ⟨G7, 0, none⟩) 32 32 32 32)) (fun W x _ h => h.alloc h.size _) (fun _ _ _ _ _ h => h) (fun g5 X14 hHeld hBX hg hBg K hK => ?_)
  have hL5 := Lst.row2 (l1 := fi) (l2 := pb) hg (byt_row (row_next2 gn9_V4 hHeld)) (hfi.out) (Nat.le_refl _) (byt_row (row_next2 gn7_V4 hHeld)) (hpb.out) (Nat.le_refl _)
  clear hg hBg
  try simp only [pu]
  go_simp
  refine (hash_any _ (hlaV4.next hHeld) A (some ⟨g5, 0, none⟩) n c 2 2 ps [fi, pb] (hP_V4.next hHeld) hL5 (by rw [flat2, List.length_append, List.length_append, hfi.out, hpb.out]; have := Hhbig.out; omega) (by omega)).mono ?_
  rintro e W14 ⟨hh, rfl, eH, hhh, hb14⟩
  refine hK.out _ _ (below_next hHeld hHeld.size hb14) hb14 ?_
  clear hK K hHeld hBX hb14 hL5
  try simp only [pu]
  refine mixX_call (i := 7) (o := ⟨(some 32), _, _, _, _, _⟩) rfl (by kernel_rfl) (by kernel_rfl) (by kernel_rfl) (by kernel_rfl) (by simp) (by simp) (fun x hx => by simp only [List.mem_cons, List.not_mem_nil, or_false] at hx; rcases hx with rfl <;> first | exact makesX_new rfl (by kernel_rfl) rfl rfl rfl zero_word) (fun W x _ h => h.alloc h.size _) (fun _ _ _ _ _ h => h) (fun X15 hHeld hBX K hK => ?_)
  try simp only [pu]
  go_simp
  refine (lmul_any _ (hlaV4.next hHeld).o hh u hhh.out hu.out).mono ?_
  rintro e W15 ⟨mm, rfl, eM, hmm, hb15⟩
  refine hK.out _ _ (below_next hHeld hHeld.size hb15) hb15 ?_
  clear hK K hHeld hBX hb15
  try simp only [pu]
  refine mixX_call (i := 8) (o := ⟨(some 33), _, _, _, _, _⟩) rfl (by kernel_rfl) (by kernel_rfl) (by kernel_rfl) (by kernel_rfl) (by simp) (by simp) (fun x hx => by simp only [List.mem_cons, List.not_mem_nil, or_false] at hx; rcases hx with rfl <;> first | exact makesX_new rfl (by kernel_rfl) rfl rfl rfl zero_word) (fun W x _ h => h.alloc h.size _) (fun _ _ _ _ _ h => h) (fun X16 hHeld hBX K hK => ?_)
  try simp only [pu]
  go_simp
  refine (ladd_any _ (hlaV4.next hHeld).o on mm hon.out hmm.out).mono ?_
  rintro e W16 ⟨se, rfl, eA, hse, hb16⟩
  refine hK.out _ _ (below_next hHeld hHeld.size hb16) hb16 ?_
  clear hK K hHeld hBX hb16
  try simp only [pu]
  refine mixX_end (by kernel_rfl) (by kernel_rfl) (fun _ _ _ _ _ h => h) (by simp) (by simp) (fun x hx => by simp only [List.mem_cons, List.not_mem_nil, or_false] at hx; rcases hx with rfl <;> first | exact makesX_new rfl (by kernel_rfl) rfl rfl rfl zero_word) (fun W x _ h => h.alloc h.size _) (fun D hD W17 hHeld hBX hHo => ?_)
  obtain ⟨G10, rfl⟩ := x_one hD
  have xG10 : Hid (W17.heap[G10]? = some (.cells ((bv z32)).toArray 23 (0, 0))) := hHo.row (⟨9, 10, 23, ((bv z32)).toArray, fun g => .pointer (some ⟨g, 0, none⟩)⟩, G10) (by simp)
  have lG10 : V4.heap.size ≤ G10 := hHo.new (⟨9, 10, 23, ((bv z32)).toArray, fun g => .pointer (some ⟨g, 0, none⟩)⟩, G10) (by simp)
  clear hHo hBX hD
  simp only [markDX, putX, List.foldr_cons, List.foldr_nil, pu, List.setIfInBounds_toArray, List.set_cons_zero, List.set_cons_succ]
  refine wpAnyH_ready (rs := [10]) (by kernel_rfl) (by simp) ?_
  refine AllReadyH.cons (i := 10) (o := ⟨none, _, _, _, _, _⟩) rfl (fun K hK => ?_) AllReadyH.nil
  refine step_row (by rfl) 23 (.tmp 10) (.tmp 33) rfl G10 (bv se) rfl rfl 23 _ xG10.out (by rw [bv_len, hse.out]; kernel_rfl) (by rw [List.size_toArray, bv_len, bv_len, hse.out, z32_len]) (bv_one _) ?_
  intro W18 yG10 kG10
  refine hK.out _ _ (But.below hHeld kG10 lG10 hHeld.size) (fun hHeld => ?_)
  clear hK K kG10 xG10
  have xG10 := yG10
  clear yG10
  try simp only [pu]
  refine wpAnyH_done (by kernel_rfl) ?_ _
  obtain ⟨V5, rV5⟩ : ∃ X, X = W18 := ⟨_, rfl⟩
  subst rV5
  have gb0_V5 := row_next2 gb0_V4 hHeld
  have sb0_V5 := row_size gb0_V5
  have gb1_V5 := row_next2 gb1_V4 hHeld
  have sb1_V5 := row_size gb1_V5
  have gn5_V5 := row_next2 gn5_V4 hHeld
  have sn5_V5 := row_size gn5_V5
  have gn6_V5 := row_next2 gn6_V4 hHeld
  have sn6_V5 := row_size gn6_V5
  have gn7_V5 := row_next2 gn7_V4 hHeld
  have sn7_V5 := row_size gn7_V5
  have gn8_V5 := row_next2 gn8_V4 hHeld
  have sn8_V5 := row_size gn8_V5
  have gn9_V5 := row_next2 gn9_V4 hHeld
  have sn9_V5 := row_size gn9_V5
  have hb_V5 := below_next hb_V4 hb_V4.size hHeld
  have hlaV5 := hlaV4.next hHeld
  have hP_V5 := hP_V4.next hHeld
  have gn10_V5 := xG10
  have sn10_V5 := row_size gn10_V5
  clear xG10
  have wG10 : w.heap.size + 2 ≤ G10 := by omega
  have nG5G10 : G5 ≠ G10 := by omega
  have nG6G10 : G6 ≠ G10 := by omega
  have nG7G10 : G7 ≠ G10 := by omega
  have nG8G10 : G8 ≠ G10 := by omega
  have nG9G10 : G9 ≠ G10 := by omega
  clear hHeld hb_V4 hlaV4 sb0_V4 gb0_V4 sb1_V4 gb1_V4 sn5_V4 gn5_V4 sn6_V4 gn6_V4 sn7_V4 gn7_V4 sn8_V4 gn8_V4 sn9_V4 gn9_V4 hP_V4 lG10
  have HE := vlt (show fi = halfL s ps.flatten ∧ se = restL s ps.flatten from by
    have e1 : on = onceL s ps.flatten := by rw [eO.out, hsh_is, flat1, eS.out.2]; rfl
    have e2 : fi = halfL s ps.flatten := by rw [eF.out, e1]; rfl
    have e3 : pb = pubL s := by rw [eP.out, eS.out.1]; rfl
    exact ⟨e2, by rw [eA.out, eM.out, eH.out, hsh_is, flat2, e1, e2, e3, eS.out.1]; rfl⟩)
  clear eS eP eO eF eH eM eA
  clear hP_V5
  go_upto_region 6 with fail
  refine plain_start (S := fun W' => Below V5.heap.size V5 W') (by kernel_rfl) (Below.refl _ _) (fun hHeld => ?_)
  refine mixX_start (B := V5.heap.size) (al := [⟨0, 11, 28, ((bv z64)).toArray, fun g => .pointer (some ⟨g, 0, none⟩)⟩]) (fuel := 0) rfl hHeld (hHeld.size) ?_
  clear hHeld
  refine mixX_end (by kernel_rfl) (by kernel_rfl) (fun _ _ _ _ _ h => h) (by simp) (by simp) (fun x hx => by simp only [List.mem_cons, List.not_mem_nil, or_false] at hx; rcases hx with rfl <;> first | exact makesX_new rfl (by kernel_rfl) rfl rfl rfl zero_sig) (fun W x _ h => h.alloc h.size _) (fun D hD W19 hHeld hBX hHo => ?_)
  obtain ⟨G11, rfl⟩ := x_one hD
  have xG11 : Hid (W19.heap[G11]? = some (.cells ((bv z64)).toArray 28 (0, 0))) := hHo.row (⟨0, 11, 28, ((bv z64)).toArray, fun g => .pointer (some ⟨g, 0, none⟩)⟩, G11) (by simp)
  have lG11 : V5.heap.size ≤ G11 := hHo.new (⟨0, 11, 28, ((bv z64)).toArray, fun g => .pointer (some ⟨g, 0, none⟩)⟩, G11) (by simp)
  clear hHo hBX hD
  simp only [markDX, putX, List.foldr_cons, List.foldr_nil, pu, List.setIfInBounds_toArray, List.set_cons_zero, List.set_cons_succ]
  refine wpAnyH_done (by kernel_rfl) ?_ _
  obtain ⟨V6, rV6⟩ : ∃ X, X = W19 := ⟨_, rfl⟩
  subst rV6
  have gb0_V6 := row_next2 gb0_V5 hHeld
  have sb0_V6 := row_size gb0_V6
  have gb1_V6 := row_next2 gb1_V5 hHeld
  have sb1_V6 := row_size gb1_V6
  have gn5_V6 := row_next2 gn5_V5 hHeld
  have sn5_V6 := row_size gn5_V6
  have gn6_V6 := row_next2 gn6_V5 hHeld
  have sn6_V6 := row_size gn6_V6
  have gn7_V6 := row_next2 gn7_V5 hHeld
  have sn7_V6 := row_size gn7_V6
  have gn8_V6 := row_next2 gn8_V5 hHeld
  have sn8_V6 := row_size gn8_V6
  have gn9_V6 := row_next2 gn9_V5 hHeld
  have sn9_V6 := row_size gn9_V6
  have gn10_V6 := row_next2 gn10_V5 hHeld
  have sn10_V6 := row_size gn10_V6
  have hb_V6 := below_next hb_V5 hb_V5.size hHeld
  have hlaV6 := hlaV5.next hHeld
  have gn11_V6 := xG11
  have sn11_V6 := row_size gn11_V6
  clear xG11
  have wG11 : w.heap.size + 2 ≤ G11 := by omega
  have nG5G11 : G5 ≠ G11 := by omega
  have nG6G11 : G6 ≠ G11 := by omega
  have nG7G11 : G7 ≠ G11 := by omega
  have nG8G11 : G8 ≠ G11 := by omega
  have nG9G11 : G9 ≠ G11 := by omega
  have nG10G11 : G10 ≠ G11 := by omega
  clear hHeld hb_V5 hlaV5 sb0_V5 gb0_V5 sb1_V5 gb1_V5 sn5_V5 gn5_V5 sn6_V5 gn6_V5 sn7_V5 gn7_V5 sn8_V5 gn8_V5 sn9_V5 gn9_V5 sn10_V5 gn10_V5 lG11
  go_upto_region 7 with fail
  have hcd := cut_all Tryd.underlying28 Tryd.sizeByte G11 0 (by decide)
  have hcs := cut_all Tryd.underlying23 Tryd.sizeByte G9 0 (by decide)
  have hsrc := byt_row gn9_V6.out
  go_region_law ((refine step_copy_but rfl (.tmp 34) (.tmp 35) 24 rfl 5 Tryd.underlying24 Tryd.sizeByte G11 0 64 64 32 32 (some ⟨G9, 0, none⟩) (by rfl) (by rfl) (bv z64) 28 gn11_V6.out fi V6.heap.size hsrc (hfi.out) (by decide) (by rw [bv_len, z64_len]; decide) V6 (But.refl _ V6).drew ?_; intro V7 hgk hbk))
  obtain ⟨q, dq⟩ : ∃ l, l = z64.take 0 ++ (fi ++ z64.drop (0 + 32)) := ⟨_, rfl⟩
  have gn11_V7 : Hid (V7.heap[G11]? = some (.cells (bv q).toArray 28 (0, 0))) := by
    have h1 := hgk.out
    rw [List.take_of_length_le (show fi.length ≤ 64 by rw [hfi.out]; decide), splice_bv, hfi.out, ← dq] at h1
    exact h1
  have hq := Lib.hid (show q.length = 64 by rw [dq]; simp [z64_len, hfi.out])
  have HQ := vlt (show q = fi ++ z32 by rw [dq]; rfl)
  clear dq
  have sn11_V7 := row_size gn11_V7
  have gb0_V7 := row_but gb0_V6 hbk (by omega)
  have sb0_V7 := row_size gb0_V7
  have gb1_V7 := row_but gb1_V6 hbk (by omega)
  have sb1_V7 := row_size gb1_V7
  have gn5_V7 := row_but gn5_V6 hbk (by omega)
  have sn5_V7 := row_size gn5_V7
  have gn6_V7 := row_but gn6_V6 hbk (by omega)
  have sn6_V7 := row_size gn6_V7
  have gn7_V7 := row_but gn7_V6 hbk (by omega)
  have sn7_V7 := row_size gn7_V7
  have gn8_V7 := row_but gn8_V6 hbk (by omega)
  have sn8_V7 := row_size gn8_V7
  have gn9_V7 := row_but gn9_V6 hbk (by omega)
  have sn9_V7 := row_size gn9_V7
  have gn10_V7 := row_but gn10_V6 hbk (by omega)
  have sn10_V7 := row_size gn10_V7
  have hb_V7 := But.below hb_V6 hbk (by omega) hb_V6.size
  have hlaV7 := hlaV6.but (hHG.up (by omega)) hbk
  clear hgk hbk hcd hcs hsrc hb_V6 hlaV6 sb0_V6 gb0_V6 sb1_V6 gb1_V6 sn5_V6 gn5_V6 sn6_V6 gn6_V6 sn7_V6 gn7_V6 sn8_V6 gn8_V6 sn9_V6 gn9_V6 sn10_V6 gn10_V6 sn11_V6 gn11_V6 
  go_upto_region 8 with fail
  have hcd := cut_l Tryd.underlying28 Tryd.sizeByte G11 0 32 32 rfl (by decide)
  have hcs := cut_all Tryd.underlying23 Tryd.sizeByte G10 0 (by decide)
  have hsrc := byt_row gn10_V7.out
  go_region_law ((refine step_copy_but rfl (.tmp 37) (.tmp 38) 24 rfl 5 Tryd.underlying24 Tryd.sizeByte G11 32 32 32 32 32 (some ⟨G10, 0, none⟩) (by rfl) (by rfl) (bv q) 28 gn11_V7.out se V7.heap.size hsrc (hse.out) (by decide) (by rw [bv_len, hq.out]; decide) V7 (But.refl _ V7).drew ?_; intro V8 hgk hbk))
  obtain ⟨r, dr⟩ : ∃ l, l = q.take 32 ++ (se ++ q.drop (32 + 32)) := ⟨_, rfl⟩
  have gn11_V8 : Hid (V8.heap[G11]? = some (.cells (bv r).toArray 28 (0, 0))) := by
    have h1 := hgk.out
    rw [List.take_of_length_le (show se.length ≤ 32 by rw [hse.out]; decide), splice_bv, hse.out, ← dr] at h1
    exact h1
  have hr := Lib.hid (show r.length = 64 by rw [dr]; simp [hq.out, hse.out])
  have HR := vlt (show r = signL s ps.flatten by rw [dr, HQ.out, List.take_left' hfi.out, List.drop_eq_nil_of_le (show (fi ++ z32).length ≤ 32 + 32 by rw [List.length_append, hfi.out]; decide), List.append_nil, HE.out.1, HE.out.2]; rfl)
  clear dr
  have sn11_V8 := row_size gn11_V8
  have gb0_V8 := row_but gb0_V7 hbk (by omega)
  have sb0_V8 := row_size gb0_V8
  have gb1_V8 := row_but gb1_V7 hbk (by omega)
  have sb1_V8 := row_size gb1_V8
  have gn5_V8 := row_but gn5_V7 hbk (by omega)
  have sn5_V8 := row_size gn5_V8
  have gn6_V8 := row_but gn6_V7 hbk (by omega)
  have sn6_V8 := row_size gn6_V8
  have gn7_V8 := row_but gn7_V7 hbk (by omega)
  have sn7_V8 := row_size gn7_V8
  have gn8_V8 := row_but gn8_V7 hbk (by omega)
  have sn8_V8 := row_size gn8_V8
  have gn9_V8 := row_but gn9_V7 hbk (by omega)
  have sn9_V8 := row_size gn9_V8
  have gn10_V8 := row_but gn10_V7 hbk (by omega)
  have sn10_V8 := row_size gn10_V8
  have hb_V8 := But.below hb_V7 hbk (by omega) hb_V7.size
  have hlaV8 := hlaV7.but (hHG.up (by omega)) hbk
  clear hgk hbk hcd hcs hsrc hb_V7 hlaV7 sb0_V7 gb0_V7 sb1_V7 gb1_V7 sn5_V7 gn5_V7 sn6_V7 gn6_V7 sn7_V7 gn7_V7 sn8_V7 gn8_V7 sn9_V7 gn9_V7 sn10_V7 gn10_V7 sn11_V7 gn11_V7 
  go_upto_region 9 with fail
  refine plain_start_c (S := fun W' => Below V8.heap.size V8 W') 1 (by kernel_rfl) (Below.refl _ _) (fun hHeld => ?_)
  refine c_read (i := 0) (oi := ⟨(some 40), _, _, _, _, _⟩) (v := _) rfl (by decide) (by kernel_rfl) (by kernel_rfl) (by kernel_rfl) (by kernel_rfl) (by kernel_rfl) (fun _ _ _ h => h) (yieldsIf_load_mid (by rfl) _ _ rfl G11 0 rfl (bv r) _ (fun W' hW' => range_row ((hW'.block _ sn11_V8).trans gn11_V8.out)) (Tryd.underlying28) rfl (by rw [bv_len, hr.out]; kernel_rfl)) hHeld ?_
  try simp only [pu]
  refine c_call (S' := fun _ => True) (o := ⟨none, _, _, _, _, _⟩) (by kernel_rfl) (by kernel_rfl) rfl (fun K hK => ?_)
  have cb0_0 := row_next2 gb0_V8 hHeld
  have cb1_0 := row_next2 gb1_V8 hHeld
  have cn5_0 := row_next2 gn5_V8 hHeld
  have cn6_0 := row_next2 gn6_V8 hHeld
  have cn7_0 := row_next2 gn7_V8 hHeld
  have cn8_0 := row_next2 gn8_V8 hHeld
  have cn9_0 := row_next2 gn9_V8 hHeld
  have cn10_0 := row_next2 gn10_V8 hHeld
  have cn11_0 := row_next2 gn11_V8 hHeld
  have cb_0 := below_next hb_V8 hb_V8.size hHeld
  have cl_0 := hlaV8.next hHeld
  clear hHeld
  refine step_row (by rfl) 28 (.tmp 4) (.tmp 40) rfl (w.heap.size + 1) (bv r) rfl rfl 28 _ cb1_0.out (by rw [bv_len, hr.out]; kernel_rfl) (by rw [List.size_toArray, bv_len, z64_len, bv_len, hr.out]) (bv_one _) ?_
  intro W20 cb1_1 kR
  refine hK.out _ _ trivial (fun hHeld => ?_)
  have cb0_1 := row_but cb0_0 kR (by omega)
  have cn5_1 := row_but cn5_0 kR (by omega)
  have cn6_1 := row_but cn6_0 kR (by omega)
  have cn7_1 := row_but cn7_0 kR (by omega)
  have cn8_1 := row_but cn8_0 kR (by omega)
  have cn9_1 := row_but cn9_0 kR (by omega)
  have cn10_1 := row_but cn10_0 kR (by omega)
  have cn11_1 := row_but cn11_0 kR (by omega)
  have cb_1 := But.below cb_0 kR (by omega) cb_0.size
  have cl_1 := cl_0.but (hHG.up (by omega)) kR
  clear hK K kR cb_0 cb0_0 cb1_0 cn5_0 cn6_0 cn7_0 cn8_0 cn9_0 cn10_0 cn11_0 cl_0
  try simp only [pu]
  refine wpAnyH_done (by kernel_rfl) ?_ _
  obtain ⟨V9, rV9⟩ : ∃ X, X = W20 := ⟨_, rfl⟩
  subst rV9
  have gb0_V9 := cb0_1
  have sb0_V9 := row_size gb0_V9
  have gb1_V9 := cb1_1
  have sb1_V9 := row_size gb1_V9
  have gn5_V9 := cn5_1
  have sn5_V9 := row_size gn5_V9
  have gn6_V9 := cn6_1
  have sn6_V9 := row_size gn6_V9
  have gn7_V9 := cn7_1
  have sn7_V9 := row_size gn7_V9
  have gn8_V9 := cn8_1
  have sn8_V9 := row_size gn8_V9
  have gn9_V9 := cn9_1
  have sn9_V9 := row_size gn9_V9
  have gn10_V9 := cn10_1
  have sn10_V9 := row_size gn10_V9
  have gn11_V9 := cn11_1
  have sn11_V9 := row_size gn11_V9
  have hb_V9 := cb_1
  have hlaV9 := cl_1
  clear hHeld cb_1 hb_V8 cl_1 hlaV8 cb0_1 cb1_1 cn5_1 cn6_1 cn7_1 cn8_1 cn9_1 cn10_1 cn11_1 sb0_V8 sb1_V8 sn5_V8 sn6_V8 sn7_V8 sn8_V8 sn9_V8 sn10_V8 sn11_V8 gb0_V8 gb1_V8 gn5_V8 gn6_V8 gn7_V8 gn8_V8 gn9_V8 gn10_V8 gn11_V8
  go_wp2_with fail
  refine bodyPost_ret (v := .agg (bv r).toArray) (results_cell_row Tryd.results8 _ _ (w.heap.size + 1) 28 _ (0, 0) _ rfl gb1_V9.out Tryd.underlying28 rfl (by rw [List.size_toArray, bv_len, hr.out]; kernel_rfl)) rfl ⟨r, rfl, HR, hr, hb_V9⟩
end Go.Proofs.YtcefdcjpddohaaaDoor
