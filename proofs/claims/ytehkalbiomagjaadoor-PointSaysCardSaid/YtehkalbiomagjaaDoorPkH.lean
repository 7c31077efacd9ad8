/-
  Words and contracts that other texts share, several in one text. No statement of the seat is proved here. Conditions: as each contract says.
  PointSays: words. No statement is proved here. Conditions: none.
  PointSays in one of three cases: the first bytes are no point. Conditions: the packages' own numbers lie as the program's text lays them.
  PointSays in one of three cases: the second alone are none. Conditions: the packages' own numbers lie as the program's text lays them.
  PointSays in one of three cases: both are points. Conditions: the packages' own numbers lie as the program's text lays them.
-/
import Derived.Test.YtehkalbiomagjaaDoorPkE
import Derived.Test.YtehkalbiomagjaaDoorPkG
namespace Go.Proofs.YtehkalbiomagjaaDoor
open Go.RowKit

theorem says_all {a b n : List UInt8} {p1 p2 q1 q2 m1 m2 x y x2 y2 : List UInt8} {k1 k2 k3 k4 : Int} {o1 o2 o3 o4 : Bool}
    (hA : AdIs a b p1 k1) (hRA : RAd a b p2 o1) (hN : NgIs a q1 k2) (hRN : RNg a q2 o2) (hM : MuIs (ln n) a m1 k3) (hRM : RMu (ln n) a m2 o3) (hT : AtIs a x y k4) (hRT : RAt a x2 y2 o4) :
    ∃ o p, PtIs a o ∧ PtIs b p ∧ p1 = p2 ∧ k1 = Go.Proofs.YtehkalbiomagjaaDoor.k1 (o.isSome && p.isSome) ∧ o1 = (o.isSome && p.isSome) ∧ q1 = q2 ∧ k2 = Go.Proofs.YtehkalbiomagjaaDoor.k1 o.isSome ∧ o2 = o.isSome ∧ m1 = m2 ∧ k3 = Go.Proofs.YtehkalbiomagjaaDoor.k1 o.isSome ∧ o3 = o.isSome ∧ x = x2 ∧ y = y2 ∧ k4 = Go.Proofs.YtehkalbiomagjaaDoor.k1 o.isSome ∧ o4 = o.isSome := by
  obtain ⟨o, p, ho, hp, h1, h2⟩ := hA
  obtain ⟨o', p', ho', hp', h1', h2'⟩ := hRA
  obtain rfl := ptIs_only ho ho'
  obtain rfl := ptIs_only hp hp'
  obtain ⟨_, g, h3, h4⟩ := hN
  obtain rfl := ptIs_only ho g
  obtain ⟨_, g, h3', h4'⟩ := hRN
  obtain rfl := ptIs_only ho g
  obtain ⟨_, g, h5, h6⟩ := hM
  obtain rfl := ptIs_only ho g
  obtain ⟨_, g, h5', h6'⟩ := hRM
  obtain rfl := ptIs_only ho g
  obtain ⟨_, g, h7, h8, h9⟩ := hT
  obtain rfl := ptIs_only ho g
  obtain ⟨_, g, h7', h8', h9'⟩ := hRT
  obtain rfl := ptIs_only ho g
  exact ⟨o, p, ho, hp, h1.trans h1'.symm, h2, h2', h3.trans h3'.symm, h4, h4', h5.trans h5'.symm, h6, h6', h7.trans h7'.symm, h8.trans h8'.symm, h9, h9'⟩
theorem good_as {a : List UInt8} {ok : Bool} {o : Option PtE} (h : GdIs a ok) (ho : PtIs a o) : ok = o.isSome := by
  obtain ⟨_, g, hk⟩ := h
  obtain rfl := ptIs_only ho g
  exact hk
theorem pt_ex (a : List UInt8) : ∃ o, PtIs a o := by
  by_cases h : ∃ P, OnP P ∧ encE P = a
  · obtain ⟨P, h⟩ := h; exact ⟨some P, h⟩
  · exact ⟨none, fun P h1 h2 => h ⟨P, h1, h2⟩⟩
section
variable {P : Program} {ops : Array Oper} {Q : Exit → Act → World → Prop} {rest : List Oper} {o : Oper} {a : Act} {w : World}
theorem wpl_take {v : Value} (hw : Region.wanted o (yielded ops a.tmps) = true) (hy : (execOp a.eval o).run P w = .ok (.value v) w) (h : wpList P ops Q rest (a.put o.dst v) w) : wpList P ops Q (o :: rest) a w := by
  refine wpList_wanted hw fun K hK => ?_
  unfold Oper.wp
  rw [hy, Oper.upon_value]
  exact hK _ _ h
theorem wpl_skip (hw : Region.wanted o (yielded ops a.tmps) = false) (h : wpList P ops Q rest (a.put o.dst undef) w) : wpList P ops Q (o :: rest) a w := by
  unfold wpList
  rw [if_neg (by rw [hw]; exact Bool.false_ne_true)]
  exact h
theorem wpl_call (hw : Region.wanted o (yielded ops a.tmps) = true) (h : ∀ K : Act → World → Prop, Shut (∀ a w, wpList P ops Q rest a w → K a w) → o.wp P a w K Q) : wpList P ops Q (o :: rest) a w := wpList_wanted hw h
theorem wpl_nil (h : Q .normal a w) : wpList P ops Q [] a w := h
end
end Go.Proofs.YtehkalbiomagjaaDoor
namespace Go.Proofs.YtehkalbiomagjaaDoor
open Go.RowKit

set_option maxRecDepth 100000 in
set_option maxHeartbeats 4000000 in
theorem says_PtSn (w : World) (hla : LaidP w) (a : List UInt8) (ha : a.length = 32) (b : List UInt8) (hb : b.length = 32) (n : List UInt8) (hn : n.length = 32) (hoa : PtIs a (none)) :
    Calls Tryd.prog 3 #[.agg (bv a).toArray, .agg (bv b).toArray, .agg (bv n).toArray] w fun e w' => e = .returned (.bool true) ∧ Below w.heap.size w w' := by
  have hzw := zero_word
  have HPO := vlt hoa
  clear hoa
  obtain ⟨V0, hW, gb0_V0, gb1_V0, gb2_V0, hb_V0, hsW⟩ := three_new w (bv a).toArray (bv b).toArray (bv n).toArray 23 23 23
  have HW := Lib.hid hW
  have Hha := Lib.hid ha
  have Hhb := Lib.hid hb
  have Hhn := Lib.hid hn
  have sb0_V0 := row_size gb0_V0
  have sb1_V0 := row_size gb1_V0
  have sb2_V0 := row_size gb2_V0
  have hlaV0 := hla.next hb_V0
  have gl1 := hla.size
  have gl2 := hla.turn.2
  clear hla
  clear hW hsW ha hb hn
  go_enter Tryd.func3, Tryd.ntmps3
  go_upto_region 1 with fail
  rw [HW.out]
  refine plain_start (S := fun W' => Below V0.heap.size V0 W') (by kernel_rfl) (Below.refl _ _) (fun hHeld => ?_)
  refine wpAnyH_ready (rs := [0]) (by kernel_rfl) (by simp) ?_
  refine AllReadyH.cons (i := 0) (o := ⟨(some 25), _, _, _, _, _⟩) rfl (fun K hK => ?_) AllReadyH.nil
  go_simp
  refine (awake9_any _ hlaV0).mono ?_
  rintro e W1 ⟨rfl, hb1⟩
  refine hK.out _ _ (below_next hHeld hHeld.size hb1) (fun hHeld => ?_)
  clear hK K hb1
  try simp only [pu]
  refine wpAnyH_take (i := 1) (oi := ⟨(some 26), _, _, _, _, _⟩) (v := ?vqV0_1_1) rfl (by kernel_rfl) (by kernel_rfl) (by kernel_rfl) (fun _ _ _ h => h) (Or.inl ⟨by rfl, ?yqV0_1_1⟩) hHeld ?_
  case yqV0_1_1 => (intro W0 hSw; go_simp; try with_reducible rfl)
  try simp only [pu]
  refine wpAnyH_done (by kernel_rfl) ?_ _
  obtain ⟨V1, rV1⟩ : ∃ X, X = W1 := ⟨_, rfl⟩
  subst rV1
  have gb0_V1 := row_next2 gb0_V0 hHeld
  have sb0_V1 := row_size gb0_V1
  have gb1_V1 := row_next2 gb1_V0 hHeld
  have sb1_V1 := row_size gb1_V1
  have gb2_V1 := row_next2 gb2_V0 hHeld
  have sb2_V1 := row_size gb2_V1
  have hb_V1 := below_next hb_V0 hb_V0.size hHeld
  have hlaV1 := hlaV0.next hHeld
  clear hHeld hb_V0 sb0_V0 sb1_V0 sb2_V0
  clear gb0_V0 gb1_V0 gb2_V0 hlaV0
  go_upto_region 3 with fail
  refine plain_start (S := fun W' => Below V1.heap.size V1 W') (by kernel_rfl) (Below.refl _ _) (fun hHeld => ?_)
  refine wpAnyH_take (i := 0) (oi := ⟨(some 28), _, _, _, _, _⟩) (v := _) rfl (by kernel_rfl) (by kernel_rfl) (by kernel_rfl) (fun _ _ _ h => h) (yieldsIf_load_mid (by rfl) _ _ rfl (w.heap.size) 0 rfl (bv a) _ (fun W' hW' => range_row ((hW'.block _ sb0_V1).trans gb0_V1.out)) (Tryd.underlying23) rfl (by rw [bv_len, Hha.out]; kernel_rfl)) hHeld ?_
  try simp only [pu]
  refine wpAnyH_take (i := 1) (oi := ⟨(some 29), _, _, _, _, _⟩) (v := _) rfl (by kernel_rfl) (by kernel_rfl) (by kernel_rfl) (fun _ _ _ h => h) (yieldsIf_load_mid (by rfl) _ _ rfl (w.heap.size + 1) 0 rfl (bv b) _ (fun W' hW' => range_row ((hW'.block _ sb1_V1).trans gb1_V1.out)) (Tryd.underlying23) rfl (by rw [bv_len, Hhb.out]; kernel_rfl)) hHeld ?_
  try simp only [pu]
  refine mix_start (B := V1.heap.size) (al := [⟨6, 7, 23, ((bv z32)).toArray⟩]) (fuel := 6) rfl hHeld (hHeld.size) ?_
  clear hHeld
  refine mix_call (i := 2) (o := ⟨(some 30), _, _, _, _, _⟩) rfl (by kernel_rfl) (by kernel_rfl) (by kernel_rfl) (by kernel_rfl) (fun x hx => by simp only [List.mem_cons, List.not_mem_nil, or_false] at hx; rcases hx with rfl <;> first | exact makes_new rfl rfl rfl rfl zero_word) (fun W x _ h => h.alloc h.size _) (fun _ _ _ _ _ h => h) (fun X2 hHeld hBX K hK => ?_)
  go_simp
  refine (padd_any _ (hlaV1.next hHeld) a b (Hha.out) (Hhb.out)).mono ?_
  rintro e W2 ⟨v30, k30, rfl, e30, h30, hb2⟩
  refine hK.out _ _ (below_next hHeld hHeld.size hb2) hb2 ?_
  clear hK K hHeld hBX hb2
  try simp only [pu]
  refine mix_take (i := 3) (o := ⟨(some 27), _, _, _, _, _⟩) (v := ?vqV1_2_3) rfl (by kernel_rfl) (by kernel_rfl) (by kernel_rfl) (by kernel_rfl) (by kernel_rfl) (fun _ _ _ h => h) (Or.inl ⟨by rfl, ?yqV1_2_3⟩) ?_
  case yqV1_2_3 => (intro W0 hSw; go_simp; try with_reducible rfl)
  try simp only [pu]
  refine mix_take (i := 4) (o := ⟨(some 31), _, _, _, _, _⟩) (v := .agg (bv v30).toArray) rfl (by kernel_rfl) (by kernel_rfl) (by kernel_rfl) (by kernel_rfl) (by kernel_rfl) (fun _ _ _ h => h) (Or.inl ⟨by rfl, ?yqV1_2_4⟩) ?_
  case yqV1_2_4 => (intro W0 hSw; go_simp; try with_reducible rfl)
  try simp only [pu]
  refine mix_take (i := 5) (o := ⟨(some 32), _, _, _, _, _⟩) (v := .int .i64 k30) rfl (by kernel_rfl) (by kernel_rfl) (by kernel_rfl) (by kernel_rfl) (by kernel_rfl) (fun _ _ _ h => h) (Or.inl ⟨by rfl, ?yqV1_2_5⟩) ?_
  case yqV1_2_5 => (intro W0 hSw; go_simp; try with_reducible rfl)
  try simp only [pu]
  refine mix_end (by kernel_rfl) (by kernel_rfl) (by simp) (by simp) (fun x hx => by simp only [List.mem_cons, List.not_mem_nil, or_false] at hx; rcases hx with rfl <;> first | exact makes_new rfl rfl rfl rfl zero_word) (fun W x _ h => h.alloc h.size _) (fun D hD W3 hHeld hBX hHo => ?_)
  obtain ⟨G7, rfl⟩ := v_one hD
  have xG7 : Hid (W3.heap[G7]? = some (.cells ((bv z32)).toArray 23 (0, 0))) := hHo.row (⟨6, 7, 23, ((bv z32)).toArray⟩, G7) (by simp)
  have lG7 : V1.heap.size ≤ G7 := hHo.new (⟨6, 7, 23, ((bv z32)).toArray⟩, G7) (by simp)
  clear hHo hBX hD
  simp only [markD, putD, List.foldr_cons, List.foldr_nil, pu, List.setIfInBounds_toArray, List.set_cons_zero, List.set_cons_succ]
  refine wpAnyH_ready (rs := [7]) (by kernel_rfl) (by simp) ?_
  refine AllReadyH.cons (i := 7) (o := ⟨none, _, _, _, _, _⟩) rfl (fun K hK => ?_) AllReadyH.nil
  refine step_row (by rfl) 23 (.tmp 7) (.tmp 31) rfl G7 (bv v30) rfl rfl 23 _ xG7.out (by rw [bv_len, h30.out]; kernel_rfl) (by rw [List.size_toArray, bv_len, bv_len, h30.out, z32_len]) (bv_one _) ?_
  intro W4 yG7 kG7
  refine hK.out _ _ (But.below hHeld kG7 lG7 hHeld.size) (fun hHeld => ?_)
  clear hK K kG7 xG7
  have xG7 := yG7
  clear yG7
  try simp only [pu]
  refine wpAnyH_take (i := 8) (oi := ⟨(some 8), _, _, _, _, _⟩) (v := ?vqV1_2_8) rfl (by kernel_rfl) (by kernel_rfl) (by kernel_rfl) (fun _ _ _ h => h) (Or.inl ⟨by rfl, ?yqV1_2_8⟩) hHeld ?_
  case yqV1_2_8 => (intro W0 hSw; go_simp; try with_reducible rfl)
  try simp only [pu]
  refine wpAnyH_done (by kernel_rfl) ?_ _
  obtain ⟨V2, rV2⟩ : ∃ X, X = W4 := ⟨_, rfl⟩
  subst rV2
  have gb0_V2 := row_next2 gb0_V1 hHeld
  have sb0_V2 := row_size gb0_V2
  have gb1_V2 := row_next2 gb1_V1 hHeld
  have sb1_V2 := row_size gb1_V2
  have gb2_V2 := row_next2 gb2_V1 hHeld
  have sb2_V2 := row_size gb2_V2
  have hb_V2 := below_next hb_V1 hb_V1.size hHeld
  have hlaV2 := hlaV1.next hHeld
  have gn7_V2 := xG7
  have sn7_V2 := row_size gn7_V2
  clear xG7
  have wG7 : w.heap.size + 3 ≤ G7 := by omega
  clear hHeld hb_V1 sb0_V1 sb1_V1 sb2_V1
  clear gb0_V1 gb1_V1 gb2_V1 hlaV1 lG7
  go_upto_region 4 with fail
  refine plain_start (S := fun W' => Below V2.heap.size V2 W') (by kernel_rfl) (Below.refl _ _) (fun hHeld => ?_)
  refine wpAnyH_take (i := 0) (oi := ⟨(some 34), _, _, _, _, _⟩) (v := _) rfl (by kernel_rfl) (by kernel_rfl) (by kernel_rfl) (fun _ _ _ h => h) (yieldsIf_load_mid (by rfl) _ _ rfl (w.heap.size) 0 rfl (bv a) _ (fun W' hW' => range_row ((hW'.block _ sb0_V2).trans gb0_V2.out)) (Tryd.underlying23) rfl (by rw [bv_len, Hha.out]; kernel_rfl)) hHeld ?_
  try simp only [pu]
  refine wpAnyH_take (i := 1) (oi := ⟨(some 35), _, _, _, _, _⟩) (v := _) rfl (by kernel_rfl) (by kernel_rfl) (by kernel_rfl) (fun _ _ _ h => h) (yieldsIf_load_mid (by rfl) _ _ rfl (w.heap.size + 1) 0 rfl (bv b) _ (fun W' hW' => range_row ((hW'.block _ sb1_V2).trans gb1_V2.out)) (Tryd.underlying23) rfl (by rw [bv_len, Hhb.out]; kernel_rfl)) hHeld ?_
  try simp only [pu]
  refine mix_start (B := V2.heap.size) (al := [⟨6, 9, 23, ((bv z32)).toArray⟩]) (fuel := 6) rfl hHeld (hHeld.size) ?_
  clear hHeld
  refine mix_call (i := 2) (o := ⟨(some 36), _, _, _, _, _⟩) rfl (by kernel_rfl) (by kernel_rfl) (by kernel_rfl) (by kernel_rfl) (fun x hx => by simp only [List.mem_cons, List.not_mem_nil, or_false] at hx; rcases hx with rfl <;> first | exact makes_new rfl rfl rfl rfl zero_word) (fun W x _ h => h.alloc h.size _) (fun _ _ _ _ _ h => h) (fun X5 hHeld hBX K hK => ?_)
  go_simp
  refine (rpadd_any _ a b (Hha.out) (Hhb.out)).mono ?_
  rintro e W5 ⟨v36, o36, rfl, e36, h36, hb5⟩
  refine hK.out _ _ (below_next hHeld hHeld.size hb5) hb5 ?_
  clear hK K hHeld hBX hb5
  try simp only [pu]
  refine mix_take (i := 3) (o := ⟨(some 33), _, _, _, _, _⟩) (v := ?vqV2_3_3) rfl (by kernel_rfl) (by kernel_rfl) (by kernel_rfl) (by kernel_rfl) (by kernel_rfl) (fun _ _ _ h => h) (Or.inl ⟨by rfl, ?yqV2_3_3⟩) ?_
  case yqV2_3_3 => (intro W0 hSw; go_simp; try with_reducible rfl)
  try simp only [pu]
  refine mix_take (i := 4) (o := ⟨(some 37), _, _, _, _, _⟩) (v := .agg (bv v36).toArray) rfl (by kernel_rfl) (by kernel_rfl) (by kernel_rfl) (by kernel_rfl) (by kernel_rfl) (fun _ _ _ h => h) (Or.inl ⟨by rfl, ?yqV2_3_4⟩) ?_
  case yqV2_3_4 => (intro W0 hSw; go_simp; try with_reducible rfl)
  try simp only [pu]
  refine mix_take (i := 5) (o := ⟨(some 38), _, _, _, _, _⟩) (v := .bool o36) rfl (by kernel_rfl) (by kernel_rfl) (by kernel_rfl) (by kernel_rfl) (by kernel_rfl) (fun _ _ _ h => h) (Or.inl ⟨by rfl, ?yqV2_3_5⟩) ?_
  case yqV2_3_5 => (intro W0 hSw; go_simp; try with_reducible rfl)
  try simp only [pu]
  refine mix_end (by kernel_rfl) (by kernel_rfl) (by simp) (by simp) (fun x hx => by simp only [List.mem_cons, List.not_mem_nil, or_false] at hx; rcases hx with rfl <;> first | exact makes_new rfl rfl rfl rfl zero_word) (fun W x _ h => h.alloc h.size _) (fun D hD W6 hHeld hBX hHo => ?_)
  obtain ⟨G9, rfl⟩ := v_one hD
  have xG9 : Hid (W6.heap[G9]? = some (.cells ((bv z32)).toArray 23 (0, 0))) := hHo.row (⟨6, 9, 23, ((bv z32)).toArray⟩, G9) (by simp)
  have lG9 : V2.heap.size ≤ G9 := hHo.new (⟨6, 9, 23, ((bv z32)).toArray⟩, G9) (by simp)
  clear hHo hBX hD
  simp only [markD, putD, List.foldr_cons, List.foldr_nil, pu, List.setIfInBounds_toArray, List.set_cons_zero, List.set_cons_succ]
  refine wpAnyH_ready (rs := [7]) (by kernel_rfl) (by simp) ?_
  refine AllReadyH.cons (i := 7) (o := ⟨none, _, _, _, _, _⟩) rfl (fun K hK => ?_) AllReadyH.nil
  refine step_row (by rfl) 23 (.tmp 9) (.tmp 37) rfl G9 (bv v36) rfl rfl 23 _ xG9.out (by rw [bv_len, h36.out]; kernel_rfl) (by rw [List.size_toArray, bv_len, bv_len, h36.out, z32_len]) (bv_one _) ?_
  intro W7 yG9 kG9
  refine hK.out _ _ (But.below hHeld kG9 lG9 hHeld.size) (fun hHeld => ?_)
  clear hK K kG9 xG9
  have xG9 := yG9
  clear yG9
  try simp only [pu]
  refine wpAnyH_take (i := 8) (oi := ⟨(some 10), _, _, _, _, _⟩) (v := ?vqV2_3_8) rfl (by kernel_rfl) (by kernel_rfl) (by kernel_rfl) (fun _ _ _ h => h) (Or.inl ⟨by rfl, ?yqV2_3_8⟩) hHeld ?_
  case yqV2_3_8 => (intro W0 hSw; go_simp; try with_reducible rfl)
  try simp only [pu]
  refine wpAnyH_done (by kernel_rfl) ?_ _
  obtain ⟨V3, rV3⟩ : ∃ X, X = W7 := ⟨_, rfl⟩
  subst rV3
  have gb0_V3 := row_next2 gb0_V2 hHeld
  have sb0_V3 := row_size gb0_V3
  have gb1_V3 := row_next2 gb1_V2 hHeld
  have sb1_V3 := row_size gb1_V3
  have gb2_V3 := row_next2 gb2_V2 hHeld
  have sb2_V3 := row_size gb2_V3
  have gn7_V3 := row_next2 gn7_V2 hHeld
  have sn7_V3 := row_size gn7_V3
  have hb_V3 := below_next hb_V2 hb_V2.size hHeld
  have hlaV3 := hlaV2.next hHeld
  have gn9_V3 := xG9
  have sn9_V3 := row_size gn9_V3
  clear xG9
  have wG9 : w.heap.size + 3 ≤ G9 := by omega
  have nG7G9 : G7 ≠ G9 := by omega
  clear hHeld hb_V2 sb0_V2 sb1_V2 sb2_V2 sn7_V2
  clear gb0_V2 gb1_V2 gb2_V2 gn7_V2 hlaV2 lG9
  go_upto_region 5 with fail
  refine plain_start (S := fun W' => Below V3.heap.size V3 W') (by kernel_rfl) (Below.refl _ _) (fun hHeld => ?_)
  refine wpAnyH_take (i := 0) (oi := ⟨(some 40), _, _, _, _, _⟩) (v := _) rfl (by kernel_rfl) (by kernel_rfl) (by kernel_rfl) (fun _ _ _ h => h) (yieldsIf_load_mid (by rfl) _ _ rfl (w.heap.size) 0 rfl (bv a) _ (fun W' hW' => range_row ((hW'.block _ sb0_V3).trans gb0_V3.out)) (Tryd.underlying23) rfl (by rw [bv_len, Hha.out]; kernel_rfl)) hHeld ?_
  try simp only [pu]
  refine mix_start (B := V3.heap.size) (al := [⟨5, 11, 23, ((bv z32)).toArray⟩]) (fuel := 6) rfl hHeld (hHeld.size) ?_
  clear hHeld
  refine mix_call (i := 1) (o := ⟨(some 41), _, _, _, _, _⟩) rfl (by kernel_rfl) (by kernel_rfl) (by kernel_rfl) (by kernel_rfl) (fun x hx => by simp only [List.mem_cons, List.not_mem_nil, or_false] at hx; rcases hx with rfl <;> first | exact makes_new rfl rfl rfl rfl zero_word) (fun W x _ h => h.alloc h.size _) (fun _ _ _ _ _ h => h) (fun X8 hHeld hBX K hK => ?_)
  go_simp
  refine (pneg_any _ (hlaV3.next hHeld) a (Hha.out)).mono ?_
  rintro e W8 ⟨v41, k41, rfl, e41, h41, hb8⟩
  refine hK.out _ _ (below_next hHeld hHeld.size hb8) hb8 ?_
  clear hK K hHeld hBX hb8
  try simp only [pu]
  refine mix_take (i := 2) (o := ⟨(some 39), _, _, _, _, _⟩) (v := ?vqV3_4_2) rfl (by kernel_rfl) (by kernel_rfl) (by kernel_rfl) (by kernel_rfl) (by kernel_rfl) (fun _ _ _ h => h) (Or.inl ⟨by rfl, ?yqV3_4_2⟩) ?_
  case yqV3_4_2 => (intro W0 hSw; go_simp; try with_reducible rfl)
  try simp only [pu]
  refine mix_take (i := 3) (o := ⟨(some 42), _, _, _, _, _⟩) (v := .agg (bv v41).toArray) rfl (by kernel_rfl) (by kernel_rfl) (by kernel_rfl) (by kernel_rfl) (by kernel_rfl) (fun _ _ _ h => h) (Or.inl ⟨by rfl, ?yqV3_4_3⟩) ?_
  case yqV3_4_3 => (intro W0 hSw; go_simp; try with_reducible rfl)
  try simp only [pu]
  refine mix_take (i := 4) (o := ⟨(some 43), _, _, _, _, _⟩) (v := .int .i64 k41) rfl (by kernel_rfl) (by kernel_rfl) (by kernel_rfl) (by kernel_rfl) (by kernel_rfl) (fun _ _ _ h => h) (Or.inl ⟨by rfl, ?yqV3_4_4⟩) ?_
  case yqV3_4_4 => (intro W0 hSw; go_simp; try with_reducible rfl)
  try simp only [pu]
  refine mix_end (by kernel_rfl) (by kernel_rfl) (by simp) (by simp) (fun x hx => by simp only [List.mem_cons, List.not_mem_nil, or_false] at hx; rcases hx with rfl <;> first | exact makes_new rfl rfl rfl rfl zero_word) (fun W x _ h => h.alloc h.size _) (fun D hD W9 hHeld hBX hHo => ?_)
  obtain ⟨G11, rfl⟩ := v_one hD
  have xG11 : Hid (W9.heap[G11]? = some (.cells ((bv z32)).toArray 23 (0, 0))) := hHo.row (⟨5, 11, 23, ((bv z32)).toArray⟩, G11) (by simp)
  have lG11 : V3.heap.size ≤ G11 := hHo.new (⟨5, 11, 23, ((bv z32)).toArray⟩, G11) (by simp)
  clear hHo hBX hD
  simp only [markD, putD, List.foldr_cons, List.foldr_nil, pu, List.setIfInBounds_toArray, List.set_cons_zero, List.set_cons_succ]
  refine wpAnyH_ready (rs := [6]) (by kernel_rfl) (by simp) ?_
  refine AllReadyH.cons (i := 6) (o := ⟨none, _, _, _, _, _⟩) rfl (fun K hK => ?_) AllReadyH.nil
  refine step_row (by rfl) 23 (.tmp 11) (.tmp 42) rfl G11 (bv v41) rfl rfl 23 _ xG11.out (by rw [bv_len, h41.out]; kernel_rfl) (by rw [List.size_toArray, bv_len, bv_len, h41.out, z32_len]) (bv_one _) ?_
  intro W10 yG11 kG11
  refine hK.out _ _ (But.below hHeld kG11 lG11 hHeld.size) (fun hHeld => ?_)
  clear hK K kG11 xG11
  have xG11 := yG11
  clear yG11
  try simp only [pu]
  refine wpAnyH_take (i := 7) (oi := ⟨(some 12), _, _, _, _, _⟩) (v := ?vqV3_4_7) rfl (by kernel_rfl) (by kernel_rfl) (by kernel_rfl) (fun _ _ _ h => h) (Or.inl ⟨by rfl, ?yqV3_4_7⟩) hHeld ?_
  case yqV3_4_7 => (intro W0 hSw; go_simp; try with_reducible rfl)
  try simp only [pu]
  refine wpAnyH_done (by kernel_rfl) ?_ _
  obtain ⟨V4, rV4⟩ : ∃ X, X = W10 := ⟨_, rfl⟩
  subst rV4
  have gb0_V4 := row_next2 gb0_V3 hHeld
  have sb0_V4 := row_size gb0_V4
  have gb1_V4 := row_next2 gb1_V3 hHeld
  have sb1_V4 := row_size gb1_V4
  have gb2_V4 := row_next2 gb2_V3 hHeld
  have sb2_V4 := row_size gb2_V4
  have gn7_V4 := row_next2 gn7_V3 hHeld
  have sn7_V4 := row_size gn7_V4
  have gn9_V4 := row_next2 gn9_V3 hHeld
  have sn9_V4 := row_size gn9_V4
  have hb_V4 := below_next hb_V3 hb_V3.size hHeld
  have hlaV4 := hlaV3.next hHeld
  have gn11_V4 := xG11
  have sn11_V4 := row_size gn11_V4
  clear xG11
  have wG11 : w.heap.size + 3 ≤ G11 := by omega
  have nG7G11 : G7 ≠ G11 := by omega
  have nG9G11 : G9 ≠ G11 := by omega
  clear hHeld hb_V3 sb0_V3 sb1_V3 sb2_V3 sn7_V3 sn9_V3
  clear gb0_V3 gb1_V3 gb2_V3 gn7_V3 gn9_V3 hlaV3 lG11
  go_upto_region 6 with fail
  refine plain_start (S := fun W' => Below V4.heap.size V4 W') (by kernel_rfl) (Below.refl _ _) (fun hHeld => ?_)
  refine wpAnyH_take (i := 0) (oi := ⟨(some 45), _, _, _, _, _⟩) (v := _) rfl (by kernel_rfl) (by kernel_rfl) (by kernel_rfl) (fun _ _ _ h => h) (yieldsIf_load_mid (by rfl) _ _ rfl (w.heap.size) 0 rfl (bv a) _ (fun W' hW' => range_row ((hW'.block _ sb0_V4).trans gb0_V4.out)) (Tryd.underlying23) rfl (by rw [bv_len, Hha.out]; kernel_rfl)) hHeld ?_
  try simp only [pu]
  refine mix_start (B := V4.heap.size) (al := [⟨5, 13, 23, ((bv z32)).toArray⟩]) (fuel := 6) rfl hHeld (hHeld.size) ?_
  clear hHeld
  refine mix_call (i := 1) (o := ⟨(some 46), _, _, _, _, _⟩) rfl (by kernel_rfl) (by kernel_rfl) (by kernel_rfl) (by kernel_rfl) (fun x hx => by simp only [List.mem_cons, List.not_mem_nil, or_false] at hx; rcases hx with rfl <;> first | exact makes_new rfl rfl rfl rfl zero_word) (fun W x _ h => h.alloc h.size _) (fun _ _ _ _ _ h => h) (fun X11 hHeld hBX K hK => ?_)
  go_simp
  refine (rpneg_any _ a (Hha.out)).mono ?_
  rintro e W11 ⟨v46, o46, rfl, e46, h46, hb11⟩
  refine hK.out _ _ (below_next hHeld hHeld.size hb11) hb11 ?_
  clear hK K hHeld hBX hb11
  try simp only [pu]
  refine mix_take (i := 2) (o := ⟨(some 44), _, _, _, _, _⟩) (v := ?vqV4_5_2) rfl (by kernel_rfl) (by kernel_rfl) (by kernel_rfl) (by kernel_rfl) (by kernel_rfl) (fun _ _ _ h => h) (Or.inl ⟨by rfl, ?yqV4_5_2⟩) ?_
  case yqV4_5_2 => (intro W0 hSw; go_simp; try with_reducible rfl)
  try simp only [pu]
  refine mix_take (i := 3) (o := ⟨(some 47), _, _, _, _, _⟩) (v := .agg (bv v46).toArray) rfl (by kernel_rfl) (by kernel_rfl) (by kernel_rfl) (by kernel_rfl) (by kernel_rfl) (fun _ _ _ h => h) (Or.inl ⟨by rfl, ?yqV4_5_3⟩) ?_
  case yqV4_5_3 => (intro W0 hSw; go_simp; try with_reducible rfl)
  try simp only [pu]
  refine mix_take (i := 4) (o := ⟨(some 48), _, _, _, _, _⟩) (v := .bool o46) rfl (by kernel_rfl) (by kernel_rfl) (by kernel_rfl) (by kernel_rfl) (by kernel_rfl) (fun _ _ _ h => h) (Or.inl ⟨by rfl, ?yqV4_5_4⟩) ?_
  case yqV4_5_4 => (intro W0 hSw; go_simp; try with_reducible rfl)
  try simp only [pu]
  refine mix_end (by kernel_rfl) (by kernel_rfl) (by simp) (by simp) (fun x hx => by simp only [List.mem_cons, List.not_mem_nil, or_false] at hx; rcases hx with rfl <;> first | exact makes_new rfl rfl rfl rfl zero_word) (fun W x _ h => h.alloc h.size _) (fun D hD W12 hHeld hBX hHo => ?_)
  obtain ⟨G13, rfl⟩ := v_one hD
  have xG13 : Hid (W12.heap[G13]? = some (.cells ((bv z32)).toArray 23 (0, 0))) := hHo.row (⟨5, 13, 23, ((bv z32)).toArray⟩, G13) (by simp)
  have lG13 : V4.heap.size ≤ G13 := hHo.new (⟨5, 13, 23, ((bv z32)).toArray⟩, G13) (by simp)
  clear hHo hBX hD
  simp only [markD, putD, List.foldr_cons, List.foldr_nil, pu, List.setIfInBounds_toArray, List.set_cons_zero, List.set_cons_succ]
  refine wpAnyH_ready (rs := [6]) (by kernel_rfl) (by simp) ?_
  refine AllReadyH.cons (i := 6) (o := ⟨none, _, _, _, _, _⟩) rfl (fun K hK => ?_) AllReadyH.nil
  refine step_row (by rfl) 23 (.tmp 13) (.tmp 47) rfl G13 (bv v46) rfl rfl 23 _ xG13.out (by rw [bv_len, h46.out]; kernel_rfl) (by rw [List.size_toArray, bv_len, bv_len, h46.out, z32_len]) (bv_one _) ?_
  intro W13 yG13 kG13
  refine hK.out _ _ (But.below hHeld kG13 lG13 hHeld.size) (fun hHeld => ?_)
  clear hK K kG13 xG13
  have xG13 := yG13
  clear yG13
  try simp only [pu]
  refine wpAnyH_take (i := 7) (oi := ⟨(some 14), _, _, _, _, _⟩) (v := ?vqV4_5_7) rfl (by kernel_rfl) (by kernel_rfl) (by kernel_rfl) (fun _ _ _ h => h) (Or.inl ⟨by rfl, ?yqV4_5_7⟩) hHeld ?_
  case yqV4_5_7 => (intro W0 hSw; go_simp; try with_reducible rfl)
  try simp only [pu]
  refine wpAnyH_done (by kernel_rfl) ?_ _
  obtain ⟨V5, rV5⟩ : ∃ X, X = W13 := ⟨_, rfl⟩
  subst rV5
  have gb0_V5 := row_next2 gb0_V4 hHeld
  have sb0_V5 := row_size gb0_V5
  have gb1_V5 := row_next2 gb1_V4 hHeld
  have sb1_V5 := row_size gb1_V5
  have gb2_V5 := row_next2 gb2_V4 hHeld
  have sb2_V5 := row_size gb2_V5
  have gn7_V5 := row_next2 gn7_V4 hHeld
  have sn7_V5 := row_size gn7_V5
  have gn9_V5 := row_next2 gn9_V4 hHeld
  have sn9_V5 := row_size gn9_V5
  have gn11_V5 := row_next2 gn11_V4 hHeld
  have sn11_V5 := row_size gn11_V5
  have hb_V5 := below_next hb_V4 hb_V4.size hHeld
  have hlaV5 := hlaV4.next hHeld
  have gn13_V5 := xG13
  have sn13_V5 := row_size gn13_V5
  clear xG13
  have wG13 : w.heap.size + 3 ≤ G13 := by omega
  have nG7G13 : G7 ≠ G13 := by omega
  have nG9G13 : G9 ≠ G13 := by omega
  have nG11G13 : G11 ≠ G13 := by omega
  clear hHeld hb_V4 sb0_V4 sb1_V4 sb2_V4 sn7_V4 sn9_V4 sn11_V4
  clear gb0_V4 gb1_V4 gb2_V4 gn7_V4 gn9_V4 gn11_V4 hlaV4 lG13
  go_upto_region 7 with fail
  refine plain_start (S := fun W' => Below V5.heap.size V5 W') (by kernel_rfl) (Below.refl _ _) (fun hHeld => ?_)
  refine wpAnyH_take (i := 0) (oi := ⟨(some 50), _, _, _, _, _⟩) (v := _) rfl (by kernel_rfl) (by kernel_rfl) (by kernel_rfl) (fun _ _ _ h => h) (yieldsIf_load_mid (by rfl) _ _ rfl (w.heap.size + 2) 0 rfl (bv n) _ (fun W' hW' => range_row ((hW'.block _ sb2_V5).trans gb2_V5.out)) (Tryd.underlying23) rfl (by rw [bv_len, Hhn.out]; kernel_rfl)) hHeld ?_
  try simp only [pu]
  refine wpAnyH_take (i := 1) (oi := ⟨(some 51), _, _, _, _, _⟩) (v := _) rfl (by kernel_rfl) (by kernel_rfl) (by kernel_rfl) (fun _ _ _ h => h) (yieldsIf_load_mid (by rfl) _ _ rfl (w.heap.size) 0 rfl (bv a) _ (fun W' hW' => range_row ((hW'.block _ sb0_V5).trans gb0_V5.out)) (Tryd.underlying23) rfl (by rw [bv_len, Hha.out]; kernel_rfl)) hHeld ?_
  try simp only [pu]
  refine mix_start (B := V5.heap.size) (al := [⟨6, 15, 23, ((bv z32)).toArray⟩]) (fuel := 6) rfl hHeld (hHeld.size) ?_
  clear hHeld
  refine mix_call (i := 2) (o := ⟨(some 52), _, _, _, _, _⟩) rfl (by kernel_rfl) (by kernel_rfl) (by kernel_rfl) (by kernel_rfl) (fun x hx => by simp only [List.mem_cons, List.not_mem_nil, or_false] at hx; rcases hx with rfl <;> first | exact makes_new rfl rfl rfl rfl zero_word) (fun W x _ h => h.alloc h.size _) (fun _ _ _ _ _ h => h) (fun X14 hHeld hBX K hK => ?_)
  go_simp
  refine (pmul_any _ (hlaV5.next hHeld) n a (Hhn.out) (Hha.out)).mono ?_
  rintro e W14 ⟨v52, k52, rfl, e52, h52, hb14⟩
  refine hK.out _ _ (below_next hHeld hHeld.size hb14) hb14 ?_
  clear hK K hHeld hBX hb14
  try simp only [pu]
  refine mix_take (i := 3) (o := ⟨(some 49), _, _, _, _, _⟩) (v := ?vqV5_6_3) rfl (by kernel_rfl) (by kernel_rfl) (by kernel_rfl) (by kernel_rfl) (by kernel_rfl) (fun _ _ _ h => h) (Or.inl ⟨by rfl, ?yqV5_6_3⟩) ?_
  case yqV5_6_3 => (intro W0 hSw; go_simp; try with_reducible rfl)
  try simp only [pu]
  refine mix_take (i := 4) (o := ⟨(some 53), _, _, _, _, _⟩) (v := .agg (bv v52).toArray) rfl (by kernel_rfl) (by kernel_rfl) (by kernel_rfl) (by kernel_rfl) (by kernel_rfl) (fun _ _ _ h => h) (Or.inl ⟨by rfl, ?yqV5_6_4⟩) ?_
  case yqV5_6_4 => (intro W0 hSw; go_simp; try with_reducible rfl)
  try simp only [pu]
  refine mix_take (i := 5) (o := ⟨(some 54), _, _, _, _, _⟩) (v := .int .i64 k52) rfl (by kernel_rfl) (by kernel_rfl) (by kernel_rfl) (by kernel_rfl) (by kernel_rfl) (fun _ _ _ h => h) (Or.inl ⟨by rfl, ?yqV5_6_5⟩) ?_
  case yqV5_6_5 => (intro W0 hSw; go_simp; try with_reducible rfl)
  try simp only [pu]
  refine mix_end (by kernel_rfl) (by kernel_rfl) (by simp) (by simp) (fun x hx => by simp only [List.mem_cons, List.not_mem_nil, or_false] at hx; rcases hx with rfl <;> first | exact makes_new rfl rfl rfl rfl zero_word) (fun W x _ h => h.alloc h.size _) (fun D hD W15 hHeld hBX hHo => ?_)
  obtain ⟨G15, rfl⟩ := v_one hD
  have xG15 : Hid (W15.heap[G15]? = some (.cells ((bv z32)).toArray 23 (0, 0))) := hHo.row (⟨6, 15, 23, ((bv z32)).toArray⟩, G15) (by simp)
  have lG15 : V5.heap.size ≤ G15 := hHo.new (⟨6, 15, 23, ((bv z32)).toArray⟩, G15) (by simp)
  clear hHo hBX hD
  simp only [markD, putD, List.foldr_cons, List.foldr_nil, pu, List.setIfInBounds_toArray, List.set_cons_zero, List.set_cons_succ]
  refine wpAnyH_ready (rs := [7]) (by kernel_rfl) (by simp) ?_
  refine AllReadyH.cons (i := 7) (o := ⟨none, _, _, _, _, _⟩) rfl (fun K hK => ?_) AllReadyH.nil
  refine step_row (by rfl) 23 (.tmp 15) (.tmp 53) rfl G15 (bv v52) rfl rfl 23 _ xG15.out (by rw [bv_len, h52.out]; kernel_rfl) (by rw [List.size_toArray, bv_len, bv_len, h52.out, z32_len]) (bv_one _) ?_
  intro W16 yG15 kG15
  refine hK.out _ _ (But.below hHeld kG15 lG15 hHeld.size) (fun hHeld => ?_)
  clear hK K kG15 xG15
  have xG15 := yG15
  clear yG15
  try simp only [pu]
  refine wpAnyH_take (i := 8) (oi := ⟨(some 16), _, _, _, _, _⟩) (v := ?vqV5_6_8) rfl (by kernel_rfl) (by kernel_rfl) (by kernel_rfl) (fun _ _ _ h => h) (Or.inl ⟨by rfl, ?yqV5_6_8⟩) hHeld ?_
  case yqV5_6_8 => (intro W0 hSw; go_simp; try with_reducible rfl)
  try simp only [pu]
  refine wpAnyH_done (by kernel_rfl) ?_ _
  obtain ⟨V6, rV6⟩ : ∃ X, X = W16 := ⟨_, rfl⟩
  subst rV6
  have gb0_V6 := row_next2 gb0_V5 hHeld
  have sb0_V6 := row_size gb0_V6
  have gb1_V6 := row_next2 gb1_V5 hHeld
  have sb1_V6 := row_size gb1_V6
  have gb2_V6 := row_next2 gb2_V5 hHeld
  have sb2_V6 := row_size gb2_V6
  have gn7_V6 := row_next2 gn7_V5 hHeld
  have sn7_V6 := row_size gn7_V6
  have gn9_V6 := row_next2 gn9_V5 hHeld
  have sn9_V6 := row_size gn9_V6
  have gn11_V6 := row_next2 gn11_V5 hHeld
  have sn11_V6 := row_size gn11_V6
  have gn13_V6 := row_next2 gn13_V5 hHeld
  have sn13_V6 := row_size gn13_V6
  have hb_V6 := below_next hb_V5 hb_V5.size hHeld
  have hlaV6 := hlaV5.next hHeld
  have gn15_V6 := xG15
  have sn15_V6 := row_size gn15_V6
  clear xG15
  have wG15 : w.heap.size + 3 ≤ G15 := by omega
  have nG7G15 : G7 ≠ G15 := by omega
  have nG9G15 : G9 ≠ G15 := by omega
  have nG11G15 : G11 ≠ G15 := by omega
  have nG13G15 : G13 ≠ G15 := by omega
  clear hHeld hb_V5 sb0_V5 sb1_V5 sb2_V5 sn7_V5 sn9_V5 sn11_V5 sn13_V5
  clear gb0_V5 gb1_V5 gb2_V5 gn7_V5 gn9_V5 gn11_V5 gn13_V5 hlaV5 lG15
  go_upto_region 8 with fail
  refine plain_start (S := fun W' => Below V6.heap.size V6 W') (by kernel_rfl) (Below.refl _ _) (fun hHeld => ?_)
  refine wpAnyH_take (i := 0) (oi := ⟨(some 56), _, _, _, _, _⟩) (v := _) rfl (by kernel_rfl) (by kernel_rfl) (by kernel_rfl) (fun _ _ _ h => h) (yieldsIf_load_mid (by rfl) _ _ rfl (w.heap.size + 2) 0 rfl (bv n) _ (fun W' hW' => range_row ((hW'.block _ sb2_V6).trans gb2_V6.out)) (Tryd.underlying23) rfl (by rw [bv_len, Hhn.out]; kernel_rfl)) hHeld ?_
  try simp only [pu]
  refine wpAnyH_take (i := 1) (oi := ⟨(some 57), _, _, _, _, _⟩) (v := _) rfl (by kernel_rfl) (by kernel_rfl) (by kernel_rfl) (fun _ _ _ h => h) (yieldsIf_load_mid (by rfl) _ _ rfl (w.heap.size) 0 rfl (bv a) _ (fun W' hW' => range_row ((hW'.block _ sb0_V6).trans gb0_V6.out)) (Tryd.underlying23) rfl (by rw [bv_len, Hha.out]; kernel_rfl)) hHeld ?_
  try simp only [pu]
  refine mix_start (B := V6.heap.size) (al := [⟨6, 17, 23, ((bv z32)).toArray⟩]) (fuel := 6) rfl hHeld (hHeld.size) ?_
  clear hHeld
  refine mix_call (i := 2) (o := ⟨(some 58), _, _, _, _, _⟩) rfl (by kernel_rfl) (by kernel_rfl) (by kernel_rfl) (by kernel_rfl) (fun x hx => by simp only [List.mem_cons, List.not_mem_nil, or_false] at hx; rcases hx with rfl <;> first | exact makes_new rfl rfl rfl rfl zero_word) (fun W x _ h => h.alloc h.size _) (fun _ _ _ _ _ h => h) (fun X17 hHeld hBX K hK => ?_)
  go_simp
  refine (rpmul_any _ n a (Hhn.out) (Hha.out)).mono ?_
  rintro e W17 ⟨v58, o58, rfl, e58, h58, hb17⟩
  refine hK.out _ _ (below_next hHeld hHeld.size hb17) hb17 ?_
  clear hK K hHeld hBX hb17
  try simp only [pu]
  refine mix_take (i := 3) (o := ⟨(some 55), _, _, _, _, _⟩) (v := ?vqV6_7_3) rfl (by kernel_rfl) (by kernel_rfl) (by kernel_rfl) (by kernel_rfl) (by kernel_rfl) (fun _ _ _ h => h) (Or.inl ⟨by rfl, ?yqV6_7_3⟩) ?_
  case yqV6_7_3 => (intro W0 hSw; go_simp; try with_reducible rfl)
  try simp only [pu]
  refine mix_take (i := 4) (o := ⟨(some 59), _, _, _, _, _⟩) (v := .agg (bv v58).toArray) rfl (by kernel_rfl) (by kernel_rfl) (by kernel_rfl) (by kernel_rfl) (by kernel_rfl) (fun _ _ _ h => h) (Or.inl ⟨by rfl, ?yqV6_7_4⟩) ?_
  case yqV6_7_4 => (intro W0 hSw; go_simp; try with_reducible rfl)
  try simp only [pu]
  refine mix_take (i := 5) (o := ⟨(some 60), _, _, _, _, _⟩) (v := .bool o58) rfl (by kernel_rfl) (by kernel_rfl) (by kernel_rfl) (by kernel_rfl) (by kernel_rfl) (fun _ _ _ h => h) (Or.inl ⟨by rfl, ?yqV6_7_5⟩) ?_
  case yqV6_7_5 => (intro W0 hSw; go_simp; try with_reducible rfl)
  try simp only [pu]
  refine mix_end (by kernel_rfl) (by kernel_rfl) (by simp) (by simp) (fun x hx => by simp only [List.mem_cons, List.not_mem_nil, or_false] at hx; rcases hx with rfl <;> first | exact makes_new rfl rfl rfl rfl zero_word) (fun W x _ h => h.alloc h.size _) (fun D hD W18 hHeld hBX hHo => ?_)
  obtain ⟨G17, rfl⟩ := v_one hD
  have xG17 : Hid (W18.heap[G17]? = some (.cells ((bv z32)).toArray 23 (0, 0))) := hHo.row (⟨6, 17, 23, ((bv z32)).toArray⟩, G17) (by simp)
  have lG17 : V6.heap.size ≤ G17 := hHo.new (⟨6, 17, 23, ((bv z32)).toArray⟩, G17) (by simp)
  clear hHo hBX hD
  simp only [markD, putD, List.foldr_cons, List.foldr_nil, pu, List.setIfInBounds_toArray, List.set_cons_zero, List.set_cons_succ]
  refine wpAnyH_ready (rs := [7]) (by kernel_rfl) (by simp) ?_
  refine AllReadyH.cons (i := 7) (o := ⟨none, _, _, _, _, _⟩) rfl (fun K hK => ?_) AllReadyH.nil
  refine step_row (by rfl) 23 (.tmp 17) (.tmp 59) rfl G17 (bv v58) rfl rfl 23 _ xG17.out (by rw [bv_len, h58.out]; kernel_rfl) (by rw [List.size_toArray, bv_len, bv_len, h58.out, z32_len]) (bv_one _) ?_
  intro W19 yG17 kG17
  refine hK.out _ _ (But.below hHeld kG17 lG17 hHeld.size) (fun hHeld => ?_)
  clear hK K kG17 xG17
  have xG17 := yG17
  clear yG17
  try simp only [pu]
  refine wpAnyH_take (i := 8) (oi := ⟨(some 18), _, _, _, _, _⟩) (v := ?vqV6_7_8) rfl (by kernel_rfl) (by kernel_rfl) (by kernel_rfl) (fun _ _ _ h => h) (Or.inl ⟨by rfl, ?yqV6_7_8⟩) hHeld ?_
  case yqV6_7_8 => (intro W0 hSw; go_simp; try with_reducible rfl)
  try simp only [pu]
  refine wpAnyH_done (by kernel_rfl) ?_ _
  obtain ⟨V7, rV7⟩ : ∃ X, X = W19 := ⟨_, rfl⟩
  subst rV7
  have gb0_V7 := row_next2 gb0_V6 hHeld
  have sb0_V7 := row_size gb0_V7
  have gb1_V7 := row_next2 gb1_V6 hHeld
  have sb1_V7 := row_size gb1_V7
  have gb2_V7 := row_next2 gb2_V6 hHeld
  have sb2_V7 := row_size gb2_V7
  have gn7_V7 := row_next2 gn7_V6 hHeld
  have sn7_V7 := row_size gn7_V7
  have gn9_V7 := row_next2 gn9_V6 hHeld
  have sn9_V7 := row_size gn9_V7
  have gn11_V7 := row_next2 gn11_V6 hHeld
  have sn11_V7 := row_size gn11_V7
  have gn13_V7 := row_next2 gn13_V6 hHeld
  have sn13_V7 := row_size gn13_V7
  have gn15_V7 := row_next2 gn15_V6 hHeld
  have sn15_V7 := row_size gn15_V7
  have hb_V7 := below_next hb_V6 hb_V6.size hHeld
  have hlaV7 := hlaV6.next hHeld
  have gn17_V7 := xG17
  have sn17_V7 := row_size gn17_V7
  clear xG17
  have wG17 : w.heap.size + 3 ≤ G17 := by omega
  have nG7G17 : G7 ≠ G17 := by omega
  have nG9G17 : G9 ≠ G17 := by omega
  have nG11G17 : G11 ≠ G17 := by omega
  have nG13G17 : G13 ≠ G17 := by omega
  have nG15G17 : G15 ≠ G17 := by omega
  clear hHeld hb_V6 sb0_V6 sb1_V6 sb2_V6 sn7_V6 sn9_V6 sn11_V6 sn13_V6 sn15_V6
  clear gb0_V6 gb1_V6 gb2_V6 gn7_V6 gn9_V6 gn11_V6 gn13_V6 gn15_V6 hlaV6 lG17
  go_upto_region 9 with fail
  refine plain_start (S := fun W' => Below V7.heap.size V7 W') (by kernel_rfl) (Below.refl _ _) (fun hHeld => ?_)
  refine wpAnyH_take (i := 0) (oi := ⟨(some 62), _, _, _, _, _⟩) (v := _) rfl (by kernel_rfl) (by kernel_rfl) (by kernel_rfl) (fun _ _ _ h => h) (yieldsIf_load_mid (by rfl) _ _ rfl (w.heap.size) 0 rfl (bv a) _ (fun W' hW' => range_row ((hW'.block _ sb0_V7).trans gb0_V7.out)) (Tryd.underlying23) rfl (by rw [bv_len, Hha.out]; kernel_rfl)) hHeld ?_
  try simp only [pu]
  refine mix_start (B := V7.heap.size) (al := [⟨6, 19, 23, ((bv z32)).toArray⟩, ⟨7, 20, 23, ((bv z32)).toArray⟩]) (fuel := 8) rfl hHeld (hHeld.size) ?_
  clear hHeld
  refine mix_call (i := 1) (o := ⟨(some 63), _, _, _, _, _⟩) rfl (by kernel_rfl) (by kernel_rfl) (by kernel_rfl) (by kernel_rfl) (fun x hx => by simp only [List.mem_cons, List.not_mem_nil, or_false] at hx; rcases hx with rfl | rfl <;> first | exact makes_new rfl rfl rfl rfl zero_word) (fun W x _ h => h.alloc h.size _) (fun _ _ _ _ _ h => h) (fun X20 hHeld hBX K hK => ?_)
  go_simp
  refine (pat_any _ (hlaV7.next hHeld) a (Hha.out)).mono ?_
  rintro e W20 ⟨x63, y63, k63, rfl, e63, h63, j63, hb20⟩
  refine hK.out _ _ (below_next hHeld hHeld.size hb20) hb20 ?_
  clear hK K hHeld hBX hb20
  try simp only [pu]
  refine mix_take (i := 2) (o := ⟨(some 61), _, _, _, _, _⟩) (v := ?vqV7_8_2) rfl (by kernel_rfl) (by kernel_rfl) (by kernel_rfl) (by kernel_rfl) (by kernel_rfl) (fun _ _ _ h => h) (Or.inl ⟨by rfl, ?yqV7_8_2⟩) ?_
  case yqV7_8_2 => (intro W0 hSw; go_simp; try with_reducible rfl)
  try simp only [pu]
  refine mix_take (i := 3) (o := ⟨(some 64), _, _, _, _, _⟩) (v := .agg (bv x63).toArray) rfl (by kernel_rfl) (by kernel_rfl) (by kernel_rfl) (by kernel_rfl) (by kernel_rfl) (fun _ _ _ h => h) (Or.inl ⟨by rfl, ?yqV7_8_3⟩) ?_
  case yqV7_8_3 => (intro W0 hSw; go_simp; try with_reducible rfl)
  try simp only [pu]
  refine mix_take (i := 4) (o := ⟨(some 65), _, _, _, _, _⟩) (v := .agg (bv y63).toArray) rfl (by kernel_rfl) (by kernel_rfl) (by kernel_rfl) (by kernel_rfl) (by kernel_rfl) (fun _ _ _ h => h) (Or.inl ⟨by rfl, ?yqV7_8_4⟩) ?_
  case yqV7_8_4 => (intro W0 hSw; go_simp; try with_reducible rfl)
  try simp only [pu]
  refine mix_take (i := 5) (o := ⟨(some 66), _, _, _, _, _⟩) (v := .int .i64 k63) rfl (by kernel_rfl) (by kernel_rfl) (by kernel_rfl) (by kernel_rfl) (by kernel_rfl) (fun _ _ _ h => h) (Or.inl ⟨by rfl, ?yqV7_8_5⟩) ?_
  case yqV7_8_5 => (intro W0 hSw; go_simp; try with_reducible rfl)
  try simp only [pu]
  refine mix_end (by kernel_rfl) (by kernel_rfl) (by simp) (by simp) (fun x hx => by simp only [List.mem_cons, List.not_mem_nil, or_false] at hx; rcases hx with rfl | rfl <;> first | exact makes_new rfl rfl rfl rfl zero_word) (fun W x _ h => h.alloc h.size _) (fun D hD W21 hHeld hBX hHo => ?_)
  obtain ⟨G19, G20, rfl⟩ := v_two hD
  have xG19 : Hid (W21.heap[G19]? = some (.cells ((bv z32)).toArray 23 (0, 0))) := hHo.row (⟨6, 19, 23, ((bv z32)).toArray⟩, G19) (by simp)
  have lG19 : V7.heap.size ≤ G19 := hHo.new (⟨6, 19, 23, ((bv z32)).toArray⟩, G19) (by simp)
  have xG20 : Hid (W21.heap[G20]? = some (.cells ((bv z32)).toArray 23 (0, 0))) := hHo.row (⟨7, 20, 23, ((bv z32)).toArray⟩, G20) (by simp)
  have lG20 : V7.heap.size ≤ G20 := hHo.new (⟨7, 20, 23, ((bv z32)).toArray⟩, G20) (by simp)
  have hnd := hHo.nodup
  simp only [List.map_cons, List.map_nil, List.nodup_cons, List.mem_cons, List.not_mem_nil, or_false, not_false_eq_true, List.nodup_nil, and_true] at hnd
  have nG19G20 := hnd
  clear hnd
  clear hHo hBX hD
  simp only [markD, putD, List.foldr_cons, List.foldr_nil, pu, List.setIfInBounds_toArray, List.set_cons_zero, List.set_cons_succ]
  refine wpAnyH_ready (rs := [8]) (by kernel_rfl) (by simp) ?_
  refine AllReadyH.cons (i := 8) (o := ⟨none, _, _, _, _, _⟩) rfl (fun K hK => ?_) AllReadyH.nil
  refine step_row (by rfl) 23 (.tmp 19) (.tmp 64) rfl G19 (bv x63) rfl rfl 23 _ xG19.out (by rw [bv_len, h63.out]; kernel_rfl) (by rw [List.size_toArray, bv_len, bv_len, h63.out, z32_len]) (bv_one _) ?_
  intro W22 yG19 kG19
  have zG20 := row_but xG20 kG19 (by omega)
  clear xG20
  have xG20 := zG20
  clear zG20
  refine hK.out _ _ (But.below hHeld kG19 lG19 hHeld.size) (fun hHeld => ?_)
  clear hK K kG19 xG19
  have xG19 := yG19
  clear yG19
  try simp only [pu]
  refine wpAnyH_ready (rs := [9]) (by kernel_rfl) (by simp) ?_
  refine AllReadyH.cons (i := 9) (o := ⟨none, _, _, _, _, _⟩) rfl (fun K hK => ?_) AllReadyH.nil
  refine step_row (by rfl) 23 (.tmp 20) (.tmp 65) rfl G20 (bv y63) rfl rfl 23 _ xG20.out (by rw [bv_len, j63.out]; kernel_rfl) (by rw [List.size_toArray, bv_len, bv_len, j63.out, z32_len]) (bv_one _) ?_
  intro W23 yG20 kG20
  have zG19 := row_but xG19 kG20 (by omega)
  clear xG19
  have xG19 := zG19
  clear zG19
  refine hK.out _ _ (But.below hHeld kG20 lG20 hHeld.size) (fun hHeld => ?_)
  clear hK K kG20 xG20
  have xG20 := yG20
  clear yG20
  try simp only [pu]
  refine wpAnyH_take (i := 10) (oi := ⟨(some 21), _, _, _, _, _⟩) (v := ?vqV7_8_10) rfl (by kernel_rfl) (by kernel_rfl) (by kernel_rfl) (fun _ _ _ h => h) (Or.inl ⟨by rfl, ?yqV7_8_10⟩) hHeld ?_
  case yqV7_8_10 => (intro W0 hSw; go_simp; try with_reducible rfl)
  try simp only [pu]
  refine wpAnyH_done (by kernel_rfl) ?_ _
  obtain ⟨V8, rV8⟩ : ∃ X, X = W23 := ⟨_, rfl⟩
  subst rV8
  have gb0_V8 := row_next2 gb0_V7 hHeld
  have sb0_V8 := row_size gb0_V8
  have gb1_V8 := row_next2 gb1_V7 hHeld
  have sb1_V8 := row_size gb1_V8
  have gb2_V8 := row_next2 gb2_V7 hHeld
  have sb2_V8 := row_size gb2_V8
  have gn7_V8 := row_next2 gn7_V7 hHeld
  have sn7_V8 := row_size gn7_V8
  have gn9_V8 := row_next2 gn9_V7 hHeld
  have sn9_V8 := row_size gn9_V8
  have gn11_V8 := row_next2 gn11_V7 hHeld
  have sn11_V8 := row_size gn11_V8
  have gn13_V8 := row_next2 gn13_V7 hHeld
  have sn13_V8 := row_size gn13_V8
  have gn15_V8 := row_next2 gn15_V7 hHeld
  have sn15_V8 := row_size gn15_V8
  have gn17_V8 := row_next2 gn17_V7 hHeld
  have sn17_V8 := row_size gn17_V8
  have hb_V8 := below_next hb_V7 hb_V7.size hHeld
  have hlaV8 := hlaV7.next hHeld
  have gn19_V8 := xG19
  have sn19_V8 := row_size gn19_V8
  clear xG19
  have gn20_V8 := xG20
  have sn20_V8 := row_size gn20_V8
  clear xG20
  have wG19 : w.heap.size + 3 ≤ G19 := by omega
  have wG20 : w.heap.size + 3 ≤ G20 := by omega
  have nG7G19 : G7 ≠ G19 := by omega
  have nG9G19 : G9 ≠ G19 := by omega
  have nG11G19 : G11 ≠ G19 := by omega
  have nG13G19 : G13 ≠ G19 := by omega
  have nG15G19 : G15 ≠ G19 := by omega
  have nG17G19 : G17 ≠ G19 := by omega
  have nG7G20 : G7 ≠ G20 := by omega
  have nG9G20 : G9 ≠ G20 := by omega
  have nG11G20 : G11 ≠ G20 := by omega
  have nG13G20 : G13 ≠ G20 := by omega
  have nG15G20 : G15 ≠ G20 := by omega
  have nG17G20 : G17 ≠ G20 := by omega
  clear hHeld hb_V7 sb0_V7 sb1_V7 sb2_V7 sn7_V7 sn9_V7 sn11_V7 sn13_V7 sn15_V7 sn17_V7
  clear gb0_V7 gb1_V7 gb2_V7 gn7_V7 gn9_V7 gn11_V7 gn13_V7 gn15_V7 gn17_V7 hlaV7 lG19 lG20
  go_upto_region 10 with fail
  refine plain_start (S := fun W' => Below V8.heap.size V8 W') (by kernel_rfl) (Below.refl _ _) (fun hHeld => ?_)
  refine wpAnyH_take (i := 0) (oi := ⟨(some 68), _, _, _, _, _⟩) (v := _) rfl (by kernel_rfl) (by kernel_rfl) (by kernel_rfl) (fun _ _ _ h => h) (yieldsIf_load_mid (by rfl) _ _ rfl (w.heap.size) 0 rfl (bv a) _ (fun W' hW' => range_row ((hW'.block _ sb0_V8).trans gb0_V8.out)) (Tryd.underlying23) rfl (by rw [bv_len, Hha.out]; kernel_rfl)) hHeld ?_
  try simp only [pu]
  refine mix_start (B := V8.heap.size) (al := [⟨6, 22, 23, ((bv z32)).toArray⟩, ⟨7, 23, 23, ((bv z32)).toArray⟩]) (fuel := 8) rfl hHeld (hHeld.size) ?_
  clear hHeld
  refine mix_call (i := 1) (o := ⟨(some 69), _, _, _, _, _⟩) rfl (by kernel_rfl) (by kernel_rfl) (by kernel_rfl) (by kernel_rfl) (fun x hx => by simp only [List.mem_cons, List.not_mem_nil, or_false] at hx; rcases hx with rfl | rfl <;> first | exact makes_new rfl rfl rfl rfl zero_word) (fun W x _ h => h.alloc h.size _) (fun _ _ _ _ _ h => h) (fun X24 hHeld hBX K hK => ?_)
  go_simp
  refine (rpat_any _ a (Hha.out)).mono ?_
  rintro e W24 ⟨x69, y69, o69, rfl, e69, h69, j69, hb24⟩
  refine hK.out _ _ (below_next hHeld hHeld.size hb24) hb24 ?_
  clear hK K hHeld hBX hb24
  try simp only [pu]
  refine mix_take (i := 2) (o := ⟨(some 67), _, _, _, _, _⟩) (v := ?vqV8_9_2) rfl (by kernel_rfl) (by kernel_rfl) (by kernel_rfl) (by kernel_rfl) (by kernel_rfl) (fun _ _ _ h => h) (Or.inl ⟨by rfl, ?yqV8_9_2⟩) ?_
  case yqV8_9_2 => (intro W0 hSw; go_simp; try with_reducible rfl)
  try simp only [pu]
  refine mix_take (i := 3) (o := ⟨(some 70), _, _, _, _, _⟩) (v := .agg (bv x69).toArray) rfl (by kernel_rfl) (by kernel_rfl) (by kernel_rfl) (by kernel_rfl) (by kernel_rfl) (fun _ _ _ h => h) (Or.inl ⟨by rfl, ?yqV8_9_3⟩) ?_
  case yqV8_9_3 => (intro W0 hSw; go_simp; try with_reducible rfl)
  try simp only [pu]
  refine mix_take (i := 4) (o := ⟨(some 71), _, _, _, _, _⟩) (v := .agg (bv y69).toArray) rfl (by kernel_rfl) (by kernel_rfl) (by kernel_rfl) (by kernel_rfl) (by kernel_rfl) (fun _ _ _ h => h) (Or.inl ⟨by rfl, ?yqV8_9_4⟩) ?_
  case yqV8_9_4 => (intro W0 hSw; go_simp; try with_reducible rfl)
  try simp only [pu]
  refine mix_take (i := 5) (o := ⟨(some 72), _, _, _, _, _⟩) (v := .bool o69) rfl (by kernel_rfl) (by kernel_rfl) (by kernel_rfl) (by kernel_rfl) (by kernel_rfl) (fun _ _ _ h => h) (Or.inl ⟨by rfl, ?yqV8_9_5⟩) ?_
  case yqV8_9_5 => (intro W0 hSw; go_simp; try with_reducible rfl)
  try simp only [pu]
  refine mix_end (by kernel_rfl) (by kernel_rfl) (by simp) (by simp) (fun x hx => by simp only [List.mem_cons, List.not_mem_nil, or_false] at hx; rcases hx with rfl | rfl <;> first | exact makes_new rfl rfl rfl rfl zero_word) (fun W x _ h => h.alloc h.size _) (fun D hD W25 hHeld hBX hHo => ?_)
  obtain ⟨G22, G23, rfl⟩ := v_two hD
  have xG22 : Hid (W25.heap[G22]? = some (.cells ((bv z32)).toArray 23 (0, 0))) := hHo.row (⟨6, 22, 23, ((bv z32)).toArray⟩, G22) (by simp)
  have lG22 : V8.heap.size ≤ G22 := hHo.new (⟨6, 22, 23, ((bv z32)).toArray⟩, G22) (by simp)
  have xG23 : Hid (W25.heap[G23]? = some (.cells ((bv z32)).toArray 23 (0, 0))) := hHo.row (⟨7, 23, 23, ((bv z32)).toArray⟩, G23) (by simp)
  have lG23 : V8.heap.size ≤ G23 := hHo.new (⟨7, 23, 23, ((bv z32)).toArray⟩, G23) (by simp)
  have hnd := hHo.nodup
  simp only [List.map_cons, List.map_nil, List.nodup_cons, List.mem_cons, List.not_mem_nil, or_false, not_false_eq_true, List.nodup_nil, and_true] at hnd
  have nG22G23 := hnd
  clear hnd
  clear hHo hBX hD
  simp only [markD, putD, List.foldr_cons, List.foldr_nil, pu, List.setIfInBounds_toArray, List.set_cons_zero, List.set_cons_succ]
  refine wpAnyH_ready (rs := [8]) (by kernel_rfl) (by simp) ?_
  refine AllReadyH.cons (i := 8) (o := ⟨none, _, _, _, _, _⟩) rfl (fun K hK => ?_) AllReadyH.nil
  refine step_row (by rfl) 23 (.tmp 22) (.tmp 70) rfl G22 (bv x69) rfl rfl 23 _ xG22.out (by rw [bv_len, h69.out]; kernel_rfl) (by rw [List.size_toArray, bv_len, bv_len, h69.out, z32_len]) (bv_one _) ?_
  intro W26 yG22 kG22
  have zG23 := row_but xG23 kG22 (by omega)
  clear xG23
  have xG23 := zG23
  clear zG23
  refine hK.out _ _ (But.below hHeld kG22 lG22 hHeld.size) (fun hHeld => ?_)
  clear hK K kG22 xG22
  have xG22 := yG22
  clear yG22
  try simp only [pu]
  refine wpAnyH_ready (rs := [9]) (by kernel_rfl) (by simp) ?_
  refine AllReadyH.cons (i := 9) (o := ⟨none, _, _, _, _, _⟩) rfl (fun K hK => ?_) AllReadyH.nil
  refine step_row (by rfl) 23 (.tmp 23) (.tmp 71) rfl G23 (bv y69) rfl rfl 23 _ xG23.out (by rw [bv_len, j69.out]; kernel_rfl) (by rw [List.size_toArray, bv_len, bv_len, j69.out, z32_len]) (bv_one _) ?_
  intro W27 yG23 kG23
  have zG22 := row_but xG22 kG23 (by omega)
  clear xG22
  have xG22 := zG22
  clear zG22
  refine hK.out _ _ (But.below hHeld kG23 lG23 hHeld.size) (fun hHeld => ?_)
  clear hK K kG23 xG23
  have xG23 := yG23
  clear yG23
  try simp only [pu]
  refine wpAnyH_take (i := 10) (oi := ⟨(some 24), _, _, _, _, _⟩) (v := ?vqV8_9_10) rfl (by kernel_rfl) (by kernel_rfl) (by kernel_rfl) (fun _ _ _ h => h) (Or.inl ⟨by rfl, ?yqV8_9_10⟩) hHeld ?_
  case yqV8_9_10 => (intro W0 hSw; go_simp; try with_reducible rfl)
  try simp only [pu]
  refine wpAnyH_done (by kernel_rfl) ?_ _
  obtain ⟨V9, rV9⟩ : ∃ X, X = W27 := ⟨_, rfl⟩
  subst rV9
  have gb0_V9 := row_next2 gb0_V8 hHeld
  have sb0_V9 := row_size gb0_V9
  have gb1_V9 := row_next2 gb1_V8 hHeld
  have sb1_V9 := row_size gb1_V9
  have gb2_V9 := row_next2 gb2_V8 hHeld
  have sb2_V9 := row_size gb2_V9
  have gn7_V9 := row_next2 gn7_V8 hHeld
  have sn7_V9 := row_size gn7_V9
  have gn9_V9 := row_next2 gn9_V8 hHeld
  have sn9_V9 := row_size gn9_V9
  have gn11_V9 := row_next2 gn11_V8 hHeld
  have sn11_V9 := row_size gn11_V9
  have gn13_V9 := row_next2 gn13_V8 hHeld
  have sn13_V9 := row_size gn13_V9
  have gn15_V9 := row_next2 gn15_V8 hHeld
  have sn15_V9 := row_size gn15_V9
  have gn17_V9 := row_next2 gn17_V8 hHeld
  have sn17_V9 := row_size gn17_V9
  have gn19_V9 := row_next2 gn19_V8 hHeld
  have sn19_V9 := row_size gn19_V9
  have gn20_V9 := row_next2 gn20_V8 hHeld
  have sn20_V9 := row_size gn20_V9
  have hb_V9 := below_next hb_V8 hb_V8.size hHeld
  have hlaV9 := hlaV8.next hHeld
  have gn22_V9 := xG22
  have sn22_V9 := row_size gn22_V9
  clear xG22
  have gn23_V9 := xG23
  have sn23_V9 := row_size gn23_V9
  clear xG23
  have wG22 : w.heap.size + 3 ≤ G22 := by omega
  have wG23 : w.heap.size + 3 ≤ G23 := by omega
  have nG7G22 : G7 ≠ G22 := by omega
  have nG9G22 : G9 ≠ G22 := by omega
  have nG11G22 : G11 ≠ G22 := by omega
  have nG13G22 : G13 ≠ G22 := by omega
  have nG15G22 : G15 ≠ G22 := by omega
  have nG17G22 : G17 ≠ G22 := by omega
  have nG19G22 : G19 ≠ G22 := by omega
  have nG20G22 : G20 ≠ G22 := by omega
  have nG7G23 : G7 ≠ G23 := by omega
  have nG9G23 : G9 ≠ G23 := by omega
  have nG11G23 : G11 ≠ G23 := by omega
  have nG13G23 : G13 ≠ G23 := by omega
  have nG15G23 : G15 ≠ G23 := by omega
  have nG17G23 : G17 ≠ G23 := by omega
  have nG19G23 : G19 ≠ G23 := by omega
  have nG20G23 : G20 ≠ G23 := by omega
  clear hHeld hb_V8 sb0_V8 sb1_V8 sb2_V8 sn7_V8 sn9_V8 sn11_V8 sn13_V8 sn15_V8 sn17_V8 sn19_V8 sn20_V8
  clear gb0_V8 gb1_V8 gb2_V8 gn7_V8 gn9_V8 gn11_V8 gn13_V8 gn15_V8 gn17_V8 gn19_V8 gn20_V8 hlaV8 lG22 lG23
  obtain ⟨o, p, ho, hp, z1, z2, z3, z4, z5, z6, z7, z8, z9, z10, z11, z12, z13⟩ := says_all (n := n) e30.out e36.out e41.out e46.out e52.out e58.out e63.out e69.out
  obtain rfl := ptIs_only ho HPO.out
  clear ho hp e30 e36 e41 e46 e52 e58 e63 e69
  subst z1
  subst z4
  subst z7
  subst z10
  subst z11
  obtain rfl : k30 = 3 := z2
  obtain rfl : o36 = false := z3
  obtain rfl : k41 = 3 := z5
  obtain rfl : o46 = false := z6
  obtain rfl : k52 = 3 := z8
  obtain rfl : o58 = false := z9
  obtain rfl : k63 = 3 := z12
  obtain rfl : o69 = false := z13
  go_upto_region 11 with fail
  refine wp_region_lit ?_
  refine wpList_load_row_w (by rfl) 23 (.tmp 3) rfl (w.heap.size) rfl 23 (bv a).toArray (0, 0) _ gb0_V9.out Tryd.underlying23 rfl (by rw [bv_size a (Hha.out)]; kernel_rfl) ?_
  try simp only [pu]
  refine wpl_call rfl fun K hK => ?_
  go_simp
  refine (pgood_any _ hlaV9 a Hha.out).mono ?_
  rintro e V10 ⟨o74, rfl, e74, hb74⟩
  obtain rfl : o74 = false := good_as e74.out HPO.out
  clear e74 hlaV9
  have gb0_V10 := row_next2 gb0_V9 hb74
  have gb1_V10 := row_next2 gb1_V9 hb74
  have gb2_V10 := row_next2 gb2_V9 hb74
  have gn7_V10 := row_next2 gn7_V9 hb74
  have gn9_V10 := row_next2 gn9_V9 hb74
  have gn11_V10 := row_next2 gn11_V9 hb74
  have gn13_V10 := row_next2 gn13_V9 hb74
  have gn15_V10 := row_next2 gn15_V9 hb74
  have gn17_V10 := row_next2 gn17_V9 hb74
  have gn19_V10 := row_next2 gn19_V9 hb74
  have gn20_V10 := row_next2 gn20_V9 hb74
  have gn22_V10 := row_next2 gn22_V9 hb74
  have gn23_V10 := row_next2 gn23_V9 hb74
  have hb_V10 := below_next hb_V9 hb_V9.size hb74
  refine hK.out _ _ ?_
  clear hK K hb74 hb_V9 gb0_V9 sb0_V9 gb1_V9 sb1_V9 gb2_V9 sb2_V9 gn7_V9 sn7_V9 gn9_V9 sn9_V9 gn11_V9 sn11_V9 gn13_V9 sn13_V9 gn15_V9 sn15_V9 gn17_V9 sn17_V9 gn19_V9 sn19_V9 gn20_V9 sn20_V9 gn22_V9 sn22_V9 gn23_V9 sn23_V9
  try simp only [pu]
  refine wpl_take (v := .bool false) (by rfl) (by go_simp) ?_
  try simp only [pu]
  refine wpl_take (v := .bool true) (by rfl) (by go_simp) ?_
  try simp only [pu]
  refine wpl_take (v := .bool true) (by rfl) (by go_simp) ?_
  try simp only [pu]
  refine wpList_load_row_w (by rfl) 23 (.tmp 7) rfl G7 rfl 23 (bv v30).toArray (0, 0) _ gn7_V10.out Tryd.underlying23 rfl (by rw [bv_size v30 (h30.out)]; kernel_rfl) ?_
  try simp only [pu]
  refine wpList_load_row_w (by rfl) 23 (.tmp 9) rfl G9 rfl 23 (bv v30).toArray (0, 0) _ gn9_V10.out Tryd.underlying23 rfl (by rw [bv_size v30 (h30.out)]; kernel_rfl) ?_
  try simp only [pu]
  refine wpList_eql_w (by rfl) 23 _ (.tmp 78) (.tmp 79) rfl (by kernel_rfl) (bv v30).toArray (bv v30).toArray rfl rfl true (eql_bytes_same (P := Tryd.prog) Tryd.underlying23 Tryd.underlying5 Tryd.sizeByte v30 (h30.out) _) ?_
  try simp only [pu]
  refine wpl_take (v := .bool true) (by rfl) (by go_simp) ?_
  try simp only [pu]
  refine wpl_take (v := .bool true) (by rfl) (by go_simp) ?_
  try simp only [pu]
  refine wpl_take (v := .int .i64 3) (by rfl) (by go_simp) ?_
  try simp only [pu]
  refine wpl_take (v := .bool false) (by rfl) (by go_simp) ?_
  try simp only [pu]
  refine wpl_take (v := .bool false) (by rfl) (by go_simp) ?_
  try simp only [pu]
  refine wpl_take (v := .bool true) (by rfl) (by go_simp) ?_
  try simp only [pu]
  refine wpl_take (v := .bool true) (by rfl) (by go_simp) ?_
  try simp only [pu]
  refine wpl_take (v := .bool true) (by rfl) (by go_simp) ?_
  try simp only [pu]
  refine wpl_take (v := .bool false) (by rfl) (by go_simp) ?_
  try simp only [pu]
  refine wpl_take (v := .bool false) (by rfl) (by go_simp) ?_
  try simp only [pu]
  refine wpl_take (v := .int .i64 3) (by rfl) (by go_simp) ?_
  try simp only [pu]
  refine wpl_take (v := .bool true) (by rfl) (by go_simp) ?_
  try simp only [pu]
  refine wpl_take (v := .bool true) (by rfl) (by go_simp) ?_
  try simp only [pu]
  refine wpl_take (v := .bool true) (by rfl) (by go_simp) ?_
  try simp only [pu]
  refine wpl_take (v := .bool true) (by rfl) (by go_simp) ?_
  try simp only [pu]
  refine wpList_load_row_w (by rfl) 23 (.tmp 11) rfl G11 rfl 23 (bv v41).toArray (0, 0) _ gn11_V10.out Tryd.underlying23 rfl (by rw [bv_size v41 (h41.out)]; kernel_rfl) ?_
  try simp only [pu]
  refine wpList_load_row_w (by rfl) 23 (.tmp 13) rfl G13 rfl 23 (bv v41).toArray (0, 0) _ gn13_V10.out Tryd.underlying23 rfl (by rw [bv_size v41 (h41.out)]; kernel_rfl) ?_
  try simp only [pu]
  refine wpList_eql_w (by rfl) 23 _ (.tmp 96) (.tmp 97) rfl (by kernel_rfl) (bv v41).toArray (bv v41).toArray rfl rfl true (eql_bytes_same (P := Tryd.prog) Tryd.underlying23 Tryd.underlying5 Tryd.sizeByte v41 (h41.out) _) ?_
  try simp only [pu]
  refine wpl_take (v := .bool true) (by rfl) (by go_simp) ?_
  try simp only [pu]
  refine wpl_take (v := .bool true) (by rfl) (by go_simp) ?_
  try simp only [pu]
  refine wpl_take (v := .int .i64 3) (by rfl) (by go_simp) ?_
  try simp only [pu]
  refine wpl_take (v := .bool false) (by rfl) (by go_simp) ?_
  try simp only [pu]
  refine wpl_take (v := .bool false) (by rfl) (by go_simp) ?_
  try simp only [pu]
  refine wpl_take (v := .bool true) (by rfl) (by go_simp) ?_
  try simp only [pu]
  refine wpl_take (v := .bool true) (by rfl) (by go_simp) ?_
  try simp only [pu]
  refine wpl_take (v := .bool true) (by rfl) (by go_simp) ?_
  try simp only [pu]
  refine wpl_take (v := .bool false) (by rfl) (by go_simp) ?_
  try simp only [pu]
  refine wpl_take (v := .bool false) (by rfl) (by go_simp) ?_
  try simp only [pu]
  refine wpl_take (v := .int .i64 3) (by rfl) (by go_simp) ?_
  try simp only [pu]
  refine wpl_take (v := .bool true) (by rfl) (by go_simp) ?_
  try simp only [pu]
  refine wpl_take (v := .bool true) (by rfl) (by go_simp) ?_
  try simp only [pu]
  refine wpl_take (v := .bool true) (by rfl) (by go_simp) ?_
  try simp only [pu]
  refine wpl_take (v := .bool true) (by rfl) (by go_simp) ?_
  try simp only [pu]
  refine wpList_load_row_w (by rfl) 23 (.tmp 15) rfl G15 rfl 23 (bv v52).toArray (0, 0) _ gn15_V10.out Tryd.underlying23 rfl (by rw [bv_size v52 (h52.out)]; kernel_rfl) ?_
  try simp only [pu]
  refine wpList_load_row_w (by rfl) 23 (.tmp 17) rfl G17 rfl 23 (bv v52).toArray (0, 0) _ gn17_V10.out Tryd.underlying23 rfl (by rw [bv_size v52 (h52.out)]; kernel_rfl) ?_
  try simp only [pu]
  refine wpList_eql_w (by rfl) 23 _ (.tmp 114) (.tmp 115) rfl (by kernel_rfl) (bv v52).toArray (bv v52).toArray rfl rfl true (eql_bytes_same (P := Tryd.prog) Tryd.underlying23 Tryd.underlying5 Tryd.sizeByte v52 (h52.out) _) ?_
  try simp only [pu]
  refine wpl_take (v := .bool true) (by rfl) (by go_simp) ?_
  try simp only [pu]
  refine wpl_take (v := .bool true) (by rfl) (by go_simp) ?_
  try simp only [pu]
  refine wpl_take (v := .int .i64 3) (by rfl) (by go_simp) ?_
  try simp only [pu]
  refine wpl_take (v := .bool false) (by rfl) (by go_simp) ?_
  try simp only [pu]
  refine wpl_take (v := .bool false) (by rfl) (by go_simp) ?_
  try simp only [pu]
  refine wpl_take (v := .bool true) (by rfl) (by go_simp) ?_
  try simp only [pu]
  refine wpl_take (v := .bool true) (by rfl) (by go_simp) ?_
  try simp only [pu]
  refine wpl_take (v := .bool true) (by rfl) (by go_simp) ?_
  try simp only [pu]
  refine wpl_take (v := .bool false) (by rfl) (by go_simp) ?_
  try simp only [pu]
  refine wpl_take (v := .bool false) (by rfl) (by go_simp) ?_
  try simp only [pu]
  refine wpl_take (v := .int .i64 3) (by rfl) (by go_simp) ?_
  try simp only [pu]
  refine wpl_take (v := .bool true) (by rfl) (by go_simp) ?_
  try simp only [pu]
  refine wpl_take (v := .bool true) (by rfl) (by go_simp) ?_
  try simp only [pu]
  refine wpl_take (v := .bool true) (by rfl) (by go_simp) ?_
  try simp only [pu]
  refine wpl_take (v := .bool true) (by rfl) (by go_simp) ?_
  try simp only [pu]
  refine wpList_load_row_w (by rfl) 23 (.tmp 19) rfl G19 rfl 23 (bv x63).toArray (0, 0) _ gn19_V10.out Tryd.underlying23 rfl (by rw [bv_size x63 (h63.out)]; kernel_rfl) ?_
  try simp only [pu]
  refine wpList_load_row_w (by rfl) 23 (.tmp 22) rfl G22 rfl 23 (bv x63).toArray (0, 0) _ gn22_V10.out Tryd.underlying23 rfl (by rw [bv_size x63 (h63.out)]; kernel_rfl) ?_
  try simp only [pu]
  refine wpList_eql_w (by rfl) 23 _ (.tmp 132) (.tmp 133) rfl (by kernel_rfl) (bv x63).toArray (bv x63).toArray rfl rfl true (eql_bytes_same (P := Tryd.prog) Tryd.underlying23 Tryd.underlying5 Tryd.sizeByte x63 (h63.out) _) ?_
  try simp only [pu]
  refine wpl_take (v := .bool true) (by rfl) (by go_simp) ?_
  try simp only [pu]
  refine wpl_take (v := .bool true) (by rfl) (by go_simp) ?_
  try simp only [pu]
  refine wpList_load_row_w (by rfl) 23 (.tmp 20) rfl G20 rfl 23 (bv y63).toArray (0, 0) _ gn20_V10.out Tryd.underlying23 rfl (by rw [bv_size y63 (j63.out)]; kernel_rfl) ?_
  try simp only [pu]
  refine wpList_load_row_w (by rfl) 23 (.tmp 23) rfl G23 rfl 23 (bv y63).toArray (0, 0) _ gn23_V10.out Tryd.underlying23 rfl (by rw [bv_size y63 (j63.out)]; kernel_rfl) ?_
  try simp only [pu]
  refine wpList_eql_w (by rfl) 23 _ (.tmp 137) (.tmp 138) rfl (by kernel_rfl) (bv y63).toArray (bv y63).toArray rfl rfl true (eql_bytes_same (P := Tryd.prog) Tryd.underlying23 Tryd.underlying5 Tryd.sizeByte y63 (j63.out) _) ?_
  try simp only [pu]
  refine wpl_take (v := .bool true) (by rfl) (by go_simp) ?_
  try simp only [pu]
  refine wpl_take (v := .bool true) (by rfl) (by go_simp) ?_
  try simp only [pu]
  refine wpl_take (v := .int .i64 3) (by rfl) (by go_simp) ?_
  try simp only [pu]
  refine wpl_take (v := .bool false) (by rfl) (by go_simp) ?_
  try simp only [pu]
  refine wpl_take (v := .bool false) (by rfl) (by go_simp) ?_
  try simp only [pu]
  refine wpl_take (v := .bool true) (by rfl) (by go_simp) ?_
  try simp only [pu]
  refine wpl_take (v := .bool true) (by rfl) (by go_simp) ?_
  try simp only [pu]
  refine wpl_take (v := .bool true) (by rfl) (by go_simp) ?_
  try simp only [pu]
  refine wpl_take (v := .bool false) (by rfl) (by go_simp) ?_
  try simp only [pu]
  refine wpl_take (v := .bool false) (by rfl) (by go_simp) ?_
  try simp only [pu]
  refine wpl_take (v := .int .i64 3) (by rfl) (by go_simp) ?_
  try simp only [pu]
  refine wpl_take (v := .bool true) (by rfl) (by go_simp) ?_
  try simp only [pu]
  refine wpl_take (v := .bool true) (by rfl) (by go_simp) ?_
  try simp only [pu]
  refine wpl_take (v := .bool true) (by rfl) (by go_simp) ?_
  try simp only [pu]
  refine wpl_take (v := .bool true) (by rfl) (by go_simp) ?_
  try simp only [pu]
  refine wpl_nil ?_
  go_wp2
  go_ret
  exact ⟨rfl, hb_V10⟩
end Go.Proofs.YtehkalbiomagjaaDoor
namespace Go.Proofs.YtehkalbiomagjaaDoor
open Go.RowKit

set_option maxRecDepth 100000 in
set_option maxHeartbeats 4000000 in
theorem says_PtSm (w : World) (hla : LaidP w) (a : List UInt8) (ha : a.length = 32) (b : List UInt8) (hb : b.length = 32) (n : List UInt8) (hn : n.length = 32) (P : PtE) (hoa : PtIs a (some P)) (hpb : PtIs b (none)) :
    Calls Tryd.prog 3 #[.agg (bv a).toArray, .agg (bv b).toArray, .agg (bv n).toArray] w fun e w' => e = .returned (.bool true) ∧ Below w.heap.size w w' := by
  have hzw := zero_word
  have HPO := vlt hoa
  clear hoa
  have HPB := vlt hpb
  clear hpb
  obtain ⟨V0, hW, gb0_V0, gb1_V0, gb2_V0, hb_V0, hsW⟩ := three_new w (bv a).toArray (bv b).toArray (bv n).toArray 23 23 23
  have HW := Lib.hid hW
  have Hha := Lib.hid ha
  have Hhb := Lib.hid hb
  have Hhn := Lib.hid hn
  have sb0_V0 := row_size gb0_V0
  have sb1_V0 := row_size gb1_V0
  have sb2_V0 := row_size gb2_V0
  have hlaV0 := hla.next hb_V0
  have gl1 := hla.size
  have gl2 := hla.turn.2
  clear hla
  clear hW hsW ha hb hn
  go_enter Tryd.func3, Tryd.ntmps3
  go_upto_region 1 with fail
  rw [HW.out]
  refine plain_start (S := fun W' => Below V0.heap.size V0 W') (by kernel_rfl) (Below.refl _ _) (fun hHeld => ?_)
  refine wpAnyH_ready (rs := [0]) (by kernel_rfl) (by simp) ?_
  refine AllReadyH.cons (i := 0) (o := ⟨(some 25), _, _, _, _, _⟩) rfl (fun K hK => ?_) AllReadyH.nil
  go_simp
  refine (awake9_any _ hlaV0).mono ?_
  rintro e W1 ⟨rfl, hb1⟩
  refine hK.out _ _ (below_next hHeld hHeld.size hb1) (fun hHeld => ?_)
  clear hK K hb1
  try simp only [pu]
  refine wpAnyH_take (i := 1) (oi := ⟨(some 26), _, _, _, _, _⟩) (v := ?vqV0_1_1) rfl (by kernel_rfl) (by kernel_rfl) (by kernel_rfl) (fun _ _ _ h => h) (Or.inl ⟨by rfl, ?yqV0_1_1⟩) hHeld ?_
  case yqV0_1_1 => (intro W0 hSw; go_simp; try with_reducible rfl)
  try simp only [pu]
  refine wpAnyH_done (by kernel_rfl) ?_ _
  obtain ⟨V1, rV1⟩ : ∃ X, X = W1 := ⟨_, rfl⟩
  subst rV1
  have gb0_V1 := row_next2 gb0_V0 hHeld
  have sb0_V1 := row_size gb0_V1
  have gb1_V1 := row_next2 gb1_V0 hHeld
  have sb1_V1 := row_size gb1_V1
  have gb2_V1 := row_next2 gb2_V0 hHeld
  have sb2_V1 := row_size gb2_V1
  have hb_V1 := below_next hb_V0 hb_V0.size hHeld
  have hlaV1 := hlaV0.next hHeld
  clear hHeld hb_V0 sb0_V0 sb1_V0 sb2_V0
  clear gb0_V0 gb1_V0 gb2_V0 hlaV0
  go_upto_region 3 with fail
  refine plain_start (S := fun W' => Below V1.heap.size V1 W') (by kernel_rfl) (Below.refl _ _) (fun hHeld => ?_)
  refine wpAnyH_take (i := 0) (oi := ⟨(some 28), _, _, _, _, _⟩) (v := _) rfl (by kernel_rfl) (by kernel_rfl) (by kernel_rfl) (fun _ _ _ h => h) (yieldsIf_load_mid (by rfl) _ _ rfl (w.heap.size) 0 rfl (bv a) _ (fun W' hW' => range_row ((hW'.block _ sb0_V1).trans gb0_V1.out)) (Tryd.underlying23) rfl (by rw [bv_len, Hha.out]; kernel_rfl)) hHeld ?_
  try simp only [pu]
  refine wpAnyH_take (i := 1) (oi := ⟨(some 29), _, _, _, _, _⟩) (v := _) rfl (by kernel_rfl) (by kernel_rfl) (by kernel_rfl) (fun _ _ _ h => h) (yieldsIf_load_mid (by rfl) _ _ rfl (w.heap.size + 1) 0 rfl (bv b) _ (fun W' hW' => range_row ((hW'.block _ sb1_V1).trans gb1_V1.out)) (Tryd.underlying23) rfl (by rw [bv_len, Hhb.out]; kernel_rfl)) hHeld ?_
  try simp only [pu]
  refine mix_start (B := V1.heap.size) (al := [⟨6, 7, 23, ((bv z32)).toArray⟩]) (fuel := 6) rfl hHeld (hHeld.size) ?_
  clear hHeld
  refine mix_call (i := 2) (o := ⟨(some 30), _, _, _, _, _⟩) rfl (by kernel_rfl) (by kernel_rfl) (by kernel_rfl) (by kernel_rfl) (fun x hx => by simp only [List.mem_cons, List.not_mem_nil, or_false] at hx; rcases hx with rfl <;> first | exact makes_new rfl rfl rfl rfl zero_word) (fun W x _ h => h.alloc h.size _) (fun _ _ _ _ _ h => h) (fun X2 hHeld hBX K hK => ?_)
  go_simp
  refine (padd_any _ (hlaV1.next hHeld) a b (Hha.out) (Hhb.out)).mono ?_
  rintro e W2 ⟨v30, k30, rfl, e30, h30, hb2⟩
  refine hK.out _ _ (below_next hHeld hHeld.size hb2) hb2 ?_
  clear hK K hHeld hBX hb2
  try simp only [pu]
  refine mix_take (i := 3) (o := ⟨(some 27), _, _, _, _, _⟩) (v := ?vqV1_2_3) rfl (by kernel_rfl) (by kernel_rfl) (by kernel_rfl) (by kernel_rfl) (by kernel_rfl) (fun _ _ _ h => h) (Or.inl ⟨by rfl, ?yqV1_2_3⟩) ?_
  case yqV1_2_3 => (intro W0 hSw; go_simp; try with_reducible rfl)
  try simp only [pu]
  refine mix_take (i := 4) (o := ⟨(some 31), _, _, _, _, _⟩) (v := .agg (bv v30).toArray) rfl (by kernel_rfl) (by kernel_rfl) (by kernel_rfl) (by kernel_rfl) (by kernel_rfl) (fun _ _ _ h => h) (Or.inl ⟨by rfl, ?yqV1_2_4⟩) ?_
  case yqV1_2_4 => (intro W0 hSw; go_simp; try with_reducible rfl)
  try simp only [pu]
  refine mix_take (i := 5) (o := ⟨(some 32), _, _, _, _, _⟩) (v := .int .i64 k30) rfl (by kernel_rfl) (by kernel_rfl) (by kernel_rfl) (by kernel_rfl) (by kernel_rfl) (fun _ _ _ h => h) (Or.inl ⟨by rfl, ?yqV1_2_5⟩) ?_
  case yqV1_2_5 => (intro W0 hSw; go_simp; try with_reducible rfl)
  try simp only [pu]
  refine mix_end (by kernel_rfl) (by kernel_rfl) (by simp) (by simp) (fun x hx => by simp only [List.mem_cons, List.not_mem_nil, or_false] at hx; rcases hx with rfl <;> first | exact makes_new rfl rfl rfl rfl zero_word) (fun W x _ h => h.alloc h.size _) (fun D hD W3 hHeld hBX hHo => ?_)
  obtain ⟨G7, rfl⟩ := v_one hD
  have xG7 : Hid (W3.heap[G7]? = some (.cells ((bv z32)).toArray 23 (0, 0))) := hHo.row (⟨6, 7, 23, ((bv z32)).toArray⟩, G7) (by simp)
  have lG7 : V1.heap.size ≤ G7 := hHo.new (⟨6, 7, 23, ((bv z32)).toArray⟩, G7) (by simp)
  clear hHo hBX hD
  simp only [markD, putD, List.foldr_cons, List.foldr_nil, pu, List.setIfInBounds_toArray, List.set_cons_zero, List.set_cons_succ]
  refine wpAnyH_ready (rs := [7]) (by kernel_rfl) (by simp) ?_
  refine AllReadyH.cons (i := 7) (o := ⟨none, _, _, _, _, _⟩) rfl (fun K hK => ?_) AllReadyH.nil
  refine step_row (by rfl) 23 (.tmp 7) (.tmp 31) rfl G7 (bv v30) rfl rfl 23 _ xG7.out (by rw [bv_len, h30.out]; kernel_rfl) (by rw [List.size_toArray, bv_len, bv_len, h30.out, z32_len]) (bv_one _) ?_
  intro W4 yG7 kG7
  refine hK.out _ _ (But.below hHeld kG7 lG7 hHeld.size) (fun hHeld => ?_)
  clear hK K kG7 xG7
  have xG7 := yG7
  clear yG7
  try simp only [pu]
  refine wpAnyH_take (i := 8) (oi := ⟨(some 8), _, _, _, _, _⟩) (v := ?vqV1_2_8) rfl (by kernel_rfl) (by kernel_rfl) (by kernel_rfl) (fun _ _ _ h => h) (Or.inl ⟨by rfl, ?yqV1_2_8⟩) hHeld ?_
  case yqV1_2_8 => (intro W0 hSw; go_simp; try with_reducible rfl)
  try simp only [pu]
  refine wpAnyH_done (by kernel_rfl) ?_ _
  obtain ⟨V2, rV2⟩ : ∃ X, X = W4 := ⟨_, rfl⟩
  subst rV2
  have gb0_V2 := row_next2 gb0_V1 hHeld
  have sb0_V2 := row_size gb0_V2
  have gb1_V2 := row_next2 gb1_V1 hHeld
  have sb1_V2 := row_size gb1_V2
  have gb2_V2 := row_next2 gb2_V1 hHeld
  have sb2_V2 := row_size gb2_V2
  have hb_V2 := below_next hb_V1 hb_V1.size hHeld
  have hlaV2 := hlaV1.next hHeld
  have gn7_V2 := xG7
  have sn7_V2 := row_size gn7_V2
  clear xG7
  have wG7 : w.heap.size + 3 ≤ G7 := by omega
  clear hHeld hb_V1 sb0_V1 sb1_V1 sb2_V1
  clear gb0_V1 gb1_V1 gb2_V1 hlaV1 lG7
  go_upto_region 4 with fail
  refine plain_start (S := fun W' => Below V2.heap.size V2 W') (by kernel_rfl) (Below.refl _ _) (fun hHeld => ?_)
  refine wpAnyH_take (i := 0) (oi := ⟨(some 34), _, _, _, _, _⟩) (v := _) rfl (by kernel_rfl) (by kernel_rfl) (by kernel_rfl) (fun _ _ _ h => h) (yieldsIf_load_mid (by rfl) _ _ rfl (w.heap.size) 0 rfl (bv a) _ (fun W' hW' => range_row ((hW'.block _ sb0_V2).trans gb0_V2.out)) (Tryd.underlying23) rfl (by rw [bv_len, Hha.out]; kernel_rfl)) hHeld ?_
  try simp only [pu]
  refine wpAnyH_take (i := 1) (oi := ⟨(some 35), _, _, _, _, _⟩) (v := _) rfl (by kernel_rfl) (by kernel_rfl) (by kernel_rfl) (fun _ _ _ h => h) (yieldsIf_load_mid (by rfl) _ _ rfl (w.heap.size + 1) 0 rfl (bv b) _ (fun W' hW' => range_row ((hW'.block _ sb1_V2).trans gb1_V2.out)) (Tryd.underlying23) rfl (by rw [bv_len, Hhb.out]; kernel_rfl)) hHeld ?_
  try simp only [pu]
  refine mix_start (B := V2.heap.size) (al := [⟨6, 9, 23, ((bv z32)).toArray⟩]) (fuel := 6) rfl hHeld (hHeld.size) ?_
  clear hHeld
  refine mix_call (i := 2) (o := ⟨(some 36), _, _, _, _, _⟩) rfl (by kernel_rfl) (by kernel_rfl) (by kernel_rfl) (by kernel_rfl) (fun x hx => by simp only [List.mem_cons, List.not_mem_nil, or_false] at hx; rcases hx with rfl <;> first | exact makes_new rfl rfl rfl rfl zero_word) (fun W x _ h => h.alloc h.size _) (fun _ _ _ _ _ h => h) (fun X5 hHeld hBX K hK => ?_)
  go_simp
  refine (rpadd_any _ a b (Hha.out) (Hhb.out)).mono ?_
  rintro e W5 ⟨v36, o36, rfl, e36, h36, hb5⟩
  refine hK.out _ _ (below_next hHeld hHeld.size hb5) hb5 ?_
  clear hK K hHeld hBX hb5
  try simp only [pu]
  refine mix_take (i := 3) (o := ⟨(some 33), _, _, _, _, _⟩) (v := ?vqV2_3_3) rfl (by kernel_rfl) (by kernel_rfl) (by kernel_rfl) (by kernel_rfl) (by kernel_rfl) (fun _ _ _ h => h) (Or.inl ⟨by rfl, ?yqV2_3_3⟩) ?_
  case yqV2_3_3 => (intro W0 hSw; go_simp; try with_reducible rfl)
  try simp only [pu]
  refine mix_take (i := 4) (o := ⟨(some 37), _, _, _, _, _⟩) (v := .agg (bv v36).toArray) rfl (by kernel_rfl) (by kernel_rfl) (by kernel_rfl) (by kernel_rfl) (by kernel_rfl) (fun _ _ _ h => h) (Or.inl ⟨by rfl, ?yqV2_3_4⟩) ?_
  case yqV2_3_4 => (intro W0 hSw; go_simp; try with_reducible rfl)
  try simp only [pu]
  refine mix_take (i := 5) (o := ⟨(some 38), _, _, _, _, _⟩) (v := .bool o36) rfl (by kernel_rfl) (by kernel_rfl) (by kernel_rfl) (by kernel_rfl) (by kernel_rfl) (fun _ _ _ h => h) (Or.inl ⟨by rfl, ?yqV2_3_5⟩) ?_
  case yqV2_3_5 => (intro W0 hSw; go_simp; try with_reducible rfl)
  try simp only [pu]
  refine mix_end (by kernel_rfl) (by kernel_rfl) (by simp) (by simp) (fun x hx => by simp only [List.mem_cons, List.not_mem_nil, or_false] at hx; rcases hx with rfl <;> first | exact makes_new rfl rfl rfl rfl zero_word) (fun W x _ h => h.alloc h.size _) (fun D hD W6 hHeld hBX hHo => ?_)
  obtain ⟨G9, rfl⟩ := v_one hD
  have xG9 : Hid (W6.heap[G9]? = some (.cells ((bv z32)).toArray 23 (0, 0))) := hHo.row (⟨6, 9, 23, ((bv z32)).toArray⟩, G9) (by simp)
  have lG9 : V2.heap.size ≤ G9 := hHo.new (⟨6, 9, 23, ((bv z32)).toArray⟩, G9) (by simp)
  clear hHo hBX hD
  simp only [markD, putD, List.foldr_cons, List.foldr_nil, pu, List.setIfInBounds_toArray, List.set_cons_zero, List.set_cons_succ]
  refine wpAnyH_ready (rs := [7]) (by kernel_rfl) (by simp) ?_
  refine AllReadyH.cons (i := 7) (o := ⟨none, _, _, _, _, _⟩) rfl (fun K hK => ?_) AllReadyH.nil
  refine step_row (by rfl) 23 (.tmp 9) (.tmp 37) rfl G9 (bv v36) rfl rfl 23 _ xG9.out (by rw [bv_len, h36.out]; kernel_rfl) (by rw [List.size_toArray, bv_len, bv_len, h36.out, z32_len]) (bv_one _) ?_
  intro W7 yG9 kG9
  refine hK.out _ _ (But.below hHeld kG9 lG9 hHeld.size) (fun hHeld => ?_)
  clear hK K kG9 xG9
  have xG9 := yG9
  clear yG9
  try simp only [pu]
  refine wpAnyH_take (i := 8) (oi := ⟨(some 10), _, _, _, _, _⟩) (v := ?vqV2_3_8) rfl (by kernel_rfl) (by kernel_rfl) (by kernel_rfl) (fun _ _ _ h => h) (Or.inl ⟨by rfl, ?yqV2_3_8⟩) hHeld ?_
  case yqV2_3_8 => (intro W0 hSw; go_simp; try with_reducible rfl)
  try simp only [pu]
  refine wpAnyH_done (by kernel_rfl) ?_ _
  obtain ⟨V3, rV3⟩ : ∃ X, X = W7 := ⟨_, rfl⟩
  subst rV3
  have gb0_V3 := row_next2 gb0_V2 hHeld
  have sb0_V3 := row_size gb0_V3
  have gb1_V3 := row_next2 gb1_V2 hHeld
  have sb1_V3 := row_size gb1_V3
  have gb2_V3 := row_next2 gb2_V2 hHeld
  have sb2_V3 := row_size gb2_V3
  have gn7_V3 := row_next2 gn7_V2 hHeld
  have sn7_V3 := row_size gn7_V3
  have hb_V3 := below_next hb_V2 hb_V2.size hHeld
  have hlaV3 := hlaV2.next hHeld
  have gn9_V3 := xG9
  have sn9_V3 := row_size gn9_V3
  clear xG9
  have wG9 : w.heap.size + 3 ≤ G9 := by omega
  have nG7G9 : G7 ≠ G9 := by omega
  clear hHeld hb_V2 sb0_V2 sb1_V2 sb2_V2 sn7_V2
  clear gb0_V2 gb1_V2 gb2_V2 gn7_V2 hlaV2 lG9
  go_upto_region 5 with fail
  refine plain_start (S := fun W' => Below V3.heap.size V3 W') (by kernel_rfl) (Below.refl _ _) (fun hHeld => ?_)
  refine wpAnyH_take (i := 0) (oi := ⟨(some 40), _, _, _, _, _⟩) (v := _) rfl (by kernel_rfl) (by kernel_rfl) (by kernel_rfl) (fun _ _ _ h => h) (yieldsIf_load_mid (by rfl) _ _ rfl (w.heap.size) 0 rfl (bv a) _ (fun W' hW' => range_row ((hW'.block _ sb0_V3).trans gb0_V3.out)) (Tryd.underlying23) rfl (by rw [bv_len, Hha.out]; kernel_rfl)) hHeld ?_
  try simp only [pu]
  refine mix_start (B := V3.heap.size) (al := [⟨5, 11, 23, ((bv z32)).toArray⟩]) (fuel := 6) rfl hHeld (hHeld.size) ?_
  clear hHeld
  refine mix_call (i := 1) (o := ⟨(some 41), _, _, _, _, _⟩) rfl (by kernel_rfl) (by kernel_rfl) (by kernel_rfl) (by kernel_rfl) (fun x hx => by simp only [List.mem_cons, List.not_mem_nil, or_false] at hx; rcases hx with rfl <;> first | exact makes_new rfl rfl rfl rfl zero_word) (fun W x _ h => h.alloc h.size _) (fun _ _ _ _ _ h => h) (fun X8 hHeld hBX K hK => ?_)
  go_simp
  refine (pneg_any _ (hlaV3.next hHeld) a (Hha.out)).mono ?_
  rintro e W8 ⟨v41, k41, rfl, e41, h41, hb8⟩
  refine hK.out _ _ (below_next hHeld hHeld.size hb8) hb8 ?_
  clear hK K hHeld hBX hb8
  try simp only [pu]
  refine mix_take (i := 2) (o := ⟨(some 39), _, _, _, _, _⟩) (v := ?vqV3_4_2) rfl (by kernel_rfl) (by kernel_rfl) (by kernel_rfl) (by kernel_rfl) (by kernel_rfl) (fun _ _ _ h => h) (Or.inl ⟨by rfl, ?yqV3_4_2⟩) ?_
  case yqV3_4_2 => (intro W0 hSw; go_simp; try with_reducible rfl)
  try simp only [pu]
  refine mix_take (i := 3) (o := ⟨(some 42), _, _, _, _, _⟩) (v := .agg (bv v41).toArray) rfl (by kernel_rfl) (by kernel_rfl) (by kernel_rfl) (by kernel_rfl) (by kernel_rfl) (fun _ _ _ h => h) (Or.inl ⟨by rfl, ?yqV3_4_3⟩) ?_
  case yqV3_4_3 => (intro W0 hSw; go_simp; try with_reducible rfl)
  try simp only [pu]
  refine mix_take (i := 4) (o := ⟨(some 43), _, _, _, _, _⟩) (v := .int .i64 k41) rfl (by kernel_rfl) (by kernel_rfl) (by kernel_rfl) (by kernel_rfl) (by kernel_rfl) (fun _ _ _ h => h) (Or.inl ⟨by rfl, ?yqV3_4_4⟩) ?_
  case yqV3_4_4 => (intro W0 hSw; go_simp; try with_reducible rfl)
  try simp only [pu]
  refine mix_end (by kernel_rfl) (by kernel_rfl) (by simp) (by simp) (fun x hx => by simp only [List.mem_cons, List.not_mem_nil, or_false] at hx; rcases hx with rfl <;> first | exact makes_new rfl rfl rfl rfl zero_word) (fun W x _ h => h.alloc h.size _) (fun D hD W9 hHeld hBX hHo => ?_)
  obtain ⟨G11, rfl⟩ := v_one hD
  have xG11 : Hid (W9.heap[G11]? = some (.cells ((bv z32)).toArray 23 (0, 0))) := hHo.row (⟨5, 11, 23, ((bv z32)).toArray⟩, G11) (by simp)
  have lG11 : V3.heap.size ≤ G11 := hHo.new (⟨5, 11, 23, ((bv z32)).toArray⟩, G11) (by simp)
  clear hHo hBX hD
  simp only [markD, putD, List.foldr_cons, List.foldr_nil, pu, List.setIfInBounds_toArray, List.set_cons_zero, List.set_cons_succ]
  refine wpAnyH_ready (rs := [6]) (by kernel_rfl) (by simp) ?_
  refine AllReadyH.cons (i := 6) (o := ⟨none, _, _, _, _, _⟩) rfl (fun K hK => ?_) AllReadyH.nil
  refine step_row (by rfl) 23 (.tmp 11) (.tmp 42) rfl G11 (bv v41) rfl rfl 23 _ xG11.out (by rw [bv_len, h41.out]; kernel_rfl) (by rw [List.size_toArray, bv_len, bv_len, h41.out, z32_len]) (bv_one _) ?_
  intro W10 yG11 kG11
  refine hK.out _ _ (But.below hHeld kG11 lG11 hHeld.size) (fun hHeld => ?_)
  clear hK K kG11 xG11
  have xG11 := yG11
  clear yG11
  try simp only [pu]
  refine wpAnyH_take (i := 7) (oi := ⟨(some 12), _, _, _, _, _⟩) (v := ?vqV3_4_7) rfl (by kernel_rfl) (by kernel_rfl) (by kernel_rfl) (fun _ _ _ h => h) (Or.inl ⟨by rfl, ?yqV3_4_7⟩) hHeld ?_
  case yqV3_4_7 => (intro W0 hSw; go_simp; try with_reducible rfl)
  try simp only [pu]
  refine wpAnyH_done (by kernel_rfl) ?_ _
  obtain ⟨V4, rV4⟩ : ∃ X, X = W10 := ⟨_, rfl⟩
  subst rV4
  have gb0_V4 := row_next2 gb0_V3 hHeld
  have sb0_V4 := row_size gb0_V4
  have gb1_V4 := row_next2 gb1_V3 hHeld
  have sb1_V4 := row_size gb1_V4
  have gb2_V4 := row_next2 gb2_V3 hHeld
  have sb2_V4 := row_size gb2_V4
  have gn7_V4 := row_next2 gn7_V3 hHeld
  have sn7_V4 := row_size gn7_V4
  have gn9_V4 := row_next2 gn9_V3 hHeld
  have sn9_V4 := row_size gn9_V4
  have hb_V4 := below_next hb_V3 hb_V3.size hHeld
  have hlaV4 := hlaV3.next hHeld
  have gn11_V4 := xG11
  have sn11_V4 := row_size gn11_V4
  clear xG11
  have wG11 : w.heap.size + 3 ≤ G11 := by omega
  have nG7G11 : G7 ≠ G11 := by omega
  have nG9G11 : G9 ≠ G11 := by omega
  clear hHeld hb_V3 sb0_V3 sb1_V3 sb2_V3 sn7_V3 sn9_V3
  clear gb0_V3 gb1_V3 gb2_V3 gn7_V3 gn9_V3 hlaV3 lG11
  go_upto_region 6 with fail
  refine plain_start (S := fun W' => Below V4.heap.size V4 W') (by kernel_rfl) (Below.refl _ _) (fun hHeld => ?_)
  refine wpAnyH_take (i := 0) (oi := ⟨(some 45), _, _, _, _, _⟩) (v := _) rfl (by kernel_rfl) (by kernel_rfl) (by kernel_rfl) (fun _ _ _ h => h) (yieldsIf_load_mid (by rfl) _ _ rfl (w.heap.size) 0 rfl (bv a) _ (fun W' hW' => range_row ((hW'.block _ sb0_V4).trans gb0_V4.out)) (Tryd.underlying23) rfl (by rw [bv_len, Hha.out]; kernel_rfl)) hHeld ?_
  try simp only [pu]
  refine mix_start (B := V4.heap.size) (al := [⟨5, 13, 23, ((bv z32)).toArray⟩]) (fuel := 6) rfl hHeld (hHeld.size) ?_
  clear hHeld
  refine mix_call (i := 1) (o := ⟨(some 46), _, _, _, _, _⟩) rfl (by kernel_rfl) (by kernel_rfl) (by kernel_rfl) (by kernel_rfl) (fun x hx => by simp only [List.mem_cons, List.not_mem_nil, or_false] at hx; rcases hx with rfl <;> first | exact makes_new rfl rfl rfl rfl zero_word) (fun W x _ h => h.alloc h.size _) (fun _ _ _ _ _ h => h) (fun X11 hHeld hBX K hK => ?_)
  go_simp
  refine (rpneg_any _ a (Hha.out)).mono ?_
  rintro e W11 ⟨v46, o46, rfl, e46, h46, hb11⟩
  refine hK.out _ _ (below_next hHeld hHeld.size hb11) hb11 ?_
  clear hK K hHeld hBX hb11
  try simp only [pu]
  refine mix_take (i := 2) (o := ⟨(some 44), _, _, _, _, _⟩) (v := ?vqV4_5_2) rfl (by kernel_rfl) (by kernel_rfl) (by kernel_rfl) (by kernel_rfl) (by kernel_rfl) (fun _ _ _ h => h) (Or.inl ⟨by rfl, ?yqV4_5_2⟩) ?_
  case yqV4_5_2 => (intro W0 hSw; go_simp; try with_reducible rfl)
  try simp only [pu]
  refine mix_take (i := 3) (o := ⟨(some 47), _, _, _, _, _⟩) (v := .agg (bv v46).toArray) rfl (by kernel_rfl) (by kernel_rfl) (by kernel_rfl) (by kernel_rfl) (by kernel_rfl) (fun _ _ _ h => h) (Or.inl ⟨by rfl, ?yqV4_5_3⟩) ?_
  case yqV4_5_3 => (intro W0 hSw; go_simp; try with_reducible rfl)
  try simp only [pu]
  refine mix_take (i := 4) (o := ⟨(some 48), _, _, _, _, _⟩) (v := .bool o46) rfl (by kernel_rfl) (by kernel_rfl) (by kernel_rfl) (by kernel_rfl) (by kernel_rfl) (fun _ _ _ h => h) (Or.inl ⟨by rfl, ?yqV4_5_4⟩) ?_
  case yqV4_5_4 => (intro W0 hSw; go_simp; try with_reducible rfl)
  try simp only [pu]
  refine mix_end (by kernel_rfl) (by kernel_rfl) (by simp) (by simp) (fun x hx => by simp only [List.mem_cons, List.not_mem_nil, or_false] at hx; rcases hx with rfl <;> first | exact makes_new rfl rfl rfl rfl zero_word) (fun W x _ h => h.alloc h.size _) (fun D hD W12 hHeld hBX hHo => ?_)
  obtain ⟨G13, rfl⟩ := v_one hD
  have xG13 : Hid (W12.heap[G13]? = some (.cells ((bv z32)).toArray 23 (0, 0))) := hHo.row (⟨5, 13, 23, ((bv z32)).toArray⟩, G13) (by simp)
  have lG13 : V4.heap.size ≤ G13 := hHo.new (⟨5, 13, 23, ((bv z32)).toArray⟩, G13) (by simp)
  clear hHo hBX hD
  simp only [markD, putD, List.foldr_cons, List.foldr_nil, pu, List.setIfInBounds_toArray, List.set_cons_zero, List.set_cons_succ]
  refine wpAnyH_ready (rs := [6]) (by kernel_rfl) (by simp) ?_
  refine AllReadyH.cons (i := 6) (o := ⟨none, _, _, _, _, _⟩) rfl (fun K hK => ?_) AllReadyH.nil
  refine step_row (by rfl) 23 (.tmp 13) (.tmp 47) rfl G13 (bv v46) rfl rfl 23 _ xG13.out (by rw [bv_len, h46.out]; kernel_rfl) (by rw [List.size_toArray, bv_len, bv_len, h46.out, z32_len]) (bv_one _) ?_
  intro W13 yG13 kG13
  refine hK.out _ _ (But.below hHeld kG13 lG13 hHeld.size) (fun hHeld => ?_)
  clear hK K kG13 xG13
  have xG13 := yG13
  clear yG13
  try simp only [pu]
  refine wpAnyH_take (i := 7) (oi := ⟨(some 14), _, _, _, _, _⟩) (v := ?vqV4_5_7) rfl (by kernel_rfl) (by kernel_rfl) (by kernel_rfl) (fun _ _ _ h => h) (Or.inl ⟨by rfl, ?yqV4_5_7⟩) hHeld ?_
  case yqV4_5_7 => (intro W0 hSw; go_simp; try with_reducible rfl)
  try simp only [pu]
  refine wpAnyH_done (by kernel_rfl) ?_ _
  obtain ⟨V5, rV5⟩ : ∃ X, X = W13 := ⟨_, rfl⟩
  subst rV5
  have gb0_V5 := row_next2 gb0_V4 hHeld
  have sb0_V5 := row_size gb0_V5
  have gb1_V5 := row_next2 gb1_V4 hHeld
  have sb1_V5 := row_size gb1_V5
  have gb2_V5 := row_next2 gb2_V4 hHeld
  have sb2_V5 := row_size gb2_V5
  have gn7_V5 := row_next2 gn7_V4 hHeld
  have sn7_V5 := row_size gn7_V5
  have gn9_V5 := row_next2 gn9_V4 hHeld
  have sn9_V5 := row_size gn9_V5
  have gn11_V5 := row_next2 gn11_V4 hHeld
  have sn11_V5 := row_size gn11_V5
  have hb_V5 := below_next hb_V4 hb_V4.size hHeld
  have hlaV5 := hlaV4.next hHeld
  have gn13_V5 := xG13
  have sn13_V5 := row_size gn13_V5
  clear xG13
  have wG13 : w.heap.size + 3 ≤ G13 := by omega
  have nG7G13 : G7 ≠ G13 := by omega
  have nG9G13 : G9 ≠ G13 := by omega
  have nG11G13 : G11 ≠ G13 := by omega
  clear hHeld hb_V4 sb0_V4 sb1_V4 sb2_V4 sn7_V4 sn9_V4 sn11_V4
  clear gb0_V4 gb1_V4 gb2_V4 gn7_V4 gn9_V4 gn11_V4 hlaV4 lG13
  go_upto_region 7 with fail
  refine plain_start (S := fun W' => Below V5.heap.size V5 W') (by kernel_rfl) (Below.refl _ _) (fun hHeld => ?_)
  refine wpAnyH_take (i := 0) (oi := ⟨(some 50), _, _, _, _, _⟩) (v := _) rfl (by kernel_rfl) (by kernel_rfl) (by kernel_rfl) (fun _ _ _ h => h) (yieldsIf_load_mid (by rfl) _ _ rfl (w.heap.size + 2) 0 rfl (bv n) _ (fun W' hW' => range_row ((hW'.block _ sb2_V5).trans gb2_V5.out)) (Tryd.underlying23) rfl (by rw [bv_len, Hhn.out]; kernel_rfl)) hHeld ?_
  try simp only [pu]
  refine wpAnyH_take (i := 1) (oi := ⟨(some 51), _, _, _, _, _⟩) (v := _) rfl (by kernel_rfl) (by kernel_rfl) (by kernel_rfl) (fun _ _ _ h => h) (yieldsIf_load_mid (by rfl) _ _ rfl (w.heap.size) 0 rfl (bv a) _ (fun W' hW' => range_row ((hW'.block _ sb0_V5).trans gb0_V5.out)) (Tryd.underlying23) rfl (by rw [bv_len, Hha.out]; kernel_rfl)) hHeld ?_
  try simp only [pu]
  refine mix_start (B := V5.heap.size) (al := [⟨6, 15, 23, ((bv z32)).toArray⟩]) (fuel := 6) rfl hHeld (hHeld.size) ?_
  clear hHeld
  refine mix_call (i := 2) (o := ⟨(some 52), _, _, _, _, _⟩) rfl (by kernel_rfl) (by kernel_rfl) (by kernel_rfl) (by kernel_rfl) (fun x hx => by simp only [List.mem_cons, List.not_mem_nil, or_false] at hx; rcases hx with rfl <;> first | exact makes_new rfl rfl rfl rfl zero_word) (fun W x _ h => h.alloc h.size _) (fun _ _ _ _ _ h => h) (fun X14 hHeld hBX K hK => ?_)
  go_simp
  refine (pmul_any _ (hlaV5.next hHeld) n a (Hhn.out) (Hha.out)).mono ?_
  rintro e W14 ⟨v52, k52, rfl, e52, h52, hb14⟩
  refine hK.out _ _ (below_next hHeld hHeld.size hb14) hb14 ?_
  clear hK K hHeld hBX hb14
  try simp only [pu]
  refine mix_take (i := 3) (o := ⟨(some 49), _, _, _, _, _⟩) (v := ?vqV5_6_3) rfl (by kernel_rfl) (by kernel_rfl) (by kernel_rfl) (by kernel_rfl) (by kernel_rfl) (fun _ _ _ h => h) (Or.inl ⟨by rfl, ?yqV5_6_3⟩) ?_
  case yqV5_6_3 => (intro W0 hSw; go_simp; try with_reducible rfl)
  try simp only [pu]
  refine mix_take (i := 4) (o := ⟨(some 53), _, _, _, _, _⟩) (v := .agg (bv v52).toArray) rfl (by kernel_rfl) (by kernel_rfl) (by kernel_rfl) (by kernel_rfl) (by kernel_rfl) (fun _ _ _ h => h) (Or.inl ⟨by rfl, ?yqV5_6_4⟩) ?_
  case yqV5_6_4 => (intro W0 hSw; go_simp; try with_reducible rfl)
  try simp only [pu]
  refine mix_take (i := 5) (o := ⟨(some 54), _, _, _, _, _⟩) (v := .int .i64 k52) rfl (by kernel_rfl) (by kernel_rfl) (by kernel_rfl) (by kernel_rfl) (by kernel_rfl) (fun _ _ _ h => h) (Or.inl ⟨by rfl, ?yqV5_6_5⟩) ?_
  case yqV5_6_5 => (intro W0 hSw; go_simp; try with_reducible rfl)
  try simp only [pu]
  refine mix_end (by kernel_rfl) (by kernel_rfl) (by simp) (by simp) (fun x hx => by simp only [List.mem_cons, List.not_mem_nil, or_false] at hx; rcases hx with rfl <;> first | exact makes_new rfl rfl rfl rfl zero_word) (fun W x _ h => h.alloc h.size _) (fun D hD W15 hHeld hBX hHo => ?_)
  obtain ⟨G15, rfl⟩ := v_one hD
  have xG15 : Hid (W15.heap[G15]? = some (.cells ((bv z32)).toArray 23 (0, 0))) := hHo.row (⟨6, 15, 23, ((bv z32)).toArray⟩, G15) (by simp)
  have lG15 : V5.heap.size ≤ G15 := hHo.new (⟨6, 15, 23, ((bv z32)).toArray⟩, G15) (by simp)
  clear hHo hBX hD
  simp only [markD, putD, List.foldr_cons, List.foldr_nil, pu, List.setIfInBounds_toArray, List.set_cons_zero, List.set_cons_succ]
  refine wpAnyH_ready (rs := [7]) (by kernel_rfl) (by simp) ?_
  refine AllReadyH.cons (i := 7) (o := ⟨none, _, _, _, _, _⟩) rfl (fun K hK => ?_) AllReadyH.nil
  refine step_row (by rfl) 23 (.tmp 15) (.tmp 53) rfl G15 (bv v52) rfl rfl 23 _ xG15.out (by rw [bv_len, h52.out]; kernel_rfl) (by rw [List.size_toArray, bv_len, bv_len, h52.out, z32_len]) (bv_one _) ?_
  intro W16 yG15 kG15
  refine hK.out _ _ (But.below hHeld kG15 lG15 hHeld.size) (fun hHeld => ?_)
  clear hK K kG15 xG15
  have xG15 := yG15
  clear yG15
  try simp only [pu]
  refine wpAnyH_take (i := 8) (oi := ⟨(some 16), _, _, _, _, _⟩) (v := ?vqV5_6_8) rfl (by kernel_rfl) (by kernel_rfl) (by kernel_rfl) (fun _ _ _ h => h) (Or.inl ⟨by rfl, ?yqV5_6_8⟩) hHeld ?_
  case yqV5_6_8 => (intro W0 hSw; go_simp; try with_reducible rfl)
  try simp only [pu]
  refine wpAnyH_done (by kernel_rfl) ?_ _
  obtain ⟨V6, rV6⟩ : ∃ X, X = W16 := ⟨_, rfl⟩
  subst rV6
  have gb0_V6 := row_next2 gb0_V5 hHeld
  have sb0_V6 := row_size gb0_V6
  have gb1_V6 := row_next2 gb1_V5 hHeld
  have sb1_V6 := row_size gb1_V6
  have gb2_V6 := row_next2 gb2_V5 hHeld
  have sb2_V6 := row_size gb2_V6
  have gn7_V6 := row_next2 gn7_V5 hHeld
  have sn7_V6 := row_size gn7_V6
  have gn9_V6 := row_next2 gn9_V5 hHeld
  have sn9_V6 := row_size gn9_V6
  have gn11_V6 := row_next2 gn11_V5 hHeld
  have sn11_V6 := row_size gn11_V6
  have gn13_V6 := row_next2 gn13_V5 hHeld
  have sn13_V6 := row_size gn13_V6
  have hb_V6 := below_next hb_V5 hb_V5.size hHeld
  have hlaV6 := hlaV5.next hHeld
  have gn15_V6 := xG15
  have sn15_V6 := row_size gn15_V6
  clear xG15
  have wG15 : w.heap.size + 3 ≤ G15 := by omega
  have nG7G15 : G7 ≠ G15 := by omega
  have nG9G15 : G9 ≠ G15 := by omega
  have nG11G15 : G11 ≠ G15 := by omega
  have nG13G15 : G13 ≠ G15 := by omega
  clear hHeld hb_V5 sb0_V5 sb1_V5 sb2_V5 sn7_V5 sn9_V5 sn11_V5 sn13_V5
  clear gb0_V5 gb1_V5 gb2_V5 gn7_V5 gn9_V5 gn11_V5 gn13_V5 hlaV5 lG15
  go_upto_region 8 with fail
  refine plain_start (S := fun W' => Below V6.heap.size V6 W') (by kernel_rfl) (Below.refl _ _) (fun hHeld => ?_)
  refine wpAnyH_take (i := 0) (oi := ⟨(some 56), _, _, _, _, _⟩) (v := _) rfl (by kernel_rfl) (by kernel_rfl) (by kernel_rfl) (fun _ _ _ h => h) (yieldsIf_load_mid (by rfl) _ _ rfl (w.heap.size + 2) 0 rfl (bv n) _ (fun W' hW' => range_row ((hW'.block _ sb2_V6).trans gb2_V6.out)) (Tryd.underlying23) rfl (by rw [bv_len, Hhn.out]; kernel_rfl)) hHeld ?_
  try simp only [pu]
  refine wpAnyH_take (i := 1) (oi := ⟨(some 57), _, _, _, _, _⟩) (v := _) rfl (by kernel_rfl) (by kernel_rfl) (by kernel_rfl) (fun _ _ _ h => h) (yieldsIf_load_mid (by rfl) _ _ rfl (w.heap.size) 0 rfl (bv a) _ (fun W' hW' => range_row ((hW'.block _ sb0_V6).trans gb0_V6.out)) (Tryd.underlying23) rfl (by rw [bv_len, Hha.out]; kernel_rfl)) hHeld ?_
  try simp only [pu]
  refine mix_start (B := V6.heap.size) (al := [⟨6, 17, 23, ((bv z32)).toArray⟩]) (fuel := 6) rfl hHeld (hHeld.size) ?_
  clear hHeld
  refine mix_call (i := 2) (o := ⟨(some 58), _, _, _, _, _⟩) rfl (by kernel_rfl) (by kernel_rfl) (by kernel_rfl) (by kernel_rfl) (fun x hx => by simp only [List.mem_cons, List.not_mem_nil, or_false] at hx; rcases hx with rfl <;> first | exact makes_new rfl rfl rfl rfl zero_word) (fun W x _ h => h.alloc h.size _) (fun _ _ _ _ _ h => h) (fun X17 hHeld hBX K hK => ?_)
  go_simp
  refine (rpmul_any _ n a (Hhn.out) (Hha.out)).mono ?_
  rintro e W17 ⟨v58, o58, rfl, e58, h58, hb17⟩
  refine hK.out _ _ (below_next hHeld hHeld.size hb17) hb17 ?_
  clear hK K hHeld hBX hb17
  try simp only [pu]
  refine mix_take (i := 3) (o := ⟨(some 55), _, _, _, _, _⟩) (v := ?vqV6_7_3) rfl (by kernel_rfl) (by kernel_rfl) (by kernel_rfl) (by kernel_rfl) (by kernel_rfl) (fun _ _ _ h => h) (Or.inl ⟨by rfl, ?yqV6_7_3⟩) ?_
  case yqV6_7_3 => (intro W0 hSw; go_simp; try with_reducible rfl)
  try simp only [pu]
  refine mix_take (i := 4) (o := ⟨(some 59), _, _, _, _, _⟩) (v := .agg (bv v58).toArray) rfl (by kernel_rfl) (by kernel_rfl) (by kernel_rfl) (by kernel_rfl) (by kernel_rfl) (fun _ _ _ h => h) (Or.inl ⟨by rfl, ?yqV6_7_4⟩) ?_
  case yqV6_7_4 => (intro W0 hSw; go_simp; try with_reducible rfl)
  try simp only [pu]
  refine mix_take (i := 5) (o := ⟨(some 60), _, _, _, _, _⟩) (v := .bool o58) rfl (by kernel_rfl) (by kernel_rfl) (by kernel_rfl) (by kernel_rfl) (by kernel_rfl) (fun _ _ _ h => h) (Or.inl ⟨by rfl, ?yqV6_7_5⟩) ?_
  case yqV6_7_5 => (intro W0 hSw; go_simp; try with_reducible rfl)
  try simp only [pu]
  refine mix_end (by kernel_rfl) (by kernel_rfl) (by simp) (by simp) (fun x hx => by simp only [List.mem_cons, List.not_mem_nil, or_false] at hx; rcases hx with rfl <;> first | exact makes_new rfl rfl rfl rfl zero_word) (fun W x _ h => h.alloc h.size _) (fun D hD W18 hHeld hBX hHo => ?_)
  obtain ⟨G17, rfl⟩ := v_one hD
  have xG17 : Hid (W18.heap[G17]? = some (.cells ((bv z32)).toArray 23 (0, 0))) := hHo.row (⟨6, 17, 23, ((bv z32)).toArray⟩, G17) (by simp)
  have lG17 : V6.heap.size ≤ G17 := hHo.new (⟨6, 17, 23, ((bv z32)).toArray⟩, G17) (by simp)
  clear hHo hBX hD
  simp only [markD, putD, List.foldr_cons, List.foldr_nil, pu, List.setIfInBounds_toArray, List.set_cons_zero, List.set_cons_succ]
  refine wpAnyH_ready (rs := [7]) (by kernel_rfl) (by simp) ?_
  refine AllReadyH.cons (i := 7) (o := ⟨none, _, _, _, _, _⟩) rfl (fun K hK => ?_) AllReadyH.nil
  refine step_row (by rfl) 23 (.tmp 17) (.tmp 59) rfl G17 (bv v58) rfl rfl 23 _ xG17.out (by rw [bv_len, h58.out]; kernel_rfl) (by rw [List.size_toArray, bv_len, bv_len, h58.out, z32_len]) (bv_one _) ?_
  intro W19 yG17 kG17
  refine hK.out _ _ (But.below hHeld kG17 lG17 hHeld.size) (fun hHeld => ?_)
  clear hK K kG17 xG17
  have xG17 := yG17
  clear yG17
  try simp only [pu]
  refine wpAnyH_take (i := 8) (oi := ⟨(some 18), _, _, _, _, _⟩) (v := ?vqV6_7_8) rfl (by kernel_rfl) (by kernel_rfl) (by kernel_rfl) (fun _ _ _ h => h) (Or.inl ⟨by rfl, ?yqV6_7_8⟩) hHeld ?_
  case yqV6_7_8 => (intro W0 hSw; go_simp; try with_reducible rfl)
  try simp only [pu]
  refine wpAnyH_done (by kernel_rfl) ?_ _
  obtain ⟨V7, rV7⟩ : ∃ X, X = W19 := ⟨_, rfl⟩
  subst rV7
  have gb0_V7 := row_next2 gb0_V6 hHeld
  have sb0_V7 := row_size gb0_V7
  have gb1_V7 := row_next2 gb1_V6 hHeld
  have sb1_V7 := row_size gb1_V7
  have gb2_V7 := row_next2 gb2_V6 hHeld
  have sb2_V7 := row_size gb2_V7
  have gn7_V7 := row_next2 gn7_V6 hHeld
  have sn7_V7 := row_size gn7_V7
  have gn9_V7 := row_next2 gn9_V6 hHeld
  have sn9_V7 := row_size gn9_V7
  have gn11_V7 := row_next2 gn11_V6 hHeld
  have sn11_V7 := row_size gn11_V7
  have gn13_V7 := row_next2 gn13_V6 hHeld
  have sn13_V7 := row_size gn13_V7
  have gn15_V7 := row_next2 gn15_V6 hHeld
  have sn15_V7 := row_size gn15_V7
  have hb_V7 := below_next hb_V6 hb_V6.size hHeld
  have hlaV7 := hlaV6.next hHeld
  have gn17_V7 := xG17
  have sn17_V7 := row_size gn17_V7
  clear xG17
  have wG17 : w.heap.size + 3 ≤ G17 := by omega
  have nG7G17 : G7 ≠ G17 := by omega
  have nG9G17 : G9 ≠ G17 := by omega
  have nG11G17 : G11 ≠ G17 := by omega
  have nG13G17 : G13 ≠ G17 := by omega
  have nG15G17 : G15 ≠ G17 := by omega
  clear hHeld hb_V6 sb0_V6 sb1_V6 sb2_V6 sn7_V6 sn9_V6 sn11_V6 sn13_V6 sn15_V6
  clear gb0_V6 gb1_V6 gb2_V6 gn7_V6 gn9_V6 gn11_V6 gn13_V6 gn15_V6 hlaV6 lG17
  go_upto_region 9 with fail
  refine plain_start (S := fun W' => Below V7.heap.size V7 W') (by kernel_rfl) (Below.refl _ _) (fun hHeld => ?_)
  refine wpAnyH_take (i := 0) (oi := ⟨(some 62), _, _, _, _, _⟩) (v := _) rfl (by kernel_rfl) (by kernel_rfl) (by kernel_rfl) (fun _ _ _ h => h) (yieldsIf_load_mid (by rfl) _ _ rfl (w.heap.size) 0 rfl (bv a) _ (fun W' hW' => range_row ((hW'.block _ sb0_V7).trans gb0_V7.out)) (Tryd.underlying23) rfl (by rw [bv_len, Hha.out]; kernel_rfl)) hHeld ?_
  try simp only [pu]
  refine mix_start (B := V7.heap.size) (al := [⟨6, 19, 23, ((bv z32)).toArray⟩, ⟨7, 20, 23, ((bv z32)).toArray⟩]) (fuel := 8) rfl hHeld (hHeld.size) ?_
  clear hHeld
  refine mix_call (i := 1) (o := ⟨(some 63), _, _, _, _, _⟩) rfl (by kernel_rfl) (by kernel_rfl) (by kernel_rfl) (by kernel_rfl) (fun x hx => by simp only [List.mem_cons, List.not_mem_nil, or_false] at hx; rcases hx with rfl | rfl <;> first | exact makes_new rfl rfl rfl rfl zero_word) (fun W x _ h => h.alloc h.size _) (fun _ _ _ _ _ h => h) (fun X20 hHeld hBX K hK => ?_)
  go_simp
  refine (pat_any _ (hlaV7.next hHeld) a (Hha.out)).mono ?_
  rintro e W20 ⟨x63, y63, k63, rfl, e63, h63, j63, hb20⟩
  refine hK.out _ _ (below_next hHeld hHeld.size hb20) hb20 ?_
  clear hK K hHeld hBX hb20
  try simp only [pu]
  refine mix_take (i := 2) (o := ⟨(some 61), _, _, _, _, _⟩) (v := ?vqV7_8_2) rfl (by kernel_rfl) (by kernel_rfl) (by kernel_rfl) (by kernel_rfl) (by kernel_rfl) (fun _ _ _ h => h) (Or.inl ⟨by rfl, ?yqV7_8_2⟩) ?_
  case yqV7_8_2 => (intro W0 hSw; go_simp; try with_reducible rfl)
  try simp only [pu]
  refine mix_take (i := 3) (o := ⟨(some 64), _, _, _, _, _⟩) (v := .agg (bv x63).toArray) rfl (by kernel_rfl) (by kernel_rfl) (by kernel_rfl) (by kernel_rfl) (by kernel_rfl) (fun _ _ _ h => h) (Or.inl ⟨by rfl, ?yqV7_8_3⟩) ?_
  case yqV7_8_3 => (intro W0 hSw; go_simp; try with_reducible rfl)
  try simp only [pu]
  refine mix_take (i := 4) (o := ⟨(some 65), _, _, _, _, _⟩) (v := .agg (bv y63).toArray) rfl (by kernel_rfl) (by kernel_rfl) (by kernel_rfl) (by kernel_rfl) (by kernel_rfl) (fun _ _ _ h => h) (Or.inl ⟨by rfl, ?yqV7_8_4⟩) ?_
  case yqV7_8_4 => (intro W0 hSw; go_simp; try with_reducible rfl)
  try simp only [pu]
  refine mix_take (i := 5) (o := ⟨(some 66), _, _, _, _, _⟩) (v := .int .i64 k63) rfl (by kernel_rfl) (by kernel_rfl) (by kernel_rfl) (by kernel_rfl) (by kernel_rfl) (fun _ _ _ h => h) (Or.inl ⟨by rfl, ?yqV7_8_5⟩) ?_
  case yqV7_8_5 => (intro W0 hSw; go_simp; try with_reducible rfl)
  try simp only [pu]
  refine mix_end (by kernel_rfl) (by kernel_rfl) (by simp) (by simp) (fun x hx => by simp only [List.mem_cons, List.not_mem_nil, or_false] at hx; rcases hx with rfl | rfl <;> first | exact makes_new rfl rfl rfl rfl zero_word) (fun W x _ h => h.alloc h.size _) (fun D hD W21 hHeld hBX hHo => ?_)
  obtain ⟨G19, G20, rfl⟩ := v_two hD
  have xG19 : Hid (W21.heap[G19]? = some (.cells ((bv z32)).toArray 23 (0, 0))) := hHo.row (⟨6, 19, 23, ((bv z32)).toArray⟩, G19) (by simp)
  have lG19 : V7.heap.size ≤ G19 := hHo.new (⟨6, 19, 23, ((bv z32)).toArray⟩, G19) (by simp)
  have xG20 : Hid (W21.heap[G20]? = some (.cells ((bv z32)).toArray 23 (0, 0))) := hHo.row (⟨7, 20, 23, ((bv z32)).toArray⟩, G20) (by simp)
  have lG20 : V7.heap.size ≤ G20 := hHo.new (⟨7, 20, 23, ((bv z32)).toArray⟩, G20) (by simp)
  have hnd := hHo.nodup
  simp only [List.map_cons, List.map_nil, List.nodup_cons, List.mem_cons, List.not_mem_nil, or_false, not_false_eq_true, List.nodup_nil, and_true] at hnd
  have nG19G20 := hnd
  clear hnd
  clear hHo hBX hD
  simp only [markD, putD, List.foldr_cons, List.foldr_nil, pu, List.setIfInBounds_toArray, List.set_cons_zero, List.set_cons_succ]
  refine wpAnyH_ready (rs := [8]) (by kernel_rfl) (by simp) ?_
  refine AllReadyH.cons (i := 8) (o := ⟨none, _, _, _, _, _⟩) rfl (fun K hK => ?_) AllReadyH.nil
  refine step_row (by rfl) 23 (.tmp 19) (.tmp 64) rfl G19 (bv x63) rfl rfl 23 _ xG19.out (by rw [bv_len, h63.out]; kernel_rfl) (by rw [List.size_toArray, bv_len, bv_len, h63.out, z32_len]) (bv_one _) ?_
  intro W22 yG19 kG19
  have zG20 := row_but xG20 kG19 (by omega)
  clear xG20
  have xG20 := zG20
  clear zG20
  refine hK.out _ _ (But.below hHeld kG19 lG19 hHeld.size) (fun hHeld => ?_)
  clear hK K kG19 xG19
  have xG19 := yG19
  clear yG19
  try simp only [pu]
  refine wpAnyH_ready (rs := [9]) (by kernel_rfl) (by simp) ?_
  refine AllReadyH.cons (i := 9) (o := ⟨none, _, _, _, _, _⟩) rfl (fun K hK => ?_) AllReadyH.nil
  refine step_row (by rfl) 23 (.tmp 20) (.tmp 65) rfl G20 (bv y63) rfl rfl 23 _ xG20.out (by rw [bv_len, j63.out]; kernel_rfl) (by rw [List.size_toArray, bv_len, bv_len, j63.out, z32_len]) (bv_one _) ?_
  intro W23 yG20 kG20
  have zG19 := row_but xG19 kG20 (by omega)
  clear xG19
  have xG19 := zG19
  clear zG19
  refine hK.out _ _ (But.below hHeld kG20 lG20 hHeld.size) (fun hHeld => ?_)
  clear hK K kG20 xG20
  have xG20 := yG20
  clear yG20
  try simp only [pu]
  refine wpAnyH_take (i := 10) (oi := ⟨(some 21), _, _, _, _, _⟩) (v := ?vqV7_8_10) rfl (by kernel_rfl) (by kernel_rfl) (by kernel_rfl) (fun _ _ _ h => h) (Or.inl ⟨by rfl, ?yqV7_8_10⟩) hHeld ?_
  case yqV7_8_10 => (intro W0 hSw; go_simp; try with_reducible rfl)
  try simp only [pu]
  refine wpAnyH_done (by kernel_rfl) ?_ _
  obtain ⟨V8, rV8⟩ : ∃ X, X = W23 := ⟨_, rfl⟩
  subst rV8
  have gb0_V8 := row_next2 gb0_V7 hHeld
  have sb0_V8 := row_size gb0_V8
  have gb1_V8 := row_next2 gb1_V7 hHeld
  have sb1_V8 := row_size gb1_V8
  have gb2_V8 := row_next2 gb2_V7 hHeld
  have sb2_V8 := row_size gb2_V8
  have gn7_V8 := row_next2 gn7_V7 hHeld
  have sn7_V8 := row_size gn7_V8
  have gn9_V8 := row_next2 gn9_V7 hHeld
  have sn9_V8 := row_size gn9_V8
  have gn11_V8 := row_next2 gn11_V7 hHeld
  have sn11_V8 := row_size gn11_V8
  have gn13_V8 := row_next2 gn13_V7 hHeld
  have sn13_V8 := row_size gn13_V8
  have gn15_V8 := row_next2 gn15_V7 hHeld
  have sn15_V8 := row_size gn15_V8
  have gn17_V8 := row_next2 gn17_V7 hHeld
  have sn17_V8 := row_size gn17_V8
  have hb_V8 := below_next hb_V7 hb_V7.size hHeld
  have hlaV8 := hlaV7.next hHeld
  have gn19_V8 := xG19
  have sn19_V8 := row_size gn19_V8
  clear xG19
  have gn20_V8 := xG20
  have sn20_V8 := row_size gn20_V8
  clear xG20
  have wG19 : w.heap.size + 3 ≤ G19 := by omega
  have wG20 : w.heap.size + 3 ≤ G20 := by omega
  have nG7G19 : G7 ≠ G19 := by omega
  have nG9G19 : G9 ≠ G19 := by omega
  have nG11G19 : G11 ≠ G19 := by omega
  have nG13G19 : G13 ≠ G19 := by omega
  have nG15G19 : G15 ≠ G19 := by omega
  have nG17G19 : G17 ≠ G19 := by omega
  have nG7G20 : G7 ≠ G20 := by omega
  have nG9G20 : G9 ≠ G20 := by omega
  have nG11G20 : G11 ≠ G20 := by omega
  have nG13G20 : G13 ≠ G20 := by omega
  have nG15G20 : G15 ≠ G20 := by omega
  have nG17G20 : G17 ≠ G20 := by omega
  clear hHeld hb_V7 sb0_V7 sb1_V7 sb2_V7 sn7_V7 sn9_V7 sn11_V7 sn13_V7 sn15_V7 sn17_V7
  clear gb0_V7 gb1_V7 gb2_V7 gn7_V7 gn9_V7 gn11_V7 gn13_V7 gn15_V7 gn17_V7 hlaV7 lG19 lG20
  go_upto_region 10 with fail
  refine plain_start (S := fun W' => Below V8.heap.size V8 W') (by kernel_rfl) (Below.refl _ _) (fun hHeld => ?_)
  refine wpAnyH_take (i := 0) (oi := ⟨(some 68), _, _, _, _, _⟩) (v := _) rfl (by kernel_rfl) (by kernel_rfl) (by kernel_rfl) (fun _ _ _ h => h) (yieldsIf_load_mid (by rfl) _ _ rfl (w.heap.size) 0 rfl (bv a) _ (fun W' hW' => range_row ((hW'.block _ sb0_V8).trans gb0_V8.out)) (Tryd.underlying23) rfl (by rw [bv_len, Hha.out]; kernel_rfl)) hHeld ?_
  try simp only [pu]
  refine mix_start (B := V8.heap.size) (al := [⟨6, 22, 23, ((bv z32)).toArray⟩, ⟨7, 23, 23, ((bv z32)).toArray⟩]) (fuel := 8) rfl hHeld (hHeld.size) ?_
  clear hHeld
  refine mix_call (i := 1) (o := ⟨(some 69), _, _, _, _, _⟩) rfl (by kernel_rfl) (by kernel_rfl) (by kernel_rfl) (by kernel_rfl) (fun x hx => by simp only [List.mem_cons, List.not_mem_nil, or_false] at hx; rcases hx with rfl | rfl <;> first | exact makes_new rfl rfl rfl rfl zero_word) (fun W x _ h => h.alloc h.size _) (fun _ _ _ _ _ h => h) (fun X24 hHeld hBX K hK => ?_)
  go_simp
  refine (rpat_any _ a (Hha.out)).mono ?_
  rintro e W24 ⟨x69, y69, o69, rfl, e69, h69, j69, hb24⟩
  refine hK.out _ _ (below_next hHeld hHeld.size hb24) hb24 ?_
  clear hK K hHeld hBX hb24
  try simp only [pu]
  refine mix_take (i := 2) (o := ⟨(some 67), _, _, _, _, _⟩) (v := ?vqV8_9_2) rfl (by kernel_rfl) (by kernel_rfl) (by kernel_rfl) (by kernel_rfl) (by kernel_rfl) (fun _ _ _ h => h) (Or.inl ⟨by rfl, ?yqV8_9_2⟩) ?_
  case yqV8_9_2 => (intro W0 hSw; go_simp; try with_reducible rfl)
  try simp only [pu]
  refine mix_take (i := 3) (o := ⟨(some 70), _, _, _, _, _⟩) (v := .agg (bv x69).toArray) rfl (by kernel_rfl) (by kernel_rfl) (by kernel_rfl) (by kernel_rfl) (by kernel_rfl) (fun _ _ _ h => h) (Or.inl ⟨by rfl, ?yqV8_9_3⟩) ?_
  case yqV8_9_3 => (intro W0 hSw; go_simp; try with_reducible rfl)
  try simp only [pu]
  refine mix_take (i := 4) (o := ⟨(some 71), _, _, _, _, _⟩) (v := .agg (bv y69).toArray) rfl (by kernel_rfl) (by kernel_rfl) (by kernel_rfl) (by kernel_rfl) (by kernel_rfl) (fun _ _ _ h => h) (Or.inl ⟨by rfl, ?yqV8_9_4⟩) ?_
  case yqV8_9_4 => (intro W0 hSw; go_simp; try with_reducible rfl)
  try simp only [pu]
  refine mix_take (i := 5) (o := ⟨(some 72), _, _, _, _, _⟩) (v := .bool o69) rfl (by kernel_rfl) (by kernel_rfl) (by kernel_rfl) (by kernel_rfl) (by kernel_rfl) (fun _ _ _ h => h) (Or.inl ⟨by rfl, ?yqV8_9_5⟩) ?_
  case yqV8_9_5 => (intro W0 hSw; go_simp; try with_reducible rfl)
  try simp only [pu]
  refine mix_end (by kernel_rfl) (by kernel_rfl) (by simp) (by simp) (fun x hx => by simp only [List.mem_cons, List.not_mem_nil, or_false] at hx; rcases hx with rfl | rfl <;> first | exact makes_new rfl rfl rfl rfl zero_word) (fun W x _ h => h.alloc h.size _) (fun D hD W25 hHeld hBX hHo => ?_)
  obtain ⟨G22, G23, rfl⟩ := v_two hD
  have xG22 : Hid (W25.heap[G22]? = some (.cells ((bv z32)).toArray 23 (0, 0))) := hHo.row (⟨6, 22, 23, ((bv z32)).toArray⟩, G22) (by simp)
  have lG22 : V8.heap.size ≤ G22 := hHo.new (⟨6, 22, 23, ((bv z32)).toArray⟩, G22) (by simp)
  have xG23 : Hid (W25.heap[G23]? = some (.cells ((bv z32)).toArray 23 (0, 0))) := hHo.row (⟨7, 23, 23, ((bv z32)).toArray⟩, G23) (by simp)
  have lG23 : V8.heap.size ≤ G23 := hHo.new (⟨7, 23, 23, ((bv z32)).toArray⟩, G23) (by simp)
  have hnd := hHo.nodup
  simp only [List.map_cons, List.map_nil, List.nodup_cons, List.mem_cons, List.not_mem_nil, or_false, not_false_eq_true, List.nodup_nil, and_true] at hnd
  have nG22G23 := hnd
  clear hnd
  clear hHo hBX hD
  simp only [markD, putD, List.foldr_cons, List.foldr_nil, pu, List.setIfInBounds_toArray, List.set_cons_zero, List.set_cons_succ]
  refine wpAnyH_ready (rs := [8]) (by kernel_rfl) (by simp) ?_
  refine AllReadyH.cons (i := 8) (o := ⟨none, _, _, _, _, _⟩) rfl (fun K hK => ?_) AllReadyH.nil
  refine step_row (by rfl) 23 (.tmp 22) (.tmp 70) rfl G22 (bv x69) rfl rfl 23 _ xG22.out (by rw [bv_len, h69.out]; kernel_rfl) (by rw [List.size_toArray, bv_len, bv_len, h69.out, z32_len]) (bv_one _) ?_
  intro W26 yG22 kG22
  have zG23 := row_but xG23 kG22 (by omega)
  clear xG23
  have xG23 := zG23
  clear zG23
  refine hK.out _ _ (But.below hHeld kG22 lG22 hHeld.size) (fun hHeld => ?_)
  clear hK K kG22 xG22
  have xG22 := yG22
  clear yG22
  try simp only [pu]
  refine wpAnyH_ready (rs := [9]) (by kernel_rfl) (by simp) ?_
  refine AllReadyH.cons (i := 9) (o := ⟨none, _, _, _, _, _⟩) rfl (fun K hK => ?_) AllReadyH.nil
  refine step_row (by rfl) 23 (.tmp 23) (.tmp 71) rfl G23 (bv y69) rfl rfl 23 _ xG23.out (by rw [bv_len, j69.out]; kernel_rfl) (by rw [List.size_toArray, bv_len, bv_len, j69.out, z32_len]) (bv_one _) ?_
  intro W27 yG23 kG23
  have zG22 := row_but xG22 kG23 (by omega)
  clear xG22
  have xG22 := zG22
  clear zG22
  refine hK.out _ _ (But.below hHeld kG23 lG23 hHeld.size) (fun hHeld => ?_)
  clear hK K kG23 xG23
  have xG23 := yG23
  clear yG23
  try simp only [pu]
  refine wpAnyH_take (i := 10) (oi := ⟨(some 24), _, _, _, _, _⟩) (v := ?vqV8_9_10) rfl (by kernel_rfl) (by kernel_rfl) (by kernel_rfl) (fun _ _ _ h => h) (Or.inl ⟨by rfl, ?yqV8_9_10⟩) hHeld ?_
  case yqV8_9_10 => (intro W0 hSw; go_simp; try with_reducible rfl)
  try simp only [pu]
  refine wpAnyH_done (by kernel_rfl) ?_ _
  obtain ⟨V9, rV9⟩ : ∃ X, X = W27 := ⟨_, rfl⟩
  subst rV9
  have gb0_V9 := row_next2 gb0_V8 hHeld
  have sb0_V9 := row_size gb0_V9
  have gb1_V9 := row_next2 gb1_V8 hHeld
  have sb1_V9 := row_size gb1_V9
  have gb2_V9 := row_next2 gb2_V8 hHeld
  have sb2_V9 := row_size gb2_V9
  have gn7_V9 := row_next2 gn7_V8 hHeld
  have sn7_V9 := row_size gn7_V9
  have gn9_V9 := row_next2 gn9_V8 hHeld
  have sn9_V9 := row_size gn9_V9
  have gn11_V9 := row_next2 gn11_V8 hHeld
  have sn11_V9 := row_size gn11_V9
  have gn13_V9 := row_next2 gn13_V8 hHeld
  have sn13_V9 := row_size gn13_V9
  have gn15_V9 := row_next2 gn15_V8 hHeld
  have sn15_V9 := row_size gn15_V9
  have gn17_V9 := row_next2 gn17_V8 hHeld
  have sn17_V9 := row_size gn17_V9
  have gn19_V9 := row_next2 gn19_V8 hHeld
  have sn19_V9 := row_size gn19_V9
  have gn20_V9 := row_next2 gn20_V8 hHeld
  have sn20_V9 := row_size gn20_V9
  have hb_V9 := below_next hb_V8 hb_V8.size hHeld
  have hlaV9 := hlaV8.next hHeld
  have gn22_V9 := xG22
  have sn22_V9 := row_size gn22_V9
  clear xG22
  have gn23_V9 := xG23
  have sn23_V9 := row_size gn23_V9
  clear xG23
  have wG22 : w.heap.size + 3 ≤ G22 := by omega
  have wG23 : w.heap.size + 3 ≤ G23 := by omega
  have nG7G22 : G7 ≠ G22 := by omega
  have nG9G22 : G9 ≠ G22 := by omega
  have nG11G22 : G11 ≠ G22 := by omega
  have nG13G22 : G13 ≠ G22 := by omega
  have nG15G22 : G15 ≠ G22 := by omega
  have nG17G22 : G17 ≠ G22 := by omega
  have nG19G22 : G19 ≠ G22 := by omega
  have nG20G22 : G20 ≠ G22 := by omega
  have nG7G23 : G7 ≠ G23 := by omega
  have nG9G23 : G9 ≠ G23 := by omega
  have nG11G23 : G11 ≠ G23 := by omega
  have nG13G23 : G13 ≠ G23 := by omega
  have nG15G23 : G15 ≠ G23 := by omega
  have nG17G23 : G17 ≠ G23 := by omega
  have nG19G23 : G19 ≠ G23 := by omega
  have nG20G23 : G20 ≠ G23 := by omega
  clear hHeld hb_V8 sb0_V8 sb1_V8 sb2_V8 sn7_V8 sn9_V8 sn11_V8 sn13_V8 sn15_V8 sn17_V8 sn19_V8 sn20_V8
  clear gb0_V8 gb1_V8 gb2_V8 gn7_V8 gn9_V8 gn11_V8 gn13_V8 gn15_V8 gn17_V8 gn19_V8 gn20_V8 hlaV8 lG22 lG23
  obtain ⟨o, p, ho, hp, z1, z2, z3, z4, z5, z6, z7, z8, z9, z10, z11, z12, z13⟩ := says_all (n := n) e30.out e36.out e41.out e46.out e52.out e58.out e63.out e69.out
  obtain rfl := ptIs_only ho HPO.out
  obtain rfl := ptIs_only hp HPB.out
  clear ho hp e30 e36 e41 e46 e52 e58 e63 e69
  subst z1
  subst z4
  subst z7
  subst z10
  subst z11
  obtain rfl : k30 = 3 := z2
  obtain rfl : o36 = false := z3
  obtain rfl : k41 = 0 := z5
  obtain rfl : o46 = true := z6
  obtain rfl : k52 = 0 := z8
  obtain rfl : o58 = true := z9
  obtain rfl : k63 = 0 := z12
  obtain rfl : o69 = true := z13
  go_upto_region 11 with fail
  refine wp_region_lit ?_
  refine wpList_load_row_w (by rfl) 23 (.tmp 3) rfl (w.heap.size) rfl 23 (bv a).toArray (0, 0) _ gb0_V9.out Tryd.underlying23 rfl (by rw [bv_size a (Hha.out)]; kernel_rfl) ?_
  try simp only [pu]
  refine wpl_call rfl fun K hK => ?_
  go_simp
  refine (pgood_any _ hlaV9 a Hha.out).mono ?_
  rintro e V10 ⟨o74, rfl, e74, hb74⟩
  obtain rfl : o74 = true := good_as e74.out HPO.out
  clear e74 hlaV9
  have gb0_V10 := row_next2 gb0_V9 hb74
  have gb1_V10 := row_next2 gb1_V9 hb74
  have gb2_V10 := row_next2 gb2_V9 hb74
  have gn7_V10 := row_next2 gn7_V9 hb74
  have gn9_V10 := row_next2 gn9_V9 hb74
  have gn11_V10 := row_next2 gn11_V9 hb74
  have gn13_V10 := row_next2 gn13_V9 hb74
  have gn15_V10 := row_next2 gn15_V9 hb74
  have gn17_V10 := row_next2 gn17_V9 hb74
  have gn19_V10 := row_next2 gn19_V9 hb74
  have gn20_V10 := row_next2 gn20_V9 hb74
  have gn22_V10 := row_next2 gn22_V9 hb74
  have gn23_V10 := row_next2 gn23_V9 hb74
  have hb_V10 := below_next hb_V9 hb_V9.size hb74
  refine hK.out _ _ ?_
  clear hK K hb74 hb_V9 gb0_V9 sb0_V9 gb1_V9 sb1_V9 gb2_V9 sb2_V9 gn7_V9 sn7_V9 gn9_V9 sn9_V9 gn11_V9 sn11_V9 gn13_V9 sn13_V9 gn15_V9 sn15_V9 gn17_V9 sn17_V9 gn19_V9 sn19_V9 gn20_V9 sn20_V9 gn22_V9 sn22_V9 gn23_V9 sn23_V9
  try simp only [pu]
  refine wpl_take (v := .bool true) (by rfl) (by go_simp) ?_
  try simp only [pu]
  refine wpl_take (v := .bool true) (by rfl) (by go_simp) ?_
  try simp only [pu]
  refine wpl_take (v := .bool true) (by rfl) (by go_simp) ?_
  try simp only [pu]
  refine wpList_load_row_w (by rfl) 23 (.tmp 7) rfl G7 rfl 23 (bv v30).toArray (0, 0) _ gn7_V10.out Tryd.underlying23 rfl (by rw [bv_size v30 (h30.out)]; kernel_rfl) ?_
  try simp only [pu]
  refine wpList_load_row_w (by rfl) 23 (.tmp 9) rfl G9 rfl 23 (bv v30).toArray (0, 0) _ gn9_V10.out Tryd.underlying23 rfl (by rw [bv_size v30 (h30.out)]; kernel_rfl) ?_
  try simp only [pu]
  refine wpList_eql_w (by rfl) 23 _ (.tmp 78) (.tmp 79) rfl (by kernel_rfl) (bv v30).toArray (bv v30).toArray rfl rfl true (eql_bytes_same (P := Tryd.prog) Tryd.underlying23 Tryd.underlying5 Tryd.sizeByte v30 (h30.out) _) ?_
  try simp only [pu]
  refine wpl_take (v := .bool true) (by rfl) (by go_simp) ?_
  try simp only [pu]
  refine wpl_take (v := .bool true) (by rfl) (by go_simp) ?_
  try simp only [pu]
  refine wpl_take (v := .int .i64 3) (by rfl) (by go_simp) ?_
  try simp only [pu]
  refine wpl_take (v := .bool false) (by rfl) (by go_simp) ?_
  try simp only [pu]
  refine wpl_take (v := .bool false) (by rfl) (by go_simp) ?_
  try simp only [pu]
  refine wpl_take (v := .bool true) (by rfl) (by go_simp) ?_
  try simp only [pu]
  refine wpl_take (v := .bool true) (by rfl) (by go_simp) ?_
  try simp only [pu]
  refine wpl_take (v := .bool true) (by rfl) (by go_simp) ?_
  try simp only [pu]
  refine wpl_take (v := .bool false) (by rfl) (by go_simp) ?_
  try simp only [pu]
  refine wpl_take (v := .bool false) (by rfl) (by go_simp) ?_
  try simp only [pu]
  refine wpl_take (v := .int .i64 3) (by rfl) (by go_simp) ?_
  try simp only [pu]
  refine wpl_take (v := .bool true) (by rfl) (by go_simp) ?_
  try simp only [pu]
  refine wpl_take (v := .bool true) (by rfl) (by go_simp) ?_
  try simp only [pu]
  refine wpl_take (v := .bool true) (by rfl) (by go_simp) ?_
  try simp only [pu]
  refine wpl_take (v := .bool true) (by rfl) (by go_simp) ?_
  try simp only [pu]
  refine wpList_load_row_w (by rfl) 23 (.tmp 11) rfl G11 rfl 23 (bv v41).toArray (0, 0) _ gn11_V10.out Tryd.underlying23 rfl (by rw [bv_size v41 (h41.out)]; kernel_rfl) ?_
  try simp only [pu]
  refine wpList_load_row_w (by rfl) 23 (.tmp 13) rfl G13 rfl 23 (bv v41).toArray (0, 0) _ gn13_V10.out Tryd.underlying23 rfl (by rw [bv_size v41 (h41.out)]; kernel_rfl) ?_
  try simp only [pu]
  refine wpList_eql_w (by rfl) 23 _ (.tmp 96) (.tmp 97) rfl (by kernel_rfl) (bv v41).toArray (bv v41).toArray rfl rfl true (eql_bytes_same (P := Tryd.prog) Tryd.underlying23 Tryd.underlying5 Tryd.sizeByte v41 (h41.out) _) ?_
  try simp only [pu]
  refine wpl_take (v := .bool true) (by rfl) (by go_simp) ?_
  try simp only [pu]
  refine wpl_take (v := .bool true) (by rfl) (by go_simp) ?_
  try simp only [pu]
  refine wpl_take (v := .int .i64 0) (by rfl) (by go_simp) ?_
  try simp only [pu]
  refine wpl_take (v := .bool true) (by rfl) (by go_simp) ?_
  try simp only [pu]
  refine wpl_take (v := .bool true) (by rfl) (by go_simp) ?_
  try simp only [pu]
  refine wpl_take (v := .bool true) (by rfl) (by go_simp) ?_
  try simp only [pu]
  refine wpl_take (v := .bool true) (by rfl) (by go_simp) ?_
  try simp only [pu]
  refine wpl_take (v := .bool true) (by rfl) (by go_simp) ?_
  try simp only [pu]
  refine wpl_take (v := .bool true) (by rfl) (by go_simp) ?_
  try simp only [pu]
  refine wpl_take (v := .bool true) (by rfl) (by go_simp) ?_
  try simp only [pu]
  refine wpl_skip (by rfl) ?_
  try simp only [pu]
  refine wpl_skip (by rfl) ?_
  try simp only [pu]
  refine wpl_take (v := .bool true) (by rfl) (by go_simp) ?_
  try simp only [pu]
  refine wpl_take (v := .bool true) (by rfl) (by go_simp) ?_
  try simp only [pu]
  refine wpl_take (v := .bool true) (by rfl) (by go_simp) ?_
  try simp only [pu]
  refine wpList_load_row_w (by rfl) 23 (.tmp 15) rfl G15 rfl 23 (bv v52).toArray (0, 0) _ gn15_V10.out Tryd.underlying23 rfl (by rw [bv_size v52 (h52.out)]; kernel_rfl) ?_
  try simp only [pu]
  refine wpList_load_row_w (by rfl) 23 (.tmp 17) rfl G17 rfl 23 (bv v52).toArray (0, 0) _ gn17_V10.out Tryd.underlying23 rfl (by rw [bv_size v52 (h52.out)]; kernel_rfl) ?_
  try simp only [pu]
  refine wpList_eql_w (by rfl) 23 _ (.tmp 114) (.tmp 115) rfl (by kernel_rfl) (bv v52).toArray (bv v52).toArray rfl rfl true (eql_bytes_same (P := Tryd.prog) Tryd.underlying23 Tryd.underlying5 Tryd.sizeByte v52 (h52.out) _) ?_
  try simp only [pu]
  refine wpl_take (v := .bool true) (by rfl) (by go_simp) ?_
  try simp only [pu]
  refine wpl_take (v := .bool true) (by rfl) (by go_simp) ?_
  try simp only [pu]
  refine wpl_take (v := .int .i64 0) (by rfl) (by go_simp) ?_
  try simp only [pu]
  refine wpl_take (v := .bool true) (by rfl) (by go_simp) ?_
  try simp only [pu]
  refine wpl_take (v := .bool true) (by rfl) (by go_simp) ?_
  try simp only [pu]
  refine wpl_take (v := .bool true) (by rfl) (by go_simp) ?_
  try simp only [pu]
  refine wpl_take (v := .bool true) (by rfl) (by go_simp) ?_
  try simp only [pu]
  refine wpl_take (v := .bool true) (by rfl) (by go_simp) ?_
  try simp only [pu]
  refine wpl_take (v := .bool true) (by rfl) (by go_simp) ?_
  try simp only [pu]
  refine wpl_take (v := .bool true) (by rfl) (by go_simp) ?_
  try simp only [pu]
  refine wpl_skip (by rfl) ?_
  try simp only [pu]
  refine wpl_skip (by rfl) ?_
  try simp only [pu]
  refine wpl_take (v := .bool true) (by rfl) (by go_simp) ?_
  try simp only [pu]
  refine wpl_take (v := .bool true) (by rfl) (by go_simp) ?_
  try simp only [pu]
  refine wpl_take (v := .bool true) (by rfl) (by go_simp) ?_
  try simp only [pu]
  refine wpList_load_row_w (by rfl) 23 (.tmp 19) rfl G19 rfl 23 (bv x63).toArray (0, 0) _ gn19_V10.out Tryd.underlying23 rfl (by rw [bv_size x63 (h63.out)]; kernel_rfl) ?_
  try simp only [pu]
  refine wpList_load_row_w (by rfl) 23 (.tmp 22) rfl G22 rfl 23 (bv x63).toArray (0, 0) _ gn22_V10.out Tryd.underlying23 rfl (by rw [bv_size x63 (h63.out)]; kernel_rfl) ?_
  try simp only [pu]
  refine wpList_eql_w (by rfl) 23 _ (.tmp 132) (.tmp 133) rfl (by kernel_rfl) (bv x63).toArray (bv x63).toArray rfl rfl true (eql_bytes_same (P := Tryd.prog) Tryd.underlying23 Tryd.underlying5 Tryd.sizeByte x63 (h63.out) _) ?_
  try simp only [pu]
  refine wpl_take (v := .bool true) (by rfl) (by go_simp) ?_
  try simp only [pu]
  refine wpl_take (v := .bool true) (by rfl) (by go_simp) ?_
  try simp only [pu]
  refine wpList_load_row_w (by rfl) 23 (.tmp 20) rfl G20 rfl 23 (bv y63).toArray (0, 0) _ gn20_V10.out Tryd.underlying23 rfl (by rw [bv_size y63 (j63.out)]; kernel_rfl) ?_
  try simp only [pu]
  refine wpList_load_row_w (by rfl) 23 (.tmp 23) rfl G23 rfl 23 (bv y63).toArray (0, 0) _ gn23_V10.out Tryd.underlying23 rfl (by rw [bv_size y63 (j63.out)]; kernel_rfl) ?_
  try simp only [pu]
  refine wpList_eql_w (by rfl) 23 _ (.tmp 137) (.tmp 138) rfl (by kernel_rfl) (bv y63).toArray (bv y63).toArray rfl rfl true (eql_bytes_same (P := Tryd.prog) Tryd.underlying23 Tryd.underlying5 Tryd.sizeByte y63 (j63.out) _) ?_
  try simp only [pu]
  refine wpl_take (v := .bool true) (by rfl) (by go_simp) ?_
  try simp only [pu]
  refine wpl_take (v := .bool true) (by rfl) (by go_simp) ?_
  try simp only [pu]
  refine wpl_take (v := .int .i64 0) (by rfl) (by go_simp) ?_
  try simp only [pu]
  refine wpl_take (v := .bool true) (by rfl) (by go_simp) ?_
  try simp only [pu]
  refine wpl_take (v := .bool true) (by rfl) (by go_simp) ?_
  try simp only [pu]
  refine wpl_take (v := .bool true) (by rfl) (by go_simp) ?_
  try simp only [pu]
  refine wpl_take (v := .bool true) (by rfl) (by go_simp) ?_
  try simp only [pu]
  refine wpl_take (v := .bool true) (by rfl) (by go_simp) ?_
  try simp only [pu]
  refine wpl_take (v := .bool true) (by rfl) (by go_simp) ?_
  try simp only [pu]
  refine wpl_take (v := .bool true) (by rfl) (by go_simp) ?_
  try simp only [pu]
  refine wpl_skip (by rfl) ?_
  try simp only [pu]
  refine wpl_skip (by rfl) ?_
  try simp only [pu]
  refine wpl_take (v := .bool true) (by rfl) (by go_simp) ?_
  try simp only [pu]
  refine wpl_take (v := .bool true) (by rfl) (by go_simp) ?_
  try simp only [pu]
  refine wpl_take (v := .bool true) (by rfl) (by go_simp) ?_
  try simp only [pu]
  refine wpl_nil ?_
  go_wp2
  go_ret
  exact ⟨rfl, hb_V10⟩
end Go.Proofs.YtehkalbiomagjaaDoor
namespace Go.Proofs.YtehkalbiomagjaaDoor
open Go.RowKit

set_option maxRecDepth 100000 in
set_option maxHeartbeats 4000000 in
theorem says_PtSk (w : World) (hla : LaidP w) (a : List UInt8) (ha : a.length = 32) (b : List UInt8) (hb : b.length = 32) (n : List UInt8) (hn : n.length = 32) (P : PtE) (Q : PtE) (hoa : PtIs a (some P)) (hpb : PtIs b (some Q)) :
    Calls Tryd.prog 3 #[.agg (bv a).toArray, .agg (bv b).toArray, .agg (bv n).toArray] w fun e w' => e = .returned (.bool true) ∧ Below w.heap.size w w' := by
  have hzw := zero_word
  have HPO := vlt hoa
  clear hoa
  have HPB := vlt hpb
  clear hpb
  obtain ⟨V0, hW, gb0_V0, gb1_V0, gb2_V0, hb_V0, hsW⟩ := three_new w (bv a).toArray (bv b).toArray (bv n).toArray 23 23 23
  have HW := Lib.hid hW
  have Hha := Lib.hid ha
  have Hhb := Lib.hid hb
  have Hhn := Lib.hid hn
  have sb0_V0 := row_size gb0_V0
  have sb1_V0 := row_size gb1_V0
  have sb2_V0 := row_size gb2_V0
  have hlaV0 := hla.next hb_V0
  have gl1 := hla.size
  have gl2 := hla.turn.2
  clear hla
  clear hW hsW ha hb hn
  go_enter Tryd.func3, Tryd.ntmps3
  go_upto_region 1 with fail
  rw [HW.out]
  refine plain_start (S := fun W' => Below V0.heap.size V0 W') (by kernel_rfl) (Below.refl _ _) (fun hHeld => ?_)
  refine wpAnyH_ready (rs := [0]) (by kernel_rfl) (by simp) ?_
  refine AllReadyH.cons (i := 0) (o := ⟨(some 25), _, _, _, _, _⟩) rfl (fun K hK => ?_) AllReadyH.nil
  go_simp
  refine (awake9_any _ hlaV0).mono ?_
  rintro e W1 ⟨rfl, hb1⟩
  refine hK.out _ _ (below_next hHeld hHeld.size hb1) (fun hHeld => ?_)
  clear hK K hb1
  try simp only [pu]
  refine wpAnyH_take (i := 1) (oi := ⟨(some 26), _, _, _, _, _⟩) (v := ?vqV0_1_1) rfl (by kernel_rfl) (by kernel_rfl) (by kernel_rfl) (fun _ _ _ h => h) (Or.inl ⟨by rfl, ?yqV0_1_1⟩) hHeld ?_
  case yqV0_1_1 => (intro W0 hSw; go_simp; try with_reducible rfl)
  try simp only [pu]
  refine wpAnyH_done (by kernel_rfl) ?_ _
  obtain ⟨V1, rV1⟩ : ∃ X, X = W1 := ⟨_, rfl⟩
  subst rV1
  have gb0_V1 := row_next2 gb0_V0 hHeld
  have sb0_V1 := row_size gb0_V1
  have gb1_V1 := row_next2 gb1_V0 hHeld
  have sb1_V1 := row_size gb1_V1
  have gb2_V1 := row_next2 gb2_V0 hHeld
  have sb2_V1 := row_size gb2_V1
  have hb_V1 := below_next hb_V0 hb_V0.size hHeld
  have hlaV1 := hlaV0.next hHeld
  clear hHeld hb_V0 sb0_V0 sb1_V0 sb2_V0
  clear gb0_V0 gb1_V0 gb2_V0 hlaV0
  go_upto_region 3 with fail
  refine plain_start (S := fun W' => Below V1.heap.size V1 W') (by kernel_rfl) (Below.refl _ _) (fun hHeld => ?_)
  refine wpAnyH_take (i := 0) (oi := ⟨(some 28), _, _, _, _, _⟩) (v := _) rfl (by kernel_rfl) (by kernel_rfl) (by kernel_rfl) (fun _ _ _ h => h) (yieldsIf_load_mid (by rfl) _ _ rfl (w.heap.size) 0 rfl (bv a) _ (fun W' hW' => range_row ((hW'.block _ sb0_V1).trans gb0_V1.out)) (Tryd.underlying23) rfl (by rw [bv_len, Hha.out]; kernel_rfl)) hHeld ?_
  try simp only [pu]
  refine wpAnyH_take (i := 1) (oi := ⟨(some 29), _, _, _, _, _⟩) (v := _) rfl (by kernel_rfl) (by kernel_rfl) (by kernel_rfl) (fun _ _ _ h => h) (yieldsIf_load_mid (by rfl) _ _ rfl (w.heap.size + 1) 0 rfl (bv b) _ (fun W' hW' => range_row ((hW'.block _ sb1_V1).trans gb1_V1.out)) (Tryd.underlying23) rfl (by rw [bv_len, Hhb.out]; kernel_rfl)) hHeld ?_
  try simp only [pu]
  refine mix_start (B := V1.heap.size) (al := [⟨6, 7, 23, ((bv z32)).toArray⟩]) (fuel := 6) rfl hHeld (hHeld.size) ?_
  clear hHeld
  refine mix_call (i := 2) (o := ⟨(some 30), _, _, _, _, _⟩) rfl (by kernel_rfl) (by kernel_rfl) (by kernel_rfl) (by kernel_rfl) (fun x hx => by simp only [List.mem_cons, List.not_mem_nil, or_false] at hx; rcases hx with rfl <;> first | exact makes_new rfl rfl rfl rfl zero_word) (fun W x _ h => h.alloc h.size _) (fun _ _ _ _ _ h => h) (fun X2 hHeld hBX K hK => ?_)
  go_simp
  refine (padd_any _ (hlaV1.next hHeld) a b (Hha.out) (Hhb.out)).mono ?_
  rintro e W2 ⟨v30, k30, rfl, e30, h30, hb2⟩
  refine hK.out _ _ (below_next hHeld hHeld.size hb2) hb2 ?_
  clear hK K hHeld hBX hb2
  try simp only [pu]
  refine mix_take (i := 3) (o := ⟨(some 27), _, _, _, _, _⟩) (v := ?vqV1_2_3) rfl (by kernel_rfl) (by kernel_rfl) (by kernel_rfl) (by kernel_rfl) (by kernel_rfl) (fun _ _ _ h => h) (Or.inl ⟨by rfl, ?yqV1_2_3⟩) ?_
  case yqV1_2_3 => (intro W0 hSw; go_simp; try with_reducible rfl)
  try simp only [pu]
  refine mix_take (i := 4) (o := ⟨(some 31), _, _, _, _, _⟩) (v := .agg (bv v30).toArray) rfl (by kernel_rfl) (by kernel_rfl) (by kernel_rfl) (by kernel_rfl) (by kernel_rfl) (fun _ _ _ h => h) (Or.inl ⟨by rfl, ?yqV1_2_4⟩) ?_
  case yqV1_2_4 => (intro W0 hSw; go_simp; try with_reducible rfl)
  try simp only [pu]
  refine mix_take (i := 5) (o := ⟨(some 32), _, _, _, _, _⟩) (v := .int .i64 k30) rfl (by kernel_rfl) (by kernel_rfl) (by kernel_rfl) (by kernel_rfl) (by kernel_rfl) (fun _ _ _ h => h) (Or.inl ⟨by rfl, ?yqV1_2_5⟩) ?_
  case yqV1_2_5 => (intro W0 hSw; go_simp; try with_reducible rfl)
  try simp only [pu]
  refine mix_end (by kernel_rfl) (by kernel_rfl) (by simp) (by simp) (fun x hx => by simp only [List.mem_cons, List.not_mem_nil, or_false] at hx; rcases hx with rfl <;> first | exact makes_new rfl rfl rfl rfl zero_word) (fun W x _ h => h.alloc h.size _) (fun D hD W3 hHeld hBX hHo => ?_)
  obtain ⟨G7, rfl⟩ := v_one hD
  have xG7 : Hid (W3.heap[G7]? = some (.cells ((bv z32)).toArray 23 (0, 0))) := hHo.row (⟨6, 7, 23, ((bv z32)).toArray⟩, G7) (by simp)
  have lG7 : V1.heap.size ≤ G7 := hHo.new (⟨6, 7, 23, ((bv z32)).toArray⟩, G7) (by simp)
  clear hHo hBX hD
  simp only [markD, putD, List.foldr_cons, List.foldr_nil, pu, List.setIfInBounds_toArray, List.set_cons_zero, List.set_cons_succ]
  refine wpAnyH_ready (rs := [7]) (by kernel_rfl) (by simp) ?_
  refine AllReadyH.cons (i := 7) (o := ⟨none, _, _, _, _, _⟩) rfl (fun K hK => ?_) AllReadyH.nil
  refine step_row (by rfl) 23 (.tmp 7) (.tmp 31) rfl G7 (bv v30) rfl rfl 23 _ xG7.out (by rw [bv_len, h30.out]; kernel_rfl) (by rw [List.size_toArray, bv_len, bv_len, h30.out, z32_len]) (bv_one _) ?_
  intro W4 yG7 kG7
  refine hK.out _ _ (But.below hHeld kG7 lG7 hHeld.size) (fun hHeld => ?_)
  clear hK K kG7 xG7
  have xG7 := yG7
  clear yG7
  try simp only [pu]
  refine wpAnyH_take (i := 8) (oi := ⟨(some 8), _, _, _, _, _⟩) (v := ?vqV1_2_8) rfl (by kernel_rfl) (by kernel_rfl) (by kernel_rfl) (fun _ _ _ h => h) (Or.inl ⟨by rfl, ?yqV1_2_8⟩) hHeld ?_
  case yqV1_2_8 => (intro W0 hSw; go_simp; try with_reducible rfl)
  try simp only [pu]
  refine wpAnyH_done (by kernel_rfl) ?_ _
  obtain ⟨V2, rV2⟩ : ∃ X, X = W4 := ⟨_, rfl⟩
  subst rV2
  have gb0_V2 := row_next2 gb0_V1 hHeld
  have sb0_V2 := row_size gb0_V2
  have gb1_V2 := row_next2 gb1_V1 hHeld
  have sb1_V2 := row_size gb1_V2
  have gb2_V2 := row_next2 gb2_V1 hHeld
  have sb2_V2 := row_size gb2_V2
  have hb_V2 := below_next hb_V1 hb_V1.size hHeld
  have hlaV2 := hlaV1.next hHeld
  have gn7_V2 := xG7
  have sn7_V2 := row_size gn7_V2
  clear xG7
  have wG7 : w.heap.size + 3 ≤ G7 := by omega
  clear hHeld hb_V1 sb0_V1 sb1_V1 sb2_V1
  clear gb0_V1 gb1_V1 gb2_V1 hlaV1 lG7
  go_upto_region 4 with fail
  refine plain_start (S := fun W' => Below V2.heap.size V2 W') (by kernel_rfl) (Below.refl _ _) (fun hHeld => ?_)
  refine wpAnyH_take (i := 0) (oi := ⟨(some 34), _, _, _, _, _⟩) (v := _) rfl (by kernel_rfl) (by kernel_rfl) (by kernel_rfl) (fun _ _ _ h => h) (yieldsIf_load_mid (by rfl) _ _ rfl (w.heap.size) 0 rfl (bv a) _ (fun W' hW' => range_row ((hW'.block _ sb0_V2).trans gb0_V2.out)) (Tryd.underlying23) rfl (by rw [bv_len, Hha.out]; kernel_rfl)) hHeld ?_
  try simp only [pu]
  refine wpAnyH_take (i := 1) (oi := ⟨(some 35), _, _, _, _, _⟩) (v := _) rfl (by kernel_rfl) (by kernel_rfl) (by kernel_rfl) (fun _ _ _ h => h) (yieldsIf_load_mid (by rfl) _ _ rfl (w.heap.size + 1) 0 rfl (bv b) _ (fun W' hW' => range_row ((hW'.block _ sb1_V2).trans gb1_V2.out)) (Tryd.underlying23) rfl (by rw [bv_len, Hhb.out]; kernel_rfl)) hHeld ?_
  try simp only [pu]
  refine mix_start (B := V2.heap.size) (al := [⟨6, 9, 23, ((bv z32)).toArray⟩]) (fuel := 6) rfl hHeld (hHeld.size) ?_
  clear hHeld
  refine mix_call (i := 2) (o := ⟨(some 36), _, _, _, _, _⟩) rfl (by kernel_rfl) (by kernel_rfl) (by kernel_rfl) (by kernel_rfl) (fun x hx => by simp only [List.mem_cons, List.not_mem_nil, or_false] at hx; rcases hx with rfl <;> first | exact makes_new rfl rfl rfl rfl zero_word) (fun W x _ h => h.alloc h.size _) (fun _ _ _ _ _ h => h) (fun X5 hHeld hBX K hK => ?_)
  go_simp
  refine (rpadd_any _ a b (Hha.out) (Hhb.out)).mono ?_
  rintro e W5 ⟨v36, o36, rfl, e36, h36, hb5⟩
  refine hK.out _ _ (below_next hHeld hHeld.size hb5) hb5 ?_
  clear hK K hHeld hBX hb5
  try simp only [pu]
  refine mix_take (i := 3) (o := ⟨(some 33), _, _, _, _, _⟩) (v := ?vqV2_3_3) rfl (by kernel_rfl) (by kernel_rfl) (by kernel_rfl) (by kernel_rfl) (by kernel_rfl) (fun _ _ _ h => h) (Or.inl ⟨by rfl, ?yqV2_3_3⟩) ?_
  case yqV2_3_3 => (intro W0 hSw; go_simp; try with_reducible rfl)
  try simp only [pu]
  refine mix_take (i := 4) (o := ⟨(some 37), _, _, _, _, _⟩) (v := .agg (bv v36).toArray) rfl (by kernel_rfl) (by kernel_rfl) (by kernel_rfl) (by kernel_rfl) (by kernel_rfl) (fun _ _ _ h => h) (Or.inl ⟨by rfl, ?yqV2_3_4⟩) ?_
  case yqV2_3_4 => (intro W0 hSw; go_simp; try with_reducible rfl)
  try simp only [pu]
  refine mix_take (i := 5) (o := ⟨(some 38), _, _, _, _, _⟩) (v := .bool o36) rfl (by kernel_rfl) (by kernel_rfl) (by kernel_rfl) (by kernel_rfl) (by kernel_rfl) (fun _ _ _ h => h) (Or.inl ⟨by rfl, ?yqV2_3_5⟩) ?_
  case yqV2_3_5 => (intro W0 hSw; go_simp; try with_reducible rfl)
  try simp only [pu]
  refine mix_end (by kernel_rfl) (by kernel_rfl) (by simp) (by simp) (fun x hx => by simp only [List.mem_cons, List.not_mem_nil, or_false] at hx; rcases hx with rfl <;> first | exact makes_new rfl rfl rfl rfl zero_word) (fun W x _ h => h.alloc h.size _) (fun D hD W6 hHeld hBX hHo => ?_)
  obtain ⟨G9, rfl⟩ := v_one hD
  have xG9 : Hid (W6.heap[G9]? = some (.cells ((bv z32)).toArray 23 (0, 0))) := hHo.row (⟨6, 9, 23, ((bv z32)).toArray⟩, G9) (by simp)
  have lG9 : V2.heap.size ≤ G9 := hHo.new (⟨6, 9, 23, ((bv z32)).toArray⟩, G9) (by simp)
  clear hHo hBX hD
  simp only [markD, putD, List.foldr_cons, List.foldr_nil, pu, List.setIfInBounds_toArray, List.set_cons_zero, List.set_cons_succ]
  refine wpAnyH_ready (rs := [7]) (by kernel_rfl) (by simp) ?_
  refine AllReadyH.cons (i := 7) (o := ⟨none, _, _, _, _, _⟩) rfl (fun K hK => ?_) AllReadyH.nil
  refine step_row (by rfl) 23 (.tmp 9) (.tmp 37) rfl G9 (bv v36) rfl rfl 23 _ xG9.out (by rw [bv_len, h36.out]; kernel_rfl) (by rw [List.size_toArray, bv_len, bv_len, h36.out, z32_len]) (bv_one _) ?_
  intro W7 yG9 kG9
  refine hK.out _ _ (But.below hHeld kG9 lG9 hHeld.size) (fun hHeld => ?_)
  clear hK K kG9 xG9
  have xG9 := yG9
  clear yG9
  try simp only [pu]
  refine wpAnyH_take (i := 8) (oi := ⟨(some 10), _, _, _, _, _⟩) (v := ?vqV2_3_8) rfl (by kernel_rfl) (by kernel_rfl) (by kernel_rfl) (fun _ _ _ h => h) (Or.inl ⟨by rfl, ?yqV2_3_8⟩) hHeld ?_
  case yqV2_3_8 => (intro W0 hSw; go_simp; try with_reducible rfl)
  try simp only [pu]
  refine wpAnyH_done (by kernel_rfl) ?_ _
  obtain ⟨V3, rV3⟩ : ∃ X, X = W7 := ⟨_, rfl⟩
  subst rV3
  have gb0_V3 := row_next2 gb0_V2 hHeld
  have sb0_V3 := row_size gb0_V3
  have gb1_V3 := row_next2 gb1_V2 hHeld
  have sb1_V3 := row_size gb1_V3
  have gb2_V3 := row_next2 gb2_V2 hHeld
  have sb2_V3 := row_size gb2_V3
  have gn7_V3 := row_next2 gn7_V2 hHeld
  have sn7_V3 := row_size gn7_V3
  have hb_V3 := below_next hb_V2 hb_V2.size hHeld
  have hlaV3 := hlaV2.next hHeld
  have gn9_V3 := xG9
  have sn9_V3 := row_size gn9_V3
  clear xG9
  have wG9 : w.heap.size + 3 ≤ G9 := by omega
  have nG7G9 : G7 ≠ G9 := by omega
  clear hHeld hb_V2 sb0_V2 sb1_V2 sb2_V2 sn7_V2
  clear gb0_V2 gb1_V2 gb2_V2 gn7_V2 hlaV2 lG9
  go_upto_region 5 with fail
  refine plain_start (S := fun W' => Below V3.heap.size V3 W') (by kernel_rfl) (Below.refl _ _) (fun hHeld => ?_)
  refine wpAnyH_take (i := 0) (oi := ⟨(some 40), _, _, _, _, _⟩) (v := _) rfl (by kernel_rfl) (by kernel_rfl) (by kernel_rfl) (fun _ _ _ h => h) (yieldsIf_load_mid (by rfl) _ _ rfl (w.heap.size) 0 rfl (bv a) _ (fun W' hW' => range_row ((hW'.block _ sb0_V3).trans gb0_V3.out)) (Tryd.underlying23) rfl (by rw [bv_len, Hha.out]; kernel_rfl)) hHeld ?_
  try simp only [pu]
  refine mix_start (B := V3.heap.size) (al := [⟨5, 11, 23, ((bv z32)).toArray⟩]) (fuel := 6) rfl hHeld (hHeld.size) ?_
  clear hHeld
  refine mix_call (i := 1) (o := ⟨(some 41), _, _, _, _, _⟩) rfl (by kernel_rfl) (by kernel_rfl) (by kernel_rfl) (by kernel_rfl) (fun x hx => by simp only [List.mem_cons, List.not_mem_nil, or_false] at hx; rcases hx with rfl <;> first | exact makes_new rfl rfl rfl rfl zero_word) (fun W x _ h => h.alloc h.size _) (fun _ _ _ _ _ h => h) (fun X8 hHeld hBX K hK => ?_)
  go_simp
  refine (pneg_any _ (hlaV3.next hHeld) a (Hha.out)).mono ?_
  rintro e W8 ⟨v41, k41, rfl, e41, h41, hb8⟩
  refine hK.out _ _ (below_next hHeld hHeld.size hb8) hb8 ?_
  clear hK K hHeld hBX hb8
  try simp only [pu]
  refine mix_take (i := 2) (o := ⟨(some 39), _, _, _, _, _⟩) (v := ?vqV3_4_2) rfl (by kernel_rfl) (by kernel_rfl) (by kernel_rfl) (by kernel_rfl) (by kernel_rfl) (fun _ _ _ h => h) (Or.inl ⟨by rfl, ?yqV3_4_2⟩) ?_
  case yqV3_4_2 => (intro W0 hSw; go_simp; try with_reducible rfl)
  try simp only [pu]
  refine mix_take (i := 3) (o := ⟨(some 42), _, _, _, _, _⟩) (v := .agg (bv v41).toArray) rfl (by kernel_rfl) (by kernel_rfl) (by kernel_rfl) (by kernel_rfl) (by kernel_rfl) (fun _ _ _ h => h) (Or.inl ⟨by rfl, ?yqV3_4_3⟩) ?_
  case yqV3_4_3 => (intro W0 hSw; go_simp; try with_reducible rfl)
  try simp only [pu]
  refine mix_take (i := 4) (o := ⟨(some 43), _, _, _, _, _⟩) (v := .int .i64 k41) rfl (by kernel_rfl) (by kernel_rfl) (by kernel_rfl) (by kernel_rfl) (by kernel_rfl) (fun _ _ _ h => h) (Or.inl ⟨by rfl, ?yqV3_4_4⟩) ?_
  case yqV3_4_4 => (intro W0 hSw; go_simp; try with_reducible rfl)
  try simp only [pu]
  refine mix_end (by kernel_rfl) (by kernel_rfl) (by simp) (by simp) (fun x hx => by simp only [List.mem_cons, List.not_mem_nil, or_false] at hx; rcases hx with rfl <;> first | exact makes_new rfl rfl rfl rfl zero_word) (fun W x _ h => h.alloc h.size _) (fun D hD W9 hHeld hBX hHo => ?_)
  obtain ⟨G11, rfl⟩ := v_one hD
  have xG11 : Hid (W9.heap[G11]? = some (.cells ((bv z32)).toArray 23 (0, 0))) := hHo.row (⟨5, 11, 23, ((bv z32)).toArray⟩, G11) (by simp)
  have lG11 : V3.heap.size ≤ G11 := hHo.new (⟨5, 11, 23, ((bv z32)).toArray⟩, G11) (by simp)
  clear hHo hBX hD
  simp only [markD, putD, List.foldr_cons, List.foldr_nil, pu, List.setIfInBounds_toArray, List.set_cons_zero, List.set_cons_succ]
  refine wpAnyH_ready (rs := [6]) (by kernel_rfl) (by simp) ?_
  refine AllReadyH.cons (i := 6) (o := ⟨none, _, _, _, _, _⟩) rfl (fun K hK => ?_) AllReadyH.nil
  refine step_row (by rfl) 23 (.tmp 11) (.tmp 42) rfl G11 (bv v41) rfl rfl 23 _ xG11.out (by rw [bv_len, h41.out]; kernel_rfl) (by rw [List.size_toArray, bv_len, bv_len, h41.out, z32_len]) (bv_one _) ?_
  intro W10 yG11 kG11
  refine hK.out _ _ (But.below hHeld kG11 lG11 hHeld.size) (fun hHeld => ?_)
  clear hK K kG11 xG11
  have xG11 := yG11
  clear yG11
  try simp only [pu]
  refine wpAnyH_take (i := 7) (oi := ⟨(some 12), _, _, _, _, _⟩) (v := ?vqV3_4_7) rfl (by kernel_rfl) (by kernel_rfl) (by kernel_rfl) (fun _ _ _ h => h) (Or.inl ⟨by rfl, ?yqV3_4_7⟩) hHeld ?_
  case yqV3_4_7 => (intro W0 hSw; go_simp; try with_reducible rfl)
  try simp only [pu]
  refine wpAnyH_done (by kernel_rfl) ?_ _
  obtain ⟨V4, rV4⟩ : ∃ X, X = W10 := ⟨_, rfl⟩
  subst rV4
  have gb0_V4 := row_next2 gb0_V3 hHeld
  have sb0_V4 := row_size gb0_V4
  have gb1_V4 := row_next2 gb1_V3 hHeld
  have sb1_V4 := row_size gb1_V4
  have gb2_V4 := row_next2 gb2_V3 hHeld
  have sb2_V4 := row_size gb2_V4
  have gn7_V4 := row_next2 gn7_V3 hHeld
  have sn7_V4 := row_size gn7_V4
  have gn9_V4 := row_next2 gn9_V3 hHeld
  have sn9_V4 := row_size gn9_V4
  have hb_V4 := below_next hb_V3 hb_V3.size hHeld
  have hlaV4 := hlaV3.next hHeld
  have gn11_V4 := xG11
  have sn11_V4 := row_size gn11_V4
  clear xG11
  have wG11 : w.heap.size + 3 ≤ G11 := by omega
  have nG7G11 : G7 ≠ G11 := by omega
  have nG9G11 : G9 ≠ G11 := by omega
  clear hHeld hb_V3 sb0_V3 sb1_V3 sb2_V3 sn7_V3 sn9_V3
  clear gb0_V3 gb1_V3 gb2_V3 gn7_V3 gn9_V3 hlaV3 lG11
  go_upto_region 6 with fail
  refine plain_start (S := fun W' => Below V4.heap.size V4 W') (by kernel_rfl) (Below.refl _ _) (fun hHeld => ?_)
  refine wpAnyH_take (i := 0) (oi := ⟨(some 45), _, _, _, _, _⟩) (v := _) rfl (by kernel_rfl) (by kernel_rfl) (by kernel_rfl) (fun _ _ _ h => h) (yieldsIf_load_mid (by rfl) _ _ rfl (w.heap.size) 0 rfl (bv a) _ (fun W' hW' => range_row ((hW'.block _ sb0_V4).trans gb0_V4.out)) (Tryd.underlying23) rfl (by rw [bv_len, Hha.out]; kernel_rfl)) hHeld ?_
  try simp only [pu]
  refine mix_start (B := V4.heap.size) (al := [⟨5, 13, 23, ((bv z32)).toArray⟩]) (fuel := 6) rfl hHeld (hHeld.size) ?_
  clear hHeld
  refine mix_call (i := 1) (o := ⟨(some 46), _, _, _, _, _⟩) rfl (by kernel_rfl) (by kernel_rfl) (by kernel_rfl) (by kernel_rfl) (fun x hx => by simp only [List.mem_cons, List.not_mem_nil, or_false] at hx; rcases hx with rfl <;> first | exact makes_new rfl rfl rfl rfl zero_word) (fun W x _ h => h.alloc h.size _) (fun _ _ _ _ _ h => h) (fun X11 hHeld hBX K hK => ?_)
  go_simp
  refine (rpneg_any _ a (Hha.out)).mono ?_
  rintro e W11 ⟨v46, o46, rfl, e46, h46, hb11⟩
  refine hK.out _ _ (below_next hHeld hHeld.size hb11) hb11 ?_
  clear hK K hHeld hBX hb11
  try simp only [pu]
  refine mix_take (i := 2) (o := ⟨(some 44), _, _, _, _, _⟩) (v := ?vqV4_5_2) rfl (by kernel_rfl) (by kernel_rfl) (by kernel_rfl) (by kernel_rfl) (by kernel_rfl) (fun _ _ _ h => h) (Or.inl ⟨by rfl, ?yqV4_5_2⟩) ?_
  case yqV4_5_2 => (intro W0 hSw; go_simp; try with_reducible rfl)
  try simp only [pu]
  refine mix_take (i := 3) (o := ⟨(some 47), _, _, _, _, _⟩) (v := .agg (bv v46).toArray) rfl (by kernel_rfl) (by kernel_rfl) (by kernel_rfl) (by kernel_rfl) (by kernel_rfl) (fun _ _ _ h => h) (Or.inl ⟨by rfl, ?yqV4_5_3⟩) ?_
  case yqV4_5_3 => (intro W0 hSw; go_simp; try with_reducible rfl)
  try simp only [pu]
  refine mix_take (i := 4) (o := ⟨(some 48), _, _, _, _, _⟩) (v := .bool o46) rfl (by kernel_rfl) (by kernel_rfl) (by kernel_rfl) (by kernel_rfl) (by kernel_rfl) (fun _ _ _ h => h) (Or.inl ⟨by rfl, ?yqV4_5_4⟩) ?_
  case yqV4_5_4 => (intro W0 hSw; go_simp; try with_reducible rfl)
  try simp only [pu]
  refine mix_end (by kernel_rfl) (by kernel_rfl) (by simp) (by simp) (fun x hx => by simp only [List.mem_cons, List.not_mem_nil, or_false] at hx; rcases hx with rfl <;> first | exact makes_new rfl rfl rfl rfl zero_word) (fun W x _ h => h.alloc h.size _) (fun D hD W12 hHeld hBX hHo => ?_)
  obtain ⟨G13, rfl⟩ := v_one hD
  have xG13 : Hid (W12.heap[G13]? = some (.cells ((bv z32)).toArray 23 (0, 0))) := hHo.row (⟨5, 13, 23, ((bv z32)).toArray⟩, G13) (by simp)
  have lG13 : V4.heap.size ≤ G13 := hHo.new (⟨5, 13, 23, ((bv z32)).toArray⟩, G13) (by simp)
  clear hHo hBX hD
  simp only [markD, putD, List.foldr_cons, List.foldr_nil, pu, List.setIfInBounds_toArray, List.set_cons_zero, List.set_cons_succ]
  refine wpAnyH_ready (rs := [6]) (by kernel_rfl) (by simp) ?_
  refine AllReadyH.cons (i := 6) (o := ⟨none, _, _, _, _, _⟩) rfl (fun K hK => ?_) AllReadyH.nil
  refine step_row (by rfl) 23 (.tmp 13) (.tmp 47) rfl G13 (bv v46) rfl rfl 23 _ xG13.out (by rw [bv_len, h46.out]; kernel_rfl) (by rw [List.size_toArray, bv_len, bv_len, h46.out, z32_len]) (bv_one _) ?_
  intro W13 yG13 kG13
  refine hK.out _ _ (But.below hHeld kG13 lG13 hHeld.size) (fun hHeld => ?_)
  clear hK K kG13 xG13
  have xG13 := yG13
  clear yG13
  try simp only [pu]
  refine wpAnyH_take (i := 7) (oi := ⟨(some 14), _, _, _, _, _⟩) (v := ?vqV4_5_7) rfl (by kernel_rfl) (by kernel_rfl) (by kernel_rfl) (fun _ _ _ h => h) (Or.inl ⟨by rfl, ?yqV4_5_7⟩) hHeld ?_
  case yqV4_5_7 => (intro W0 hSw; go_simp; try with_reducible rfl)
  try simp only [pu]
  refine wpAnyH_done (by kernel_rfl) ?_ _
  obtain ⟨V5, rV5⟩ : ∃ X, X = W13 := ⟨_, rfl⟩
  subst rV5
  have gb0_V5 := row_next2 gb0_V4 hHeld
  have sb0_V5 := row_size gb0_V5
  have gb1_V5 := row_next2 gb1_V4 hHeld
  have sb1_V5 := row_size gb1_V5
  have gb2_V5 := row_next2 gb2_V4 hHeld
  have sb2_V5 := row_size gb2_V5
  have gn7_V5 := row_next2 gn7_V4 hHeld
  have sn7_V5 := row_size gn7_V5
  have gn9_V5 := row_next2 gn9_V4 hHeld
  have sn9_V5 := row_size gn9_V5
  have gn11_V5 := row_next2 gn11_V4 hHeld
  have sn11_V5 := row_size gn11_V5
  have hb_V5 := below_next hb_V4 hb_V4.size hHeld
  have hlaV5 := hlaV4.next hHeld
  have gn13_V5 := xG13
  have sn13_V5 := row_size gn13_V5
  clear xG13
  have wG13 : w.heap.size + 3 ≤ G13 := by omega
  have nG7G13 : G7 ≠ G13 := by omega
  have nG9G13 : G9 ≠ G13 := by omega
  have nG11G13 : G11 ≠ G13 := by omega
  clear hHeld hb_V4 sb0_V4 sb1_V4 sb2_V4 sn7_V4 sn9_V4 sn11_V4
  clear gb0_V4 gb1_V4 gb2_V4 gn7_V4 gn9_V4 gn11_V4 hlaV4 lG13
  go_upto_region 7 with fail
  refine plain_start (S := fun W' => Below V5.heap.size V5 W') (by kernel_rfl) (Below.refl _ _) (fun hHeld => ?_)
  refine wpAnyH_take (i := 0) (oi := ⟨(some 50), _, _, _, _, _⟩) (v := _) rfl (by kernel_rfl) (by kernel_rfl) (by kernel_rfl) (fun _ _ _ h => h) (yieldsIf_load_mid (by rfl) _ _ rfl (w.heap.size + 2) 0 rfl (bv n) _ (fun W' hW' => range_row ((hW'.block _ sb2_V5).trans gb2_V5.out)) (Tryd.underlying23) rfl (by rw [bv_len, Hhn.out]; kernel_rfl)) hHeld ?_
  try simp only [pu]
  refine wpAnyH_take (i := 1) (oi := ⟨(some 51), _, _, _, _, _⟩) (v := _) rfl (by kernel_rfl) (by kernel_rfl) (by kernel_rfl) (fun _ _ _ h => h) (yieldsIf_load_mid (by rfl) _ _ rfl (w.heap.size) 0 rfl (bv a) _ (fun W' hW' => range_row ((hW'.block _ sb0_V5).trans gb0_V5.out)) (Tryd.underlying23) rfl (by rw [bv_len, Hha.out]; kernel_rfl)) hHeld ?_
  try simp only [pu]
  refine mix_start (B := V5.heap.size) (al := [⟨6, 15, 23, ((bv z32)).toArray⟩]) (fuel := 6) rfl hHeld (hHeld.size) ?_
  clear hHeld
  refine mix_call (i := 2) (o := ⟨(some 52), _, _, _, _, _⟩) rfl (by kernel_rfl) (by kernel_rfl) (by kernel_rfl) (by kernel_rfl) (fun x hx => by simp only [List.mem_cons, List.not_mem_nil, or_false] at hx; rcases hx with rfl <;> first | exact makes_new rfl rfl rfl rfl zero_word) (fun W x _ h => h.alloc h.size _) (fun _ _ _ _ _ h => h) (fun X14 hHeld hBX K hK => ?_)
  go_simp
  refine (pmul_any _ (hlaV5.next hHeld) n a (Hhn.out) (Hha.out)).mono ?_
  rintro e W14 ⟨v52, k52, rfl, e52, h52, hb14⟩
  refine hK.out _ _ (below_next hHeld hHeld.size hb14) hb14 ?_
  clear hK K hHeld hBX hb14
  try simp only [pu]
  refine mix_take (i := 3) (o := ⟨(some 49), _, _, _, _, _⟩) (v := ?vqV5_6_3) rfl (by kernel_rfl) (by kernel_rfl) (by kernel_rfl) (by kernel_rfl) (by kernel_rfl) (fun _ _ _ h => h) (Or.inl ⟨by rfl, ?yqV5_6_3⟩) ?_
  case yqV5_6_3 => (intro W0 hSw; go_simp; try with_reducible rfl)
  try simp only [pu]
  refine mix_take (i := 4) (o := ⟨(some 53), _, _, _, _, _⟩) (v := .agg (bv v52).toArray) rfl (by kernel_rfl) (by kernel_rfl) (by kernel_rfl) (by kernel_rfl) (by kernel_rfl) (fun _ _ _ h => h) (Or.inl ⟨by rfl, ?yqV5_6_4⟩) ?_
  case yqV5_6_4 => (intro W0 hSw; go_simp; try with_reducible rfl)
  try simp only [pu]
  refine mix_take (i := 5) (o := ⟨(some 54), _, _, _, _, _⟩) (v := .int .i64 k52) rfl (by kernel_rfl) (by kernel_rfl) (by kernel_rfl) (by kernel_rfl) (by kernel_rfl) (fun _ _ _ h => h) (Or.inl ⟨by rfl, ?yqV5_6_5⟩) ?_
  case yqV5_6_5 => (intro W0 hSw; go_simp; try with_reducible rfl)
  try simp only [pu]
  refine mix_end (by kernel_rfl) (by kernel_rfl) (by simp) (by simp) (fun x hx => by simp only [List.mem_cons, List.not_mem_nil, or_false] at hx; rcases hx with rfl <;> first | exact makes_new rfl rfl rfl rfl zero_word) (fun W x _ h => h.alloc h.size _) (fun D hD W15 hHeld hBX hHo => ?_)
  obtain ⟨G15, rfl⟩ := v_one hD
  have xG15 : Hid (W15.heap[G15]? = some (.cells ((bv z32)).toArray 23 (0, 0))) := hHo.row (⟨6, 15, 23, ((bv z32)).toArray⟩, G15) (by simp)
  have lG15 : V5.heap.size ≤ G15 := hHo.new (⟨6, 15, 23, ((bv z32)).toArray⟩, G15) (by simp)
  clear hHo hBX hD
  simp only [markD, putD, List.foldr_cons, List.foldr_nil, pu, List.setIfInBounds_toArray, List.set_cons_zero, List.set_cons_succ]
  refine wpAnyH_ready (rs := [7]) (by kernel_rfl) (by simp) ?_
  refine AllReadyH.cons (i := 7) (o := ⟨none, _, _, _, _, _⟩) rfl (fun K hK => ?_) AllReadyH.nil
  refine step_row (by rfl) 23 (.tmp 15) (.tmp 53) rfl G15 (bv v52) rfl rfl 23 _ xG15.out (by rw [bv_len, h52.out]; kernel_rfl) (by rw [List.size_toArray, bv_len, bv_len, h52.out, z32_len]) (bv_one _) ?_
  intro W16 yG15 kG15
  refine hK.out _ _ (But.below hHeld kG15 lG15 hHeld.size) (fun hHeld => ?_)
  clear hK K kG15 xG15
  have xG15 := yG15
  clear yG15
  try simp only [pu]
  refine wpAnyH_take (i := 8) (oi := ⟨(some 16), _, _, _, _, _⟩) (v := ?vqV5_6_8) rfl (by kernel_rfl) (by kernel_rfl) (by kernel_rfl) (fun _ _ _ h => h) (Or.inl ⟨by rfl, ?yqV5_6_8⟩) hHeld ?_
  case yqV5_6_8 => (intro W0 hSw; go_simp; try with_reducible rfl)
  try simp only [pu]
  refine wpAnyH_done (by kernel_rfl) ?_ _
  obtain ⟨V6, rV6⟩ : ∃ X, X = W16 := ⟨_, rfl⟩
  subst rV6
  have gb0_V6 := row_next2 gb0_V5 hHeld
  have sb0_V6 := row_size gb0_V6
  have gb1_V6 := row_next2 gb1_V5 hHeld
  have sb1_V6 := row_size gb1_V6
  have gb2_V6 := row_next2 gb2_V5 hHeld
  have sb2_V6 := row_size gb2_V6
  have gn7_V6 := row_next2 gn7_V5 hHeld
  have sn7_V6 := row_size gn7_V6
  have gn9_V6 := row_next2 gn9_V5 hHeld
  have sn9_V6 := row_size gn9_V6
  have gn11_V6 := row_next2 gn11_V5 hHeld
  have sn11_V6 := row_size gn11_V6
  have gn13_V6 := row_next2 gn13_V5 hHeld
  have sn13_V6 := row_size gn13_V6
  have hb_V6 := below_next hb_V5 hb_V5.size hHeld
  have hlaV6 := hlaV5.next hHeld
  have gn15_V6 := xG15
  have sn15_V6 := row_size gn15_V6
  clear xG15
  have wG15 : w.heap.size + 3 ≤ G15 := by omega
  have nG7G15 : G7 ≠ G15 := by omega
  have nG9G15 : G9 ≠ G15 := by omega
  have nG11G15 : G11 ≠ G15 := by omega
  have nG13G15 : G13 ≠ G15 := by omega
  clear hHeld hb_V5 sb0_V5 sb1_V5 sb2_V5 sn7_V5 sn9_V5 sn11_V5 sn13_V5
  clear gb0_V5 gb1_V5 gb2_V5 gn7_V5 gn9_V5 gn11_V5 gn13_V5 hlaV5 lG15
  go_upto_region 8 with fail
  refine plain_start (S := fun W' => Below V6.heap.size V6 W') (by kernel_rfl) (Below.refl _ _) (fun hHeld => ?_)
  refine wpAnyH_take (i := 0) (oi := ⟨(some 56), _, _, _, _, _⟩) (v := _) rfl (by kernel_rfl) (by kernel_rfl) (by kernel_rfl) (fun _ _ _ h => h) (yieldsIf_load_mid (by rfl) _ _ rfl (w.heap.size + 2) 0 rfl (bv n) _ (fun W' hW' => range_row ((hW'.block _ sb2_V6).trans gb2_V6.out)) (Tryd.underlying23) rfl (by rw [bv_len, Hhn.out]; kernel_rfl)) hHeld ?_
  try simp only [pu]
  refine wpAnyH_take (i := 1) (oi := ⟨(some 57), _, _, _, _, _⟩) (v := _) rfl (by kernel_rfl) (by kernel_rfl) (by kernel_rfl) (fun _ _ _ h => h) (yieldsIf_load_mid (by rfl) _ _ rfl (w.heap.size) 0 rfl (bv a) _ (fun W' hW' => range_row ((hW'.block _ sb0_V6).trans gb0_V6.out)) (Tryd.underlying23) rfl (by rw [bv_len, Hha.out]; kernel_rfl)) hHeld ?_
  try simp only [pu]
  refine mix_start (B := V6.heap.size) (al := [⟨6, 17, 23, ((bv z32)).toArray⟩]) (fuel := 6) rfl hHeld (hHeld.size) ?_
  clear hHeld
  refine mix_call (i := 2) (o := ⟨(some 58), _, _, _, _, _⟩) rfl (by kernel_rfl) (by kernel_rfl) (by kernel_rfl) (by kernel_rfl) (fun x hx => by simp only [List.mem_cons, List.not_mem_nil, or_false] at hx; rcases hx with rfl <;> first | exact makes_new rfl rfl rfl rfl zero_word) (fun W x _ h => h.alloc h.size _) (fun _ _ _ _ _ h => h) (fun X17 hHeld hBX K hK => ?_)
  go_simp
  refine (rpmul_any _ n a (Hhn.out) (Hha.out)).mono ?_
  rintro e W17 ⟨v58, o58, rfl, e58, h58, hb17⟩
  refine hK.out _ _ (below_next hHeld hHeld.size hb17) hb17 ?_
  clear hK K hHeld hBX hb17
  try simp only [pu]
  refine mix_take (i := 3) (o := ⟨(some 55), _, _, _, _, _⟩) (v := ?vqV6_7_3) rfl (by kernel_rfl) (by kernel_rfl) (by kernel_rfl) (by kernel_rfl) (by kernel_rfl) (fun _ _ _ h => h) (Or.inl ⟨by rfl, ?yqV6_7_3⟩) ?_
  case yqV6_7_3 => (intro W0 hSw; go_simp; try with_reducible rfl)
  try simp only [pu]
  refine mix_take (i := 4) (o := ⟨(some 59), _, _, _, _, _⟩) (v := .agg (bv v58).toArray) rfl (by kernel_rfl) (by kernel_rfl) (by kernel_rfl) (by kernel_rfl) (by kernel_rfl) (fun _ _ _ h => h) (Or.inl ⟨by rfl, ?yqV6_7_4⟩) ?_
  case yqV6_7_4 => (intro W0 hSw; go_simp; try with_reducible rfl)
  try simp only [pu]
  refine mix_take (i := 5) (o := ⟨(some 60), _, _, _, _, _⟩) (v := .bool o58) rfl (by kernel_rfl) (by kernel_rfl) (by kernel_rfl) (by kernel_rfl) (by kernel_rfl) (fun _ _ _ h => h) (Or.inl ⟨by rfl, ?yqV6_7_5⟩) ?_
  case yqV6_7_5 => (intro W0 hSw; go_simp; try with_reducible rfl)
  try simp only [pu]
  refine mix_end (by kernel_rfl) (by kernel_rfl) (by simp) (by simp) (fun x hx => by simp only [List.mem_cons, List.not_mem_nil, or_false] at hx; rcases hx with rfl <;> first | exact makes_new rfl rfl rfl rfl zero_word) (fun W x _ h => h.alloc h.size _) (fun D hD W18 hHeld hBX hHo => ?_)
  obtain ⟨G17, rfl⟩ := v_one hD
  have xG17 : Hid (W18.heap[G17]? = some (.cells ((bv z32)).toArray 23 (0, 0))) := hHo.row (⟨6, 17, 23, ((bv z32)).toArray⟩, G17) (by simp)
  have lG17 : V6.heap.size ≤ G17 := hHo.new (⟨6, 17, 23, ((bv z32)).toArray⟩, G17) (by simp)
  clear hHo hBX hD
  simp only [markD, putD, List.foldr_cons, List.foldr_nil, pu, List.setIfInBounds_toArray, List.set_cons_zero, List.set_cons_succ]
  refine wpAnyH_ready (rs := [7]) (by kernel_rfl) (by simp) ?_
  refine AllReadyH.cons (i := 7) (o := ⟨none, _, _, _, _, _⟩) rfl (fun K hK => ?_) AllReadyH.nil
  refine step_row (by rfl) 23 (.tmp 17) (.tmp 59) rfl G17 (bv v58) rfl rfl 23 _ xG17.out (by rw [bv_len, h58.out]; kernel_rfl) (by rw [List.size_toArray, bv_len, bv_len, h58.out, z32_len]) (bv_one _) ?_
  intro W19 yG17 kG17
  refine hK.out _ _ (But.below hHeld kG17 lG17 hHeld.size) (fun hHeld => ?_)
  clear hK K kG17 xG17
  have xG17 := yG17
  clear yG17
  try simp only [pu]
  refine wpAnyH_take (i := 8) (oi := ⟨(some 18), _, _, _, _, _⟩) (v := ?vqV6_7_8) rfl (by kernel_rfl) (by kernel_rfl) (by kernel_rfl) (fun _ _ _ h => h) (Or.inl ⟨by rfl, ?yqV6_7_8⟩) hHeld ?_
  case yqV6_7_8 => (intro W0 hSw; go_simp; try with_reducible rfl)
  try simp only [pu]
  refine wpAnyH_done (by kernel_rfl) ?_ _
  obtain ⟨V7, rV7⟩ : ∃ X, X = W19 := ⟨_, rfl⟩
  subst rV7
  have gb0_V7 := row_next2 gb0_V6 hHeld
  have sb0_V7 := row_size gb0_V7
  have gb1_V7 := row_next2 gb1_V6 hHeld
  have sb1_V7 := row_size gb1_V7
  have gb2_V7 := row_next2 gb2_V6 hHeld
  have sb2_V7 := row_size gb2_V7
  have gn7_V7 := row_next2 gn7_V6 hHeld
  have sn7_V7 := row_size gn7_V7
  have gn9_V7 := row_next2 gn9_V6 hHeld
  have sn9_V7 := row_size gn9_V7
  have gn11_V7 := row_next2 gn11_V6 hHeld
  have sn11_V7 := row_size gn11_V7
  have gn13_V7 := row_next2 gn13_V6 hHeld
  have sn13_V7 := row_size gn13_V7
  have gn15_V7 := row_next2 gn15_V6 hHeld
  have sn15_V7 := row_size gn15_V7
  have hb_V7 := below_next hb_V6 hb_V6.size hHeld
  have hlaV7 := hlaV6.next hHeld
  have gn17_V7 := xG17
  have sn17_V7 := row_size gn17_V7
  clear xG17
  have wG17 : w.heap.size + 3 ≤ G17 := by omega
  have nG7G17 : G7 ≠ G17 := by omega
  have nG9G17 : G9 ≠ G17 := by omega
  have nG11G17 : G11 ≠ G17 := by omega
  have nG13G17 : G13 ≠ G17 := by omega
  have nG15G17 : G15 ≠ G17 := by omega
  clear hHeld hb_V6 sb0_V6 sb1_V6 sb2_V6 sn7_V6 sn9_V6 sn11_V6 sn13_V6 sn15_V6
  clear gb0_V6 gb1_V6 gb2_V6 gn7_V6 gn9_V6 gn11_V6 gn13_V6 gn15_V6 hlaV6 lG17
  go_upto_region 9 with fail
  refine plain_start (S := fun W' => Below V7.heap.size V7 W') (by kernel_rfl) (Below.refl _ _) (fun hHeld => ?_)
  refine wpAnyH_take (i := 0) (oi := ⟨(some 62), _, _, _, _, _⟩) (v := _) rfl (by kernel_rfl) (by kernel_rfl) (by kernel_rfl) (fun _ _ _ h => h) (yieldsIf_load_mid (by rfl) _ _ rfl (w.heap.size) 0 rfl (bv a) _ (fun W' hW' => range_row ((hW'.block _ sb0_V7).trans gb0_V7.out)) (Tryd.underlying23) rfl (by rw [bv_len, Hha.out]; kernel_rfl)) hHeld ?_
  try simp only [pu]
  refine mix_start (B := V7.heap.size) (al := [⟨6, 19, 23, ((bv z32)).toArray⟩, ⟨7, 20, 23, ((bv z32)).toArray⟩]) (fuel := 8) rfl hHeld (hHeld.size) ?_
  clear hHeld
  refine mix_call (i := 1) (o := ⟨(some 63), _, _, _, _, _⟩) rfl (by kernel_rfl) (by kernel_rfl) (by kernel_rfl) (by kernel_rfl) (fun x hx => by simp only [List.mem_cons, List.not_mem_nil, or_false] at hx; rcases hx with rfl | rfl <;> first | exact makes_new rfl rfl rfl rfl zero_word) (fun W x _ h => h.alloc h.size _) (fun _ _ _ _ _ h => h) (fun X20 hHeld hBX K hK => ?_)
  go_simp
  refine (pat_any _ (hlaV7.next hHeld) a (Hha.out)).mono ?_
  rintro e W20 ⟨x63, y63, k63, rfl, e63, h63, j63, hb20⟩
  refine hK.out _ _ (below_next hHeld hHeld.size hb20) hb20 ?_
  clear hK K hHeld hBX hb20
  try simp only [pu]
  refine mix_take (i := 2) (o := ⟨(some 61), _, _, _, _, _⟩) (v := ?vqV7_8_2) rfl (by kernel_rfl) (by kernel_rfl) (by kernel_rfl) (by kernel_rfl) (by kernel_rfl) (fun _ _ _ h => h) (Or.inl ⟨by rfl, ?yqV7_8_2⟩) ?_
  case yqV7_8_2 => (intro W0 hSw; go_simp; try with_reducible rfl)
  try simp only [pu]
  refine mix_take (i := 3) (o := ⟨(some 64), _, _, _, _, _⟩) (v := .agg (bv x63).toArray) rfl (by kernel_rfl) (by kernel_rfl) (by kernel_rfl) (by kernel_rfl) (by kernel_rfl) (fun _ _ _ h => h) (Or.inl ⟨by rfl, ?yqV7_8_3⟩) ?_
  case yqV7_8_3 => (intro W0 hSw; go_simp; try with_reducible rfl)
  try simp only [pu]
  refine mix_take (i := 4) (o := ⟨(some 65), _, _, _, _, _⟩) (v := .agg (bv y63).toArray) rfl (by kernel_rfl) (by kernel_rfl) (by kernel_rfl) (by kernel_rfl) (by kernel_rfl) (fun _ _ _ h => h) (Or.inl ⟨by rfl, ?yqV7_8_4⟩) ?_
  case yqV7_8_4 => (intro W0 hSw; go_simp; try with_reducible rfl)
  try simp only [pu]
  refine mix_take (i := 5) (o := ⟨(some 66), _, _, _, _, _⟩) (v := .int .i64 k63) rfl (by kernel_rfl) (by kernel_rfl) (by kernel_rfl) (by kernel_rfl) (by kernel_rfl) (fun _ _ _ h => h) (Or.inl ⟨by rfl, ?yqV7_8_5⟩) ?_
  case yqV7_8_5 => (intro W0 hSw; go_simp; try with_reducible rfl)
  try simp only [pu]
  refine mix_end (by kernel_rfl) (by kernel_rfl) (by simp) (by simp) (fun x hx => by simp only [List.mem_cons, List.not_mem_nil, or_false] at hx; rcases hx with rfl | rfl <;> first | exact makes_new rfl rfl rfl rfl zero_word) (fun W x _ h => h.alloc h.size _) (fun D hD W21 hHeld hBX hHo => ?_)
  obtain ⟨G19, G20, rfl⟩ := v_two hD
  have xG19 : Hid (W21.heap[G19]? = some (.cells ((bv z32)).toArray 23 (0, 0))) := hHo.row (⟨6, 19, 23, ((bv z32)).toArray⟩, G19) (by simp)
  have lG19 : V7.heap.size ≤ G19 := hHo.new (⟨6, 19, 23, ((bv z32)).toArray⟩, G19) (by simp)
  have xG20 : Hid (W21.heap[G20]? = some (.cells ((bv z32)).toArray 23 (0, 0))) := hHo.row (⟨7, 20, 23, ((bv z32)).toArray⟩, G20) (by simp)
  have lG20 : V7.heap.size ≤ G20 := hHo.new (⟨7, 20, 23, ((bv z32)).toArray⟩, G20) (by simp)
  have hnd := hHo.nodup
  simp only [List.map_cons, List.map_nil, List.nodup_cons, List.mem_cons, List.not_mem_nil, or_false, not_false_eq_true, List.nodup_nil, and_true] at hnd
  have nG19G20 := hnd
  clear hnd
  clear hHo hBX hD
  simp only [markD, putD, List.foldr_cons, List.foldr_nil, pu, List.setIfInBounds_toArray, List.set_cons_zero, List.set_cons_succ]
  refine wpAnyH_ready (rs := [8]) (by kernel_rfl) (by simp) ?_
  refine AllReadyH.cons (i := 8) (o := ⟨none, _, _, _, _, _⟩) rfl (fun K hK => ?_) AllReadyH.nil
  refine step_row (by rfl) 23 (.tmp 19) (.tmp 64) rfl G19 (bv x63) rfl rfl 23 _ xG19.out (by rw [bv_len, h63.out]; kernel_rfl) (by rw [List.size_toArray, bv_len, bv_len, h63.out, z32_len]) (bv_one _) ?_
  intro W22 yG19 kG19
  have zG20 := row_but xG20 kG19 (by omega)
  clear xG20
  have xG20 := zG20
  clear zG20
  refine hK.out _ _ (But.below hHeld kG19 lG19 hHeld.size) (fun hHeld => ?_)
  clear hK K kG19 xG19
  have xG19 := yG19
  clear yG19
  try simp only [pu]
  refine wpAnyH_ready (rs := [9]) (by kernel_rfl) (by simp) ?_
  refine AllReadyH.cons (i := 9) (o := ⟨none, _, _, _, _, _⟩) rfl (fun K hK => ?_) AllReadyH.nil
  refine step_row (by rfl) 23 (.tmp 20) (.tmp 65) rfl G20 (bv y63) rfl rfl 23 _ xG20.out (by rw [bv_len, j63.out]; kernel_rfl) (by rw [List.size_toArray, bv_len, bv_len, j63.out, z32_len]) (bv_one _) ?_
  intro W23 yG20 kG20
  have zG19 := row_but xG19 kG20 (by omega)
  clear xG19
  have xG19 := zG19
  clear zG19
  refine hK.out _ _ (But.below hHeld kG20 lG20 hHeld.size) (fun hHeld => ?_)
  clear hK K kG20 xG20
  have xG20 := yG20
  clear yG20
  try simp only [pu]
  refine wpAnyH_take (i := 10) (oi := ⟨(some 21), _, _, _, _, _⟩) (v := ?vqV7_8_10) rfl (by kernel_rfl) (by kernel_rfl) (by kernel_rfl) (fun _ _ _ h => h) (Or.inl ⟨by rfl, ?yqV7_8_10⟩) hHeld ?_
  case yqV7_8_10 => (intro W0 hSw; go_simp; try with_reducible rfl)
  try simp only [pu]
  refine wpAnyH_done (by kernel_rfl) ?_ _
  obtain ⟨V8, rV8⟩ : ∃ X, X = W23 := ⟨_, rfl⟩
  subst rV8
  have gb0_V8 := row_next2 gb0_V7 hHeld
  have sb0_V8 := row_size gb0_V8
  have gb1_V8 := row_next2 gb1_V7 hHeld
  have sb1_V8 := row_size gb1_V8
  have gb2_V8 := row_next2 gb2_V7 hHeld
  have sb2_V8 := row_size gb2_V8
  have gn7_V8 := row_next2 gn7_V7 hHeld
  have sn7_V8 := row_size gn7_V8
  have gn9_V8 := row_next2 gn9_V7 hHeld
  have sn9_V8 := row_size gn9_V8
  have gn11_V8 := row_next2 gn11_V7 hHeld
  have sn11_V8 := row_size gn11_V8
  have gn13_V8 := row_next2 gn13_V7 hHeld
  have sn13_V8 := row_size gn13_V8
  have gn15_V8 := row_next2 gn15_V7 hHeld
  have sn15_V8 := row_size gn15_V8
  have gn17_V8 := row_next2 gn17_V7 hHeld
  have sn17_V8 := row_size gn17_V8
  have hb_V8 := below_next hb_V7 hb_V7.size hHeld
  have hlaV8 := hlaV7.next hHeld
  have gn19_V8 := xG19
  have sn19_V8 := row_size gn19_V8
  clear xG19
  have gn20_V8 := xG20
  have sn20_V8 := row_size gn20_V8
  clear xG20
  have wG19 : w.heap.size + 3 ≤ G19 := by omega
  have wG20 : w.heap.size + 3 ≤ G20 := by omega
  have nG7G19 : G7 ≠ G19 := by omega
  have nG9G19 : G9 ≠ G19 := by omega
  have nG11G19 : G11 ≠ G19 := by omega
  have nG13G19 : G13 ≠ G19 := by omega
  have nG15G19 : G15 ≠ G19 := by omega
  have nG17G19 : G17 ≠ G19 := by omega
  have nG7G20 : G7 ≠ G20 := by omega
  have nG9G20 : G9 ≠ G20 := by omega
  have nG11G20 : G11 ≠ G20 := by omega
  have nG13G20 : G13 ≠ G20 := by omega
  have nG15G20 : G15 ≠ G20 := by omega
  have nG17G20 : G17 ≠ G20 := by omega
  clear hHeld hb_V7 sb0_V7 sb1_V7 sb2_V7 sn7_V7 sn9_V7 sn11_V7 sn13_V7 sn15_V7 sn17_V7
  clear gb0_V7 gb1_V7 gb2_V7 gn7_V7 gn9_V7 gn11_V7 gn13_V7 gn15_V7 gn17_V7 hlaV7 lG19 lG20
  go_upto_region 10 with fail
  refine plain_start (S := fun W' => Below V8.heap.size V8 W') (by kernel_rfl) (Below.refl _ _) (fun hHeld => ?_)
  refine wpAnyH_take (i := 0) (oi := ⟨(some 68), _, _, _, _, _⟩) (v := _) rfl (by kernel_rfl) (by kernel_rfl) (by kernel_rfl) (fun _ _ _ h => h) (yieldsIf_load_mid (by rfl) _ _ rfl (w.heap.size) 0 rfl (bv a) _ (fun W' hW' => range_row ((hW'.block _ sb0_V8).trans gb0_V8.out)) (Tryd.underlying23) rfl (by rw [bv_len, Hha.out]; kernel_rfl)) hHeld ?_
  try simp only [pu]
  refine mix_start (B := V8.heap.size) (al := [⟨6, 22, 23, ((bv z32)).toArray⟩, ⟨7, 23, 23, ((bv z32)).toArray⟩]) (fuel := 8) rfl hHeld (hHeld.size) ?_
  clear hHeld
  refine mix_call (i := 1) (o := ⟨(some 69), _, _, _, _, _⟩) rfl (by kernel_rfl) (by kernel_rfl) (by kernel_rfl) (by kernel_rfl) (fun x hx => by simp only [List.mem_cons, List.not_mem_nil, or_false] at hx; rcases hx with rfl | rfl <;> first | exact makes_new rfl rfl rfl rfl zero_word) (fun W x _ h => h.alloc h.size _) (fun _ _ _ _ _ h => h) (fun X24 hHeld hBX K hK => ?_)
  go_simp
  refine (rpat_any _ a (Hha.out)).mono ?_
  rintro e W24 ⟨x69, y69, o69, rfl, e69, h69, j69, hb24⟩
  refine hK.out _ _ (below_next hHeld hHeld.size hb24) hb24 ?_
  clear hK K hHeld hBX hb24
  try simp only [pu]
  refine mix_take (i := 2) (o := ⟨(some 67), _, _, _, _, _⟩) (v := ?vqV8_9_2) rfl (by kernel_rfl) (by kernel_rfl) (by kernel_rfl) (by kernel_rfl) (by kernel_rfl) (fun _ _ _ h => h) (Or.inl ⟨by rfl, ?yqV8_9_2⟩) ?_
  case yqV8_9_2 => (intro W0 hSw; go_simp; try with_reducible rfl)
  try simp only [pu]
  refine mix_take (i := 3) (o := ⟨(some 70), _, _, _, _, _⟩) (v := .agg (bv x69).toArray) rfl (by kernel_rfl) (by kernel_rfl) (by kernel_rfl) (by kernel_rfl) (by kernel_rfl) (fun _ _ _ h => h) (Or.inl ⟨by rfl, ?yqV8_9_3⟩) ?_
  case yqV8_9_3 => (intro W0 hSw; go_simp; try with_reducible rfl)
  try simp only [pu]
  refine mix_take (i := 4) (o := ⟨(some 71), _, _, _, _, _⟩) (v := .agg (bv y69).toArray) rfl (by kernel_rfl) (by kernel_rfl) (by kernel_rfl) (by kernel_rfl) (by kernel_rfl) (fun _ _ _ h => h) (Or.inl ⟨by rfl, ?yqV8_9_4⟩) ?_
  case yqV8_9_4 => (intro W0 hSw; go_simp; try with_reducible rfl)
  try simp only [pu]
  refine mix_take (i := 5) (o := ⟨(some 72), _, _, _, _, _⟩) (v := .bool o69) rfl (by kernel_rfl) (by kernel_rfl) (by kernel_rfl) (by kernel_rfl) (by kernel_rfl) (fun _ _ _ h => h) (Or.inl ⟨by rfl, ?yqV8_9_5⟩) ?_
  case yqV8_9_5 => (intro W0 hSw; go_simp; try with_reducible rfl)
  try simp only [pu]
  refine mix_end (by kernel_rfl) (by kernel_rfl) (by simp) (by simp) (fun x hx => by simp only [List.mem_cons, List.not_mem_nil, or_false] at hx; rcases hx with rfl | rfl <;> first | exact makes_new rfl rfl rfl rfl zero_word) (fun W x _ h => h.alloc h.size _) (fun D hD W25 hHeld hBX hHo => ?_)
  obtain ⟨G22, G23, rfl⟩ := v_two hD
  have xG22 : Hid (W25.heap[G22]? = some (.cells ((bv z32)).toArray 23 (0, 0))) := hHo.row (⟨6, 22, 23, ((bv z32)).toArray⟩, G22) (by simp)
  have lG22 : V8.heap.size ≤ G22 := hHo.new (⟨6, 22, 23, ((bv z32)).toArray⟩, G22) (by simp)
  have xG23 : Hid (W25.heap[G23]? = some (.cells ((bv z32)).toArray 23 (0, 0))) := hHo.row (⟨7, 23, 23, ((bv z32)).toArray⟩, G23) (by simp)
  have lG23 : V8.heap.size ≤ G23 := hHo.new (⟨7, 23, 23, ((bv z32)).toArray⟩, G23) (by simp)
  have hnd := hHo.nodup
  simp only [List.map_cons, List.map_nil, List.nodup_cons, List.mem_cons, List.not_mem_nil, or_false, not_false_eq_true, List.nodup_nil, and_true] at hnd
  have nG22G23 := hnd
  clear hnd
  clear hHo hBX hD
  simp only [markD, putD, List.foldr_cons, List.foldr_nil, pu, List.setIfInBounds_toArray, List.set_cons_zero, List.set_cons_succ]
  refine wpAnyH_ready (rs := [8]) (by kernel_rfl) (by simp) ?_
  refine AllReadyH.cons (i := 8) (o := ⟨none, _, _, _, _, _⟩) rfl (fun K hK => ?_) AllReadyH.nil
  refine step_row (by rfl) 23 (.tmp 22) (.tmp 70) rfl G22 (bv x69) rfl rfl 23 _ xG22.out (by rw [bv_len, h69.out]; kernel_rfl) (by rw [List.size_toArray, bv_len, bv_len, h69.out, z32_len]) (bv_one _) ?_
  intro W26 yG22 kG22
  have zG23 := row_but xG23 kG22 (by omega)
  clear xG23
  have xG23 := zG23
  clear zG23
  refine hK.out _ _ (But.below hHeld kG22 lG22 hHeld.size) (fun hHeld => ?_)
  clear hK K kG22 xG22
  have xG22 := yG22
  clear yG22
  try simp only [pu]
  refine wpAnyH_ready (rs := [9]) (by kernel_rfl) (by simp) ?_
  refine AllReadyH.cons (i := 9) (o := ⟨none, _, _, _, _, _⟩) rfl (fun K hK => ?_) AllReadyH.nil
  refine step_row (by rfl) 23 (.tmp 23) (.tmp 71) rfl G23 (bv y69) rfl rfl 23 _ xG23.out (by rw [bv_len, j69.out]; kernel_rfl) (by rw [List.size_toArray, bv_len, bv_len, j69.out, z32_len]) (bv_one _) ?_
  intro W27 yG23 kG23
  have zG22 := row_but xG22 kG23 (by omega)
  clear xG22
  have xG22 := zG22
  clear zG22
  refine hK.out _ _ (But.below hHeld kG23 lG23 hHeld.size) (fun hHeld => ?_)
  clear hK K kG23 xG23
  have xG23 := yG23
  clear yG23
  try simp only [pu]
  refine wpAnyH_take (i := 10) (oi := ⟨(some 24), _, _, _, _, _⟩) (v := ?vqV8_9_10) rfl (by kernel_rfl) (by kernel_rfl) (by kernel_rfl) (fun _ _ _ h => h) (Or.inl ⟨by rfl, ?yqV8_9_10⟩) hHeld ?_
  case yqV8_9_10 => (intro W0 hSw; go_simp; try with_reducible rfl)
  try simp only [pu]
  refine wpAnyH_done (by kernel_rfl) ?_ _
  obtain ⟨V9, rV9⟩ : ∃ X, X = W27 := ⟨_, rfl⟩
  subst rV9
  have gb0_V9 := row_next2 gb0_V8 hHeld
  have sb0_V9 := row_size gb0_V9
  have gb1_V9 := row_next2 gb1_V8 hHeld
  have sb1_V9 := row_size gb1_V9
  have gb2_V9 := row_next2 gb2_V8 hHeld
  have sb2_V9 := row_size gb2_V9
  have gn7_V9 := row_next2 gn7_V8 hHeld
  have sn7_V9 := row_size gn7_V9
  have gn9_V9 := row_next2 gn9_V8 hHeld
  have sn9_V9 := row_size gn9_V9
  have gn11_V9 := row_next2 gn11_V8 hHeld
  have sn11_V9 := row_size gn11_V9
  have gn13_V9 := row_next2 gn13_V8 hHeld
  have sn13_V9 := row_size gn13_V9
  have gn15_V9 := row_next2 gn15_V8 hHeld
  have sn15_V9 := row_size gn15_V9
  have gn17_V9 := row_next2 gn17_V8 hHeld
  have sn17_V9 := row_size gn17_V9
  have gn19_V9 := row_next2 gn19_V8 hHeld
  have sn19_V9 := row_size gn19_V9
  have gn20_V9 := row_next2 gn20_V8 hHeld
  have sn20_V9 := row_size gn20_V9
  have hb_V9 := below_next hb_V8 hb_V8.size hHeld
  have hlaV9 := hlaV8.next hHeld
  have gn22_V9 := xG22
  have sn22_V9 := row_size gn22_V9
  clear xG22
  have gn23_V9 := xG23
  have sn23_V9 := row_size gn23_V9
  clear xG23
  have wG22 : w.heap.size + 3 ≤ G22 := by omega
  have wG23 : w.heap.size + 3 ≤ G23 := by omega
  have nG7G22 : G7 ≠ G22 := by omega
  have nG9G22 : G9 ≠ G22 := by omega
  have nG11G22 : G11 ≠ G22 := by omega
  have nG13G22 : G13 ≠ G22 := by omega
  have nG15G22 : G15 ≠ G22 := by omega
  have nG17G22 : G17 ≠ G22 := by omega
  have nG19G22 : G19 ≠ G22 := by omega
  have nG20G22 : G20 ≠ G22 := by omega
  have nG7G23 : G7 ≠ G23 := by omega
  have nG9G23 : G9 ≠ G23 := by omega
  have nG11G23 : G11 ≠ G23 := by omega
  have nG13G23 : G13 ≠ G23 := by omega
  have nG15G23 : G15 ≠ G23 := by omega
  have nG17G23 : G17 ≠ G23 := by omega
  have nG19G23 : G19 ≠ G23 := by omega
  have nG20G23 : G20 ≠ G23 := by omega
  clear hHeld hb_V8 sb0_V8 sb1_V8 sb2_V8 sn7_V8 sn9_V8 sn11_V8 sn13_V8 sn15_V8 sn17_V8 sn19_V8 sn20_V8
  clear gb0_V8 gb1_V8 gb2_V8 gn7_V8 gn9_V8 gn11_V8 gn13_V8 gn15_V8 gn17_V8 gn19_V8 gn20_V8 hlaV8 lG22 lG23
  obtain ⟨o, p, ho, hp, z1, z2, z3, z4, z5, z6, z7, z8, z9, z10, z11, z12, z13⟩ := says_all (n := n) e30.out e36.out e41.out e46.out e52.out e58.out e63.out e69.out
  obtain rfl := ptIs_only ho HPO.out
  obtain rfl := ptIs_only hp HPB.out
  clear ho hp e30 e36 e41 e46 e52 e58 e63 e69
  subst z1
  subst z4
  subst z7
  subst z10
  subst z11
  obtain rfl : k30 = 0 := z2
  obtain rfl : o36 = true := z3
  obtain rfl : k41 = 0 := z5
  obtain rfl : o46 = true := z6
  obtain rfl : k52 = 0 := z8
  obtain rfl : o58 = true := z9
  obtain rfl : k63 = 0 := z12
  obtain rfl : o69 = true := z13
  go_upto_region 11 with fail
  refine wp_region_lit ?_
  refine wpList_load_row_w (by rfl) 23 (.tmp 3) rfl (w.heap.size) rfl 23 (bv a).toArray (0, 0) _ gb0_V9.out Tryd.underlying23 rfl (by rw [bv_size a (Hha.out)]; kernel_rfl) ?_
  try simp only [pu]
  refine wpl_call rfl fun K hK => ?_
  go_simp
  refine (pgood_any _ hlaV9 a Hha.out).mono ?_
  rintro e V10 ⟨o74, rfl, e74, hb74⟩
  obtain rfl : o74 = true := good_as e74.out HPO.out
  clear e74 hlaV9
  have gb0_V10 := row_next2 gb0_V9 hb74
  have gb1_V10 := row_next2 gb1_V9 hb74
  have gb2_V10 := row_next2 gb2_V9 hb74
  have gn7_V10 := row_next2 gn7_V9 hb74
  have gn9_V10 := row_next2 gn9_V9 hb74
  have gn11_V10 := row_next2 gn11_V9 hb74
  have gn13_V10 := row_next2 gn13_V9 hb74
  have gn15_V10 := row_next2 gn15_V9 hb74
  have gn17_V10 := row_next2 gn17_V9 hb74
  have gn19_V10 := row_next2 gn19_V9 hb74
  have gn20_V10 := row_next2 gn20_V9 hb74
  have gn22_V10 := row_next2 gn22_V9 hb74
  have gn23_V10 := row_next2 gn23_V9 hb74
  have hb_V10 := below_next hb_V9 hb_V9.size hb74
  refine hK.out _ _ ?_
  clear hK K hb74 hb_V9 gb0_V9 sb0_V9 gb1_V9 sb1_V9 gb2_V9 sb2_V9 gn7_V9 sn7_V9 gn9_V9 sn9_V9 gn11_V9 sn11_V9 gn13_V9 sn13_V9 gn15_V9 sn15_V9 gn17_V9 sn17_V9 gn19_V9 sn19_V9 gn20_V9 sn20_V9 gn22_V9 sn22_V9 gn23_V9 sn23_V9
  try simp only [pu]
  refine wpl_take (v := .bool true) (by rfl) (by go_simp) ?_
  try simp only [pu]
  refine wpl_take (v := .bool true) (by rfl) (by go_simp) ?_
  try simp only [pu]
  refine wpl_take (v := .bool true) (by rfl) (by go_simp) ?_
  try simp only [pu]
  refine wpList_load_row_w (by rfl) 23 (.tmp 7) rfl G7 rfl 23 (bv v30).toArray (0, 0) _ gn7_V10.out Tryd.underlying23 rfl (by rw [bv_size v30 (h30.out)]; kernel_rfl) ?_
  try simp only [pu]
  refine wpList_load_row_w (by rfl) 23 (.tmp 9) rfl G9 rfl 23 (bv v30).toArray (0, 0) _ gn9_V10.out Tryd.underlying23 rfl (by rw [bv_size v30 (h30.out)]; kernel_rfl) ?_
  try simp only [pu]
  refine wpList_eql_w (by rfl) 23 _ (.tmp 78) (.tmp 79) rfl (by kernel_rfl) (bv v30).toArray (bv v30).toArray rfl rfl true (eql_bytes_same (P := Tryd.prog) Tryd.underlying23 Tryd.underlying5 Tryd.sizeByte v30 (h30.out) _) ?_
  try simp only [pu]
  refine wpl_take (v := .bool true) (by rfl) (by go_simp) ?_
  try simp only [pu]
  refine wpl_take (v := .bool true) (by rfl) (by go_simp) ?_
  try simp only [pu]
  refine wpl_take (v := .int .i64 0) (by rfl) (by go_simp) ?_
  try simp only [pu]
  refine wpl_take (v := .bool true) (by rfl) (by go_simp) ?_
  try simp only [pu]
  refine wpl_take (v := .bool true) (by rfl) (by go_simp) ?_
  try simp only [pu]
  refine wpl_take (v := .bool true) (by rfl) (by go_simp) ?_
  try simp only [pu]
  refine wpl_take (v := .bool true) (by rfl) (by go_simp) ?_
  try simp only [pu]
  refine wpl_take (v := .bool true) (by rfl) (by go_simp) ?_
  try simp only [pu]
  refine wpl_take (v := .bool true) (by rfl) (by go_simp) ?_
  try simp only [pu]
  refine wpl_take (v := .bool true) (by rfl) (by go_simp) ?_
  try simp only [pu]
  refine wpl_skip (by rfl) ?_
  try simp only [pu]
  refine wpl_skip (by rfl) ?_
  try simp only [pu]
  refine wpl_take (v := .bool true) (by rfl) (by go_simp) ?_
  try simp only [pu]
  refine wpl_take (v := .bool true) (by rfl) (by go_simp) ?_
  try simp only [pu]
  refine wpl_take (v := .bool true) (by rfl) (by go_simp) ?_
  try simp only [pu]
  refine wpList_load_row_w (by rfl) 23 (.tmp 11) rfl G11 rfl 23 (bv v41).toArray (0, 0) _ gn11_V10.out Tryd.underlying23 rfl (by rw [bv_size v41 (h41.out)]; kernel_rfl) ?_
  try simp only [pu]
  refine wpList_load_row_w (by rfl) 23 (.tmp 13) rfl G13 rfl 23 (bv v41).toArray (0, 0) _ gn13_V10.out Tryd.underlying23 rfl (by rw [bv_size v41 (h41.out)]; kernel_rfl) ?_
  try simp only [pu]
  refine wpList_eql_w (by rfl) 23 _ (.tmp 96) (.tmp 97) rfl (by kernel_rfl) (bv v41).toArray (bv v41).toArray rfl rfl true (eql_bytes_same (P := Tryd.prog) Tryd.underlying23 Tryd.underlying5 Tryd.sizeByte v41 (h41.out) _) ?_
  try simp only [pu]
  refine wpl_take (v := .bool true) (by rfl) (by go_simp) ?_
  try simp only [pu]
  refine wpl_take (v := .bool true) (by rfl) (by go_simp) ?_
  try simp only [pu]
  refine wpl_take (v := .int .i64 0) (by rfl) (by go_simp) ?_
  try simp only [pu]
  refine wpl_take (v := .bool true) (by rfl) (by go_simp) ?_
  try simp only [pu]
  refine wpl_take (v := .bool true) (by rfl) (by go_simp) ?_
  try simp only [pu]
  refine wpl_take (v := .bool true) (by rfl) (by go_simp) ?_
  try simp only [pu]
  refine wpl_take (v := .bool true) (by rfl) (by go_simp) ?_
  try simp only [pu]
  refine wpl_take (v := .bool true) (by rfl) (by go_simp) ?_
  try simp only [pu]
  refine wpl_take (v := .bool true) (by rfl) (by go_simp) ?_
  try simp only [pu]
  refine wpl_take (v := .bool true) (by rfl) (by go_simp) ?_
  try simp only [pu]
  refine wpl_skip (by rfl) ?_
  try simp only [pu]
  refine wpl_skip (by rfl) ?_
  try simp only [pu]
  refine wpl_take (v := .bool true) (by rfl) (by go_simp) ?_
  try simp only [pu]
  refine wpl_take (v := .bool true) (by rfl) (by go_simp) ?_
  try simp only [pu]
  refine wpl_take (v := .bool true) (by rfl) (by go_simp) ?_
  try simp only [pu]
  refine wpList_load_row_w (by rfl) 23 (.tmp 15) rfl G15 rfl 23 (bv v52).toArray (0, 0) _ gn15_V10.out Tryd.underlying23 rfl (by rw [bv_size v52 (h52.out)]; kernel_rfl) ?_
  try simp only [pu]
  refine wpList_load_row_w (by rfl) 23 (.tmp 17) rfl G17 rfl 23 (bv v52).toArray (0, 0) _ gn17_V10.out Tryd.underlying23 rfl (by rw [bv_size v52 (h52.out)]; kernel_rfl) ?_
  try simp only [pu]
  refine wpList_eql_w (by rfl) 23 _ (.tmp 114) (.tmp 115) rfl (by kernel_rfl) (bv v52).toArray (bv v52).toArray rfl rfl true (eql_bytes_same (P := Tryd.prog) Tryd.underlying23 Tryd.underlying5 Tryd.sizeByte v52 (h52.out) _) ?_
  try simp only [pu]
  refine wpl_take (v := .bool true) (by rfl) (by go_simp) ?_
  try simp only [pu]
  refine wpl_take (v := .bool true) (by rfl) (by go_simp) ?_
  try simp only [pu]
  refine wpl_take (v := .int .i64 0) (by rfl) (by go_simp) ?_
  try simp only [pu]
  refine wpl_take (v := .bool true) (by rfl) (by go_simp) ?_
  try simp only [pu]
  refine wpl_take (v := .bool true) (by rfl) (by go_simp) ?_
  try simp only [pu]
  refine wpl_take (v := .bool true) (by rfl) (by go_simp) ?_
  try simp only [pu]
  refine wpl_take (v := .bool true) (by rfl) (by go_simp) ?_
  try simp only [pu]
  refine wpl_take (v := .bool true) (by rfl) (by go_simp) ?_
  try simp only [pu]
  refine wpl_take (v := .bool true) (by rfl) (by go_simp) ?_
  try simp only [pu]
  refine wpl_take (v := .bool true) (by rfl) (by go_simp) ?_
  try simp only [pu]
  refine wpl_skip (by rfl) ?_
  try simp only [pu]
  refine wpl_skip (by rfl) ?_
  try simp only [pu]
  refine wpl_take (v := .bool true) (by rfl) (by go_simp) ?_
  try simp only [pu]
  refine wpl_take (v := .bool true) (by rfl) (by go_simp) ?_
  try simp only [pu]
  refine wpl_take (v := .bool true) (by rfl) (by go_simp) ?_
  try simp only [pu]
  refine wpList_load_row_w (by rfl) 23 (.tmp 19) rfl G19 rfl 23 (bv x63).toArray (0, 0) _ gn19_V10.out Tryd.underlying23 rfl (by rw [bv_size x63 (h63.out)]; kernel_rfl) ?_
  try simp only [pu]
  refine wpList_load_row_w (by rfl) 23 (.tmp 22) rfl G22 rfl 23 (bv x63).toArray (0, 0) _ gn22_V10.out Tryd.underlying23 rfl (by rw [bv_size x63 (h63.out)]; kernel_rfl) ?_
  try simp only [pu]
  refine wpList_eql_w (by rfl) 23 _ (.tmp 132) (.tmp 133) rfl (by kernel_rfl) (bv x63).toArray (bv x63).toArray rfl rfl true (eql_bytes_same (P := Tryd.prog) Tryd.underlying23 Tryd.underlying5 Tryd.sizeByte x63 (h63.out) _) ?_
  try simp only [pu]
  refine wpl_take (v := .bool true) (by rfl) (by go_simp) ?_
  try simp only [pu]
  refine wpl_take (v := .bool true) (by rfl) (by go_simp) ?_
  try simp only [pu]
  refine wpList_load_row_w (by rfl) 23 (.tmp 20) rfl G20 rfl 23 (bv y63).toArray (0, 0) _ gn20_V10.out Tryd.underlying23 rfl (by rw [bv_size y63 (j63.out)]; kernel_rfl) ?_
  try simp only [pu]
  refine wpList_load_row_w (by rfl) 23 (.tmp 23) rfl G23 rfl 23 (bv y63).toArray (0, 0) _ gn23_V10.out Tryd.underlying23 rfl (by rw [bv_size y63 (j63.out)]; kernel_rfl) ?_
  try simp only [pu]
  refine wpList_eql_w (by rfl) 23 _ (.tmp 137) (.tmp 138) rfl (by kernel_rfl) (bv y63).toArray (bv y63).toArray rfl rfl true (eql_bytes_same (P := Tryd.prog) Tryd.underlying23 Tryd.underlying5 Tryd.sizeByte y63 (j63.out) _) ?_
  try simp only [pu]
  refine wpl_take (v := .bool true) (by rfl) (by go_simp) ?_
  try simp only [pu]
  refine wpl_take (v := .bool true) (by rfl) (by go_simp) ?_
  try simp only [pu]
  refine wpl_take (v := .int .i64 0) (by rfl) (by go_simp) ?_
  try simp only [pu]
  refine wpl_take (v := .bool true) (by rfl) (by go_simp) ?_
  try simp only [pu]
  refine wpl_take (v := .bool true) (by rfl) (by go_simp) ?_
  try simp only [pu]
  refine wpl_take (v := .bool true) (by rfl) (by go_simp) ?_
  try simp only [pu]
  refine wpl_take (v := .bool true) (by rfl) (by go_simp) ?_
  try simp only [pu]
  refine wpl_take (v := .bool true) (by rfl) (by go_simp) ?_
  try simp only [pu]
  refine wpl_take (v := .bool true) (by rfl) (by go_simp) ?_
  try simp only [pu]
  refine wpl_take (v := .bool true) (by rfl) (by go_simp) ?_
  try simp only [pu]
  refine wpl_skip (by rfl) ?_
  try simp only [pu]
  refine wpl_skip (by rfl) ?_
  try simp only [pu]
  refine wpl_take (v := .bool true) (by rfl) (by go_simp) ?_
  try simp only [pu]
  refine wpl_take (v := .bool true) (by rfl) (by go_simp) ?_
  try simp only [pu]
  refine wpl_take (v := .bool true) (by rfl) (by go_simp) ?_
  try simp only [pu]
  refine wpl_nil ?_
  go_wp2
  go_ret
  exact ⟨rfl, hb_V10⟩
end Go.Proofs.YtehkalbiomagjaaDoor
