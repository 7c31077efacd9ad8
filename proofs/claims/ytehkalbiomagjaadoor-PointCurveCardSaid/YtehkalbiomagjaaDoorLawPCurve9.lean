/-
  PointCurve: the law's Go text returns true, whatever the input. Conditions: none beyond the row's own.
-/
import Derived.Test.YtehkalbiomagjaaDoorPkE
import Derived.Test.YtehkalbiomagjaaDoorPkF
namespace Go.Proofs.YtehkalbiomagjaaDoor
open Go.RowKit

theorem fofW_any (w : World) (n : Int) (hlo : -9223372036854775808 ≤ n) (hhi : n ≤ 9223372036854775807) :
    Calls Tryd.prog 25 #[.int .i64 n] w fun e w' => ∃ l, e = .returned (.agg (bv l).toArray) ∧ Vlt (cW l = cF (ofF n) ∧ ln l < FP) ∧ Hid (l.length = 32) ∧ Below w.heap.size w w' := by
  refine (of_any w n hlo hhi).mono ?_
  rintro e w' ⟨l, rfl, h, hl, hbw⟩
  exact ⟨l, rfl, vlt ⟨by rw [h.out, cW_wo], by rw [h.out]; exact cW_lt _⟩, hl, hbw⟩
theorem cW_inj {a b : List UInt8} (ha : a.length = 32) (hb : b.length = 32) (hal : ln a < FP) (hbl : ln b < FP) (h : cW a = cW b) : a = b := by
  rw [cW, cW, cF_eq, Nat.mod_eq_of_lt hal, Nat.mod_eq_of_lt hbl] at h
  exact ln_inj _ _ (by rw [ha, hb]) h
theorem at_one {a x y : List UInt8} {k : Int} {P : PtE} (h : AtIs a x y k) (ha : a = encE P) (hP : OnP P) : x = le P.1.val 32 ∧ y = le P.2.val 32 ∧ k = 0 := by
  obtain ⟨o, ho, hx, hy, hk⟩ := h
  obtain rfl := ptIs_only ho (by rw [ha]; exact ptIs_enc hP)
  exact ⟨hx, hy, hk⟩
theorem cW_le (v : Fin FP) : cW (le v.val 32) = v := by
  rw [cW, ln_le, Nat.mod_eq_of_lt (Nat.lt_trans v.isLt (by decide)), cF_self]
theorem on_words {X Y xx yy l r d q s u : Fin FP} (h : OnE (cF dE) X Y) (hxx : xx = X * X) (hyy : yy = Y * Y) (hl : l = yy - xx) (hd : d = cF dE) (hq : q = xx * yy) (hs : s = d * q) (hu : u = cF (ofF 1)) (hr : r = u + s) : l = r := by
  have h1 : u = 1 := by rw [hu]; rfl
  simp only [OnE] at h
  rw [hl, hr, hs, hd, hq, h1, hxx, hyy]
  grind
theorem xor_top (b x : Nat) (hb : b < 256) (hx : x = (b + 128) % 256) : bits .xor .u8 (b : Int) 128 = (x : Int) := by
  have h : ∀ b < 256, bits .xor .u8 ((b : Nat) : Int) 128 = (((b + 128) % 256 : Nat) : Int) := by decide +kernel
  rw [hx]; exact h b hb
theorem flip_word (m : List UInt8) (b x : Nat) (h : m.length = 31) (hb : b < 256) (hx : x = (b + 128) % 256) : yW (m ++ [UInt8.ofNat x]) = yW (m ++ [UInt8.ofNat b]) ∧ sW (m ++ [UInt8.ofNat x]) = 1 - sW (m ++ [UInt8.ofNat b]) := by
  obtain ⟨h1, h2⟩ := apart_is m b (b % 128) (b / 128) h hb rfl rfl
  obtain ⟨h3, h4⟩ := apart_is m x (b % 128) (x / 128) h (by omega) (by omega) rfl
  rw [h1, h2, h3, h4]
  exact ⟨rfl, by omega⟩
theorem good_flip {a z : List UInt8} {ok : Bool} {P : PtE} (h : GdIs z ok) (ha : a = encE P) (hP : OnP P) (hz : z.length = 32) (hy : yW z = yW a) (hs : sW z = 1 - sW a) : ok = !decide (P.1 = 0) := by
  obtain ⟨o, ho, hk⟩ := h
  have hw : PtIs a (some P) := by rw [ha]; exact ptIs_enc hP
  by_cases h0 : P.1 = 0
  · obtain rfl := ptIs_only ho (flip_none hw h0 hy hs)
    rw [hk, decide_eq_true h0]; rfl
  · obtain rfl := ptIs_only ho (flip_some hw hz h0 hy hs)
    rw [hk, decide_eq_false h0]; rfl
set_option maxRecDepth 100000 in
set_option maxHeartbeats 4000000 in
theorem walk_PointCurve (w : World) (hla : LaidP w) (n : List UInt8) (hn : n.length = 32) :
    Calls Tryd.prog 6 #[.agg (bv n).toArray] w fun e w' => e = .returned (.bool true) ∧ Below w.heap.size w w' := by
  have hzw := zero_word
  have glb := Nat.lt_of_lt_of_le hla.size (Nat.le_add_right w.heap.size 1)
  have glt := Nat.lt_of_lt_of_le hla.turn.2 (Nat.le_add_right w.heap.size 1)
  obtain ⟨V0, hW, gb0_V0, hb_V0, hsW⟩ := one_new w (bv n).toArray 23
  have HW := Lib.hid hW
  have Hhn := Lib.hid hn
  have sb0_V0 := row_size gb0_V0
  have hlaV0 := hla.next hb_V0
  have gl1 := hla.size
  have gl2 := hla.turn.2
  clear hla
  clear hW hsW hn
  go_enter Tryd.func6, Tryd.ntmps6
  go_upto_region 1 with fail
  rw [HW.out]
  refine plain_start (S := fun W' => Below V0.heap.size V0 W') (by kernel_rfl) (Below.refl _ _) (fun hHeld => ?_)
  refine wpAnyH_ready (rs := [0]) (by kernel_rfl) (by simp) ?_
  refine AllReadyH.cons (i := 0) (o := ⟨(some 11), _, _, _, _, _⟩) rfl (fun K hK => ?_) AllReadyH.nil
  go_simp
  refine (awake9_any _ hlaV0).mono ?_
  rintro e W1 ⟨rfl, hb1⟩
  refine hK.out _ _ (below_next hHeld hHeld.size hb1) (fun hHeld => ?_)
  clear hK K hb1
  try simp only [pu]
  refine wpAnyH_take (i := 1) (oi := ⟨(some 12), _, _, _, _, _⟩) (v := ?vqV0_1_1) rfl (by kernel_rfl) (by kernel_rfl) (by kernel_rfl) (fun _ _ _ h => h) (Or.inl ⟨by rfl, ?yqV0_1_1⟩) hHeld ?_
  case yqV0_1_1 => (intro W0 hSw; go_simp; try with_reducible rfl)
  try simp only [pu]
  refine wpAnyH_done (by kernel_rfl) ?_ _
  obtain ⟨V1, rV1⟩ : ∃ X, X = W1 := ⟨_, rfl⟩
  subst rV1
  have gb0_V1 := row_next2 gb0_V0 hHeld
  have sb0_V1 := row_size gb0_V1
  have hb_V1 := below_next hb_V0 hb_V0.size hHeld
  have hlaV1 := hlaV0.next hHeld
  clear hHeld hb_V0 sb0_V0
  clear gb0_V0 hlaV0
  go_upto_region 3 with fail
  refine plain_start (S := fun W' => Below V1.heap.size V1 W') (by kernel_rfl) (Below.refl _ _) (fun hHeld => ?_)
  refine wpAnyH_take (i := 0) (oi := ⟨(some 13), _, _, _, _, _⟩) (v := _) rfl (by kernel_rfl) (by kernel_rfl) (by kernel_rfl) (fun _ _ _ h => h) (yieldsIf_load_mid (by rfl) _ _ rfl (w.heap.size) 0 rfl (bv n) _ (fun W' hW' => range_row ((hW'.block _ sb0_V1).trans gb0_V1.out)) (Tryd.underlying23) rfl (by rw [bv_len, Hhn.out]; kernel_rfl)) hHeld ?_
  try simp only [pu]
  refine mix_start (B := V1.heap.size) (al := [⟨2, 3, 23, ((bv z32)).toArray⟩]) (fuel := 2) rfl hHeld (hHeld.size) ?_
  clear hHeld
  refine mix_call (i := 1) (o := ⟨(some 14), _, _, _, _, _⟩) rfl (by kernel_rfl) (by kernel_rfl) (by kernel_rfl) (by kernel_rfl) (fun x hx => by simp only [List.mem_cons, List.not_mem_nil, or_false] at hx; rcases hx with rfl <;> first | exact makes_new rfl rfl rfl rfl zero_word) (fun W x _ h => h.alloc h.size _) (fun _ _ _ _ _ h => h) (fun X2 hHeld hBX K hK => ?_)
  go_simp
  refine (l9times_any _ (hlaV1.next hHeld) n (Hhn.out)).mono ?_
  rintro e W2 ⟨v14, rfl, e14, h14, hb2⟩
  refine hK.out _ _ (below_next hHeld hHeld.size hb2) hb2 ?_
  clear hK K hHeld hBX hb2
  try simp only [pu]
  refine mix_end (by kernel_rfl) (by kernel_rfl) (by simp) (by simp) (fun x hx => by simp only [List.mem_cons, List.not_mem_nil, or_false] at hx; rcases hx with rfl <;> first | exact makes_new rfl rfl rfl rfl zero_word) (fun W x _ h => h.alloc h.size _) (fun D hD W3 hHeld hBX hHo => ?_)
  obtain ⟨G3, rfl⟩ := v_one hD
  have xG3 : Hid (W3.heap[G3]? = some (.cells ((bv z32)).toArray 23 (0, 0))) := hHo.row (⟨2, 3, 23, ((bv z32)).toArray⟩, G3) (by simp)
  have lG3 : V1.heap.size ≤ G3 := hHo.new (⟨2, 3, 23, ((bv z32)).toArray⟩, G3) (by simp)
  clear hHo hBX hD
  simp only [markD, putD, List.foldr_cons, List.foldr_nil, pu, List.setIfInBounds_toArray, List.set_cons_zero, List.set_cons_succ]
  refine wpAnyH_ready (rs := [3]) (by kernel_rfl) (by simp) ?_
  refine AllReadyH.cons (i := 3) (o := ⟨none, _, _, _, _, _⟩) rfl (fun K hK => ?_) AllReadyH.nil
  refine step_row (by rfl) 23 (.tmp 3) (.tmp 14) rfl G3 (bv v14) rfl rfl 23 _ xG3.out (by rw [bv_len, h14.out]; kernel_rfl) (by rw [List.size_toArray, bv_len, bv_len, h14.out, z32_len]) (bv_one _) ?_
  intro W4 yG3 kG3
  refine hK.out _ _ (But.below hHeld kG3 lG3 hHeld.size) (fun hHeld => ?_)
  clear hK K kG3 xG3
  have xG3 := yG3
  clear yG3
  try simp only [pu]
  refine wpAnyH_done (by kernel_rfl) ?_ _
  obtain ⟨V2, rV2⟩ : ∃ X, X = W4 := ⟨_, rfl⟩
  subst rV2
  have gb0_V2 := row_next2 gb0_V1 hHeld
  have sb0_V2 := row_size gb0_V2
  have hb_V2 := below_next hb_V1 hb_V1.size hHeld
  have hlaV2 := hlaV1.next hHeld
  have gn3_V2 := xG3
  have sn3_V2 := row_size gn3_V2
  clear xG3
  have wG3 : w.heap.size + 1 ≤ G3 := by omega
  clear hHeld hb_V1 sb0_V1
  clear gb0_V1 hlaV1 lG3
  go_upto_region 4 with fail
  refine plain_start (S := fun W' => Below V2.heap.size V2 W') (by kernel_rfl) (Below.refl _ _) (fun hHeld => ?_)
  refine wpAnyH_take (i := 0) (oi := ⟨(some 16), _, _, _, _, _⟩) (v := _) rfl (by kernel_rfl) (by kernel_rfl) (by kernel_rfl) (fun _ _ _ h => h) (yieldsIf_load_mid (by rfl) _ _ rfl G3 0 rfl (bv v14) _ (fun W' hW' => range_row ((hW'.block _ sn3_V2).trans gn3_V2.out)) (Tryd.underlying23) rfl (by rw [bv_len, h14.out]; kernel_rfl)) hHeld ?_
  try simp only [pu]
  refine mix_start (B := V2.heap.size) (al := [⟨6, 4, 23, ((bv z32)).toArray⟩, ⟨7, 5, 23, ((bv z32)).toArray⟩]) (fuel := 8) rfl hHeld (hHeld.size) ?_
  clear hHeld
  refine mix_call (i := 1) (o := ⟨(some 17), _, _, _, _, _⟩) rfl (by kernel_rfl) (by kernel_rfl) (by kernel_rfl) (by kernel_rfl) (fun x hx => by simp only [List.mem_cons, List.not_mem_nil, or_false] at hx; rcases hx with rfl | rfl <;> first | exact makes_new rfl rfl rfl rfl zero_word) (fun W x _ h => h.alloc h.size _) (fun _ _ _ _ _ h => h) (fun X5 hHeld hBX K hK => ?_)
  go_simp
  refine (pat_any _ (hlaV2.next hHeld) v14 (h14.out)).mono ?_
  rintro e W5 ⟨x17, y17, k17, rfl, e17, h17, j17, hb5⟩
  refine hK.out _ _ (below_next hHeld hHeld.size hb5) hb5 ?_
  clear hK K hHeld hBX hb5
  try simp only [pu]
  refine mix_take (i := 2) (o := ⟨(some 15), _, _, _, _, _⟩) (v := ?vqV2_3_2) rfl (by kernel_rfl) (by kernel_rfl) (by kernel_rfl) (by kernel_rfl) (by kernel_rfl) (fun _ _ _ h => h) (Or.inl ⟨by rfl, ?yqV2_3_2⟩) ?_
  case yqV2_3_2 => (intro W0 hSw; go_simp; try with_reducible rfl)
  try simp only [pu]
  refine mix_take (i := 3) (o := ⟨(some 18), _, _, _, _, _⟩) (v := .agg (bv x17).toArray) rfl (by kernel_rfl) (by kernel_rfl) (by kernel_rfl) (by kernel_rfl) (by kernel_rfl) (fun _ _ _ h => h) (Or.inl ⟨by rfl, ?yqV2_3_3⟩) ?_
  case yqV2_3_3 => (intro W0 hSw; go_simp; try with_reducible rfl)
  try simp only [pu]
  refine mix_take (i := 4) (o := ⟨(some 19), _, _, _, _, _⟩) (v := .agg (bv y17).toArray) rfl (by kernel_rfl) (by kernel_rfl) (by kernel_rfl) (by kernel_rfl) (by kernel_rfl) (fun _ _ _ h => h) (Or.inl ⟨by rfl, ?yqV2_3_4⟩) ?_
  case yqV2_3_4 => (intro W0 hSw; go_simp; try with_reducible rfl)
  try simp only [pu]
  refine mix_take (i := 5) (o := ⟨(some 20), _, _, _, _, _⟩) (v := .int .i64 k17) rfl (by kernel_rfl) (by kernel_rfl) (by kernel_rfl) (by kernel_rfl) (by kernel_rfl) (fun _ _ _ h => h) (Or.inl ⟨by rfl, ?yqV2_3_5⟩) ?_
  case yqV2_3_5 => (intro W0 hSw; go_simp; try with_reducible rfl)
  try simp only [pu]
  refine mix_end (by kernel_rfl) (by kernel_rfl) (by simp) (by simp) (fun x hx => by simp only [List.mem_cons, List.not_mem_nil, or_false] at hx; rcases hx with rfl | rfl <;> first | exact makes_new rfl rfl rfl rfl zero_word) (fun W x _ h => h.alloc h.size _) (fun D hD W6 hHeld hBX hHo => ?_)
  obtain ⟨G4, G5, rfl⟩ := v_two hD
  have xG4 : Hid (W6.heap[G4]? = some (.cells ((bv z32)).toArray 23 (0, 0))) := hHo.row (⟨6, 4, 23, ((bv z32)).toArray⟩, G4) (by simp)
  have lG4 : V2.heap.size ≤ G4 := hHo.new (⟨6, 4, 23, ((bv z32)).toArray⟩, G4) (by simp)
  have xG5 : Hid (W6.heap[G5]? = some (.cells ((bv z32)).toArray 23 (0, 0))) := hHo.row (⟨7, 5, 23, ((bv z32)).toArray⟩, G5) (by simp)
  have lG5 : V2.heap.size ≤ G5 := hHo.new (⟨7, 5, 23, ((bv z32)).toArray⟩, G5) (by simp)
  have hnd := hHo.nodup
  simp only [List.map_cons, List.map_nil, List.nodup_cons, List.mem_cons, List.not_mem_nil, or_false, not_false_eq_true, List.nodup_nil, and_true] at hnd
  have nG4G5 := hnd
  clear hnd
  clear hHo hBX hD
  simp only [markD, putD, List.foldr_cons, List.foldr_nil, pu, List.setIfInBounds_toArray, List.set_cons_zero, List.set_cons_succ]
  refine wpAnyH_ready (rs := [8]) (by kernel_rfl) (by simp) ?_
  refine AllReadyH.cons (i := 8) (o := ⟨none, _, _, _, _, _⟩) rfl (fun K hK => ?_) AllReadyH.nil
  refine step_row (by rfl) 23 (.tmp 4) (.tmp 18) rfl G4 (bv x17) rfl rfl 23 _ xG4.out (by rw [bv_len, h17.out]; kernel_rfl) (by rw [List.size_toArray, bv_len, bv_len, h17.out, z32_len]) (bv_one _) ?_
  intro W7 yG4 kG4
  have zG5 := row_but xG5 kG4 (by omega)
  clear xG5
  have xG5 := zG5
  clear zG5
  refine hK.out _ _ (But.below hHeld kG4 lG4 hHeld.size) (fun hHeld => ?_)
  clear hK K kG4 xG4
  have xG4 := yG4
  clear yG4
  try simp only [pu]
  refine wpAnyH_ready (rs := [9]) (by kernel_rfl) (by simp) ?_
  refine AllReadyH.cons (i := 9) (o := ⟨none, _, _, _, _, _⟩) rfl (fun K hK => ?_) AllReadyH.nil
  refine step_row (by rfl) 23 (.tmp 5) (.tmp 19) rfl G5 (bv y17) rfl rfl 23 _ xG5.out (by rw [bv_len, j17.out]; kernel_rfl) (by rw [List.size_toArray, bv_len, bv_len, j17.out, z32_len]) (bv_one _) ?_
  intro W8 yG5 kG5
  have zG4 := row_but xG4 kG5 (by omega)
  clear xG4
  have xG4 := zG4
  clear zG4
  refine hK.out _ _ (But.below hHeld kG5 lG5 hHeld.size) (fun hHeld => ?_)
  clear hK K kG5 xG5
  have xG5 := yG5
  clear yG5
  try simp only [pu]
  refine wpAnyH_take (i := 10) (oi := ⟨(some 6), _, _, _, _, _⟩) (v := ?vqV2_3_10) rfl (by kernel_rfl) (by kernel_rfl) (by kernel_rfl) (fun _ _ _ h => h) (Or.inl ⟨by rfl, ?yqV2_3_10⟩) hHeld ?_
  case yqV2_3_10 => (intro W0 hSw; go_simp; try with_reducible rfl)
  try simp only [pu]
  refine wpAnyH_done (by kernel_rfl) ?_ _
  obtain ⟨V3, rV3⟩ : ∃ X, X = W8 := ⟨_, rfl⟩
  subst rV3
  have gb0_V3 := row_next2 gb0_V2 hHeld
  have sb0_V3 := row_size gb0_V3
  have gn3_V3 := row_next2 gn3_V2 hHeld
  have sn3_V3 := row_size gn3_V3
  have hb_V3 := below_next hb_V2 hb_V2.size hHeld
  have hlaV3 := hlaV2.next hHeld
  have gn4_V3 := xG4
  have sn4_V3 := row_size gn4_V3
  clear xG4
  have gn5_V3 := xG5
  have sn5_V3 := row_size gn5_V3
  clear xG5
  have wG4 : w.heap.size + 1 ≤ G4 := by omega
  have wG5 : w.heap.size + 1 ≤ G5 := by omega
  have nG3G4 : G3 ≠ G4 := by omega
  have nG3G5 : G3 ≠ G5 := by omega
  clear hHeld hb_V2 sb0_V2 sn3_V2
  clear gb0_V2 gn3_V2 hlaV2 lG4 lG5
  obtain ⟨hX, hY, hK0⟩ := at_one e17.out e14.out.1 e14.out.2
  subst hK0
  have HX := vlt hX
  have HCX := vlt (show cW x17 = (mulE (ln n) bE).1 by rw [hX]; exact cW_le _)
  have HCY := vlt (show cW y17 = (mulE (ln n) bE).2 by rw [hY]; exact cW_le _)
  clear hX hY e17
  go_upto_region 7 with fail
  refine wp_region_held_drew (S := fun W' => Below V3.heap.size V3 W') (by kernel_rfl) ((Below.refl _ _).drew) (fun hHeld => ?_)
  refine wpAnyH_take (i := 0) (oi := ⟨(some 23), _, _, _, _, _⟩) (v := _) rfl (by kernel_rfl) (by kernel_rfl) (by kernel_rfl) (fun _ _ _ h => h) (yieldsIf_load_mid (by rfl) _ _ rfl G4 0 rfl (bv x17) _ (fun W' hW' => range_row ((hW'.block _ sn4_V3).trans gn4_V3.out)) (Tryd.underlying23) rfl (by rw [bv_len, h17.out]; kernel_rfl)) hHeld ?_
  try simp only [pu]
  refine wpAnyH_take (i := 1) (oi := ⟨(some 24), _, _, _, _, _⟩) (v := _) rfl (by kernel_rfl) (by kernel_rfl) (by kernel_rfl) (fun _ _ _ h => h) (yieldsIf_load_mid (by rfl) _ _ rfl G4 0 rfl (bv x17) _ (fun W' hW' => range_row ((hW'.block _ sn4_V3).trans gn4_V3.out)) (Tryd.underlying23) rfl (by rw [bv_len, h17.out]; kernel_rfl)) hHeld ?_
  try simp only [pu]
  refine wpAnyH_take (i := 3) (oi := ⟨(some 26), _, _, _, _, _⟩) (v := _) rfl (by kernel_rfl) (by kernel_rfl) (by kernel_rfl) (fun _ _ _ h => h) (yieldsIf_load_mid (by rfl) _ _ rfl G5 0 rfl (bv y17) _ (fun W' hW' => range_row ((hW'.block _ sn5_V3).trans gn5_V3.out)) (Tryd.underlying23) rfl (by rw [bv_len, j17.out]; kernel_rfl)) hHeld ?_
  try simp only [pu]
  refine wpAnyH_take (i := 4) (oi := ⟨(some 27), _, _, _, _, _⟩) (v := _) rfl (by kernel_rfl) (by kernel_rfl) (by kernel_rfl) (fun _ _ _ h => h) (yieldsIf_load_mid (by rfl) _ _ rfl G5 0 rfl (bv y17) _ (fun W' hW' => range_row ((hW'.block _ sn5_V3).trans gn5_V3.out)) (Tryd.underlying23) rfl (by rw [bv_len, j17.out]; kernel_rfl)) hHeld ?_
  try simp only [pu]
  refine mix_start (B := V3.heap.size) (al := [⟨6, 7, 23, ((bv z32)).toArray⟩, ⟨7, 8, 23, ((bv z32)).toArray⟩]) (fuel := 4) rfl hHeld (hHeld.size) ?_
  clear hHeld
  refine mix_call (i := 2) (o := ⟨(some 25), _, _, _, _, _⟩) rfl (by kernel_rfl) (by kernel_rfl) (by kernel_rfl) (by kernel_rfl) (fun x hx => by simp only [List.mem_cons, List.not_mem_nil, or_false] at hx; rcases hx with rfl | rfl <;> first | exact makes_new rfl rfl rfl rfl zero_word) (fun W x _ h => h.alloc h.size _) (fun _ _ _ _ _ h => h) (fun X9 hHeld hBX K hK => ?_)
  go_simp
  refine (fmul_any _ x17 x17 (h17.out) (h17.out)).mono ?_
  rintro e W9 ⟨v25, rfl, e25, h25, hb9⟩
  refine hK.out _ _ (below_next hHeld hHeld.size hb9) hb9 ?_
  clear hK K hHeld hBX hb9
  try simp only [pu]
  refine mix_call (i := 5) (o := ⟨(some 28), _, _, _, _, _⟩) rfl (by kernel_rfl) (by kernel_rfl) (by kernel_rfl) (by kernel_rfl) (fun x hx => by simp only [List.mem_cons, List.not_mem_nil, or_false] at hx; rcases hx with rfl | rfl <;> first | exact makes_new rfl rfl rfl rfl zero_word) (fun W x _ h => h.alloc h.size _) (fun _ _ _ _ _ h => h) (fun X10 hHeld hBX K hK => ?_)
  go_simp
  refine (fmul_any _ y17 y17 (j17.out) (j17.out)).mono ?_
  rintro e W10 ⟨v28, rfl, e28, h28, hb10⟩
  refine hK.out _ _ (below_next hHeld hHeld.size hb10) hb10 ?_
  clear hK K hHeld hBX hb10
  try simp only [pu]
  refine mix_end (by kernel_rfl) (by kernel_rfl) (by simp) (by simp) (fun x hx => by simp only [List.mem_cons, List.not_mem_nil, or_false] at hx; rcases hx with rfl | rfl <;> first | exact makes_new rfl rfl rfl rfl zero_word) (fun W x _ h => h.alloc h.size _) (fun D hD W11 hHeld hBX hHo => ?_)
  obtain ⟨G7, G8, rfl⟩ := v_two hD
  have xG7 : Hid (W11.heap[G7]? = some (.cells ((bv z32)).toArray 23 (0, 0))) := hHo.row (⟨6, 7, 23, ((bv z32)).toArray⟩, G7) (by simp)
  have lG7 : V3.heap.size ≤ G7 := hHo.new (⟨6, 7, 23, ((bv z32)).toArray⟩, G7) (by simp)
  have xG8 : Hid (W11.heap[G8]? = some (.cells ((bv z32)).toArray 23 (0, 0))) := hHo.row (⟨7, 8, 23, ((bv z32)).toArray⟩, G8) (by simp)
  have lG8 : V3.heap.size ≤ G8 := hHo.new (⟨7, 8, 23, ((bv z32)).toArray⟩, G8) (by simp)
  have hnd := hHo.nodup
  simp only [List.map_cons, List.map_nil, List.nodup_cons, List.mem_cons, List.not_mem_nil, or_false, not_false_eq_true, List.nodup_nil, and_true] at hnd
  have nG7G8 := hnd
  clear hnd
  clear hHo hBX hD
  simp only [markD, putD, List.foldr_cons, List.foldr_nil, pu, List.setIfInBounds_toArray, List.set_cons_zero, List.set_cons_succ]
  refine wpAnyH_ready (rs := [8]) (by kernel_rfl) (by simp) ?_
  refine AllReadyH.cons (i := 8) (o := ⟨none, _, _, _, _, _⟩) rfl (fun K hK => ?_) AllReadyH.nil
  refine step_row (by rfl) 23 (.tmp 7) (.tmp 25) rfl G7 (bv v25) rfl rfl 23 _ xG7.out (by rw [bv_len, h25.out]; kernel_rfl) (by rw [List.size_toArray, bv_len, bv_len, h25.out, z32_len]) (bv_one _) ?_
  intro W12 yG7 kG7
  have zG8 := row_but xG8 kG7 (by omega)
  clear xG8
  have xG8 := zG8
  clear zG8
  refine hK.out _ _ (But.below hHeld kG7 lG7 hHeld.size) (fun hHeld => ?_)
  clear hK K kG7 xG7
  have xG7 := yG7
  clear yG7
  try simp only [pu]
  refine wpAnyH_ready (rs := [9]) (by kernel_rfl) (by simp) ?_
  refine AllReadyH.cons (i := 9) (o := ⟨none, _, _, _, _, _⟩) rfl (fun K hK => ?_) AllReadyH.nil
  refine step_row (by rfl) 23 (.tmp 8) (.tmp 28) rfl G8 (bv v28) rfl rfl 23 _ xG8.out (by rw [bv_len, h28.out]; kernel_rfl) (by rw [List.size_toArray, bv_len, bv_len, h28.out, z32_len]) (bv_one _) ?_
  intro W13 yG8 kG8
  have zG7 := row_but xG7 kG8 (by omega)
  clear xG7
  have xG7 := zG7
  clear zG7
  refine hK.out _ _ (But.below hHeld kG8 lG8 hHeld.size) (fun hHeld => ?_)
  clear hK K kG8 xG8
  have xG8 := yG8
  clear yG8
  try simp only [pu]
  refine wpAnyH_done (by kernel_rfl) ?_ _
  obtain ⟨V4, rV4⟩ : ∃ X, X = W13 := ⟨_, rfl⟩
  subst rV4
  have gb0_V4 := row_next2 gb0_V3 hHeld
  have sb0_V4 := row_size gb0_V4
  have gn3_V4 := row_next2 gn3_V3 hHeld
  have sn3_V4 := row_size gn3_V4
  have gn4_V4 := row_next2 gn4_V3 hHeld
  have sn4_V4 := row_size gn4_V4
  have gn5_V4 := row_next2 gn5_V3 hHeld
  have sn5_V4 := row_size gn5_V4
  have hb_V4 := below_next hb_V3 hb_V3.size hHeld
  have hlaV4 := hlaV3.next hHeld
  have gn7_V4 := xG7
  have sn7_V4 := row_size gn7_V4
  clear xG7
  have gn8_V4 := xG8
  have sn8_V4 := row_size gn8_V4
  clear xG8
  have wG7 : w.heap.size + 1 ≤ G7 := by omega
  have wG8 : w.heap.size + 1 ≤ G8 := by omega
  have nG3G7 : G3 ≠ G7 := by omega
  have nG4G7 : G4 ≠ G7 := by omega
  have nG5G7 : G5 ≠ G7 := by omega
  have nG3G8 : G3 ≠ G8 := by omega
  have nG4G8 : G4 ≠ G8 := by omega
  have nG5G8 : G5 ≠ G8 := by omega
  clear hHeld hb_V3 sb0_V3 sn3_V3 sn4_V3 sn5_V3
  clear gb0_V3 gn3_V3 gn4_V3 gn5_V3 hlaV3 lG7 lG8
  go_upto_region 8 with fail
  refine plain_start (S := fun W' => Below V4.heap.size V4 W') (by kernel_rfl) (Below.refl _ _) (fun hHeld => ?_)
  refine mix_start (B := V4.heap.size) (al := [⟨4, 9, 23, ((bv z32)).toArray⟩]) (fuel := 5) rfl hHeld (hHeld.size) ?_
  clear hHeld
  refine mix_call (i := 0) (o := ⟨(some 29), _, _, _, _, _⟩) rfl (by kernel_rfl) (by kernel_rfl) (by kernel_rfl) (by kernel_rfl) (fun x hx => by simp only [List.mem_cons, List.not_mem_nil, or_false] at hx; rcases hx with rfl <;> first | exact makes_new rfl rfl rfl rfl zero_word) (fun W x _ h => h.alloc h.size _) (fun _ _ _ _ _ h => h) (fun X14 hHeld hBX K hK => ?_)
  go_simp
  refine (fofW_any _ (-121665) (by decide) (by decide)).mono ?_
  rintro e W14 ⟨v29, rfl, e29, h29, hb14⟩
  refine hK.out _ _ (below_next hHeld hHeld.size hb14) hb14 ?_
  clear hK K hHeld hBX hb14
  try simp only [pu]
  refine mix_call (i := 1) (o := ⟨(some 30), _, _, _, _, _⟩) rfl (by kernel_rfl) (by kernel_rfl) (by kernel_rfl) (by kernel_rfl) (fun x hx => by simp only [List.mem_cons, List.not_mem_nil, or_false] at hx; rcases hx with rfl <;> first | exact makes_new rfl rfl rfl rfl zero_word) (fun W x _ h => h.alloc h.size _) (fun _ _ _ _ _ h => h) (fun X15 hHeld hBX K hK => ?_)
  go_simp
  refine (fofW_any _ 121666 (by decide) (by decide)).mono ?_
  rintro e W15 ⟨v30, rfl, e30, h30, hb15⟩
  refine hK.out _ _ (below_next hHeld hHeld.size hb15) hb15 ?_
  clear hK K hHeld hBX hb15
  try simp only [pu]
  refine mix_call (i := 2) (o := ⟨(some 31), _, _, _, _, _⟩) rfl (by kernel_rfl) (by kernel_rfl) (by kernel_rfl) (by kernel_rfl) (fun x hx => by simp only [List.mem_cons, List.not_mem_nil, or_false] at hx; rcases hx with rfl <;> first | exact makes_new rfl rfl rfl rfl zero_word) (fun W x _ h => h.alloc h.size _) (fun _ _ _ _ _ h => h) (fun X16 hHeld hBX K hK => ?_)
  go_simp
  refine (finv_any _ v30 (h30.out)).mono ?_
  rintro e W16 ⟨v31, rfl, e31, h31, hb16⟩
  refine hK.out _ _ (below_next hHeld hHeld.size hb16) hb16 ?_
  clear hK K hHeld hBX hb16
  try simp only [pu]
  refine mix_call (i := 3) (o := ⟨(some 32), _, _, _, _, _⟩) rfl (by kernel_rfl) (by kernel_rfl) (by kernel_rfl) (by kernel_rfl) (fun x hx => by simp only [List.mem_cons, List.not_mem_nil, or_false] at hx; rcases hx with rfl <;> first | exact makes_new rfl rfl rfl rfl zero_word) (fun W x _ h => h.alloc h.size _) (fun _ _ _ _ _ h => h) (fun X17 hHeld hBX K hK => ?_)
  go_simp
  refine (fmul_any _ v29 v31 (h29.out) (h31.out)).mono ?_
  rintro e W17 ⟨v32, rfl, e32, h32, hb17⟩
  refine hK.out _ _ (below_next hHeld hHeld.size hb17) hb17 ?_
  clear hK K hHeld hBX hb17
  try simp only [pu]
  refine mix_end (by kernel_rfl) (by kernel_rfl) (by simp) (by simp) (fun x hx => by simp only [List.mem_cons, List.not_mem_nil, or_false] at hx; rcases hx with rfl <;> first | exact makes_new rfl rfl rfl rfl zero_word) (fun W x _ h => h.alloc h.size _) (fun D hD W18 hHeld hBX hHo => ?_)
  obtain ⟨G9, rfl⟩ := v_one hD
  have xG9 : Hid (W18.heap[G9]? = some (.cells ((bv z32)).toArray 23 (0, 0))) := hHo.row (⟨4, 9, 23, ((bv z32)).toArray⟩, G9) (by simp)
  have lG9 : V4.heap.size ≤ G9 := hHo.new (⟨4, 9, 23, ((bv z32)).toArray⟩, G9) (by simp)
  clear hHo hBX hD
  simp only [markD, putD, List.foldr_cons, List.foldr_nil, pu, List.setIfInBounds_toArray, List.set_cons_zero, List.set_cons_succ]
  refine wpAnyH_ready (rs := [5]) (by kernel_rfl) (by simp) ?_
  refine AllReadyH.cons (i := 5) (o := ⟨none, _, _, _, _, _⟩) rfl (fun K hK => ?_) AllReadyH.nil
  refine step_row (by rfl) 23 (.tmp 9) (.tmp 32) rfl G9 (bv v32) rfl rfl 23 _ xG9.out (by rw [bv_len, h32.out]; kernel_rfl) (by rw [List.size_toArray, bv_len, bv_len, h32.out, z32_len]) (bv_one _) ?_
  intro W19 yG9 kG9
  refine hK.out _ _ (But.below hHeld kG9 lG9 hHeld.size) (fun hHeld => ?_)
  clear hK K kG9 xG9
  have xG9 := yG9
  clear yG9
  try simp only [pu]
  refine wpAnyH_done (by kernel_rfl) ?_ _
  obtain ⟨V5, rV5⟩ : ∃ X, X = W19 := ⟨_, rfl⟩
  subst rV5
  have gb0_V5 := row_next2 gb0_V4 hHeld
  have sb0_V5 := row_size gb0_V5
  have gn3_V5 := row_next2 gn3_V4 hHeld
  have sn3_V5 := row_size gn3_V5
  have gn4_V5 := row_next2 gn4_V4 hHeld
  have sn4_V5 := row_size gn4_V5
  have gn5_V5 := row_next2 gn5_V4 hHeld
  have sn5_V5 := row_size gn5_V5
  have gn7_V5 := row_next2 gn7_V4 hHeld
  have sn7_V5 := row_size gn7_V5
  have gn8_V5 := row_next2 gn8_V4 hHeld
  have sn8_V5 := row_size gn8_V5
  have hb_V5 := below_next hb_V4 hb_V4.size hHeld
  have hlaV5 := hlaV4.next hHeld
  have gn9_V5 := xG9
  have sn9_V5 := row_size gn9_V5
  clear xG9
  have wG9 : w.heap.size + 1 ≤ G9 := by omega
  have nG3G9 : G3 ≠ G9 := by omega
  have nG4G9 : G4 ≠ G9 := by omega
  have nG5G9 : G5 ≠ G9 := by omega
  have nG7G9 : G7 ≠ G9 := by omega
  have nG8G9 : G8 ≠ G9 := by omega
  clear hHeld hb_V4 sb0_V4 sn3_V4 sn4_V4 sn5_V4 sn7_V4 sn8_V4
  clear gb0_V4 gn3_V4 gn4_V4 gn5_V4 gn7_V4 gn8_V4 hlaV4 lG9
  have HD := vlt (show cW v32 = cF dE by rw [e32.out.1, e29.out.1, e31.out.1, e30.out.1, show cF (ofF 121666) = cF 121666 by rw [show (121666 : Int) = ((121666 : Nat) : Int) from rfl, ofF_nat, cF_eq, Nat.mod_mod]]; exact d_is)
  clear e29 e30 e31 e32
  go_upto_region 9 with fail
  refine plain_start (S := fun W' => Below V5.heap.size V5 W') (by kernel_rfl) (Below.refl _ _) (fun hHeld => ?_)
  refine wpAnyH_take (i := 0) (oi := ⟨(some 33), _, _, _, _, _⟩) (v := _) rfl (by kernel_rfl) (by kernel_rfl) (by kernel_rfl) (fun _ _ _ h => h) (yieldsIf_load_mid (by rfl) _ _ rfl G3 0 rfl (bv v14) _ (fun W' hW' => range_row ((hW'.block _ sn3_V5).trans gn3_V5.out)) (Tryd.underlying23) rfl (by rw [bv_len, h14.out]; kernel_rfl)) hHeld ?_
  try simp only [pu]
  refine mix_start (B := V5.heap.size) (al := [⟨1, 10, 23, ((bv z32)).toArray⟩]) (fuel := 1) rfl hHeld (hHeld.size) ?_
  clear hHeld
  refine mix_end (by kernel_rfl) (by kernel_rfl) (by simp) (by simp) (fun x hx => by simp only [List.mem_cons, List.not_mem_nil, or_false] at hx; rcases hx with rfl <;> first | exact makes_new rfl rfl rfl rfl zero_word) (fun W x _ h => h.alloc h.size _) (fun D hD W20 hHeld hBX hHo => ?_)
  obtain ⟨G10, rfl⟩ := v_one hD
  have xG10 : Hid (W20.heap[G10]? = some (.cells ((bv z32)).toArray 23 (0, 0))) := hHo.row (⟨1, 10, 23, ((bv z32)).toArray⟩, G10) (by simp)
  have lG10 : V5.heap.size ≤ G10 := hHo.new (⟨1, 10, 23, ((bv z32)).toArray⟩, G10) (by simp)
  clear hHo hBX hD
  simp only [markD, putD, List.foldr_cons, List.foldr_nil, pu, List.setIfInBounds_toArray, List.set_cons_zero, List.set_cons_succ]
  refine wpAnyH_ready (rs := [2]) (by kernel_rfl) (by simp) ?_
  refine AllReadyH.cons (i := 2) (o := ⟨none, _, _, _, _, _⟩) rfl (fun K hK => ?_) AllReadyH.nil
  refine step_row (by rfl) 23 (.tmp 10) (.tmp 33) rfl G10 (bv v14) rfl rfl 23 _ xG10.out (by rw [bv_len, h14.out]; kernel_rfl) (by rw [List.size_toArray, bv_len, bv_len, h14.out, z32_len]) (bv_one _) ?_
  intro W21 yG10 kG10
  refine hK.out _ _ (But.below hHeld kG10 lG10 hHeld.size) (fun hHeld => ?_)
  clear hK K kG10 xG10
  have xG10 := yG10
  clear yG10
  try simp only [pu]
  refine wpAnyH_done (by kernel_rfl) ?_ _
  obtain ⟨V6, rV6⟩ : ∃ X, X = W21 := ⟨_, rfl⟩
  subst rV6
  have gb0_V6 := row_next2 gb0_V5 hHeld
  have sb0_V6 := row_size gb0_V6
  have gn3_V6 := row_next2 gn3_V5 hHeld
  have sn3_V6 := row_size gn3_V6
  have gn4_V6 := row_next2 gn4_V5 hHeld
  have sn4_V6 := row_size gn4_V6
  have gn5_V6 := row_next2 gn5_V5 hHeld
  have sn5_V6 := row_size gn5_V6
  have gn7_V6 := row_next2 gn7_V5 hHeld
  have sn7_V6 := row_size gn7_V6
  have gn8_V6 := row_next2 gn8_V5 hHeld
  have sn8_V6 := row_size gn8_V6
  have gn9_V6 := row_next2 gn9_V5 hHeld
  have sn9_V6 := row_size gn9_V6
  have hb_V6 := below_next hb_V5 hb_V5.size hHeld
  have hlaV6 := hlaV5.next hHeld
  have gn10_V6 := xG10
  have sn10_V6 := row_size gn10_V6
  clear xG10
  have wG10 : w.heap.size + 1 ≤ G10 := by omega
  have nG3G10 : G3 ≠ G10 := by omega
  have nG4G10 : G4 ≠ G10 := by omega
  have nG5G10 : G5 ≠ G10 := by omega
  have nG7G10 : G7 ≠ G10 := by omega
  have nG8G10 : G8 ≠ G10 := by omega
  have nG9G10 : G9 ≠ G10 := by omega
  clear hHeld hb_V5 sb0_V5 sn3_V5 sn4_V5 sn5_V5 sn7_V5 sn8_V5 sn9_V5
  clear gb0_V5 gn3_V5 gn4_V5 gn5_V5 gn7_V5 gn8_V5 gn9_V5 hlaV5 lG10
  obtain ⟨m, b, ham, hm, hb⟩ := last_apart v14 h14.out
  obtain ⟨x, hx⟩ : ∃ x, x = (b + 128) % 256 := ⟨_, rfl⟩
  have ex := xor_top b x hb hx
  have hx2 : x < 256 := by omega
  obtain ⟨z, hz⟩ : ∃ z, z = m ++ [UInt8.ofNat x] := ⟨_, rfl⟩
  have Hz := Lib.hid (show z.length = 32 by rw [hz]; simp [hm])
  have HFL := vlt (show yW z = yW v14 ∧ sW z = 1 - sW v14 by rw [hz, ham]; exact flip_word m b x hm hb hx)
  have c31 : V6.cell? ⟨G10, 31, none⟩ = some (.int .u8 (b : Int)) := by
    have h := byte_cell gn10_V6.out (show v14[31]? = some (UInt8.ofNat b) by rw [ham]; exact at_last _ _ hm)
    rwa [UInt8.toNat_ofNat', show (2 : Nat) ^ 8 = 256 by decide, Nat.mod_eq_of_lt hb] at h
  have f31 : V6.frozen? ⟨G10, 31, none⟩ = false := frozen_of_row _ _ _ _ _ gn10_V6.out
  have hset : Hid ((V6.setCell ⟨G10, 31, none⟩ (.int .u8 (x : Int))).heap[G10]? = some (.cells (bv z).toArray 23 (0, 0))) := by
    have h := (world_set_cell gn10_V6.out 31 (.int .u8 (x : Int))).out
    rw [show (Value.int .u8 (x : Int)) = Value.int .u8 ((UInt8.ofNat x).toNat : Int) by rw [UInt8.toNat_ofNat', show (2 : Nat) ^ 8 = 256 by decide, Nat.mod_eq_of_lt hx2], bv_set, ham, set_last _ _ _ hm, ← hz] at h
    rwa [UInt8.toNat_ofNat', show (2 : Nat) ^ 8 = 256 by decide, Nat.mod_eq_of_lt hx2] at h
  clear hz ham hm hx hx2
  go_upto_region 11 with fail
  have hbt : But G10 V6 (V6.setCell ⟨G10, 31, none⟩ (.int .u8 (x : Int))) := (But.refl _ _).set _
  have gb0_X := row_but gb0_V6 hbt (by omega)
  have gn3_X := row_but gn3_V6 hbt (by omega)
  have gn4_X := row_but gn4_V6 hbt (by omega)
  have gn5_X := row_but gn5_V6 hbt (by omega)
  have gn7_X := row_but gn7_V6 hbt (by omega)
  have gn8_X := row_but gn8_V6 hbt (by omega)
  have gn9_X := row_but gn9_V6 hbt (by omega)
  have hb_X := But.below hb_V6 hbt (by omega) hb_V6.size
  have hlaX := hlaV6.but (Nat.lt_of_lt_of_le glb wG10) (Nat.lt_of_lt_of_le glt wG10) hbt
  generalize V6.setCell ⟨G10, 31, none⟩ (.int .u8 (x : Int)) = X at *
  have gn10_X := hset
  have sb0_X := row_size gb0_X
  have sn3_X := row_size gn3_X
  have sn4_X := row_size gn4_X
  have sn5_X := row_size gn5_X
  have sn7_X := row_size gn7_X
  have sn8_X := row_size gn8_X
  have sn9_X := row_size gn9_X
  have sn10_X := row_size gn10_X
  clear c31 f31 hbt hset hb_V6 hlaV6 gb0_V6 sb0_V6 gn3_V6 sn3_V6 gn4_V6 sn4_V6 gn5_V6 sn5_V6 gn7_V6 sn7_V6 gn8_V6 sn8_V6 gn9_V6 sn9_V6 gn10_V6 sn10_V6
  have hbz := built_z32
  by_cases hx0 : x17 = z32
  · have HZ := vlt (show (mulE (ln n) bE).1 = 0 by rw [← HCX.out, hx0]; exact z32_is)
    subst hx0
    refine wp_region_held_drew (S := fun W' => Below X.heap.size X W') (by kernel_rfl) ((Below.refl _ _).drew) (fun hHeld => ?_)
    refine wpAnyH_take (i := 0) (oi := ⟨(some 38), _, _, _, _, _⟩) (v := _) rfl (by kernel_rfl) (by kernel_rfl) (by kernel_rfl) (fun _ _ _ h => h) (yieldsIf_load_mid (by rfl) _ _ rfl G8 0 rfl (bv v28) _ (fun W' hW' => range_row ((hW'.block _ sn8_X).trans gn8_X.out)) (Tryd.underlying23) rfl (by rw [bv_len, h28.out]; kernel_rfl)) hHeld ?_
    try simp only [pu]
    refine wpAnyH_take (i := 1) (oi := ⟨(some 39), _, _, _, _, _⟩) (v := _) rfl (by kernel_rfl) (by kernel_rfl) (by kernel_rfl) (fun _ _ _ h => h) (yieldsIf_load_mid (by rfl) _ _ rfl G7 0 rfl (bv v25) _ (fun W' hW' => range_row ((hW'.block _ sn7_X).trans gn7_X.out)) (Tryd.underlying23) rfl (by rw [bv_len, h25.out]; kernel_rfl)) hHeld ?_
    try simp only [pu]
    refine wpAnyH_take (i := 4) (oi := ⟨(some 42), _, _, _, _, _⟩) (v := _) rfl (by kernel_rfl) (by kernel_rfl) (by kernel_rfl) (fun _ _ _ h => h) (yieldsIf_load_mid (by rfl) _ _ rfl G9 0 rfl (bv v32) _ (fun W' hW' => range_row ((hW'.block _ sn9_X).trans gn9_X.out)) (Tryd.underlying23) rfl (by rw [bv_len, h32.out]; kernel_rfl)) hHeld ?_
    try simp only [pu]
    refine wpAnyH_take (i := 5) (oi := ⟨(some 43), _, _, _, _, _⟩) (v := _) rfl (by kernel_rfl) (by kernel_rfl) (by kernel_rfl) (fun _ _ _ h => h) (yieldsIf_load_mid (by rfl) _ _ rfl G7 0 rfl (bv v25) _ (fun W' hW' => range_row ((hW'.block _ sn7_X).trans gn7_X.out)) (Tryd.underlying23) rfl (by rw [bv_len, h25.out]; kernel_rfl)) hHeld ?_
    try simp only [pu]
    refine wpAnyH_take (i := 6) (oi := ⟨(some 44), _, _, _, _, _⟩) (v := _) rfl (by kernel_rfl) (by kernel_rfl) (by kernel_rfl) (fun _ _ _ h => h) (yieldsIf_load_mid (by rfl) _ _ rfl G8 0 rfl (bv v28) _ (fun W' hW' => range_row ((hW'.block _ sn8_X).trans gn8_X.out)) (Tryd.underlying23) rfl (by rw [bv_len, h28.out]; kernel_rfl)) hHeld ?_
    try simp only [pu]
    refine wpAnyH_ready (rs := [2]) (by kernel_rfl) (by simp) ?_
    refine AllReadyH.cons (i := 2) (o := ⟨(some 40), _, _, _, _, _⟩) rfl (fun K hK => ?_) AllReadyH.nil
    go_simp
    refine (fsub_any _ v28 v25 (h28.out) (h25.out)).mono ?_
    rintro e W22 ⟨v40, rfl, e40, h40, hb22⟩
    refine hK.out _ _ (below_next hHeld hHeld.size hb22) (fun hHeld => ?_)
    clear hK K hb22
    try simp only [pu]
    refine wpAnyH_ready (rs := [3]) (by kernel_rfl) (by simp) ?_
    refine AllReadyH.cons (i := 3) (o := ⟨(some 41), _, _, _, _, _⟩) rfl (fun K hK => ?_) AllReadyH.nil
    go_simp
    refine (fofW_any _ 1 (by decide) (by decide)).mono ?_
    rintro e W23 ⟨v41, rfl, e41, h41, hb23⟩
    refine hK.out _ _ (below_next hHeld hHeld.size hb23) (fun hHeld => ?_)
    clear hK K hb23
    try simp only [pu]
    refine wpAnyH_ready (rs := [7]) (by kernel_rfl) (by simp) ?_
    refine AllReadyH.cons (i := 7) (o := ⟨(some 45), _, _, _, _, _⟩) rfl (fun K hK => ?_) AllReadyH.nil
    go_simp
    refine (fmul_any _ v25 v28 (h25.out) (h28.out)).mono ?_
    rintro e W24 ⟨v45, rfl, e45, h45, hb24⟩
    refine hK.out _ _ (below_next hHeld hHeld.size hb24) (fun hHeld => ?_)
    clear hK K hb24
    try simp only [pu]
    refine wpAnyH_ready (rs := [8]) (by kernel_rfl) (by simp) ?_
    refine AllReadyH.cons (i := 8) (o := ⟨(some 46), _, _, _, _, _⟩) rfl (fun K hK => ?_) AllReadyH.nil
    go_simp
    refine (fmul_any _ v32 v45 (h32.out) (h45.out)).mono ?_
    rintro e W25 ⟨v46, rfl, e46, h46, hb25⟩
    refine hK.out _ _ (below_next hHeld hHeld.size hb25) (fun hHeld => ?_)
    clear hK K hb25
    try simp only [pu]
    refine wpAnyH_ready (rs := [9]) (by kernel_rfl) (by simp) ?_
    refine AllReadyH.cons (i := 9) (o := ⟨(some 47), _, _, _, _, _⟩) rfl (fun K hK => ?_) AllReadyH.nil
    go_simp
    refine (fadd_any _ v41 v46 (h41.out) (h46.out)).mono ?_
    rintro e W26 ⟨v47, rfl, e47, h47, hb26⟩
    refine hK.out _ _ (below_next hHeld hHeld.size hb26) (fun hHeld => ?_)
    clear hK K hb26
    try simp only [pu]
    obtain rfl : v40 = v47 := cW_inj h40.out h47.out e40.out.2 e47.out.2 (on_words e14.out.2 (by rw [e25.out.1, HCX.out]) (by rw [e28.out.1, HCY.out]) e40.out.1 HD.out e45.out.1 e46.out.1 e41.out.1 e47.out.1)
    have qX_10 := eql_bytes_same (P := Tryd.prog) Tryd.underlying23 Tryd.underlying5 Tryd.sizeByte v40 (h40.out)
    refine wpAnyH_take (i := 10) (oi := ⟨(some 48), _, _, _, _, _⟩) (v := .bool true) rfl (by kernel_rfl) (by kernel_rfl) (by kernel_rfl) (fun _ _ _ h => h) (Or.inl ⟨by rfl, ?yqX_7_10⟩) hHeld ?_
    case yqX_7_10 => (intro W0 hSw; go_simp; try with_reducible rfl)
    try simp only [pu]
    refine wpAnyH_take (i := 11) (oi := ⟨(some 49), _, _, _, _, _⟩) (v := .bool true) rfl (by kernel_rfl) (by kernel_rfl) (by kernel_rfl) (fun _ _ _ h => h) (Or.inl ⟨by rfl, ?yqX_7_11⟩) hHeld ?_
    case yqX_7_11 => (intro W0 hSw; go_simp; try with_reducible rfl)
    try simp only [pu]
    refine wpAnyH_take (i := 12) (oi := ⟨(some 50), _, _, _, _, _⟩) (v := _) rfl (by kernel_rfl) (by kernel_rfl) (by kernel_rfl) (fun _ _ _ h => h) (yieldsIf_load_mid (by rfl) _ _ rfl G10 0 rfl (bv z) _ (fun W' hW' => range_row ((hW'.block _ sn10_X).trans gn10_X.out)) (Tryd.underlying23) rfl (by rw [bv_len, Hz.out]; kernel_rfl)) hHeld ?_
    try simp only [pu]
    refine wpAnyH_take (i := 14) (oi := ⟨(some 52), _, _, _, _, _⟩) (v := _) rfl (by kernel_rfl) (by kernel_rfl) (by kernel_rfl) (fun _ _ _ h => h) (yieldsIf_load_mid (by rfl) _ _ rfl G4 0 rfl (bv z32) _ (fun W' hW' => range_row ((hW'.block _ sn4_X).trans gn4_X.out)) (Tryd.underlying23) rfl (by rw [bv_len, z32_len]; kernel_rfl)) hHeld ?_
    try simp only [pu]
    refine wpAnyH_take (i := 15) (oi := ⟨(some 53), _, _, _, _, _⟩) (v := _) rfl (by kernel_rfl) (by kernel_rfl) (by kernel_rfl) (fun _ _ _ h => h) (yields_build (by rfl) _ _ rfl [] (by rfl) _ hbz) hHeld ?_
    try simp only [pu]
    have qn := neq_bytes_same (P := Tryd.prog) Tryd.underlying23 Tryd.underlying5 Tryd.sizeByte z32 z32_len
    refine wpAnyH_take (i := 16) (oi := ⟨(some 54), _, _, _, _, _⟩) (v := .bool false) rfl (by kernel_rfl) (by kernel_rfl) (by kernel_rfl) (fun _ _ _ h => h) (Or.inl ⟨by rfl, ?yqX_7_16⟩) hHeld ?_
    case yqX_7_16 => (intro W0 hSw; go_simp; try with_reducible rfl)
    try simp only [pu]
    refine wpAnyH_ready (rs := [13]) (by kernel_rfl) (by simp) ?_
    refine AllReadyH.cons (i := 13) (o := ⟨(some 51), _, _, _, _, _⟩) rfl (fun K hK => ?_) AllReadyH.nil
    go_simp
    refine (pgood_any _ (hlaX.next hHeld) z (Hz.out)).mono ?_
    rintro e W27 ⟨o51, rfl, e51, hb27⟩
    refine hK.out _ _ (below_next hHeld hHeld.size hb27) (fun hHeld => ?_)
    clear hK K hb27
    try simp only [pu]
    obtain rfl : o51 = false := by rw [good_flip e51.out e14.out.1 e14.out.2 Hz.out HFL.out.1 HFL.out.2, decide_eq_true HZ.out]; rfl
    refine wpAnyH_take (i := 17) (oi := ⟨(some 55), _, _, _, _, _⟩) (v := .bool true) rfl (by kernel_rfl) (by kernel_rfl) (by kernel_rfl) (fun _ _ _ h => h) (Or.inl ⟨by rfl, ?yqX_7_17⟩) hHeld ?_
    case yqX_7_17 => (intro W0 hSw; go_simp; try with_reducible rfl)
    try simp only [pu]
    refine wpAnyH_take (i := 18) (oi := ⟨(some 56), _, _, _, _, _⟩) (v := .bool true) rfl (by kernel_rfl) (by kernel_rfl) (by kernel_rfl) (fun _ _ _ h => h) (Or.inl ⟨by rfl, ?yqX_7_18⟩) hHeld ?_
    case yqX_7_18 => (intro W0 hSw; go_simp; try with_reducible rfl)
    try simp only [pu]
    refine wpAnyH_take (i := 19) (oi := ⟨(some 2), _, _, _, _, _⟩) (v := .bool true) rfl (by kernel_rfl) (by kernel_rfl) (by kernel_rfl) (fun _ _ _ h => h) (Or.inl ⟨by rfl, ?yqX_7_19⟩) hHeld ?_
    case yqX_7_19 => (intro W0 hSw; go_simp; try with_reducible rfl)
    try simp only [pu]
    refine wpAnyH_done (by kernel_rfl) ?_ _
    obtain ⟨V7, rV7⟩ : ∃ X, X = W27 := ⟨_, rfl⟩
    subst rV7
    have gb0_V7 := row_next2 gb0_X hHeld
    have sb0_V7 := row_size gb0_V7
    have gn3_V7 := row_next2 gn3_X hHeld
    have sn3_V7 := row_size gn3_V7
    have gn4_V7 := row_next2 gn4_X hHeld
    have sn4_V7 := row_size gn4_V7
    have gn5_V7 := row_next2 gn5_X hHeld
    have sn5_V7 := row_size gn5_V7
    have gn7_V7 := row_next2 gn7_X hHeld
    have sn7_V7 := row_size gn7_V7
    have gn8_V7 := row_next2 gn8_X hHeld
    have sn8_V7 := row_size gn8_V7
    have gn9_V7 := row_next2 gn9_X hHeld
    have sn9_V7 := row_size gn9_V7
    have gn10_V7 := row_next2 gn10_X hHeld
    have sn10_V7 := row_size gn10_V7
    have hb_V7 := below_next hb_X hb_X.size hHeld
    have hlaV7 := hlaX.next hHeld
    clear hHeld hb_X sb0_X sn3_X sn4_X sn5_X sn7_X sn8_X sn9_X sn10_X
    clear gb0_X gn3_X gn4_X gn5_X gn7_X gn8_X gn9_X gn10_X hlaX
    go_wp2
    go_ret
    exact ⟨rfl, hb_V7⟩
  · have HZ := vlt (show ¬ (mulE (ln n) bE).1 = 0 from fun h => hx0 (by rw [HX.out, h]; decide +kernel))
    refine wp_region_held_drew (S := fun W' => Below X.heap.size X W') (by kernel_rfl) ((Below.refl _ _).drew) (fun hHeld => ?_)
    refine wpAnyH_take (i := 0) (oi := ⟨(some 38), _, _, _, _, _⟩) (v := _) rfl (by kernel_rfl) (by kernel_rfl) (by kernel_rfl) (fun _ _ _ h => h) (yieldsIf_load_mid (by rfl) _ _ rfl G8 0 rfl (bv v28) _ (fun W' hW' => range_row ((hW'.block _ sn8_X).trans gn8_X.out)) (Tryd.underlying23) rfl (by rw [bv_len, h28.out]; kernel_rfl)) hHeld ?_
    try simp only [pu]
    refine wpAnyH_take (i := 1) (oi := ⟨(some 39), _, _, _, _, _⟩) (v := _) rfl (by kernel_rfl) (by kernel_rfl) (by kernel_rfl) (fun _ _ _ h => h) (yieldsIf_load_mid (by rfl) _ _ rfl G7 0 rfl (bv v25) _ (fun W' hW' => range_row ((hW'.block _ sn7_X).trans gn7_X.out)) (Tryd.underlying23) rfl (by rw [bv_len, h25.out]; kernel_rfl)) hHeld ?_
    try simp only [pu]
    refine wpAnyH_take (i := 4) (oi := ⟨(some 42), _, _, _, _, _⟩) (v := _) rfl (by kernel_rfl) (by kernel_rfl) (by kernel_rfl) (fun _ _ _ h => h) (yieldsIf_load_mid (by rfl) _ _ rfl G9 0 rfl (bv v32) _ (fun W' hW' => range_row ((hW'.block _ sn9_X).trans gn9_X.out)) (Tryd.underlying23) rfl (by rw [bv_len, h32.out]; kernel_rfl)) hHeld ?_
    try simp only [pu]
    refine wpAnyH_take (i := 5) (oi := ⟨(some 43), _, _, _, _, _⟩) (v := _) rfl (by kernel_rfl) (by kernel_rfl) (by kernel_rfl) (fun _ _ _ h => h) (yieldsIf_load_mid (by rfl) _ _ rfl G7 0 rfl (bv v25) _ (fun W' hW' => range_row ((hW'.block _ sn7_X).trans gn7_X.out)) (Tryd.underlying23) rfl (by rw [bv_len, h25.out]; kernel_rfl)) hHeld ?_
    try simp only [pu]
    refine wpAnyH_take (i := 6) (oi := ⟨(some 44), _, _, _, _, _⟩) (v := _) rfl (by kernel_rfl) (by kernel_rfl) (by kernel_rfl) (fun _ _ _ h => h) (yieldsIf_load_mid (by rfl) _ _ rfl G8 0 rfl (bv v28) _ (fun W' hW' => range_row ((hW'.block _ sn8_X).trans gn8_X.out)) (Tryd.underlying23) rfl (by rw [bv_len, h28.out]; kernel_rfl)) hHeld ?_
    try simp only [pu]
    refine wpAnyH_ready (rs := [2]) (by kernel_rfl) (by simp) ?_
    refine AllReadyH.cons (i := 2) (o := ⟨(some 40), _, _, _, _, _⟩) rfl (fun K hK => ?_) AllReadyH.nil
    go_simp
    refine (fsub_any _ v28 v25 (h28.out) (h25.out)).mono ?_
    rintro e W22 ⟨v40, rfl, e40, h40, hb22⟩
    refine hK.out _ _ (below_next hHeld hHeld.size hb22) (fun hHeld => ?_)
    clear hK K hb22
    try simp only [pu]
    refine wpAnyH_ready (rs := [3]) (by kernel_rfl) (by simp) ?_
    refine AllReadyH.cons (i := 3) (o := ⟨(some 41), _, _, _, _, _⟩) rfl (fun K hK => ?_) AllReadyH.nil
    go_simp
    refine (fofW_any _ 1 (by decide) (by decide)).mono ?_
    rintro e W23 ⟨v41, rfl, e41, h41, hb23⟩
    refine hK.out _ _ (below_next hHeld hHeld.size hb23) (fun hHeld => ?_)
    clear hK K hb23
    try simp only [pu]
    refine wpAnyH_ready (rs := [7]) (by kernel_rfl) (by simp) ?_
    refine AllReadyH.cons (i := 7) (o := ⟨(some 45), _, _, _, _, _⟩) rfl (fun K hK => ?_) AllReadyH.nil
    go_simp
    refine (fmul_any _ v25 v28 (h25.out) (h28.out)).mono ?_
    rintro e W24 ⟨v45, rfl, e45, h45, hb24⟩
    refine hK.out _ _ (below_next hHeld hHeld.size hb24) (fun hHeld => ?_)
    clear hK K hb24
    try simp only [pu]
    refine wpAnyH_ready (rs := [8]) (by kernel_rfl) (by simp) ?_
    refine AllReadyH.cons (i := 8) (o := ⟨(some 46), _, _, _, _, _⟩) rfl (fun K hK => ?_) AllReadyH.nil
    go_simp
    refine (fmul_any _ v32 v45 (h32.out) (h45.out)).mono ?_
    rintro e W25 ⟨v46, rfl, e46, h46, hb25⟩
    refine hK.out _ _ (below_next hHeld hHeld.size hb25) (fun hHeld => ?_)
    clear hK K hb25
    try simp only [pu]
    refine wpAnyH_ready (rs := [9]) (by kernel_rfl) (by simp) ?_
    refine AllReadyH.cons (i := 9) (o := ⟨(some 47), _, _, _, _, _⟩) rfl (fun K hK => ?_) AllReadyH.nil
    go_simp
    refine (fadd_any _ v41 v46 (h41.out) (h46.out)).mono ?_
    rintro e W26 ⟨v47, rfl, e47, h47, hb26⟩
    refine hK.out _ _ (below_next hHeld hHeld.size hb26) (fun hHeld => ?_)
    clear hK K hb26
    try simp only [pu]
    obtain rfl : v40 = v47 := cW_inj h40.out h47.out e40.out.2 e47.out.2 (on_words e14.out.2 (by rw [e25.out.1, HCX.out]) (by rw [e28.out.1, HCY.out]) e40.out.1 HD.out e45.out.1 e46.out.1 e41.out.1 e47.out.1)
    have qX_10 := eql_bytes_same (P := Tryd.prog) Tryd.underlying23 Tryd.underlying5 Tryd.sizeByte v40 (h40.out)
    refine wpAnyH_take (i := 10) (oi := ⟨(some 48), _, _, _, _, _⟩) (v := .bool true) rfl (by kernel_rfl) (by kernel_rfl) (by kernel_rfl) (fun _ _ _ h => h) (Or.inl ⟨by rfl, ?yqX_7_10⟩) hHeld ?_
    case yqX_7_10 => (intro W0 hSw; go_simp; try with_reducible rfl)
    try simp only [pu]
    refine wpAnyH_take (i := 11) (oi := ⟨(some 49), _, _, _, _, _⟩) (v := .bool true) rfl (by kernel_rfl) (by kernel_rfl) (by kernel_rfl) (fun _ _ _ h => h) (Or.inl ⟨by rfl, ?yqX_7_11⟩) hHeld ?_
    case yqX_7_11 => (intro W0 hSw; go_simp; try with_reducible rfl)
    try simp only [pu]
    refine wpAnyH_take (i := 12) (oi := ⟨(some 50), _, _, _, _, _⟩) (v := _) rfl (by kernel_rfl) (by kernel_rfl) (by kernel_rfl) (fun _ _ _ h => h) (yieldsIf_load_mid (by rfl) _ _ rfl G10 0 rfl (bv z) _ (fun W' hW' => range_row ((hW'.block _ sn10_X).trans gn10_X.out)) (Tryd.underlying23) rfl (by rw [bv_len, Hz.out]; kernel_rfl)) hHeld ?_
    try simp only [pu]
    refine wpAnyH_take (i := 14) (oi := ⟨(some 52), _, _, _, _, _⟩) (v := _) rfl (by kernel_rfl) (by kernel_rfl) (by kernel_rfl) (fun _ _ _ h => h) (yieldsIf_load_mid (by rfl) _ _ rfl G4 0 rfl (bv x17) _ (fun W' hW' => range_row ((hW'.block _ sn4_X).trans gn4_X.out)) (Tryd.underlying23) rfl (by rw [bv_len, h17.out]; kernel_rfl)) hHeld ?_
    try simp only [pu]
    refine wpAnyH_take (i := 15) (oi := ⟨(some 53), _, _, _, _, _⟩) (v := _) rfl (by kernel_rfl) (by kernel_rfl) (by kernel_rfl) (fun _ _ _ h => h) (yields_build (by rfl) _ _ rfl [] (by rfl) _ hbz) hHeld ?_
    try simp only [pu]
    have qn := neq_bytes (P := Tryd.prog) Tryd.underlying23 Tryd.underlying5 Tryd.sizeByte x17 z32 h17.out z32_len
    rw [decide_eq_false hx0] at qn
    refine wpAnyH_take (i := 16) (oi := ⟨(some 54), _, _, _, _, _⟩) (v := .bool true) rfl (by kernel_rfl) (by kernel_rfl) (by kernel_rfl) (fun _ _ _ h => h) (Or.inl ⟨by rfl, ?yqX_7_16⟩) hHeld ?_
    case yqX_7_16 => (intro W0 hSw; go_simp; try with_reducible rfl)
    try simp only [pu]
    refine wpAnyH_ready (rs := [13]) (by kernel_rfl) (by simp) ?_
    refine AllReadyH.cons (i := 13) (o := ⟨(some 51), _, _, _, _, _⟩) rfl (fun K hK => ?_) AllReadyH.nil
    go_simp
    refine (pgood_any _ (hlaX.next hHeld) z (Hz.out)).mono ?_
    rintro e W27 ⟨o51, rfl, e51, hb27⟩
    refine hK.out _ _ (below_next hHeld hHeld.size hb27) (fun hHeld => ?_)
    clear hK K hb27
    try simp only [pu]
    obtain rfl : o51 = true := by rw [good_flip e51.out e14.out.1 e14.out.2 Hz.out HFL.out.1 HFL.out.2, decide_eq_false HZ.out]; rfl
    refine wpAnyH_take (i := 17) (oi := ⟨(some 55), _, _, _, _, _⟩) (v := .bool true) rfl (by kernel_rfl) (by kernel_rfl) (by kernel_rfl) (fun _ _ _ h => h) (Or.inl ⟨by rfl, ?yqX_7_17⟩) hHeld ?_
    case yqX_7_17 => (intro W0 hSw; go_simp; try with_reducible rfl)
    try simp only [pu]
    refine wpAnyH_take (i := 18) (oi := ⟨(some 56), _, _, _, _, _⟩) (v := .bool true) rfl (by kernel_rfl) (by kernel_rfl) (by kernel_rfl) (fun _ _ _ h => h) (Or.inl ⟨by rfl, ?yqX_7_18⟩) hHeld ?_
    case yqX_7_18 => (intro W0 hSw; go_simp; try with_reducible rfl)
    try simp only [pu]
    refine wpAnyH_take (i := 19) (oi := ⟨(some 2), _, _, _, _, _⟩) (v := .bool true) rfl (by kernel_rfl) (by kernel_rfl) (by kernel_rfl) (fun _ _ _ h => h) (Or.inl ⟨by rfl, ?yqX_7_19⟩) hHeld ?_
    case yqX_7_19 => (intro W0 hSw; go_simp; try with_reducible rfl)
    try simp only [pu]
    refine wpAnyH_done (by kernel_rfl) ?_ _
    obtain ⟨V7, rV7⟩ : ∃ X, X = W27 := ⟨_, rfl⟩
    subst rV7
    have gb0_V7 := row_next2 gb0_X hHeld
    have sb0_V7 := row_size gb0_V7
    have gn3_V7 := row_next2 gn3_X hHeld
    have sn3_V7 := row_size gn3_V7
    have gn4_V7 := row_next2 gn4_X hHeld
    have sn4_V7 := row_size gn4_V7
    have gn5_V7 := row_next2 gn5_X hHeld
    have sn5_V7 := row_size gn5_V7
    have gn7_V7 := row_next2 gn7_X hHeld
    have sn7_V7 := row_size gn7_V7
    have gn8_V7 := row_next2 gn8_X hHeld
    have sn8_V7 := row_size gn8_V7
    have gn9_V7 := row_next2 gn9_X hHeld
    have sn9_V7 := row_size gn9_V7
    have gn10_V7 := row_next2 gn10_X hHeld
    have sn10_V7 := row_size gn10_V7
    have hb_V7 := below_next hb_X hb_X.size hHeld
    have hlaV7 := hlaX.next hHeld
    clear hHeld hb_X sb0_X sn3_X sn4_X sn5_X sn7_X sn8_X sn9_X sn10_X
    clear gb0_X gn3_X gn4_X gn5_X gn7_X gn8_X gn9_X gn10_X hlaX
    go_wp2
    go_ret
    exact ⟨rfl, hb_V7⟩
end Go.Proofs.YtehkalbiomagjaaDoor
