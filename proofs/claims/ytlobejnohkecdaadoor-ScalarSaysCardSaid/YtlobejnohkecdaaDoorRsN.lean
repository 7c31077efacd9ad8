/-
  Contracts of the document's own ScGood, ScAdd, ScSub. Conditions: words of 32 bytes.
-/
import Derived.Test.YtlobejnohkecdaaDoorRsM
import Derived.Test.YtlobejnohkecdaaDoorEqG
import Derived.Test.YtlobejnohkecdaaDoorEqB
namespace Go.Proofs.YtlobejnohkecdaaDoor
open Go.RowKit

theorem decide_not_le (x y : Nat) : (!decide (x ≤ y)) = decide (y < x) := by
  by_cases h : x ≤ y
  · rw [decide_eq_true h, decide_eq_false (by omega)]; rfl
  · rw [decide_eq_false h, decide_eq_true (by omega)]; rfl
set_option maxHeartbeats 1000000 in
theorem rscgood_any (w : World) (a : List UInt8) (ha : a.length = 32) :
    Calls Tryd.prog 16 #[.agg (bv a).toArray] w fun e w' => ∃ b, e = .returned (.bool b) ∧ Vlt (b = decide (ln a < FL)) ∧ Below w.heap.size w w' := by
  obtain ⟨W, hW, hgA, hbW, hsW⟩ := one_new w (bv a).toArray 24
  have HW := Lib.hid hW
  have HA := Lib.hid ha
  have HAS := Lib.hid (show (bv a).length = 32 by rw [bv_len, ha])
  have hs : w.heap.size < W.heap.size := by have := hsW.out; omega
  clear hW ha hsW
  go_enter Tryd.func16, Tryd.ntmps16
  go_upto_region 1 with fail
  rw [HW.out]
  refine wp_region_held_drew (S := (fun W' => Below W.heap.size W W')) (by kernel_rfl) ((Below.refl _ _).drew) (fun hHeld => ?_)
  refine wpAnyH_take (i := 0) (oi := ⟨(some 3), _, _, _, _, _⟩) (v := _) rfl (by kernel_rfl) (by kernel_rfl) (by kernel_rfl) (fun _ _ _ h => h) (yieldsIf_load_mid (by rfl) _ _ rfl w.heap.size 0 rfl (bv a) _ (fun W' hW' => range_row ((hW'.block _ hs).trans hgA.out)) (Tryd.underlying24) (rfl) (by rw [HAS.out]; kernel_rfl)) hHeld ?_
  try simp only [Act.put, List.setIfInBounds_toArray, List.set_cons_zero, List.set_cons_succ]
  refine wpAnyH_ready (rs := [1]) (by kernel_rfl) (by simp) ?_
  refine AllReadyH.cons (i := 1) (o := ⟨(some 4), _, _, _, _, _⟩) rfl (fun K hK => ?_) AllReadyH.nil
  go_simp
  refine (rorder_any _).mono ?_
  rintro e w1 ⟨o, rfl, e1, ho, hb1⟩
  refine hK.out _ _ (below_next hHeld hHeld.size hb1) (fun hHeld => ?_)
  clear hK K
  try simp only [Act.put, List.setIfInBounds_toArray, List.set_cons_zero, List.set_cons_succ]
  refine wpAnyH_ready (rs := [2]) (by kernel_rfl) (by simp) ?_
  refine AllReadyH.cons (i := 2) (o := ⟨(some 5), _, _, _, _, _⟩) rfl (fun K hK => ?_) AllReadyH.nil
  go_simp
  refine (ratLeast_any _ a o HA.out ho.out).mono ?_
  rintro e w2 ⟨r, rfl, e2, hb2⟩
  refine hK.out _ _ (below_next hHeld hHeld.size hb2) (fun hHeld => ?_)
  clear hK K
  try simp only [Act.put, List.setIfInBounds_toArray, List.set_cons_zero, List.set_cons_succ]
  have HE := vlt (show (!r) = decide (ln a < FL) by rw [e2.out, e1.out, ln_ordW]; exact decide_not_le _ _)
  clear e1 e2
  refine wpAnyH_take (i := 3) (oi := ⟨(some 6), _, _, _, _, _⟩) (v := ?vq1_0) rfl (by kernel_rfl) (by kernel_rfl) (by kernel_rfl) (fun _ _ _ h => h) (Or.inl ⟨by rfl, ?yq1_0⟩) hHeld ?_
  case yq1_0 => (intro W0 hSw; go_simp; try with_reducible rfl)
  try simp only [Act.put, List.setIfInBounds_toArray, List.set_cons_zero, List.set_cons_succ]
  refine wpAnyH_take (i := 4) (oi := ⟨(some 2), _, _, _, _, _⟩) (v := ?vq1_1) rfl (by kernel_rfl) (by kernel_rfl) (by kernel_rfl) (fun _ _ _ h => h) (Or.inl ⟨by rfl, ?yq1_1⟩) hHeld ?_
  case yq1_1 => (intro W0 hSw; go_simp; try with_reducible rfl)
  try simp only [Act.put, List.setIfInBounds_toArray, List.set_cons_zero, List.set_cons_succ]
  refine wpAnyH_done (by kernel_rfl) ?_ _
  go_wp2
  go_ret
  exact ⟨!r, rfl, HE, below_next hbW hbW.size hHeld⟩

section
variable {ops : Array Oper} {o : Oper} {a : Act} {w : World} {K : Act → World → Prop} {Q : Exit → Act → World → Prop} {E : Prop}
/-- A new word's variable, as a step of a region that draws its order. -/
theorem step_new_word (hw : Region.wanted o (yielded ops a.tmps) = true) (ho : o.op = .alloc 24)
    (h : ∀ p w', Hid (p = w.heap.size) → Hid (w'.heap[p]? = some (.cells (bv z32).toArray 24 (0, 0))) → Below w.heap.size w w' → p < w'.heap.size → K (a.put o.dst (.pointer (some ⟨p, 0, none⟩))) w') : if Region.wanted o (yielded ops a.tmps) = true then Oper.wp Tryd.prog o a w K Q else E := by
  rw [if_pos hw]
  have hzn := zero_word
  have h1 := h w.heap.size _ rfl (heap_alloc_new w (.cells (bv z32).toArray 24)) ((Below.refl _ _).alloc (Nat.le_refl _) _) (by simp)
  unfold Oper.wp
  simp only [execOp, ho]
  clear h
  go_simp
  exact h1
end

set_option maxRecDepth 100000 in
set_option maxHeartbeats 8000000 in
theorem rscadd_any (w : World) (a b : List UInt8) (ha : a.length = 32) (hb : b.length = 32) :
    Calls Tryd.prog 17 #[.agg (bv a).toArray, .agg (bv b).toArray] w fun e w' => ∃ l, e = .returned (.agg (bv l).toArray) ∧ Vlt (l = wl (ln a + ln b)) ∧ Hid (l.length = 32) ∧ Below w.heap.size w w' := by
  have hzw := zero_word
  obtain ⟨W, hW, hgA, hgB, hgZ, hbW, hsW⟩ := three_new w (bv a).toArray (bv b).toArray (bv z32).toArray 24 24 24
  have HW := Lib.hid hW
  have HA := Lib.hid ha
  have HB := Lib.hid hb
  have sZ : w.heap.size + 2 < W.heap.size := by have := hsW.out; omega
  have sA : w.heap.size < W.heap.size := by omega
  have sB : w.heap.size + 1 < W.heap.size := by omega
  clear hW ha hb hsW
  have hc1 := cut_all Tryd.underlying24 Tryd.sizeByte w.heap.size 0 (by decide)
  have hc2 := cut_all Tryd.underlying24 Tryd.sizeByte (w.heap.size + 1) 0 (by decide)
  go_enter Tryd.func17, Tryd.ntmps17
  go_upto_region 1 with fail
  rw [HW.out]
  refine wp_region_held_drew (S := (fun W' => Below W.heap.size W W')) (by kernel_rfl) ((Below.refl _ _).drew) (fun hHeld => ?_)
  refine wpAnyH_take (i := 0) (oi := ⟨(some 9), _, _, _, _, _⟩) (v := ?vq2_0) rfl (by kernel_rfl) (by kernel_rfl) (by kernel_rfl) (fun _ _ _ h => h) (Or.inl ⟨by rfl, ?yq2_0⟩) hHeld ?_
  case yq2_0 => (intro W0 hSw; go_simp; try with_reducible rfl)
  try simp only [Act.put, List.setIfInBounds_toArray, List.set_cons_zero, List.set_cons_succ]
  refine wpAnyH_take (i := 2) (oi := ⟨(some 11), _, _, _, _, _⟩) (v := ?vq2_1) rfl (by kernel_rfl) (by kernel_rfl) (by kernel_rfl) (fun _ _ _ h => h) (Or.inl ⟨by rfl, ?yq2_1⟩) hHeld ?_
  case yq2_1 => (intro W0 hSw; go_simp; try with_reducible rfl)
  try simp only [Act.put, List.setIfInBounds_toArray, List.set_cons_zero, List.set_cons_succ]
  refine wpAnyH_ready (rs := [1, 4, 5]) (by kernel_rfl) (by simp) ?_
  refine AllReadyH.cons (i := 1) (o := ⟨(some 10), _, _, _, _, _⟩) rfl (fun K hK => ?_) (AllReadyH.cons (i := 4) (o := ⟨(some 5), _, _, _, _, _⟩) rfl (fun K hK => ?_) (AllReadyH.cons (i := 5) (o := ⟨(some 6), _, _, _, _, _⟩) rfl (fun K hK => ?_) AllReadyH.nil))
  · go_simp
    refine (rmod_any _ (some ⟨w.heap.size, 0, none⟩) 32 32 a (byt_row ((hHeld.block _ sA).trans hgA.out)) HA.out (by decide)).mono ?_
    rintro e W1 ⟨x, rfl, ex, hx, g1⟩
    have t1 := g1.size
    have hB1 := below_next hHeld hHeld.size g1
    refine hK.out _ _ (hB1) (fun hHeld => ?_)
    clear hK K
    try simp only [Act.put, List.setIfInBounds_toArray, List.set_cons_zero, List.set_cons_succ]
    refine wpAnyH_ready (rs := [3, 4, 5]) (by kernel_rfl) (by simp) ?_
    refine AllReadyH.cons (i := 3) (o := ⟨(some 12), _, _, _, _, _⟩) rfl (fun K hK => ?_) (AllReadyH.cons (i := 4) (o := ⟨(some 5), _, _, _, _, _⟩) rfl (fun K hK => ?_) (AllReadyH.cons (i := 5) (o := ⟨(some 6), _, _, _, _, _⟩) rfl (fun K hK => ?_) AllReadyH.nil))
    · go_simp
      refine (rmod_any _ (some ⟨(w.heap.size + 1), 0, none⟩) 32 32 b (byt_row ((hHeld.block _ sB).trans hgB.out)) HB.out (by decide)).mono ?_
      rintro e W2 ⟨y, rfl, ey, hy, g2⟩
      have t2 := g2.size
      have hB2 := below_next hHeld hHeld.size g2
      refine hK.out _ _ (hB2) (fun hHeld => ?_)
      clear hK K
      try simp only [Act.put, List.setIfInBounds_toArray, List.set_cons_zero, List.set_cons_succ]
      refine wpAnyH_ready (rs := [4, 5]) (by kernel_rfl) (by simp) ?_
      refine AllReadyH.cons (i := 4) (o := ⟨(some 5), _, _, _, _, _⟩) rfl (fun K hK => ?_) (AllReadyH.cons (i := 5) (o := ⟨(some 6), _, _, _, _, _⟩) rfl (fun K hK => ?_) AllReadyH.nil)
      · refine step_new_word (by rfl) rfl ?_
        intro P4 W3 hP4 z4 g3 l4
        have lP4 : W.heap.size ≤ P4 := by have := hHeld.size; have := hP4.out; omega
        have t3 := g3.size
        have hB3 := below_next hHeld hHeld.size g3
        refine hK.out _ _ (hB3) (fun hHeld => ?_)
        clear hK K
        try simp only [Act.put, List.setIfInBounds_toArray, List.set_cons_zero, List.set_cons_succ]
        refine wpAnyH_ready (rs := [5]) (by kernel_rfl) (by simp) ?_
        refine AllReadyH.cons (i := 5) (o := ⟨(some 6), _, _, _, _, _⟩) rfl (fun K hK => ?_) AllReadyH.nil
        refine step_new_word (by rfl) rfl ?_
        intro P5 W4 hP5 z5 g4 l5
        have lP5 : W.heap.size ≤ P5 := by have := hHeld.size; have := hP5.out; omega
        have t4 := g4.size
        have hB4 := below_next hHeld hHeld.size g4
        refine hK.out _ _ (hB4) (fun hHeld => ?_)
        clear hK K
        try simp only [Act.put, List.setIfInBounds_toArray, List.set_cons_zero, List.set_cons_succ]
        refine wpAnyH_ready (rs := [6]) (by kernel_rfl) (by simp) ?_
        refine AllReadyH.cons (i := 6) (o := ⟨none, _, _, _, _, _⟩) rfl (fun K hK => ?_) AllReadyH.nil
        have hne : P4 ≠ P5 := by have := hP4.out; have := hP5.out; omega
        have HXS := Lib.hid (bv_size x hx.out)
        have HYS := Lib.hid (bv_size y hy.out)
        refine step_store_row rfl 24 (.tmp 5) (.tmp 10) rfl P4 (bv x).toArray rfl rfl 24 _ ((row_next z4 g4)).out (by rw [HXS.out]; kernel_rfl) (by rw [HXS.out]; kernel_rfl) (all_oneCell_toArray (bv_one _)) ?_
        have y4 : Hid ((W4.setRow P4 (bv x).toArray).heap[P4]? = some (.cells (bv x).toArray 24 (0, 0))) := setRow_heap _ _ _ _ _ _ ((row_next z4 g4)).out
        have y5 : Hid ((W4.setRow P4 (bv x).toArray).heap[P5]? = some (.cells (bv z32).toArray 24 (0, 0))) := (setRow_other _ _ _ _ (Ne.symm hne)).trans (z5).out
        have hB5 := below_setRow hHeld lP4 (bv x).toArray
        generalize W4.setRow P4 (bv x).toArray = W5 at *
        refine hK.out _ _ (hB5) (fun hHeld => ?_)
        clear hK K
        try simp only [Act.put]
        refine wpAnyH_ready (rs := [7]) (by kernel_rfl) (by simp) ?_
        refine AllReadyH.cons (i := 7) (o := ⟨none, _, _, _, _, _⟩) rfl (fun K hK => ?_) AllReadyH.nil
        refine step_store_row rfl 24 (.tmp 6) (.tmp 12) rfl P5 (bv y).toArray rfl rfl 24 _ y5.out (by rw [HYS.out]; kernel_rfl) (by rw [HYS.out]; kernel_rfl) (all_oneCell_toArray (bv_one _)) ?_
        have x5 : Hid ((W5.setRow P5 (bv y).toArray).heap[P5]? = some (.cells (bv y).toArray 24 (0, 0))) := setRow_heap _ _ _ _ _ _ y5.out
        have x4 : Hid ((W5.setRow P5 (bv y).toArray).heap[P4]? = some (.cells (bv x).toArray 24 (0, 0))) := (setRow_other _ _ _ _ hne).trans y4.out
        have hB6 := below_setRow hHeld lP5 (bv y).toArray
        generalize W5.setRow P5 (bv y).toArray = W6 at *
        refine hK.out _ _ (hB6) (fun hHeld => ?_)
        clear hK K
        try simp only [Act.put]
        refine wpAnyH_done (by kernel_rfl) ?_ _
        have hbw6 := below_next hbW hbW.size hHeld
        have xZ6 := Lib.hid ((hHeld.block _ sZ).trans hgZ.out)
        have sZ6 : w.heap.size + 2 < W6.heap.size := (Array.getElem?_eq_some_iff.1 xZ6.out).1
        have s4 : P4 < W6.heap.size := (Array.getElem?_eq_some_iff.1 x4.out).1
        have s5 : P5 < W6.heap.size := (Array.getElem?_eq_some_iff.1 x5.out).1
        clear hHeld hB6 g1 g2 g3 g4 hB1 hB2 hB3 hB4 hB5 z4 z5 hP4 hP5 l4 l5 y4 y5 t1 t2 t3 t4
        go_wp2_with fail
        go_loopw [7, 8] (fun cc s wr => ∃ (k c : Nat) (u : List UInt8), k ≤ 32 ∧ s = .int .i64 (k : Int) ∧ cc = .int .i64 (c : Int) ∧ c ≤ 1 ∧ Hid (wr.heap[P4]? = some (.cells (bv u).toArray 24 (0, 0))) ∧ Vlt (Pls x y u k c) ∧ But P4 W6 wr) (fun _ s _ => 32 - (intOf s).toNat)
        case atStart => exact ⟨0, 0, x, by omega, rfl, rfl, by decide, x4, vlt (Pls.first hx.out), But.refl _ _⟩
        case round =>
          clear x4
          obtain ⟨k, c, u, hk, rfl, rfl, hc, hg, hM, hbt⟩ := hrel
          by_cases hlt : k < 32
          · have gy : wr.heap[P5]? = some (.cells (bv y).toArray 24 (0, 0)) := (hbt.block _ s5 (by intro e; injection e; omega)).trans x5.out
            have hul := Lib.hid hM.out.len
            have c0 := nb_cell hg.out (show k < u.length by rw [hul.out]; exact hlt)
            rw [hM.out.rest k (Nat.le_refl _)] at c0
            have c1 := nb_cell gy (show k < y.length by rw [hy.out]; exact hlt)
            have lx := nb_lt x k
            have ly := nb_lt y k
            have hst := vlt (hM.out.step hy.out hlt)
            have f0 : wr.frozen? ⟨P4, k, none⟩ = false := frozen_of_row _ _ _ _ _ hg.out
            have lv : (c + nb x k + nb y k) % 256 < 256 := by omega
            have lt : (c + nb x k + nb y k) / 256 ≤ 1 := by omega
            generalize nb x k = xk at *
            generalize nb y k = yk at *
            have hw1 : IntKind.i64.wrap ((c : Int) + (xk : Int)) = (c : Int) + (xk : Int) := IntWalk.i64_in _ (by omega)
            have hw2 : IntKind.i64.wrap ((c : Int) + (xk : Int) + (yk : Int)) = ((c + xk + yk : Nat) : Int) := by rw [show (c : Int) + (xk : Int) + (yk : Int) = ((c + xk + yk : Nat) : Int) by omega]; exact IntWalk.i64_in _ (by omega)
            have lN : c + xk + yk < 1000 := by omega
            generalize c + xk + yk = N at *
            have ev : (N : Int) % 256 = ((N % 256 : Nat) : Int) := by omega
            have ed : (N : Int) / 256 = ((N / 256 : Nat) : Int) := by omega
            have hset := world_set_cell hg.out k (.int .u8 ((N % 256 : Nat) : Int))
            rw [bv_put _ _ _ lv] at hset
            have hb2 := hbt.set (i := k) (.int .u8 ((N % 256 : Nat) : Int))
            generalize N % 256 = v at *
            generalize N / 256 = d at *
            clear gy hM
            go_wp2_with fail
            go_region
            go_wp2_with fail
            go_roundw
            case rel => exact ⟨k + 1, d, _, by omega, by go_num, rfl, lt, hset, hst, hb2.drew⟩
            case measure => simp [intOf]; omega
          · obtain rfl : k = 32 := by omega
            have HU := vlt (hM.out.all hy.out (by rw [ex.out, ln_wl]; exact Nat.mod_lt _ fl_pos) (by rw [ey.out, ln_wl]; exact Nat.mod_lt _ fl_pos))
            have hul := Lib.hid hM.out.len
            have hz : Hid (wr.heap[w.heap.size + 2]? = some (.cells (bv z32).toArray 24 (0, 0))) := (hbt.block _ sZ6 (by intro e; injection e; omega)).trans xZ6.out
            have hbw : Below w.heap.size w wr := But.below hbw6 hbt (by omega) (by omega)
            have sZ : w.heap.size + 2 < wr.heap.size := (Array.getElem?_eq_some_iff.1 hz.out).1
            have hc3 := cut_all Tryd.underlying24 Tryd.sizeByte P4 0 (by decide)
            clear hM hbt x5 xZ6 hbw6
            go_wp2_with fail
            refine (rmod_any wr (some ⟨P4, 0, none⟩) 32 32 u (byt_row hg.out) hul.out (by decide)).mono ?_
            rintro e W7 ⟨r, rfl, er, hr, hb7⟩
            have HE := vlt (show r = wl (ln a + ln b) by rw [er.out, HU.out, ex.out, ey.out, ln_wl, ln_wl]; exact wl_of (by rw [← Nat.add_mod]))
            have hbw7 := below_next hbw hbw.size hb7
            have hz7 : Hid (W7.heap[w.heap.size + 1 + 1]? = some (.cells (bv z32).toArray 24 (0, 0))) := (hb7.block _ sZ).trans hz.out
            have HLS := Lib.hid (bv_size r hr.out)
            clear er HU ex ey
            go_wp2_with (with_reducible refine wpList_store_row rfl 24 (.tmp 4) (.tmp 35) rfl (w.heap.size + 1 + 1) (bv r).toArray rfl rfl 24 _ hz7.out (by rw [HLS.out]; kernel_rfl) (by rw [HLS.out]; kernel_rfl) (all_oneCell_toArray (bv_one _)) ?_)
            refine bodyPost_ret (v := .agg (bv r).toArray) (results_cell_row Tryd.results17 _ _ (w.heap.size + 1 + 1) 24 _ (0, 0) _ rfl (setRow_heap _ _ _ _ _ _ hz7.out) Tryd.underlying24 rfl (by rw [HLS.out]; kernel_rfl)) rfl ⟨r, rfl, HE, hr, below_setRow hbw7 (by omega) _⟩
      · refine step_new_word (by rfl) rfl ?_
        intro P5 W3 hP5 z5 g3 l5
        have lP5 : W.heap.size ≤ P5 := by have := hHeld.size; have := hP5.out; omega
        have t3 := g3.size
        have hB3 := below_next hHeld hHeld.size g3
        refine hK.out _ _ (hB3) (fun hHeld => ?_)
        clear hK K
        try simp only [Act.put, List.setIfInBounds_toArray, List.set_cons_zero, List.set_cons_succ]
        refine wpAnyH_ready (rs := [4]) (by kernel_rfl) (by simp) ?_
        refine AllReadyH.cons (i := 4) (o := ⟨(some 5), _, _, _, _, _⟩) rfl (fun K hK => ?_) AllReadyH.nil
        refine step_new_word (by rfl) rfl ?_
        intro P4 W4 hP4 z4 g4 l4
        have lP4 : W.heap.size ≤ P4 := by have := hHeld.size; have := hP4.out; omega
        have t4 := g4.size
        have hB4 := below_next hHeld hHeld.size g4
        refine hK.out _ _ (hB4) (fun hHeld => ?_)
        clear hK K
        try simp only [Act.put, List.setIfInBounds_toArray, List.set_cons_zero, List.set_cons_succ]
        refine wpAnyH_ready (rs := [6]) (by kernel_rfl) (by simp) ?_
        refine AllReadyH.cons (i := 6) (o := ⟨none, _, _, _, _, _⟩) rfl (fun K hK => ?_) AllReadyH.nil
        have hne : P4 ≠ P5 := by have := hP4.out; have := hP5.out; omega
        have HXS := Lib.hid (bv_size x hx.out)
        have HYS := Lib.hid (bv_size y hy.out)
        refine step_store_row rfl 24 (.tmp 5) (.tmp 10) rfl P4 (bv x).toArray rfl rfl 24 _ (z4).out (by rw [HXS.out]; kernel_rfl) (by rw [HXS.out]; kernel_rfl) (all_oneCell_toArray (bv_one _)) ?_
        have y4 : Hid ((W4.setRow P4 (bv x).toArray).heap[P4]? = some (.cells (bv x).toArray 24 (0, 0))) := setRow_heap _ _ _ _ _ _ (z4).out
        have y5 : Hid ((W4.setRow P4 (bv x).toArray).heap[P5]? = some (.cells (bv z32).toArray 24 (0, 0))) := (setRow_other _ _ _ _ (Ne.symm hne)).trans ((row_next z5 g4)).out
        have hB5 := below_setRow hHeld lP4 (bv x).toArray
        generalize W4.setRow P4 (bv x).toArray = W5 at *
        refine hK.out _ _ (hB5) (fun hHeld => ?_)
        clear hK K
        try simp only [Act.put]
        refine wpAnyH_ready (rs := [7]) (by kernel_rfl) (by simp) ?_
        refine AllReadyH.cons (i := 7) (o := ⟨none, _, _, _, _, _⟩) rfl (fun K hK => ?_) AllReadyH.nil
        refine step_store_row rfl 24 (.tmp 6) (.tmp 12) rfl P5 (bv y).toArray rfl rfl 24 _ y5.out (by rw [HYS.out]; kernel_rfl) (by rw [HYS.out]; kernel_rfl) (all_oneCell_toArray (bv_one _)) ?_
        have x5 : Hid ((W5.setRow P5 (bv y).toArray).heap[P5]? = some (.cells (bv y).toArray 24 (0, 0))) := setRow_heap _ _ _ _ _ _ y5.out
        have x4 : Hid ((W5.setRow P5 (bv y).toArray).heap[P4]? = some (.cells (bv x).toArray 24 (0, 0))) := (setRow_other _ _ _ _ hne).trans y4.out
        have hB6 := below_setRow hHeld lP5 (bv y).toArray
        generalize W5.setRow P5 (bv y).toArray = W6 at *
        refine hK.out _ _ (hB6) (fun hHeld => ?_)
        clear hK K
        try simp only [Act.put]
        refine wpAnyH_done (by kernel_rfl) ?_ _
        have hbw6 := below_next hbW hbW.size hHeld
        have xZ6 := Lib.hid ((hHeld.block _ sZ).trans hgZ.out)
        have sZ6 : w.heap.size + 2 < W6.heap.size := (Array.getElem?_eq_some_iff.1 xZ6.out).1
        have s4 : P4 < W6.heap.size := (Array.getElem?_eq_some_iff.1 x4.out).1
        have s5 : P5 < W6.heap.size := (Array.getElem?_eq_some_iff.1 x5.out).1
        clear hHeld hB6 g1 g2 g3 g4 hB1 hB2 hB3 hB4 hB5 z4 z5 hP4 hP5 l4 l5 y4 y5 t1 t2 t3 t4
        go_wp2_with fail
        go_loopw [7, 8] (fun cc s wr => ∃ (k c : Nat) (u : List UInt8), k ≤ 32 ∧ s = .int .i64 (k : Int) ∧ cc = .int .i64 (c : Int) ∧ c ≤ 1 ∧ Hid (wr.heap[P4]? = some (.cells (bv u).toArray 24 (0, 0))) ∧ Vlt (Pls x y u k c) ∧ But P4 W6 wr) (fun _ s _ => 32 - (intOf s).toNat)
        case atStart => exact ⟨0, 0, x, by omega, rfl, rfl, by decide, x4, vlt (Pls.first hx.out), But.refl _ _⟩
        case round =>
          clear x4
          obtain ⟨k, c, u, hk, rfl, rfl, hc, hg, hM, hbt⟩ := hrel
          by_cases hlt : k < 32
          · have gy : wr.heap[P5]? = some (.cells (bv y).toArray 24 (0, 0)) := (hbt.block _ s5 (by intro e; injection e; omega)).trans x5.out
            have hul := Lib.hid hM.out.len
            have c0 := nb_cell hg.out (show k < u.length by rw [hul.out]; exact hlt)
            rw [hM.out.rest k (Nat.le_refl _)] at c0
            have c1 := nb_cell gy (show k < y.length by rw [hy.out]; exact hlt)
            have lx := nb_lt x k
            have ly := nb_lt y k
            have hst := vlt (hM.out.step hy.out hlt)
            have f0 : wr.frozen? ⟨P4, k, none⟩ = false := frozen_of_row _ _ _ _ _ hg.out
            have lv : (c + nb x k + nb y k) % 256 < 256 := by omega
            have lt : (c + nb x k + nb y k) / 256 ≤ 1 := by omega
            generalize nb x k = xk at *
            generalize nb y k = yk at *
            have hw1 : IntKind.i64.wrap ((c : Int) + (xk : Int)) = (c : Int) + (xk : Int) := IntWalk.i64_in _ (by omega)
            have hw2 : IntKind.i64.wrap ((c : Int) + (xk : Int) + (yk : Int)) = ((c + xk + yk : Nat) : Int) := by rw [show (c : Int) + (xk : Int) + (yk : Int) = ((c + xk + yk : Nat) : Int) by omega]; exact IntWalk.i64_in _ (by omega)
            have lN : c + xk + yk < 1000 := by omega
            generalize c + xk + yk = N at *
            have ev : (N : Int) % 256 = ((N % 256 : Nat) : Int) := by omega
            have ed : (N : Int) / 256 = ((N / 256 : Nat) : Int) := by omega
            have hset := world_set_cell hg.out k (.int .u8 ((N % 256 : Nat) : Int))
            rw [bv_put _ _ _ lv] at hset
            have hb2 := hbt.set (i := k) (.int .u8 ((N % 256 : Nat) : Int))
            generalize N % 256 = v at *
            generalize N / 256 = d at *
            clear gy hM
            go_wp2_with fail
            go_region
            go_wp2_with fail
            go_roundw
            case rel => exact ⟨k + 1, d, _, by omega, by go_num, rfl, lt, hset, hst, hb2.drew⟩
            case measure => simp [intOf]; omega
          · obtain rfl : k = 32 := by omega
            have HU := vlt (hM.out.all hy.out (by rw [ex.out, ln_wl]; exact Nat.mod_lt _ fl_pos) (by rw [ey.out, ln_wl]; exact Nat.mod_lt _ fl_pos))
            have hul := Lib.hid hM.out.len
            have hz : Hid (wr.heap[w.heap.size + 2]? = some (.cells (bv z32).toArray 24 (0, 0))) := (hbt.block _ sZ6 (by intro e; injection e; omega)).trans xZ6.out
            have hbw : Below w.heap.size w wr := But.below hbw6 hbt (by omega) (by omega)
            have sZ : w.heap.size + 2 < wr.heap.size := (Array.getElem?_eq_some_iff.1 hz.out).1
            have hc3 := cut_all Tryd.underlying24 Tryd.sizeByte P4 0 (by decide)
            clear hM hbt x5 xZ6 hbw6
            go_wp2_with fail
            refine (rmod_any wr (some ⟨P4, 0, none⟩) 32 32 u (byt_row hg.out) hul.out (by decide)).mono ?_
            rintro e W7 ⟨r, rfl, er, hr, hb7⟩
            have HE := vlt (show r = wl (ln a + ln b) by rw [er.out, HU.out, ex.out, ey.out, ln_wl, ln_wl]; exact wl_of (by rw [← Nat.add_mod]))
            have hbw7 := below_next hbw hbw.size hb7
            have hz7 : Hid (W7.heap[w.heap.size + 1 + 1]? = some (.cells (bv z32).toArray 24 (0, 0))) := (hb7.block _ sZ).trans hz.out
            have HLS := Lib.hid (bv_size r hr.out)
            clear er HU ex ey
            go_wp2_with (with_reducible refine wpList_store_row rfl 24 (.tmp 4) (.tmp 35) rfl (w.heap.size + 1 + 1) (bv r).toArray rfl rfl 24 _ hz7.out (by rw [HLS.out]; kernel_rfl) (by rw [HLS.out]; kernel_rfl) (all_oneCell_toArray (bv_one _)) ?_)
            refine bodyPost_ret (v := .agg (bv r).toArray) (results_cell_row Tryd.results17 _ _ (w.heap.size + 1 + 1) 24 _ (0, 0) _ rfl (setRow_heap _ _ _ _ _ _ hz7.out) Tryd.underlying24 rfl (by rw [HLS.out]; kernel_rfl)) rfl ⟨r, rfl, HE, hr, below_setRow hbw7 (by omega) _⟩
    · refine step_new_word (by rfl) rfl ?_
      intro P4 W2 hP4 z4 g2 l4
      have lP4 : W.heap.size ≤ P4 := by have := hHeld.size; have := hP4.out; omega
      have t2 := g2.size
      have hB2 := below_next hHeld hHeld.size g2
      refine hK.out _ _ (hB2) (fun hHeld => ?_)
      clear hK K
      try simp only [Act.put, List.setIfInBounds_toArray, List.set_cons_zero, List.set_cons_succ]
      refine wpAnyH_ready (rs := [3, 5]) (by kernel_rfl) (by simp) ?_
      refine AllReadyH.cons (i := 3) (o := ⟨(some 12), _, _, _, _, _⟩) rfl (fun K hK => ?_) (AllReadyH.cons (i := 5) (o := ⟨(some 6), _, _, _, _, _⟩) rfl (fun K hK => ?_) AllReadyH.nil)
      · go_simp
        refine (rmod_any _ (some ⟨(w.heap.size + 1), 0, none⟩) 32 32 b (byt_row ((hHeld.block _ sB).trans hgB.out)) HB.out (by decide)).mono ?_
        rintro e W3 ⟨y, rfl, ey, hy, g3⟩
        have t3 := g3.size
        have hB3 := below_next hHeld hHeld.size g3
        refine hK.out _ _ (hB3) (fun hHeld => ?_)
        clear hK K
        try simp only [Act.put, List.setIfInBounds_toArray, List.set_cons_zero, List.set_cons_succ]
        refine wpAnyH_ready (rs := [5]) (by kernel_rfl) (by simp) ?_
        refine AllReadyH.cons (i := 5) (o := ⟨(some 6), _, _, _, _, _⟩) rfl (fun K hK => ?_) AllReadyH.nil
        refine step_new_word (by rfl) rfl ?_
        intro P5 W4 hP5 z5 g4 l5
        have lP5 : W.heap.size ≤ P5 := by have := hHeld.size; have := hP5.out; omega
        have t4 := g4.size
        have hB4 := below_next hHeld hHeld.size g4
        refine hK.out _ _ (hB4) (fun hHeld => ?_)
        clear hK K
        try simp only [Act.put, List.setIfInBounds_toArray, List.set_cons_zero, List.set_cons_succ]
        refine wpAnyH_ready (rs := [6]) (by kernel_rfl) (by simp) ?_
        refine AllReadyH.cons (i := 6) (o := ⟨none, _, _, _, _, _⟩) rfl (fun K hK => ?_) AllReadyH.nil
        have hne : P4 ≠ P5 := by have := hP4.out; have := hP5.out; omega
        have HXS := Lib.hid (bv_size x hx.out)
        have HYS := Lib.hid (bv_size y hy.out)
        refine step_store_row rfl 24 (.tmp 5) (.tmp 10) rfl P4 (bv x).toArray rfl rfl 24 _ ((row_next (row_next z4 g3) g4)).out (by rw [HXS.out]; kernel_rfl) (by rw [HXS.out]; kernel_rfl) (all_oneCell_toArray (bv_one _)) ?_
        have y4 : Hid ((W4.setRow P4 (bv x).toArray).heap[P4]? = some (.cells (bv x).toArray 24 (0, 0))) := setRow_heap _ _ _ _ _ _ ((row_next (row_next z4 g3) g4)).out
        have y5 : Hid ((W4.setRow P4 (bv x).toArray).heap[P5]? = some (.cells (bv z32).toArray 24 (0, 0))) := (setRow_other _ _ _ _ (Ne.symm hne)).trans (z5).out
        have hB5 := below_setRow hHeld lP4 (bv x).toArray
        generalize W4.setRow P4 (bv x).toArray = W5 at *
        refine hK.out _ _ (hB5) (fun hHeld => ?_)
        clear hK K
        try simp only [Act.put]
        refine wpAnyH_ready (rs := [7]) (by kernel_rfl) (by simp) ?_
        refine AllReadyH.cons (i := 7) (o := ⟨none, _, _, _, _, _⟩) rfl (fun K hK => ?_) AllReadyH.nil
        refine step_store_row rfl 24 (.tmp 6) (.tmp 12) rfl P5 (bv y).toArray rfl rfl 24 _ y5.out (by rw [HYS.out]; kernel_rfl) (by rw [HYS.out]; kernel_rfl) (all_oneCell_toArray (bv_one _)) ?_
        have x5 : Hid ((W5.setRow P5 (bv y).toArray).heap[P5]? = some (.cells (bv y).toArray 24 (0, 0))) := setRow_heap _ _ _ _ _ _ y5.out
        have x4 : Hid ((W5.setRow P5 (bv y).toArray).heap[P4]? = some (.cells (bv x).toArray 24 (0, 0))) := (setRow_other _ _ _ _ hne).trans y4.out
        have hB6 := below_setRow hHeld lP5 (bv y).toArray
        generalize W5.setRow P5 (bv y).toArray = W6 at *
        refine hK.out _ _ (hB6) (fun hHeld => ?_)
        clear hK K
        try simp only [Act.put]
        refine wpAnyH_done (by kernel_rfl) ?_ _
        have hbw6 := below_next hbW hbW.size hHeld
        have xZ6 := Lib.hid ((hHeld.block _ sZ).trans hgZ.out)
        have sZ6 : w.heap.size + 2 < W6.heap.size := (Array.getElem?_eq_some_iff.1 xZ6.out).1
        have s4 : P4 < W6.heap.size := (Array.getElem?_eq_some_iff.1 x4.out).1
        have s5 : P5 < W6.heap.size := (Array.getElem?_eq_some_iff.1 x5.out).1
        clear hHeld hB6 g1 g2 g3 g4 hB1 hB2 hB3 hB4 hB5 z4 z5 hP4 hP5 l4 l5 y4 y5 t1 t2 t3 t4
        go_wp2_with fail
        go_loopw [7, 8] (fun cc s wr => ∃ (k c : Nat) (u : List UInt8), k ≤ 32 ∧ s = .int .i64 (k : Int) ∧ cc = .int .i64 (c : Int) ∧ c ≤ 1 ∧ Hid (wr.heap[P4]? = some (.cells (bv u).toArray 24 (0, 0))) ∧ Vlt (Pls x y u k c) ∧ But P4 W6 wr) (fun _ s _ => 32 - (intOf s).toNat)
        case atStart => exact ⟨0, 0, x, by omega, rfl, rfl, by decide, x4, vlt (Pls.first hx.out), But.refl _ _⟩
        case round =>
          clear x4
          obtain ⟨k, c, u, hk, rfl, rfl, hc, hg, hM, hbt⟩ := hrel
          by_cases hlt : k < 32
          · have gy : wr.heap[P5]? = some (.cells (bv y).toArray 24 (0, 0)) := (hbt.block _ s5 (by intro e; injection e; omega)).trans x5.out
            have hul := Lib.hid hM.out.len
            have c0 := nb_cell hg.out (show k < u.length by rw [hul.out]; exact hlt)
            rw [hM.out.rest k (Nat.le_refl _)] at c0
            have c1 := nb_cell gy (show k < y.length by rw [hy.out]; exact hlt)
            have lx := nb_lt x k
            have ly := nb_lt y k
            have hst := vlt (hM.out.step hy.out hlt)
            have f0 : wr.frozen? ⟨P4, k, none⟩ = false := frozen_of_row _ _ _ _ _ hg.out
            have lv : (c + nb x k + nb y k) % 256 < 256 := by omega
            have lt : (c + nb x k + nb y k) / 256 ≤ 1 := by omega
            generalize nb x k = xk at *
            generalize nb y k = yk at *
            have hw1 : IntKind.i64.wrap ((c : Int) + (xk : Int)) = (c : Int) + (xk : Int) := IntWalk.i64_in _ (by omega)
            have hw2 : IntKind.i64.wrap ((c : Int) + (xk : Int) + (yk : Int)) = ((c + xk + yk : Nat) : Int) := by rw [show (c : Int) + (xk : Int) + (yk : Int) = ((c + xk + yk : Nat) : Int) by omega]; exact IntWalk.i64_in _ (by omega)
            have lN : c + xk + yk < 1000 := by omega
            generalize c + xk + yk = N at *
            have ev : (N : Int) % 256 = ((N % 256 : Nat) : Int) := by omega
            have ed : (N : Int) / 256 = ((N / 256 : Nat) : Int) := by omega
            have hset := world_set_cell hg.out k (.int .u8 ((N % 256 : Nat) : Int))
            rw [bv_put _ _ _ lv] at hset
            have hb2 := hbt.set (i := k) (.int .u8 ((N % 256 : Nat) : Int))
            generalize N % 256 = v at *
            generalize N / 256 = d at *
            clear gy hM
            go_wp2_with fail
            go_region
            go_wp2_with fail
            go_roundw
            case rel => exact ⟨k + 1, d, _, by omega, by go_num, rfl, lt, hset, hst, hb2.drew⟩
            case measure => simp [intOf]; omega
          · obtain rfl : k = 32 := by omega
            have HU := vlt (hM.out.all hy.out (by rw [ex.out, ln_wl]; exact Nat.mod_lt _ fl_pos) (by rw [ey.out, ln_wl]; exact Nat.mod_lt _ fl_pos))
            have hul := Lib.hid hM.out.len
            have hz : Hid (wr.heap[w.heap.size + 2]? = some (.cells (bv z32).toArray 24 (0, 0))) := (hbt.block _ sZ6 (by intro e; injection e; omega)).trans xZ6.out
            have hbw : Below w.heap.size w wr := But.below hbw6 hbt (by omega) (by omega)
            have sZ : w.heap.size + 2 < wr.heap.size := (Array.getElem?_eq_some_iff.1 hz.out).1
            have hc3 := cut_all Tryd.underlying24 Tryd.sizeByte P4 0 (by decide)
            clear hM hbt x5 xZ6 hbw6
            go_wp2_with fail
            refine (rmod_any wr (some ⟨P4, 0, none⟩) 32 32 u (byt_row hg.out) hul.out (by decide)).mono ?_
            rintro e W7 ⟨r, rfl, er, hr, hb7⟩
            have HE := vlt (show r = wl (ln a + ln b) by rw [er.out, HU.out, ex.out, ey.out, ln_wl, ln_wl]; exact wl_of (by rw [← Nat.add_mod]))
            have hbw7 := below_next hbw hbw.size hb7
            have hz7 : Hid (W7.heap[w.heap.size + 1 + 1]? = some (.cells (bv z32).toArray 24 (0, 0))) := (hb7.block _ sZ).trans hz.out
            have HLS := Lib.hid (bv_size r hr.out)
            clear er HU ex ey
            go_wp2_with (with_reducible refine wpList_store_row rfl 24 (.tmp 4) (.tmp 35) rfl (w.heap.size + 1 + 1) (bv r).toArray rfl rfl 24 _ hz7.out (by rw [HLS.out]; kernel_rfl) (by rw [HLS.out]; kernel_rfl) (all_oneCell_toArray (bv_one _)) ?_)
            refine bodyPost_ret (v := .agg (bv r).toArray) (results_cell_row Tryd.results17 _ _ (w.heap.size + 1 + 1) 24 _ (0, 0) _ rfl (setRow_heap _ _ _ _ _ _ hz7.out) Tryd.underlying24 rfl (by rw [HLS.out]; kernel_rfl)) rfl ⟨r, rfl, HE, hr, below_setRow hbw7 (by omega) _⟩
      · refine step_new_word (by rfl) rfl ?_
        intro P5 W3 hP5 z5 g3 l5
        have lP5 : W.heap.size ≤ P5 := by have := hHeld.size; have := hP5.out; omega
        have t3 := g3.size
        have hB3 := below_next hHeld hHeld.size g3
        refine hK.out _ _ (hB3) (fun hHeld => ?_)
        clear hK K
        try simp only [Act.put, List.setIfInBounds_toArray, List.set_cons_zero, List.set_cons_succ]
        refine wpAnyH_ready (rs := [3]) (by kernel_rfl) (by simp) ?_
        refine AllReadyH.cons (i := 3) (o := ⟨(some 12), _, _, _, _, _⟩) rfl (fun K hK => ?_) AllReadyH.nil
        go_simp
        refine (rmod_any _ (some ⟨(w.heap.size + 1), 0, none⟩) 32 32 b (byt_row ((hHeld.block _ sB).trans hgB.out)) HB.out (by decide)).mono ?_
        rintro e W4 ⟨y, rfl, ey, hy, g4⟩
        have t4 := g4.size
        have hB4 := below_next hHeld hHeld.size g4
        refine hK.out _ _ (hB4) (fun hHeld => ?_)
        clear hK K
        try simp only [Act.put, List.setIfInBounds_toArray, List.set_cons_zero, List.set_cons_succ]
        refine wpAnyH_ready (rs := [6]) (by kernel_rfl) (by simp) ?_
        refine AllReadyH.cons (i := 6) (o := ⟨none, _, _, _, _, _⟩) rfl (fun K hK => ?_) AllReadyH.nil
        have hne : P4 ≠ P5 := by have := hP4.out; have := hP5.out; omega
        have HXS := Lib.hid (bv_size x hx.out)
        have HYS := Lib.hid (bv_size y hy.out)
        refine step_store_row rfl 24 (.tmp 5) (.tmp 10) rfl P4 (bv x).toArray rfl rfl 24 _ ((row_next (row_next z4 g3) g4)).out (by rw [HXS.out]; kernel_rfl) (by rw [HXS.out]; kernel_rfl) (all_oneCell_toArray (bv_one _)) ?_
        have y4 : Hid ((W4.setRow P4 (bv x).toArray).heap[P4]? = some (.cells (bv x).toArray 24 (0, 0))) := setRow_heap _ _ _ _ _ _ ((row_next (row_next z4 g3) g4)).out
        have y5 : Hid ((W4.setRow P4 (bv x).toArray).heap[P5]? = some (.cells (bv z32).toArray 24 (0, 0))) := (setRow_other _ _ _ _ (Ne.symm hne)).trans ((row_next z5 g4)).out
        have hB5 := below_setRow hHeld lP4 (bv x).toArray
        generalize W4.setRow P4 (bv x).toArray = W5 at *
        refine hK.out _ _ (hB5) (fun hHeld => ?_)
        clear hK K
        try simp only [Act.put]
        refine wpAnyH_ready (rs := [7]) (by kernel_rfl) (by simp) ?_
        refine AllReadyH.cons (i := 7) (o := ⟨none, _, _, _, _, _⟩) rfl (fun K hK => ?_) AllReadyH.nil
        refine step_store_row rfl 24 (.tmp 6) (.tmp 12) rfl P5 (bv y).toArray rfl rfl 24 _ y5.out (by rw [HYS.out]; kernel_rfl) (by rw [HYS.out]; kernel_rfl) (all_oneCell_toArray (bv_one _)) ?_
        have x5 : Hid ((W5.setRow P5 (bv y).toArray).heap[P5]? = some (.cells (bv y).toArray 24 (0, 0))) := setRow_heap _ _ _ _ _ _ y5.out
        have x4 : Hid ((W5.setRow P5 (bv y).toArray).heap[P4]? = some (.cells (bv x).toArray 24 (0, 0))) := (setRow_other _ _ _ _ hne).trans y4.out
        have hB6 := below_setRow hHeld lP5 (bv y).toArray
        generalize W5.setRow P5 (bv y).toArray = W6 at *
        refine hK.out _ _ (hB6) (fun hHeld => ?_)
        clear hK K
        try simp only [Act.put]
        refine wpAnyH_done (by kernel_rfl) ?_ _
        have hbw6 := below_next hbW hbW.size hHeld
        have xZ6 := Lib.hid ((hHeld.block _ sZ).trans hgZ.out)
        have sZ6 : w.heap.size + 2 < W6.heap.size := (Array.getElem?_eq_some_iff.1 xZ6.out).1
        have s4 : P4 < W6.heap.size := (Array.getElem?_eq_some_iff.1 x4.out).1
        have s5 : P5 < W6.heap.size := (Array.getElem?_eq_some_iff.1 x5.out).1
        clear hHeld hB6 g1 g2 g3 g4 hB1 hB2 hB3 hB4 hB5 z4 z5 hP4 hP5 l4 l5 y4 y5 t1 t2 t3 t4
        go_wp2_with fail
        go_loopw [7, 8] (fun cc s wr => ∃ (k c : Nat) (u : List UInt8), k ≤ 32 ∧ s = .int .i64 (k : Int) ∧ cc = .int .i64 (c : Int) ∧ c ≤ 1 ∧ Hid (wr.heap[P4]? = some (.cells (bv u).toArray 24 (0, 0))) ∧ Vlt (Pls x y u k c) ∧ But P4 W6 wr) (fun _ s _ => 32 - (intOf s).toNat)
        case atStart => exact ⟨0, 0, x, by omega, rfl, rfl, by decide, x4, vlt (Pls.first hx.out), But.refl _ _⟩
        case round =>
          clear x4
          obtain ⟨k, c, u, hk, rfl, rfl, hc, hg, hM, hbt⟩ := hrel
          by_cases hlt : k < 32
          · have gy : wr.heap[P5]? = some (.cells (bv y).toArray 24 (0, 0)) := (hbt.block _ s5 (by intro e; injection e; omega)).trans x5.out
            have hul := Lib.hid hM.out.len
            have c0 := nb_cell hg.out (show k < u.length by rw [hul.out]; exact hlt)
            rw [hM.out.rest k (Nat.le_refl _)] at c0
            have c1 := nb_cell gy (show k < y.length by rw [hy.out]; exact hlt)
            have lx := nb_lt x k
            have ly := nb_lt y k
            have hst := vlt (hM.out.step hy.out hlt)
            have f0 : wr.frozen? ⟨P4, k, none⟩ = false := frozen_of_row _ _ _ _ _ hg.out
            have lv : (c + nb x k + nb y k) % 256 < 256 := by omega
            have lt : (c + nb x k + nb y k) / 256 ≤ 1 := by omega
            generalize nb x k = xk at *
            generalize nb y k = yk at *
            have hw1 : IntKind.i64.wrap ((c : Int) + (xk : Int)) = (c : Int) + (xk : Int) := IntWalk.i64_in _ (by omega)
            have hw2 : IntKind.i64.wrap ((c : Int) + (xk : Int) + (yk : Int)) = ((c + xk + yk : Nat) : Int) := by rw [show (c : Int) + (xk : Int) + (yk : Int) = ((c + xk + yk : Nat) : Int) by omega]; exact IntWalk.i64_in _ (by omega)
            have lN : c + xk + yk < 1000 := by omega
            generalize c + xk + yk = N at *
            have ev : (N : Int) % 256 = ((N % 256 : Nat) : Int) := by omega
            have ed : (N : Int) / 256 = ((N / 256 : Nat) : Int) := by omega
            have hset := world_set_cell hg.out k (.int .u8 ((N % 256 : Nat) : Int))
            rw [bv_put _ _ _ lv] at hset
            have hb2 := hbt.set (i := k) (.int .u8 ((N % 256 : Nat) : Int))
            generalize N % 256 = v at *
            generalize N / 256 = d at *
            clear gy hM
            go_wp2_with fail
            go_region
            go_wp2_with fail
            go_roundw
            case rel => exact ⟨k + 1, d, _, by omega, by go_num, rfl, lt, hset, hst, hb2.drew⟩
            case measure => simp [intOf]; omega
          · obtain rfl : k = 32 := by omega
            have HU := vlt (hM.out.all hy.out (by rw [ex.out, ln_wl]; exact Nat.mod_lt _ fl_pos) (by rw [ey.out, ln_wl]; exact Nat.mod_lt _ fl_pos))
            have hul := Lib.hid hM.out.len
            have hz : Hid (wr.heap[w.heap.size + 2]? = some (.cells (bv z32).toArray 24 (0, 0))) := (hbt.block _ sZ6 (by intro e; injection e; omega)).trans xZ6.out
            have hbw : Below w.heap.size w wr := But.below hbw6 hbt (by omega) (by omega)
            have sZ : w.heap.size + 2 < wr.heap.size := (Array.getElem?_eq_some_iff.1 hz.out).1
            have hc3 := cut_all Tryd.underlying24 Tryd.sizeByte P4 0 (by decide)
            clear hM hbt x5 xZ6 hbw6
            go_wp2_with fail
            refine (rmod_any wr (some ⟨P4, 0, none⟩) 32 32 u (byt_row hg.out) hul.out (by decide)).mono ?_
            rintro e W7 ⟨r, rfl, er, hr, hb7⟩
            have HE := vlt (show r = wl (ln a + ln b) by rw [er.out, HU.out, ex.out, ey.out, ln_wl, ln_wl]; exact wl_of (by rw [← Nat.add_mod]))
            have hbw7 := below_next hbw hbw.size hb7
            have hz7 : Hid (W7.heap[w.heap.size + 1 + 1]? = some (.cells (bv z32).toArray 24 (0, 0))) := (hb7.block _ sZ).trans hz.out
            have HLS := Lib.hid (bv_size r hr.out)
            clear er HU ex ey
            go_wp2_with (with_reducible refine wpList_store_row rfl 24 (.tmp 4) (.tmp 35) rfl (w.heap.size + 1 + 1) (bv r).toArray rfl rfl 24 _ hz7.out (by rw [HLS.out]; kernel_rfl) (by rw [HLS.out]; kernel_rfl) (all_oneCell_toArray (bv_one _)) ?_)
            refine bodyPost_ret (v := .agg (bv r).toArray) (results_cell_row Tryd.results17 _ _ (w.heap.size + 1 + 1) 24 _ (0, 0) _ rfl (setRow_heap _ _ _ _ _ _ hz7.out) Tryd.underlying24 rfl (by rw [HLS.out]; kernel_rfl)) rfl ⟨r, rfl, HE, hr, below_setRow hbw7 (by omega) _⟩
    · refine step_new_word (by rfl) rfl ?_
      intro P5 W2 hP5 z5 g2 l5
      have lP5 : W.heap.size ≤ P5 := by have := hHeld.size; have := hP5.out; omega
      have t2 := g2.size
      have hB2 := below_next hHeld hHeld.size g2
      refine hK.out _ _ (hB2) (fun hHeld => ?_)
      clear hK K
      try simp only [Act.put, List.setIfInBounds_toArray, List.set_cons_zero, List.set_cons_succ]
      refine wpAnyH_ready (rs := [3, 4]) (by kernel_rfl) (by simp) ?_
      refine AllReadyH.cons (i := 3) (o := ⟨(some 12), _, _, _, _, _⟩) rfl (fun K hK => ?_) (AllReadyH.cons (i := 4) (o := ⟨(some 5), _, _, _, _, _⟩) rfl (fun K hK => ?_) AllReadyH.nil)
      · go_simp
        refine (rmod_any _ (some ⟨(w.heap.size + 1), 0, none⟩) 32 32 b (byt_row ((hHeld.block _ sB).trans hgB.out)) HB.out (by decide)).mono ?_
        rintro e W3 ⟨y, rfl, ey, hy, g3⟩
        have t3 := g3.size
        have hB3 := below_next hHeld hHeld.size g3
        refine hK.out _ _ (hB3) (fun hHeld => ?_)
        clear hK K
        try simp only [Act.put, List.setIfInBounds_toArray, List.set_cons_zero, List.set_cons_succ]
        refine wpAnyH_ready (rs := [4]) (by kernel_rfl) (by simp) ?_
        refine AllReadyH.cons (i := 4) (o := ⟨(some 5), _, _, _, _, _⟩) rfl (fun K hK => ?_) AllReadyH.nil
        refine step_new_word (by rfl) rfl ?_
        intro P4 W4 hP4 z4 g4 l4
        have lP4 : W.heap.size ≤ P4 := by have := hHeld.size; have := hP4.out; omega
        have t4 := g4.size
        have hB4 := below_next hHeld hHeld.size g4
        refine hK.out _ _ (hB4) (fun hHeld => ?_)
        clear hK K
        try simp only [Act.put, List.setIfInBounds_toArray, List.set_cons_zero, List.set_cons_succ]
        refine wpAnyH_ready (rs := [6]) (by kernel_rfl) (by simp) ?_
        refine AllReadyH.cons (i := 6) (o := ⟨none, _, _, _, _, _⟩) rfl (fun K hK => ?_) AllReadyH.nil
        have hne : P4 ≠ P5 := by have := hP4.out; have := hP5.out; omega
        have HXS := Lib.hid (bv_size x hx.out)
        have HYS := Lib.hid (bv_size y hy.out)
        refine step_store_row rfl 24 (.tmp 5) (.tmp 10) rfl P4 (bv x).toArray rfl rfl 24 _ (z4).out (by rw [HXS.out]; kernel_rfl) (by rw [HXS.out]; kernel_rfl) (all_oneCell_toArray (bv_one _)) ?_
        have y4 : Hid ((W4.setRow P4 (bv x).toArray).heap[P4]? = some (.cells (bv x).toArray 24 (0, 0))) := setRow_heap _ _ _ _ _ _ (z4).out
        have y5 : Hid ((W4.setRow P4 (bv x).toArray).heap[P5]? = some (.cells (bv z32).toArray 24 (0, 0))) := (setRow_other _ _ _ _ (Ne.symm hne)).trans ((row_next (row_next z5 g3) g4)).out
        have hB5 := below_setRow hHeld lP4 (bv x).toArray
        generalize W4.setRow P4 (bv x).toArray = W5 at *
        refine hK.out _ _ (hB5) (fun hHeld => ?_)
        clear hK K
        try simp only [Act.put]
        refine wpAnyH_ready (rs := [7]) (by kernel_rfl) (by simp) ?_
        refine AllReadyH.cons (i := 7) (o := ⟨none, _, _, _, _, _⟩) rfl (fun K hK => ?_) AllReadyH.nil
        refine step_store_row rfl 24 (.tmp 6) (.tmp 12) rfl P5 (bv y).toArray rfl rfl 24 _ y5.out (by rw [HYS.out]; kernel_rfl) (by rw [HYS.out]; kernel_rfl) (all_oneCell_toArray (bv_one _)) ?_
        have x5 : Hid ((W5.setRow P5 (bv y).toArray).heap[P5]? = some (.cells (bv y).toArray 24 (0, 0))) := setRow_heap _ _ _ _ _ _ y5.out
        have x4 : Hid ((W5.setRow P5 (bv y).toArray).heap[P4]? = some (.cells (bv x).toArray 24 (0, 0))) := (setRow_other _ _ _ _ hne).trans y4.out
        have hB6 := below_setRow hHeld lP5 (bv y).toArray
        generalize W5.setRow P5 (bv y).toArray = W6 at *
        refine hK.out _ _ (hB6) (fun hHeld => ?_)
        clear hK K
        try simp only [Act.put]
        refine wpAnyH_done (by kernel_rfl) ?_ _
        have hbw6 := below_next hbW hbW.size hHeld
        have xZ6 := Lib.hid ((hHeld.block _ sZ).trans hgZ.out)
        have sZ6 : w.heap.size + 2 < W6.heap.size := (Array.getElem?_eq_some_iff.1 xZ6.out).1
        have s4 : P4 < W6.heap.size := (Array.getElem?_eq_some_iff.1 x4.out).1
        have s5 : P5 < W6.heap.size := (Array.getElem?_eq_some_iff.1 x5.out).1
        clear hHeld hB6 g1 g2 g3 g4 hB1 hB2 hB3 hB4 hB5 z4 z5 hP4 hP5 l4 l5 y4 y5 t1 t2 t3 t4
        go_wp2_with fail
        go_loopw [7, 8] (fun cc s wr => ∃ (k c : Nat) (u : List UInt8), k ≤ 32 ∧ s = .int .i64 (k : Int) ∧ cc = .int .i64 (c : Int) ∧ c ≤ 1 ∧ Hid (wr.heap[P4]? = some (.cells (bv u).toArray 24 (0, 0))) ∧ Vlt (Pls x y u k c) ∧ But P4 W6 wr) (fun _ s _ => 32 - (intOf s).toNat)
        case atStart => exact ⟨0, 0, x, by omega, rfl, rfl, by decide, x4, vlt (Pls.first hx.out), But.refl _ _⟩
        case round =>
          clear x4
          obtain ⟨k, c, u, hk, rfl, rfl, hc, hg, hM, hbt⟩ := hrel
          by_cases hlt : k < 32
          · have gy : wr.heap[P5]? = some (.cells (bv y).toArray 24 (0, 0)) := (hbt.block _ s5 (by intro e; injection e; omega)).trans x5.out
            have hul := Lib.hid hM.out.len
            have c0 := nb_cell hg.out (show k < u.length by rw [hul.out]; exact hlt)
            rw [hM.out.rest k (Nat.le_refl _)] at c0
            have c1 := nb_cell gy (show k < y.length by rw [hy.out]; exact hlt)
            have lx := nb_lt x k
            have ly := nb_lt y k
            have hst := vlt (hM.out.step hy.out hlt)
            have f0 : wr.frozen? ⟨P4, k, none⟩ = false := frozen_of_row _ _ _ _ _ hg.out
            have lv : (c + nb x k + nb y k) % 256 < 256 := by omega
            have lt : (c + nb x k + nb y k) / 256 ≤ 1 := by omega
            generalize nb x k = xk at *
            generalize nb y k = yk at *
            have hw1 : IntKind.i64.wrap ((c : Int) + (xk : Int)) = (c : Int) + (xk : Int) := IntWalk.i64_in _ (by omega)
            have hw2 : IntKind.i64.wrap ((c : Int) + (xk : Int) + (yk : Int)) = ((c + xk + yk : Nat) : Int) := by rw [show (c : Int) + (xk : Int) + (yk : Int) = ((c + xk + yk : Nat) : Int) by omega]; exact IntWalk.i64_in _ (by omega)
            have lN : c + xk + yk < 1000 := by omega
            generalize c + xk + yk = N at *
            have ev : (N : Int) % 256 = ((N % 256 : Nat) : Int) := by omega
            have ed : (N : Int) / 256 = ((N / 256 : Nat) : Int) := by omega
            have hset := world_set_cell hg.out k (.int .u8 ((N % 256 : Nat) : Int))
            rw [bv_put _ _ _ lv] at hset
            have hb2 := hbt.set (i := k) (.int .u8 ((N % 256 : Nat) : Int))
            generalize N % 256 = v at *
            generalize N / 256 = d at *
            clear gy hM
            go_wp2_with fail
            go_region
            go_wp2_with fail
            go_roundw
            case rel => exact ⟨k + 1, d, _, by omega, by go_num, rfl, lt, hset, hst, hb2.drew⟩
            case measure => simp [intOf]; omega
          · obtain rfl : k = 32 := by omega
            have HU := vlt (hM.out.all hy.out (by rw [ex.out, ln_wl]; exact Nat.mod_lt _ fl_pos) (by rw [ey.out, ln_wl]; exact Nat.mod_lt _ fl_pos))
            have hul := Lib.hid hM.out.len
            have hz : Hid (wr.heap[w.heap.size + 2]? = some (.cells (bv z32).toArray 24 (0, 0))) := (hbt.block _ sZ6 (by intro e; injection e; omega)).trans xZ6.out
            have hbw : Below w.heap.size w wr := But.below hbw6 hbt (by omega) (by omega)
            have sZ : w.heap.size + 2 < wr.heap.size := (Array.getElem?_eq_some_iff.1 hz.out).1
            have hc3 := cut_all Tryd.underlying24 Tryd.sizeByte P4 0 (by decide)
            clear hM hbt x5 xZ6 hbw6
            go_wp2_with fail
            refine (rmod_any wr (some ⟨P4, 0, none⟩) 32 32 u (byt_row hg.out) hul.out (by decide)).mono ?_
            rintro e W7 ⟨r, rfl, er, hr, hb7⟩
            have HE := vlt (show r = wl (ln a + ln b) by rw [er.out, HU.out, ex.out, ey.out, ln_wl, ln_wl]; exact wl_of (by rw [← Nat.add_mod]))
            have hbw7 := below_next hbw hbw.size hb7
            have hz7 : Hid (W7.heap[w.heap.size + 1 + 1]? = some (.cells (bv z32).toArray 24 (0, 0))) := (hb7.block _ sZ).trans hz.out
            have HLS := Lib.hid (bv_size r hr.out)
            clear er HU ex ey
            go_wp2_with (with_reducible refine wpList_store_row rfl 24 (.tmp 4) (.tmp 35) rfl (w.heap.size + 1 + 1) (bv r).toArray rfl rfl 24 _ hz7.out (by rw [HLS.out]; kernel_rfl) (by rw [HLS.out]; kernel_rfl) (all_oneCell_toArray (bv_one _)) ?_)
            refine bodyPost_ret (v := .agg (bv r).toArray) (results_cell_row Tryd.results17 _ _ (w.heap.size + 1 + 1) 24 _ (0, 0) _ rfl (setRow_heap _ _ _ _ _ _ hz7.out) Tryd.underlying24 rfl (by rw [HLS.out]; kernel_rfl)) rfl ⟨r, rfl, HE, hr, below_setRow hbw7 (by omega) _⟩
      · refine step_new_word (by rfl) rfl ?_
        intro P4 W3 hP4 z4 g3 l4
        have lP4 : W.heap.size ≤ P4 := by have := hHeld.size; have := hP4.out; omega
        have t3 := g3.size
        have hB3 := below_next hHeld hHeld.size g3
        refine hK.out _ _ (hB3) (fun hHeld => ?_)
        clear hK K
        try simp only [Act.put, List.setIfInBounds_toArray, List.set_cons_zero, List.set_cons_succ]
        refine wpAnyH_ready (rs := [3]) (by kernel_rfl) (by simp) ?_
        refine AllReadyH.cons (i := 3) (o := ⟨(some 12), _, _, _, _, _⟩) rfl (fun K hK => ?_) AllReadyH.nil
        go_simp
        refine (rmod_any _ (some ⟨(w.heap.size + 1), 0, none⟩) 32 32 b (byt_row ((hHeld.block _ sB).trans hgB.out)) HB.out (by decide)).mono ?_
        rintro e W4 ⟨y, rfl, ey, hy, g4⟩
        have t4 := g4.size
        have hB4 := below_next hHeld hHeld.size g4
        refine hK.out _ _ (hB4) (fun hHeld => ?_)
        clear hK K
        try simp only [Act.put, List.setIfInBounds_toArray, List.set_cons_zero, List.set_cons_succ]
        refine wpAnyH_ready (rs := [6]) (by kernel_rfl) (by simp) ?_
        refine AllReadyH.cons (i := 6) (o := ⟨none, _, _, _, _, _⟩) rfl (fun K hK => ?_) AllReadyH.nil
        have hne : P4 ≠ P5 := by have := hP4.out; have := hP5.out; omega
        have HXS := Lib.hid (bv_size x hx.out)
        have HYS := Lib.hid (bv_size y hy.out)
        refine step_store_row rfl 24 (.tmp 5) (.tmp 10) rfl P4 (bv x).toArray rfl rfl 24 _ ((row_next z4 g4)).out (by rw [HXS.out]; kernel_rfl) (by rw [HXS.out]; kernel_rfl) (all_oneCell_toArray (bv_one _)) ?_
        have y4 : Hid ((W4.setRow P4 (bv x).toArray).heap[P4]? = some (.cells (bv x).toArray 24 (0, 0))) := setRow_heap _ _ _ _ _ _ ((row_next z4 g4)).out
        have y5 : Hid ((W4.setRow P4 (bv x).toArray).heap[P5]? = some (.cells (bv z32).toArray 24 (0, 0))) := (setRow_other _ _ _ _ (Ne.symm hne)).trans ((row_next (row_next z5 g3) g4)).out
        have hB5 := below_setRow hHeld lP4 (bv x).toArray
        generalize W4.setRow P4 (bv x).toArray = W5 at *
        refine hK.out _ _ (hB5) (fun hHeld => ?_)
        clear hK K
        try simp only [Act.put]
        refine wpAnyH_ready (rs := [7]) (by kernel_rfl) (by simp) ?_
        refine AllReadyH.cons (i := 7) (o := ⟨none, _, _, _, _, _⟩) rfl (fun K hK => ?_) AllReadyH.nil
        refine step_store_row rfl 24 (.tmp 6) (.tmp 12) rfl P5 (bv y).toArray rfl rfl 24 _ y5.out (by rw [HYS.out]; kernel_rfl) (by rw [HYS.out]; kernel_rfl) (all_oneCell_toArray (bv_one _)) ?_
        have x5 : Hid ((W5.setRow P5 (bv y).toArray).heap[P5]? = some (.cells (bv y).toArray 24 (0, 0))) := setRow_heap _ _ _ _ _ _ y5.out
        have x4 : Hid ((W5.setRow P5 (bv y).toArray).heap[P4]? = some (.cells (bv x).toArray 24 (0, 0))) := (setRow_other _ _ _ _ hne).trans y4.out
        have hB6 := below_setRow hHeld lP5 (bv y).toArray
        generalize W5.setRow P5 (bv y).toArray = W6 at *
        refine hK.out _ _ (hB6) (fun hHeld => ?_)
        clear hK K
        try simp only [Act.put]
        refine wpAnyH_done (by kernel_rfl) ?_ _
        have hbw6 := below_next hbW hbW.size hHeld
        have xZ6 := Lib.hid ((hHeld.block _ sZ).trans hgZ.out)
        have sZ6 : w.heap.size + 2 < W6.heap.size := (Array.getElem?_eq_some_iff.1 xZ6.out).1
        have s4 : P4 < W6.heap.size := (Array.getElem?_eq_some_iff.1 x4.out).1
        have s5 : P5 < W6.heap.size := (Array.getElem?_eq_some_iff.1 x5.out).1
        clear hHeld hB6 g1 g2 g3 g4 hB1 hB2 hB3 hB4 hB5 z4 z5 hP4 hP5 l4 l5 y4 y5 t1 t2 t3 t4
        go_wp2_with fail
        go_loopw [7, 8] (fun cc s wr => ∃ (k c : Nat) (u : List UInt8), k ≤ 32 ∧ s = .int .i64 (k : Int) ∧ cc = .int .i64 (c : Int) ∧ c ≤ 1 ∧ Hid (wr.heap[P4]? = some (.cells (bv u).toArray 24 (0, 0))) ∧ Vlt (Pls x y u k c) ∧ But P4 W6 wr) (fun _ s _ => 32 - (intOf s).toNat)
        case atStart => exact ⟨0, 0, x, by omega, rfl, rfl, by decide, x4, vlt (Pls.first hx.out), But.refl _ _⟩
        case round =>
          clear x4
          obtain ⟨k, c, u, hk, rfl, rfl, hc, hg, hM, hbt⟩ := hrel
          by_cases hlt : k < 32
          · have gy : wr.heap[P5]? = some (.cells (bv y).toArray 24 (0, 0)) := (hbt.block _ s5 (by intro e; injection e; omega)).trans x5.out
            have hul := Lib.hid hM.out.len
            have c0 := nb_cell hg.out (show k < u.length by rw [hul.out]; exact hlt)
            rw [hM.out.rest k (Nat.le_refl _)] at c0
            have c1 := nb_cell gy (show k < y.length by rw [hy.out]; exact hlt)
            have lx := nb_lt x k
            have ly := nb_lt y k
            have hst := vlt (hM.out.step hy.out hlt)
            have f0 : wr.frozen? ⟨P4, k, none⟩ = false := frozen_of_row _ _ _ _ _ hg.out
            have lv : (c + nb x k + nb y k) % 256 < 256 := by omega
            have lt : (c + nb x k + nb y k) / 256 ≤ 1 := by omega
            generalize nb x k = xk at *
            generalize nb y k = yk at *
            have hw1 : IntKind.i64.wrap ((c : Int) + (xk : Int)) = (c : Int) + (xk : Int) := IntWalk.i64_in _ (by omega)
            have hw2 : IntKind.i64.wrap ((c : Int) + (xk : Int) + (yk : Int)) = ((c + xk + yk : Nat) : Int) := by rw [show (c : Int) + (xk : Int) + (yk : Int) = ((c + xk + yk : Nat) : Int) by omega]; exact IntWalk.i64_in _ (by omega)
            have lN : c + xk + yk < 1000 := by omega
            generalize c + xk + yk = N at *
            have ev : (N : Int) % 256 = ((N % 256 : Nat) : Int) := by omega
            have ed : (N : Int) / 256 = ((N / 256 : Nat) : Int) := by omega
            have hset := world_set_cell hg.out k (.int .u8 ((N % 256 : Nat) : Int))
            rw [bv_put _ _ _ lv] at hset
            have hb2 := hbt.set (i := k) (.int .u8 ((N % 256 : Nat) : Int))
            generalize N % 256 = v at *
            generalize N / 256 = d at *
            clear gy hM
            go_wp2_with fail
            go_region
            go_wp2_with fail
            go_roundw
            case rel => exact ⟨k + 1, d, _, by omega, by go_num, rfl, lt, hset, hst, hb2.drew⟩
            case measure => simp [intOf]; omega
          · obtain rfl : k = 32 := by omega
            have HU := vlt (hM.out.all hy.out (by rw [ex.out, ln_wl]; exact Nat.mod_lt _ fl_pos) (by rw [ey.out, ln_wl]; exact Nat.mod_lt _ fl_pos))
            have hul := Lib.hid hM.out.len
            have hz : Hid (wr.heap[w.heap.size + 2]? = some (.cells (bv z32).toArray 24 (0, 0))) := (hbt.block _ sZ6 (by intro e; injection e; omega)).trans xZ6.out
            have hbw : Below w.heap.size w wr := But.below hbw6 hbt (by omega) (by omega)
            have sZ : w.heap.size + 2 < wr.heap.size := (Array.getElem?_eq_some_iff.1 hz.out).1
            have hc3 := cut_all Tryd.underlying24 Tryd.sizeByte P4 0 (by decide)
            clear hM hbt x5 xZ6 hbw6
            go_wp2_with fail
            refine (rmod_any wr (some ⟨P4, 0, none⟩) 32 32 u (byt_row hg.out) hul.out (by decide)).mono ?_
            rintro e W7 ⟨r, rfl, er, hr, hb7⟩
            have HE := vlt (show r = wl (ln a + ln b) by rw [er.out, HU.out, ex.out, ey.out, ln_wl, ln_wl]; exact wl_of (by rw [← Nat.add_mod]))
            have hbw7 := below_next hbw hbw.size hb7
            have hz7 : Hid (W7.heap[w.heap.size + 1 + 1]? = some (.cells (bv z32).toArray 24 (0, 0))) := (hb7.block _ sZ).trans hz.out
            have HLS := Lib.hid (bv_size r hr.out)
            clear er HU ex ey
            go_wp2_with (with_reducible refine wpList_store_row rfl 24 (.tmp 4) (.tmp 35) rfl (w.heap.size + 1 + 1) (bv r).toArray rfl rfl 24 _ hz7.out (by rw [HLS.out]; kernel_rfl) (by rw [HLS.out]; kernel_rfl) (all_oneCell_toArray (bv_one _)) ?_)
            refine bodyPost_ret (v := .agg (bv r).toArray) (results_cell_row Tryd.results17 _ _ (w.heap.size + 1 + 1) 24 _ (0, 0) _ rfl (setRow_heap _ _ _ _ _ _ hz7.out) Tryd.underlying24 rfl (by rw [HLS.out]; kernel_rfl)) rfl ⟨r, rfl, HE, hr, below_setRow hbw7 (by omega) _⟩
  · refine step_new_word (by rfl) rfl ?_
    intro P4 W1 hP4 z4 g1 l4
    have lP4 : W.heap.size ≤ P4 := by have := hHeld.size; have := hP4.out; omega
    have t1 := g1.size
    have hB1 := below_next hHeld hHeld.size g1
    refine hK.out _ _ (hB1) (fun hHeld => ?_)
    clear hK K
    try simp only [Act.put, List.setIfInBounds_toArray, List.set_cons_zero, List.set_cons_succ]
    refine wpAnyH_ready (rs := [1, 5]) (by kernel_rfl) (by simp) ?_
    refine AllReadyH.cons (i := 1) (o := ⟨(some 10), _, _, _, _, _⟩) rfl (fun K hK => ?_) (AllReadyH.cons (i := 5) (o := ⟨(some 6), _, _, _, _, _⟩) rfl (fun K hK => ?_) AllReadyH.nil)
    · go_simp
      refine (rmod_any _ (some ⟨w.heap.size, 0, none⟩) 32 32 a (byt_row ((hHeld.block _ sA).trans hgA.out)) HA.out (by decide)).mono ?_
      rintro e W2 ⟨x, rfl, ex, hx, g2⟩
      have t2 := g2.size
      have hB2 := below_next hHeld hHeld.size g2
      refine hK.out _ _ (hB2) (fun hHeld => ?_)
      clear hK K
      try simp only [Act.put, List.setIfInBounds_toArray, List.set_cons_zero, List.set_cons_succ]
      refine wpAnyH_ready (rs := [3, 5]) (by kernel_rfl) (by simp) ?_
      refine AllReadyH.cons (i := 3) (o := ⟨(some 12), _, _, _, _, _⟩) rfl (fun K hK => ?_) (AllReadyH.cons (i := 5) (o := ⟨(some 6), _, _, _, _, _⟩) rfl (fun K hK => ?_) AllReadyH.nil)
      · go_simp
        refine (rmod_any _ (some ⟨(w.heap.size + 1), 0, none⟩) 32 32 b (byt_row ((hHeld.block _ sB).trans hgB.out)) HB.out (by decide)).mono ?_
        rintro e W3 ⟨y, rfl, ey, hy, g3⟩
        have t3 := g3.size
        have hB3 := below_next hHeld hHeld.size g3
        refine hK.out _ _ (hB3) (fun hHeld => ?_)
        clear hK K
        try simp only [Act.put, List.setIfInBounds_toArray, List.set_cons_zero, List.set_cons_succ]
        refine wpAnyH_ready (rs := [5]) (by kernel_rfl) (by simp) ?_
        refine AllReadyH.cons (i := 5) (o := ⟨(some 6), _, _, _, _, _⟩) rfl (fun K hK => ?_) AllReadyH.nil
        refine step_new_word (by rfl) rfl ?_
        intro P5 W4 hP5 z5 g4 l5
        have lP5 : W.heap.size ≤ P5 := by have := hHeld.size; have := hP5.out; omega
        have t4 := g4.size
        have hB4 := below_next hHeld hHeld.size g4
        refine hK.out _ _ (hB4) (fun hHeld => ?_)
        clear hK K
        try simp only [Act.put, List.setIfInBounds_toArray, List.set_cons_zero, List.set_cons_succ]
        refine wpAnyH_ready (rs := [6]) (by kernel_rfl) (by simp) ?_
        refine AllReadyH.cons (i := 6) (o := ⟨none, _, _, _, _, _⟩) rfl (fun K hK => ?_) AllReadyH.nil
        have hne : P4 ≠ P5 := by have := hP4.out; have := hP5.out; omega
        have HXS := Lib.hid (bv_size x hx.out)
        have HYS := Lib.hid (bv_size y hy.out)
        refine step_store_row rfl 24 (.tmp 5) (.tmp 10) rfl P4 (bv x).toArray rfl rfl 24 _ ((row_next (row_next (row_next z4 g2) g3) g4)).out (by rw [HXS.out]; kernel_rfl) (by rw [HXS.out]; kernel_rfl) (all_oneCell_toArray (bv_one _)) ?_
        have y4 : Hid ((W4.setRow P4 (bv x).toArray).heap[P4]? = some (.cells (bv x).toArray 24 (0, 0))) := setRow_heap _ _ _ _ _ _ ((row_next (row_next (row_next z4 g2) g3) g4)).out
        have y5 : Hid ((W4.setRow P4 (bv x).toArray).heap[P5]? = some (.cells (bv z32).toArray 24 (0, 0))) := (setRow_other _ _ _ _ (Ne.symm hne)).trans (z5).out
        have hB5 := below_setRow hHeld lP4 (bv x).toArray
        generalize W4.setRow P4 (bv x).toArray = W5 at *
        refine hK.out _ _ (hB5) (fun hHeld => ?_)
        clear hK K
        try simp only [Act.put]
        refine wpAnyH_ready (rs := [7]) (by kernel_rfl) (by simp) ?_
        refine AllReadyH.cons (i := 7) (o := ⟨none, _, _, _, _, _⟩) rfl (fun K hK => ?_) AllReadyH.nil
        refine step_store_row rfl 24 (.tmp 6) (.tmp 12) rfl P5 (bv y).toArray rfl rfl 24 _ y5.out (by rw [HYS.out]; kernel_rfl) (by rw [HYS.out]; kernel_rfl) (all_oneCell_toArray (bv_one _)) ?_
        have x5 : Hid ((W5.setRow P5 (bv y).toArray).heap[P5]? = some (.cells (bv y).toArray 24 (0, 0))) := setRow_heap _ _ _ _ _ _ y5.out
        have x4 : Hid ((W5.setRow P5 (bv y).toArray).heap[P4]? = some (.cells (bv x).toArray 24 (0, 0))) := (setRow_other _ _ _ _ hne).trans y4.out
        have hB6 := below_setRow hHeld lP5 (bv y).toArray
        generalize W5.setRow P5 (bv y).toArray = W6 at *
        refine hK.out _ _ (hB6) (fun hHeld => ?_)
        clear hK K
        try simp only [Act.put]
        refine wpAnyH_done (by kernel_rfl) ?_ _
        have hbw6 := below_next hbW hbW.size hHeld
        have xZ6 := Lib.hid ((hHeld.block _ sZ).trans hgZ.out)
        have sZ6 : w.heap.size + 2 < W6.heap.size := (Array.getElem?_eq_some_iff.1 xZ6.out).1
        have s4 : P4 < W6.heap.size := (Array.getElem?_eq_some_iff.1 x4.out).1
        have s5 : P5 < W6.heap.size := (Array.getElem?_eq_some_iff.1 x5.out).1
        clear hHeld hB6 g1 g2 g3 g4 hB1 hB2 hB3 hB4 hB5 z4 z5 hP4 hP5 l4 l5 y4 y5 t1 t2 t3 t4
        go_wp2_with fail
        go_loopw [7, 8] (fun cc s wr => ∃ (k c : Nat) (u : List UInt8), k ≤ 32 ∧ s = .int .i64 (k : Int) ∧ cc = .int .i64 (c : Int) ∧ c ≤ 1 ∧ Hid (wr.heap[P4]? = some (.cells (bv u).toArray 24 (0, 0))) ∧ Vlt (Pls x y u k c) ∧ But P4 W6 wr) (fun _ s _ => 32 - (intOf s).toNat)
        case atStart => exact ⟨0, 0, x, by omega, rfl, rfl, by decide, x4, vlt (Pls.first hx.out), But.refl _ _⟩
        case round =>
          clear x4
          obtain ⟨k, c, u, hk, rfl, rfl, hc, hg, hM, hbt⟩ := hrel
          by_cases hlt : k < 32
          · have gy : wr.heap[P5]? = some (.cells (bv y).toArray 24 (0, 0)) := (hbt.block _ s5 (by intro e; injection e; omega)).trans x5.out
            have hul := Lib.hid hM.out.len
            have c0 := nb_cell hg.out (show k < u.length by rw [hul.out]; exact hlt)
            rw [hM.out.rest k (Nat.le_refl _)] at c0
            have c1 := nb_cell gy (show k < y.length by rw [hy.out]; exact hlt)
            have lx := nb_lt x k
            have ly := nb_lt y k
            have hst := vlt (hM.out.step hy.out hlt)
            have f0 : wr.frozen? ⟨P4, k, none⟩ = false := frozen_of_row _ _ _ _ _ hg.out
            have lv : (c + nb x k + nb y k) % 256 < 256 := by omega
            have lt : (c + nb x k + nb y k) / 256 ≤ 1 := by omega
            generalize nb x k = xk at *
            generalize nb y k = yk at *
            have hw1 : IntKind.i64.wrap ((c : Int) + (xk : Int)) = (c : Int) + (xk : Int) := IntWalk.i64_in _ (by omega)
            have hw2 : IntKind.i64.wrap ((c : Int) + (xk : Int) + (yk : Int)) = ((c + xk + yk : Nat) : Int) := by rw [show (c : Int) + (xk : Int) + (yk : Int) = ((c + xk + yk : Nat) : Int) by omega]; exact IntWalk.i64_in _ (by omega)
            have lN : c + xk + yk < 1000 := by omega
            generalize c + xk + yk = N at *
            have ev : (N : Int) % 256 = ((N % 256 : Nat) : Int) := by omega
            have ed : (N : Int) / 256 = ((N / 256 : Nat) : Int) := by omega
            have hset := world_set_cell hg.out k (.int .u8 ((N % 256 : Nat) : Int))
            rw [bv_put _ _ _ lv] at hset
            have hb2 := hbt.set (i := k) (.int .u8 ((N % 256 : Nat) : Int))
            generalize N % 256 = v at *
            generalize N / 256 = d at *
            clear gy hM
            go_wp2_with fail
            go_region
            go_wp2_with fail
            go_roundw
            case rel => exact ⟨k + 1, d, _, by omega, by go_num, rfl, lt, hset, hst, hb2.drew⟩
            case measure => simp [intOf]; omega
          · obtain rfl : k = 32 := by omega
            have HU := vlt (hM.out.all hy.out (by rw [ex.out, ln_wl]; exact Nat.mod_lt _ fl_pos) (by rw [ey.out, ln_wl]; exact Nat.mod_lt _ fl_pos))
            have hul := Lib.hid hM.out.len
            have hz : Hid (wr.heap[w.heap.size + 2]? = some (.cells (bv z32).toArray 24 (0, 0))) := (hbt.block _ sZ6 (by intro e; injection e; omega)).trans xZ6.out
            have hbw : Below w.heap.size w wr := But.below hbw6 hbt (by omega) (by omega)
            have sZ : w.heap.size + 2 < wr.heap.size := (Array.getElem?_eq_some_iff.1 hz.out).1
            have hc3 := cut_all Tryd.underlying24 Tryd.sizeByte P4 0 (by decide)
            clear hM hbt x5 xZ6 hbw6
            go_wp2_with fail
            refine (rmod_any wr (some ⟨P4, 0, none⟩) 32 32 u (byt_row hg.out) hul.out (by decide)).mono ?_
            rintro e W7 ⟨r, rfl, er, hr, hb7⟩
            have HE := vlt (show r = wl (ln a + ln b) by rw [er.out, HU.out, ex.out, ey.out, ln_wl, ln_wl]; exact wl_of (by rw [← Nat.add_mod]))
            have hbw7 := below_next hbw hbw.size hb7
            have hz7 : Hid (W7.heap[w.heap.size + 1 + 1]? = some (.cells (bv z32).toArray 24 (0, 0))) := (hb7.block _ sZ).trans hz.out
            have HLS := Lib.hid (bv_size r hr.out)
            clear er HU ex ey
            go_wp2_with (with_reducible refine wpList_store_row rfl 24 (.tmp 4) (.tmp 35) rfl (w.heap.size + 1 + 1) (bv r).toArray rfl rfl 24 _ hz7.out (by rw [HLS.out]; kernel_rfl) (by rw [HLS.out]; kernel_rfl) (all_oneCell_toArray (bv_one _)) ?_)
            refine bodyPost_ret (v := .agg (bv r).toArray) (results_cell_row Tryd.results17 _ _ (w.heap.size + 1 + 1) 24 _ (0, 0) _ rfl (setRow_heap _ _ _ _ _ _ hz7.out) Tryd.underlying24 rfl (by rw [HLS.out]; kernel_rfl)) rfl ⟨r, rfl, HE, hr, below_setRow hbw7 (by omega) _⟩
      · refine step_new_word (by rfl) rfl ?_
        intro P5 W3 hP5 z5 g3 l5
        have lP5 : W.heap.size ≤ P5 := by have := hHeld.size; have := hP5.out; omega
        have t3 := g3.size
        have hB3 := below_next hHeld hHeld.size g3
        refine hK.out _ _ (hB3) (fun hHeld => ?_)
        clear hK K
        try simp only [Act.put, List.setIfInBounds_toArray, List.set_cons_zero, List.set_cons_succ]
        refine wpAnyH_ready (rs := [3]) (by kernel_rfl) (by simp) ?_
        refine AllReadyH.cons (i := 3) (o := ⟨(some 12), _, _, _, _, _⟩) rfl (fun K hK => ?_) AllReadyH.nil
        go_simp
        refine (rmod_any _ (some ⟨(w.heap.size + 1), 0, none⟩) 32 32 b (byt_row ((hHeld.block _ sB).trans hgB.out)) HB.out (by decide)).mono ?_
        rintro e W4 ⟨y, rfl, ey, hy, g4⟩
        have t4 := g4.size
        have hB4 := below_next hHeld hHeld.size g4
        refine hK.out _ _ (hB4) (fun hHeld => ?_)
        clear hK K
        try simp only [Act.put, List.setIfInBounds_toArray, List.set_cons_zero, List.set_cons_succ]
        refine wpAnyH_ready (rs := [6]) (by kernel_rfl) (by simp) ?_
        refine AllReadyH.cons (i := 6) (o := ⟨none, _, _, _, _, _⟩) rfl (fun K hK => ?_) AllReadyH.nil
        have hne : P4 ≠ P5 := by have := hP4.out; have := hP5.out; omega
        have HXS := Lib.hid (bv_size x hx.out)
        have HYS := Lib.hid (bv_size y hy.out)
        refine step_store_row rfl 24 (.tmp 5) (.tmp 10) rfl P4 (bv x).toArray rfl rfl 24 _ ((row_next (row_next (row_next z4 g2) g3) g4)).out (by rw [HXS.out]; kernel_rfl) (by rw [HXS.out]; kernel_rfl) (all_oneCell_toArray (bv_one _)) ?_
        have y4 : Hid ((W4.setRow P4 (bv x).toArray).heap[P4]? = some (.cells (bv x).toArray 24 (0, 0))) := setRow_heap _ _ _ _ _ _ ((row_next (row_next (row_next z4 g2) g3) g4)).out
        have y5 : Hid ((W4.setRow P4 (bv x).toArray).heap[P5]? = some (.cells (bv z32).toArray 24 (0, 0))) := (setRow_other _ _ _ _ (Ne.symm hne)).trans ((row_next z5 g4)).out
        have hB5 := below_setRow hHeld lP4 (bv x).toArray
        generalize W4.setRow P4 (bv x).toArray = W5 at *
        refine hK.out _ _ (hB5) (fun hHeld => ?_)
        clear hK K
        try simp only [Act.put]
        refine wpAnyH_ready (rs := [7]) (by kernel_rfl) (by simp) ?_
        refine AllReadyH.cons (i := 7) (o := ⟨none, _, _, _, _, _⟩) rfl (fun K hK => ?_) AllReadyH.nil
        refine step_store_row rfl 24 (.tmp 6) (.tmp 12) rfl P5 (bv y).toArray rfl rfl 24 _ y5.out (by rw [HYS.out]; kernel_rfl) (by rw [HYS.out]; kernel_rfl) (all_oneCell_toArray (bv_one _)) ?_
        have x5 : Hid ((W5.setRow P5 (bv y).toArray).heap[P5]? = some (.cells (bv y).toArray 24 (0, 0))) := setRow_heap _ _ _ _ _ _ y5.out
        have x4 : Hid ((W5.setRow P5 (bv y).toArray).heap[P4]? = some (.cells (bv x).toArray 24 (0, 0))) := (setRow_other _ _ _ _ hne).trans y4.out
        have hB6 := below_setRow hHeld lP5 (bv y).toArray
        generalize W5.setRow P5 (bv y).toArray = W6 at *
        refine hK.out _ _ (hB6) (fun hHeld => ?_)
        clear hK K
        try simp only [Act.put]
        refine wpAnyH_done (by kernel_rfl) ?_ _
        have hbw6 := below_next hbW hbW.size hHeld
        have xZ6 := Lib.hid ((hHeld.block _ sZ).trans hgZ.out)
        have sZ6 : w.heap.size + 2 < W6.heap.size := (Array.getElem?_eq_some_iff.1 xZ6.out).1
        have s4 : P4 < W6.heap.size := (Array.getElem?_eq_some_iff.1 x4.out).1
        have s5 : P5 < W6.heap.size := (Array.getElem?_eq_some_iff.1 x5.out).1
        clear hHeld hB6 g1 g2 g3 g4 hB1 hB2 hB3 hB4 hB5 z4 z5 hP4 hP5 l4 l5 y4 y5 t1 t2 t3 t4
        go_wp2_with fail
        go_loopw [7, 8] (fun cc s wr => ∃ (k c : Nat) (u : List UInt8), k ≤ 32 ∧ s = .int .i64 (k : Int) ∧ cc = .int .i64 (c : Int) ∧ c ≤ 1 ∧ Hid (wr.heap[P4]? = some (.cells (bv u).toArray 24 (0, 0))) ∧ Vlt (Pls x y u k c) ∧ But P4 W6 wr) (fun _ s _ => 32 - (intOf s).toNat)
        case atStart => exact ⟨0, 0, x, by omega, rfl, rfl, by decide, x4, vlt (Pls.first hx.out), But.refl _ _⟩
        case round =>
          clear x4
          obtain ⟨k, c, u, hk, rfl, rfl, hc, hg, hM, hbt⟩ := hrel
          by_cases hlt : k < 32
          · have gy : wr.heap[P5]? = some (.cells (bv y).toArray 24 (0, 0)) := (hbt.block _ s5 (by intro e; injection e; omega)).trans x5.out
            have hul := Lib.hid hM.out.len
            have c0 := nb_cell hg.out (show k < u.length by rw [hul.out]; exact hlt)
            rw [hM.out.rest k (Nat.le_refl _)] at c0
            have c1 := nb_cell gy (show k < y.length by rw [hy.out]; exact hlt)
            have lx := nb_lt x k
            have ly := nb_lt y k
            have hst := vlt (hM.out.step hy.out hlt)
            have f0 : wr.frozen? ⟨P4, k, none⟩ = false := frozen_of_row _ _ _ _ _ hg.out
            have lv : (c + nb x k + nb y k) % 256 < 256 := by omega
            have lt : (c + nb x k + nb y k) / 256 ≤ 1 := by omega
            generalize nb x k = xk at *
            generalize nb y k = yk at *
            have hw1 : IntKind.i64.wrap ((c : Int) + (xk : Int)) = (c : Int) + (xk : Int) := IntWalk.i64_in _ (by omega)
            have hw2 : IntKind.i64.wrap ((c : Int) + (xk : Int) + (yk : Int)) = ((c + xk + yk : Nat) : Int) := by rw [show (c : Int) + (xk : Int) + (yk : Int) = ((c + xk + yk : Nat) : Int) by omega]; exact IntWalk.i64_in _ (by omega)
            have lN : c + xk + yk < 1000 := by omega
            generalize c + xk + yk = N at *
            have ev : (N : Int) % 256 = ((N % 256 : Nat) : Int) := by omega
            have ed : (N : Int) / 256 = ((N / 256 : Nat) : Int) := by omega
            have hset := world_set_cell hg.out k (.int .u8 ((N % 256 : Nat) : Int))
            rw [bv_put _ _ _ lv] at hset
            have hb2 := hbt.set (i := k) (.int .u8 ((N % 256 : Nat) : Int))
            generalize N % 256 = v at *
            generalize N / 256 = d at *
            clear gy hM
            go_wp2_with fail
            go_region
            go_wp2_with fail
            go_roundw
            case rel => exact ⟨k + 1, d, _, by omega, by go_num, rfl, lt, hset, hst, hb2.drew⟩
            case measure => simp [intOf]; omega
          · obtain rfl : k = 32 := by omega
            have HU := vlt (hM.out.all hy.out (by rw [ex.out, ln_wl]; exact Nat.mod_lt _ fl_pos) (by rw [ey.out, ln_wl]; exact Nat.mod_lt _ fl_pos))
            have hul := Lib.hid hM.out.len
            have hz : Hid (wr.heap[w.heap.size + 2]? = some (.cells (bv z32).toArray 24 (0, 0))) := (hbt.block _ sZ6 (by intro e; injection e; omega)).trans xZ6.out
            have hbw : Below w.heap.size w wr := But.below hbw6 hbt (by omega) (by omega)
            have sZ : w.heap.size + 2 < wr.heap.size := (Array.getElem?_eq_some_iff.1 hz.out).1
            have hc3 := cut_all Tryd.underlying24 Tryd.sizeByte P4 0 (by decide)
            clear hM hbt x5 xZ6 hbw6
            go_wp2_with fail
            refine (rmod_any wr (some ⟨P4, 0, none⟩) 32 32 u (byt_row hg.out) hul.out (by decide)).mono ?_
            rintro e W7 ⟨r, rfl, er, hr, hb7⟩
            have HE := vlt (show r = wl (ln a + ln b) by rw [er.out, HU.out, ex.out, ey.out, ln_wl, ln_wl]; exact wl_of (by rw [← Nat.add_mod]))
            have hbw7 := below_next hbw hbw.size hb7
            have hz7 : Hid (W7.heap[w.heap.size + 1 + 1]? = some (.cells (bv z32).toArray 24 (0, 0))) := (hb7.block _ sZ).trans hz.out
            have HLS := Lib.hid (bv_size r hr.out)
            clear er HU ex ey
            go_wp2_with (with_reducible refine wpList_store_row rfl 24 (.tmp 4) (.tmp 35) rfl (w.heap.size + 1 + 1) (bv r).toArray rfl rfl 24 _ hz7.out (by rw [HLS.out]; kernel_rfl) (by rw [HLS.out]; kernel_rfl) (all_oneCell_toArray (bv_one _)) ?_)
            refine bodyPost_ret (v := .agg (bv r).toArray) (results_cell_row Tryd.results17 _ _ (w.heap.size + 1 + 1) 24 _ (0, 0) _ rfl (setRow_heap _ _ _ _ _ _ hz7.out) Tryd.underlying24 rfl (by rw [HLS.out]; kernel_rfl)) rfl ⟨r, rfl, HE, hr, below_setRow hbw7 (by omega) _⟩
    · refine step_new_word (by rfl) rfl ?_
      intro P5 W2 hP5 z5 g2 l5
      have lP5 : W.heap.size ≤ P5 := by have := hHeld.size; have := hP5.out; omega
      have t2 := g2.size
      have hB2 := below_next hHeld hHeld.size g2
      refine hK.out _ _ (hB2) (fun hHeld => ?_)
      clear hK K
      try simp only [Act.put, List.setIfInBounds_toArray, List.set_cons_zero, List.set_cons_succ]
      refine wpAnyH_ready (rs := [1]) (by kernel_rfl) (by simp) ?_
      refine AllReadyH.cons (i := 1) (o := ⟨(some 10), _, _, _, _, _⟩) rfl (fun K hK => ?_) AllReadyH.nil
      go_simp
      refine (rmod_any _ (some ⟨w.heap.size, 0, none⟩) 32 32 a (byt_row ((hHeld.block _ sA).trans hgA.out)) HA.out (by decide)).mono ?_
      rintro e W3 ⟨x, rfl, ex, hx, g3⟩
      have t3 := g3.size
      have hB3 := below_next hHeld hHeld.size g3
      refine hK.out _ _ (hB3) (fun hHeld => ?_)
      clear hK K
      try simp only [Act.put, List.setIfInBounds_toArray, List.set_cons_zero, List.set_cons_succ]
      refine wpAnyH_ready (rs := [3]) (by kernel_rfl) (by simp) ?_
      refine AllReadyH.cons (i := 3) (o := ⟨(some 12), _, _, _, _, _⟩) rfl (fun K hK => ?_) AllReadyH.nil
      go_simp
      refine (rmod_any _ (some ⟨(w.heap.size + 1), 0, none⟩) 32 32 b (byt_row ((hHeld.block _ sB).trans hgB.out)) HB.out (by decide)).mono ?_
      rintro e W4 ⟨y, rfl, ey, hy, g4⟩
      have t4 := g4.size
      have hB4 := below_next hHeld hHeld.size g4
      refine hK.out _ _ (hB4) (fun hHeld => ?_)
      clear hK K
      try simp only [Act.put, List.setIfInBounds_toArray, List.set_cons_zero, List.set_cons_succ]
      refine wpAnyH_ready (rs := [6]) (by kernel_rfl) (by simp) ?_
      refine AllReadyH.cons (i := 6) (o := ⟨none, _, _, _, _, _⟩) rfl (fun K hK => ?_) AllReadyH.nil
      have hne : P4 ≠ P5 := by have := hP4.out; have := hP5.out; omega
      have HXS := Lib.hid (bv_size x hx.out)
      have HYS := Lib.hid (bv_size y hy.out)
      refine step_store_row rfl 24 (.tmp 5) (.tmp 10) rfl P4 (bv x).toArray rfl rfl 24 _ ((row_next (row_next (row_next z4 g2) g3) g4)).out (by rw [HXS.out]; kernel_rfl) (by rw [HXS.out]; kernel_rfl) (all_oneCell_toArray (bv_one _)) ?_
      have y4 : Hid ((W4.setRow P4 (bv x).toArray).heap[P4]? = some (.cells (bv x).toArray 24 (0, 0))) := setRow_heap _ _ _ _ _ _ ((row_next (row_next (row_next z4 g2) g3) g4)).out
      have y5 : Hid ((W4.setRow P4 (bv x).toArray).heap[P5]? = some (.cells (bv z32).toArray 24 (0, 0))) := (setRow_other _ _ _ _ (Ne.symm hne)).trans ((row_next (row_next z5 g3) g4)).out
      have hB5 := below_setRow hHeld lP4 (bv x).toArray
      generalize W4.setRow P4 (bv x).toArray = W5 at *
      refine hK.out _ _ (hB5) (fun hHeld => ?_)
      clear hK K
      try simp only [Act.put]
      refine wpAnyH_ready (rs := [7]) (by kernel_rfl) (by simp) ?_
      refine AllReadyH.cons (i := 7) (o := ⟨none, _, _, _, _, _⟩) rfl (fun K hK => ?_) AllReadyH.nil
      refine step_store_row rfl 24 (.tmp 6) (.tmp 12) rfl P5 (bv y).toArray rfl rfl 24 _ y5.out (by rw [HYS.out]; kernel_rfl) (by rw [HYS.out]; kernel_rfl) (all_oneCell_toArray (bv_one _)) ?_
      have x5 : Hid ((W5.setRow P5 (bv y).toArray).heap[P5]? = some (.cells (bv y).toArray 24 (0, 0))) := setRow_heap _ _ _ _ _ _ y5.out
      have x4 : Hid ((W5.setRow P5 (bv y).toArray).heap[P4]? = some (.cells (bv x).toArray 24 (0, 0))) := (setRow_other _ _ _ _ hne).trans y4.out
      have hB6 := below_setRow hHeld lP5 (bv y).toArray
      generalize W5.setRow P5 (bv y).toArray = W6 at *
      refine hK.out _ _ (hB6) (fun hHeld => ?_)
      clear hK K
      try simp only [Act.put]
      refine wpAnyH_done (by kernel_rfl) ?_ _
      have hbw6 := below_next hbW hbW.size hHeld
      have xZ6 := Lib.hid ((hHeld.block _ sZ).trans hgZ.out)
      have sZ6 : w.heap.size + 2 < W6.heap.size := (Array.getElem?_eq_some_iff.1 xZ6.out).1
      have s4 : P4 < W6.heap.size := (Array.getElem?_eq_some_iff.1 x4.out).1
      have s5 : P5 < W6.heap.size := (Array.getElem?_eq_some_iff.1 x5.out).1
      clear hHeld hB6 g1 g2 g3 g4 hB1 hB2 hB3 hB4 hB5 z4 z5 hP4 hP5 l4 l5 y4 y5 t1 t2 t3 t4
      go_wp2_with fail
      go_loopw [7, 8] (fun cc s wr => ∃ (k c : Nat) (u : List UInt8), k ≤ 32 ∧ s = .int .i64 (k : Int) ∧ cc = .int .i64 (c : Int) ∧ c ≤ 1 ∧ Hid (wr.heap[P4]? = some (.cells (bv u).toArray 24 (0, 0))) ∧ Vlt (Pls x y u k c) ∧ But P4 W6 wr) (fun _ s _ => 32 - (intOf s).toNat)
      case atStart => exact ⟨0, 0, x, by omega, rfl, rfl, by decide, x4, vlt (Pls.first hx.out), But.refl _ _⟩
      case round =>
        clear x4
        obtain ⟨k, c, u, hk, rfl, rfl, hc, hg, hM, hbt⟩ := hrel
        by_cases hlt : k < 32
        · have gy : wr.heap[P5]? = some (.cells (bv y).toArray 24 (0, 0)) := (hbt.block _ s5 (by intro e; injection e; omega)).trans x5.out
          have hul := Lib.hid hM.out.len
          have c0 := nb_cell hg.out (show k < u.length by rw [hul.out]; exact hlt)
          rw [hM.out.rest k (Nat.le_refl _)] at c0
          have c1 := nb_cell gy (show k < y.length by rw [hy.out]; exact hlt)
          have lx := nb_lt x k
          have ly := nb_lt y k
          have hst := vlt (hM.out.step hy.out hlt)
          have f0 : wr.frozen? ⟨P4, k, none⟩ = false := frozen_of_row _ _ _ _ _ hg.out
          have lv : (c + nb x k + nb y k) % 256 < 256 := by omega
          have lt : (c + nb x k + nb y k) / 256 ≤ 1 := by omega
          generalize nb x k = xk at *
          generalize nb y k = yk at *
          have hw1 : IntKind.i64.wrap ((c : Int) + (xk : Int)) = (c : Int) + (xk : Int) := IntWalk.i64_in _ (by omega)
          have hw2 : IntKind.i64.wrap ((c : Int) + (xk : Int) + (yk : Int)) = ((c + xk + yk : Nat) : Int) := by rw [show (c : Int) + (xk : Int) + (yk : Int) = ((c + xk + yk : Nat) : Int) by omega]; exact IntWalk.i64_in _ (by omega)
          have lN : c + xk + yk < 1000 := by omega
          generalize c + xk + yk = N at *
          have ev : (N : Int) % 256 = ((N % 256 : Nat) : Int) := by omega
          have ed : (N : Int) / 256 = ((N / 256 : Nat) : Int) := by omega
          have hset := world_set_cell hg.out k (.int .u8 ((N % 256 : Nat) : Int))
          rw [bv_put _ _ _ lv] at hset
          have hb2 := hbt.set (i := k) (.int .u8 ((N % 256 : Nat) : Int))
          generalize N % 256 = v at *
          generalize N / 256 = d at *
          clear gy hM
          go_wp2_with fail
          go_region
          go_wp2_with fail
          go_roundw
          case rel => exact ⟨k + 1, d, _, by omega, by go_num, rfl, lt, hset, hst, hb2.drew⟩
          case measure => simp [intOf]; omega
        · obtain rfl : k = 32 := by omega
          have HU := vlt (hM.out.all hy.out (by rw [ex.out, ln_wl]; exact Nat.mod_lt _ fl_pos) (by rw [ey.out, ln_wl]; exact Nat.mod_lt _ fl_pos))
          have hul := Lib.hid hM.out.len
          have hz : Hid (wr.heap[w.heap.size + 2]? = some (.cells (bv z32).toArray 24 (0, 0))) := (hbt.block _ sZ6 (by intro e; injection e; omega)).trans xZ6.out
          have hbw : Below w.heap.size w wr := But.below hbw6 hbt (by omega) (by omega)
          have sZ : w.heap.size + 2 < wr.heap.size := (Array.getElem?_eq_some_iff.1 hz.out).1
          have hc3 := cut_all Tryd.underlying24 Tryd.sizeByte P4 0 (by decide)
          clear hM hbt x5 xZ6 hbw6
          go_wp2_with fail
          refine (rmod_any wr (some ⟨P4, 0, none⟩) 32 32 u (byt_row hg.out) hul.out (by decide)).mono ?_
          rintro e W7 ⟨r, rfl, er, hr, hb7⟩
          have HE := vlt (show r = wl (ln a + ln b) by rw [er.out, HU.out, ex.out, ey.out, ln_wl, ln_wl]; exact wl_of (by rw [← Nat.add_mod]))
          have hbw7 := below_next hbw hbw.size hb7
          have hz7 : Hid (W7.heap[w.heap.size + 1 + 1]? = some (.cells (bv z32).toArray 24 (0, 0))) := (hb7.block _ sZ).trans hz.out
          have HLS := Lib.hid (bv_size r hr.out)
          clear er HU ex ey
          go_wp2_with (with_reducible refine wpList_store_row rfl 24 (.tmp 4) (.tmp 35) rfl (w.heap.size + 1 + 1) (bv r).toArray rfl rfl 24 _ hz7.out (by rw [HLS.out]; kernel_rfl) (by rw [HLS.out]; kernel_rfl) (all_oneCell_toArray (bv_one _)) ?_)
          refine bodyPost_ret (v := .agg (bv r).toArray) (results_cell_row Tryd.results17 _ _ (w.heap.size + 1 + 1) 24 _ (0, 0) _ rfl (setRow_heap _ _ _ _ _ _ hz7.out) Tryd.underlying24 rfl (by rw [HLS.out]; kernel_rfl)) rfl ⟨r, rfl, HE, hr, below_setRow hbw7 (by omega) _⟩
  · refine step_new_word (by rfl) rfl ?_
    intro P5 W1 hP5 z5 g1 l5
    have lP5 : W.heap.size ≤ P5 := by have := hHeld.size; have := hP5.out; omega
    have t1 := g1.size
    have hB1 := below_next hHeld hHeld.size g1
    refine hK.out _ _ (hB1) (fun hHeld => ?_)
    clear hK K
    try simp only [Act.put, List.setIfInBounds_toArray, List.set_cons_zero, List.set_cons_succ]
    refine wpAnyH_ready (rs := [1, 4]) (by kernel_rfl) (by simp) ?_
    refine AllReadyH.cons (i := 1) (o := ⟨(some 10), _, _, _, _, _⟩) rfl (fun K hK => ?_) (AllReadyH.cons (i := 4) (o := ⟨(some 5), _, _, _, _, _⟩) rfl (fun K hK => ?_) AllReadyH.nil)
    · go_simp
      refine (rmod_any _ (some ⟨w.heap.size, 0, none⟩) 32 32 a (byt_row ((hHeld.block _ sA).trans hgA.out)) HA.out (by decide)).mono ?_
      rintro e W2 ⟨x, rfl, ex, hx, g2⟩
      have t2 := g2.size
      have hB2 := below_next hHeld hHeld.size g2
      refine hK.out _ _ (hB2) (fun hHeld => ?_)
      clear hK K
      try simp only [Act.put, List.setIfInBounds_toArray, List.set_cons_zero, List.set_cons_succ]
      refine wpAnyH_ready (rs := [3, 4]) (by kernel_rfl) (by simp) ?_
      refine AllReadyH.cons (i := 3) (o := ⟨(some 12), _, _, _, _, _⟩) rfl (fun K hK => ?_) (AllReadyH.cons (i := 4) (o := ⟨(some 5), _, _, _, _, _⟩) rfl (fun K hK => ?_) AllReadyH.nil)
      · go_simp
        refine (rmod_any _ (some ⟨(w.heap.size + 1), 0, none⟩) 32 32 b (byt_row ((hHeld.block _ sB).trans hgB.out)) HB.out (by decide)).mono ?_
        rintro e W3 ⟨y, rfl, ey, hy, g3⟩
        have t3 := g3.size
        have hB3 := below_next hHeld hHeld.size g3
        refine hK.out _ _ (hB3) (fun hHeld => ?_)
        clear hK K
        try simp only [Act.put, List.setIfInBounds_toArray, List.set_cons_zero, List.set_cons_succ]
        refine wpAnyH_ready (rs := [4]) (by kernel_rfl) (by simp) ?_
        refine AllReadyH.cons (i := 4) (o := ⟨(some 5), _, _, _, _, _⟩) rfl (fun K hK => ?_) AllReadyH.nil
        refine step_new_word (by rfl) rfl ?_
        intro P4 W4 hP4 z4 g4 l4
        have lP4 : W.heap.size ≤ P4 := by have := hHeld.size; have := hP4.out; omega
        have t4 := g4.size
        have hB4 := below_next hHeld hHeld.size g4
        refine hK.out _ _ (hB4) (fun hHeld => ?_)
        clear hK K
        try simp only [Act.put, List.setIfInBounds_toArray, List.set_cons_zero, List.set_cons_succ]
        refine wpAnyH_ready (rs := [6]) (by kernel_rfl) (by simp) ?_
        refine AllReadyH.cons (i := 6) (o := ⟨none, _, _, _, _, _⟩) rfl (fun K hK => ?_) AllReadyH.nil
        have hne : P4 ≠ P5 := by have := hP4.out; have := hP5.out; omega
        have HXS := Lib.hid (bv_size x hx.out)
        have HYS := Lib.hid (bv_size y hy.out)
        refine step_store_row rfl 24 (.tmp 5) (.tmp 10) rfl P4 (bv x).toArray rfl rfl 24 _ (z4).out (by rw [HXS.out]; kernel_rfl) (by rw [HXS.out]; kernel_rfl) (all_oneCell_toArray (bv_one _)) ?_
        have y4 : Hid ((W4.setRow P4 (bv x).toArray).heap[P4]? = some (.cells (bv x).toArray 24 (0, 0))) := setRow_heap _ _ _ _ _ _ (z4).out
        have y5 : Hid ((W4.setRow P4 (bv x).toArray).heap[P5]? = some (.cells (bv z32).toArray 24 (0, 0))) := (setRow_other _ _ _ _ (Ne.symm hne)).trans ((row_next (row_next (row_next z5 g2) g3) g4)).out
        have hB5 := below_setRow hHeld lP4 (bv x).toArray
        generalize W4.setRow P4 (bv x).toArray = W5 at *
        refine hK.out _ _ (hB5) (fun hHeld => ?_)
        clear hK K
        try simp only [Act.put]
        refine wpAnyH_ready (rs := [7]) (by kernel_rfl) (by simp) ?_
        refine AllReadyH.cons (i := 7) (o := ⟨none, _, _, _, _, _⟩) rfl (fun K hK => ?_) AllReadyH.nil
        refine step_store_row rfl 24 (.tmp 6) (.tmp 12) rfl P5 (bv y).toArray rfl rfl 24 _ y5.out (by rw [HYS.out]; kernel_rfl) (by rw [HYS.out]; kernel_rfl) (all_oneCell_toArray (bv_one _)) ?_
        have x5 : Hid ((W5.setRow P5 (bv y).toArray).heap[P5]? = some (.cells (bv y).toArray 24 (0, 0))) := setRow_heap _ _ _ _ _ _ y5.out
        have x4 : Hid ((W5.setRow P5 (bv y).toArray).heap[P4]? = some (.cells (bv x).toArray 24 (0, 0))) := (setRow_other _ _ _ _ hne).trans y4.out
        have hB6 := below_setRow hHeld lP5 (bv y).toArray
        generalize W5.setRow P5 (bv y).toArray = W6 at *
        refine hK.out _ _ (hB6) (fun hHeld => ?_)
        clear hK K
        try simp only [Act.put]
        refine wpAnyH_done (by kernel_rfl) ?_ _
        have hbw6 := below_next hbW hbW.size hHeld
        have xZ6 := Lib.hid ((hHeld.block _ sZ).trans hgZ.out)
        have sZ6 : w.heap.size + 2 < W6.heap.size := (Array.getElem?_eq_some_iff.1 xZ6.out).1
        have s4 : P4 < W6.heap.size := (Array.getElem?_eq_some_iff.1 x4.out).1
        have s5 : P5 < W6.heap.size := (Array.getElem?_eq_some_iff.1 x5.out).1
        clear hHeld hB6 g1 g2 g3 g4 hB1 hB2 hB3 hB4 hB5 z4 z5 hP4 hP5 l4 l5 y4 y5 t1 t2 t3 t4
        go_wp2_with fail
        go_loopw [7, 8] (fun cc s wr => ∃ (k c : Nat) (u : List UInt8), k ≤ 32 ∧ s = .int .i64 (k : Int) ∧ cc = .int .i64 (c : Int) ∧ c ≤ 1 ∧ Hid (wr.heap[P4]? = some (.cells (bv u).toArray 24 (0, 0))) ∧ Vlt (Pls x y u k c) ∧ But P4 W6 wr) (fun _ s _ => 32 - (intOf s).toNat)
        case atStart => exact ⟨0, 0, x, by omega, rfl, rfl, by decide, x4, vlt (Pls.first hx.out), But.refl _ _⟩
        case round =>
          clear x4
          obtain ⟨k, c, u, hk, rfl, rfl, hc, hg, hM, hbt⟩ := hrel
          by_cases hlt : k < 32
          · have gy : wr.heap[P5]? = some (.cells (bv y).toArray 24 (0, 0)) := (hbt.block _ s5 (by intro e; injection e; omega)).trans x5.out
            have hul := Lib.hid hM.out.len
            have c0 := nb_cell hg.out (show k < u.length by rw [hul.out]; exact hlt)
            rw [hM.out.rest k (Nat.le_refl _)] at c0
            have c1 := nb_cell gy (show k < y.length by rw [hy.out]; exact hlt)
            have lx := nb_lt x k
            have ly := nb_lt y k
            have hst := vlt (hM.out.step hy.out hlt)
            have f0 : wr.frozen? ⟨P4, k, none⟩ = false := frozen_of_row _ _ _ _ _ hg.out
            have lv : (c + nb x k + nb y k) % 256 < 256 := by omega
            have lt : (c + nb x k + nb y k) / 256 ≤ 1 := by omega
            generalize nb x k = xk at *
            generalize nb y k = yk at *
            have hw1 : IntKind.i64.wrap ((c : Int) + (xk : Int)) = (c : Int) + (xk : Int) := IntWalk.i64_in _ (by omega)
            have hw2 : IntKind.i64.wrap ((c : Int) + (xk : Int) + (yk : Int)) = ((c + xk + yk : Nat) : Int) := by rw [show (c : Int) + (xk : Int) + (yk : Int) = ((c + xk + yk : Nat) : Int) by omega]; exact IntWalk.i64_in _ (by omega)
            have lN : c + xk + yk < 1000 := by omega
            generalize c + xk + yk = N at *
            have ev : (N : Int) % 256 = ((N % 256 : Nat) : Int) := by omega
            have ed : (N : Int) / 256 = ((N / 256 : Nat) : Int) := by omega
            have hset := world_set_cell hg.out k (.int .u8 ((N % 256 : Nat) : Int))
            rw [bv_put _ _ _ lv] at hset
            have hb2 := hbt.set (i := k) (.int .u8 ((N % 256 : Nat) : Int))
            generalize N % 256 = v at *
            generalize N / 256 = d at *
            clear gy hM
            go_wp2_with fail
            go_region
            go_wp2_with fail
            go_roundw
            case rel => exact ⟨k + 1, d, _, by omega, by go_num, rfl, lt, hset, hst, hb2.drew⟩
            case measure => simp [intOf]; omega
          · obtain rfl : k = 32 := by omega
            have HU := vlt (hM.out.all hy.out (by rw [ex.out, ln_wl]; exact Nat.mod_lt _ fl_pos) (by rw [ey.out, ln_wl]; exact Nat.mod_lt _ fl_pos))
            have hul := Lib.hid hM.out.len
            have hz : Hid (wr.heap[w.heap.size + 2]? = some (.cells (bv z32).toArray 24 (0, 0))) := (hbt.block _ sZ6 (by intro e; injection e; omega)).trans xZ6.out
            have hbw : Below w.heap.size w wr := But.below hbw6 hbt (by omega) (by omega)
            have sZ : w.heap.size + 2 < wr.heap.size := (Array.getElem?_eq_some_iff.1 hz.out).1
            have hc3 := cut_all Tryd.underlying24 Tryd.sizeByte P4 0 (by decide)
            clear hM hbt x5 xZ6 hbw6
            go_wp2_with fail
            refine (rmod_any wr (some ⟨P4, 0, none⟩) 32 32 u (byt_row hg.out) hul.out (by decide)).mono ?_
            rintro e W7 ⟨r, rfl, er, hr, hb7⟩
            have HE := vlt (show r = wl (ln a + ln b) by rw [er.out, HU.out, ex.out, ey.out, ln_wl, ln_wl]; exact wl_of (by rw [← Nat.add_mod]))
            have hbw7 := below_next hbw hbw.size hb7
            have hz7 : Hid (W7.heap[w.heap.size + 1 + 1]? = some (.cells (bv z32).toArray 24 (0, 0))) := (hb7.block _ sZ).trans hz.out
            have HLS := Lib.hid (bv_size r hr.out)
            clear er HU ex ey
            go_wp2_with (with_reducible refine wpList_store_row rfl 24 (.tmp 4) (.tmp 35) rfl (w.heap.size + 1 + 1) (bv r).toArray rfl rfl 24 _ hz7.out (by rw [HLS.out]; kernel_rfl) (by rw [HLS.out]; kernel_rfl) (all_oneCell_toArray (bv_one _)) ?_)
            refine bodyPost_ret (v := .agg (bv r).toArray) (results_cell_row Tryd.results17 _ _ (w.heap.size + 1 + 1) 24 _ (0, 0) _ rfl (setRow_heap _ _ _ _ _ _ hz7.out) Tryd.underlying24 rfl (by rw [HLS.out]; kernel_rfl)) rfl ⟨r, rfl, HE, hr, below_setRow hbw7 (by omega) _⟩
      · refine step_new_word (by rfl) rfl ?_
        intro P4 W3 hP4 z4 g3 l4
        have lP4 : W.heap.size ≤ P4 := by have := hHeld.size; have := hP4.out; omega
        have t3 := g3.size
        have hB3 := below_next hHeld hHeld.size g3
        refine hK.out _ _ (hB3) (fun hHeld => ?_)
        clear hK K
        try simp only [Act.put, List.setIfInBounds_toArray, List.set_cons_zero, List.set_cons_succ]
        refine wpAnyH_ready (rs := [3]) (by kernel_rfl) (by simp) ?_
        refine AllReadyH.cons (i := 3) (o := ⟨(some 12), _, _, _, _, _⟩) rfl (fun K hK => ?_) AllReadyH.nil
        go_simp
        refine (rmod_any _ (some ⟨(w.heap.size + 1), 0, none⟩) 32 32 b (byt_row ((hHeld.block _ sB).trans hgB.out)) HB.out (by decide)).mono ?_
        rintro e W4 ⟨y, rfl, ey, hy, g4⟩
        have t4 := g4.size
        have hB4 := below_next hHeld hHeld.size g4
        refine hK.out _ _ (hB4) (fun hHeld => ?_)
        clear hK K
        try simp only [Act.put, List.setIfInBounds_toArray, List.set_cons_zero, List.set_cons_succ]
        refine wpAnyH_ready (rs := [6]) (by kernel_rfl) (by simp) ?_
        refine AllReadyH.cons (i := 6) (o := ⟨none, _, _, _, _, _⟩) rfl (fun K hK => ?_) AllReadyH.nil
        have hne : P4 ≠ P5 := by have := hP4.out; have := hP5.out; omega
        have HXS := Lib.hid (bv_size x hx.out)
        have HYS := Lib.hid (bv_size y hy.out)
        refine step_store_row rfl 24 (.tmp 5) (.tmp 10) rfl P4 (bv x).toArray rfl rfl 24 _ ((row_next z4 g4)).out (by rw [HXS.out]; kernel_rfl) (by rw [HXS.out]; kernel_rfl) (all_oneCell_toArray (bv_one _)) ?_
        have y4 : Hid ((W4.setRow P4 (bv x).toArray).heap[P4]? = some (.cells (bv x).toArray 24 (0, 0))) := setRow_heap _ _ _ _ _ _ ((row_next z4 g4)).out
        have y5 : Hid ((W4.setRow P4 (bv x).toArray).heap[P5]? = some (.cells (bv z32).toArray 24 (0, 0))) := (setRow_other _ _ _ _ (Ne.symm hne)).trans ((row_next (row_next (row_next z5 g2) g3) g4)).out
        have hB5 := below_setRow hHeld lP4 (bv x).toArray
        generalize W4.setRow P4 (bv x).toArray = W5 at *
        refine hK.out _ _ (hB5) (fun hHeld => ?_)
        clear hK K
        try simp only [Act.put]
        refine wpAnyH_ready (rs := [7]) (by kernel_rfl) (by simp) ?_
        refine AllReadyH.cons (i := 7) (o := ⟨none, _, _, _, _, _⟩) rfl (fun K hK => ?_) AllReadyH.nil
        refine step_store_row rfl 24 (.tmp 6) (.tmp 12) rfl P5 (bv y).toArray rfl rfl 24 _ y5.out (by rw [HYS.out]; kernel_rfl) (by rw [HYS.out]; kernel_rfl) (all_oneCell_toArray (bv_one _)) ?_
        have x5 : Hid ((W5.setRow P5 (bv y).toArray).heap[P5]? = some (.cells (bv y).toArray 24 (0, 0))) := setRow_heap _ _ _ _ _ _ y5.out
        have x4 : Hid ((W5.setRow P5 (bv y).toArray).heap[P4]? = some (.cells (bv x).toArray 24 (0, 0))) := (setRow_other _ _ _ _ hne).trans y4.out
        have hB6 := below_setRow hHeld lP5 (bv y).toArray
        generalize W5.setRow P5 (bv y).toArray = W6 at *
        refine hK.out _ _ (hB6) (fun hHeld => ?_)
        clear hK K
        try simp only [Act.put]
        refine wpAnyH_done (by kernel_rfl) ?_ _
        have hbw6 := below_next hbW hbW.size hHeld
        have xZ6 := Lib.hid ((hHeld.block _ sZ).trans hgZ.out)
        have sZ6 : w.heap.size + 2 < W6.heap.size := (Array.getElem?_eq_some_iff.1 xZ6.out).1
        have s4 : P4 < W6.heap.size := (Array.getElem?_eq_some_iff.1 x4.out).1
        have s5 : P5 < W6.heap.size := (Array.getElem?_eq_some_iff.1 x5.out).1
        clear hHeld hB6 g1 g2 g3 g4 hB1 hB2 hB3 hB4 hB5 z4 z5 hP4 hP5 l4 l5 y4 y5 t1 t2 t3 t4
        go_wp2_with fail
        go_loopw [7, 8] (fun cc s wr => ∃ (k c : Nat) (u : List UInt8), k ≤ 32 ∧ s = .int .i64 (k : Int) ∧ cc = .int .i64 (c : Int) ∧ c ≤ 1 ∧ Hid (wr.heap[P4]? = some (.cells (bv u).toArray 24 (0, 0))) ∧ Vlt (Pls x y u k c) ∧ But P4 W6 wr) (fun _ s _ => 32 - (intOf s).toNat)
        case atStart => exact ⟨0, 0, x, by omega, rfl, rfl, by decide, x4, vlt (Pls.first hx.out), But.refl _ _⟩
        case round =>
          clear x4
          obtain ⟨k, c, u, hk, rfl, rfl, hc, hg, hM, hbt⟩ := hrel
          by_cases hlt : k < 32
          · have gy : wr.heap[P5]? = some (.cells (bv y).toArray 24 (0, 0)) := (hbt.block _ s5 (by intro e; injection e; omega)).trans x5.out
            have hul := Lib.hid hM.out.len
            have c0 := nb_cell hg.out (show k < u.length by rw [hul.out]; exact hlt)
            rw [hM.out.rest k (Nat.le_refl _)] at c0
            have c1 := nb_cell gy (show k < y.length by rw [hy.out]; exact hlt)
            have lx := nb_lt x k
            have ly := nb_lt y k
            have hst := vlt (hM.out.step hy.out hlt)
            have f0 : wr.frozen? ⟨P4, k, none⟩ = false := frozen_of_row _ _ _ _ _ hg.out
            have lv : (c + nb x k + nb y k) % 256 < 256 := by omega
            have lt : (c + nb x k + nb y k) / 256 ≤ 1 := by omega
            generalize nb x k = xk at *
            generalize nb y k = yk at *
            have hw1 : IntKind.i64.wrap ((c : Int) + (xk : Int)) = (c : Int) + (xk : Int) := IntWalk.i64_in _ (by omega)
            have hw2 : IntKind.i64.wrap ((c : Int) + (xk : Int) + (yk : Int)) = ((c + xk + yk : Nat) : Int) := by rw [show (c : Int) + (xk : Int) + (yk : Int) = ((c + xk + yk : Nat) : Int) by omega]; exact IntWalk.i64_in _ (by omega)
            have lN : c + xk + yk < 1000 := by omega
            generalize c + xk + yk = N at *
            have ev : (N : Int) % 256 = ((N % 256 : Nat) : Int) := by omega
            have ed : (N : Int) / 256 = ((N / 256 : Nat) : Int) := by omega
            have hset := world_set_cell hg.out k (.int .u8 ((N % 256 : Nat) : Int))
            rw [bv_put _ _ _ lv] at hset
            have hb2 := hbt.set (i := k) (.int .u8 ((N % 256 : Nat) : Int))
            generalize N % 256 = v at *
            generalize N / 256 = d at *
            clear gy hM
            go_wp2_with fail
            go_region
            go_wp2_with fail
            go_roundw
            case rel => exact ⟨k + 1, d, _, by omega, by go_num, rfl, lt, hset, hst, hb2.drew⟩
            case measure => simp [intOf]; omega
          · obtain rfl : k = 32 := by omega
            have HU := vlt (hM.out.all hy.out (by rw [ex.out, ln_wl]; exact Nat.mod_lt _ fl_pos) (by rw [ey.out, ln_wl]; exact Nat.mod_lt _ fl_pos))
            have hul := Lib.hid hM.out.len
            have hz : Hid (wr.heap[w.heap.size + 2]? = some (.cells (bv z32).toArray 24 (0, 0))) := (hbt.block _ sZ6 (by intro e; injection e; omega)).trans xZ6.out
            have hbw : Below w.heap.size w wr := But.below hbw6 hbt (by omega) (by omega)
            have sZ : w.heap.size + 2 < wr.heap.size := (Array.getElem?_eq_some_iff.1 hz.out).1
            have hc3 := cut_all Tryd.underlying24 Tryd.sizeByte P4 0 (by decide)
            clear hM hbt x5 xZ6 hbw6
            go_wp2_with fail
            refine (rmod_any wr (some ⟨P4, 0, none⟩) 32 32 u (byt_row hg.out) hul.out (by decide)).mono ?_
            rintro e W7 ⟨r, rfl, er, hr, hb7⟩
            have HE := vlt (show r = wl (ln a + ln b) by rw [er.out, HU.out, ex.out, ey.out, ln_wl, ln_wl]; exact wl_of (by rw [← Nat.add_mod]))
            have hbw7 := below_next hbw hbw.size hb7
            have hz7 : Hid (W7.heap[w.heap.size + 1 + 1]? = some (.cells (bv z32).toArray 24 (0, 0))) := (hb7.block _ sZ).trans hz.out
            have HLS := Lib.hid (bv_size r hr.out)
            clear er HU ex ey
            go_wp2_with (with_reducible refine wpList_store_row rfl 24 (.tmp 4) (.tmp 35) rfl (w.heap.size + 1 + 1) (bv r).toArray rfl rfl 24 _ hz7.out (by rw [HLS.out]; kernel_rfl) (by rw [HLS.out]; kernel_rfl) (all_oneCell_toArray (bv_one _)) ?_)
            refine bodyPost_ret (v := .agg (bv r).toArray) (results_cell_row Tryd.results17 _ _ (w.heap.size + 1 + 1) 24 _ (0, 0) _ rfl (setRow_heap _ _ _ _ _ _ hz7.out) Tryd.underlying24 rfl (by rw [HLS.out]; kernel_rfl)) rfl ⟨r, rfl, HE, hr, below_setRow hbw7 (by omega) _⟩
    · refine step_new_word (by rfl) rfl ?_
      intro P4 W2 hP4 z4 g2 l4
      have lP4 : W.heap.size ≤ P4 := by have := hHeld.size; have := hP4.out; omega
      have t2 := g2.size
      have hB2 := below_next hHeld hHeld.size g2
      refine hK.out _ _ (hB2) (fun hHeld => ?_)
      clear hK K
      try simp only [Act.put, List.setIfInBounds_toArray, List.set_cons_zero, List.set_cons_succ]
      refine wpAnyH_ready (rs := [1]) (by kernel_rfl) (by simp) ?_
      refine AllReadyH.cons (i := 1) (o := ⟨(some 10), _, _, _, _, _⟩) rfl (fun K hK => ?_) AllReadyH.nil
      go_simp
      refine (rmod_any _ (some ⟨w.heap.size, 0, none⟩) 32 32 a (byt_row ((hHeld.block _ sA).trans hgA.out)) HA.out (by decide)).mono ?_
      rintro e W3 ⟨x, rfl, ex, hx, g3⟩
      have t3 := g3.size
      have hB3 := below_next hHeld hHeld.size g3
      refine hK.out _ _ (hB3) (fun hHeld => ?_)
      clear hK K
      try simp only [Act.put, List.setIfInBounds_toArray, List.set_cons_zero, List.set_cons_succ]
      refine wpAnyH_ready (rs := [3]) (by kernel_rfl) (by simp) ?_
      refine AllReadyH.cons (i := 3) (o := ⟨(some 12), _, _, _, _, _⟩) rfl (fun K hK => ?_) AllReadyH.nil
      go_simp
      refine (rmod_any _ (some ⟨(w.heap.size + 1), 0, none⟩) 32 32 b (byt_row ((hHeld.block _ sB).trans hgB.out)) HB.out (by decide)).mono ?_
      rintro e W4 ⟨y, rfl, ey, hy, g4⟩
      have t4 := g4.size
      have hB4 := below_next hHeld hHeld.size g4
      refine hK.out _ _ (hB4) (fun hHeld => ?_)
      clear hK K
      try simp only [Act.put, List.setIfInBounds_toArray, List.set_cons_zero, List.set_cons_succ]
      refine wpAnyH_ready (rs := [6]) (by kernel_rfl) (by simp) ?_
      refine AllReadyH.cons (i := 6) (o := ⟨none, _, _, _, _, _⟩) rfl (fun K hK => ?_) AllReadyH.nil
      have hne : P4 ≠ P5 := by have := hP4.out; have := hP5.out; omega
      have HXS := Lib.hid (bv_size x hx.out)
      have HYS := Lib.hid (bv_size y hy.out)
      refine step_store_row rfl 24 (.tmp 5) (.tmp 10) rfl P4 (bv x).toArray rfl rfl 24 _ ((row_next (row_next z4 g3) g4)).out (by rw [HXS.out]; kernel_rfl) (by rw [HXS.out]; kernel_rfl) (all_oneCell_toArray (bv_one _)) ?_
      have y4 : Hid ((W4.setRow P4 (bv x).toArray).heap[P4]? = some (.cells (bv x).toArray 24 (0, 0))) := setRow_heap _ _ _ _ _ _ ((row_next (row_next z4 g3) g4)).out
      have y5 : Hid ((W4.setRow P4 (bv x).toArray).heap[P5]? = some (.cells (bv z32).toArray 24 (0, 0))) := (setRow_other _ _ _ _ (Ne.symm hne)).trans ((row_next (row_next (row_next z5 g2) g3) g4)).out
      have hB5 := below_setRow hHeld lP4 (bv x).toArray
      generalize W4.setRow P4 (bv x).toArray = W5 at *
      refine hK.out _ _ (hB5) (fun hHeld => ?_)
      clear hK K
      try simp only [Act.put]
      refine wpAnyH_ready (rs := [7]) (by kernel_rfl) (by simp) ?_
      refine AllReadyH.cons (i := 7) (o := ⟨none, _, _, _, _, _⟩) rfl (fun K hK => ?_) AllReadyH.nil
      refine step_store_row rfl 24 (.tmp 6) (.tmp 12) rfl P5 (bv y).toArray rfl rfl 24 _ y5.out (by rw [HYS.out]; kernel_rfl) (by rw [HYS.out]; kernel_rfl) (all_oneCell_toArray (bv_one _)) ?_
      have x5 : Hid ((W5.setRow P5 (bv y).toArray).heap[P5]? = some (.cells (bv y).toArray 24 (0, 0))) := setRow_heap _ _ _ _ _ _ y5.out
      have x4 : Hid ((W5.setRow P5 (bv y).toArray).heap[P4]? = some (.cells (bv x).toArray 24 (0, 0))) := (setRow_other _ _ _ _ hne).trans y4.out
      have hB6 := below_setRow hHeld lP5 (bv y).toArray
      generalize W5.setRow P5 (bv y).toArray = W6 at *
      refine hK.out _ _ (hB6) (fun hHeld => ?_)
      clear hK K
      try simp only [Act.put]
      refine wpAnyH_done (by kernel_rfl) ?_ _
      have hbw6 := below_next hbW hbW.size hHeld
      have xZ6 := Lib.hid ((hHeld.block _ sZ).trans hgZ.out)
      have sZ6 : w.heap.size + 2 < W6.heap.size := (Array.getElem?_eq_some_iff.1 xZ6.out).1
      have s4 : P4 < W6.heap.size := (Array.getElem?_eq_some_iff.1 x4.out).1
      have s5 : P5 < W6.heap.size := (Array.getElem?_eq_some_iff.1 x5.out).1
      clear hHeld hB6 g1 g2 g3 g4 hB1 hB2 hB3 hB4 hB5 z4 z5 hP4 hP5 l4 l5 y4 y5 t1 t2 t3 t4
      go_wp2_with fail
      go_loopw [7, 8] (fun cc s wr => ∃ (k c : Nat) (u : List UInt8), k ≤ 32 ∧ s = .int .i64 (k : Int) ∧ cc = .int .i64 (c : Int) ∧ c ≤ 1 ∧ Hid (wr.heap[P4]? = some (.cells (bv u).toArray 24 (0, 0))) ∧ Vlt (Pls x y u k c) ∧ But P4 W6 wr) (fun _ s _ => 32 - (intOf s).toNat)
      case atStart => exact ⟨0, 0, x, by omega, rfl, rfl, by decide, x4, vlt (Pls.first hx.out), But.refl _ _⟩
      case round =>
        clear x4
        obtain ⟨k, c, u, hk, rfl, rfl, hc, hg, hM, hbt⟩ := hrel
        by_cases hlt : k < 32
        · have gy : wr.heap[P5]? = some (.cells (bv y).toArray 24 (0, 0)) := (hbt.block _ s5 (by intro e; injection e; omega)).trans x5.out
          have hul := Lib.hid hM.out.len
          have c0 := nb_cell hg.out (show k < u.length by rw [hul.out]; exact hlt)
          rw [hM.out.rest k (Nat.le_refl _)] at c0
          have c1 := nb_cell gy (show k < y.length by rw [hy.out]; exact hlt)
          have lx := nb_lt x k
          have ly := nb_lt y k
          have hst := vlt (hM.out.step hy.out hlt)
          have f0 : wr.frozen? ⟨P4, k, none⟩ = false := frozen_of_row _ _ _ _ _ hg.out
          have lv : (c + nb x k + nb y k) % 256 < 256 := by omega
          have lt : (c + nb x k + nb y k) / 256 ≤ 1 := by omega
          generalize nb x k = xk at *
          generalize nb y k = yk at *
          have hw1 : IntKind.i64.wrap ((c : Int) + (xk : Int)) = (c : Int) + (xk : Int) := IntWalk.i64_in _ (by omega)
          have hw2 : IntKind.i64.wrap ((c : Int) + (xk : Int) + (yk : Int)) = ((c + xk + yk : Nat) : Int) := by rw [show (c : Int) + (xk : Int) + (yk : Int) = ((c + xk + yk : Nat) : Int) by omega]; exact IntWalk.i64_in _ (by omega)
          have lN : c + xk + yk < 1000 := by omega
          generalize c + xk + yk = N at *
          have ev : (N : Int) % 256 = ((N % 256 : Nat) : Int) := by omega
          have ed : (N : Int) / 256 = ((N / 256 : Nat) : Int) := by omega
          have hset := world_set_cell hg.out k (.int .u8 ((N % 256 : Nat) : Int))
          rw [bv_put _ _ _ lv] at hset
          have hb2 := hbt.set (i := k) (.int .u8 ((N % 256 : Nat) : Int))
          generalize N % 256 = v at *
          generalize N / 256 = d at *
          clear gy hM
          go_wp2_with fail
          go_region
          go_wp2_with fail
          go_roundw
          case rel => exact ⟨k + 1, d, _, by omega, by go_num, rfl, lt, hset, hst, hb2.drew⟩
          case measure => simp [intOf]; omega
        · obtain rfl : k = 32 := by omega
          have HU := vlt (hM.out.all hy.out (by rw [ex.out, ln_wl]; exact Nat.mod_lt _ fl_pos) (by rw [ey.out, ln_wl]; exact Nat.mod_lt _ fl_pos))
          have hul := Lib.hid hM.out.len
          have hz : Hid (wr.heap[w.heap.size + 2]? = some (.cells (bv z32).toArray 24 (0, 0))) := (hbt.block _ sZ6 (by intro e; injection e; omega)).trans xZ6.out
          have hbw : Below w.heap.size w wr := But.below hbw6 hbt (by omega) (by omega)
          have sZ : w.heap.size + 2 < wr.heap.size := (Array.getElem?_eq_some_iff.1 hz.out).1
          have hc3 := cut_all Tryd.underlying24 Tryd.sizeByte P4 0 (by decide)
          clear hM hbt x5 xZ6 hbw6
          go_wp2_with fail
          refine (rmod_any wr (some ⟨P4, 0, none⟩) 32 32 u (byt_row hg.out) hul.out (by decide)).mono ?_
          rintro e W7 ⟨r, rfl, er, hr, hb7⟩
          have HE := vlt (show r = wl (ln a + ln b) by rw [er.out, HU.out, ex.out, ey.out, ln_wl, ln_wl]; exact wl_of (by rw [← Nat.add_mod]))
          have hbw7 := below_next hbw hbw.size hb7
          have hz7 : Hid (W7.heap[w.heap.size + 1 + 1]? = some (.cells (bv z32).toArray 24 (0, 0))) := (hb7.block _ sZ).trans hz.out
          have HLS := Lib.hid (bv_size r hr.out)
          clear er HU ex ey
          go_wp2_with (with_reducible refine wpList_store_row rfl 24 (.tmp 4) (.tmp 35) rfl (w.heap.size + 1 + 1) (bv r).toArray rfl rfl 24 _ hz7.out (by rw [HLS.out]; kernel_rfl) (by rw [HLS.out]; kernel_rfl) (all_oneCell_toArray (bv_one _)) ?_)
          refine bodyPost_ret (v := .agg (bv r).toArray) (results_cell_row Tryd.results17 _ _ (w.heap.size + 1 + 1) 24 _ (0, 0) _ rfl (setRow_heap _ _ _ _ _ _ hz7.out) Tryd.underlying24 rfl (by rw [HLS.out]; kernel_rfl)) rfl ⟨r, rfl, HE, hr, below_setRow hbw7 (by omega) _⟩
end Go.Proofs.YtlobejnohkecdaaDoor
