/-
  Contracts of the document's own ScSub and ScMul. Conditions: words of 32 bytes.
-/
import Derived.Test.YtlobejnohkecdaaDoorRsN
import Derived.Test.YtlobejnohkecdaaDoorRsP
import Derived.Test.YtlobejnohkecdaaDoorRegC
namespace Go.Proofs.YtlobejnohkecdaaDoor
open Go.RowKit

theorem z32_mod (b : Nat) (h : wl b = z32) : b % FL = 0 := by
  have h1 := congrArg ln h
  rwa [ln_wl, ln_z32'] at h1
theorem nought_less (a b : Nat) (h : b % FL = 0) : (a + b * (FL - 1)) % FL = a % FL := by
  rw [fl_eq] at *
  omega

set_option maxRecDepth 100000 in
set_option maxHeartbeats 1000000 in
theorem rscmul_any (w : World) (a b : List UInt8) (ha : a.length = 32) (hb : b.length = 32) :
    Calls Tryd.prog 20 #[.agg (bv a).toArray, .agg (bv b).toArray] w fun e w' => ∃ l, e = .returned (.agg (bv l).toArray) ∧ Vlt (l = wl (ln a * ln b)) ∧ Hid (l.length = 32) ∧ Below w.heap.size w w' := by
  have hzw := zero_word
  obtain ⟨W, hW, hgA, hgB, hgZ, hbW, hsW⟩ := three_new w (bv a).toArray (bv b).toArray (bv z32).toArray 24 24 24
  have HW := Lib.hid hW
  have HA := Lib.hid ha
  have HB := Lib.hid hb
  have HAS := Lib.hid (bv_size a ha)
  have HBS := Lib.hid (bv_size b hb)
  have hs : w.heap.size + 2 < W.heap.size := by have := hsW.out; omega
  clear hW ha hb hsW
  go_enter Tryd.func20, Tryd.ntmps20
  go_upto_region 1 with fail
  rw [HW.out]
  go_wp2_with (first
    | (with_reducible refine wpList_load_row rfl 24 (.tmp 2) rfl w.heap.size rfl 24 (bv a).toArray (0, 0) _ hgA.out Tryd.underlying24 rfl (by rw [HAS.out]; kernel_rfl) ?_)
    | (with_reducible refine wpList_load_row rfl 24 (.tmp 3) rfl (w.heap.size + 1) rfl 24 (bv b).toArray (0, 0) _ hgB.out Tryd.underlying24 rfl (by rw [HBS.out]; kernel_rfl) ?_))
  refine (rproduct_any W a b HA.out HB.out).mono ?_
  rintro e w1 ⟨A', c', l, rfl, hby, hl, hln, hb1⟩
  have hbw1 := below_next hbW hbW.size hb1
  have hz1 : Hid (w1.heap[w.heap.size + 2]? = some (.cells (bv z32).toArray 24 (0, 0))) := (hb1.block _ (by omega)).trans hgZ.out
  have hs1 : w.heap.size + 2 < w1.heap.size := (Array.getElem?_eq_some_iff.1 hz1.out).1
  go_wp2_with fail
  refine (rmod_any w1 A' 64 c' l hby hl.out (by decide)).mono ?_
  rintro e w2 ⟨r, rfl, er, hr, hb2⟩
  have HE := vlt (show r = wl (ln a * ln b) by rw [er.out, hln.out])
  clear er hln
  have hbw2 := below_next hbw1 hbw1.size hb2
  have hz2 : Hid (w2.heap[w.heap.size + 1 + 1]? = some (.cells (bv z32).toArray 24 (0, 0))) := (hb2.block _ (by omega)).trans hz1.out
  have HLS := Lib.hid (bv_size r hr.out)
  go_wp2_with (with_reducible refine wpList_store_row rfl 24 (.tmp 4) (.tmp 8) rfl (w.heap.size + 1 + 1) (bv r).toArray rfl rfl 24 _ hz2.out (by rw [HLS.out]; kernel_rfl) (by rw [HLS.out]; kernel_rfl) (all_oneCell_toArray (bv_one _)) ?_)
  refine bodyPost_ret (v := .agg (bv r).toArray) (results_cell_row Tryd.results20 _ _ (w.heap.size + 1 + 1) 24 _ (0, 0) _ rfl (setRow_heap _ _ _ _ _ _ hz2.out) Tryd.underlying24 rfl (by rw [HLS.out]; kernel_rfl)) rfl ⟨r, rfl, HE, hr, below_setRow hbw2 (by omega) _⟩

set_option maxRecDepth 100000 in
set_option maxHeartbeats 2000000 in
theorem rscsub_any (w : World) (a b : List UInt8) (ha : a.length = 32) (hb : b.length = 32) :
    Calls Tryd.prog 19 #[.agg (bv a).toArray, .agg (bv b).toArray] w fun e w' => ∃ l, e = .returned (.agg (bv l).toArray) ∧ Vlt (l = wl (ln a + ln b * (FL - 1))) ∧ Hid (l.length = 32) ∧ Below w.heap.size w w' := by
  have hzw := zero_word
  have hbuild := built_wz'
  obtain ⟨W, hW, hgA, hgB, hgZ, hbW, hsW⟩ := three_new w (bv a).toArray (bv b).toArray (bv z32).toArray 24 24 24
  have HW := Lib.hid hW
  have HA := Lib.hid ha
  have HB := Lib.hid hb
  have HAS := Lib.hid (show (bv a).length = 32 by rw [bv_len, ha])
  have hs : w.heap.size + 2 < W.heap.size := by have := hsW.out; omega
  clear hW ha hb hsW
  have hc1 := cut_all Tryd.underlying24 Tryd.sizeByte w.heap.size 0 (by decide)
  have hc2 := cut_all Tryd.underlying24 Tryd.sizeByte (w.heap.size + 1) 0 (by decide)
  go_enter Tryd.func19, Tryd.ntmps19
  go_upto_region 1 with fail
  rw [HW.out]
  go_wp2_with fail
  refine (rmod_any W (some ⟨w.heap.size + 1, 0, none⟩) 32 32 b (byt_row hgB.out) HB.out (by decide)).mono ?_
  rintro e w1 ⟨y, rfl, ey, hy, hb1⟩
  have hbw1 := below_next hbW hbW.size hb1
  have ga1 : Hid (w1.heap[w.heap.size]? = some (.cells (bv a).toArray 24 (0, 0))) := (hb1.block _ (by omega)).trans hgA.out
  have hz1 : Hid (w1.heap[w.heap.size + 2]? = some (.cells (bv z32).toArray 24 (0, 0))) := (hb1.block _ (by omega)).trans hgZ.out
  have hs1 : w.heap.size + 2 < w1.heap.size := (Array.getElem?_eq_some_iff.1 hz1.out).1
  have HYS := Lib.hid (bv_size y hy.out)
  have HYL := Lib.hid (show (bv y).length = 32 by rw [bv_len, hy.out])
  go_upto_region 2 with ((with_reducible refine wpList_store_row rfl 24 (.tmp 5) (.tmp 7) rfl w1.heap.size (bv y).toArray rfl rfl 24 _ (heap_alloc_new _ _) (by rw [HYS.out]; kernel_rfl) (by rw [HYS.out]; kernel_rfl) (all_oneCell_toArray (bv_one _)) ?_); rw [World.setRow_alloc_new])
  obtain ⟨V, hX, gY, hbV, hsX⟩ := one_new w1 (bv y).toArray 24
  rw [hX]
  have hbw := below_next hbw1 hbw1.size hbV
  have gA : Hid (V.heap[w.heap.size]? = some (.cells (bv a).toArray 24 (0, 0))) := (hbV.block _ (by omega)).trans ga1.out
  have gZ : Hid (V.heap[w.heap.size + 2]? = some (.cells (bv z32).toArray 24 (0, 0))) := (hbV.block _ (by omega)).trans hz1.out
  obtain ⟨G, hG⟩ : ∃ G, G = w1.heap.size := ⟨_, rfl⟩
  rw [← hG] at gY hs1 ⊢
  have sG : G < V.heap.size := (Array.getElem?_eq_some_iff.1 gY.out).1
  have sA : w.heap.size < V.heap.size := (Array.getElem?_eq_some_iff.1 gA.out).1
  have sZ : w.heap.size + 2 < V.heap.size := (Array.getElem?_eq_some_iff.1 gZ.out).1
  clear hX hsX hG hbV hb1 hgA hgB hgZ hbW hz1 ga1 hbw1 HW hs
  by_cases hyz : y = z32
  · subst hyz
    have hb0 := z32_mod (ln b) ey.out.symm
    have HB0 := vlt hb0
    have hq := eql_bytes_same (P := Tryd.prog) Tryd.underlying24 Tryd.underlying5 Tryd.sizeByte z32 z32_len
    clear hb0 ey
    go_wp2_with (first
      | (with_reducible refine wpList_load_row rfl 24 (.tmp 5) rfl G rfl 24 (bv z32).toArray (0, 0) _ gY.out Tryd.underlying24 rfl (by rw [HYS.out]; kernel_rfl) ?_)
      | (with_reducible refine wpList_build_as rfl 24 rfl (bv z32).toArray hbuild ?_))
    refine (rmod_any V (some ⟨w.heap.size, 0, none⟩) 32 32 a (byt_row gA.out) HA.out (by decide)).mono ?_
    rintro e w2 ⟨r, rfl, er, hr, hb2⟩
    have HE := vlt (show r = wl (ln a + ln b * (FL - 1)) by rw [er.out]; exact (wl_of (nought_less _ _ HB0.out)).symm)
    clear er
    have hbw2 := below_next hbw hbw.size hb2
    have hz2 : Hid (w2.heap[w.heap.size + 1 + 1]? = some (.cells (bv z32).toArray 24 (0, 0))) := (hb2.block _ (by omega)).trans gZ.out
    have HLS := Lib.hid (bv_size r hr.out)
    go_wp2_with (with_reducible refine wpList_store_row rfl 24 (.tmp 4) (.tmp 12) rfl (w.heap.size + 1 + 1) (bv r).toArray rfl rfl 24 _ hz2.out (by rw [HLS.out]; kernel_rfl) (by rw [HLS.out]; kernel_rfl) (all_oneCell_toArray (bv_one _)) ?_)
    refine bodyPost_ret (v := .agg (bv r).toArray) (results_cell_row Tryd.results19 _ _ (w.heap.size + 1 + 1) 24 _ (0, 0) _ rfl (setRow_heap _ _ _ _ _ _ hz2.out) Tryd.underlying24 rfl (by rw [HLS.out]; kernel_rfl)) rfl ⟨r, rfl, HE, hr, below_setRow hbw2 (by omega) _⟩
  · have hq : ∀ w0, (binOp .eql 24 (.agg (bv y).toArray) (.agg (bv z32).toArray)).run Tryd.prog w0 = .ok (.bool false) w0 := fun w0 => by
      rw [eql_bytes (P := Tryd.prog) Tryd.underlying24 Tryd.underlying5 Tryd.sizeByte y z32 hy.out z32_len w0, decide_eq_false hyz]
    clear hyz
    go_upto_region 4 with (first
      | (with_reducible refine wpList_load_row rfl 24 (.tmp 5) rfl G rfl 24 (bv y).toArray (0, 0) _ gY.out Tryd.underlying24 rfl (by rw [HYS.out]; kernel_rfl) ?_)
      | (with_reducible refine wpList_build_as rfl 24 rfl (bv z32).toArray hbuild ?_))
    refine c_start (S := (fun W' => Below V.heap.size V W')) 5 (by kernel_rfl) ((Below.refl _ _).drew) (fun hHeld => ?_)
    refine c_read (i := 0) (oi := ⟨(some 13), _, _, _, _, _⟩) (v := _) rfl (by decide) (by kernel_rfl) (by kernel_rfl) (by kernel_rfl) (by kernel_rfl) (by kernel_rfl) (fun _ _ _ h => h) (yieldsIf_load_mid (by rfl) _ _ rfl w.heap.size 0 rfl (bv a) _ (fun W' hW' => range_row ((hW'.block _ sA).trans gA.out)) (Tryd.underlying24) (rfl) (by rw [HAS.out]; kernel_rfl)) hHeld ?_
    try simp only [Act.put, List.setIfInBounds_toArray, List.set_cons_zero, List.set_cons_succ]
    refine c_read (i := 2) (oi := ⟨(some 15), _, _, _, _, _⟩) (v := _) rfl (by decide) (by kernel_rfl) (by kernel_rfl) (by kernel_rfl) (by kernel_rfl) (by kernel_rfl) (fun _ _ _ h => h) (yieldsIf_load_mid (by rfl) _ _ rfl G 0 rfl (bv y) _ (fun W' hW' => range_row ((hW'.block _ sG).trans gY.out)) (Tryd.underlying24) (rfl) (by rw [HYL.out]; kernel_rfl)) hHeld ?_
    try simp only [Act.put, List.setIfInBounds_toArray, List.set_cons_zero, List.set_cons_succ]
    refine c_step (i := 1) (o := ⟨(some 14), _, _, _, _, _⟩) (by kernel_rfl) rfl (fun K hK => ?_)
    go_simp
    refine (rorder_any _).mono ?_
    rintro e w2 ⟨o, rfl, eo, ho, hb2⟩
    refine hK.out _ _ (below_next hHeld hHeld.size hb2) (fun hHeld => ?_)
    clear hK K
    try simp only [Act.put, List.setIfInBounds_toArray, List.set_cons_zero, List.set_cons_succ]
    refine c_step (i := 3) (o := ⟨(some 16), _, _, _, _, _⟩) (by kernel_rfl) rfl (fun K hK => ?_)
    go_simp
    refine (rminus_any _ o y ho.out hy.out (by rw [eo.out, ln_ordW, ey.out, ln_wl]; exact Nat.le_of_lt (Nat.mod_lt _ fl_pos))).mono ?_
    rintro e w3 ⟨m, rfl, em, hm, hb3⟩
    refine hK.out _ _ (below_next hHeld hHeld.size hb3) (fun hHeld => ?_)
    clear hK K
    try simp only [Act.put, List.setIfInBounds_toArray, List.set_cons_zero, List.set_cons_succ]
    refine c_step (i := 4) (o := ⟨(some 17), _, _, _, _, _⟩) (by kernel_rfl) rfl (fun K hK => ?_)
    go_simp
    refine (rscadd_any _ a m HA.out hm.out).mono ?_
    rintro e w4 ⟨r, rfl, er, hr, hb4⟩
    refine hK.out _ _ (below_next hHeld hHeld.size hb4) (fun hHeld => ?_)
    clear hK K
    try simp only [Act.put, List.setIfInBounds_toArray, List.set_cons_zero, List.set_cons_succ]
    have HE := vlt (show r = wl (ln a + ln b * (FL - 1)) by rw [er.out, em.out, eo.out, ln_ordW, ey.out, ln_wl]; exact wl_of (less_is _ _))
    have gZ4 := Lib.hid ((hHeld.block _ sZ).trans gZ.out)
    have hbw4 := below_next hbw hbw.size hHeld
    have HLS := Lib.hid (bv_size r hr.out)
    clear er em eo
    refine c_call (S' := (fun _ => True)) (o := ⟨none, _, _, _, _, _⟩) (by kernel_rfl) (by kernel_rfl) rfl (fun K hK => ?_)
    clear hHeld
    refine step_store_row rfl 24 (.tmp 4) (.tmp 17) rfl (w.heap.size + 1 + 1) (bv r).toArray rfl rfl 24 _ gZ4.out (by rw [HLS.out]; kernel_rfl) (by rw [HLS.out]; kernel_rfl) (all_oneCell_toArray (bv_one _)) ?_
    refine hK.out _ _ (trivial) (fun hHeld => ?_)
    clear hK K
    try simp only [Act.put]
    refine wpAnyH_done (by kernel_rfl) ?_ _
    go_wp2_with fail
    refine bodyPost_ret (v := .agg (bv r).toArray) (results_cell_row Tryd.results19 _ _ (w.heap.size + 1 + 1) 24 _ (0, 0) _ rfl (setRow_heap _ _ _ _ _ _ gZ4.out) Tryd.underlying24 rfl (by rw [HLS.out]; kernel_rfl)) rfl ⟨r, rfl, HE, hr, below_setRow hbw4 (by omega) _⟩
end Go.Proofs.YtlobejnohkecdaaDoor
