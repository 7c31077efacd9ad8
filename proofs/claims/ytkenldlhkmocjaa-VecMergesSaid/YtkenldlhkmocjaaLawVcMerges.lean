/-
  VecMerges: the law's Go text returns true, whatever the three. Conditions: none beyond the row's own.
-/
import Derived.Test.YtkenldlhkmocjaaVcW
import Derived.Test.YtkenldlhkmocjaaVcD
namespace Go.Proofs.Ytkenldlhkmocjaa
open Go.RowKit

theorem eql_vec (l m : List Int) (hl : l.length = 8) (hm : m.length = 8) (o : Bool) (ho : decide (l = m) = o) (w : World) : (binOp .eql 27 (.agg (i64v l).toArray) (.agg (i64v m).toArray)).run Try.prog w = .ok (.bool o) w := by
  rw [eql_ints (P := Try.prog) Try.underlying27 Try.underlying2 Try.sizeI64 l m hl hm, ho]
set_option maxRecDepth 100000 in
set_option maxHeartbeats 4000000 in
theorem walk_VecMerges (w : World) (a : List Int) (ha : a.length = 8) (_ : Hid (I64s a)) (b : List Int) (hb : b.length = 8) (_ : Hid (I64s b)) (c : List Int) (hc : c.length = 8) (_ : Hid (I64s c)) :
    Calls Try.prog 5 #[.agg (i64v a).toArray, .agg (i64v b).toArray, .agg (i64v c).toArray] w fun e w' => e = .returned (.bool true) ∧ Below w.heap.size w w' := by
  obtain ⟨W, hW, hgA, hgB, hgC, hbW, hsW⟩ := three_new w (i64v a).toArray (i64v b).toArray (i64v c).toArray 27 27 27
  have HW := Lib.hid hW
  have HA := Lib.hid ha
  have HB := Lib.hid hb
  have HC := Lib.hid hc
  clear hW ha hb hc hsW
  go_enter Try.func5, Try.ntmps5
  go_upto_region 1 with fail
  rw [HW.out]
  clear HW
  go_wp2_with fail
  refine (awake15_any W).mono ?_
  rintro e w1 ⟨rfl, hb1⟩
  have g1A := row_next2 hgA hb1
  have g1B := row_next2 hgB hb1
  have g1C := row_next2 hgC hb1
  have hbw1 := below_next hbW hbW.size hb1
  clear hgA hgB hgC hbW hb1
  go_wp2_with (first | (with_reducible refine wpList_load_row rfl 27 (.tmp 3) rfl w.heap.size rfl 27 (i64v a).toArray (0, 0) _ (g1A).out Try.underlying27 rfl (by rw [int8_size HA.out]; kernel_rfl) ?_) | (with_reducible refine wpList_load_row rfl 27 (.tmp 4) rfl (w.heap.size + 1) rfl 27 (i64v b).toArray (0, 0) _ (g1B).out Try.underlying27 rfl (by rw [int8_size HB.out]; kernel_rfl) ?_))
  refine (vmerge_any w1 a b HA.out HB.out).mono ?_
  rintro e w2 ⟨rfl, hb2⟩
  have g2A := row_next2 g1A hb2
  have g2B := row_next2 g1B hb2
  have g2C := row_next2 g1C hb2
  have hbw2 := below_next hbw1 hbw1.size hb2
  obtain ⟨m, hm⟩ : ∃ m, m = vmx a b := ⟨_, rfl⟩
  have HM := vlt hm
  have HML := Lib.hid (show m.length = 8 by rw [hm]; exact vmx_len HA.out HB.out)
  rw [← hm]
  clear hm hb2 hbw1 g1A g1B g1C
  go_upto_region 4 with ((with_reducible refine wpList_store_row rfl 27 (.tmp 7) (.tmp 12) rfl w2.heap.size (i64v m).toArray rfl rfl 27 _ (heap_alloc_new _ _) (by rw [int8_size HML.out]; kernel_rfl) (by rw [int8_size HML.out]; kernel_rfl) (all_oneCell_toArray (i64v_one _)) ?_); rw [World.setRow_alloc_new])
  obtain ⟨V, hV⟩ : ∃ V, V = w2.alloc (.cells (i64v m).toArray 27) := ⟨_, rfl⟩
  rw [← hV]
  have gA := row_next2 g2A (show Below w2.heap.size w2 V by rw [hV]; exact (Below.refl _ _).alloc (Nat.le_refl _) _)
  have gB := row_next2 g2B (show Below w2.heap.size w2 V by rw [hV]; exact (Below.refl _ _).alloc (Nat.le_refl _) _)
  have gC := row_next2 g2C (show Below w2.heap.size w2 V by rw [hV]; exact (Below.refl _ _).alloc (Nat.le_refl _) _)
  have gM : Hid (V.heap[w2.heap.size]? = some (.cells (i64v m).toArray 27 (0, 0))) := by rw [hV]; exact heap_alloc_new _ _
  have hbV : Below w.heap.size w V := by rw [hV]; exact hbw2.alloc hbw2.size _
  obtain ⟨G, hG⟩ : ∃ G, G = w2.heap.size := ⟨_, rfl⟩
  rw [← hG] at gM ⊢
  clear hV hG hbw2 g2A g2B g2C
  have sA := row_size gA
  have sB := row_size gB
  have sC := row_size gC
  have sM := row_size gM
  have m1 := Lib.hid (show vle a m = true by rw [HM.out]; exact vle_left HA.out HB.out)
  have m2 := Lib.hid (show vle b m = true by rw [HM.out]; exact vle_right HA.out HB.out)
  have m3 := Lib.hid (show vmx b a = m by rw [HM.out, vmx_comm])
  obtain ⟨q, hq⟩ : ∃ q, q = vmx b c := ⟨_, rfl⟩
  have m4 := Lib.hid (show vmx a q = vmx m c by rw [HM.out, hq]; exact (vmx_assoc HA.out HB.out HC.out).symm)
  have HQ := Lib.hid (show q.length = 8 by rw [hq]; exact vmx_len HB.out HC.out)
  have HQE := Lib.hid hq.symm
  obtain ⟨p, hp⟩ : ∃ p, p = vmx m c := ⟨_, rfl⟩
  have HP := Lib.hid (show p.length = 8 by rw [hp]; exact vmx_len HML.out HC.out)
  have HPE := Lib.hid hp.symm
  have m5 := Lib.hid (vmx_self a)
  have m6 := fun h1 h2 => Lib.hid (show vle m c = true by rw [HM.out]; exact vle_least HA.out HB.out HC.out h1 h2)
  obtain ⟨o1, ho1⟩ : ∃ o, o = vle a c := ⟨_, rfl⟩
  obtain ⟨o2, ho2⟩ : ∃ o, o = vle b c := ⟨_, rfl⟩
  obtain ⟨o3, ho3⟩ : ∃ o, o = decide (a = b) := ⟨_, rfl⟩
  obtain ⟨k, hk⟩ : ∃ k, k = vcmp a b := ⟨_, rfl⟩
  have m7 := Lib.hid (show (k == 0) = o3 by rw [hk, ho3]; exact vcmp_zero a b)
  have c1 := fun w => vle_any w a m HA.out HML.out
  have c2 := fun w => vle_any w b m HB.out HML.out
  have c3 := fun w => vmerge_any w b a HB.out HA.out
  have c4 := fun w => vmerge_any w m c HML.out HC.out
  have c5 := fun w => vmerge_any w b c HB.out HC.out
  have c6 := fun w => vmerge_any w a q HA.out HQ.out
  have c7 := fun w => vmerge_any w a a HA.out HA.out
  have c8 := fun w => vle_any w a c HA.out HC.out
  have c9 := fun w => vle_any w b c HB.out HC.out
  have c10 := fun w => vle_any w m c HML.out HC.out
  have c11 := fun w => vcmp_any w a b HA.out HB.out
  simp only [m1.out] at c1
  simp only [m2.out] at c2
  simp only [m3.out] at c3
  simp only [HPE.out] at c4
  simp only [HQE.out] at c5
  simp only [m4.out, HPE.out] at c6
  simp only [m5.out] at c7
  simp only [← ho1] at c8 m6
  simp only [← ho2] at c9 m6
  simp only [← hk] at c11
  have q1 := eql_vec m m HML.out HML.out true (by simp)
  have q2 := eql_vec p p HP.out HP.out true (by simp)
  have q3 := eql_vec a a HA.out HA.out true (by simp)
  have q4 := eql_vec a b HA.out HB.out o3 ho3.symm
  clear hq hp ho1 ho2 ho3 hk m1 m2 m3 m4 m5 HQE HPE HM
  cases o1
  · clear m6 c9 c10
    refine wp_region_held_drew (S := fun W' => Below V.heap.size V W') (by kernel_rfl) ((Below.refl _ _).drew) (fun hHeld => ?_)
    refine wpAnyH_take (i := 0) (oi := ⟨(some 13), _, _, _, _, _⟩) (v := .agg (i64v a).toArray) rfl (by kernel_rfl) (by kernel_rfl) (by kernel_rfl) (fun _ _ _ h => h) (yieldsIf_load_mid (by rfl) _ _ rfl w.heap.size 0 rfl (i64v a) _ (fun W' hW' => range_row ((hW'.block _ sA).trans gA.out)) (Try.underlying27) rfl (by rw [i64v_len, HA.out]; kernel_rfl)) hHeld ?_
    try simp only [pu]
    refine wpAnyH_take (i := 1) (oi := ⟨(some 14), _, _, _, _, _⟩) (v := .agg (i64v m).toArray) rfl (by kernel_rfl) (by kernel_rfl) (by kernel_rfl) (fun _ _ _ h => h) (yieldsIf_load_mid (by rfl) _ _ rfl G 0 rfl (i64v m) _ (fun W' hW' => range_row ((hW'.block _ sM).trans gM.out)) (Try.underlying27) rfl (by rw [i64v_len, HML.out]; kernel_rfl)) hHeld ?_
    try simp only [pu]
    refine wpAnyH_ready (rs := [2]) (by kernel_rfl) (by simp) ?_
    refine AllReadyH.cons (i := 2) (o := ⟨(some 15), _, _, _, _, _⟩) rfl (fun K hK => ?_) AllReadyH.nil
    go_simp
    refine (c1 _).mono ?_
    rintro e r4W1 ⟨rfl, r4h1⟩
    refine hK.out _ _ (below_next hHeld hHeld.size r4h1) (fun hHeld => ?_)
    clear hK K r4h1
    try simp only [pu]
    refine wpAnyH_take (i := 3) (oi := ⟨(some 16), _, _, _, _, _⟩) (v := .bool true) rfl (by kernel_rfl) (by kernel_rfl) (by kernel_rfl) (fun _ _ _ h => h) (Or.inl ⟨by rfl, ?yr4_3⟩) hHeld ?_
    case yr4_3 => (intro W0 hSw; go_simp; try with_reducible rfl)
    try simp only [pu]
    refine wpAnyH_take (i := 4) (oi := ⟨(some 17), _, _, _, _, _⟩) (v := .agg (i64v b).toArray) rfl (by kernel_rfl) (by kernel_rfl) (by kernel_rfl) (fun _ _ _ h => h) (yieldsIf_load_mid (by rfl) _ _ rfl (w.heap.size + 1) 0 rfl (i64v b) _ (fun W' hW' => range_row ((hW'.block _ sB).trans gB.out)) (Try.underlying27) rfl (by rw [i64v_len, HB.out]; kernel_rfl)) hHeld ?_
    try simp only [pu]
    refine wpAnyH_take (i := 5) (oi := ⟨(some 18), _, _, _, _, _⟩) (v := .agg (i64v m).toArray) rfl (by kernel_rfl) (by kernel_rfl) (by kernel_rfl) (fun _ _ _ h => h) (yieldsIf_load_mid (by rfl) _ _ rfl G 0 rfl (i64v m) _ (fun W' hW' => range_row ((hW'.block _ sM).trans gM.out)) (Try.underlying27) rfl (by rw [i64v_len, HML.out]; kernel_rfl)) hHeld ?_
    try simp only [pu]
    refine wpAnyH_ready (rs := [6]) (by kernel_rfl) (by simp) ?_
    refine AllReadyH.cons (i := 6) (o := ⟨(some 19), _, _, _, _, _⟩) rfl (fun K hK => ?_) AllReadyH.nil
    go_simp
    refine (c2 _).mono ?_
    rintro e r4W2 ⟨rfl, r4h2⟩
    refine hK.out _ _ (below_next hHeld hHeld.size r4h2) (fun hHeld => ?_)
    clear hK K r4h2
    try simp only [pu]
    refine wpAnyH_take (i := 7) (oi := ⟨(some 20), _, _, _, _, _⟩) (v := .bool true) rfl (by kernel_rfl) (by kernel_rfl) (by kernel_rfl) (fun _ _ _ h => h) (Or.inl ⟨by rfl, ?yr4_7⟩) hHeld ?_
    case yr4_7 => (intro W0 hSw; go_simp; try with_reducible rfl)
    try simp only [pu]
    refine wpAnyH_take (i := 8) (oi := ⟨(some 21), _, _, _, _, _⟩) (v := .bool true) rfl (by kernel_rfl) (by kernel_rfl) (by kernel_rfl) (fun _ _ _ h => h) (Or.inl ⟨by rfl, ?yr4_8⟩) hHeld ?_
    case yr4_8 => (intro W0 hSw; go_simp; try with_reducible rfl)
    try simp only [pu]
    refine wpAnyH_take (i := 9) (oi := ⟨(some 22), _, _, _, _, _⟩) (v := .agg (i64v m).toArray) rfl (by kernel_rfl) (by kernel_rfl) (by kernel_rfl) (fun _ _ _ h => h) (yieldsIf_load_mid (by rfl) _ _ rfl G 0 rfl (i64v m) _ (fun W' hW' => range_row ((hW'.block _ sM).trans gM.out)) (Try.underlying27) rfl (by rw [i64v_len, HML.out]; kernel_rfl)) hHeld ?_
    try simp only [pu]
    refine wpAnyH_take (i := 10) (oi := ⟨(some 23), _, _, _, _, _⟩) (v := .agg (i64v b).toArray) rfl (by kernel_rfl) (by kernel_rfl) (by kernel_rfl) (fun _ _ _ h => h) (yieldsIf_load_mid (by rfl) _ _ rfl (w.heap.size + 1) 0 rfl (i64v b) _ (fun W' hW' => range_row ((hW'.block _ sB).trans gB.out)) (Try.underlying27) rfl (by rw [i64v_len, HB.out]; kernel_rfl)) hHeld ?_
    try simp only [pu]
    refine wpAnyH_take (i := 11) (oi := ⟨(some 24), _, _, _, _, _⟩) (v := .agg (i64v a).toArray) rfl (by kernel_rfl) (by kernel_rfl) (by kernel_rfl) (fun _ _ _ h => h) (yieldsIf_load_mid (by rfl) _ _ rfl w.heap.size 0 rfl (i64v a) _ (fun W' hW' => range_row ((hW'.block _ sA).trans gA.out)) (Try.underlying27) rfl (by rw [i64v_len, HA.out]; kernel_rfl)) hHeld ?_
    try simp only [pu]
    refine wpAnyH_ready (rs := [12]) (by kernel_rfl) (by simp) ?_
    refine AllReadyH.cons (i := 12) (o := ⟨(some 25), _, _, _, _, _⟩) rfl (fun K hK => ?_) AllReadyH.nil
    go_simp
    refine (c3 _).mono ?_
    rintro e r4W3 ⟨rfl, r4h3⟩
    refine hK.out _ _ (below_next hHeld hHeld.size r4h3) (fun hHeld => ?_)
    clear hK K r4h3
    try simp only [pu]
    refine wpAnyH_take (i := 13) (oi := ⟨(some 26), _, _, _, _, _⟩) (v := .bool true) rfl (by kernel_rfl) (by kernel_rfl) (by kernel_rfl) (fun _ _ _ h => h) (Or.inl ⟨by rfl, ?yr4_13⟩) hHeld ?_
    case yr4_13 => (intro W0 hSw; go_simp; try simp only [q1]; try with_reducible rfl)
    try simp only [pu]
    refine wpAnyH_take (i := 14) (oi := ⟨(some 27), _, _, _, _, _⟩) (v := .bool true) rfl (by kernel_rfl) (by kernel_rfl) (by kernel_rfl) (fun _ _ _ h => h) (Or.inl ⟨by rfl, ?yr4_14⟩) hHeld ?_
    case yr4_14 => (intro W0 hSw; go_simp; try with_reducible rfl)
    try simp only [pu]
    refine wpAnyH_take (i := 15) (oi := ⟨(some 28), _, _, _, _, _⟩) (v := .bool true) rfl (by kernel_rfl) (by kernel_rfl) (by kernel_rfl) (fun _ _ _ h => h) (Or.inl ⟨by rfl, ?yr4_15⟩) hHeld ?_
    case yr4_15 => (intro W0 hSw; go_simp; try with_reducible rfl)
    try simp only [pu]
    refine wpAnyH_take (i := 16) (oi := ⟨(some 29), _, _, _, _, _⟩) (v := .agg (i64v m).toArray) rfl (by kernel_rfl) (by kernel_rfl) (by kernel_rfl) (fun _ _ _ h => h) (yieldsIf_load_mid (by rfl) _ _ rfl G 0 rfl (i64v m) _ (fun W' hW' => range_row ((hW'.block _ sM).trans gM.out)) (Try.underlying27) rfl (by rw [i64v_len, HML.out]; kernel_rfl)) hHeld ?_
    try simp only [pu]
    refine wpAnyH_take (i := 17) (oi := ⟨(some 30), _, _, _, _, _⟩) (v := .agg (i64v c).toArray) rfl (by kernel_rfl) (by kernel_rfl) (by kernel_rfl) (fun _ _ _ h => h) (yieldsIf_load_mid (by rfl) _ _ rfl (w.heap.size + 2) 0 rfl (i64v c) _ (fun W' hW' => range_row ((hW'.block _ sC).trans gC.out)) (Try.underlying27) rfl (by rw [i64v_len, HC.out]; kernel_rfl)) hHeld ?_
    try simp only [pu]
    refine wpAnyH_take (i := 19) (oi := ⟨(some 32), _, _, _, _, _⟩) (v := .agg (i64v a).toArray) rfl (by kernel_rfl) (by kernel_rfl) (by kernel_rfl) (fun _ _ _ h => h) (yieldsIf_load_mid (by rfl) _ _ rfl w.heap.size 0 rfl (i64v a) _ (fun W' hW' => range_row ((hW'.block _ sA).trans gA.out)) (Try.underlying27) rfl (by rw [i64v_len, HA.out]; kernel_rfl)) hHeld ?_
    try simp only [pu]
    refine wpAnyH_take (i := 20) (oi := ⟨(some 33), _, _, _, _, _⟩) (v := .agg (i64v b).toArray) rfl (by kernel_rfl) (by kernel_rfl) (by kernel_rfl) (fun _ _ _ h => h) (yieldsIf_load_mid (by rfl) _ _ rfl (w.heap.size + 1) 0 rfl (i64v b) _ (fun W' hW' => range_row ((hW'.block _ sB).trans gB.out)) (Try.underlying27) rfl (by rw [i64v_len, HB.out]; kernel_rfl)) hHeld ?_
    try simp only [pu]
    refine wpAnyH_take (i := 21) (oi := ⟨(some 34), _, _, _, _, _⟩) (v := .agg (i64v c).toArray) rfl (by kernel_rfl) (by kernel_rfl) (by kernel_rfl) (fun _ _ _ h => h) (yieldsIf_load_mid (by rfl) _ _ rfl (w.heap.size + 2) 0 rfl (i64v c) _ (fun W' hW' => range_row ((hW'.block _ sC).trans gC.out)) (Try.underlying27) rfl (by rw [i64v_len, HC.out]; kernel_rfl)) hHeld ?_
    try simp only [pu]
    refine wpAnyH_ready (rs := [18]) (by kernel_rfl) (by simp) ?_
    refine AllReadyH.cons (i := 18) (o := ⟨(some 31), _, _, _, _, _⟩) rfl (fun K hK => ?_) AllReadyH.nil
    go_simp
    refine (c4 _).mono ?_
    rintro e r4W4 ⟨rfl, r4h4⟩
    refine hK.out _ _ (below_next hHeld hHeld.size r4h4) (fun hHeld => ?_)
    clear hK K r4h4
    try simp only [pu]
    refine wpAnyH_ready (rs := [22]) (by kernel_rfl) (by simp) ?_
    refine AllReadyH.cons (i := 22) (o := ⟨(some 35), _, _, _, _, _⟩) rfl (fun K hK => ?_) AllReadyH.nil
    go_simp
    refine (c5 _).mono ?_
    rintro e r4W5 ⟨rfl, r4h5⟩
    refine hK.out _ _ (below_next hHeld hHeld.size r4h5) (fun hHeld => ?_)
    clear hK K r4h5
    try simp only [pu]
    refine wpAnyH_ready (rs := [23]) (by kernel_rfl) (by simp) ?_
    refine AllReadyH.cons (i := 23) (o := ⟨(some 36), _, _, _, _, _⟩) rfl (fun K hK => ?_) AllReadyH.nil
    go_simp
    refine (c6 _).mono ?_
    rintro e r4W6 ⟨rfl, r4h6⟩
    refine hK.out _ _ (below_next hHeld hHeld.size r4h6) (fun hHeld => ?_)
    clear hK K r4h6
    try simp only [pu]
    refine wpAnyH_take (i := 24) (oi := ⟨(some 37), _, _, _, _, _⟩) (v := .bool true) rfl (by kernel_rfl) (by kernel_rfl) (by kernel_rfl) (fun _ _ _ h => h) (Or.inl ⟨by rfl, ?yr4_24⟩) hHeld ?_
    case yr4_24 => (intro W0 hSw; go_simp; try simp only [q2]; try with_reducible rfl)
    try simp only [pu]
    refine wpAnyH_take (i := 25) (oi := ⟨(some 38), _, _, _, _, _⟩) (v := .bool true) rfl (by kernel_rfl) (by kernel_rfl) (by kernel_rfl) (fun _ _ _ h => h) (Or.inl ⟨by rfl, ?yr4_25⟩) hHeld ?_
    case yr4_25 => (intro W0 hSw; go_simp; try with_reducible rfl)
    try simp only [pu]
    refine wpAnyH_take (i := 26) (oi := ⟨(some 39), _, _, _, _, _⟩) (v := .bool true) rfl (by kernel_rfl) (by kernel_rfl) (by kernel_rfl) (fun _ _ _ h => h) (Or.inl ⟨by rfl, ?yr4_26⟩) hHeld ?_
    case yr4_26 => (intro W0 hSw; go_simp; try with_reducible rfl)
    try simp only [pu]
    refine wpAnyH_take (i := 27) (oi := ⟨(some 40), _, _, _, _, _⟩) (v := .agg (i64v a).toArray) rfl (by kernel_rfl) (by kernel_rfl) (by kernel_rfl) (fun _ _ _ h => h) (yieldsIf_load_mid (by rfl) _ _ rfl w.heap.size 0 rfl (i64v a) _ (fun W' hW' => range_row ((hW'.block _ sA).trans gA.out)) (Try.underlying27) rfl (by rw [i64v_len, HA.out]; kernel_rfl)) hHeld ?_
    try simp only [pu]
    refine wpAnyH_take (i := 28) (oi := ⟨(some 41), _, _, _, _, _⟩) (v := .agg (i64v a).toArray) rfl (by kernel_rfl) (by kernel_rfl) (by kernel_rfl) (fun _ _ _ h => h) (yieldsIf_load_mid (by rfl) _ _ rfl w.heap.size 0 rfl (i64v a) _ (fun W' hW' => range_row ((hW'.block _ sA).trans gA.out)) (Try.underlying27) rfl (by rw [i64v_len, HA.out]; kernel_rfl)) hHeld ?_
    try simp only [pu]
    refine wpAnyH_take (i := 30) (oi := ⟨(some 43), _, _, _, _, _⟩) (v := .agg (i64v a).toArray) rfl (by kernel_rfl) (by kernel_rfl) (by kernel_rfl) (fun _ _ _ h => h) (yieldsIf_load_mid (by rfl) _ _ rfl w.heap.size 0 rfl (i64v a) _ (fun W' hW' => range_row ((hW'.block _ sA).trans gA.out)) (Try.underlying27) rfl (by rw [i64v_len, HA.out]; kernel_rfl)) hHeld ?_
    try simp only [pu]
    refine wpAnyH_ready (rs := [29]) (by kernel_rfl) (by simp) ?_
    refine AllReadyH.cons (i := 29) (o := ⟨(some 42), _, _, _, _, _⟩) rfl (fun K hK => ?_) AllReadyH.nil
    go_simp
    refine (c7 _).mono ?_
    rintro e r4W7 ⟨rfl, r4h7⟩
    refine hK.out _ _ (below_next hHeld hHeld.size r4h7) (fun hHeld => ?_)
    clear hK K r4h7
    try simp only [pu]
    refine wpAnyH_take (i := 31) (oi := ⟨(some 44), _, _, _, _, _⟩) (v := .bool true) rfl (by kernel_rfl) (by kernel_rfl) (by kernel_rfl) (fun _ _ _ h => h) (Or.inl ⟨by rfl, ?yr4_31⟩) hHeld ?_
    case yr4_31 => (intro W0 hSw; go_simp; try simp only [q3]; try with_reducible rfl)
    try simp only [pu]
    refine wpAnyH_take (i := 32) (oi := ⟨(some 45), _, _, _, _, _⟩) (v := .bool true) rfl (by kernel_rfl) (by kernel_rfl) (by kernel_rfl) (fun _ _ _ h => h) (Or.inl ⟨by rfl, ?yr4_32⟩) hHeld ?_
    case yr4_32 => (intro W0 hSw; go_simp; try with_reducible rfl)
    try simp only [pu]
    refine wpAnyH_take (i := 33) (oi := ⟨(some 46), _, _, _, _, _⟩) (v := .bool true) rfl (by kernel_rfl) (by kernel_rfl) (by kernel_rfl) (fun _ _ _ h => h) (Or.inl ⟨by rfl, ?yr4_33⟩) hHeld ?_
    case yr4_33 => (intro W0 hSw; go_simp; try with_reducible rfl)
    try simp only [pu]
    refine wpAnyH_take (i := 34) (oi := ⟨(some 47), _, _, _, _, _⟩) (v := .agg (i64v a).toArray) rfl (by kernel_rfl) (by kernel_rfl) (by kernel_rfl) (fun _ _ _ h => h) (yieldsIf_load_mid (by rfl) _ _ rfl w.heap.size 0 rfl (i64v a) _ (fun W' hW' => range_row ((hW'.block _ sA).trans gA.out)) (Try.underlying27) rfl (by rw [i64v_len, HA.out]; kernel_rfl)) hHeld ?_
    try simp only [pu]
    refine wpAnyH_take (i := 35) (oi := ⟨(some 48), _, _, _, _, _⟩) (v := .agg (i64v c).toArray) rfl (by kernel_rfl) (by kernel_rfl) (by kernel_rfl) (fun _ _ _ h => h) (yieldsIf_load_mid (by rfl) _ _ rfl (w.heap.size + 2) 0 rfl (i64v c) _ (fun W' hW' => range_row ((hW'.block _ sC).trans gC.out)) (Try.underlying27) rfl (by rw [i64v_len, HC.out]; kernel_rfl)) hHeld ?_
    try simp only [pu]
    refine wpAnyH_ready (rs := [36]) (by kernel_rfl) (by simp) ?_
    refine AllReadyH.cons (i := 36) (o := ⟨(some 49), _, _, _, _, _⟩) rfl (fun K hK => ?_) AllReadyH.nil
    go_simp
    refine (c8 _).mono ?_
    rintro e r4W8 ⟨rfl, r4h8⟩
    refine hK.out _ _ (below_next hHeld hHeld.size r4h8) (fun hHeld => ?_)
    clear hK K r4h8
    try simp only [pu]
    refine wpAnyH_take (i := 37) (oi := ⟨(some 50), _, _, _, _, _⟩) (v := .bool true) rfl (by kernel_rfl) (by kernel_rfl) (by kernel_rfl) (fun _ _ _ h => h) (Or.inl ⟨by rfl, ?yr4_37⟩) hHeld ?_
    case yr4_37 => (intro W0 hSw; go_simp; try with_reducible rfl)
    try simp only [pu]
    refine wpAnyH_take (i := 38) (oi := ⟨(some 51), _, _, _, _, _⟩) (v := .bool true) rfl (by kernel_rfl) (by kernel_rfl) (by kernel_rfl) (fun _ _ _ h => h) (Or.inl ⟨by rfl, ?yr4_38⟩) hHeld ?_
    case yr4_38 => (intro W0 hSw; go_simp; try with_reducible rfl)
    try simp only [pu]
    refine wpAnyH_take (i := 39) (oi := ⟨(some 52), _, _, _, _, _⟩) (v := undef) rfl (by kernel_rfl) (by kernel_rfl) (by kernel_rfl) (fun _ _ _ h => h) (Or.inr ⟨by rfl, rfl⟩) hHeld ?_
    try simp only [pu]
    refine wpAnyH_take (i := 40) (oi := ⟨(some 53), _, _, _, _, _⟩) (v := undef) rfl (by kernel_rfl) (by kernel_rfl) (by kernel_rfl) (fun _ _ _ h => h) (Or.inr ⟨by rfl, rfl⟩) hHeld ?_
    try simp only [pu]
    refine wpAnyH_take (i := 41) (oi := ⟨(some 54), _, _, _, _, _⟩) (v := undef) rfl (by kernel_rfl) (by kernel_rfl) (by kernel_rfl) (fun _ _ _ h => h) (Or.inr ⟨by rfl, rfl⟩) hHeld ?_
    try simp only [pu]
    refine wpAnyH_take (i := 42) (oi := ⟨(some 55), _, _, _, _, _⟩) (v := undef) rfl (by kernel_rfl) (by kernel_rfl) (by kernel_rfl) (fun _ _ _ h => h) (Or.inr ⟨by rfl, rfl⟩) hHeld ?_
    try simp only [pu]
    refine wpAnyH_take (i := 43) (oi := ⟨(some 56), _, _, _, _, _⟩) (v := .bool true) rfl (by kernel_rfl) (by kernel_rfl) (by kernel_rfl) (fun _ _ _ h => h) (Or.inl ⟨by rfl, ?yr4_43⟩) hHeld ?_
    case yr4_43 => (intro W0 hSw; go_simp; try with_reducible rfl)
    try simp only [pu]
    refine wpAnyH_take (i := 44) (oi := ⟨(some 57), _, _, _, _, _⟩) (v := .bool true) rfl (by kernel_rfl) (by kernel_rfl) (by kernel_rfl) (fun _ _ _ h => h) (Or.inl ⟨by rfl, ?yr4_44⟩) hHeld ?_
    case yr4_44 => (intro W0 hSw; go_simp; try with_reducible rfl)
    try simp only [pu]
    refine wpAnyH_take (i := 45) (oi := ⟨(some 58), _, _, _, _, _⟩) (v := undef) rfl (by kernel_rfl) (by kernel_rfl) (by kernel_rfl) (fun _ _ _ h => h) (Or.inr ⟨by rfl, rfl⟩) hHeld ?_
    try simp only [pu]
    refine wpAnyH_take (i := 46) (oi := ⟨(some 59), _, _, _, _, _⟩) (v := undef) rfl (by kernel_rfl) (by kernel_rfl) (by kernel_rfl) (fun _ _ _ h => h) (Or.inr ⟨by rfl, rfl⟩) hHeld ?_
    try simp only [pu]
    refine wpAnyH_take (i := 47) (oi := ⟨(some 60), _, _, _, _, _⟩) (v := undef) rfl (by kernel_rfl) (by kernel_rfl) (by kernel_rfl) (fun _ _ _ h => h) (Or.inr ⟨by rfl, rfl⟩) hHeld ?_
    try simp only [pu]
    refine wpAnyH_take (i := 48) (oi := ⟨(some 61), _, _, _, _, _⟩) (v := .bool true) rfl (by kernel_rfl) (by kernel_rfl) (by kernel_rfl) (fun _ _ _ h => h) (Or.inl ⟨by rfl, ?yr4_48⟩) hHeld ?_
    case yr4_48 => (intro W0 hSw; go_simp; try with_reducible rfl)
    try simp only [pu]
    refine wpAnyH_take (i := 49) (oi := ⟨(some 62), _, _, _, _, _⟩) (v := .bool true) rfl (by kernel_rfl) (by kernel_rfl) (by kernel_rfl) (fun _ _ _ h => h) (Or.inl ⟨by rfl, ?yr4_49⟩) hHeld ?_
    case yr4_49 => (intro W0 hSw; go_simp; try with_reducible rfl)
    try simp only [pu]
    refine wpAnyH_take (i := 50) (oi := ⟨(some 63), _, _, _, _, _⟩) (v := .bool true) rfl (by kernel_rfl) (by kernel_rfl) (by kernel_rfl) (fun _ _ _ h => h) (Or.inl ⟨by rfl, ?yr4_50⟩) hHeld ?_
    case yr4_50 => (intro W0 hSw; go_simp; try with_reducible rfl)
    try simp only [pu]
    refine wpAnyH_take (i := 51) (oi := ⟨(some 64), _, _, _, _, _⟩) (v := .agg (i64v a).toArray) rfl (by kernel_rfl) (by kernel_rfl) (by kernel_rfl) (fun _ _ _ h => h) (yieldsIf_load_mid (by rfl) _ _ rfl w.heap.size 0 rfl (i64v a) _ (fun W' hW' => range_row ((hW'.block _ sA).trans gA.out)) (Try.underlying27) rfl (by rw [i64v_len, HA.out]; kernel_rfl)) hHeld ?_
    try simp only [pu]
    refine wpAnyH_take (i := 52) (oi := ⟨(some 65), _, _, _, _, _⟩) (v := .agg (i64v b).toArray) rfl (by kernel_rfl) (by kernel_rfl) (by kernel_rfl) (fun _ _ _ h => h) (yieldsIf_load_mid (by rfl) _ _ rfl (w.heap.size + 1) 0 rfl (i64v b) _ (fun W' hW' => range_row ((hW'.block _ sB).trans gB.out)) (Try.underlying27) rfl (by rw [i64v_len, HB.out]; kernel_rfl)) hHeld ?_
    try simp only [pu]
    refine wpAnyH_take (i := 55) (oi := ⟨(some 68), _, _, _, _, _⟩) (v := .agg (i64v a).toArray) rfl (by kernel_rfl) (by kernel_rfl) (by kernel_rfl) (fun _ _ _ h => h) (yieldsIf_load_mid (by rfl) _ _ rfl w.heap.size 0 rfl (i64v a) _ (fun W' hW' => range_row ((hW'.block _ sA).trans gA.out)) (Try.underlying27) rfl (by rw [i64v_len, HA.out]; kernel_rfl)) hHeld ?_
    try simp only [pu]
    refine wpAnyH_take (i := 56) (oi := ⟨(some 69), _, _, _, _, _⟩) (v := .agg (i64v b).toArray) rfl (by kernel_rfl) (by kernel_rfl) (by kernel_rfl) (fun _ _ _ h => h) (yieldsIf_load_mid (by rfl) _ _ rfl (w.heap.size + 1) 0 rfl (i64v b) _ (fun W' hW' => range_row ((hW'.block _ sB).trans gB.out)) (Try.underlying27) rfl (by rw [i64v_len, HB.out]; kernel_rfl)) hHeld ?_
    try simp only [pu]
    refine wpAnyH_take (i := 57) (oi := ⟨(some 70), _, _, _, _, _⟩) (v := .bool o3) rfl (by kernel_rfl) (by kernel_rfl) (by kernel_rfl) (fun _ _ _ h => h) (Or.inl ⟨by rfl, ?yr4_57⟩) hHeld ?_
    case yr4_57 => (intro W0 hSw; go_simp; try simp only [q4]; try with_reducible rfl)
    try simp only [pu]
    refine wpAnyH_ready (rs := [53]) (by kernel_rfl) (by simp) ?_
    refine AllReadyH.cons (i := 53) (o := ⟨(some 66), _, _, _, _, _⟩) rfl (fun K hK => ?_) AllReadyH.nil
    go_simp
    refine (c11 _).mono ?_
    rintro e r4W9 ⟨rfl, r4h9⟩
    refine hK.out _ _ (below_next hHeld hHeld.size r4h9) (fun hHeld => ?_)
    clear hK K r4h9
    try simp only [pu]
    refine wpAnyH_take (i := 54) (oi := ⟨(some 67), _, _, _, _, _⟩) (v := .bool o3) rfl (by kernel_rfl) (by kernel_rfl) (by kernel_rfl) (fun _ _ _ h => h) (Or.inl ⟨by rfl, ?yr4_54⟩) hHeld ?_
    case yr4_54 => (intro W0 hSw; go_simp; try simp only [m7.out]; try with_reducible rfl)
    try simp only [pu]
    refine wpAnyH_take (i := 58) (oi := ⟨(some 71), _, _, _, _, _⟩) (v := .bool true) rfl (by kernel_rfl) (by kernel_rfl) (by kernel_rfl) (fun _ _ _ h => h) (Or.inl ⟨by rfl, ?yr4_58⟩) hHeld ?_
    case yr4_58 => (intro W0 hSw; go_simp; try simp; try with_reducible rfl)
    try simp only [pu]
    refine wpAnyH_take (i := 59) (oi := ⟨(some 72), _, _, _, _, _⟩) (v := .bool true) rfl (by kernel_rfl) (by kernel_rfl) (by kernel_rfl) (fun _ _ _ h => h) (Or.inl ⟨by rfl, ?yr4_59⟩) hHeld ?_
    case yr4_59 => (intro W0 hSw; go_simp; try with_reducible rfl)
    try simp only [pu]
    refine wpAnyH_take (i := 60) (oi := ⟨(some 6), _, _, _, _, _⟩) (v := .bool true) rfl (by kernel_rfl) (by kernel_rfl) (by kernel_rfl) (fun _ _ _ h => h) (Or.inl ⟨by rfl, ?yr4_60⟩) hHeld ?_
    case yr4_60 => (intro W0 hSw; go_simp; try with_reducible rfl)
    try simp only [pu]
    refine wpAnyH_done (by kernel_rfl) ?_ _
    go_wp2
    go_ret
    exact ⟨rfl, below_next hbV hbV.size hHeld⟩
  · cases o2
    · clear m6 c10
      refine wp_region_held_drew (S := fun W' => Below V.heap.size V W') (by kernel_rfl) ((Below.refl _ _).drew) (fun hHeld => ?_)
      refine wpAnyH_take (i := 0) (oi := ⟨(some 13), _, _, _, _, _⟩) (v := .agg (i64v a).toArray) rfl (by kernel_rfl) (by kernel_rfl) (by kernel_rfl) (fun _ _ _ h => h) (yieldsIf_load_mid (by rfl) _ _ rfl w.heap.size 0 rfl (i64v a) _ (fun W' hW' => range_row ((hW'.block _ sA).trans gA.out)) (Try.underlying27) rfl (by rw [i64v_len, HA.out]; kernel_rfl)) hHeld ?_
      try simp only [pu]
      refine wpAnyH_take (i := 1) (oi := ⟨(some 14), _, _, _, _, _⟩) (v := .agg (i64v m).toArray) rfl (by kernel_rfl) (by kernel_rfl) (by kernel_rfl) (fun _ _ _ h => h) (yieldsIf_load_mid (by rfl) _ _ rfl G 0 rfl (i64v m) _ (fun W' hW' => range_row ((hW'.block _ sM).trans gM.out)) (Try.underlying27) rfl (by rw [i64v_len, HML.out]; kernel_rfl)) hHeld ?_
      try simp only [pu]
      refine wpAnyH_ready (rs := [2]) (by kernel_rfl) (by simp) ?_
      refine AllReadyH.cons (i := 2) (o := ⟨(some 15), _, _, _, _, _⟩) rfl (fun K hK => ?_) AllReadyH.nil
      go_simp
      refine (c1 _).mono ?_
      rintro e r4W1 ⟨rfl, r4h1⟩
      refine hK.out _ _ (below_next hHeld hHeld.size r4h1) (fun hHeld => ?_)
      clear hK K r4h1
      try simp only [pu]
      refine wpAnyH_take (i := 3) (oi := ⟨(some 16), _, _, _, _, _⟩) (v := .bool true) rfl (by kernel_rfl) (by kernel_rfl) (by kernel_rfl) (fun _ _ _ h => h) (Or.inl ⟨by rfl, ?yr4_3⟩) hHeld ?_
      case yr4_3 => (intro W0 hSw; go_simp; try with_reducible rfl)
      try simp only [pu]
      refine wpAnyH_take (i := 4) (oi := ⟨(some 17), _, _, _, _, _⟩) (v := .agg (i64v b).toArray) rfl (by kernel_rfl) (by kernel_rfl) (by kernel_rfl) (fun _ _ _ h => h) (yieldsIf_load_mid (by rfl) _ _ rfl (w.heap.size + 1) 0 rfl (i64v b) _ (fun W' hW' => range_row ((hW'.block _ sB).trans gB.out)) (Try.underlying27) rfl (by rw [i64v_len, HB.out]; kernel_rfl)) hHeld ?_
      try simp only [pu]
      refine wpAnyH_take (i := 5) (oi := ⟨(some 18), _, _, _, _, _⟩) (v := .agg (i64v m).toArray) rfl (by kernel_rfl) (by kernel_rfl) (by kernel_rfl) (fun _ _ _ h => h) (yieldsIf_load_mid (by rfl) _ _ rfl G 0 rfl (i64v m) _ (fun W' hW' => range_row ((hW'.block _ sM).trans gM.out)) (Try.underlying27) rfl (by rw [i64v_len, HML.out]; kernel_rfl)) hHeld ?_
      try simp only [pu]
      refine wpAnyH_ready (rs := [6]) (by kernel_rfl) (by simp) ?_
      refine AllReadyH.cons (i := 6) (o := ⟨(some 19), _, _, _, _, _⟩) rfl (fun K hK => ?_) AllReadyH.nil
      go_simp
      refine (c2 _).mono ?_
      rintro e r4W2 ⟨rfl, r4h2⟩
      refine hK.out _ _ (below_next hHeld hHeld.size r4h2) (fun hHeld => ?_)
      clear hK K r4h2
      try simp only [pu]
      refine wpAnyH_take (i := 7) (oi := ⟨(some 20), _, _, _, _, _⟩) (v := .bool true) rfl (by kernel_rfl) (by kernel_rfl) (by kernel_rfl) (fun _ _ _ h => h) (Or.inl ⟨by rfl, ?yr4_7⟩) hHeld ?_
      case yr4_7 => (intro W0 hSw; go_simp; try with_reducible rfl)
      try simp only [pu]
      refine wpAnyH_take (i := 8) (oi := ⟨(some 21), _, _, _, _, _⟩) (v := .bool true) rfl (by kernel_rfl) (by kernel_rfl) (by kernel_rfl) (fun _ _ _ h => h) (Or.inl ⟨by rfl, ?yr4_8⟩) hHeld ?_
      case yr4_8 => (intro W0 hSw; go_simp; try with_reducible rfl)
      try simp only [pu]
      refine wpAnyH_take (i := 9) (oi := ⟨(some 22), _, _, _, _, _⟩) (v := .agg (i64v m).toArray) rfl (by kernel_rfl) (by kernel_rfl) (by kernel_rfl) (fun _ _ _ h => h) (yieldsIf_load_mid (by rfl) _ _ rfl G 0 rfl (i64v m) _ (fun W' hW' => range_row ((hW'.block _ sM).trans gM.out)) (Try.underlying27) rfl (by rw [i64v_len, HML.out]; kernel_rfl)) hHeld ?_
      try simp only [pu]
      refine wpAnyH_take (i := 10) (oi := ⟨(some 23), _, _, _, _, _⟩) (v := .agg (i64v b).toArray) rfl (by kernel_rfl) (by kernel_rfl) (by kernel_rfl) (fun _ _ _ h => h) (yieldsIf_load_mid (by rfl) _ _ rfl (w.heap.size + 1) 0 rfl (i64v b) _ (fun W' hW' => range_row ((hW'.block _ sB).trans gB.out)) (Try.underlying27) rfl (by rw [i64v_len, HB.out]; kernel_rfl)) hHeld ?_
      try simp only [pu]
      refine wpAnyH_take (i := 11) (oi := ⟨(some 24), _, _, _, _, _⟩) (v := .agg (i64v a).toArray) rfl (by kernel_rfl) (by kernel_rfl) (by kernel_rfl) (fun _ _ _ h => h) (yieldsIf_load_mid (by rfl) _ _ rfl w.heap.size 0 rfl (i64v a) _ (fun W' hW' => range_row ((hW'.block _ sA).trans gA.out)) (Try.underlying27) rfl (by rw [i64v_len, HA.out]; kernel_rfl)) hHeld ?_
      try simp only [pu]
      refine wpAnyH_ready (rs := [12]) (by kernel_rfl) (by simp) ?_
      refine AllReadyH.cons (i := 12) (o := ⟨(some 25), _, _, _, _, _⟩) rfl (fun K hK => ?_) AllReadyH.nil
      go_simp
      refine (c3 _).mono ?_
      rintro e r4W3 ⟨rfl, r4h3⟩
      refine hK.out _ _ (below_next hHeld hHeld.size r4h3) (fun hHeld => ?_)
      clear hK K r4h3
      try simp only [pu]
      refine wpAnyH_take (i := 13) (oi := ⟨(some 26), _, _, _, _, _⟩) (v := .bool true) rfl (by kernel_rfl) (by kernel_rfl) (by kernel_rfl) (fun _ _ _ h => h) (Or.inl ⟨by rfl, ?yr4_13⟩) hHeld ?_
      case yr4_13 => (intro W0 hSw; go_simp; try simp only [q1]; try with_reducible rfl)
      try simp only [pu]
      refine wpAnyH_take (i := 14) (oi := ⟨(some 27), _, _, _, _, _⟩) (v := .bool true) rfl (by kernel_rfl) (by kernel_rfl) (by kernel_rfl) (fun _ _ _ h => h) (Or.inl ⟨by rfl, ?yr4_14⟩) hHeld ?_
      case yr4_14 => (intro W0 hSw; go_simp; try with_reducible rfl)
      try simp only [pu]
      refine wpAnyH_take (i := 15) (oi := ⟨(some 28), _, _, _, _, _⟩) (v := .bool true) rfl (by kernel_rfl) (by kernel_rfl) (by kernel_rfl) (fun _ _ _ h => h) (Or.inl ⟨by rfl, ?yr4_15⟩) hHeld ?_
      case yr4_15 => (intro W0 hSw; go_simp; try with_reducible rfl)
      try simp only [pu]
      refine wpAnyH_take (i := 16) (oi := ⟨(some 29), _, _, _, _, _⟩) (v := .agg (i64v m).toArray) rfl (by kernel_rfl) (by kernel_rfl) (by kernel_rfl) (fun _ _ _ h => h) (yieldsIf_load_mid (by rfl) _ _ rfl G 0 rfl (i64v m) _ (fun W' hW' => range_row ((hW'.block _ sM).trans gM.out)) (Try.underlying27) rfl (by rw [i64v_len, HML.out]; kernel_rfl)) hHeld ?_
      try simp only [pu]
      refine wpAnyH_take (i := 17) (oi := ⟨(some 30), _, _, _, _, _⟩) (v := .agg (i64v c).toArray) rfl (by kernel_rfl) (by kernel_rfl) (by kernel_rfl) (fun _ _ _ h => h) (yieldsIf_load_mid (by rfl) _ _ rfl (w.heap.size + 2) 0 rfl (i64v c) _ (fun W' hW' => range_row ((hW'.block _ sC).trans gC.out)) (Try.underlying27) rfl (by rw [i64v_len, HC.out]; kernel_rfl)) hHeld ?_
      try simp only [pu]
      refine wpAnyH_take (i := 19) (oi := ⟨(some 32), _, _, _, _, _⟩) (v := .agg (i64v a).toArray) rfl (by kernel_rfl) (by kernel_rfl) (by kernel_rfl) (fun _ _ _ h => h) (yieldsIf_load_mid (by rfl) _ _ rfl w.heap.size 0 rfl (i64v a) _ (fun W' hW' => range_row ((hW'.block _ sA).trans gA.out)) (Try.underlying27) rfl (by rw [i64v_len, HA.out]; kernel_rfl)) hHeld ?_
      try simp only [pu]
      refine wpAnyH_take (i := 20) (oi := ⟨(some 33), _, _, _, _, _⟩) (v := .agg (i64v b).toArray) rfl (by kernel_rfl) (by kernel_rfl) (by kernel_rfl) (fun _ _ _ h => h) (yieldsIf_load_mid (by rfl) _ _ rfl (w.heap.size + 1) 0 rfl (i64v b) _ (fun W' hW' => range_row ((hW'.block _ sB).trans gB.out)) (Try.underlying27) rfl (by rw [i64v_len, HB.out]; kernel_rfl)) hHeld ?_
      try simp only [pu]
      refine wpAnyH_take (i := 21) (oi := ⟨(some 34), _, _, _, _, _⟩) (v := .agg (i64v c).toArray) rfl (by kernel_rfl) (by kernel_rfl) (by kernel_rfl) (fun _ _ _ h => h) (yieldsIf_load_mid (by rfl) _ _ rfl (w.heap.size + 2) 0 rfl (i64v c) _ (fun W' hW' => range_row ((hW'.block _ sC).trans gC.out)) (Try.underlying27) rfl (by rw [i64v_len, HC.out]; kernel_rfl)) hHeld ?_
      try simp only [pu]
      refine wpAnyH_ready (rs := [18]) (by kernel_rfl) (by simp) ?_
      refine AllReadyH.cons (i := 18) (o := ⟨(some 31), _, _, _, _, _⟩) rfl (fun K hK => ?_) AllReadyH.nil
      go_simp
      refine (c4 _).mono ?_
      rintro e r4W4 ⟨rfl, r4h4⟩
      refine hK.out _ _ (below_next hHeld hHeld.size r4h4) (fun hHeld => ?_)
      clear hK K r4h4
      try simp only [pu]
      refine wpAnyH_ready (rs := [22]) (by kernel_rfl) (by simp) ?_
      refine AllReadyH.cons (i := 22) (o := ⟨(some 35), _, _, _, _, _⟩) rfl (fun K hK => ?_) AllReadyH.nil
      go_simp
      refine (c5 _).mono ?_
      rintro e r4W5 ⟨rfl, r4h5⟩
      refine hK.out _ _ (below_next hHeld hHeld.size r4h5) (fun hHeld => ?_)
      clear hK K r4h5
      try simp only [pu]
      refine wpAnyH_ready (rs := [23]) (by kernel_rfl) (by simp) ?_
      refine AllReadyH.cons (i := 23) (o := ⟨(some 36), _, _, _, _, _⟩) rfl (fun K hK => ?_) AllReadyH.nil
      go_simp
      refine (c6 _).mono ?_
      rintro e r4W6 ⟨rfl, r4h6⟩
      refine hK.out _ _ (below_next hHeld hHeld.size r4h6) (fun hHeld => ?_)
      clear hK K r4h6
      try simp only [pu]
      refine wpAnyH_take (i := 24) (oi := ⟨(some 37), _, _, _, _, _⟩) (v := .bool true) rfl (by kernel_rfl) (by kernel_rfl) (by kernel_rfl) (fun _ _ _ h => h) (Or.inl ⟨by rfl, ?yr4_24⟩) hHeld ?_
      case yr4_24 => (intro W0 hSw; go_simp; try simp only [q2]; try with_reducible rfl)
      try simp only [pu]
      refine wpAnyH_take (i := 25) (oi := ⟨(some 38), _, _, _, _, _⟩) (v := .bool true) rfl (by kernel_rfl) (by kernel_rfl) (by kernel_rfl) (fun _ _ _ h => h) (Or.inl ⟨by rfl, ?yr4_25⟩) hHeld ?_
      case yr4_25 => (intro W0 hSw; go_simp; try with_reducible rfl)
      try simp only [pu]
      refine wpAnyH_take (i := 26) (oi := ⟨(some 39), _, _, _, _, _⟩) (v := .bool true) rfl (by kernel_rfl) (by kernel_rfl) (by kernel_rfl) (fun _ _ _ h => h) (Or.inl ⟨by rfl, ?yr4_26⟩) hHeld ?_
      case yr4_26 => (intro W0 hSw; go_simp; try with_reducible rfl)
      try simp only [pu]
      refine wpAnyH_take (i := 27) (oi := ⟨(some 40), _, _, _, _, _⟩) (v := .agg (i64v a).toArray) rfl (by kernel_rfl) (by kernel_rfl) (by kernel_rfl) (fun _ _ _ h => h) (yieldsIf_load_mid (by rfl) _ _ rfl w.heap.size 0 rfl (i64v a) _ (fun W' hW' => range_row ((hW'.block _ sA).trans gA.out)) (Try.underlying27) rfl (by rw [i64v_len, HA.out]; kernel_rfl)) hHeld ?_
      try simp only [pu]
      refine wpAnyH_take (i := 28) (oi := ⟨(some 41), _, _, _, _, _⟩) (v := .agg (i64v a).toArray) rfl (by kernel_rfl) (by kernel_rfl) (by kernel_rfl) (fun _ _ _ h => h) (yieldsIf_load_mid (by rfl) _ _ rfl w.heap.size 0 rfl (i64v a) _ (fun W' hW' => range_row ((hW'.block _ sA).trans gA.out)) (Try.underlying27) rfl (by rw [i64v_len, HA.out]; kernel_rfl)) hHeld ?_
      try simp only [pu]
      refine wpAnyH_take (i := 30) (oi := ⟨(some 43), _, _, _, _, _⟩) (v := .agg (i64v a).toArray) rfl (by kernel_rfl) (by kernel_rfl) (by kernel_rfl) (fun _ _ _ h => h) (yieldsIf_load_mid (by rfl) _ _ rfl w.heap.size 0 rfl (i64v a) _ (fun W' hW' => range_row ((hW'.block _ sA).trans gA.out)) (Try.underlying27) rfl (by rw [i64v_len, HA.out]; kernel_rfl)) hHeld ?_
      try simp only [pu]
      refine wpAnyH_ready (rs := [29]) (by kernel_rfl) (by simp) ?_
      refine AllReadyH.cons (i := 29) (o := ⟨(some 42), _, _, _, _, _⟩) rfl (fun K hK => ?_) AllReadyH.nil
      go_simp
      refine (c7 _).mono ?_
      rintro e r4W7 ⟨rfl, r4h7⟩
      refine hK.out _ _ (below_next hHeld hHeld.size r4h7) (fun hHeld => ?_)
      clear hK K r4h7
      try simp only [pu]
      refine wpAnyH_take (i := 31) (oi := ⟨(some 44), _, _, _, _, _⟩) (v := .bool true) rfl (by kernel_rfl) (by kernel_rfl) (by kernel_rfl) (fun _ _ _ h => h) (Or.inl ⟨by rfl, ?yr4_31⟩) hHeld ?_
      case yr4_31 => (intro W0 hSw; go_simp; try simp only [q3]; try with_reducible rfl)
      try simp only [pu]
      refine wpAnyH_take (i := 32) (oi := ⟨(some 45), _, _, _, _, _⟩) (v := .bool true) rfl (by kernel_rfl) (by kernel_rfl) (by kernel_rfl) (fun _ _ _ h => h) (Or.inl ⟨by rfl, ?yr4_32⟩) hHeld ?_
      case yr4_32 => (intro W0 hSw; go_simp; try with_reducible rfl)
      try simp only [pu]
      refine wpAnyH_take (i := 33) (oi := ⟨(some 46), _, _, _, _, _⟩) (v := .bool true) rfl (by kernel_rfl) (by kernel_rfl) (by kernel_rfl) (fun _ _ _ h => h) (Or.inl ⟨by rfl, ?yr4_33⟩) hHeld ?_
      case yr4_33 => (intro W0 hSw; go_simp; try with_reducible rfl)
      try simp only [pu]
      refine wpAnyH_take (i := 34) (oi := ⟨(some 47), _, _, _, _, _⟩) (v := .agg (i64v a).toArray) rfl (by kernel_rfl) (by kernel_rfl) (by kernel_rfl) (fun _ _ _ h => h) (yieldsIf_load_mid (by rfl) _ _ rfl w.heap.size 0 rfl (i64v a) _ (fun W' hW' => range_row ((hW'.block _ sA).trans gA.out)) (Try.underlying27) rfl (by rw [i64v_len, HA.out]; kernel_rfl)) hHeld ?_
      try simp only [pu]
      refine wpAnyH_take (i := 35) (oi := ⟨(some 48), _, _, _, _, _⟩) (v := .agg (i64v c).toArray) rfl (by kernel_rfl) (by kernel_rfl) (by kernel_rfl) (fun _ _ _ h => h) (yieldsIf_load_mid (by rfl) _ _ rfl (w.heap.size + 2) 0 rfl (i64v c) _ (fun W' hW' => range_row ((hW'.block _ sC).trans gC.out)) (Try.underlying27) rfl (by rw [i64v_len, HC.out]; kernel_rfl)) hHeld ?_
      try simp only [pu]
      refine wpAnyH_ready (rs := [36]) (by kernel_rfl) (by simp) ?_
      refine AllReadyH.cons (i := 36) (o := ⟨(some 49), _, _, _, _, _⟩) rfl (fun K hK => ?_) AllReadyH.nil
      go_simp
      refine (c8 _).mono ?_
      rintro e r4W8 ⟨rfl, r4h8⟩
      refine hK.out _ _ (below_next hHeld hHeld.size r4h8) (fun hHeld => ?_)
      clear hK K r4h8
      try simp only [pu]
      refine wpAnyH_take (i := 37) (oi := ⟨(some 50), _, _, _, _, _⟩) (v := .bool false) rfl (by kernel_rfl) (by kernel_rfl) (by kernel_rfl) (fun _ _ _ h => h) (Or.inl ⟨by rfl, ?yr4_37⟩) hHeld ?_
      case yr4_37 => (intro W0 hSw; go_simp; try with_reducible rfl)
      try simp only [pu]
      refine wpAnyH_take (i := 38) (oi := ⟨(some 51), _, _, _, _, _⟩) (v := .bool false) rfl (by kernel_rfl) (by kernel_rfl) (by kernel_rfl) (fun _ _ _ h => h) (Or.inl ⟨by rfl, ?yr4_38⟩) hHeld ?_
      case yr4_38 => (intro W0 hSw; go_simp; try with_reducible rfl)
      try simp only [pu]
      refine wpAnyH_take (i := 39) (oi := ⟨(some 52), _, _, _, _, _⟩) (v := .agg (i64v b).toArray) rfl (by kernel_rfl) (by kernel_rfl) (by kernel_rfl) (fun _ _ _ h => h) (yieldsIf_load_mid (by rfl) _ _ rfl (w.heap.size + 1) 0 rfl (i64v b) _ (fun W' hW' => range_row ((hW'.block _ sB).trans gB.out)) (Try.underlying27) rfl (by rw [i64v_len, HB.out]; kernel_rfl)) hHeld ?_
      try simp only [pu]
      refine wpAnyH_take (i := 40) (oi := ⟨(some 53), _, _, _, _, _⟩) (v := .agg (i64v c).toArray) rfl (by kernel_rfl) (by kernel_rfl) (by kernel_rfl) (fun _ _ _ h => h) (yieldsIf_load_mid (by rfl) _ _ rfl (w.heap.size + 2) 0 rfl (i64v c) _ (fun W' hW' => range_row ((hW'.block _ sC).trans gC.out)) (Try.underlying27) rfl (by rw [i64v_len, HC.out]; kernel_rfl)) hHeld ?_
      try simp only [pu]
      refine wpAnyH_ready (rs := [41]) (by kernel_rfl) (by simp) ?_
      refine AllReadyH.cons (i := 41) (o := ⟨(some 54), _, _, _, _, _⟩) rfl (fun K hK => ?_) AllReadyH.nil
      go_simp
      refine (c9 _).mono ?_
      rintro e r4W9 ⟨rfl, r4h9⟩
      refine hK.out _ _ (below_next hHeld hHeld.size r4h9) (fun hHeld => ?_)
      clear hK K r4h9
      try simp only [pu]
      refine wpAnyH_take (i := 42) (oi := ⟨(some 55), _, _, _, _, _⟩) (v := .bool true) rfl (by kernel_rfl) (by kernel_rfl) (by kernel_rfl) (fun _ _ _ h => h) (Or.inl ⟨by rfl, ?yr4_42⟩) hHeld ?_
      case yr4_42 => (intro W0 hSw; go_simp; try with_reducible rfl)
      try simp only [pu]
      refine wpAnyH_take (i := 43) (oi := ⟨(some 56), _, _, _, _, _⟩) (v := .bool true) rfl (by kernel_rfl) (by kernel_rfl) (by kernel_rfl) (fun _ _ _ h => h) (Or.inl ⟨by rfl, ?yr4_43⟩) hHeld ?_
      case yr4_43 => (intro W0 hSw; go_simp; try with_reducible rfl)
      try simp only [pu]
      refine wpAnyH_take (i := 44) (oi := ⟨(some 57), _, _, _, _, _⟩) (v := .bool true) rfl (by kernel_rfl) (by kernel_rfl) (by kernel_rfl) (fun _ _ _ h => h) (Or.inl ⟨by rfl, ?yr4_44⟩) hHeld ?_
      case yr4_44 => (intro W0 hSw; go_simp; try with_reducible rfl)
      try simp only [pu]
      refine wpAnyH_take (i := 45) (oi := ⟨(some 58), _, _, _, _, _⟩) (v := undef) rfl (by kernel_rfl) (by kernel_rfl) (by kernel_rfl) (fun _ _ _ h => h) (Or.inr ⟨by rfl, rfl⟩) hHeld ?_
      try simp only [pu]
      refine wpAnyH_take (i := 46) (oi := ⟨(some 59), _, _, _, _, _⟩) (v := undef) rfl (by kernel_rfl) (by kernel_rfl) (by kernel_rfl) (fun _ _ _ h => h) (Or.inr ⟨by rfl, rfl⟩) hHeld ?_
      try simp only [pu]
      refine wpAnyH_take (i := 47) (oi := ⟨(some 60), _, _, _, _, _⟩) (v := undef) rfl (by kernel_rfl) (by kernel_rfl) (by kernel_rfl) (fun _ _ _ h => h) (Or.inr ⟨by rfl, rfl⟩) hHeld ?_
      try simp only [pu]
      refine wpAnyH_take (i := 48) (oi := ⟨(some 61), _, _, _, _, _⟩) (v := .bool true) rfl (by kernel_rfl) (by kernel_rfl) (by kernel_rfl) (fun _ _ _ h => h) (Or.inl ⟨by rfl, ?yr4_48⟩) hHeld ?_
      case yr4_48 => (intro W0 hSw; go_simp; try with_reducible rfl)
      try simp only [pu]
      refine wpAnyH_take (i := 49) (oi := ⟨(some 62), _, _, _, _, _⟩) (v := .bool true) rfl (by kernel_rfl) (by kernel_rfl) (by kernel_rfl) (fun _ _ _ h => h) (Or.inl ⟨by rfl, ?yr4_49⟩) hHeld ?_
      case yr4_49 => (intro W0 hSw; go_simp; try with_reducible rfl)
      try simp only [pu]
      refine wpAnyH_take (i := 50) (oi := ⟨(some 63), _, _, _, _, _⟩) (v := .bool true) rfl (by kernel_rfl) (by kernel_rfl) (by kernel_rfl) (fun _ _ _ h => h) (Or.inl ⟨by rfl, ?yr4_50⟩) hHeld ?_
      case yr4_50 => (intro W0 hSw; go_simp; try with_reducible rfl)
      try simp only [pu]
      refine wpAnyH_take (i := 51) (oi := ⟨(some 64), _, _, _, _, _⟩) (v := .agg (i64v a).toArray) rfl (by kernel_rfl) (by kernel_rfl) (by kernel_rfl) (fun _ _ _ h => h) (yieldsIf_load_mid (by rfl) _ _ rfl w.heap.size 0 rfl (i64v a) _ (fun W' hW' => range_row ((hW'.block _ sA).trans gA.out)) (Try.underlying27) rfl (by rw [i64v_len, HA.out]; kernel_rfl)) hHeld ?_
      try simp only [pu]
      refine wpAnyH_take (i := 52) (oi := ⟨(some 65), _, _, _, _, _⟩) (v := .agg (i64v b).toArray) rfl (by kernel_rfl) (by kernel_rfl) (by kernel_rfl) (fun _ _ _ h => h) (yieldsIf_load_mid (by rfl) _ _ rfl (w.heap.size + 1) 0 rfl (i64v b) _ (fun W' hW' => range_row ((hW'.block _ sB).trans gB.out)) (Try.underlying27) rfl (by rw [i64v_len, HB.out]; kernel_rfl)) hHeld ?_
      try simp only [pu]
      refine wpAnyH_take (i := 55) (oi := ⟨(some 68), _, _, _, _, _⟩) (v := .agg (i64v a).toArray) rfl (by kernel_rfl) (by kernel_rfl) (by kernel_rfl) (fun _ _ _ h => h) (yieldsIf_load_mid (by rfl) _ _ rfl w.heap.size 0 rfl (i64v a) _ (fun W' hW' => range_row ((hW'.block _ sA).trans gA.out)) (Try.underlying27) rfl (by rw [i64v_len, HA.out]; kernel_rfl)) hHeld ?_
      try simp only [pu]
      refine wpAnyH_take (i := 56) (oi := ⟨(some 69), _, _, _, _, _⟩) (v := .agg (i64v b).toArray) rfl (by kernel_rfl) (by kernel_rfl) (by kernel_rfl) (fun _ _ _ h => h) (yieldsIf_load_mid (by rfl) _ _ rfl (w.heap.size + 1) 0 rfl (i64v b) _ (fun W' hW' => range_row ((hW'.block _ sB).trans gB.out)) (Try.underlying27) rfl (by rw [i64v_len, HB.out]; kernel_rfl)) hHeld ?_
      try simp only [pu]
      refine wpAnyH_take (i := 57) (oi := ⟨(some 70), _, _, _, _, _⟩) (v := .bool o3) rfl (by kernel_rfl) (by kernel_rfl) (by kernel_rfl) (fun _ _ _ h => h) (Or.inl ⟨by rfl, ?yr4_57⟩) hHeld ?_
      case yr4_57 => (intro W0 hSw; go_simp; try simp only [q4]; try with_reducible rfl)
      try simp only [pu]
      refine wpAnyH_ready (rs := [53]) (by kernel_rfl) (by simp) ?_
      refine AllReadyH.cons (i := 53) (o := ⟨(some 66), _, _, _, _, _⟩) rfl (fun K hK => ?_) AllReadyH.nil
      go_simp
      refine (c11 _).mono ?_
      rintro e r4W10 ⟨rfl, r4h10⟩
      refine hK.out _ _ (below_next hHeld hHeld.size r4h10) (fun hHeld => ?_)
      clear hK K r4h10
      try simp only [pu]
      refine wpAnyH_take (i := 54) (oi := ⟨(some 67), _, _, _, _, _⟩) (v := .bool o3) rfl (by kernel_rfl) (by kernel_rfl) (by kernel_rfl) (fun _ _ _ h => h) (Or.inl ⟨by rfl, ?yr4_54⟩) hHeld ?_
      case yr4_54 => (intro W0 hSw; go_simp; try simp only [m7.out]; try with_reducible rfl)
      try simp only [pu]
      refine wpAnyH_take (i := 58) (oi := ⟨(some 71), _, _, _, _, _⟩) (v := .bool true) rfl (by kernel_rfl) (by kernel_rfl) (by kernel_rfl) (fun _ _ _ h => h) (Or.inl ⟨by rfl, ?yr4_58⟩) hHeld ?_
      case yr4_58 => (intro W0 hSw; go_simp; try simp; try with_reducible rfl)
      try simp only [pu]
      refine wpAnyH_take (i := 59) (oi := ⟨(some 72), _, _, _, _, _⟩) (v := .bool true) rfl (by kernel_rfl) (by kernel_rfl) (by kernel_rfl) (fun _ _ _ h => h) (Or.inl ⟨by rfl, ?yr4_59⟩) hHeld ?_
      case yr4_59 => (intro W0 hSw; go_simp; try with_reducible rfl)
      try simp only [pu]
      refine wpAnyH_take (i := 60) (oi := ⟨(some 6), _, _, _, _, _⟩) (v := .bool true) rfl (by kernel_rfl) (by kernel_rfl) (by kernel_rfl) (fun _ _ _ h => h) (Or.inl ⟨by rfl, ?yr4_60⟩) hHeld ?_
      case yr4_60 => (intro W0 hSw; go_simp; try with_reducible rfl)
      try simp only [pu]
      refine wpAnyH_done (by kernel_rfl) ?_ _
      go_wp2
      go_ret
      exact ⟨rfl, below_next hbV hbV.size hHeld⟩
    · have m8 := m6 rfl rfl
      simp only [m8.out] at c10
      clear m6 m8
      refine wp_region_held_drew (S := fun W' => Below V.heap.size V W') (by kernel_rfl) ((Below.refl _ _).drew) (fun hHeld => ?_)
      refine wpAnyH_take (i := 0) (oi := ⟨(some 13), _, _, _, _, _⟩) (v := .agg (i64v a).toArray) rfl (by kernel_rfl) (by kernel_rfl) (by kernel_rfl) (fun _ _ _ h => h) (yieldsIf_load_mid (by rfl) _ _ rfl w.heap.size 0 rfl (i64v a) _ (fun W' hW' => range_row ((hW'.block _ sA).trans gA.out)) (Try.underlying27) rfl (by rw [i64v_len, HA.out]; kernel_rfl)) hHeld ?_
      try simp only [pu]
      refine wpAnyH_take (i := 1) (oi := ⟨(some 14), _, _, _, _, _⟩) (v := .agg (i64v m).toArray) rfl (by kernel_rfl) (by kernel_rfl) (by kernel_rfl) (fun _ _ _ h => h) (yieldsIf_load_mid (by rfl) _ _ rfl G 0 rfl (i64v m) _ (fun W' hW' => range_row ((hW'.block _ sM).trans gM.out)) (Try.underlying27) rfl (by rw [i64v_len, HML.out]; kernel_rfl)) hHeld ?_
      try simp only [pu]
      refine wpAnyH_ready (rs := [2]) (by kernel_rfl) (by simp) ?_
      refine AllReadyH.cons (i := 2) (o := ⟨(some 15), _, _, _, _, _⟩) rfl (fun K hK => ?_) AllReadyH.nil
      go_simp
      refine (c1 _).mono ?_
      rintro e r4W1 ⟨rfl, r4h1⟩
      refine hK.out _ _ (below_next hHeld hHeld.size r4h1) (fun hHeld => ?_)
      clear hK K r4h1
      try simp only [pu]
      refine wpAnyH_take (i := 3) (oi := ⟨(some 16), _, _, _, _, _⟩) (v := .bool true) rfl (by kernel_rfl) (by kernel_rfl) (by kernel_rfl) (fun _ _ _ h => h) (Or.inl ⟨by rfl, ?yr4_3⟩) hHeld ?_
      case yr4_3 => (intro W0 hSw; go_simp; try with_reducible rfl)
      try simp only [pu]
      refine wpAnyH_take (i := 4) (oi := ⟨(some 17), _, _, _, _, _⟩) (v := .agg (i64v b).toArray) rfl (by kernel_rfl) (by kernel_rfl) (by kernel_rfl) (fun _ _ _ h => h) (yieldsIf_load_mid (by rfl) _ _ rfl (w.heap.size + 1) 0 rfl (i64v b) _ (fun W' hW' => range_row ((hW'.block _ sB).trans gB.out)) (Try.underlying27) rfl (by rw [i64v_len, HB.out]; kernel_rfl)) hHeld ?_
      try simp only [pu]
      refine wpAnyH_take (i := 5) (oi := ⟨(some 18), _, _, _, _, _⟩) (v := .agg (i64v m).toArray) rfl (by kernel_rfl) (by kernel_rfl) (by kernel_rfl) (fun _ _ _ h => h) (yieldsIf_load_mid (by rfl) _ _ rfl G 0 rfl (i64v m) _ (fun W' hW' => range_row ((hW'.block _ sM).trans gM.out)) (Try.underlying27) rfl (by rw [i64v_len, HML.out]; kernel_rfl)) hHeld ?_
      try simp only [pu]
      refine wpAnyH_ready (rs := [6]) (by kernel_rfl) (by simp) ?_
      refine AllReadyH.cons (i := 6) (o := ⟨(some 19), _, _, _, _, _⟩) rfl (fun K hK => ?_) AllReadyH.nil
      go_simp
      refine (c2 _).mono ?_
      rintro e r4W2 ⟨rfl, r4h2⟩
      refine hK.out _ _ (below_next hHeld hHeld.size r4h2) (fun hHeld => ?_)
      clear hK K r4h2
      try simp only [pu]
      refine wpAnyH_take (i := 7) (oi := ⟨(some 20), _, _, _, _, _⟩) (v := .bool true) rfl (by kernel_rfl) (by kernel_rfl) (by kernel_rfl) (fun _ _ _ h => h) (Or.inl ⟨by rfl, ?yr4_7⟩) hHeld ?_
      case yr4_7 => (intro W0 hSw; go_simp; try with_reducible rfl)
      try simp only [pu]
      refine wpAnyH_take (i := 8) (oi := ⟨(some 21), _, _, _, _, _⟩) (v := .bool true) rfl (by kernel_rfl) (by kernel_rfl) (by kernel_rfl) (fun _ _ _ h => h) (Or.inl ⟨by rfl, ?yr4_8⟩) hHeld ?_
      case yr4_8 => (intro W0 hSw; go_simp; try with_reducible rfl)
      try simp only [pu]
      refine wpAnyH_take (i := 9) (oi := ⟨(some 22), _, _, _, _, _⟩) (v := .agg (i64v m).toArray) rfl (by kernel_rfl) (by kernel_rfl) (by kernel_rfl) (fun _ _ _ h => h) (yieldsIf_load_mid (by rfl) _ _ rfl G 0 rfl (i64v m) _ (fun W' hW' => range_row ((hW'.block _ sM).trans gM.out)) (Try.underlying27) rfl (by rw [i64v_len, HML.out]; kernel_rfl)) hHeld ?_
      try simp only [pu]
      refine wpAnyH_take (i := 10) (oi := ⟨(some 23), _, _, _, _, _⟩) (v := .agg (i64v b).toArray) rfl (by kernel_rfl) (by kernel_rfl) (by kernel_rfl) (fun _ _ _ h => h) (yieldsIf_load_mid (by rfl) _ _ rfl (w.heap.size + 1) 0 rfl (i64v b) _ (fun W' hW' => range_row ((hW'.block _ sB).trans gB.out)) (Try.underlying27) rfl (by rw [i64v_len, HB.out]; kernel_rfl)) hHeld ?_
      try simp only [pu]
      refine wpAnyH_take (i := 11) (oi := ⟨(some 24), _, _, _, _, _⟩) (v := .agg (i64v a).toArray) rfl (by kernel_rfl) (by kernel_rfl) (by kernel_rfl) (fun _ _ _ h => h) (yieldsIf_load_mid (by rfl) _ _ rfl w.heap.size 0 rfl (i64v a) _ (fun W' hW' => range_row ((hW'.block _ sA).trans gA.out)) (Try.underlying27) rfl (by rw [i64v_len, HA.out]; kernel_rfl)) hHeld ?_
      try simp only [pu]
      refine wpAnyH_ready (rs := [12]) (by kernel_rfl) (by simp) ?_
      refine AllReadyH.cons (i := 12) (o := ⟨(some 25), _, _, _, _, _⟩) rfl (fun K hK => ?_) AllReadyH.nil
      go_simp
      refine (c3 _).mono ?_
      rintro e r4W3 ⟨rfl, r4h3⟩
      refine hK.out _ _ (below_next hHeld hHeld.size r4h3) (fun hHeld => ?_)
      clear hK K r4h3
      try simp only [pu]
      refine wpAnyH_take (i := 13) (oi := ⟨(some 26), _, _, _, _, _⟩) (v := .bool true) rfl (by kernel_rfl) (by kernel_rfl) (by kernel_rfl) (fun _ _ _ h => h) (Or.inl ⟨by rfl, ?yr4_13⟩) hHeld ?_
      case yr4_13 => (intro W0 hSw; go_simp; try simp only [q1]; try with_reducible rfl)
      try simp only [pu]
      refine wpAnyH_take (i := 14) (oi := ⟨(some 27), _, _, _, _, _⟩) (v := .bool true) rfl (by kernel_rfl) (by kernel_rfl) (by kernel_rfl) (fun _ _ _ h => h) (Or.inl ⟨by rfl, ?yr4_14⟩) hHeld ?_
      case yr4_14 => (intro W0 hSw; go_simp; try with_reducible rfl)
      try simp only [pu]
      refine wpAnyH_take (i := 15) (oi := ⟨(some 28), _, _, _, _, _⟩) (v := .bool true) rfl (by kernel_rfl) (by kernel_rfl) (by kernel_rfl) (fun _ _ _ h => h) (Or.inl ⟨by rfl, ?yr4_15⟩) hHeld ?_
      case yr4_15 => (intro W0 hSw; go_simp; try with_reducible rfl)
      try simp only [pu]
      refine wpAnyH_take (i := 16) (oi := ⟨(some 29), _, _, _, _, _⟩) (v := .agg (i64v m).toArray) rfl (by kernel_rfl) (by kernel_rfl) (by kernel_rfl) (fun _ _ _ h => h) (yieldsIf_load_mid (by rfl) _ _ rfl G 0 rfl (i64v m) _ (fun W' hW' => range_row ((hW'.block _ sM).trans gM.out)) (Try.underlying27) rfl (by rw [i64v_len, HML.out]; kernel_rfl)) hHeld ?_
      try simp only [pu]
      refine wpAnyH_take (i := 17) (oi := ⟨(some 30), _, _, _, _, _⟩) (v := .agg (i64v c).toArray) rfl (by kernel_rfl) (by kernel_rfl) (by kernel_rfl) (fun _ _ _ h => h) (yieldsIf_load_mid (by rfl) _ _ rfl (w.heap.size + 2) 0 rfl (i64v c) _ (fun W' hW' => range_row ((hW'.block _ sC).trans gC.out)) (Try.underlying27) rfl (by rw [i64v_len, HC.out]; kernel_rfl)) hHeld ?_
      try simp only [pu]
      refine wpAnyH_take (i := 19) (oi := ⟨(some 32), _, _, _, _, _⟩) (v := .agg (i64v a).toArray) rfl (by kernel_rfl) (by kernel_rfl) (by kernel_rfl) (fun _ _ _ h => h) (yieldsIf_load_mid (by rfl) _ _ rfl w.heap.size 0 rfl (i64v a) _ (fun W' hW' => range_row ((hW'.block _ sA).trans gA.out)) (Try.underlying27) rfl (by rw [i64v_len, HA.out]; kernel_rfl)) hHeld ?_
      try simp only [pu]
      refine wpAnyH_take (i := 20) (oi := ⟨(some 33), _, _, _, _, _⟩) (v := .agg (i64v b).toArray) rfl (by kernel_rfl) (by kernel_rfl) (by kernel_rfl) (fun _ _ _ h => h) (yieldsIf_load_mid (by rfl) _ _ rfl (w.heap.size + 1) 0 rfl (i64v b) _ (fun W' hW' => range_row ((hW'.block _ sB).trans gB.out)) (Try.underlying27) rfl (by rw [i64v_len, HB.out]; kernel_rfl)) hHeld ?_
      try simp only [pu]
      refine wpAnyH_take (i := 21) (oi := ⟨(some 34), _, _, _, _, _⟩) (v := .agg (i64v c).toArray) rfl (by kernel_rfl) (by kernel_rfl) (by kernel_rfl) (fun _ _ _ h => h) (yieldsIf_load_mid (by rfl) _ _ rfl (w.heap.size + 2) 0 rfl (i64v c) _ (fun W' hW' => range_row ((hW'.block _ sC).trans gC.out)) (Try.underlying27) rfl (by rw [i64v_len, HC.out]; kernel_rfl)) hHeld ?_
      try simp only [pu]
      refine wpAnyH_ready (rs := [18]) (by kernel_rfl) (by simp) ?_
      refine AllReadyH.cons (i := 18) (o := ⟨(some 31), _, _, _, _, _⟩) rfl (fun K hK => ?_) AllReadyH.nil
      go_simp
      refine (c4 _).mono ?_
      rintro e r4W4 ⟨rfl, r4h4⟩
      refine hK.out _ _ (below_next hHeld hHeld.size r4h4) (fun hHeld => ?_)
      clear hK K r4h4
      try simp only [pu]
      refine wpAnyH_ready (rs := [22]) (by kernel_rfl) (by simp) ?_
      refine AllReadyH.cons (i := 22) (o := ⟨(some 35), _, _, _, _, _⟩) rfl (fun K hK => ?_) AllReadyH.nil
      go_simp
      refine (c5 _).mono ?_
      rintro e r4W5 ⟨rfl, r4h5⟩
      refine hK.out _ _ (below_next hHeld hHeld.size r4h5) (fun hHeld => ?_)
      clear hK K r4h5
      try simp only [pu]
      refine wpAnyH_ready (rs := [23]) (by kernel_rfl) (by simp) ?_
      refine AllReadyH.cons (i := 23) (o := ⟨(some 36), _, _, _, _, _⟩) rfl (fun K hK => ?_) AllReadyH.nil
      go_simp
      refine (c6 _).mono ?_
      rintro e r4W6 ⟨rfl, r4h6⟩
      refine hK.out _ _ (below_next hHeld hHeld.size r4h6) (fun hHeld => ?_)
      clear hK K r4h6
      try simp only [pu]
      refine wpAnyH_take (i := 24) (oi := ⟨(some 37), _, _, _, _, _⟩) (v := .bool true) rfl (by kernel_rfl) (by kernel_rfl) (by kernel_rfl) (fun _ _ _ h => h) (Or.inl ⟨by rfl, ?yr4_24⟩) hHeld ?_
      case yr4_24 => (intro W0 hSw; go_simp; try simp only [q2]; try with_reducible rfl)
      try simp only [pu]
      refine wpAnyH_take (i := 25) (oi := ⟨(some 38), _, _, _, _, _⟩) (v := .bool true) rfl (by kernel_rfl) (by kernel_rfl) (by kernel_rfl) (fun _ _ _ h => h) (Or.inl ⟨by rfl, ?yr4_25⟩) hHeld ?_
      case yr4_25 => (intro W0 hSw; go_simp; try with_reducible rfl)
      try simp only [pu]
      refine wpAnyH_take (i := 26) (oi := ⟨(some 39), _, _, _, _, _⟩) (v := .bool true) rfl (by kernel_rfl) (by kernel_rfl) (by kernel_rfl) (fun _ _ _ h => h) (Or.inl ⟨by rfl, ?yr4_26⟩) hHeld ?_
      case yr4_26 => (intro W0 hSw; go_simp; try with_reducible rfl)
      try simp only [pu]
      refine wpAnyH_take (i := 27) (oi := ⟨(some 40), _, _, _, _, _⟩) (v := .agg (i64v a).toArray) rfl (by kernel_rfl) (by kernel_rfl) (by kernel_rfl) (fun _ _ _ h => h) (yieldsIf_load_mid (by rfl) _ _ rfl w.heap.size 0 rfl (i64v a) _ (fun W' hW' => range_row ((hW'.block _ sA).trans gA.out)) (Try.underlying27) rfl (by rw [i64v_len, HA.out]; kernel_rfl)) hHeld ?_
      try simp only [pu]
      refine wpAnyH_take (i := 28) (oi := ⟨(some 41), _, _, _, _, _⟩) (v := .agg (i64v a).toArray) rfl (by kernel_rfl) (by kernel_rfl) (by kernel_rfl) (fun _ _ _ h => h) (yieldsIf_load_mid (by rfl) _ _ rfl w.heap.size 0 rfl (i64v a) _ (fun W' hW' => range_row ((hW'.block _ sA).trans gA.out)) (Try.underlying27) rfl (by rw [i64v_len, HA.out]; kernel_rfl)) hHeld ?_
      try simp only [pu]
      refine wpAnyH_take (i := 30) (oi := ⟨(some 43), _, _, _, _, _⟩) (v := .agg (i64v a).toArray) rfl (by kernel_rfl) (by kernel_rfl) (by kernel_rfl) (fun _ _ _ h => h) (yieldsIf_load_mid (by rfl) _ _ rfl w.heap.size 0 rfl (i64v a) _ (fun W' hW' => range_row ((hW'.block _ sA).trans gA.out)) (Try.underlying27) rfl (by rw [i64v_len, HA.out]; kernel_rfl)) hHeld ?_
      try simp only [pu]
      refine wpAnyH_ready (rs := [29]) (by kernel_rfl) (by simp) ?_
      refine AllReadyH.cons (i := 29) (o := ⟨(some 42), _, _, _, _, _⟩) rfl (fun K hK => ?_) AllReadyH.nil
      go_simp
      refine (c7 _).mono ?_
      rintro e r4W7 ⟨rfl, r4h7⟩
      refine hK.out _ _ (below_next hHeld hHeld.size r4h7) (fun hHeld => ?_)
      clear hK K r4h7
      try simp only [pu]
      refine wpAnyH_take (i := 31) (oi := ⟨(some 44), _, _, _, _, _⟩) (v := .bool true) rfl (by kernel_rfl) (by kernel_rfl) (by kernel_rfl) (fun _ _ _ h => h) (Or.inl ⟨by rfl, ?yr4_31⟩) hHeld ?_
      case yr4_31 => (intro W0 hSw; go_simp; try simp only [q3]; try with_reducible rfl)
      try simp only [pu]
      refine wpAnyH_take (i := 32) (oi := ⟨(some 45), _, _, _, _, _⟩) (v := .bool true) rfl (by kernel_rfl) (by kernel_rfl) (by kernel_rfl) (fun _ _ _ h => h) (Or.inl ⟨by rfl, ?yr4_32⟩) hHeld ?_
      case yr4_32 => (intro W0 hSw; go_simp; try with_reducible rfl)
      try simp only [pu]
      refine wpAnyH_take (i := 33) (oi := ⟨(some 46), _, _, _, _, _⟩) (v := .bool true) rfl (by kernel_rfl) (by kernel_rfl) (by kernel_rfl) (fun _ _ _ h => h) (Or.inl ⟨by rfl, ?yr4_33⟩) hHeld ?_
      case yr4_33 => (intro W0 hSw; go_simp; try with_reducible rfl)
      try simp only [pu]
      refine wpAnyH_take (i := 34) (oi := ⟨(some 47), _, _, _, _, _⟩) (v := .agg (i64v a).toArray) rfl (by kernel_rfl) (by kernel_rfl) (by kernel_rfl) (fun _ _ _ h => h) (yieldsIf_load_mid (by rfl) _ _ rfl w.heap.size 0 rfl (i64v a) _ (fun W' hW' => range_row ((hW'.block _ sA).trans gA.out)) (Try.underlying27) rfl (by rw [i64v_len, HA.out]; kernel_rfl)) hHeld ?_
      try simp only [pu]
      refine wpAnyH_take (i := 35) (oi := ⟨(some 48), _, _, _, _, _⟩) (v := .agg (i64v c).toArray) rfl (by kernel_rfl) (by kernel_rfl) (by kernel_rfl) (fun _ _ _ h => h) (yieldsIf_load_mid (by rfl) _ _ rfl (w.heap.size + 2) 0 rfl (i64v c) _ (fun W' hW' => range_row ((hW'.block _ sC).trans gC.out)) (Try.underlying27) rfl (by rw [i64v_len, HC.out]; kernel_rfl)) hHeld ?_
      try simp only [pu]
      refine wpAnyH_ready (rs := [36]) (by kernel_rfl) (by simp) ?_
      refine AllReadyH.cons (i := 36) (o := ⟨(some 49), _, _, _, _, _⟩) rfl (fun K hK => ?_) AllReadyH.nil
      go_simp
      refine (c8 _).mono ?_
      rintro e r4W8 ⟨rfl, r4h8⟩
      refine hK.out _ _ (below_next hHeld hHeld.size r4h8) (fun hHeld => ?_)
      clear hK K r4h8
      try simp only [pu]
      refine wpAnyH_take (i := 37) (oi := ⟨(some 50), _, _, _, _, _⟩) (v := .bool false) rfl (by kernel_rfl) (by kernel_rfl) (by kernel_rfl) (fun _ _ _ h => h) (Or.inl ⟨by rfl, ?yr4_37⟩) hHeld ?_
      case yr4_37 => (intro W0 hSw; go_simp; try with_reducible rfl)
      try simp only [pu]
      refine wpAnyH_take (i := 38) (oi := ⟨(some 51), _, _, _, _, _⟩) (v := .bool false) rfl (by kernel_rfl) (by kernel_rfl) (by kernel_rfl) (fun _ _ _ h => h) (Or.inl ⟨by rfl, ?yr4_38⟩) hHeld ?_
      case yr4_38 => (intro W0 hSw; go_simp; try with_reducible rfl)
      try simp only [pu]
      refine wpAnyH_take (i := 39) (oi := ⟨(some 52), _, _, _, _, _⟩) (v := .agg (i64v b).toArray) rfl (by kernel_rfl) (by kernel_rfl) (by kernel_rfl) (fun _ _ _ h => h) (yieldsIf_load_mid (by rfl) _ _ rfl (w.heap.size + 1) 0 rfl (i64v b) _ (fun W' hW' => range_row ((hW'.block _ sB).trans gB.out)) (Try.underlying27) rfl (by rw [i64v_len, HB.out]; kernel_rfl)) hHeld ?_
      try simp only [pu]
      refine wpAnyH_take (i := 40) (oi := ⟨(some 53), _, _, _, _, _⟩) (v := .agg (i64v c).toArray) rfl (by kernel_rfl) (by kernel_rfl) (by kernel_rfl) (fun _ _ _ h => h) (yieldsIf_load_mid (by rfl) _ _ rfl (w.heap.size + 2) 0 rfl (i64v c) _ (fun W' hW' => range_row ((hW'.block _ sC).trans gC.out)) (Try.underlying27) rfl (by rw [i64v_len, HC.out]; kernel_rfl)) hHeld ?_
      try simp only [pu]
      refine wpAnyH_ready (rs := [41]) (by kernel_rfl) (by simp) ?_
      refine AllReadyH.cons (i := 41) (o := ⟨(some 54), _, _, _, _, _⟩) rfl (fun K hK => ?_) AllReadyH.nil
      go_simp
      refine (c9 _).mono ?_
      rintro e r4W9 ⟨rfl, r4h9⟩
      refine hK.out _ _ (below_next hHeld hHeld.size r4h9) (fun hHeld => ?_)
      clear hK K r4h9
      try simp only [pu]
      refine wpAnyH_take (i := 42) (oi := ⟨(some 55), _, _, _, _, _⟩) (v := .bool false) rfl (by kernel_rfl) (by kernel_rfl) (by kernel_rfl) (fun _ _ _ h => h) (Or.inl ⟨by rfl, ?yr4_42⟩) hHeld ?_
      case yr4_42 => (intro W0 hSw; go_simp; try with_reducible rfl)
      try simp only [pu]
      refine wpAnyH_take (i := 43) (oi := ⟨(some 56), _, _, _, _, _⟩) (v := .bool false) rfl (by kernel_rfl) (by kernel_rfl) (by kernel_rfl) (fun _ _ _ h => h) (Or.inl ⟨by rfl, ?yr4_43⟩) hHeld ?_
      case yr4_43 => (intro W0 hSw; go_simp; try with_reducible rfl)
      try simp only [pu]
      refine wpAnyH_take (i := 44) (oi := ⟨(some 57), _, _, _, _, _⟩) (v := .bool false) rfl (by kernel_rfl) (by kernel_rfl) (by kernel_rfl) (fun _ _ _ h => h) (Or.inl ⟨by rfl, ?yr4_44⟩) hHeld ?_
      case yr4_44 => (intro W0 hSw; go_simp; try with_reducible rfl)
      try simp only [pu]
      refine wpAnyH_take (i := 45) (oi := ⟨(some 58), _, _, _, _, _⟩) (v := .agg (i64v m).toArray) rfl (by kernel_rfl) (by kernel_rfl) (by kernel_rfl) (fun _ _ _ h => h) (yieldsIf_load_mid (by rfl) _ _ rfl G 0 rfl (i64v m) _ (fun W' hW' => range_row ((hW'.block _ sM).trans gM.out)) (Try.underlying27) rfl (by rw [i64v_len, HML.out]; kernel_rfl)) hHeld ?_
      try simp only [pu]
      refine wpAnyH_take (i := 46) (oi := ⟨(some 59), _, _, _, _, _⟩) (v := .agg (i64v c).toArray) rfl (by kernel_rfl) (by kernel_rfl) (by kernel_rfl) (fun _ _ _ h => h) (yieldsIf_load_mid (by rfl) _ _ rfl (w.heap.size + 2) 0 rfl (i64v c) _ (fun W' hW' => range_row ((hW'.block _ sC).trans gC.out)) (Try.underlying27) rfl (by rw [i64v_len, HC.out]; kernel_rfl)) hHeld ?_
      try simp only [pu]
      refine wpAnyH_ready (rs := [47]) (by kernel_rfl) (by simp) ?_
      refine AllReadyH.cons (i := 47) (o := ⟨(some 60), _, _, _, _, _⟩) rfl (fun K hK => ?_) AllReadyH.nil
      go_simp
      refine (c10 _).mono ?_
      rintro e r4W10 ⟨rfl, r4h10⟩
      refine hK.out _ _ (below_next hHeld hHeld.size r4h10) (fun hHeld => ?_)
      clear hK K r4h10
      try simp only [pu]
      refine wpAnyH_take (i := 48) (oi := ⟨(some 61), _, _, _, _, _⟩) (v := .bool true) rfl (by kernel_rfl) (by kernel_rfl) (by kernel_rfl) (fun _ _ _ h => h) (Or.inl ⟨by rfl, ?yr4_48⟩) hHeld ?_
      case yr4_48 => (intro W0 hSw; go_simp; try with_reducible rfl)
      try simp only [pu]
      refine wpAnyH_take (i := 49) (oi := ⟨(some 62), _, _, _, _, _⟩) (v := .bool true) rfl (by kernel_rfl) (by kernel_rfl) (by kernel_rfl) (fun _ _ _ h => h) (Or.inl ⟨by rfl, ?yr4_49⟩) hHeld ?_
      case yr4_49 => (intro W0 hSw; go_simp; try with_reducible rfl)
      try simp only [pu]
      refine wpAnyH_take (i := 50) (oi := ⟨(some 63), _, _, _, _, _⟩) (v := .bool true) rfl (by kernel_rfl) (by kernel_rfl) (by kernel_rfl) (fun _ _ _ h => h) (Or.inl ⟨by rfl, ?yr4_50⟩) hHeld ?_
      case yr4_50 => (intro W0 hSw; go_simp; try with_reducible rfl)
      try simp only [pu]
      refine wpAnyH_take (i := 51) (oi := ⟨(some 64), _, _, _, _, _⟩) (v := .agg (i64v a).toArray) rfl (by kernel_rfl) (by kernel_rfl) (by kernel_rfl) (fun _ _ _ h => h) (yieldsIf_load_mid (by rfl) _ _ rfl w.heap.size 0 rfl (i64v a) _ (fun W' hW' => range_row ((hW'.block _ sA).trans gA.out)) (Try.underlying27) rfl (by rw [i64v_len, HA.out]; kernel_rfl)) hHeld ?_
      try simp only [pu]
      refine wpAnyH_take (i := 52) (oi := ⟨(some 65), _, _, _, _, _⟩) (v := .agg (i64v b).toArray) rfl (by kernel_rfl) (by kernel_rfl) (by kernel_rfl) (fun _ _ _ h => h) (yieldsIf_load_mid (by rfl) _ _ rfl (w.heap.size + 1) 0 rfl (i64v b) _ (fun W' hW' => range_row ((hW'.block _ sB).trans gB.out)) (Try.underlying27) rfl (by rw [i64v_len, HB.out]; kernel_rfl)) hHeld ?_
      try simp only [pu]
      refine wpAnyH_take (i := 55) (oi := ⟨(some 68), _, _, _, _, _⟩) (v := .agg (i64v a).toArray) rfl (by kernel_rfl) (by kernel_rfl) (by kernel_rfl) (fun _ _ _ h => h) (yieldsIf_load_mid (by rfl) _ _ rfl w.heap.size 0 rfl (i64v a) _ (fun W' hW' => range_row ((hW'.block _ sA).trans gA.out)) (Try.underlying27) rfl (by rw [i64v_len, HA.out]; kernel_rfl)) hHeld ?_
      try simp only [pu]
      refine wpAnyH_take (i := 56) (oi := ⟨(some 69), _, _, _, _, _⟩) (v := .agg (i64v b).toArray) rfl (by kernel_rfl) (by kernel_rfl) (by kernel_rfl) (fun _ _ _ h => h) (yieldsIf_load_mid (by rfl) _ _ rfl (w.heap.size + 1) 0 rfl (i64v b) _ (fun W' hW' => range_row ((hW'.block _ sB).trans gB.out)) (Try.underlying27) rfl (by rw [i64v_len, HB.out]; kernel_rfl)) hHeld ?_
      try simp only [pu]
      refine wpAnyH_take (i := 57) (oi := ⟨(some 70), _, _, _, _, _⟩) (v := .bool o3) rfl (by kernel_rfl) (by kernel_rfl) (by kernel_rfl) (fun _ _ _ h => h) (Or.inl ⟨by rfl, ?yr4_57⟩) hHeld ?_
      case yr4_57 => (intro W0 hSw; go_simp; try simp only [q4]; try with_reducible rfl)
      try simp only [pu]
      refine wpAnyH_ready (rs := [53]) (by kernel_rfl) (by simp) ?_
      refine AllReadyH.cons (i := 53) (o := ⟨(some 66), _, _, _, _, _⟩) rfl (fun K hK => ?_) AllReadyH.nil
      go_simp
      refine (c11 _).mono ?_
      rintro e r4W11 ⟨rfl, r4h11⟩
      refine hK.out _ _ (below_next hHeld hHeld.size r4h11) (fun hHeld => ?_)
      clear hK K r4h11
      try simp only [pu]
      refine wpAnyH_take (i := 54) (oi := ⟨(some 67), _, _, _, _, _⟩) (v := .bool o3) rfl (by kernel_rfl) (by kernel_rfl) (by kernel_rfl) (fun _ _ _ h => h) (Or.inl ⟨by rfl, ?yr4_54⟩) hHeld ?_
      case yr4_54 => (intro W0 hSw; go_simp; try simp only [m7.out]; try with_reducible rfl)
      try simp only [pu]
      refine wpAnyH_take (i := 58) (oi := ⟨(some 71), _, _, _, _, _⟩) (v := .bool true) rfl (by kernel_rfl) (by kernel_rfl) (by kernel_rfl) (fun _ _ _ h => h) (Or.inl ⟨by rfl, ?yr4_58⟩) hHeld ?_
      case yr4_58 => (intro W0 hSw; go_simp; try simp; try with_reducible rfl)
      try simp only [pu]
      refine wpAnyH_take (i := 59) (oi := ⟨(some 72), _, _, _, _, _⟩) (v := .bool true) rfl (by kernel_rfl) (by kernel_rfl) (by kernel_rfl) (fun _ _ _ h => h) (Or.inl ⟨by rfl, ?yr4_59⟩) hHeld ?_
      case yr4_59 => (intro W0 hSw; go_simp; try with_reducible rfl)
      try simp only [pu]
      refine wpAnyH_take (i := 60) (oi := ⟨(some 6), _, _, _, _, _⟩) (v := .bool true) rfl (by kernel_rfl) (by kernel_rfl) (by kernel_rfl) (fun _ _ _ h => h) (Or.inl ⟨by rfl, ?yr4_60⟩) hHeld ?_
      case yr4_60 => (intro W0 hSw; go_simp; try with_reducible rfl)
      try simp only [pu]
      refine wpAnyH_done (by kernel_rfl) ?_ _
      go_wp2
      go_ret
      exact ⟨rfl, below_next hbV hbV.size hHeld⟩
end Go.Proofs.Ytkenldlhkmocjaa
