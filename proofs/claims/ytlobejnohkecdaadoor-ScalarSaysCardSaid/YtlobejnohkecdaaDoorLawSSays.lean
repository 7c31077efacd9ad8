/-
  ScalarSays: the law's Go text returns true, whatever the input. Conditions: none beyond the row's own.
-/
import Derived.Test.YtlobejnohkecdaaDoorScY
import Derived.Test.YtlobejnohkecdaaDoorRsB
namespace Go.Proofs.YtlobejnohkecdaaDoor
open Go.RowKit

set_option maxRecDepth 100000 in
set_option maxHeartbeats 4000000 in
theorem walk_ScalarSays (w : World) (hla : LaidO w) (a : List UInt8) (ha : a.length = 32) (b : List UInt8) (hb : b.length = 32) (l : List UInt8) (hl : l.length = 64) :
    Calls Tryd.prog 4 #[.agg (bv a).toArray, .agg (bv b).toArray, .agg (bv l).toArray] w fun e w' => e = .returned (.bool true) ∧ Below w.heap.size w w' := by
  have hzw := zero_word
  obtain ⟨W, hW, hgA, hgB, hgC, hbW, hsW⟩ := three_new w (bv a).toArray (bv b).toArray (bv l).toArray 24 24 26
  have HW := Lib.hid hW
  have HA := Lib.hid ha
  have HB := Lib.hid hb
  have HC := Lib.hid hl
  have hlaW := hla.below hla.2 hbW
  have hs : w.heap.size + 2 < W.heap.size := by have := hsW.out; omega
  clear hW ha hb hl hsW hla
  have hc1 := cut_all Tryd.underlying24 Tryd.sizeByte w.heap.size 0 (by decide)
  have hc2 := cut_all Tryd.underlying26 Tryd.sizeByte (w.heap.size + 2) 0 (by decide)
  go_enter Tryd.func4, Tryd.ntmps4
  go_upto_region 1 with fail
  rw [HW.out]
  go_wp2_with fail
  refine (awake8_any W hlaW).mono ?_
  rintro e V ⟨rfl, hbV⟩
  have hbw := below_next hbW hbW.size hbV
  have hlaV := hlaW.below hlaW.2 hbV
  have hgA := Lib.hid ((hbV.block _ (by omega)).trans hgA.out)
  have hgB := Lib.hid ((hbV.block _ (by omega)).trans hgB.out)
  have hgC := Lib.hid ((hbV.block _ (by omega)).trans hgC.out)
  have hs0 : w.heap.size < V.heap.size := by have := hbV.size; omega
  have hs1 : w.heap.size + 1 < V.heap.size := by have := hbV.size; omega
  have hs2 : w.heap.size + 2 < V.heap.size := by have := hbV.size; omega
  go_upto_region 3 with fail
  refine wp_region_held_drew (S := (fun W' => Below V.heap.size V W')) (by kernel_rfl) ((Below.refl _ _).drew) (fun hHeld => ?_)
  refine wpAnyH_take (i := 0) (oi := ⟨(some 9), _, _, _, _, _⟩) (v := _) rfl (by kernel_rfl) (by kernel_rfl) (by kernel_rfl) (fun _ _ _ h => h) (yieldsIf_load_mid (by rfl) _ _ rfl (w.heap.size) 0 rfl (bv a) _ (fun W' hW' => range_row ((hW'.block _ hs0).trans hgA.out)) (Tryd.underlying24) (rfl) (by rw [bv_len, HA.out]; kernel_rfl)) hHeld ?_
  try simp only [Act.put, List.setIfInBounds_toArray, List.set_cons_zero, List.set_cons_succ]
  refine wpAnyH_take (i := 2) (oi := ⟨(some 11), _, _, _, _, _⟩) (v := ?vq1_0) rfl (by kernel_rfl) (by kernel_rfl) (by kernel_rfl) (fun _ _ _ h => h) (Or.inl ⟨by rfl, ?yq1_0⟩) hHeld ?_
  case yq1_0 => (intro W0 hSw; go_simp; try with_reducible rfl)
  try simp only [Act.put, List.setIfInBounds_toArray, List.set_cons_zero, List.set_cons_succ]
  refine wpAnyH_ready (rs := [1]) (by kernel_rfl) (by simp) ?_
  refine AllReadyH.cons (i := 1) (o := ⟨(some 10), _, _, _, _, _⟩) rfl (fun K hK => ?_) AllReadyH.nil
  go_simp
  refine (lnorm_any _ (hlaV.below hlaV.2 hHeld) a (HA.out)).mono ?_
  rintro e w1 ⟨v10, rfl, e10, h10, hb1⟩
  refine hK.out _ _ (below_next hHeld hHeld.size hb1) (fun hHeld => ?_)
  clear hK K
  try simp only [Act.put, List.setIfInBounds_toArray, List.set_cons_zero, List.set_cons_succ]
  refine wpAnyH_ready (rs := [3]) (by kernel_rfl) (by simp) ?_
  refine AllReadyH.cons (i := 3) (o := ⟨(some 12), _, _, _, _, _⟩) rfl (fun K hK => ?_) AllReadyH.nil
  go_simp
  refine (rmod_any _ (some ⟨w.heap.size, 0, none⟩) 32 32 a (byt_row ((hHeld.block _ hs0).trans hgA.out)) HA.out (by decide)).mono ?_
  rintro e w2 ⟨v12, rfl, e12, h12, hb2⟩
  refine hK.out _ _ (below_next hHeld hHeld.size hb2) (fun hHeld => ?_)
  clear hK K
  try simp only [Act.put, List.setIfInBounds_toArray, List.set_cons_zero, List.set_cons_succ]
  obtain rfl : v10 = v12 := by rw [e10.out, e12.out]
  have q0 := eql_bytes_same (P := Tryd.prog) Tryd.underlying24 Tryd.underlying5 Tryd.sizeByte v10 (h10.out)
  refine wpAnyH_take (i := 4) (oi := ⟨(some 13), _, _, _, _, _⟩) (v := ?vq1_1) rfl (by kernel_rfl) (by kernel_rfl) (by kernel_rfl) (fun _ _ _ h => h) (Or.inl ⟨by rfl, ?yq1_1⟩) hHeld ?_
  case yq1_1 => (intro W0 hSw; go_simp; try with_reducible rfl)
  try simp only [Act.put, List.setIfInBounds_toArray, List.set_cons_zero, List.set_cons_succ]
  refine wpAnyH_take (i := 5) (oi := ⟨(some 14), _, _, _, _, _⟩) (v := ?vq1_2) rfl (by kernel_rfl) (by kernel_rfl) (by kernel_rfl) (fun _ _ _ h => h) (Or.inl ⟨by rfl, ?yq1_2⟩) hHeld ?_
  case yq1_2 => (intro W0 hSw; go_simp; try with_reducible rfl)
  try simp only [Act.put, List.setIfInBounds_toArray, List.set_cons_zero, List.set_cons_succ]
  refine wpAnyH_take (i := 6) (oi := ⟨(some 15), _, _, _, _, _⟩) (v := _) rfl (by kernel_rfl) (by kernel_rfl) (by kernel_rfl) (fun _ _ _ h => h) (yieldsIf_load_mid (by rfl) _ _ rfl (w.heap.size + 2) 0 rfl (bv l) _ (fun W' hW' => range_row ((hW'.block _ hs2).trans hgC.out)) (Tryd.underlying26) (rfl) (by rw [bv_len, HC.out]; kernel_rfl)) hHeld ?_
  try simp only [Act.put, List.setIfInBounds_toArray, List.set_cons_zero, List.set_cons_succ]
  refine wpAnyH_take (i := 8) (oi := ⟨(some 17), _, _, _, _, _⟩) (v := ?vq1_3) rfl (by kernel_rfl) (by kernel_rfl) (by kernel_rfl) (fun _ _ _ h => h) (Or.inl ⟨by rfl, ?yq1_3⟩) hHeld ?_
  case yq1_3 => (intro W0 hSw; go_simp; try with_reducible rfl)
  try simp only [Act.put, List.setIfInBounds_toArray, List.set_cons_zero, List.set_cons_succ]
  refine wpAnyH_ready (rs := [7]) (by kernel_rfl) (by simp) ?_
  refine AllReadyH.cons (i := 7) (o := ⟨(some 16), _, _, _, _, _⟩) rfl (fun K hK => ?_) AllReadyH.nil
  go_simp
  refine (llong_any _ (hlaV.below hlaV.2 hHeld) l (HC.out)).mono ?_
  rintro e w3 ⟨v16, rfl, e16, h16, hb3⟩
  refine hK.out _ _ (below_next hHeld hHeld.size hb3) (fun hHeld => ?_)
  clear hK K
  try simp only [Act.put, List.setIfInBounds_toArray, List.set_cons_zero, List.set_cons_succ]
  refine wpAnyH_ready (rs := [9]) (by kernel_rfl) (by simp) ?_
  refine AllReadyH.cons (i := 9) (o := ⟨(some 18), _, _, _, _, _⟩) rfl (fun K hK => ?_) AllReadyH.nil
  go_simp
  refine (rmod_any _ (some ⟨(w.heap.size + 2), 0, none⟩) 64 64 l (byt_row ((hHeld.block _ hs2).trans hgC.out)) HC.out (by decide)).mono ?_
  rintro e w4 ⟨v18, rfl, e18, h18, hb4⟩
  refine hK.out _ _ (below_next hHeld hHeld.size hb4) (fun hHeld => ?_)
  clear hK K
  try simp only [Act.put, List.setIfInBounds_toArray, List.set_cons_zero, List.set_cons_succ]
  obtain rfl : v16 = v18 := by rw [e16.out, e18.out]
  have q1 := eql_bytes_same (P := Tryd.prog) Tryd.underlying24 Tryd.underlying5 Tryd.sizeByte v16 (h16.out)
  refine wpAnyH_take (i := 10) (oi := ⟨(some 19), _, _, _, _, _⟩) (v := ?vq1_4) rfl (by kernel_rfl) (by kernel_rfl) (by kernel_rfl) (fun _ _ _ h => h) (Or.inl ⟨by rfl, ?yq1_4⟩) hHeld ?_
  case yq1_4 => (intro W0 hSw; go_simp; try with_reducible rfl)
  try simp only [Act.put, List.setIfInBounds_toArray, List.set_cons_zero, List.set_cons_succ]
  refine wpAnyH_take (i := 11) (oi := ⟨(some 20), _, _, _, _, _⟩) (v := ?vq1_5) rfl (by kernel_rfl) (by kernel_rfl) (by kernel_rfl) (fun _ _ _ h => h) (Or.inl ⟨by rfl, ?yq1_5⟩) hHeld ?_
  case yq1_5 => (intro W0 hSw; go_simp; try with_reducible rfl)
  try simp only [Act.put, List.setIfInBounds_toArray, List.set_cons_zero, List.set_cons_succ]
  refine wpAnyH_take (i := 12) (oi := ⟨(some 21), _, _, _, _, _⟩) (v := ?vq1_6) rfl (by kernel_rfl) (by kernel_rfl) (by kernel_rfl) (fun _ _ _ h => h) (Or.inl ⟨by rfl, ?yq1_6⟩) hHeld ?_
  case yq1_6 => (intro W0 hSw; go_simp; try with_reducible rfl)
  try simp only [Act.put, List.setIfInBounds_toArray, List.set_cons_zero, List.set_cons_succ]
  refine wpAnyH_take (i := 13) (oi := ⟨(some 22), _, _, _, _, _⟩) (v := _) rfl (by kernel_rfl) (by kernel_rfl) (by kernel_rfl) (fun _ _ _ h => h) (yieldsIf_load_mid (by rfl) _ _ rfl (w.heap.size) 0 rfl (bv a) _ (fun W' hW' => range_row ((hW'.block _ hs0).trans hgA.out)) (Tryd.underlying24) (rfl) (by rw [bv_len, HA.out]; kernel_rfl)) hHeld ?_
  try simp only [Act.put, List.setIfInBounds_toArray, List.set_cons_zero, List.set_cons_succ]
  refine wpAnyH_take (i := 15) (oi := ⟨(some 24), _, _, _, _, _⟩) (v := _) rfl (by kernel_rfl) (by kernel_rfl) (by kernel_rfl) (fun _ _ _ h => h) (yieldsIf_load_mid (by rfl) _ _ rfl (w.heap.size) 0 rfl (bv a) _ (fun W' hW' => range_row ((hW'.block _ hs0).trans hgA.out)) (Tryd.underlying24) (rfl) (by rw [bv_len, HA.out]; kernel_rfl)) hHeld ?_
  try simp only [Act.put, List.setIfInBounds_toArray, List.set_cons_zero, List.set_cons_succ]
  refine wpAnyH_ready (rs := [14]) (by kernel_rfl) (by simp) ?_
  refine AllReadyH.cons (i := 14) (o := ⟨(some 23), _, _, _, _, _⟩) rfl (fun K hK => ?_) AllReadyH.nil
  go_simp
  refine (lgood_any _ (hlaV.below hlaV.2 hHeld) a (HA.out)).mono ?_
  rintro e w5 ⟨v23, rfl, e23, hb5⟩
  refine hK.out _ _ (below_next hHeld hHeld.size hb5) (fun hHeld => ?_)
  clear hK K
  try simp only [Act.put, List.setIfInBounds_toArray, List.set_cons_zero, List.set_cons_succ]
  refine wpAnyH_ready (rs := [16]) (by kernel_rfl) (by simp) ?_
  refine AllReadyH.cons (i := 16) (o := ⟨(some 25), _, _, _, _, _⟩) rfl (fun K hK => ?_) AllReadyH.nil
  go_simp
  refine (rscgood_any _ a (HA.out)).mono ?_
  rintro e w6 ⟨v25, rfl, e25, hb6⟩
  refine hK.out _ _ (below_next hHeld hHeld.size hb6) (fun hHeld => ?_)
  clear hK K
  try simp only [Act.put, List.setIfInBounds_toArray, List.set_cons_zero, List.set_cons_succ]
  obtain rfl : v25 = v23 := by rw [e25.out, e23.out]
  refine wpAnyH_take (i := 17) (oi := ⟨(some 26), _, _, _, _, _⟩) (v := ?vq1_7) rfl (by kernel_rfl) (by kernel_rfl) (by kernel_rfl) (fun _ _ _ h => h) (Or.inl ⟨by rfl, ?yq1_7⟩) hHeld ?_
  case yq1_7 => (intro W0 hSw; go_simp; try with_reducible rfl)
  try simp only [Act.put, List.setIfInBounds_toArray, List.set_cons_zero, List.set_cons_succ]
  refine wpAnyH_take (i := 18) (oi := ⟨(some 27), _, _, _, _, _⟩) (v := ?vq1_8) rfl (by kernel_rfl) (by kernel_rfl) (by kernel_rfl) (fun _ _ _ h => h) (Or.inl ⟨by rfl, ?yq1_8⟩) hHeld ?_
  case yq1_8 => (intro W0 hSw; go_simp; try with_reducible rfl)
  try simp only [Act.put, List.setIfInBounds_toArray, List.set_cons_zero, List.set_cons_succ]
  refine wpAnyH_take (i := 19) (oi := ⟨(some 28), _, _, _, _, _⟩) (v := ?vq1_9) rfl (by kernel_rfl) (by kernel_rfl) (by kernel_rfl) (fun _ _ _ h => h) (Or.inl ⟨by rfl, ?yq1_9⟩) hHeld ?_
  case yq1_9 => (intro W0 hSw; go_simp; try with_reducible rfl)
  try simp only [Act.put, List.setIfInBounds_toArray, List.set_cons_zero, List.set_cons_succ]
  refine wpAnyH_take (i := 20) (oi := ⟨(some 29), _, _, _, _, _⟩) (v := _) rfl (by kernel_rfl) (by kernel_rfl) (by kernel_rfl) (fun _ _ _ h => h) (yieldsIf_load_mid (by rfl) _ _ rfl (w.heap.size) 0 rfl (bv a) _ (fun W' hW' => range_row ((hW'.block _ hs0).trans hgA.out)) (Tryd.underlying24) (rfl) (by rw [bv_len, HA.out]; kernel_rfl)) hHeld ?_
  try simp only [Act.put, List.setIfInBounds_toArray, List.set_cons_zero, List.set_cons_succ]
  refine wpAnyH_take (i := 21) (oi := ⟨(some 30), _, _, _, _, _⟩) (v := _) rfl (by kernel_rfl) (by kernel_rfl) (by kernel_rfl) (fun _ _ _ h => h) (yieldsIf_load_mid (by rfl) _ _ rfl (w.heap.size + 1) 0 rfl (bv b) _ (fun W' hW' => range_row ((hW'.block _ hs1).trans hgB.out)) (Tryd.underlying24) (rfl) (by rw [bv_len, HB.out]; kernel_rfl)) hHeld ?_
  try simp only [Act.put, List.setIfInBounds_toArray, List.set_cons_zero, List.set_cons_succ]
  refine wpAnyH_take (i := 23) (oi := ⟨(some 32), _, _, _, _, _⟩) (v := _) rfl (by kernel_rfl) (by kernel_rfl) (by kernel_rfl) (fun _ _ _ h => h) (yieldsIf_load_mid (by rfl) _ _ rfl (w.heap.size) 0 rfl (bv a) _ (fun W' hW' => range_row ((hW'.block _ hs0).trans hgA.out)) (Tryd.underlying24) (rfl) (by rw [bv_len, HA.out]; kernel_rfl)) hHeld ?_
  try simp only [Act.put, List.setIfInBounds_toArray, List.set_cons_zero, List.set_cons_succ]
  refine wpAnyH_take (i := 24) (oi := ⟨(some 33), _, _, _, _, _⟩) (v := _) rfl (by kernel_rfl) (by kernel_rfl) (by kernel_rfl) (fun _ _ _ h => h) (yieldsIf_load_mid (by rfl) _ _ rfl (w.heap.size + 1) 0 rfl (bv b) _ (fun W' hW' => range_row ((hW'.block _ hs1).trans hgB.out)) (Tryd.underlying24) (rfl) (by rw [bv_len, HB.out]; kernel_rfl)) hHeld ?_
  try simp only [Act.put, List.setIfInBounds_toArray, List.set_cons_zero, List.set_cons_succ]
  refine wpAnyH_ready (rs := [22]) (by kernel_rfl) (by simp) ?_
  refine AllReadyH.cons (i := 22) (o := ⟨(some 31), _, _, _, _, _⟩) rfl (fun K hK => ?_) AllReadyH.nil
  go_simp
  refine (ladd_any _ (hlaV.below hlaV.2 hHeld) a b (HA.out) (HB.out)).mono ?_
  rintro e w7 ⟨v31, rfl, e31, h31, hb7⟩
  refine hK.out _ _ (below_next hHeld hHeld.size hb7) (fun hHeld => ?_)
  clear hK K
  try simp only [Act.put, List.setIfInBounds_toArray, List.set_cons_zero, List.set_cons_succ]
  refine wpAnyH_ready (rs := [25]) (by kernel_rfl) (by simp) ?_
  refine AllReadyH.cons (i := 25) (o := ⟨(some 34), _, _, _, _, _⟩) rfl (fun K hK => ?_) AllReadyH.nil
  go_simp
  refine (rscadd_any _ a b (HA.out) (HB.out)).mono ?_
  rintro e w8 ⟨v34, rfl, e34, h34, hb8⟩
  refine hK.out _ _ (below_next hHeld hHeld.size hb8) (fun hHeld => ?_)
  clear hK K
  try simp only [Act.put, List.setIfInBounds_toArray, List.set_cons_zero, List.set_cons_succ]
  obtain rfl : v31 = v34 := by rw [e31.out, e34.out]
  have q2 := eql_bytes_same (P := Tryd.prog) Tryd.underlying24 Tryd.underlying5 Tryd.sizeByte v31 (h31.out)
  refine wpAnyH_take (i := 26) (oi := ⟨(some 35), _, _, _, _, _⟩) (v := ?vq1_10) rfl (by kernel_rfl) (by kernel_rfl) (by kernel_rfl) (fun _ _ _ h => h) (Or.inl ⟨by rfl, ?yq1_10⟩) hHeld ?_
  case yq1_10 => (intro W0 hSw; go_simp; try with_reducible rfl)
  try simp only [Act.put, List.setIfInBounds_toArray, List.set_cons_zero, List.set_cons_succ]
  refine wpAnyH_take (i := 27) (oi := ⟨(some 36), _, _, _, _, _⟩) (v := ?vq1_11) rfl (by kernel_rfl) (by kernel_rfl) (by kernel_rfl) (fun _ _ _ h => h) (Or.inl ⟨by rfl, ?yq1_11⟩) hHeld ?_
  case yq1_11 => (intro W0 hSw; go_simp; try with_reducible rfl)
  try simp only [Act.put, List.setIfInBounds_toArray, List.set_cons_zero, List.set_cons_succ]
  refine wpAnyH_take (i := 28) (oi := ⟨(some 37), _, _, _, _, _⟩) (v := ?vq1_12) rfl (by kernel_rfl) (by kernel_rfl) (by kernel_rfl) (fun _ _ _ h => h) (Or.inl ⟨by rfl, ?yq1_12⟩) hHeld ?_
  case yq1_12 => (intro W0 hSw; go_simp; try with_reducible rfl)
  try simp only [Act.put, List.setIfInBounds_toArray, List.set_cons_zero, List.set_cons_succ]
  refine wpAnyH_take (i := 29) (oi := ⟨(some 38), _, _, _, _, _⟩) (v := _) rfl (by kernel_rfl) (by kernel_rfl) (by kernel_rfl) (fun _ _ _ h => h) (yieldsIf_load_mid (by rfl) _ _ rfl (w.heap.size) 0 rfl (bv a) _ (fun W' hW' => range_row ((hW'.block _ hs0).trans hgA.out)) (Tryd.underlying24) (rfl) (by rw [bv_len, HA.out]; kernel_rfl)) hHeld ?_
  try simp only [Act.put, List.setIfInBounds_toArray, List.set_cons_zero, List.set_cons_succ]
  refine wpAnyH_take (i := 30) (oi := ⟨(some 39), _, _, _, _, _⟩) (v := _) rfl (by kernel_rfl) (by kernel_rfl) (by kernel_rfl) (fun _ _ _ h => h) (yieldsIf_load_mid (by rfl) _ _ rfl (w.heap.size + 1) 0 rfl (bv b) _ (fun W' hW' => range_row ((hW'.block _ hs1).trans hgB.out)) (Tryd.underlying24) (rfl) (by rw [bv_len, HB.out]; kernel_rfl)) hHeld ?_
  try simp only [Act.put, List.setIfInBounds_toArray, List.set_cons_zero, List.set_cons_succ]
  refine wpAnyH_take (i := 32) (oi := ⟨(some 41), _, _, _, _, _⟩) (v := _) rfl (by kernel_rfl) (by kernel_rfl) (by kernel_rfl) (fun _ _ _ h => h) (yieldsIf_load_mid (by rfl) _ _ rfl (w.heap.size) 0 rfl (bv a) _ (fun W' hW' => range_row ((hW'.block _ hs0).trans hgA.out)) (Tryd.underlying24) (rfl) (by rw [bv_len, HA.out]; kernel_rfl)) hHeld ?_
  try simp only [Act.put, List.setIfInBounds_toArray, List.set_cons_zero, List.set_cons_succ]
  refine wpAnyH_take (i := 33) (oi := ⟨(some 42), _, _, _, _, _⟩) (v := _) rfl (by kernel_rfl) (by kernel_rfl) (by kernel_rfl) (fun _ _ _ h => h) (yieldsIf_load_mid (by rfl) _ _ rfl (w.heap.size + 1) 0 rfl (bv b) _ (fun W' hW' => range_row ((hW'.block _ hs1).trans hgB.out)) (Tryd.underlying24) (rfl) (by rw [bv_len, HB.out]; kernel_rfl)) hHeld ?_
  try simp only [Act.put, List.setIfInBounds_toArray, List.set_cons_zero, List.set_cons_succ]
  refine wpAnyH_ready (rs := [31]) (by kernel_rfl) (by simp) ?_
  refine AllReadyH.cons (i := 31) (o := ⟨(some 40), _, _, _, _, _⟩) rfl (fun K hK => ?_) AllReadyH.nil
  go_simp
  refine (lsub_any _ (hlaV.below hlaV.2 hHeld) a b (HA.out) (HB.out)).mono ?_
  rintro e w9 ⟨v40, rfl, e40, h40, hb9⟩
  refine hK.out _ _ (below_next hHeld hHeld.size hb9) (fun hHeld => ?_)
  clear hK K
  try simp only [Act.put, List.setIfInBounds_toArray, List.set_cons_zero, List.set_cons_succ]
  refine wpAnyH_ready (rs := [34]) (by kernel_rfl) (by simp) ?_
  refine AllReadyH.cons (i := 34) (o := ⟨(some 43), _, _, _, _, _⟩) rfl (fun K hK => ?_) AllReadyH.nil
  go_simp
  refine (rscsub_any _ a b (HA.out) (HB.out)).mono ?_
  rintro e w10 ⟨v43, rfl, e43, h43, hb10⟩
  refine hK.out _ _ (below_next hHeld hHeld.size hb10) (fun hHeld => ?_)
  clear hK K
  try simp only [Act.put, List.setIfInBounds_toArray, List.set_cons_zero, List.set_cons_succ]
  obtain rfl : v40 = v43 := by rw [e40.out, e43.out]
  have q3 := eql_bytes_same (P := Tryd.prog) Tryd.underlying24 Tryd.underlying5 Tryd.sizeByte v40 (h40.out)
  refine wpAnyH_take (i := 35) (oi := ⟨(some 44), _, _, _, _, _⟩) (v := ?vq1_13) rfl (by kernel_rfl) (by kernel_rfl) (by kernel_rfl) (fun _ _ _ h => h) (Or.inl ⟨by rfl, ?yq1_13⟩) hHeld ?_
  case yq1_13 => (intro W0 hSw; go_simp; try with_reducible rfl)
  try simp only [Act.put, List.setIfInBounds_toArray, List.set_cons_zero, List.set_cons_succ]
  refine wpAnyH_take (i := 36) (oi := ⟨(some 45), _, _, _, _, _⟩) (v := ?vq1_14) rfl (by kernel_rfl) (by kernel_rfl) (by kernel_rfl) (fun _ _ _ h => h) (Or.inl ⟨by rfl, ?yq1_14⟩) hHeld ?_
  case yq1_14 => (intro W0 hSw; go_simp; try with_reducible rfl)
  try simp only [Act.put, List.setIfInBounds_toArray, List.set_cons_zero, List.set_cons_succ]
  refine wpAnyH_take (i := 37) (oi := ⟨(some 46), _, _, _, _, _⟩) (v := ?vq1_15) rfl (by kernel_rfl) (by kernel_rfl) (by kernel_rfl) (fun _ _ _ h => h) (Or.inl ⟨by rfl, ?yq1_15⟩) hHeld ?_
  case yq1_15 => (intro W0 hSw; go_simp; try with_reducible rfl)
  try simp only [Act.put, List.setIfInBounds_toArray, List.set_cons_zero, List.set_cons_succ]
  refine wpAnyH_take (i := 38) (oi := ⟨(some 47), _, _, _, _, _⟩) (v := _) rfl (by kernel_rfl) (by kernel_rfl) (by kernel_rfl) (fun _ _ _ h => h) (yieldsIf_load_mid (by rfl) _ _ rfl (w.heap.size) 0 rfl (bv a) _ (fun W' hW' => range_row ((hW'.block _ hs0).trans hgA.out)) (Tryd.underlying24) (rfl) (by rw [bv_len, HA.out]; kernel_rfl)) hHeld ?_
  try simp only [Act.put, List.setIfInBounds_toArray, List.set_cons_zero, List.set_cons_succ]
  refine wpAnyH_take (i := 39) (oi := ⟨(some 48), _, _, _, _, _⟩) (v := _) rfl (by kernel_rfl) (by kernel_rfl) (by kernel_rfl) (fun _ _ _ h => h) (yieldsIf_load_mid (by rfl) _ _ rfl (w.heap.size + 1) 0 rfl (bv b) _ (fun W' hW' => range_row ((hW'.block _ hs1).trans hgB.out)) (Tryd.underlying24) (rfl) (by rw [bv_len, HB.out]; kernel_rfl)) hHeld ?_
  try simp only [Act.put, List.setIfInBounds_toArray, List.set_cons_zero, List.set_cons_succ]
  refine wpAnyH_take (i := 41) (oi := ⟨(some 50), _, _, _, _, _⟩) (v := _) rfl (by kernel_rfl) (by kernel_rfl) (by kernel_rfl) (fun _ _ _ h => h) (yieldsIf_load_mid (by rfl) _ _ rfl (w.heap.size) 0 rfl (bv a) _ (fun W' hW' => range_row ((hW'.block _ hs0).trans hgA.out)) (Tryd.underlying24) (rfl) (by rw [bv_len, HA.out]; kernel_rfl)) hHeld ?_
  try simp only [Act.put, List.setIfInBounds_toArray, List.set_cons_zero, List.set_cons_succ]
  refine wpAnyH_take (i := 42) (oi := ⟨(some 51), _, _, _, _, _⟩) (v := _) rfl (by kernel_rfl) (by kernel_rfl) (by kernel_rfl) (fun _ _ _ h => h) (yieldsIf_load_mid (by rfl) _ _ rfl (w.heap.size + 1) 0 rfl (bv b) _ (fun W' hW' => range_row ((hW'.block _ hs1).trans hgB.out)) (Tryd.underlying24) (rfl) (by rw [bv_len, HB.out]; kernel_rfl)) hHeld ?_
  try simp only [Act.put, List.setIfInBounds_toArray, List.set_cons_zero, List.set_cons_succ]
  refine wpAnyH_ready (rs := [40]) (by kernel_rfl) (by simp) ?_
  refine AllReadyH.cons (i := 40) (o := ⟨(some 49), _, _, _, _, _⟩) rfl (fun K hK => ?_) AllReadyH.nil
  go_simp
  refine (lmul_any _ (hlaV.below hlaV.2 hHeld) a b (HA.out) (HB.out)).mono ?_
  rintro e w11 ⟨v49, rfl, e49, h49, hb11⟩
  refine hK.out _ _ (below_next hHeld hHeld.size hb11) (fun hHeld => ?_)
  clear hK K
  try simp only [Act.put, List.setIfInBounds_toArray, List.set_cons_zero, List.set_cons_succ]
  refine wpAnyH_ready (rs := [43]) (by kernel_rfl) (by simp) ?_
  refine AllReadyH.cons (i := 43) (o := ⟨(some 52), _, _, _, _, _⟩) rfl (fun K hK => ?_) AllReadyH.nil
  go_simp
  refine (rscmul_any _ a b (HA.out) (HB.out)).mono ?_
  rintro e w12 ⟨v52, rfl, e52, h52, hb12⟩
  refine hK.out _ _ (below_next hHeld hHeld.size hb12) (fun hHeld => ?_)
  clear hK K
  try simp only [Act.put, List.setIfInBounds_toArray, List.set_cons_zero, List.set_cons_succ]
  obtain rfl : v49 = v52 := by rw [e49.out, e52.out]
  have q4 := eql_bytes_same (P := Tryd.prog) Tryd.underlying24 Tryd.underlying5 Tryd.sizeByte v49 (h49.out)
  refine wpAnyH_take (i := 44) (oi := ⟨(some 53), _, _, _, _, _⟩) (v := ?vq1_16) rfl (by kernel_rfl) (by kernel_rfl) (by kernel_rfl) (fun _ _ _ h => h) (Or.inl ⟨by rfl, ?yq1_16⟩) hHeld ?_
  case yq1_16 => (intro W0 hSw; go_simp; try with_reducible rfl)
  try simp only [Act.put, List.setIfInBounds_toArray, List.set_cons_zero, List.set_cons_succ]
  refine wpAnyH_take (i := 45) (oi := ⟨(some 54), _, _, _, _, _⟩) (v := ?vq1_17) rfl (by kernel_rfl) (by kernel_rfl) (by kernel_rfl) (fun _ _ _ h => h) (Or.inl ⟨by rfl, ?yq1_17⟩) hHeld ?_
  case yq1_17 => (intro W0 hSw; go_simp; try with_reducible rfl)
  try simp only [Act.put, List.setIfInBounds_toArray, List.set_cons_zero, List.set_cons_succ]
  refine wpAnyH_take (i := 46) (oi := ⟨(some 6), _, _, _, _, _⟩) (v := ?vq1_18) rfl (by kernel_rfl) (by kernel_rfl) (by kernel_rfl) (fun _ _ _ h => h) (Or.inl ⟨by rfl, ?yq1_18⟩) hHeld ?_
  case yq1_18 => (intro W0 hSw; go_simp; try with_reducible rfl)
  try simp only [Act.put, List.setIfInBounds_toArray, List.set_cons_zero, List.set_cons_succ]
  refine wpAnyH_done (by kernel_rfl) ?_ _
  go_wp2
  go_ret
  exact ⟨rfl, below_next hbw hbw.size hHeld⟩
end Go.Proofs.YtlobejnohkecdaaDoor
