/-
  Contracts of scalar's Long, Norm, Good, Add, Sub, Mul: each answer is the word of its number modulo L. Conditions: the package's own number lies as the program's text lays it.
-/
import Derived.Test.YtlobejnohkecdaaDoorScE
import Derived.Test.YtlobejnohkecdaaDoorEqB
import Derived.Test.YtlobejnohkecdaaDoorEqG
import Derived.Test.YtlobejnohkecdaaDoorRng
namespace Go.Proofs.YtlobejnohkecdaaDoor
open Go.RowKit

theorem bv_size64 (l : List UInt8) (h : l.length = 64) : (bv l).toArray.size = 64 := by simp [bv_len, h]
theorem zero_w64 (w : World) : (zeroValue 26).run Tryd.prog w = .ok (.agg (bv (List.replicate 64 0)).toArray) w := by kernel_rfl
theorem ln_zeros (n : Nat) : ln (List.replicate n 0) = 0 := by
  induction n with
  | zero => rfl
  | succ n ih => rw [List.replicate_succ, ln, ih]; rfl
theorem ln_join : ∀ (l m : List UInt8), ln (l ++ m) = ln l + 256 ^ l.length * ln m
  | [], m => by simp [ln]
  | a :: l, m => by
    rw [List.cons_append, ln, ln, ln_join l m, List.length_cons, Nat.pow_succ]
    grind
theorem nB_word (b : List UInt8) (h : b.length = 32) : nB (pcs b 4) = ln b := by rw [nB_pcs b 4 (by omega), List.take_of_length_le (by omega)]
theorem nB_long (b : List UInt8) (h : b.length = 64) : nB (pcs b 8) = ln b := by rw [nB_pcs b 8 (by omega), List.take_of_length_le (by omega)]
theorem le_mod (N : Nat) : le (N % FL) 32 = wl N := rfl
def oneN : List Nat := [1, 0, 0, 0]
def nilN : List Nat := [0, 0, 0, 0]
def lessN : List Nat := [6346243789798364140, 1503914060200516822, 0, 1152921504606846976]
theorem nB_oneN : nB oneN = 1 := by decide
theorem nB_nilN : nB nilN = 0 := by decide
theorem nB_lessN : nB lessN = FL - 1 := by decide +kernel
theorem built_oneN : Tryd.prog.built 41 [(0, .int .u64 1)] = some (u64v oneN).toArray := by kernel_rfl
theorem built_nilN : Tryd.prog.built 41 [] = some (u64v nilN).toArray := by kernel_rfl
theorem built_lessN : Tryd.prog.built 41 [(0, .int .u64 6346243789798364140), (1, .int .u64 1503914060200516822), (2, .int .u64 0), (3, .int .u64 1152921504606846976)] = some (u64v lessN).toArray := by kernel_rfl

set_option maxHeartbeats 1000000 in
theorem llong_any (w : World) (hla : LaidO w) (b : List UInt8) (hb : b.length = 64) :
    Calls Tryd.prog 13 #[.agg (bv b).toArray] w fun e w' => ∃ l, e = .returned (.agg (bv l).toArray) ∧ Vlt (l = wl (ln b)) ∧ Hid (l.length = 32) ∧ Below w.heap.size w w' := by
  have hzw := zero_word
  obtain ⟨W, hW, hgA, hgZ, hbW, hsW⟩ := pair_new w (bv b).toArray (bv z32).toArray 26 24
  have HW := Lib.hid hW
  have HA := Lib.hid hb
  have HS := Lib.hid (bv_size64 b hb)
  have hlaW := hla.below hla.2 hbW
  have hs : w.heap.size + 1 < W.heap.size := by have := hsW.out; omega
  clear hW hb hsW hla
  go_enter Tryd.func13, Tryd.ntmps13
  go_upto_region 1 with fail
  rw [HW.out]
  go_wp2_with (with_reducible refine wpList_load_row rfl 26 (.tmp 1) rfl w.heap.size rfl 26 (bv b).toArray (0, 0) _ hgA.out Tryd.underlying26 rfl (by rw [HS.out]; kernel_rfl) ?_)
  refine (longOf_any W b HA.out).mono ?_
  rintro e w1 ⟨X, rfl, e1, HXL, hb1⟩
  have hbw1 := below_next hbW hbW.size hb1
  have hz1 : Hid (w1.heap[w.heap.size + 1]? = some (.cells (bv z32).toArray 24 (0, 0))) := (hb1.block _ (by omega)).trans hgZ.out
  have hs1 : w.heap.size + 1 < w1.heap.size := (Array.getElem?_eq_some_iff.1 hz1.out).1
  have hla1 := hlaW.below hlaW.2 hb1
  have hbx : ∀ x ∈ X, x < B64 := by rw [e1.out]; exact pcs_lt b 8 (by rw [HA.out]; decide)
  go_wp2_with fail
  refine (lbelow_any w1 hla1 X HXL.out hbx).mono ?_
  rintro e w2 ⟨Y, rfl, e2, HYL, HYB, hb2⟩
  have hbw2 := below_next hbw1 hbw1.size hb2
  have hz2 : Hid (w2.heap[w.heap.size + 1]? = some (.cells (bv z32).toArray 24 (0, 0))) := (hb2.block _ (by omega)).trans hz1.out
  have hs2 : w.heap.size + 1 < w2.heap.size := (Array.getElem?_eq_some_iff.1 hz2.out).1
  go_wp2_with fail
  refine (ltold_any w2 Y HYL.out HYB.out).mono ?_
  rintro e w3 ⟨l, rfl, e3, HL, hb3⟩
  have HE := vlt (show l = wl (ln b) by rw [e3.out, e2.out, e1.out, nB_long b HA.out, le_mod])
  clear e1 e2 e3 hbx
  have hbw3 := below_next hbw2 hbw2.size hb3
  have hz3 : Hid (w3.heap[w.heap.size + 1]? = some (.cells (bv z32).toArray 24 (0, 0))) := (hb3.block _ (by omega)).trans hz2.out
  have HLS := Lib.hid (bv_size l HL.out)
  go_wp2_with (with_reducible refine wpList_store_row rfl 24 (.tmp 2) (.tmp 6) rfl (w.heap.size + 1) (bv l).toArray rfl rfl 24 _ hz3.out (by rw [HLS.out]; kernel_rfl) (by rw [HLS.out]; kernel_rfl) (all_oneCell_toArray (bv_one _)) ?_)
  refine bodyPost_ret (v := .agg (bv l).toArray) (results_cell_row Tryd.results13 _ _ (w.heap.size + 1) 24 _ (0, 0) _ rfl (setRow_heap _ _ _ _ _ _ hz3.out) Tryd.underlying24 rfl (by rw [HLS.out]; kernel_rfl)) rfl ⟨l, rfl, HE, HL, below_setRow hbw3 (by omega) _⟩

set_option maxHeartbeats 1000000 in
theorem lnorm_any (w : World) (hla : LaidO w) (a : List UInt8) (ha : a.length = 32) :
    Calls Tryd.prog 10 #[.agg (bv a).toArray] w fun e w' => ∃ l, e = .returned (.agg (bv l).toArray) ∧ Vlt (l = wl (ln a)) ∧ Hid (l.length = 32) ∧ Below w.heap.size w w' := by
  have hzw := zero_word
  have hz64 := zero_w64
  obtain ⟨W, hW, hgA, hgZ, hbW, hsW⟩ := pair_new w (bv a).toArray (bv z32).toArray 24 24
  have HW := Lib.hid hW
  have HA := Lib.hid ha
  have hlaW := hla.below hla.2 hbW
  have hs : w.heap.size + 1 < W.heap.size := by have := hsW.out; omega
  clear hW ha hsW hla
  obtain ⟨z, hz⟩ : ∃ z : List UInt8, z = List.replicate 64 0 := ⟨_, rfl⟩
  have HZ := vlt hz
  have HZL := Lib.hid (show z.length = 64 by rw [hz]; rfl)
  rw [← hz] at hz64
  clear hz
  go_enter Tryd.func10, Tryd.ntmps10
  go_upto_region 1 with fail
  rw [HW.out]
  go_upto_region 2 with fail
  obtain ⟨V, hV, hgT, hbV, hsV⟩ := one_new W (bv z).toArray 26
  rw [hV]
  obtain ⟨T, hT⟩ : ∃ T, T = W.heap.size := ⟨_, rfl⟩
  rw [← hT] at hgT hs hbV ⊢
  have hgA1 : Hid (V.heap[w.heap.size]? = some (.cells (bv a).toArray 24 (0, 0))) := (hbV.block _ (by omega)).trans hgA.out
  have hgZ1 : Hid (V.heap[w.heap.size + 1]? = some (.cells (bv z32).toArray 24 (0, 0))) := (hbV.block _ (by omega)).trans hgZ.out
  have hbw1 := below_next hbW hbW.size (by rw [hT] at hbV; exact hbV)
  have hlaV := hlaW.below (by have := hlaW.2; omega) hbV
  have hsZ1 : w.heap.size + 1 < V.heap.size := (Array.getElem?_eq_some_iff.1 hgZ1.out).1
  have hTg : 0 < T := by rw [hT]; exact hlaW.2
  clear hV hbV hgA hgZ hbW hsV hT HW hlaW
  have hc7 := cut_all Tryd.underlying26 Tryd.sizeByte T 0 (by decide)
  have hc5 := cut_all Tryd.underlying24 Tryd.sizeByte w.heap.size 0 (by decide)
  go_region_law ((refine step_copy_vals rfl (.tmp 4) (.tmp 5) 31 rfl 5 Tryd.underlying31 Tryd.sizeByte T 0 64 64 32 32 w.heap.size 0 (by rfl) (by rfl) (bv z) 26 hgT.out (bv a) (by rw [bv_len, HA.out]; rfl) (row_cells hgA1.out) (bv_one _) (by rw [bv_len, HZL.out]; decide) V (But.refl T V).drew ?_; intro w2 hg2' hb2))
  rw [splice_bv] at hg2'
  have HU := vlt (show ln (z.take 0 ++ (a ++ z.drop (0 + a.length))) = ln a by rw [HZ.out, List.take_zero, List.nil_append, List.drop_replicate, ln_join, ln_zeros, Nat.mul_zero, Nat.add_zero])
  have HUL := Lib.hid (show (z.take 0 ++ (a ++ z.drop (0 + a.length))).length = 64 by simp [HA.out, HZL.out])
  generalize z.take 0 ++ (a ++ z.drop (0 + a.length)) = u at *
  have HUS := Lib.hid (bv_size64 u HUL.out)
  have hgZ2 : Hid (w2.heap[w.heap.size + 1]? = some (.cells (bv z32).toArray 24 (0, 0))) := (hb2.block _ (by omega) (by intro e; injection e; omega)).trans hgZ1.out
  have hbw2 : Below w.heap.size w w2 := But.below hbw1 hb2 (by omega) (by omega)
  have hla2 := hlaV.but hTg hb2
  have hs2 : w.heap.size + 1 < w2.heap.size := (Array.getElem?_eq_some_iff.1 hgZ2.out).1
  clear hc7 hc5 hgT hlaV hb2 hgZ1 hgA1
  go_wp2_with (with_reducible refine wpList_load_row rfl 26 (.tmp 3) rfl T rfl 26 (bv u).toArray (0, 0) _ hg2'.out Tryd.underlying26 rfl (by rw [HUS.out]; kernel_rfl) ?_)
  refine (llong_any w2 hla2 u HUL.out).mono ?_
  rintro e w3 ⟨l, rfl, e3, HL, hb3⟩
  have HE := vlt (show l = wl (ln a) by rw [e3.out, HU.out])
  clear e3
  have hbw3 := below_next hbw2 hbw2.size hb3
  have hz3 : Hid (w3.heap[w.heap.size + 1]? = some (.cells (bv z32).toArray 24 (0, 0))) := (hb3.block _ (by omega)).trans hgZ2.out
  have HLS := Lib.hid (bv_size l HL.out)
  go_wp2_with (with_reducible refine wpList_store_row rfl 24 (.tmp 2) (.tmp 8) rfl (w.heap.size + 1) (bv l).toArray rfl rfl 24 _ hz3.out (by rw [HLS.out]; kernel_rfl) (by rw [HLS.out]; kernel_rfl) (all_oneCell_toArray (bv_one _)) ?_)
  refine bodyPost_ret (v := .agg (bv l).toArray) (results_cell_row Tryd.results10 _ _ (w.heap.size + 1) 24 _ (0, 0) _ rfl (setRow_heap _ _ _ _ _ _ hz3.out) Tryd.underlying24 rfl (by rw [HLS.out]; kernel_rfl)) rfl ⟨l, rfl, HE, HL, below_setRow hbw3 (by omega) _⟩

set_option maxHeartbeats 1000000 in
theorem lgood_any (w : World) (hla : LaidO w) (a : List UInt8) (ha : a.length = 32) :
    Calls Tryd.prog 15 #[.agg (bv a).toArray] w fun e w' => ∃ b, e = .returned (.bool b) ∧ Vlt (b = decide (ln a < FL)) ∧ Below w.heap.size w w' := by
  obtain ⟨W, hW, hgA, hbW, hsW⟩ := one_new w (bv a).toArray 24
  have HW := Lib.hid hW
  have HA := Lib.hid ha
  have HAS := Lib.hid (show (bv a).length = 32 by rw [bv_len, ha])
  have hlaW := hla.below hla.2 hbW
  have hs : w.heap.size < W.heap.size := by have := hsW.out; omega
  clear hW ha hsW hla
  go_enter Tryd.func15, Tryd.ntmps15
  go_upto_region 1 with fail
  rw [HW.out]
  refine wp_region_held_drew (S := (fun W' => W'.heap[w.heap.size]? = some (.cells (bv a).toArray 24 (0, 0)))) (by kernel_rfl) (hgA.out) (fun hHeld => ?_)
  refine wpAnyH_take (i := 0) (oi := ⟨(some 3), _, _, _, _, _⟩) (v := _) rfl (by kernel_rfl) (by kernel_rfl) (by kernel_rfl) (fun _ _ _ h => h) (yieldsIf_load_mid (by rfl) _ _ rfl w.heap.size 0 rfl (bv a) _ (fun W' hW' => range_row hW') (Tryd.underlying24) (rfl) (by rw [HAS.out]; kernel_rfl)) hHeld ?_
  try simp only [Act.put, List.setIfInBounds_toArray, List.set_cons_zero, List.set_cons_succ]
  refine wpAnyH_take (i := 2) (oi := ⟨(some 5), _, _, _, _, _⟩) (v := _) rfl (by kernel_rfl) (by kernel_rfl) (by kernel_rfl) (fun _ _ _ h => h) (yieldsIf_load_mid (by rfl) _ _ rfl w.heap.size 0 rfl (bv a) _ (fun W' hW' => range_row hW') (Tryd.underlying24) (rfl) (by rw [HAS.out]; kernel_rfl)) hHeld ?_
  try simp only [Act.put, List.setIfInBounds_toArray, List.set_cons_zero, List.set_cons_succ]
  refine wpAnyH_ready (rs := [1]) (by kernel_rfl) (by simp) ?_
  refine AllReadyH.cons (i := 1) (o := ⟨(some 4), _, _, _, _, _⟩) rfl (fun K hK => ?_) AllReadyH.nil
  go_simp
  refine (lnorm_any W.drew ⟨hlaW.1, hlaW.2⟩ a HA.out).mono ?_
  rintro e w1 ⟨l, rfl, e1, HL, hb1d⟩
  have hb1 : Below W.heap.size W w1 := below_undrew hb1d
  refine hK.out _ _ ((hb1.block _ hs).trans hHeld) (fun hHeld => ?_)
  clear hK K
  try simp only [Act.put, List.setIfInBounds_toArray, List.set_cons_zero, List.set_cons_succ]
  have heq := eql_bytes (P := Tryd.prog) Tryd.underlying24 Tryd.underlying5 Tryd.sizeByte l a HL.out HA.out
  have HE := vlt (show decide (l = a) = decide (ln a < FL) by rw [e1.out]; exact decide_eq_decide.2 (wl_iff a HA.out))
  generalize decide (l = a) = b at *
  refine wpAnyH_take (i := 3) (oi := ⟨(some 6), _, _, _, _, _⟩) (v := ?vq1_0) rfl (by kernel_rfl) (by kernel_rfl) (by kernel_rfl) (fun _ _ _ h => h) (Or.inl ⟨by rfl, ?yq1_0⟩) hHeld ?_
  case yq1_0 => (intro W0 hSw; go_simp; try with_reducible rfl)
  try simp only [Act.put, List.setIfInBounds_toArray, List.set_cons_zero, List.set_cons_succ]
  refine wpAnyH_take (i := 4) (oi := ⟨(some 2), _, _, _, _, _⟩) (v := ?vq1_1) rfl (by kernel_rfl) (by kernel_rfl) (by kernel_rfl) (fun _ _ _ h => h) (Or.inl ⟨by rfl, ?yq1_1⟩) hHeld ?_
  case yq1_1 => (intro W0 hSw; go_simp; try with_reducible rfl)
  try simp only [Act.put, List.setIfInBounds_toArray, List.set_cons_zero, List.set_cons_succ]
  refine wpAnyH_done (by kernel_rfl) ?_ _
  go_wp2
  go_ret
  exact ⟨b, rfl, HE, below_next hbW hbW.size hb1⟩

set_option maxHeartbeats 1000000 in
theorem ladd_any (w : World) (hla : LaidO w) (a b : List UInt8) (ha : a.length = 32) (hb : b.length = 32) :
    Calls Tryd.prog 12 #[.agg (bv a).toArray, .agg (bv b).toArray] w fun e w' => ∃ l, e = .returned (.agg (bv l).toArray) ∧ Vlt (l = wl (ln a + ln b)) ∧ Hid (l.length = 32) ∧ Below w.heap.size w w' := by
  have hzw := zero_word
  have hzn := zero_num
  obtain ⟨W, hW, hgA, hgB, hgZ, hbW, hsW⟩ := three_new w (bv a).toArray (bv b).toArray (bv z32).toArray 24 24 24
  have HW := Lib.hid hW
  have HA := Lib.hid ha
  have HB := Lib.hid hb
  have HAS := Lib.hid (show (bv a).length = 32 by rw [bv_len, ha])
  have HBS := Lib.hid (show (bv b).length = 32 by rw [bv_len, hb])
  have hlaW := hla.below hla.2 hbW
  have hs : w.heap.size + 2 < W.heap.size := by have := hsW.out; omega
  clear hW ha hb hsW hla
  go_enter Tryd.func12, Tryd.ntmps12
  go_upto_region 1 with fail
  rw [HW.out]
  refine wp_region_held_drew (S := (fun W' => W'.heap[w.heap.size]? = some (.cells (bv a).toArray 24 (0, 0)) ∧ W'.heap[w.heap.size + 1]? = some (.cells (bv b).toArray 24 (0, 0)))) (by kernel_rfl) (⟨hgA.out, hgB.out⟩) (fun hHeld => ?_)
  refine wpAnyH_take (i := 0) (oi := ⟨(some 5), _, _, _, _, _⟩) (v := _) rfl (by kernel_rfl) (by kernel_rfl) (by kernel_rfl) (fun _ _ _ h => h) (yieldsIf_load_mid (by rfl) _ _ rfl w.heap.size 0 rfl (bv a) _ (fun W' hW' => range_row hW'.1) (Tryd.underlying24) (rfl) (by rw [HAS.out]; kernel_rfl)) hHeld ?_
  try simp only [Act.put, List.setIfInBounds_toArray, List.set_cons_zero, List.set_cons_succ]
  refine wpAnyH_take (i := 2) (oi := ⟨(some 7), _, _, _, _, _⟩) (v := _) rfl (by kernel_rfl) (by kernel_rfl) (by kernel_rfl) (fun _ _ _ h => h) (yields_build (by rfl) _ _ rfl [(0, .int .u64 1)] (by rfl) _ (built_oneN)) hHeld ?_
  try simp only [Act.put, List.setIfInBounds_toArray, List.set_cons_zero, List.set_cons_succ]
  refine wpAnyH_take (i := 3) (oi := ⟨(some 8), _, _, _, _, _⟩) (v := _) rfl (by kernel_rfl) (by kernel_rfl) (by kernel_rfl) (fun _ _ _ h => h) (yieldsIf_load_mid (by rfl) _ _ rfl (w.heap.size + 1) 0 rfl (bv b) _ (fun W' hW' => range_row hW'.2) (Tryd.underlying24) (rfl) (by rw [HBS.out]; kernel_rfl)) hHeld ?_
  try simp only [Act.put, List.setIfInBounds_toArray, List.set_cons_zero, List.set_cons_succ]
  refine wpAnyH_ready (rs := [1]) (by kernel_rfl) (by simp) ?_
  refine AllReadyH.cons (i := 1) (o := ⟨(some 6), _, _, _, _, _⟩) rfl (fun K hK => ?_) AllReadyH.nil
  go_simp
  refine (lnumberOf_any _ a HA.out).mono ?_
  rintro e w1 ⟨A, rfl, eA, HAL, hb1d⟩
  have hb1 : Below W.heap.size W w1 := below_undrew hb1d
  refine hK.out _ _ (⟨(hb1.block _ (by omega)).trans hHeld.1, (hb1.block _ (by omega)).trans hHeld.2⟩) (fun hHeld => ?_)
  clear hK K
  try simp only [Act.put, List.setIfInBounds_toArray, List.set_cons_zero, List.set_cons_succ]
  have hbw1 := below_next hbW hbW.size hb1
  have hz1 : Hid (w1.heap[w.heap.size + 2]? = some (.cells (bv z32).toArray 24 (0, 0))) := (hb1.block _ (by omega)).trans hgZ.out
  have hs1 : w.heap.size + 2 < w1.heap.size := (Array.getElem?_eq_some_iff.1 hz1.out).1
  have hla1 := hlaW.below hlaW.2 hb1
  have HAB := vlt (show ∀ x ∈ A, x < B64 by rw [eA.out]; exact pcs_lt a 4 (by rw [HA.out]; decide))
  refine wpAnyH_ready (rs := [4]) (by kernel_rfl) (by simp) ?_
  refine AllReadyH.cons (i := 4) (o := ⟨(some 9), _, _, _, _, _⟩) rfl (fun K hK => ?_) AllReadyH.nil
  go_simp
  refine (lnumberOf_any w1 b HB.out).mono ?_
  rintro e w2 ⟨B, rfl, eB, HBL, hb2⟩
  refine hK.out _ _ (⟨(hb2.block _ (by omega)).trans hHeld.1, (hb2.block _ (by omega)).trans hHeld.2⟩) (fun hHeld => ?_)
  clear hK K
  try simp only [Act.put, List.setIfInBounds_toArray, List.set_cons_zero, List.set_cons_succ]
  have hbw2 := below_next hbw1 hbw1.size hb2
  have hz2 : Hid (w2.heap[w.heap.size + 2]? = some (.cells (bv z32).toArray 24 (0, 0))) := (hb2.block _ (by omega)).trans hz1.out
  have hs2 : w.heap.size + 2 < w2.heap.size := (Array.getElem?_eq_some_iff.1 hz2.out).1
  have hla2 := hla1.below hla1.2 hb2
  have HBB := vlt (show ∀ x ∈ B, x < B64 by rw [eB.out]; exact pcs_lt b 4 (by rw [HB.out]; decide))
  refine wpAnyH_ready (rs := [5]) (by kernel_rfl) (by simp) ?_
  refine AllReadyH.cons (i := 5) (o := ⟨(some 10), _, _, _, _, _⟩) rfl (fun K hK => ?_) AllReadyH.nil
  go_simp
  refine (ltimes_any w2 A oneN B HAL.out rfl HBL.out HAB.out (by decide) HBB.out).mono ?_
  rintro e w3 ⟨U, rfl, e3, HUL, HUB, hb3⟩
  refine hK.out _ _ (⟨(hb3.block _ (by omega)).trans hHeld.1, (hb3.block _ (by omega)).trans hHeld.2⟩) (fun hHeld => ?_)
  clear hK K
  try simp only [Act.put, List.setIfInBounds_toArray, List.set_cons_zero, List.set_cons_succ]
  have hbw3 := below_next hbw2 hbw2.size hb3
  have hz3 : Hid (w3.heap[w.heap.size + 2]? = some (.cells (bv z32).toArray 24 (0, 0))) := (hb3.block _ (by omega)).trans hz2.out
  have hs3 : w.heap.size + 2 < w3.heap.size := (Array.getElem?_eq_some_iff.1 hz3.out).1
  have hla3 := hla2.below hla2.2 hb3
  refine wpAnyH_ready (rs := [6]) (by kernel_rfl) (by simp) ?_
  refine AllReadyH.cons (i := 6) (o := ⟨(some 11), _, _, _, _, _⟩) rfl (fun K hK => ?_) AllReadyH.nil
  go_simp
  refine (lbelow_any w3 hla3 U HUL.out HUB.out).mono ?_
  rintro e w4 ⟨Y, rfl, e4, HYL, HYB, hb4⟩
  refine hK.out _ _ (⟨(hb4.block _ (by omega)).trans hHeld.1, (hb4.block _ (by omega)).trans hHeld.2⟩) (fun hHeld => ?_)
  clear hK K
  try simp only [Act.put, List.setIfInBounds_toArray, List.set_cons_zero, List.set_cons_succ]
  have hbw4 := below_next hbw3 hbw3.size hb4
  have hz4 : Hid (w4.heap[w.heap.size + 2]? = some (.cells (bv z32).toArray 24 (0, 0))) := (hb4.block _ (by omega)).trans hz3.out
  have hs4 : w.heap.size + 2 < w4.heap.size := (Array.getElem?_eq_some_iff.1 hz4.out).1
  refine wpAnyH_ready (rs := [7]) (by kernel_rfl) (by simp) ?_
  refine AllReadyH.cons (i := 7) (o := ⟨(some 12), _, _, _, _, _⟩) rfl (fun K hK => ?_) AllReadyH.nil
  go_simp
  refine (ltold_any w4 Y HYL.out HYB.out).mono ?_
  rintro e w5 ⟨l, rfl, e5, HL, hb5⟩
  refine hK.out _ _ (⟨(hb5.block _ (by omega)).trans hHeld.1, (hb5.block _ (by omega)).trans hHeld.2⟩) (fun hHeld => ?_)
  clear hK K
  try simp only [Act.put, List.setIfInBounds_toArray, List.set_cons_zero, List.set_cons_succ]
  have hbw5 := below_next hbw4 hbw4.size hb5
  have hz5 : Hid (w5.heap[w.heap.size + 1 + 1]? = some (.cells (bv z32).toArray 24 (0, 0))) := (hb5.block _ (by omega)).trans hz4.out
  have hs5 : w.heap.size + 2 < w5.heap.size := (Array.getElem?_eq_some_iff.1 hz5.out).1
  have HE := vlt (show l = wl (ln a + ln b) by rw [e5.out, e4.out, e3.out, eA.out, eB.out, nB_word a HA.out, nB_word b HB.out, nB_oneN, Nat.mul_one, Nat.add_comm, le_mod])
  clear e3 e4 e5 eA eB
  have HLS := Lib.hid (bv_size l HL.out)
  refine wpAnyH_ready (rs := [8]) (by kernel_rfl) (by simp) ?_
  refine AllReadyH.cons (i := 8) (o := ⟨none, _, _, _, _, _⟩) rfl (fun K hK => ?_) AllReadyH.nil
  refine step_store_row rfl 24 (.tmp 4) (.tmp 12) rfl (w.heap.size + 1 + 1) (bv l).toArray rfl rfl 24 _ hz5.out (by rw [HLS.out]; kernel_rfl) (by rw [HLS.out]; kernel_rfl) (all_oneCell_toArray (bv_one _)) ?_
  refine hK.out _ _ (⟨(setRow_other _ _ _ _ (by omega)).trans hHeld.1, (setRow_other _ _ _ _ (by omega)).trans hHeld.2⟩) (fun hHeld => ?_)
  clear hK K
  try simp only [Act.put]
  refine wpAnyH_done (by kernel_rfl) ?_ _
  go_wp2_with fail
  refine bodyPost_ret (v := .agg (bv l).toArray) (results_cell_row Tryd.results12 _ _ (w.heap.size + 1 + 1) 24 _ (0, 0) _ rfl (setRow_heap _ _ _ _ _ _ hz5.out) Tryd.underlying24 rfl (by rw [HLS.out]; kernel_rfl)) rfl ⟨l, rfl, HE, HL, below_setRow hbw5 (by omega) _⟩

set_option maxHeartbeats 1000000 in
theorem lmul_any (w : World) (hla : LaidO w) (a b : List UInt8) (ha : a.length = 32) (hb : b.length = 32) :
    Calls Tryd.prog 11 #[.agg (bv a).toArray, .agg (bv b).toArray] w fun e w' => ∃ l, e = .returned (.agg (bv l).toArray) ∧ Vlt (l = wl (ln a * ln b)) ∧ Hid (l.length = 32) ∧ Below w.heap.size w w' := by
  have hzw := zero_word
  have hzn := zero_num
  obtain ⟨W, hW, hgA, hgB, hgZ, hbW, hsW⟩ := three_new w (bv a).toArray (bv b).toArray (bv z32).toArray 24 24 24
  have HW := Lib.hid hW
  have HA := Lib.hid ha
  have HB := Lib.hid hb
  have HAS := Lib.hid (show (bv a).length = 32 by rw [bv_len, ha])
  have HBS := Lib.hid (show (bv b).length = 32 by rw [bv_len, hb])
  have hlaW := hla.below hla.2 hbW
  have hs : w.heap.size + 2 < W.heap.size := by have := hsW.out; omega
  clear hW ha hb hsW hla
  go_enter Tryd.func11, Tryd.ntmps11
  go_upto_region 1 with fail
  rw [HW.out]
  refine wp_region_held_drew (S := (fun W' => W'.heap[w.heap.size]? = some (.cells (bv a).toArray 24 (0, 0)) ∧ W'.heap[w.heap.size + 1]? = some (.cells (bv b).toArray 24 (0, 0)))) (by kernel_rfl) (⟨hgA.out, hgB.out⟩) (fun hHeld => ?_)
  refine wpAnyH_take (i := 0) (oi := ⟨(some 5), _, _, _, _, _⟩) (v := _) rfl (by kernel_rfl) (by kernel_rfl) (by kernel_rfl) (fun _ _ _ h => h) (yieldsIf_load_mid (by rfl) _ _ rfl w.heap.size 0 rfl (bv a) _ (fun W' hW' => range_row hW'.1) (Tryd.underlying24) (rfl) (by rw [HAS.out]; kernel_rfl)) hHeld ?_
  try simp only [Act.put, List.setIfInBounds_toArray, List.set_cons_zero, List.set_cons_succ]
  refine wpAnyH_take (i := 2) (oi := ⟨(some 7), _, _, _, _, _⟩) (v := _) rfl (by kernel_rfl) (by kernel_rfl) (by kernel_rfl) (fun _ _ _ h => h) (yieldsIf_load_mid (by rfl) _ _ rfl (w.heap.size + 1) 0 rfl (bv b) _ (fun W' hW' => range_row hW'.2) (Tryd.underlying24) (rfl) (by rw [HBS.out]; kernel_rfl)) hHeld ?_
  try simp only [Act.put, List.setIfInBounds_toArray, List.set_cons_zero, List.set_cons_succ]
  refine wpAnyH_take (i := 4) (oi := ⟨(some 9), _, _, _, _, _⟩) (v := _) rfl (by kernel_rfl) (by kernel_rfl) (by kernel_rfl) (fun _ _ _ h => h) (yields_build (by rfl) _ _ rfl [] (by rfl) _ (built_nilN)) hHeld ?_
  try simp only [Act.put, List.setIfInBounds_toArray, List.set_cons_zero, List.set_cons_succ]
  refine wpAnyH_ready (rs := [1]) (by kernel_rfl) (by simp) ?_
  refine AllReadyH.cons (i := 1) (o := ⟨(some 6), _, _, _, _, _⟩) rfl (fun K hK => ?_) AllReadyH.nil
  go_simp
  refine (lnumberOf_any _ a HA.out).mono ?_
  rintro e w1 ⟨A, rfl, eA, HAL, hb1d⟩
  have hb1 : Below W.heap.size W w1 := below_undrew hb1d
  refine hK.out _ _ (⟨(hb1.block _ (by omega)).trans hHeld.1, (hb1.block _ (by omega)).trans hHeld.2⟩) (fun hHeld => ?_)
  clear hK K
  try simp only [Act.put, List.setIfInBounds_toArray, List.set_cons_zero, List.set_cons_succ]
  have hbw1 := below_next hbW hbW.size hb1
  have hz1 : Hid (w1.heap[w.heap.size + 2]? = some (.cells (bv z32).toArray 24 (0, 0))) := (hb1.block _ (by omega)).trans hgZ.out
  have hs1 : w.heap.size + 2 < w1.heap.size := (Array.getElem?_eq_some_iff.1 hz1.out).1
  have hla1 := hlaW.below hlaW.2 hb1
  have HAB := vlt (show ∀ x ∈ A, x < B64 by rw [eA.out]; exact pcs_lt a 4 (by rw [HA.out]; decide))
  refine wpAnyH_ready (rs := [3]) (by kernel_rfl) (by simp) ?_
  refine AllReadyH.cons (i := 3) (o := ⟨(some 8), _, _, _, _, _⟩) rfl (fun K hK => ?_) AllReadyH.nil
  go_simp
  refine (lnumberOf_any w1 b HB.out).mono ?_
  rintro e w2 ⟨B, rfl, eB, HBL, hb2⟩
  refine hK.out _ _ (⟨(hb2.block _ (by omega)).trans hHeld.1, (hb2.block _ (by omega)).trans hHeld.2⟩) (fun hHeld => ?_)
  clear hK K
  try simp only [Act.put, List.setIfInBounds_toArray, List.set_cons_zero, List.set_cons_succ]
  have hbw2 := below_next hbw1 hbw1.size hb2
  have hz2 : Hid (w2.heap[w.heap.size + 2]? = some (.cells (bv z32).toArray 24 (0, 0))) := (hb2.block _ (by omega)).trans hz1.out
  have hs2 : w.heap.size + 2 < w2.heap.size := (Array.getElem?_eq_some_iff.1 hz2.out).1
  have hla2 := hla1.below hla1.2 hb2
  have HBB := vlt (show ∀ x ∈ B, x < B64 by rw [eB.out]; exact pcs_lt b 4 (by rw [HB.out]; decide))
  refine wpAnyH_ready (rs := [5]) (by kernel_rfl) (by simp) ?_
  refine AllReadyH.cons (i := 5) (o := ⟨(some 10), _, _, _, _, _⟩) rfl (fun K hK => ?_) AllReadyH.nil
  go_simp
  refine (ltimes_any w2 A B nilN HAL.out HBL.out rfl HAB.out HBB.out (by decide)).mono ?_
  rintro e w3 ⟨U, rfl, e3, HUL, HUB, hb3⟩
  refine hK.out _ _ (⟨(hb3.block _ (by omega)).trans hHeld.1, (hb3.block _ (by omega)).trans hHeld.2⟩) (fun hHeld => ?_)
  clear hK K
  try simp only [Act.put, List.setIfInBounds_toArray, List.set_cons_zero, List.set_cons_succ]
  have hbw3 := below_next hbw2 hbw2.size hb3
  have hz3 : Hid (w3.heap[w.heap.size + 2]? = some (.cells (bv z32).toArray 24 (0, 0))) := (hb3.block _ (by omega)).trans hz2.out
  have hs3 : w.heap.size + 2 < w3.heap.size := (Array.getElem?_eq_some_iff.1 hz3.out).1
  have hla3 := hla2.below hla2.2 hb3
  refine wpAnyH_ready (rs := [6]) (by kernel_rfl) (by simp) ?_
  refine AllReadyH.cons (i := 6) (o := ⟨(some 11), _, _, _, _, _⟩) rfl (fun K hK => ?_) AllReadyH.nil
  go_simp
  refine (lbelow_any w3 hla3 U HUL.out HUB.out).mono ?_
  rintro e w4 ⟨Y, rfl, e4, HYL, HYB, hb4⟩
  refine hK.out _ _ (⟨(hb4.block _ (by omega)).trans hHeld.1, (hb4.block _ (by omega)).trans hHeld.2⟩) (fun hHeld => ?_)
  clear hK K
  try simp only [Act.put, List.setIfInBounds_toArray, List.set_cons_zero, List.set_cons_succ]
  have hbw4 := below_next hbw3 hbw3.size hb4
  have hz4 : Hid (w4.heap[w.heap.size + 2]? = some (.cells (bv z32).toArray 24 (0, 0))) := (hb4.block _ (by omega)).trans hz3.out
  have hs4 : w.heap.size + 2 < w4.heap.size := (Array.getElem?_eq_some_iff.1 hz4.out).1
  refine wpAnyH_ready (rs := [7]) (by kernel_rfl) (by simp) ?_
  refine AllReadyH.cons (i := 7) (o := ⟨(some 12), _, _, _, _, _⟩) rfl (fun K hK => ?_) AllReadyH.nil
  go_simp
  refine (ltold_any w4 Y HYL.out HYB.out).mono ?_
  rintro e w5 ⟨l, rfl, e5, HL, hb5⟩
  refine hK.out _ _ (⟨(hb5.block _ (by omega)).trans hHeld.1, (hb5.block _ (by omega)).trans hHeld.2⟩) (fun hHeld => ?_)
  clear hK K
  try simp only [Act.put, List.setIfInBounds_toArray, List.set_cons_zero, List.set_cons_succ]
  have hbw5 := below_next hbw4 hbw4.size hb5
  have hz5 : Hid (w5.heap[w.heap.size + 1 + 1]? = some (.cells (bv z32).toArray 24 (0, 0))) := (hb5.block _ (by omega)).trans hz4.out
  have hs5 : w.heap.size + 2 < w5.heap.size := (Array.getElem?_eq_some_iff.1 hz5.out).1
  have HE := vlt (show l = wl (ln a * ln b) by rw [e5.out, e4.out, e3.out, eA.out, eB.out, nB_word a HA.out, nB_word b HB.out, nB_nilN, Nat.zero_add, le_mod])
  clear e3 e4 e5 eA eB
  have HLS := Lib.hid (bv_size l HL.out)
  refine wpAnyH_ready (rs := [8]) (by kernel_rfl) (by simp) ?_
  refine AllReadyH.cons (i := 8) (o := ⟨none, _, _, _, _, _⟩) rfl (fun K hK => ?_) AllReadyH.nil
  refine step_store_row rfl 24 (.tmp 4) (.tmp 12) rfl (w.heap.size + 1 + 1) (bv l).toArray rfl rfl 24 _ hz5.out (by rw [HLS.out]; kernel_rfl) (by rw [HLS.out]; kernel_rfl) (all_oneCell_toArray (bv_one _)) ?_
  refine hK.out _ _ (⟨(setRow_other _ _ _ _ (by omega)).trans hHeld.1, (setRow_other _ _ _ _ (by omega)).trans hHeld.2⟩) (fun hHeld => ?_)
  clear hK K
  try simp only [Act.put]
  refine wpAnyH_done (by kernel_rfl) ?_ _
  go_wp2_with fail
  refine bodyPost_ret (v := .agg (bv l).toArray) (results_cell_row Tryd.results11 _ _ (w.heap.size + 1 + 1) 24 _ (0, 0) _ rfl (setRow_heap _ _ _ _ _ _ hz5.out) Tryd.underlying24 rfl (by rw [HLS.out]; kernel_rfl)) rfl ⟨l, rfl, HE, HL, below_setRow hbw5 (by omega) _⟩

set_option maxHeartbeats 1000000 in
theorem lsub_any (w : World) (hla : LaidO w) (a b : List UInt8) (ha : a.length = 32) (hb : b.length = 32) :
    Calls Tryd.prog 18 #[.agg (bv a).toArray, .agg (bv b).toArray] w fun e w' => ∃ l, e = .returned (.agg (bv l).toArray) ∧ Vlt (l = wl (ln a + ln b * (FL - 1))) ∧ Hid (l.length = 32) ∧ Below w.heap.size w w' := by
  have hzw := zero_word
  have hzn := zero_num
  obtain ⟨W, hW, hgA, hgB, hgZ, hbW, hsW⟩ := three_new w (bv a).toArray (bv b).toArray (bv z32).toArray 24 24 24
  have HW := Lib.hid hW
  have HA := Lib.hid ha
  have HB := Lib.hid hb
  have HAS := Lib.hid (show (bv a).length = 32 by rw [bv_len, ha])
  have HBS := Lib.hid (show (bv b).length = 32 by rw [bv_len, hb])
  have hlaW := hla.below hla.2 hbW
  have hs : w.heap.size + 2 < W.heap.size := by have := hsW.out; omega
  clear hW ha hb hsW hla
  go_enter Tryd.func18, Tryd.ntmps18
  go_upto_region 1 with fail
  rw [HW.out]
  have c0 : W.cell? ⟨0, 0, none⟩ = some (.int .u64 6346243789798364141) := hlaW.1 0 _ rfl
  have c1 : W.cell? ⟨0, 1, none⟩ = some (.int .u64 1503914060200516822) := hlaW.1 1 _ rfl
  have c2 : W.cell? ⟨0, 2, none⟩ = some (.int .u64 0) := hlaW.1 2 _ rfl
  have c3 : W.cell? ⟨0, 3, none⟩ = some (.int .u64 1152921504606846976) := hlaW.1 3 _ rfl
  go_upto_region 2 with (first
    | (with_reducible refine wpList_build_to rfl 41 _ rfl [(0, .int .u64 6346243789798364140), (1, .int .u64 1503914060200516822), (2, .int .u64 0), (3, .int .u64 1152921504606846976)] (by rfl) _ built_lessN ?_)
    | ((with_reducible refine wpList_store_row rfl 41 (.tmp 5) (.tmp 15) rfl W.heap.size (u64v lessN).toArray rfl rfl 41 _ (heap_alloc_new _ _) (by kernel_rfl) (by kernel_rfl) (all_oneCell_toArray (u64v_one _)) ?_); rw [World.setRow_alloc_new]))
  obtain ⟨V, hV, hgT, hbV, hsV⟩ := one_new W (u64v lessN).toArray 41
  rw [hV]
  obtain ⟨T, hT⟩ : ∃ T, T = W.heap.size := ⟨_, rfl⟩
  rw [← hT] at hgT hs hbV ⊢
  have hgAV : Hid (V.heap[w.heap.size]? = some (.cells (bv a).toArray 24 (0, 0))) := (hbV.block _ (by omega)).trans hgA.out
  have hgBV : Hid (V.heap[w.heap.size + 1]? = some (.cells (bv b).toArray 24 (0, 0))) := (hbV.block _ (by omega)).trans hgB.out
  have hgZV : Hid (V.heap[w.heap.size + 2]? = some (.cells (bv z32).toArray 24 (0, 0))) := (hbV.block _ (by omega)).trans hgZ.out
  have hbwV := below_next hbW hbW.size (by rw [hT] at hbV; exact hbV)
  have hlaV := hlaW.below (by have := hlaW.2; omega) hbV
  have hsT : T < V.heap.size := (Array.getElem?_eq_some_iff.1 hgT.out).1
  have hsV2 : w.heap.size + 2 < V.heap.size := (Array.getElem?_eq_some_iff.1 hgZV.out).1
  clear hV hbV hgA hgB hgZ hbW hsV hT HW hlaW c0 c1 c2 c3
  refine wp_region_held_drew (S := (fun W' => W'.heap[w.heap.size]? = some (.cells (bv a).toArray 24 (0, 0)) ∧ W'.heap[w.heap.size + 1]? = some (.cells (bv b).toArray 24 (0, 0)) ∧ W'.heap[T]? = some (.cells (u64v lessN).toArray 41 (0, 0)))) (by kernel_rfl) (⟨hgAV.out, hgBV.out, hgT.out⟩) (fun hHeld => ?_)
  refine wpAnyH_take (i := 0) (oi := ⟨(some 16), _, _, _, _, _⟩) (v := _) rfl (by kernel_rfl) (by kernel_rfl) (by kernel_rfl) (fun _ _ _ h => h) (yieldsIf_load_mid (by rfl) _ _ rfl (w.heap.size + 1) 0 rfl (bv b) _ (fun W' hW' => range_row hW'.2.1) (Tryd.underlying24) (rfl) (by rw [HBS.out]; kernel_rfl)) hHeld ?_
  try simp only [Act.put, List.setIfInBounds_toArray, List.set_cons_zero, List.set_cons_succ]
  refine wpAnyH_take (i := 2) (oi := ⟨(some 18), _, _, _, _, _⟩) (v := _) rfl (by kernel_rfl) (by kernel_rfl) (by kernel_rfl) (fun _ _ _ h => h) (yieldsIf_load_mid (by rfl) _ _ rfl T 0 rfl (u64v lessN) _ (fun W' hW' => range_row hW'.2.2) (Tryd.underlying41) (rfl) (by kernel_rfl)) hHeld ?_
  try simp only [Act.put, List.setIfInBounds_toArray, List.set_cons_zero, List.set_cons_succ]
  refine wpAnyH_take (i := 3) (oi := ⟨(some 19), _, _, _, _, _⟩) (v := _) rfl (by kernel_rfl) (by kernel_rfl) (by kernel_rfl) (fun _ _ _ h => h) (yieldsIf_load_mid (by rfl) _ _ rfl w.heap.size 0 rfl (bv a) _ (fun W' hW' => range_row hW'.1) (Tryd.underlying24) (rfl) (by rw [HAS.out]; kernel_rfl)) hHeld ?_
  try simp only [Act.put, List.setIfInBounds_toArray, List.set_cons_zero, List.set_cons_succ]
  refine wpAnyH_ready (rs := [1]) (by kernel_rfl) (by simp) ?_
  refine AllReadyH.cons (i := 1) (o := ⟨(some 17), _, _, _, _, _⟩) rfl (fun K hK => ?_) AllReadyH.nil
  go_simp
  refine (lnumberOf_any _ b HB.out).mono ?_
  rintro e w1 ⟨B, rfl, eB, HBL, hb1d⟩
  have hb1 : Below V.heap.size V w1 := below_undrew hb1d
  refine hK.out _ _ (⟨(hb1.block _ (by omega)).trans hHeld.1, (hb1.block _ (by omega)).trans hHeld.2.1, (hb1.block _ (by omega)).trans hHeld.2.2⟩) (fun hHeld => ?_)
  clear hK K
  try simp only [Act.put, List.setIfInBounds_toArray, List.set_cons_zero, List.set_cons_succ]
  have hbw1 := below_next hbwV hbwV.size hb1
  have hz1 : Hid (w1.heap[w.heap.size + 2]? = some (.cells (bv z32).toArray 24 (0, 0))) := (hb1.block _ (by omega)).trans hgZV.out
  have hs1 : w.heap.size + 2 < w1.heap.size := (Array.getElem?_eq_some_iff.1 hz1.out).1
  have hla1 := hlaV.below hlaV.2 hb1
  have hsT1 : T < w1.heap.size := Nat.lt_of_lt_of_le hsT hb1.size
  have HBB := vlt (show ∀ x ∈ B, x < B64 by rw [eB.out]; exact pcs_lt b 4 (by rw [HB.out]; decide))
  refine wpAnyH_ready (rs := [4]) (by kernel_rfl) (by simp) ?_
  refine AllReadyH.cons (i := 4) (o := ⟨(some 20), _, _, _, _, _⟩) rfl (fun K hK => ?_) AllReadyH.nil
  go_simp
  refine (lnumberOf_any w1 a HA.out).mono ?_
  rintro e w2 ⟨A, rfl, eA, HAL, hb2⟩
  refine hK.out _ _ (⟨(hb2.block _ (by omega)).trans hHeld.1, (hb2.block _ (by omega)).trans hHeld.2.1, (hb2.block _ (by omega)).trans hHeld.2.2⟩) (fun hHeld => ?_)
  clear hK K
  try simp only [Act.put, List.setIfInBounds_toArray, List.set_cons_zero, List.set_cons_succ]
  have hbw2 := below_next hbw1 hbw1.size hb2
  have hz2 : Hid (w2.heap[w.heap.size + 2]? = some (.cells (bv z32).toArray 24 (0, 0))) := (hb2.block _ (by omega)).trans hz1.out
  have hs2 : w.heap.size + 2 < w2.heap.size := (Array.getElem?_eq_some_iff.1 hz2.out).1
  have hla2 := hla1.below hla1.2 hb2
  have hsT2 : T < w2.heap.size := Nat.lt_of_lt_of_le hsT1 hb2.size
  have HAB := vlt (show ∀ x ∈ A, x < B64 by rw [eA.out]; exact pcs_lt a 4 (by rw [HA.out]; decide))
  refine wpAnyH_ready (rs := [5]) (by kernel_rfl) (by simp) ?_
  refine AllReadyH.cons (i := 5) (o := ⟨(some 21), _, _, _, _, _⟩) rfl (fun K hK => ?_) AllReadyH.nil
  go_simp
  refine (ltimes_any w2 B lessN A HBL.out rfl HAL.out HBB.out (by decide) HAB.out).mono ?_
  rintro e w3 ⟨U, rfl, e3, HUL, HUB, hb3⟩
  refine hK.out _ _ (⟨(hb3.block _ (by omega)).trans hHeld.1, (hb3.block _ (by omega)).trans hHeld.2.1, (hb3.block _ (by omega)).trans hHeld.2.2⟩) (fun hHeld => ?_)
  clear hK K
  try simp only [Act.put, List.setIfInBounds_toArray, List.set_cons_zero, List.set_cons_succ]
  have hbw3 := below_next hbw2 hbw2.size hb3
  have hz3 : Hid (w3.heap[w.heap.size + 2]? = some (.cells (bv z32).toArray 24 (0, 0))) := (hb3.block _ (by omega)).trans hz2.out
  have hs3 : w.heap.size + 2 < w3.heap.size := (Array.getElem?_eq_some_iff.1 hz3.out).1
  have hsT3 : T < w3.heap.size := Nat.lt_of_lt_of_le hsT2 hb3.size
  have hla3 := hla2.below hla2.2 hb3
  refine wpAnyH_ready (rs := [6]) (by kernel_rfl) (by simp) ?_
  refine AllReadyH.cons (i := 6) (o := ⟨(some 22), _, _, _, _, _⟩) rfl (fun K hK => ?_) AllReadyH.nil
  go_simp
  refine (lbelow_any w3 hla3 U HUL.out HUB.out).mono ?_
  rintro e w4 ⟨Y, rfl, e4, HYL, HYB, hb4⟩
  refine hK.out _ _ (⟨(hb4.block _ (by omega)).trans hHeld.1, (hb4.block _ (by omega)).trans hHeld.2.1, (hb4.block _ (by omega)).trans hHeld.2.2⟩) (fun hHeld => ?_)
  clear hK K
  try simp only [Act.put, List.setIfInBounds_toArray, List.set_cons_zero, List.set_cons_succ]
  have hbw4 := below_next hbw3 hbw3.size hb4
  have hz4 : Hid (w4.heap[w.heap.size + 2]? = some (.cells (bv z32).toArray 24 (0, 0))) := (hb4.block _ (by omega)).trans hz3.out
  have hs4 : w.heap.size + 2 < w4.heap.size := (Array.getElem?_eq_some_iff.1 hz4.out).1
  have hsT4 : T < w4.heap.size := Nat.lt_of_lt_of_le hsT3 hb4.size
  refine wpAnyH_ready (rs := [7]) (by kernel_rfl) (by simp) ?_
  refine AllReadyH.cons (i := 7) (o := ⟨(some 23), _, _, _, _, _⟩) rfl (fun K hK => ?_) AllReadyH.nil
  go_simp
  refine (ltold_any w4 Y HYL.out HYB.out).mono ?_
  rintro e w5 ⟨l, rfl, e5, HL, hb5⟩
  refine hK.out _ _ (⟨(hb5.block _ (by omega)).trans hHeld.1, (hb5.block _ (by omega)).trans hHeld.2.1, (hb5.block _ (by omega)).trans hHeld.2.2⟩) (fun hHeld => ?_)
  clear hK K
  try simp only [Act.put, List.setIfInBounds_toArray, List.set_cons_zero, List.set_cons_succ]
  have hbw5 := below_next hbw4 hbw4.size hb5
  have hz5 : Hid (w5.heap[w.heap.size + 1 + 1]? = some (.cells (bv z32).toArray 24 (0, 0))) := (hb5.block _ (by omega)).trans hz4.out
  have hs5 : w.heap.size + 2 < w5.heap.size := (Array.getElem?_eq_some_iff.1 hz5.out).1
  have hsT5 : T < w5.heap.size := Nat.lt_of_lt_of_le hsT4 hb5.size
  have HE := vlt (show l = wl (ln a + ln b * (FL - 1)) by rw [e5.out, e4.out, e3.out, eA.out, eB.out, nB_word a HA.out, nB_word b HB.out, nB_lessN, le_mod])
  clear e3 e4 e5 eA eB
  have HLS := Lib.hid (bv_size l HL.out)
  refine wpAnyH_ready (rs := [8]) (by kernel_rfl) (by simp) ?_
  refine AllReadyH.cons (i := 8) (o := ⟨none, _, _, _, _, _⟩) rfl (fun K hK => ?_) AllReadyH.nil
  refine step_store_row rfl 24 (.tmp 4) (.tmp 23) rfl (w.heap.size + 1 + 1) (bv l).toArray rfl rfl 24 _ hz5.out (by rw [HLS.out]; kernel_rfl) (by rw [HLS.out]; kernel_rfl) (all_oneCell_toArray (bv_one _)) ?_
  refine hK.out _ _ (⟨(setRow_other _ _ _ _ (by omega)).trans hHeld.1, (setRow_other _ _ _ _ (by omega)).trans hHeld.2.1, (setRow_other _ _ _ _ (by omega)).trans hHeld.2.2⟩) (fun hHeld => ?_)
  clear hK K
  try simp only [Act.put]
  refine wpAnyH_done (by kernel_rfl) ?_ _
  go_wp2_with fail
  refine bodyPost_ret (v := .agg (bv l).toArray) (results_cell_row Tryd.results18 _ _ (w.heap.size + 1 + 1) 24 _ (0, 0) _ rfl (setRow_heap _ _ _ _ _ _ hz5.out) Tryd.underlying24 rfl (by rw [HLS.out]; kernel_rfl)) rfl ⟨l, rfl, HE, HL, below_setRow hbw5 (by omega) _⟩
end Go.Proofs.YtlobejnohkecdaaDoor
