/-
  Contract of scalar's below. Conditions: the package's own number lies as the program's text lays it.
-/
import Derived.Test.YtlobejnohkecdaaDoorScC
import Derived.Test.YtlobejnohkecdaaDoorRng
namespace Go.Proofs.YtlobejnohkecdaaDoor
open Go.RowKit

theorem four_list (X : List Nat) (h : X.length = 4) (hb : ∀ x ∈ X, x < B64) : ∃ a b c d, X = [a, b, c, d] ∧ a < B64 ∧ b < B64 ∧ c < B64 ∧ d < B64 := by
  match X, h with
  | [a, b, c, d], _ => exact ⟨a, b, c, d, rfl, hb _ (by simp), hb _ (by simp), hb _ (by simp), hb _ (by simp)⟩
theorem u64v_size (l : List Nat) {n : Nat} (h : l.length = n) : (u64v l).toArray.size = n := by simp [u64v_len, h]
set_option maxRecDepth 100000 in
set_option maxHeartbeats 1000000 in
theorem lbelow_any (w : World) (hla : LaidO w) (A : List Nat) (hA : A.length = 8) (bA : ∀ x ∈ A, x < B64) :
    Calls Tryd.prog 23 #[.agg (u64v A).toArray] w fun e w' => ∃ X, e = .returned (.agg (u64v X).toArray) ∧ Vlt (nB X = nB A % FL) ∧ Hid (X.length = 4) ∧ Vlt (∀ x ∈ X, x < B64) ∧ Below w.heap.size w w' := by
  have hzn := zero_num
  obtain ⟨W, hW, hgA, hgZ, hbW, hsW⟩ := pair_new w (u64v A).toArray (u64v (uptoW 4 [])).toArray 43 41
  have HW := Lib.hid hW
  have HAL := Lib.hid hA
  have HBA := vlt bA
  have hlaW := hla.below hla.2 hbW
  have hgl := hla.2
  have hs1 : w.heap.size + 1 < W.heap.size := by have := hsW.out; omega
  clear hW hA bA hsW hla
  go_enter Tryd.func23, Tryd.ntmps23
  go_upto_region 1 with fail
  rw [HW.out]
  go_upto_region 2 with fail
  obtain ⟨V, hV, hgT, hbV, hsV⟩ := one_new W (u64v (uptoW 4 [])).toArray 41
  rw [hV]
  obtain ⟨T, hT⟩ : ∃ T, T = W.heap.size := ⟨_, rfl⟩
  rw [← hT] at hgT hs1 hbV ⊢
  have hgA1 : Hid (V.heap[w.heap.size]? = some (.cells (u64v A).toArray 43 (0, 0))) := (hbV.block _ (by omega)).trans hgA.out
  have hgZ1 : Hid (V.heap[w.heap.size + 1]? = some (.cells (u64v (uptoW 4 [])).toArray 41 (0, 0))) := (hbV.block _ (by omega)).trans hgZ.out
  have hbw1 := below_next hbW hbW.size (by rw [hT] at hbV; exact hbV)
  have hlaV := hlaW.below (by omega) hbV
  have hsT : T < V.heap.size := (Array.getElem?_eq_some_iff.1 hgT.out).1
  clear hV hbV hgA hgZ hbW hsV hT HW hlaW
  go_wp2_with fail
  go_loopw [4] (fun s wr => ∃ (k x0 x1 x2 x3 : Nat), k ≤ 8 ∧ s = .int .i64 ((k : Int) - 1) ∧ Hid (wr.heap[T]? = some (.cells (u64v [x0, x1, x2, x3]).toArray 41 (0, 0))) ∧ (x0 < B64 ∧ x1 < B64 ∧ x2 < B64 ∧ x3 < B64) ∧ Vlt (n4 x0 x1 x2 x3 = nB (A.drop k) % FL) ∧ Below T V wr) (fun s _ => ((intOf s) + 1).toNat)
  case atStart => exact ⟨8, 0, 0, 0, 0, by omega, rfl, hgT, by decide, vlt (by rw [List.drop_eq_nil_of_le (by rw [HAL.out]; decide)]; rfl), Below.refl _ _⟩
  case round =>
    clear hgT
    obtain ⟨k, x0, x1, x2, x3, hk, rfl, hg, ⟨l0, l1, l2, l3⟩, hv, hbt⟩ := hrel
    by_cases hkt : 0 < k
    · obtain ⟨j, rfl⟩ : ∃ j, k = j + 1 := ⟨k - 1, by omega⟩
      rw [show ((j + 1 : Nat) : Int) - 1 = (j : Int) by omega]
      have hj8 : (j : Int) < 8 := by omega
      have hgx : Hid (wr.heap[w.heap.size]? = some (.cells (u64v A).toArray 43 (0, 0))) := (hbt.block _ (by omega)).trans hgA1.out
      have c0 := long_at hgx.out j (by rw [HAL.out]; omega)
      have lx := natB_mem HBA.out j
      have hlaR := hlaV.below (by omega) hbt
      have hN : n4 x0 x1 x2 x3 < FL := by rw [hv.out]; exact Nat.mod_lt _ fl_pos
      have HN := vlt hN
      have HV := vlt (show (natAt A j + 18446744073709551616 * n4 x0 x1 x2 x3) % FL = nB (A.drop j) % FL by rw [hv.out, below_step, ← nB_drop A j (by rw [HAL.out]; omega)])
      have HX := vlt (show natAt A j = natAt A j from rfl)
      generalize natAt A j = x at *
      have hsr : T < wr.heap.size := (Array.getElem?_eq_some_iff.1 hg.out).1
      clear hv hN HX
      go_wp2_with fail
      refine c_start (S := (fun W' => W'.heap[T]? = some (.cells (u64v [x0, x1, x2, x3]).toArray 41 (0, 0)) ∧ W'.cell? ⟨w.heap.size, j, none⟩ = some (.int .u64 (x : Int)))) 5 (by kernel_rfl) (⟨hg.out, c0⟩) (fun hHeld => ?_)
      refine c_read (i := 0) (oi := ⟨(some 9), _, _, _, _, _⟩) (v := _) rfl (by decide) (by kernel_rfl) (by kernel_rfl) (by kernel_rfl) (by kernel_rfl) (by kernel_rfl) (fun _ _ _ h => h) (yieldsIf_load_mid (by rfl) _ _ rfl T 0 rfl (u64v [x0, x1, x2, x3]) _ (fun W' hW' => range_row hW'.1) (Tryd.underlying41) (rfl) (by kernel_rfl)) hHeld ?_
      try simp only [Act.put, List.setIfInBounds_toArray, List.set_cons_zero, List.set_cons_succ]
      refine c_take (i := 1) (oi := ⟨(some 10), _, _, _, _, _⟩) (v := ?vq1_0) rfl (by decide) (by kernel_rfl) (by kernel_rfl) (by kernel_rfl) (fun _ _ _ h => h) (Or.inl ⟨by rfl, ?yq1_0⟩) hHeld ?_
      case yq1_0 => (intro W0 hSw; go_simp; try with_reducible rfl)
      try simp only [Act.put, List.setIfInBounds_toArray, List.set_cons_zero, List.set_cons_succ]
      refine c_take (i := 2) (oi := ⟨(some 11), _, _, _, _, _⟩) (v := ?vq1_1) rfl (by decide) (by kernel_rfl) (by kernel_rfl) (by kernel_rfl) (fun _ _ _ h => h) (Or.inl ⟨by rfl, ?yq1_1⟩) hHeld ?_
      case yq1_1 => (intro W0 hSw; go_simp; try with_reducible rfl)
      try simp only [Act.put, List.setIfInBounds_toArray, List.set_cons_zero, List.set_cons_succ]
      refine c_read (i := 3) (oi := ⟨(some 12), _, _, _, _, _⟩) (v := ?vq1_2) rfl (by decide) (by kernel_rfl) (by kernel_rfl) (by kernel_rfl) (by kernel_rfl) (by kernel_rfl) (fun _ _ _ h => h) (Or.inl ⟨by rfl, ?yq1_2⟩) hHeld ?_
      case yq1_2 => (intro W0 hSw; go_simp; try with_reducible rfl)
      try simp only [Act.put, List.setIfInBounds_toArray, List.set_cons_zero, List.set_cons_succ]
      refine c_step (i := 4) (o := ⟨(some 13), _, _, _, _, _⟩) (by kernel_rfl) rfl (fun K hK => ?_)
      go_simp
      refine (lnext_any wr.drew ⟨hlaR.1, hlaR.2⟩ x0 x1 x2 x3 x l0 l1 l2 lx HN.out).mono ?_
      rintro e w3 ⟨R, rfl, e3, HRL, HRB, hb3d⟩
      have hb3 : Below wr.heap.size wr w3 := below_undrew hb3d
      refine hK.out _ _ (⟨(hb3.block _ hsr).trans hHeld.1, (World.cell?_of_block (hb3.block w.heap.size (by omega))).trans hHeld.2⟩) (fun hHeld => ?_)
      clear hK K
      try simp only [Act.put, List.setIfInBounds_toArray, List.set_cons_zero, List.set_cons_succ]
      have hg3 : Hid (w3.heap[T]? = some (.cells (u64v [x0, x1, x2, x3]).toArray 41 (0, 0))) := (hb3.block _ hsr).trans hg.out
      have HRS := Lib.hid (u64v_size R HRL.out)
      have hbt3 := below_next hbt (Nat.le_of_lt hsr) hb3
      refine c_call (S' := (fun _ => True)) (o := ⟨none, _, _, _, _, _⟩) (by kernel_rfl) (by kernel_rfl) rfl (fun K hK => ?_)
      clear hHeld
      refine step_store_row rfl 41 (.tmp 3) (.tmp 13) (by rfl) T (u64v R).toArray (by rfl) (by rfl) 41 _ hg3.out (by rw [HRS.out]; kernel_rfl) (by rw [HRS.out]; kernel_rfl) (all_oneCell_toArray (u64v_one _)) ?_
      refine hK.out _ _ (trivial) (fun hHeld => ?_)
      clear hK K
      try simp only [Act.put]
      refine wpAnyH_done (by kernel_rfl) ?_ _
      have hset : Hid ((w3.setRow T (u64v R).toArray).heap[T]? = some (.cells (u64v R).toArray 41 (0, 0))) := setRow_heap _ _ _ _ _ _ hg3.out
      have hb5 : Below T V (w3.setRow T (u64v R).toArray) := below_setRow hbt3 (Nat.le_refl _) _
      obtain ⟨a, b, c, d, hR, la, lb, lc, ld⟩ := four_list R HRL.out HRB.out
      have HV2 := vlt (show n4 a b c d = nB (A.drop j) % FL by rw [← nB_four, ← hR, e3.out, HV.out])
      generalize w3.setRow T (u64v R).toArray = w5 at *
      rw [hR] at hset
      clear e3 hg hg3 hbt3 HV hR
      go_wp2
      go_roundw
      case rel => exact ⟨j, a, b, c, d, by omega, by go_num, hset, ⟨la, lb, lc, ld⟩, HV2, hb5⟩
      case measure => simp [intOf]
    · obtain rfl : k = 0 := by omega
      have HV2 := vlt (show nB [x0, x1, x2, x3] = nB A % FL by rw [nB_four, hv.out, List.drop_zero])
      have hBD := vlt (show ∀ x ∈ [x0, x1, x2, x3], x < B64 by
        intro x hx
        simp only [List.mem_cons, List.not_mem_nil, or_false] at hx
        rcases hx with rfl | rfl | rfl | rfl <;> assumption)
      have hz4 : Hid (wr.heap[w.heap.size + 1]? = some (.cells (u64v (uptoW 4 [])).toArray 41 (0, 0))) := (hbt.block _ (by omega)).trans hgZ1.out
      have hb4 : Below w.heap.size w wr := ⟨hbt.os.trans hbw1.os, hbt.tape.trans hbw1.tape, hbt.output.trans hbw1.output, Nat.le_trans hbw1.size hbt.size, fun k hk => (hbt.block k (by omega)).trans (hbw1.block k hk)⟩
      clear hv
      go_wp2_with (first
        | (with_reducible refine wpList_load_row rfl 41 (.tmp 3) rfl T rfl 41 (u64v [x0, x1, x2, x3]).toArray (0, 0) _ hg.out Tryd.underlying41 rfl (by kernel_rfl) ?_)
        | (with_reducible refine wpList_store_row rfl 41 (.tmp 2) (.tmp 14) rfl (w.heap.size + 1) (u64v [x0, x1, x2, x3]).toArray rfl rfl 41 _ hz4.out (by kernel_rfl) (by kernel_rfl) (all_oneCell_toArray (u64v_one _)) ?_))
      refine bodyPost_ret (v := .agg (u64v [x0, x1, x2, x3]).toArray) (results_cell_row Tryd.results23 _ _ (w.heap.size + 1) 41 _ (0, 0) _ rfl (setRow_heap _ _ _ _ _ _ hz4.out) Tryd.underlying41 rfl (by kernel_rfl)) rfl ⟨_, rfl, HV2, rfl, hBD, below_setRow hb4 (by omega) _⟩
end Go.Proofs.YtlobejnohkecdaaDoor
