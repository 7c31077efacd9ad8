/-
  Contract of a reader's Word. Conditions: the reader lies in blocks of its own.
-/
import Derived.Test.YtomnjmjgmioiaaaWiT
import Derived.Test.YtomnjmjgmioiaaaRng
namespace Go.Proofs.Ytomnjmjgmioiaaa
open Go.RowKit

set_option maxRecDepth 100000 in
set_option maxHeartbeats 1000000 in
theorem rword_ok (w : World) (lo hi g : Nat) (l : List UInt8) (bad : Bool) (hr : RdIs w lo hi g l bad) (hk : 32 ≤ l.length) :
    Calls Try.prog 13 #[.pointer (some ⟨g, 0, none⟩)] w fun e w' => ∃ X, e = .returned (.agg (bv X).toArray) ∧ Vlt (X = l.take 32) ∧ Hid (X.length = 32) ∧ RdIs w' lo hi g (l.drop 32) bad ∧ But g w w' := by
  have hz := zero_w
  obtain ⟨W, hW, hgA, hgB, hbW, hsW⟩ := pair_new w (bv z32).toArray (bv z32).toArray 30 30
  have HW := Lib.hid hW
  have hrW := hr.next hbW
  have hcut := fun w0 => cut_all (P := Try.prog) Try.underlying30 Try.sizeByte (w.heap.size + 1) 0 (by decide) w0
  have h0 := hr.1
  have hbgW : But g w W := But.of_below hbW (Nat.le_refl _)
  obtain ⟨X, hX⟩ : ∃ X, X = l.take 32 := ⟨_, rfl⟩
  have HX := vlt hX
  have HXL := Lib.hid (show X.length = 32 by rw [hX, List.length_take]; omega)
  have hs1 : w.heap.size + 1 < W.heap.size := by have := hsW.out; omega
  have htk := take_ok W.drew lo hi g l bad 32 hrW.drew hk
  rw [← hX] at htk
  clear hW hX hk hsW
  go_enter Try.func13, Try.ntmps13
  go_upto_region 2 with fail
  rw [HW.out]
  refine wp_region_held_drew (S := (fun _ => True)) (by kernel_rfl) (trivial) (fun hHeld => ?_)
  refine wpAnyH_take (i := 0) (oi := ⟨(some 4), _, _, _, _, _⟩) (v := ?vq1_0) rfl (by kernel_rfl) (by kernel_rfl) (by kernel_rfl) (fun _ _ _ h => h) (Or.inl ⟨by rfl, ?yq1_0⟩) hHeld ?_
  case yq1_0 => (intro W0 hSw; go_simp; try with_reducible rfl)
  try simp only [Act.put, List.setIfInBounds_toArray, List.set_cons_zero, List.set_cons_succ]
  refine wpAnyH_take (i := 1) (oi := ⟨(some 5), _, _, _, _, _⟩) (v := ?vq1_1) rfl (by kernel_rfl) (by kernel_rfl) (by kernel_rfl) (fun _ _ _ h => h) (Or.inl ⟨by rfl, ?yq1_1⟩) hHeld ?_
  case yq1_1 => (intro W0 hSw; go_simp; try with_reducible rfl)
  try simp only [Act.put, List.setIfInBounds_toArray, List.set_cons_zero, List.set_cons_succ]
  refine wpAnyH_ready (rs := [2]) (by kernel_rfl) (by simp) ?_
  refine AllReadyH.cons (i := 2) (o := ⟨(some 6), _, _, _, _, _⟩) rfl (fun K hK => ?_) AllReadyH.nil
  go_simp
  refine htk.mono ?_
  rintro e w2 ⟨A2, c2, rfl, hc2, hs2, hr2, hb2⟩
  refine hK.out _ _ (trivial) (fun hHeld => ?_)
  clear hK K
  try simp only [Act.put, List.setIfInBounds_toArray, List.set_cons_zero, List.set_cons_succ]
  have hgB2 : Hid (w2.heap[w.heap.size + 1]? = some (.cells (bv z32).toArray 30 (0, 0))) := (hb2.block _ hs1 (fun e => by injection e; omega)).trans hgB.out
  have hgA2 : Hid (w2.heap[w.heap.size]? = some (.cells (bv z32).toArray 30 (0, 0))) := (hb2.block _ (Nat.lt_of_succ_lt hs1) (fun e => by injection e; omega)).trans hgA.out
  refine wpAnyH_ready (rs := [3]) (by kernel_rfl) (by simp) ?_
  refine AllReadyH.cons (i := 3) (o := ⟨(some 7), _, _, _, _, _⟩) rfl (fun K hK => ?_) AllReadyH.nil
  refine step_copy_but rfl (.tmp 4) (.tmp 6) 25 rfl 5 Try.underlying25 Try.sizeByte (w.heap.size + 1) 0 32 32 32 c2 A2 (by rfl) (by rfl) (bv z32) 30 hgB2.out X w2.heap.size (hs2.byt hr2.1.2.2) HXL.out (by decide) (by decide) w2 (But.refl _ _) ?_
  intro w3 hg3 hb3
  refine hK.out _ _ (trivial) (fun hHeld => ?_)
  clear hK K
  try simp only [Act.put, List.setIfInBounds_toArray, List.set_cons_zero, List.set_cons_succ]
  refine wpAnyH_done (by kernel_rfl) ?_ _
  have hgB3 : Hid (w3.heap[w.heap.size + 1]? = some (.cells (bv X).toArray 30 (0, 0))) := by
    have h := hg3.out
    rw [List.take_of_length_le (by rw [HXL.out]; exact Nat.le_refl _), splice_all X z32 HXL.out] at h
    exact h
  have hgA3 : Hid (w3.heap[w.heap.size]? = some (.cells (bv z32).toArray 30 (0, 0))) := (hb3.block _ (Array.getElem?_eq_some_iff.1 hgA2.out).1 (fun e => by injection e; omega)).trans hgA2.out
  have hr3 := hr2.far hb3 (.inr (by have := h0.2.2; omega))
  have hbg3 : But g w w3 := ⟨hb3.os.trans (hb2.os.trans hbgW.os), hb3.tape.trans (hb2.tape.trans hbgW.tape), hb3.output.trans (hb2.output.trans hbgW.output), Nat.le_trans hbW.size (Nat.le_trans hb2.size hb3.size), fun i hi hn => (hb3.block i (Nat.lt_of_lt_of_le hi (Nat.le_trans hbW.size hb2.size)) (fun e => by injection e; omega)).trans ((hb2.block i (Nat.lt_of_lt_of_le hi hbW.size) hn).trans (hbgW.block i hi hn))⟩
  have HXS := Lib.hid (show (bv X).toArray.size = 32 by simp [bv_len, HXL.out])
  have HZS := Lib.hid (show (bv z32).toArray.size = 32 from rfl)
  clear hg3 hgB2 hgA2 hs2 hr2 hb2 hcut hz htk hHeld hgA hgB
  go_wp2_with (first
    | (with_reducible refine wpList_load_row rfl 30 (.tmp 3) rfl (w.heap.size + 1) rfl 30 (bv X).toArray (0, 0) _ hgB3.out Try.underlying30 rfl (by rw [HXS.out]; kernel_rfl) ?_)
    | (with_reducible refine wpList_store_row rfl 30 (.tmp 2) (.tmp 8) rfl w.heap.size (bv X).toArray rfl rfl 30 _ hgA3.out (by rw [HXS.out]; kernel_rfl) (by rw [HXS.out]; exact HZS.out) (all_oneCell_toArray (bv_one _)) ?_))
  refine bodyPost_ret (v := .agg (bv X).toArray) (results_cell_row Try.results13 _ _ w.heap.size 30 _ (0, 0) _ rfl (setRow_heap _ _ _ _ _ _ hgA3.out) Try.underlying30 rfl (by rw [HXS.out]; kernel_rfl)) rfl ⟨X, rfl, HX, HXL, ?_, ?_⟩
  · exact hr3.far ((But.refl w.heap.size w3).row _) (.inr (by have := h0.2.2; omega))
  · exact ⟨hbg3.os, hbg3.tape, hbg3.output, Nat.le_trans hbg3.size (by simp [World.setRow]), fun i hi hn => ((But.refl w.heap.size w3).row (bv X).toArray).block i (Nat.lt_of_lt_of_le hi hbg3.size) (fun e => by injection e; omega) |>.trans (hbg3.block i hi hn)⟩
set_option maxRecDepth 100000 in
set_option maxHeartbeats 1000000 in
theorem rword_no (w : World) (lo hi g : Nat) (l : List UInt8) (bad : Bool) (hr : RdIs w lo hi g l bad) (hk : l.length < 32) :
    Calls Try.prog 13 #[.pointer (some ⟨g, 0, none⟩)] w fun e w' => e = .returned (.agg (bv z32).toArray) ∧ RdIs w' lo hi g [] true ∧ But g w w' := by
  have hz := zero_w
  obtain ⟨W, hW, hgA, hgB, hbW, hsW⟩ := pair_new w (bv z32).toArray (bv z32).toArray 30 30
  have HW := Lib.hid hW
  have hrW := hr.next hbW
  have hcut := fun w0 => cut_all (P := Try.prog) Try.underlying30 Try.sizeByte (w.heap.size + 1) 0 (by decide) w0
  have h0 := hr.1
  have hbgW : But g w W := But.of_below hbW (Nat.le_refl _)
  have hs1 : w.heap.size + 1 < W.heap.size := by have := hsW.out; omega
  have htk := take_no W.drew lo hi g l bad 32 hrW.drew hk
  clear hW hk hsW
  go_enter Try.func13, Try.ntmps13
  go_upto_region 2 with fail
  rw [HW.out]
  refine wp_region_held_drew (S := (fun _ => True)) (by kernel_rfl) (trivial) (fun hHeld => ?_)
  refine wpAnyH_take (i := 0) (oi := ⟨(some 4), _, _, _, _, _⟩) (v := ?vq2_0) rfl (by kernel_rfl) (by kernel_rfl) (by kernel_rfl) (fun _ _ _ h => h) (Or.inl ⟨by rfl, ?yq2_0⟩) hHeld ?_
  case yq2_0 => (intro W0 hSw; go_simp; try with_reducible rfl)
  try simp only [Act.put, List.setIfInBounds_toArray, List.set_cons_zero, List.set_cons_succ]
  refine wpAnyH_take (i := 1) (oi := ⟨(some 5), _, _, _, _, _⟩) (v := ?vq2_1) rfl (by kernel_rfl) (by kernel_rfl) (by kernel_rfl) (fun _ _ _ h => h) (Or.inl ⟨by rfl, ?yq2_1⟩) hHeld ?_
  case yq2_1 => (intro W0 hSw; go_simp; try with_reducible rfl)
  try simp only [Act.put, List.setIfInBounds_toArray, List.set_cons_zero, List.set_cons_succ]
  refine wpAnyH_ready (rs := [2]) (by kernel_rfl) (by simp) ?_
  refine AllReadyH.cons (i := 2) (o := ⟨(some 6), _, _, _, _, _⟩) rfl (fun K hK => ?_) AllReadyH.nil
  go_simp
  refine htk.mono ?_
  rintro e w2 ⟨rfl, hr2, hb2⟩
  refine hK.out _ _ (trivial) (fun hHeld => ?_)
  clear hK K
  try simp only [Act.put, List.setIfInBounds_toArray, List.set_cons_zero, List.set_cons_succ]
  have hgB2 : Hid (w2.heap[w.heap.size + 1]? = some (.cells (bv z32).toArray 30 (0, 0))) := (hb2.block _ hs1 (fun e => by injection e; omega)).trans hgB.out
  have hgA2 : Hid (w2.heap[w.heap.size]? = some (.cells (bv z32).toArray 30 (0, 0))) := (hb2.block _ (Nat.lt_of_succ_lt hs1) (fun e => by injection e; omega)).trans hgA.out
  have hcp := fun (w0 : World) (ty : TypeId) => run_copy_nil (P := Try.prog) w0 25 25 ty 5 ⟨w.heap.size + 1, 0, none⟩ 32 32 Try.underlying25 (by kernel_rfl)
  refine wpAnyH_ready (rs := [3]) (by kernel_rfl) (by simp) ?_
  refine AllReadyH.cons (i := 3) (o := ⟨(some 7), _, _, _, _, _⟩) rfl (fun K hK => ?_) AllReadyH.nil
  go_simp
  refine hK.out _ _ (trivial) (fun hHeld => ?_)
  clear hK K
  try simp only [Act.put, List.setIfInBounds_toArray, List.set_cons_zero, List.set_cons_succ]
  refine wpAnyH_done (by kernel_rfl) ?_ _
  have hr3 := hr2
  have hbg3 : But g w w2 := ⟨hb2.os.trans hbgW.os, hb2.tape.trans hbgW.tape, hb2.output.trans hbgW.output, Nat.le_trans hbW.size hb2.size, fun i hi hn => (hb2.block i (Nat.lt_of_lt_of_le hi hbW.size) hn).trans (hbgW.block i hi hn)⟩
  have HZS := Lib.hid (show (bv z32).toArray.size = 32 from rfl)
  clear hr2 hb2 hcp hcut hz htk hHeld hgA hgB
  go_wp2_with (first
    | (with_reducible refine wpList_load_row rfl 30 (.tmp 3) rfl (w.heap.size + 1) rfl 30 (bv z32).toArray (0, 0) _ hgB2.out Try.underlying30 rfl (by rw [HZS.out]; kernel_rfl) ?_)
    | (with_reducible refine wpList_store_row rfl 30 (.tmp 2) (.tmp 8) rfl w.heap.size (bv z32).toArray rfl rfl 30 _ hgA2.out (by rw [HZS.out]; kernel_rfl) rfl (all_oneCell_toArray (bv_one _)) ?_))
  refine bodyPost_ret (v := .agg (bv z32).toArray) (results_cell_row Try.results13 _ _ w.heap.size 30 _ (0, 0) _ rfl (setRow_heap _ _ _ _ _ _ hgA2.out) Try.underlying30 rfl (by rw [HZS.out]; kernel_rfl)) rfl ⟨rfl, ?_, ?_⟩
  · exact hr3.far ((But.refl w.heap.size w2).row _) (.inr (by have := h0.2.2; omega))
  · exact ⟨hbg3.os, hbg3.tape, hbg3.output, Nat.le_trans hbg3.size (by simp [World.setRow]), fun i hi hn => ((But.refl w.heap.size w2).row (bv z32).toArray).block i (Nat.lt_of_lt_of_le hi hbg3.size) (fun e => by injection e; omega) |>.trans (hbg3.block i hi hn)⟩
end Go.Proofs.Ytomnjmjgmioiaaa
