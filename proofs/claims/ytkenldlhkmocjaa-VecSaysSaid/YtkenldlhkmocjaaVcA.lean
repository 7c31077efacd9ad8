/-
  Contracts of vec's Good, Merge, Le, Cmp, Sum, Has. Conditions: arrays of eight numbers.
-/
import Derived.Test.YtkenldlhkmocjaaVcM
namespace Go.Proofs.Ytkenldlhkmocjaa
open Go.RowKit

theorem good_no {a : List Int} {m : Int} (h : m ∈ a) (h0 : ¬ 0 ≤ m) : vgood a = false := by
  rw [vgood, decide_eq_false_iff_not]
  exact fun hh => h0 (hh m h).1
theorem good_of {a : List Int} {m x : Int} (h1 : m ∈ a ∧ ∀ y ∈ a, m ≤ y) (h2 : x ∈ a ∧ ∀ y ∈ a, y ≤ x) (h0 : 0 ≤ m) : decide (x ≤ 1099511627776) = vgood a := by
  rw [vgood]
  apply decide_eq_decide.2
  constructor
  · intro h y hy
    have := h1.2 y hy
    have := h2.2 y hy
    omega
  · intro h
    exact (h x h2.1).2
set_option maxRecDepth 100000 in
theorem vgood_any (w : World) (a : List Int) (ha : a.length = 8) :
    Calls Try.prog 11 #[.agg (i64v a).toArray] w fun e w' => e = .returned (.bool (vgood a)) ∧ Below w.heap.size w w' := by
  obtain ⟨W, hW, hgW, hbW, hsW⟩ := one_new w (i64v a).toArray 27
  have HW := Lib.hid hW
  have hmn := smin_any W w.heap.size _ a hgW ha
  have hmx := smax_any W w.heap.size _ a hgW ha
  have hcut := cut_all (P := Try.prog) Try.underlying27 Try.sizeByte w.heap.size 0 (by decide)
  obtain ⟨o, ho⟩ : ∃ o, o = vgood a := ⟨_, rfl⟩
  have HO := vlt ho
  rw [← ho]
  clear hW ha ho
  go_enter Try.func11, Try.ntmps11
  go_upto_region 1 with fail
  rw [HW.out]
  go_wp2_with fail
  refine hmn.mono ?_
  rintro e w1 ⟨m, rfl, HM, rfl⟩
  clear hmn
  by_cases h0 : 0 ≤ m
  · go_wp2_with fail
    refine hmx.mono ?_
    rintro e w2 ⟨x, rfl, HX, rfl⟩
    have HG := Lib.hid ((good_of HM.out HX.out h0).trans HO.out.symm)
    clear hmx
    go_wp2
    go_ret
    exact ⟨ret_bool HG.out, hbW⟩
  · have HG := Lib.hid (HO.out.trans (good_no HM.out.1 h0))
    clear hmx
    go_wp2
    go_ret
    exact ⟨ret_bool HG.out.symm, hbW⟩
/-- Merged below k, noughts from there on. -/
structure Mrg (o a b : List Int) (i : Nat) : Prop where
  len : o.length = 8
  val : ∀ j, j < i → iat o j = iat (vmx a b) j
theorem Mrg.step {o a b : List Int} {i : Nat} (h : Mrg o a b i) (hi : i < 8) (x : Int) (hx : x = iat (vmx a b) i) : Mrg (o.set i x) a b (i + 1) :=
  ⟨by rw [List.length_set, h.len], fun j hj => by
    by_cases hji : j = i
    · subst hji; rw [iat_set_same _ _ _ (by rw [h.len]; exact hi), hx]
    · rw [iat_set_other _ _ _ _ (fun e => hji e.symm)]; exact h.val j (by omega)⟩
theorem Mrg.all {o a b : List Int} (h : Mrg o a b 8) (ha : a.length = 8) (hb : b.length = 8) : o = vmx a b :=
  list_iat (by rw [h.len, vmx_len ha hb]) fun k hk => h.val k (by rw [h.len] at hk; exact hk)
def z8 : List Int := List.replicate 8 0
theorem zero_vec (w : World) : (zeroValue 27).run Try.prog w = .ok (.agg (i64v z8).toArray) w := by kernel_rfl
theorem int8_size {l : List Int} (h : l.length = 8) : (i64v l).toArray.size = 8 := by simp [i64v_len, h]

set_option maxRecDepth 100000 in
set_option maxHeartbeats 1000000 in
theorem vmerge_any (w : World) (a b : List Int) (ha : a.length = 8) (hb : b.length = 8) :
    Calls Try.prog 21 #[.agg (i64v a).toArray, .agg (i64v b).toArray] w fun e w' => e = .returned (.agg (i64v (vmx a b)).toArray) ∧ Below w.heap.size w w' := by
  have hzf := zero_vec
  obtain ⟨W, hW, hgA, hgB, hgZ, hbW, hsW⟩ := three_new w (i64v a).toArray (i64v b).toArray (i64v z8).toArray 27 27 27
  have HW := Lib.hid hW
  have HA := Lib.hid ha
  have HB := Lib.hid hb
  have hs : w.heap.size + 2 < W.heap.size := by have := hsW.out; omega
  obtain ⟨m, hm⟩ : ∃ m, m = vmx a b := ⟨_, rfl⟩
  have HM := vlt hm
  rw [← hm]
  clear hW ha hb hsW hm
  go_enter Try.func21, Try.ntmps21
  go_upto_region 1 with fail
  rw [HW.out]
  go_upto_region 2 with fail
  obtain ⟨V, hV⟩ : ∃ V, V = W.alloc (.cells (i64v z8).toArray 27) := ⟨_, rfl⟩
  rw [← hV]
  have gA : Hid (V.heap[w.heap.size]? = some (.cells (i64v a).toArray 27 (0, 0))) := by rw [hV]; exact (Below.heap_alloc _ _ _ (by omega)).trans hgA.out
  have gB : Hid (V.heap[w.heap.size + 1]? = some (.cells (i64v b).toArray 27 (0, 0))) := by rw [hV]; exact (Below.heap_alloc _ _ _ (by omega)).trans hgB.out
  have gZ : Hid (V.heap[w.heap.size + 2]? = some (.cells (i64v z8).toArray 27 (0, 0))) := by rw [hV]; exact (Below.heap_alloc _ _ _ (by omega)).trans hgZ.out
  have gO : Hid (V.heap[W.heap.size]? = some (.cells (i64v z8).toArray 27 (0, 0))) := by rw [hV]; exact heap_alloc_new _ _
  have hbV : Below w.heap.size w V := by rw [hV]; exact hbW.alloc hbW.size _
  obtain ⟨R, hR⟩ : ∃ R, R = W.heap.size := ⟨_, rfl⟩
  rw [← hR] at gO hs ⊢
  clear hV hR hgA hgB hgZ HW
  have hsV : R < V.heap.size := (Array.getElem?_eq_some_iff.1 gO.out).1
  go_wp2_with fail
  go_loopw [7] (fun s wr => ∃ (i : Nat) (o : List Int), i ≤ 8 ∧ s = .int .i64 (i : Int) ∧ Hid (wr.heap[R]? = some (.cells (i64v o).toArray 27 (0, 0))) ∧ Vlt (Mrg o a b i) ∧ But R V wr) (fun s _ => 8 - (intOf s).toNat)
  case atStart => exact ⟨0, z8, by omega, rfl, gO, vlt ⟨rfl, fun j hj => absurd hj (Nat.not_lt_zero _)⟩, But.refl _ _⟩
  case round =>
    obtain ⟨i, o, hi, rfl, hg, hF, hbt⟩ := hrel
    by_cases hlt : i < 8
    · have hgA := row_but gA hbt (by omega)
      have hgB := row_but gB hbt (by omega)
      have c0 := int_at hgA.out i (by rw [HA.out]; exact hlt)
      have c1 := int_at hgB.out i (by rw [HB.out]; exact hlt)
      have f0 : wr.frozen? ⟨R, i, none⟩ = false := frozen_of_row _ _ _ _ _ hg.out
      have u0 := int_at hg.out i (by rw [hF.out.len]; exact hlt)
      have hs2 := world_set_cell hg.out i (.int .i64 (if iat a i < iat b i then iat b i else iat a i))
      rw [i64v_set] at hs2
      have hb2 := hbt.set (i := i) (.int .i64 (if iat a i < iat b i then iat b i else iat a i))
      have hF2 := vlt (hF.out.step hlt (if iat a i < iat b i then iat b i else iat a i) (by
        rw [vmx_at (by rw [HA.out]; exact hlt) (by rw [HB.out]; exact hlt)]
        split <;> omega))
      generalize iat o i = oi at u0
      generalize iat a i = x at c0 hs2 hb2 hF2
      generalize iat b i = y at c1 hs2 hb2 hF2
      go_wp2_with fail
      go_region
      go_wp2
      go_roundw
      case rel => exact ⟨i + 1, _, by omega, by go_num, hs2, hF2, hb2.drew⟩
      case measure => simp [intOf]; omega
    · obtain rfl : i = 8 := by omega
      have HE := vlt ((hF.out.all HA.out HB.out).trans HM.out.symm)
      have hsz := Lib.hid (int8_size hF.out.len)
      have hz := row_but gZ hbt (by omega)
      have hbw : Below w.heap.size w wr := But.below hbV hbt (by omega) hbV.size
      go_wp2_with (first
        | (with_reducible refine wpList_load_row rfl 27 (.tmp 5) rfl R rfl 27 (i64v o).toArray (0, 0) _ hg.out Try.underlying27 rfl (by rw [hsz.out]; kernel_rfl) ?_)
        | (with_reducible refine wpList_store_row rfl 27 (.tmp 4) (.tmp 20) rfl (w.heap.size + 2) (i64v o).toArray rfl rfl 27 _ hz.out (by rw [hsz.out]; kernel_rfl) (by rw [hsz.out]; kernel_rfl) (all_oneCell_toArray (i64v_one _)) ?_))
      refine bodyPost_ret (v := .agg (i64v o).toArray) (results_cell_row Try.results21 _ _ (w.heap.size + 2) 27 _ (0, 0) _ rfl (setRow_heap _ _ _ _ _ _ hz.out) Try.underlying27 rfl (by rw [hsz.out]; kernel_rfl)) rfl ⟨by rw [HE.out], below_setRow hbw (by omega) _⟩
end Go.Proofs.Ytkenldlhkmocjaa
