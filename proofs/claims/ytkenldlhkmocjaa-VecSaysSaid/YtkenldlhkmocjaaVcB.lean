/-
  Contracts of vec's Le and Cmp. Conditions: arrays of eight numbers.
-/
import Derived.Test.YtkenldlhkmocjaaVcA
import Derived.Test.YtkenldlhkmocjaaMix
import Derived.Test.YtkenldlhkmocjaaRng
namespace Go.Proofs.Ytkenldlhkmocjaa
open Go.RowKit

set_option maxRecDepth 100000 in
theorem vle_any (w : World) (a b : List Int) (ha : a.length = 8) (hb : b.length = 8) :
    Calls Try.prog 23 #[.agg (i64v a).toArray, .agg (i64v b).toArray] w fun e w' => e = .returned (.bool (vle a b)) ∧ Below w.heap.size w w' := by
  obtain ⟨W, hW, hgA, hgB, hbW, hsW⟩ := pair_new w (i64v a).toArray (i64v b).toArray 27 27
  have HW := Lib.hid hW
  have HA := Lib.hid ha
  have HB := Lib.hid hb
  have hs : w.heap.size + 1 < W.heap.size := by have := hsW.out; omega
  have hs0 : w.heap.size < W.heap.size := by omega
  have heq := eql_ints (P := Try.prog) Try.underlying27 Try.underlying2 Try.sizeI64 (vmx a b) b (vmx_len ha hb) hb
  rw [show decide (vmx a b = b) = vle a b from rfl] at heq
  clear hW ha hb hsW
  go_enter Try.func23, Try.ntmps23
  go_upto_region 1 with fail
  rw [HW.out]
  clear HW
  refine wp_region_held_drew (S := fun W' => Below W.heap.size W W') (by kernel_rfl) ((Below.refl _ _).drew) (fun hHeld => ?_)
  refine wpAnyH_take (i := 0) (oi := ⟨(some 5), _, _, _, _, _⟩) (v := .agg (i64v a).toArray) rfl (by kernel_rfl) (by kernel_rfl) (by kernel_rfl) (fun _ _ _ h => h) (yieldsIf_load_mid (by rfl) _ _ rfl w.heap.size 0 rfl (i64v a) _ (fun W' hW' => range_row ((hW'.block _ hs0).trans hgA.out)) (Try.underlying27) rfl (by rw [i64v_len, HA.out]; kernel_rfl)) hHeld ?_
  try simp only [pu]
  refine wpAnyH_take (i := 1) (oi := ⟨(some 6), _, _, _, _, _⟩) (v := .agg (i64v b).toArray) rfl (by kernel_rfl) (by kernel_rfl) (by kernel_rfl) (fun _ _ _ h => h) (yieldsIf_load_mid (by rfl) _ _ rfl (w.heap.size + 1) 0 rfl (i64v b) _ (fun W' hW' => range_row ((hW'.block _ hs).trans hgB.out)) (Try.underlying27) rfl (by rw [i64v_len, HB.out]; kernel_rfl)) hHeld ?_
  try simp only [pu]
  refine wpAnyH_take (i := 3) (oi := ⟨(some 8), _, _, _, _, _⟩) (v := .agg (i64v b).toArray) rfl (by kernel_rfl) (by kernel_rfl) (by kernel_rfl) (fun _ _ _ h => h) (yieldsIf_load_mid (by rfl) _ _ rfl (w.heap.size + 1) 0 rfl (i64v b) _ (fun W' hW' => range_row ((hW'.block _ hs).trans hgB.out)) (Try.underlying27) rfl (by rw [i64v_len, HB.out]; kernel_rfl)) hHeld ?_
  try simp only [pu]
  refine wpAnyH_ready (rs := [2]) (by kernel_rfl) (by simp) ?_
  refine AllReadyH.cons (i := 2) (o := ⟨(some 7), _, _, _, _, _⟩) rfl (fun K hK => ?_) AllReadyH.nil
  go_simp
  refine (vmerge_any _ a b HA.out HB.out).mono ?_
  rintro e r1W1 ⟨rfl, r1h1⟩
  refine hK.out _ _ (below_next hHeld hHeld.size r1h1) (fun hHeld => ?_)
  clear hK K r1h1
  try simp only [pu]
  refine wpAnyH_take (i := 4) (oi := ⟨(some 9), _, _, _, _, _⟩) (v := .bool (vle a b)) rfl (by kernel_rfl) (by kernel_rfl) (by kernel_rfl) (fun _ _ _ h => h) (Or.inl ⟨by rfl, ?yr1_4⟩) hHeld ?_
  case yr1_4 => (intro W0 hSw; go_simp; try simp only [heq]; try with_reducible rfl)
  try simp only [pu]
  refine wpAnyH_take (i := 5) (oi := ⟨(some 4), _, _, _, _, _⟩) (v := .bool (vle a b)) rfl (by kernel_rfl) (by kernel_rfl) (by kernel_rfl) (fun _ _ _ h => h) (Or.inl ⟨by rfl, ?yr1_5⟩) hHeld ?_
  case yr1_5 => (intro W0 hSw; go_simp; try with_reducible rfl)
  try simp only [pu]
  refine wpAnyH_done (by kernel_rfl) ?_ _
  go_wp2
  go_ret
  exact ⟨rfl, below_next hbW hbW.size hHeld⟩
set_option maxRecDepth 100000 in
theorem vcmp_any (w : World) (a b : List Int) (ha : a.length = 8) (hb : b.length = 8) :
    Calls Try.prog 25 #[.agg (i64v a).toArray, .agg (i64v b).toArray] w fun e w' => e = .returned (.int .i64 (vcmp a b)) ∧ Below w.heap.size w w' := by
  obtain ⟨W, hW, hgA, hgB, hbW, hsW⟩ := pair_new w (i64v a).toArray (i64v b).toArray 27 27
  have HW := Lib.hid hW
  have HA := Lib.hid ha
  have HB := Lib.hid hb
  have hs : w.heap.size + 1 < W.heap.size := by have := hsW.out; omega
  have hs0 : w.heap.size < W.heap.size := by omega
  have heq := eql_ints (P := Try.prog) Try.underlying27 Try.underlying2 Try.sizeI64 a b ha hb
  obtain ⟨o, ho⟩ : ∃ o, o = decide (a = b) := ⟨_, rfl⟩
  rw [← ho] at heq
  obtain ⟨p, hp⟩ : ∃ p, p = vle a b := ⟨_, rfl⟩
  obtain ⟨q, hq⟩ : ∃ q, q = vle b a := ⟨_, rfl⟩
  have HV := vlt (show vcmp a b = if o = true then 0 else if p = true then -1 else if q = true then 1 else 2 by
    rw [ho, hp, hq, vcmp]; simp only [decide_eq_true_eq])
  generalize vcmp a b = v at HV
  have hle1 := fun w => vle_any w a b ha hb
  have hle2 := fun w => vle_any w b a hb ha
  rw [← hp] at hle1
  rw [← hq] at hle2
  clear ho hp hq
  clear hW ha hb hsW
  go_enter Try.func25, Try.ntmps25
  go_upto_region 1 with fail
  rw [HW.out]
  clear HW
  cases o
  · go_wp2_with (first | (with_reducible refine wpList_load_row rfl 27 (.tmp 2) rfl w.heap.size rfl 27 (i64v a).toArray (0, 0) _ (hgA).out Try.underlying27 rfl (by rw [int8_size HA.out]; kernel_rfl) ?_) | (with_reducible refine wpList_load_row rfl 27 (.tmp 3) rfl (w.heap.size + 1) rfl 27 (i64v b).toArray (0, 0) _ (hgB).out Try.underlying27 rfl (by rw [int8_size HB.out]; kernel_rfl) ?_))
    refine (hle1 W).mono ?_
    rintro e w1 ⟨rfl, hb1⟩
    have hgA1 := row_next2 hgA hb1
    have hgB1 := row_next2 hgB hb1
    have hbw1 := below_next hbW hbW.size hb1
    clear hle1 hgA hgB heq
    cases p
    · go_wp2_with (first | (with_reducible refine wpList_load_row rfl 27 (.tmp 2) rfl w.heap.size rfl 27 (i64v a).toArray (0, 0) _ (hgA1).out Try.underlying27 rfl (by rw [int8_size HA.out]; kernel_rfl) ?_) | (with_reducible refine wpList_load_row rfl 27 (.tmp 3) rfl (w.heap.size + 1) rfl 27 (i64v b).toArray (0, 0) _ (hgB1).out Try.underlying27 rfl (by rw [int8_size HB.out]; kernel_rfl) ?_))
      refine (hle2 w1).mono ?_
      rintro e w2 ⟨rfl, hb2⟩
      have hbw2 := below_next hbw1 hbw1.size hb2
      clear hle2 hgA1 hgB1
      cases q
      · have HV2 := vlt (show v = 2 from HV.out)
        clear HV
        go_wp2
        go_ret
        exact ⟨by rw [HV2.out]; rfl, hbw2⟩
      · have HV2 := vlt (show v = 1 from HV.out)
        clear HV
        go_wp2
        go_ret
        exact ⟨by rw [HV2.out]; rfl, hbw2⟩
    · have HV2 := vlt (show v = -1 from HV.out)
      clear HV hle2
      go_wp2
      go_ret
      exact ⟨by rw [HV2.out]; rfl, hbw1⟩
  · have HV2 := vlt (show v = 0 from HV.out)
    clear HV hle1 hle2
    go_wp2_with (first | (with_reducible refine wpList_load_row rfl 27 (.tmp 2) rfl w.heap.size rfl 27 (i64v a).toArray (0, 0) _ (hgA).out Try.underlying27 rfl (by rw [int8_size HA.out]; kernel_rfl) ?_) | (with_reducible refine wpList_load_row rfl 27 (.tmp 3) rfl (w.heap.size + 1) rfl 27 (i64v b).toArray (0, 0) _ (hgB).out Try.underlying27 rfl (by rw [int8_size HB.out]; kernel_rfl) ?_))
    go_ret
    exact ⟨by rw [HV2.out]; rfl, hbW⟩
end Go.Proofs.Ytkenldlhkmocjaa
