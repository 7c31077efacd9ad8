/-
  VecBack: the law's Go text returns true, whatever the numbers. Conditions: none beyond the row's own.
-/
import Derived.Test.YtkenldlhkmocjaaVcW
import Derived.Test.YtkenldlhkmocjaaVcE
namespace Go.Proofs.Ytkenldlhkmocjaa
open Go.RowKit

theorem vget_put (w : World) (lo hi g : Nat) (a : List Int) (ha : a.length = 8) (hg : vgood a = true) (hr : RdIs w lo hi g (vput a) false) :
    Calls Try.prog 10 #[.pointer (some ⟨g, 0, none⟩)] w fun e w' => e = .returned (.agg (i64v a).toArray) ∧ RdIs w' lo hi g [] false ∧ But g w w' := by
  refine (vget_any w lo hi g (vput a) false hr).mono ?_
  rintro e w' ⟨o, l', b', hv, _, rfl, hr', hb⟩
  have h := hv.out
  rw [vrd_put ha hg] at h
  simp only [Prod.mk.injEq] at h
  obtain ⟨rfl, rfl, rfl⟩ := h
  exact ⟨rfl, hr', hb⟩
theorem end_yes (w : World) (lo hi g : Nat) (hr : RdIs w lo hi g [] false) :
    Calls Try.prog 17 #[.pointer (some ⟨g, 0, none⟩)] w fun e w' => e = .returned (.bool true) ∧ w = w' := end_any w lo hi g [] false hr

set_option maxRecDepth 100000 in
set_option maxHeartbeats 2000000 in
theorem walk_VecBack (w : World) (a : List Int) (ha : a.length = 8) (hr : Hid (I64s a)) :
    Calls Try.prog 6 #[.agg (i64v a).toArray] w fun e w' => e = .returned (.bool true) ∧ Below w.heap.size w w' := by
  obtain ⟨W, hW, hgA, hbW, hsW⟩ := one_new w (i64v a).toArray 27
  have HW := Lib.hid hW
  have HA := Lib.hid ha
  clear hW ha hsW
  go_enter Try.func6, Try.ntmps6
  go_upto_region 1 with fail
  rw [HW.out]
  clear HW
  go_wp2_with fail
  refine (awake15_any W).mono ?_
  rintro e w1 ⟨rfl, hb1⟩
  have g1A := row_next2 hgA hb1
  have hbw1 := below_next hbW hbW.size hb1
  clear hgA hbW hb1
  have hgd := vgood_any w1 a HA.out
  have hput := fun w => vput_any w none [] 0 0 a (.inl rfl) rfl (Nat.le_refl _) (by decide) HA.out hr
  simp only [List.nil_append] at hput
  have HPL := Lib.hid (vput_len HA.out)
  have hgp := fun h : vgood a = true => fun w lo hi g => vget_put w lo hi g a HA.out h
  obtain ⟨p, hp⟩ : ∃ p, p = vput a := ⟨_, rfl⟩
  obtain ⟨o, ho⟩ : ∃ o, o = vgood a := ⟨_, rfl⟩
  simp only [← hp] at hput HPL hgp
  rw [← ho] at hgd
  simp only [← ho] at hgp
  clear hp ho
  go_wp2_with (with_reducible refine wpList_load_row rfl 27 (.tmp 1) rfl w.heap.size rfl 27 (i64v a).toArray (0, 0) _ (g1A).out Try.underlying27 rfl (by rw [int8_size HA.out]; kernel_rfl) ?_)
  refine hgd.mono ?_
  rintro e w2 ⟨rfl, hb2⟩
  have g2A := row_next2 g1A hb2
  have hbw2 := below_next hbw1 hbw1.size hb2
  clear hgd g1A hbw1 hb2
  cases o
  · clear hgp hput
    go_wp2
    go_ret
    exact ⟨rfl, hbw2⟩
  · have hgq := hgp rfl
    clear hgp
    go_wp2_with (with_reducible refine wpList_load_row rfl 27 (.tmp 1) rfl w.heap.size rfl 27 (i64v a).toArray (0, 0) _ (g2A).out Try.underlying27 rfl (by rw [int8_size HA.out]; kernel_rfl) ?_)
    refine (hput w2).mono ?_
    rintro e w3 ⟨A3, n3, c3, rfl, hr3, hb3⟩
    have hl3 := hr3.len
    have g3A := row_next2 g2A hb3
    have hbw3 := below_next hbw2 hbw2.size hb3
    have hrd := read_any w3 A3 p n3 c3 hr3.byt hl3 (by have := HPL.out; omega)
    clear hput g2A hbw2 hb3 hr3 hl3
    go_wp2_with fail
    refine hrd.mono ?_
    rintro e V ⟨g, rfl, hr4, hb4⟩
    have gA := row_next2 g3A hb4
    have sA := row_size g3A
    have hbV := below_next hbw3 hbw3.size hb4
    have hzV := hb4.size
    have hg4 := hr4.1.1
    have hbw3z := hbw3.size
    clear hrd g3A hbw3 hb4
    have q1 : ∀ w, (binOp .eql 27 (.agg (i64v a).toArray) (.agg (i64v a).toArray)).run Try.prog w = .ok (.bool true) w := fun w => by
      rw [eql_ints (P := Try.prog) Try.underlying27 Try.underlying2 Try.sizeI64 a a HA.out HA.out]; simp
    go_upto_region 6 with fail
    refine wp_region_held_drew (S := fun W' => Below w3.heap.size V W') (by kernel_rfl) ((Below.refl _ _).drew) (fun hHeld => ?_)
    refine wpAnyH_take (i := 0) (oi := ⟨(some 12), _, _, _, _, _⟩) (v := ?vyr6_0) rfl (by kernel_rfl) (by kernel_rfl) (by kernel_rfl) (fun _ _ _ h => h) (Or.inl ⟨by rfl, ?yr6_0⟩) hHeld ?_
    case yr6_0 => (intro W0 hSw; go_simp; try with_reducible rfl)
    try simp only [pu]
    refine wpAnyH_take (i := 1) (oi := ⟨(some 13), _, _, _, _, _⟩) (v := .bool true) rfl (by kernel_rfl) (by kernel_rfl) (by kernel_rfl) (fun _ _ _ h => h) (Or.inl ⟨by rfl, ?yr6_1⟩) hHeld ?_
    case yr6_1 => (intro W0 hSw; go_simp; try with_reducible rfl)
    try simp only [pu]
    refine wpAnyH_take (i := 2) (oi := ⟨(some 14), _, _, _, _, _⟩) (v := .bool true) rfl (by kernel_rfl) (by kernel_rfl) (by kernel_rfl) (fun _ _ _ h => h) (Or.inl ⟨by rfl, ?yr6_2⟩) hHeld ?_
    case yr6_2 => (intro W0 hSw; go_simp; try with_reducible rfl)
    try simp only [pu]
    refine wpAnyH_take (i := 3) (oi := ⟨(some 15), _, _, _, _, _⟩) (v := ?vyr6_3) rfl (by kernel_rfl) (by kernel_rfl) (by kernel_rfl) (fun _ _ _ h => h) (Or.inl ⟨by rfl, ?yr6_3⟩) hHeld ?_
    case yr6_3 => (intro W0 hSw; go_simp; try with_reducible rfl)
    try simp only [pu]
    refine wpAnyH_take (i := 5) (oi := ⟨(some 17), _, _, _, _, _⟩) (v := .agg (i64v a).toArray) rfl (by kernel_rfl) (by kernel_rfl) (by kernel_rfl) (fun _ _ _ h => h) (yieldsIf_load_mid (by rfl) _ _ rfl w.heap.size 0 rfl (i64v a) _ (fun W' hW' => range_row ((hW'.block _ sA).trans gA.out)) (Try.underlying27) rfl (by rw [i64v_len, HA.out]; kernel_rfl)) hHeld ?_
    try simp only [pu]
    refine wpAnyH_ready (rs := [4]) (by kernel_rfl) (by simp) ?_
    refine AllReadyH.cons (i := 4) (o := ⟨(some 16), _, _, _, _, _⟩) rfl (fun K hK => ?_) AllReadyH.nil
    go_simp
    refine (hgq V.drew w3.heap.size V.heap.size g hr4.drew).mono ?_
    rintro e r6W1 ⟨rfl, hr5, r6h1⟩
    refine hK.out _ _ (But.below hHeld r6h1 hg4 (Nat.le_trans hzV hHeld.size)) (fun hHeld => ?_)
    clear hK K r6h1
    try simp only [pu]
    refine wpAnyH_take (i := 6) (oi := ⟨(some 18), _, _, _, _, _⟩) (v := .bool true) rfl (by kernel_rfl) (by kernel_rfl) (by kernel_rfl) (fun _ _ _ h => h) (Or.inl ⟨by rfl, ?yr6_6⟩) hHeld ?_
    case yr6_6 => (intro W0 hSw; go_simp; try simp only [q1]; try with_reducible rfl)
    try simp only [pu]
    refine wpAnyH_take (i := 7) (oi := ⟨(some 19), _, _, _, _, _⟩) (v := .bool true) rfl (by kernel_rfl) (by kernel_rfl) (by kernel_rfl) (fun _ _ _ h => h) (Or.inl ⟨by rfl, ?yr6_7⟩) hHeld ?_
    case yr6_7 => (intro W0 hSw; go_simp; try with_reducible rfl)
    try simp only [pu]
    refine wpAnyH_take (i := 8) (oi := ⟨(some 20), _, _, _, _, _⟩) (v := .bool true) rfl (by kernel_rfl) (by kernel_rfl) (by kernel_rfl) (fun _ _ _ h => h) (Or.inl ⟨by rfl, ?yr6_8⟩) hHeld ?_
    case yr6_8 => (intro W0 hSw; go_simp; try with_reducible rfl)
    try simp only [pu]
    refine wpAnyH_take (i := 9) (oi := ⟨(some 21), _, _, _, _, _⟩) (v := ?vyr6_9) rfl (by kernel_rfl) (by kernel_rfl) (by kernel_rfl) (fun _ _ _ h => h) (Or.inl ⟨by rfl, ?yr6_9⟩) hHeld ?_
    case yr6_9 => (intro W0 hSw; go_simp; try with_reducible rfl)
    try simp only [pu]
    refine wpAnyH_ready (rs := [10]) (by kernel_rfl) (by simp) ?_
    refine AllReadyH.cons (i := 10) (o := ⟨(some 22), _, _, _, _, _⟩) rfl (fun K hK => ?_) AllReadyH.nil
    go_simp
    refine (end_yes _ _ _ g hr5).mono ?_
    rintro e r6W2 ⟨rfl, r6h2⟩
    refine hK.out _ _ (r6h2 ▸ hHeld) (fun hHeld => ?_)
    clear hK K r6h2
    try simp only [pu]
    refine wpAnyH_take (i := 11) (oi := ⟨(some 23), _, _, _, _, _⟩) (v := .bool true) rfl (by kernel_rfl) (by kernel_rfl) (by kernel_rfl) (fun _ _ _ h => h) (Or.inl ⟨by rfl, ?yr6_11⟩) hHeld ?_
    case yr6_11 => (intro W0 hSw; go_simp; try with_reducible rfl)
    try simp only [pu]
    refine wpAnyH_take (i := 12) (oi := ⟨(some 2), _, _, _, _, _⟩) (v := .bool true) rfl (by kernel_rfl) (by kernel_rfl) (by kernel_rfl) (fun _ _ _ h => h) (Or.inl ⟨by rfl, ?yr6_12⟩) hHeld ?_
    case yr6_12 => (intro W0 hSw; go_simp; try with_reducible rfl)
    try simp only [pu]
    refine wpAnyH_done (by kernel_rfl) ?_ _
    go_wp2
    go_ret
    exact ⟨rfl, hbV.trans (hHeld.mono hbw3z)⟩
end Go.Proofs.Ytkenldlhkmocjaa
