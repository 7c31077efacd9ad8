/-
  Contract of field's Root: the even root, or none. Conditions: the package's own number lies as the program's text lays it.
-/
import Derived.Test.YtpnodegmegpooaaDoorFdE
namespace Go.Proofs.YtpnodegmegpooaaDoor
open Go.RowKit

/-- The package's own number; a number's first root. -/
def turnL : List Nat := [14190309331451158704, 3405592160176694392, 3120150775007532967, 3135389899092516619]
def TRN : Nat := 19681161376707505956807079304988542015446066515923890162744021073123829784752
def E8 : Nat := 7237005577332262213973186563042994240829374041602535252466099000494570602494
theorem trn_n4 : n4 14190309331451158704 3405592160176694392 3120150775007532967 3135389899092516619 = TRN := by decide
theorem e8_n4 : n4 18446744073709551614 18446744073709551615 18446744073709551615 1152921504606846975 = E8 := by decide
def Laid (w : World) : Prop := (∀ k x : Nat, turnL[k]? = some x → w.cell? ⟨0, k, none⟩ = some (.int .u64 (x : Int))) ∧ 1 ≤ w.heap.size
theorem Laid.below {w w' : World} {B : Nat} (h : Laid w) (hB : 1 ≤ B) (hb : Below B w w') : Laid w' :=
  ⟨fun k x hx => (World.cell?_of_block (hb.block 0 (by omega))).trans (h.1 k x hx), Nat.le_trans h.2 hb.size⟩
theorem Laid.range {w : World} (h : Laid w) : w.rangeAt 0 0 (u64v turnL) := by
  intro j v hj
  rw [u64v_at] at hj
  obtain ⟨x, hx, rfl⟩ := Option.map_eq_some_iff.1 hj
  rw [Nat.zero_add]
  exact h.1 j x hx
/-- The root, as the chapter has it. -/
def rootOf (x : Nat) : List UInt8 × Bool :=
  if x ^ E8 * x ^ E8 % FP = x % FP then (evenW (x ^ E8), true)
  else if (x ^ E8 * TRN) * (x ^ E8 * TRN) % FP = x % FP then (evenW (x ^ E8 * TRN), true) else (z32, false)
theorem evenW_of {r s : Nat} (h : r % FP = s % FP) : evenW r = evenW s := by
  have h2 : subF 0 r = subF 0 s := by rw [subF, subF, h]
  rw [evenW, evenW, h, h2, wo_of h]
theorem sq_of {r s : Nat} (h : r % FP = s % FP) : r * r % FP = s * s % FP := by rw [Nat.mul_mod, h, ← Nat.mul_mod]
theorem root_first {x A C : Nat} (hx : A = x) (h2 : C % FP = A ^ n4 18446744073709551614 18446744073709551615 18446744073709551615 1152921504606846975 % FP) (hq : C * C % FP = A % FP) : rootOf x = (evenW C, true) := by
  subst hx
  rw [e8_n4] at h2
  rw [rootOf, if_pos (by rw [← sq_of h2]; exact hq), evenW_of h2]
theorem mul_of {r s t : Nat} (h : r % FP = s % FP) : r * t % FP = s * t % FP := by rw [Nat.mul_mod, h, ← Nat.mul_mod]
theorem root_second {x A C F : Nat} (hx : A = x) (h2 : C % FP = A ^ n4 18446744073709551614 18446744073709551615 18446744073709551615 1152921504606846975 % FP)
    (h3 : F % FP = C * n4 14190309331451158704 3405592160176694392 3120150775007532967 3135389899092516619 % FP) (hq : ¬ C * C % FP = A % FP) (hq2 : F * F % FP = A % FP) : rootOf x = (evenW F, true) := by
  subst hx
  rw [e8_n4] at h2
  rw [trn_n4, mul_of h2] at h3
  rw [rootOf, if_neg (by rw [← sq_of h2]; exact hq), if_pos (by rw [← sq_of h3]; exact hq2), evenW_of h3]
theorem root_none {x A C F : Nat} (hx : A = x) (h2 : C % FP = A ^ n4 18446744073709551614 18446744073709551615 18446744073709551615 1152921504606846975 % FP)
    (h3 : F % FP = C * n4 14190309331451158704 3405592160176694392 3120150775007532967 3135389899092516619 % FP) (hq : ¬ C * C % FP = A % FP) (hq2 : ¬ F * F % FP = A % FP) : rootOf x = (z32, false) := by
  subst hx
  rw [e8_n4] at h2
  rw [trn_n4, mul_of h2] at h3
  rw [rootOf, if_neg (by rw [← sq_of h2]; exact hq), if_neg (by rw [← sq_of h3]; exact hq2)]
theorem wo_iff (N M : Nat) : le (N % FP) 32 = le (M % FP) 32 ↔ N % FP = M % FP := ⟨fun h => wo_inj h, fun h => wo_of h⟩

set_option maxRecDepth 100000 in
set_option maxHeartbeats 4000000 in
theorem root_any (w : World) (hla : Laid w) (a : List UInt8) (ha : a.length = 32) :
    Calls Tryd.prog 7 #[.agg (bv a).toArray] w fun e w' => ∃ l ok, e = .returned (.tuple #[.agg (bv l).toArray, .bool ok]) ∧ Vlt ((l, ok) = rootOf (ln a)) ∧ Hid (l.length = 32) ∧ Below w.heap.size w w' := by
  have hzw := zero_word
  have hzn := zero_n4
  obtain ⟨W, hW, hgA, hgZ, hbW, hsW⟩ := pair_new w (bv a).toArray (bv z32).toArray 24 24
  have HW := Lib.hid hW
  have HA := Lib.hid ha
  have HS := Lib.hid (bv_size a ha)
  have hlaW := hla.below hla.2 hbW
  have hs1 : w.heap.size + 1 < W.heap.size := by have := hsW.out; omega
  clear hW ha hsW
  go_enter Tryd.func7, Tryd.ntmps7
  go_upto_region 1 with fail
  rw [HW.out]
  go_wp2_with (with_reducible refine wpList_load_row rfl 24 (.tmp 1) rfl w.heap.size rfl 24 (bv a).toArray (0, 0) _ hgA.out Tryd.underlying24 rfl (by rw [HS.out]; kernel_rfl) ?_)
  refine (numberOf_any W a HA.out).mono ?_
  rintro e Y ⟨a0, a1, a2, a3, rfl, eA, ⟨la0, la1, la2, la3⟩, hbY⟩
  have hbw1 := below_next hbW hbW.size hbY
  have hgZ1 := Lib.hid ((hbY.block _ hs1).trans hgZ.out)
  have hlaY := hlaW.below hlaW.2 hbY
  have hs2 : w.heap.size + 1 < Y.heap.size := (Array.getElem?_eq_some_iff.1 hgZ1.out).1
  clear hgA hgZ hlaW
  go_upto_region 2 with ((with_reducible refine wpList_store_row rfl 35 (.tmp 4) (.tmp 7) rfl Y.heap.size (u64v [a0, a1, a2, a3]).toArray rfl rfl 35 _ (heap_alloc_new _ _) (by kernel_rfl) (by kernel_rfl) (all_oneCell_toArray (u64v_one _)) ?_); rw [World.setRow_alloc_new])
  obtain ⟨V, hV⟩ : ∃ V, V = Y.alloc (.cells (u64v [a0, a1, a2, a3]).toArray 35) := ⟨_, rfl⟩
  rw [← hV]
  have hgZV : Hid (V.heap[w.heap.size + 1]? = some (.cells (bv z32).toArray 24 (0, 0))) := by rw [hV]; exact (Below.heap_alloc _ _ _ hs2).trans hgZ1.out
  have hgAV : Hid (V.heap[Y.heap.size]? = some (.cells (u64v [a0, a1, a2, a3]).toArray 35 (0, 0))) := by rw [hV]; exact heap_alloc_new _ _
  have hbV : Below w.heap.size w V := by rw [hV]; exact hbw1.alloc hbw1.size _
  have hlaV : Laid V := by rw [hV]; exact hlaY.below hlaY.2 ((Below.refl _ _).alloc (Nat.le_refl _) _)
  obtain ⟨G, hG⟩ : ∃ G, G = Y.heap.size := ⟨_, rfl⟩
  rw [← hG] at hgAV hs2 ⊢
  clear hV hG hgZ1 hbw1 hlaY
  have sAV : G < V.heap.size := (Array.getElem?_eq_some_iff.1 hgAV.out).1
  have sZV : w.heap.size + 1 < V.heap.size := (Array.getElem?_eq_some_iff.1 hgZV.out).1
  have HX := vlt eA.out
  clear eA
  refine wp_region_held_drew (S := (fun W' => Below V.heap.size V W')) (by kernel_rfl) ((Below.refl _ _).drew) (fun hHeld => ?_)
  refine wpAnyH_take (i := 0) (oi := ⟨(some 8), _, _, _, _, _⟩) (v := _) rfl (by kernel_rfl) (by kernel_rfl) (by kernel_rfl) (fun _ _ _ h => h) (yieldsIf_load_mid (by rfl) _ _ rfl G 0 rfl (u64v [a0, a1, a2, a3]) _ (fun W' hW' => range_row ((hW'.block _ sAV).trans hgAV.out)) (Tryd.underlying35) (rfl) (by kernel_rfl)) hHeld ?_
  try simp only [Act.put, List.setIfInBounds_toArray, List.set_cons_zero, List.set_cons_succ]
  refine wpAnyH_ready (rs := [1, 3]) (by kernel_rfl) (by simp) ?_
  refine AllReadyH.cons (i := 1) (o := ⟨(some 9), _, _, _, _, _⟩) rfl (fun K hK => ?_) (AllReadyH.cons (i := 3) (o := ⟨(some 5), _, _, _, _, _⟩) rfl (fun K hK => ?_) AllReadyH.nil)
  · go_simp
    refine (beneath_252 _).mono ?_
    rintro e W1 ⟨rfl, g1⟩
    have hB1 := below_next hHeld hHeld.size g1
    refine hK.out _ _ (hB1) (fun hHeld => ?_)
    clear hK K
    try simp only [Act.put, List.setIfInBounds_toArray, List.set_cons_zero, List.set_cons_succ]
    refine wpAnyH_ready (rs := [2, 3]) (by kernel_rfl) (by simp) ?_
    refine AllReadyH.cons (i := 2) (o := ⟨(some 10), _, _, _, _, _⟩) rfl (fun K hK => ?_) (AllReadyH.cons (i := 3) (o := ⟨(some 5), _, _, _, _, _⟩) rfl (fun K hK => ?_) AllReadyH.nil)
    · go_simp
      refine (power_any _ a0 a1 a2 a3 18446744073709551614 18446744073709551615 18446744073709551615 1152921504606846975 la0 la1 la2 la3 (by decide) (by decide) (by decide) (by decide)).mono ?_
      rintro e W2 ⟨c0, c1, c2, c3, rfl, e2, l4, g2⟩
      have hB2 := below_next hHeld hHeld.size g2
      refine hK.out _ _ (hB2) (fun hHeld => ?_)
      clear hK K
      try simp only [Act.put, List.setIfInBounds_toArray, List.set_cons_zero, List.set_cons_succ]
      refine wpAnyH_ready (rs := [3]) (by kernel_rfl) (by simp) ?_
      refine AllReadyH.cons (i := 3) (o := ⟨(some 5), _, _, _, _, _⟩) rfl (fun K hK => ?_) AllReadyH.nil
      refine step_new (by rfl) rfl ?_
      intro P3 W3 hP3 z3 g3 l3
      have lP3 : V.heap.size ≤ P3 := by have := hHeld.size; have := hP3.out; omega
      have hB3 := below_next hHeld hHeld.size g3
      refine hK.out _ _ (hB3) (fun hHeld => ?_)
      clear hK K
      try simp only [Act.put, List.setIfInBounds_toArray, List.set_cons_zero, List.set_cons_succ]
      refine wpAnyH_ready (rs := [4]) (by kernel_rfl) (by simp) ?_
      refine AllReadyH.cons (i := 4) (o := ⟨none, _, _, _, _, _⟩) rfl (fun K hK => ?_) AllReadyH.nil
      refine step_store_row rfl 35 (.tmp 5) (.tmp 10) rfl P3 (u64v [c0, c1, c2, c3]).toArray rfl rfl 35 _ (z3).out (by kernel_rfl) (by kernel_rfl) (all_oneCell_toArray (u64v_one _)) ?_
      have xR4 : Hid ((W3.setRow P3 (u64v [c0, c1, c2, c3]).toArray).heap[P3]? = some (.cells (u64v [c0, c1, c2, c3]).toArray 35 (0, 0))) := setRow_heap _ _ _ _ _ _ (z3).out
      have hB4 := below_setRow hHeld lP3 (u64v [c0, c1, c2, c3]).toArray
      generalize W3.setRow P3 (u64v [c0, c1, c2, c3]).toArray = W4 at *
      refine hK.out _ _ (hB4) (fun hHeld => ?_)
      clear hK K
      try simp only [Act.put]
      refine wpAnyH_done (by kernel_rfl) ?_ _
      have hb4 := hHeld
      have xA4 := Lib.hid ((hHeld.block _ sAV).trans hgAV.out)
      have xZ4 := Lib.hid ((hHeld.block _ sZV).trans hgZV.out)
      have hbW4 := below_next hbV hbV.size hHeld
      have hla4 := hlaV.below (by have := hlaV.2; omega) hHeld
      have sR4 : P3 < W4.heap.size := (Array.getElem?_eq_some_iff.1 xR4.out).1
      have sA4 : G < W4.heap.size := (Array.getElem?_eq_some_iff.1 xA4.out).1
      have sZ4 : w.heap.size + 1 < W4.heap.size := (Array.getElem?_eq_some_iff.1 xZ4.out).1
      clear hHeld hb4
      go_upto_region 3 with fail
      have hbT := hbW4
      refine wp_region_held_drew (S := (fun W' => Below W4.heap.size W4 W')) (by kernel_rfl) ((Below.refl _ _).drew) (fun hHeld => ?_)
      refine wpAnyH_take (i := 0) (oi := ⟨(some 11), _, _, _, _, _⟩) (v := _) rfl (by kernel_rfl) (by kernel_rfl) (by kernel_rfl) (fun _ _ _ h => h) (yieldsIf_load_mid (by rfl) _ _ rfl P3 0 rfl (u64v [c0, c1, c2, c3]) _ (fun W' hW' => range_row ((hW'.block _ sR4).trans xR4.out)) (Tryd.underlying35) (rfl) (by kernel_rfl)) hHeld ?_
      try simp only [Act.put, List.setIfInBounds_toArray, List.set_cons_zero, List.set_cons_succ]
      refine wpAnyH_take (i := 1) (oi := ⟨(some 12), _, _, _, _, _⟩) (v := _) rfl (by kernel_rfl) (by kernel_rfl) (by kernel_rfl) (fun _ _ _ h => h) (yieldsIf_load_mid (by rfl) _ _ rfl P3 0 rfl (u64v [c0, c1, c2, c3]) _ (fun W' hW' => range_row ((hW'.block _ sR4).trans xR4.out)) (Tryd.underlying35) (rfl) (by kernel_rfl)) hHeld ?_
      try simp only [Act.put, List.setIfInBounds_toArray, List.set_cons_zero, List.set_cons_succ]
      refine wpAnyH_take (i := 4) (oi := ⟨(some 15), _, _, _, _, _⟩) (v := _) rfl (by kernel_rfl) (by kernel_rfl) (by kernel_rfl) (fun _ _ _ h => h) (yieldsIf_load_mid (by rfl) _ _ rfl G 0 rfl (u64v [a0, a1, a2, a3]) _ (fun W' hW' => range_row ((hW'.block _ sA4).trans xA4.out)) (Tryd.underlying35) (rfl) (by kernel_rfl)) hHeld ?_
      try simp only [Act.put, List.setIfInBounds_toArray, List.set_cons_zero, List.set_cons_succ]
      refine wpAnyH_ready (rs := [2]) (by kernel_rfl) (by simp) ?_
      refine AllReadyH.cons (i := 2) (o := ⟨(some 13), _, _, _, _, _⟩) rfl (fun K hK => ?_) AllReadyH.nil
      go_simp
      refine (times_any _ c0 c1 c2 c3 c0 c1 c2 c3 l4.1 l4.2.1 l4.2.2.1 l4.2.2.2 l4.1 l4.2.1 l4.2.2.1 l4.2.2.2).mono ?_
      rintro e T1 ⟨d0, d1, d2, d3, rfl, ed, ⟨ld0, ld1, ld2, ld3⟩, g1⟩
      refine hK.out _ _ (below_next hHeld hHeld.size g1) (fun hHeld => ?_)
      clear hK K
      try simp only [Act.put, List.setIfInBounds_toArray, List.set_cons_zero, List.set_cons_succ]
      refine wpAnyH_ready (rs := [3]) (by kernel_rfl) (by simp) ?_
      refine AllReadyH.cons (i := 3) (o := ⟨(some 14), _, _, _, _, _⟩) rfl (fun K hK => ?_) AllReadyH.nil
      go_simp
      refine (told_any _ d0 d1 d2 d3 ld0 ld1 ld2 ld3).mono ?_
      rintro e T2 ⟨m1, rfl, em1, hm1, g2⟩
      refine hK.out _ _ (below_next hHeld hHeld.size g2) (fun hHeld => ?_)
      clear hK K
      try simp only [Act.put, List.setIfInBounds_toArray, List.set_cons_zero, List.set_cons_succ]
      refine wpAnyH_ready (rs := [5]) (by kernel_rfl) (by simp) ?_
      refine AllReadyH.cons (i := 5) (o := ⟨(some 16), _, _, _, _, _⟩) rfl (fun K hK => ?_) AllReadyH.nil
      go_simp
      refine (told_any _ a0 a1 a2 a3 la0 la1 la2 la3).mono ?_
      rintro e T3 ⟨m2, rfl, em2, hm2, g3⟩
      refine hK.out _ _ (below_next hHeld hHeld.size g3) (fun hHeld => ?_)
      clear hK K
      try simp only [Act.put, List.setIfInBounds_toArray, List.set_cons_zero, List.set_cons_succ]
      have hneq := neq_bytes (P := Tryd.prog) Tryd.underlying24 Tryd.underlying5 Tryd.sizeByte m1 m2 hm1.out hm2.out
      have HM := vlt (show m1 = m2 ↔ n4 c0 c1 c2 c3 * n4 c0 c1 c2 c3 % FP = n4 a0 a1 a2 a3 % FP by rw [em1.out, em2.out, ed.out]; exact wo_iff _ _)
      generalize hbb : decide (m1 = m2) = bb at *
      refine wpAnyH_take (i := 6) (oi := ⟨(some 17), _, _, _, _, _⟩) (v := ?vq1001_0) rfl (by kernel_rfl) (by kernel_rfl) (by kernel_rfl) (fun _ _ _ h => h) (Or.inl ⟨by rfl, ?yq1001_0⟩) hHeld ?_
      case yq1001_0 => (intro W0 hSw; go_simp; try with_reducible rfl)
      try simp only [Act.put, List.setIfInBounds_toArray, List.set_cons_zero, List.set_cons_succ]
      refine wpAnyH_done (by kernel_rfl) ?_ _
      have hbT3 := below_next hbW4 hbW4.size hHeld
      have yR := Lib.hid ((hHeld.block _ sR4).trans xR4.out)
      have yA := Lib.hid ((hHeld.block _ sA4).trans xA4.out)
      have yZ := Lib.hid ((hHeld.block _ sZ4).trans xZ4.out)
      have hlT := hla4.below (by have := hla4.2; omega) hHeld
      have sRy : P3 < T3.heap.size := (Array.getElem?_eq_some_iff.1 yR.out).1
      have sAy : G < T3.heap.size := (Array.getElem?_eq_some_iff.1 yA.out).1
      have sZy : w.heap.size + 1 < T3.heap.size := (Array.getElem?_eq_some_iff.1 yZ.out).1
      clear hHeld g1 g2 g3 hneq ed em1 em2
      by_cases h1 : m1 = m2
      · have HQ := HM.out.1 h1
        rw [show bb = true by rw [← hbb]; simp [h1]]
        have HRO := vlt (root_first HX.out e2.out HQ)
        clear HM hbb h1
        go_upto_region 5 with fail
        refine wp_region_held_drew (S := (fun W' => Below T3.heap.size T3 W')) (by kernel_rfl) ((Below.refl _ _).drew) (fun hHeld => ?_)
        refine wpAnyH_take (i := 0) (oi := ⟨(some 21), _, _, _, _, _⟩) (v := _) rfl (by kernel_rfl) (by kernel_rfl) (by kernel_rfl) (fun _ _ _ h => h) (yieldsIf_load_mid (by rfl) _ _ rfl P3 0 rfl (u64v [c0, c1, c2, c3]) _ (fun W' hW' => range_row ((hW'.block _ sRy).trans yR.out)) (Tryd.underlying35) (rfl) (by kernel_rfl)) hHeld ?_
        try simp only [Act.put, List.setIfInBounds_toArray, List.set_cons_zero, List.set_cons_succ]
        refine wpAnyH_take (i := 1) (oi := ⟨(some 22), _, _, _, _, _⟩) (v := _) rfl (by kernel_rfl) (by kernel_rfl) (by kernel_rfl) (fun _ _ _ h => h) (yieldsIf_load_mid (by rfl) _ _ rfl P3 0 rfl (u64v [c0, c1, c2, c3]) _ (fun W' hW' => range_row ((hW'.block _ sRy).trans yR.out)) (Tryd.underlying35) (rfl) (by kernel_rfl)) hHeld ?_
        try simp only [Act.put, List.setIfInBounds_toArray, List.set_cons_zero, List.set_cons_succ]
        refine wpAnyH_take (i := 4) (oi := ⟨(some 25), _, _, _, _, _⟩) (v := _) rfl (by kernel_rfl) (by kernel_rfl) (by kernel_rfl) (fun _ _ _ h => h) (yieldsIf_load_mid (by rfl) _ _ rfl G 0 rfl (u64v [a0, a1, a2, a3]) _ (fun W' hW' => range_row ((hW'.block _ sAy).trans yA.out)) (Tryd.underlying35) (rfl) (by kernel_rfl)) hHeld ?_
        try simp only [Act.put, List.setIfInBounds_toArray, List.set_cons_zero, List.set_cons_succ]
        refine wpAnyH_ready (rs := [2]) (by kernel_rfl) (by simp) ?_
        refine AllReadyH.cons (i := 2) (o := ⟨(some 23), _, _, _, _, _⟩) rfl (fun K hK => ?_) AllReadyH.nil
        go_simp
        refine (times_any _ c0 c1 c2 c3 c0 c1 c2 c3 l4.1 l4.2.1 l4.2.2.1 l4.2.2.2 l4.1 l4.2.1 l4.2.2.1 l4.2.2.2).mono ?_
        rintro e U1 ⟨k0, k1, k2, k3, rfl, ek, ⟨lk0, lk1, lk2, lk3⟩, g1⟩
        refine hK.out _ _ (below_next hHeld hHeld.size g1) (fun hHeld => ?_)
        clear hK K
        try simp only [Act.put, List.setIfInBounds_toArray, List.set_cons_zero, List.set_cons_succ]
        refine wpAnyH_ready (rs := [3]) (by kernel_rfl) (by simp) ?_
        refine AllReadyH.cons (i := 3) (o := ⟨(some 24), _, _, _, _, _⟩) rfl (fun K hK => ?_) AllReadyH.nil
        go_simp
        refine (told_any _ k0 k1 k2 k3 lk0 lk1 lk2 lk3).mono ?_
        rintro e U2 ⟨n1, rfl, en1, hn1, g2⟩
        refine hK.out _ _ (below_next hHeld hHeld.size g2) (fun hHeld => ?_)
        clear hK K
        try simp only [Act.put, List.setIfInBounds_toArray, List.set_cons_zero, List.set_cons_succ]
        refine wpAnyH_ready (rs := [5]) (by kernel_rfl) (by simp) ?_
        refine AllReadyH.cons (i := 5) (o := ⟨(some 26), _, _, _, _, _⟩) rfl (fun K hK => ?_) AllReadyH.nil
        go_simp
        refine (told_any _ a0 a1 a2 a3 la0 la1 la2 la3).mono ?_
        rintro e U3 ⟨n2, rfl, en2, hn2, g3⟩
        refine hK.out _ _ (below_next hHeld hHeld.size g3) (fun hHeld => ?_)
        clear hK K
        try simp only [Act.put, List.setIfInBounds_toArray, List.set_cons_zero, List.set_cons_succ]
        obtain rfl : n1 = n2 := by rw [en1.out, en2.out, ek.out]; exact (wo_iff _ _).2 HQ
        have hneq := neq_bytes (P := Tryd.prog) Tryd.underlying24 Tryd.underlying5 Tryd.sizeByte n1 n1 hn1.out hn1.out
        rw [show (!decide (n1 = n1)) = false by simp] at hneq
        refine wpAnyH_take (i := 6) (oi := ⟨(some 27), _, _, _, _, _⟩) (v := ?vq1002_0) rfl (by kernel_rfl) (by kernel_rfl) (by kernel_rfl) (fun _ _ _ h => h) (Or.inl ⟨by rfl, ?yq1002_0⟩) hHeld ?_
        case yq1002_0 => (intro W0 hSw; go_simp; try with_reducible rfl)
        try simp only [Act.put, List.setIfInBounds_toArray, List.set_cons_zero, List.set_cons_succ]
        refine wpAnyH_done (by kernel_rfl) ?_ _
        have hbU3 := below_next hbT3 hbT3.size hHeld
        have uR := Lib.hid ((hHeld.block _ sRy).trans yR.out)
        have uZ := Lib.hid ((hHeld.block _ sZy).trans yZ.out)
        have sZu : w.heap.size + 1 < U3.heap.size := (Array.getElem?_eq_some_iff.1 uZ.out).1
        clear hHeld g1 g2 g3 hneq ek en1 en2 HQ
        go_wp2_with (with_reducible refine wpList_load_row rfl 35 (.tmp 5) rfl P3 rfl 35 (u64v [c0, c1, c2, c3]).toArray (0, 0) _ uR.out Tryd.underlying35 rfl (by kernel_rfl) ?_)
        refine (even_any U3 c0 c1 c2 c3 l4.1 l4.2.1 l4.2.2.1 l4.2.2.2).mono ?_
        rintro e T4 ⟨r, rfl, er, hr, g4⟩
        have HF := vlt (show (r, true) = rootOf (ln a) by rw [HRO.out, er.out])
        have hbT4 := below_next hbU3 hbU3.size g4
        have zZ : Hid (T4.heap[w.heap.size + 1]? = some (.cells (bv z32).toArray 24 (0, 0))) := (g4.block _ sZu).trans uZ.out
        have hrs := Lib.hid (bv_size r hr.out)
        go_wp2_with (with_reducible refine wpList_store_row rfl 24 (.tmp 2) (.tmp 30) rfl (w.heap.size + 1) (bv r).toArray rfl rfl 24 _ zZ.out (by rw [hrs.out]; kernel_rfl) (by rw [hrs.out]; kernel_rfl) (all_oneCell_toArray (bv_one _)) ?_)
        refine bodyPost_ret (v := .tuple #[.agg (bv r).toArray, .bool true]) (results_row_tmp Tryd.results7 _ _ (w.heap.size + 1) 24 _ (0, 0) _ rfl (setRow_heap _ _ _ _ _ _ zZ.out) Tryd.underlying24 rfl (by rw [hrs.out]; kernel_rfl) _ rfl) rfl ⟨r, true, rfl, HF, hr, below_setRow hbT4 (by omega) _⟩
      · have HQ : ¬ _ := fun h => h1 (HM.out.2 h)
        rw [show bb = false by rw [← hbb]; simp [h1]]
        clear HM hbb
        go_wp2_with (first
          | (with_reducible refine wpList_load_row rfl 35 (.tmp 5) rfl P3 rfl 35 (u64v [c0, c1, c2, c3]).toArray (0, 0) _ yR.out Tryd.underlying35 rfl (by kernel_rfl) ?_)
          | (with_reducible refine wpList_load_mid rfl 35 (.global 0) rfl 0 0 rfl (u64v turnL) _ hlT.range Tryd.underlying35 rfl (by kernel_rfl) ?_))
        refine (times_any T3 c0 c1 c2 c3 14190309331451158704 3405592160176694392 3120150775007532967 3135389899092516619 l4.1 l4.2.1 l4.2.2.1 l4.2.2.2 (by decide) (by decide) (by decide) (by decide)).mono ?_
        rintro e T4 ⟨f0, f1, f2, f3, rfl, ef, l5, g4⟩
        have hbT4 := below_next hbT3 hbT3.size g4
        have vR : Hid (T4.heap[P3]? = some (.cells (u64v [c0, c1, c2, c3]).toArray 35 (0, 0))) := (g4.block _ sRy).trans yR.out
        have vA : Hid (T4.heap[G]? = some (.cells (u64v [a0, a1, a2, a3]).toArray 35 (0, 0))) := (g4.block _ sAy).trans yA.out
        have vZ : Hid (T4.heap[w.heap.size + 1]? = some (.cells (bv z32).toArray 24 (0, 0))) := (g4.block _ sZy).trans yZ.out
        go_upto_region 5 with (with_reducible refine wpList_store_row rfl 35 (.tmp 5) (.tmp 20) rfl P3 (u64v [f0, f1, f2, f3]).toArray rfl rfl 35 _ vR.out (by kernel_rfl) (by kernel_rfl) (all_oneCell_toArray (u64v_one _)) ?_)
        obtain ⟨W5, hW5⟩ : ∃ W5, W5 = T4.setRow P3 (u64v [f0, f1, f2, f3]).toArray := ⟨_, rfl⟩
        rw [← hW5]
        have xR5 : Hid (W5.heap[P3]? = some (.cells (u64v [f0, f1, f2, f3]).toArray 35 (0, 0))) := by rw [hW5]; exact setRow_heap _ _ _ _ _ _ vR.out
        have xA5 : Hid (W5.heap[G]? = some (.cells (u64v [a0, a1, a2, a3]).toArray 35 (0, 0))) := by rw [hW5]; exact (setRow_other _ _ _ _ (by omega)).trans vA.out
        have xZ5 : Hid (W5.heap[w.heap.size + 1]? = some (.cells (bv z32).toArray 24 (0, 0))) := by rw [hW5]; exact (setRow_other _ _ _ _ (by omega)).trans vZ.out
        have hbW5 : Below w.heap.size w W5 := by rw [hW5]; exact below_setRow hbT4 (by omega) _
        have sR5 : P3 < W5.heap.size := (Array.getElem?_eq_some_iff.1 xR5.out).1
        have sA5 : G < W5.heap.size := (Array.getElem?_eq_some_iff.1 xA5.out).1
        have sZ5 : w.heap.size + 1 < W5.heap.size := (Array.getElem?_eq_some_iff.1 xZ5.out).1
        clear hW5 vR vA vZ hbT4 g4 yR yA yZ hlT
        refine wp_region_held_drew (S := (fun W' => Below W5.heap.size W5 W')) (by kernel_rfl) ((Below.refl _ _).drew) (fun hHeld => ?_)
        refine wpAnyH_take (i := 0) (oi := ⟨(some 21), _, _, _, _, _⟩) (v := _) rfl (by kernel_rfl) (by kernel_rfl) (by kernel_rfl) (fun _ _ _ h => h) (yieldsIf_load_mid (by rfl) _ _ rfl P3 0 rfl (u64v [f0, f1, f2, f3]) _ (fun W' hW' => range_row ((hW'.block _ sR5).trans xR5.out)) (Tryd.underlying35) (rfl) (by kernel_rfl)) hHeld ?_
        try simp only [Act.put, List.setIfInBounds_toArray, List.set_cons_zero, List.set_cons_succ]
        refine wpAnyH_take (i := 1) (oi := ⟨(some 22), _, _, _, _, _⟩) (v := _) rfl (by kernel_rfl) (by kernel_rfl) (by kernel_rfl) (fun _ _ _ h => h) (yieldsIf_load_mid (by rfl) _ _ rfl P3 0 rfl (u64v [f0, f1, f2, f3]) _ (fun W' hW' => range_row ((hW'.block _ sR5).trans xR5.out)) (Tryd.underlying35) (rfl) (by kernel_rfl)) hHeld ?_
        try simp only [Act.put, List.setIfInBounds_toArray, List.set_cons_zero, List.set_cons_succ]
        refine wpAnyH_take (i := 4) (oi := ⟨(some 25), _, _, _, _, _⟩) (v := _) rfl (by kernel_rfl) (by kernel_rfl) (by kernel_rfl) (fun _ _ _ h => h) (yieldsIf_load_mid (by rfl) _ _ rfl G 0 rfl (u64v [a0, a1, a2, a3]) _ (fun W' hW' => range_row ((hW'.block _ sA5).trans xA5.out)) (Tryd.underlying35) (rfl) (by kernel_rfl)) hHeld ?_
        try simp only [Act.put, List.setIfInBounds_toArray, List.set_cons_zero, List.set_cons_succ]
        refine wpAnyH_ready (rs := [2]) (by kernel_rfl) (by simp) ?_
        refine AllReadyH.cons (i := 2) (o := ⟨(some 23), _, _, _, _, _⟩) rfl (fun K hK => ?_) AllReadyH.nil
        go_simp
        refine (times_any _ f0 f1 f2 f3 f0 f1 f2 f3 l5.1 l5.2.1 l5.2.2.1 l5.2.2.2 l5.1 l5.2.1 l5.2.2.1 l5.2.2.2).mono ?_
        rintro e T1 ⟨d0, d1, d2, d3, rfl, ed, ⟨ld0, ld1, ld2, ld3⟩, g1⟩
        refine hK.out _ _ (below_next hHeld hHeld.size g1) (fun hHeld => ?_)
        clear hK K
        try simp only [Act.put, List.setIfInBounds_toArray, List.set_cons_zero, List.set_cons_succ]
        refine wpAnyH_ready (rs := [3]) (by kernel_rfl) (by simp) ?_
        refine AllReadyH.cons (i := 3) (o := ⟨(some 24), _, _, _, _, _⟩) rfl (fun K hK => ?_) AllReadyH.nil
        go_simp
        refine (told_any _ d0 d1 d2 d3 ld0 ld1 ld2 ld3).mono ?_
        rintro e T2 ⟨m1, rfl, em1, hm1, g2⟩
        refine hK.out _ _ (below_next hHeld hHeld.size g2) (fun hHeld => ?_)
        clear hK K
        try simp only [Act.put, List.setIfInBounds_toArray, List.set_cons_zero, List.set_cons_succ]
        refine wpAnyH_ready (rs := [5]) (by kernel_rfl) (by simp) ?_
        refine AllReadyH.cons (i := 5) (o := ⟨(some 26), _, _, _, _, _⟩) rfl (fun K hK => ?_) AllReadyH.nil
        go_simp
        refine (told_any _ a0 a1 a2 a3 la0 la1 la2 la3).mono ?_
        rintro e T3 ⟨m2, rfl, em2, hm2, g3⟩
        refine hK.out _ _ (below_next hHeld hHeld.size g3) (fun hHeld => ?_)
        clear hK K
        try simp only [Act.put, List.setIfInBounds_toArray, List.set_cons_zero, List.set_cons_succ]
        have hneq := neq_bytes (P := Tryd.prog) Tryd.underlying24 Tryd.underlying5 Tryd.sizeByte m1 m2 hm1.out hm2.out
        have HM := vlt (show m1 = m2 ↔ n4 f0 f1 f2 f3 * n4 f0 f1 f2 f3 % FP = n4 a0 a1 a2 a3 % FP by rw [em1.out, em2.out, ed.out]; exact wo_iff _ _)
        generalize hbb : decide (m1 = m2) = bb at *
        refine wpAnyH_take (i := 6) (oi := ⟨(some 27), _, _, _, _, _⟩) (v := ?vq1003_0) rfl (by kernel_rfl) (by kernel_rfl) (by kernel_rfl) (fun _ _ _ h => h) (Or.inl ⟨by rfl, ?yq1003_0⟩) hHeld ?_
        case yq1003_0 => (intro W0 hSw; go_simp; try with_reducible rfl)
        try simp only [Act.put, List.setIfInBounds_toArray, List.set_cons_zero, List.set_cons_succ]
        refine wpAnyH_done (by kernel_rfl) ?_ _
        have hbU := below_next hbW5 hbW5.size hHeld
        have uR := Lib.hid ((hHeld.block _ sR5).trans xR5.out)
        have uZ := Lib.hid ((hHeld.block _ sZ5).trans xZ5.out)
        have sZu : w.heap.size + 1 < T3.heap.size := (Array.getElem?_eq_some_iff.1 uZ.out).1
        clear hHeld g1 g2 g3 hneq ed em1 em2
        by_cases h2 : m1 = m2
        · have HQ2 := HM.out.1 h2
          rw [show bb = true by rw [← hbb]; simp [h2]]
          have HRO := vlt (root_second HX.out e2.out ef.out HQ HQ2)
          clear HM hbb h2 HQ2 HQ
          go_wp2_with (with_reducible refine wpList_load_row rfl 35 (.tmp 5) rfl P3 rfl 35 (u64v [f0, f1, f2, f3]).toArray (0, 0) _ uR.out Tryd.underlying35 rfl (by kernel_rfl) ?_)
          refine (even_any T3 f0 f1 f2 f3 l5.1 l5.2.1 l5.2.2.1 l5.2.2.2).mono ?_
          rintro e T4 ⟨r, rfl, er, hr, g4⟩
          have HF := vlt (show (r, true) = rootOf (ln a) by rw [HRO.out, er.out])
          have hbT4 := below_next hbU hbU.size g4
          have zZ : Hid (T4.heap[w.heap.size + 1]? = some (.cells (bv z32).toArray 24 (0, 0))) := (g4.block _ sZu).trans uZ.out
          have hrs := Lib.hid (bv_size r hr.out)
          go_wp2_with (with_reducible refine wpList_store_row rfl 24 (.tmp 2) (.tmp 30) rfl (w.heap.size + 1) (bv r).toArray rfl rfl 24 _ zZ.out (by rw [hrs.out]; kernel_rfl) (by rw [hrs.out]; kernel_rfl) (all_oneCell_toArray (bv_one _)) ?_)
          refine bodyPost_ret (v := .tuple #[.agg (bv r).toArray, .bool true]) (results_row_tmp Tryd.results7 _ _ (w.heap.size + 1) 24 _ (0, 0) _ rfl (setRow_heap _ _ _ _ _ _ zZ.out) Tryd.underlying24 rfl (by rw [hrs.out]; kernel_rfl) _ rfl) rfl ⟨r, true, rfl, HF, hr, below_setRow hbT4 (by omega) _⟩
        · have HQ2 : ¬ _ := fun h => h2 (HM.out.2 h)
          rw [show bb = false by rw [← hbb]; simp [h2]]
          have HF := vlt (show (z32, false) = rootOf (ln a) from (root_none HX.out e2.out ef.out HQ HQ2).symm)
          clear HM hbb HQ2 HQ
          go_wp2_with (with_reducible refine wpList_store_row rfl 24 (.tmp 2) (.tmp 28) rfl (w.heap.size + 1) (bv z32).toArray rfl rfl 24 _ uZ.out (by kernel_rfl) (by kernel_rfl) (all_oneCell_toArray (bv_one _)) ?_)
          refine bodyPost_ret (v := .tuple #[.agg (bv z32).toArray, .bool false]) (results_row_tmp Tryd.results7 _ _ (w.heap.size + 1) 24 _ (0, 0) _ rfl (setRow_heap _ _ _ _ _ _ uZ.out) Tryd.underlying24 rfl (by kernel_rfl) _ rfl) rfl ⟨z32, false, rfl, HF, z32_len, below_setRow hbU (by omega) _⟩
    · refine step_new (by rfl) rfl ?_
      intro P3 W2 hP3 z3 g2 l3
      have lP3 : V.heap.size ≤ P3 := by have := hHeld.size; have := hP3.out; omega
      have hB2 := below_next hHeld hHeld.size g2
      refine hK.out _ _ (hB2) (fun hHeld => ?_)
      clear hK K
      try simp only [Act.put, List.setIfInBounds_toArray, List.set_cons_zero, List.set_cons_succ]
      refine wpAnyH_ready (rs := [2]) (by kernel_rfl) (by simp) ?_
      refine AllReadyH.cons (i := 2) (o := ⟨(some 10), _, _, _, _, _⟩) rfl (fun K hK => ?_) AllReadyH.nil
      go_simp
      refine (power_any _ a0 a1 a2 a3 18446744073709551614 18446744073709551615 18446744073709551615 1152921504606846975 la0 la1 la2 la3 (by decide) (by decide) (by decide) (by decide)).mono ?_
      rintro e W3 ⟨c0, c1, c2, c3, rfl, e2, l4, g3⟩
      have hB3 := below_next hHeld hHeld.size g3
      refine hK.out _ _ (hB3) (fun hHeld => ?_)
      clear hK K
      try simp only [Act.put, List.setIfInBounds_toArray, List.set_cons_zero, List.set_cons_succ]
      refine wpAnyH_ready (rs := [4]) (by kernel_rfl) (by simp) ?_
      refine AllReadyH.cons (i := 4) (o := ⟨none, _, _, _, _, _⟩) rfl (fun K hK => ?_) AllReadyH.nil
      refine step_store_row rfl 35 (.tmp 5) (.tmp 10) rfl P3 (u64v [c0, c1, c2, c3]).toArray rfl rfl 35 _ ((row_next z3 g3)).out (by kernel_rfl) (by kernel_rfl) (all_oneCell_toArray (u64v_one _)) ?_
      have xR4 : Hid ((W3.setRow P3 (u64v [c0, c1, c2, c3]).toArray).heap[P3]? = some (.cells (u64v [c0, c1, c2, c3]).toArray 35 (0, 0))) := setRow_heap _ _ _ _ _ _ ((row_next z3 g3)).out
      have hB4 := below_setRow hHeld lP3 (u64v [c0, c1, c2, c3]).toArray
      generalize W3.setRow P3 (u64v [c0, c1, c2, c3]).toArray = W4 at *
      refine hK.out _ _ (hB4) (fun hHeld => ?_)
      clear hK K
      try simp only [Act.put]
      refine wpAnyH_done (by kernel_rfl) ?_ _
      have hb4 := hHeld
      have xA4 := Lib.hid ((hHeld.block _ sAV).trans hgAV.out)
      have xZ4 := Lib.hid ((hHeld.block _ sZV).trans hgZV.out)
      have hbW4 := below_next hbV hbV.size hHeld
      have hla4 := hlaV.below (by have := hlaV.2; omega) hHeld
      have sR4 : P3 < W4.heap.size := (Array.getElem?_eq_some_iff.1 xR4.out).1
      have sA4 : G < W4.heap.size := (Array.getElem?_eq_some_iff.1 xA4.out).1
      have sZ4 : w.heap.size + 1 < W4.heap.size := (Array.getElem?_eq_some_iff.1 xZ4.out).1
      clear hHeld hb4
      go_upto_region 3 with fail
      have hbT := hbW4
      refine wp_region_held_drew (S := (fun W' => Below W4.heap.size W4 W')) (by kernel_rfl) ((Below.refl _ _).drew) (fun hHeld => ?_)
      refine wpAnyH_take (i := 0) (oi := ⟨(some 11), _, _, _, _, _⟩) (v := _) rfl (by kernel_rfl) (by kernel_rfl) (by kernel_rfl) (fun _ _ _ h => h) (yieldsIf_load_mid (by rfl) _ _ rfl P3 0 rfl (u64v [c0, c1, c2, c3]) _ (fun W' hW' => range_row ((hW'.block _ sR4).trans xR4.out)) (Tryd.underlying35) (rfl) (by kernel_rfl)) hHeld ?_
      try simp only [Act.put, List.setIfInBounds_toArray, List.set_cons_zero, List.set_cons_succ]
      refine wpAnyH_take (i := 1) (oi := ⟨(some 12), _, _, _, _, _⟩) (v := _) rfl (by kernel_rfl) (by kernel_rfl) (by kernel_rfl) (fun _ _ _ h => h) (yieldsIf_load_mid (by rfl) _ _ rfl P3 0 rfl (u64v [c0, c1, c2, c3]) _ (fun W' hW' => range_row ((hW'.block _ sR4).trans xR4.out)) (Tryd.underlying35) (rfl) (by kernel_rfl)) hHeld ?_
      try simp only [Act.put, List.setIfInBounds_toArray, List.set_cons_zero, List.set_cons_succ]
      refine wpAnyH_take (i := 4) (oi := ⟨(some 15), _, _, _, _, _⟩) (v := _) rfl (by kernel_rfl) (by kernel_rfl) (by kernel_rfl) (fun _ _ _ h => h) (yieldsIf_load_mid (by rfl) _ _ rfl G 0 rfl (u64v [a0, a1, a2, a3]) _ (fun W' hW' => range_row ((hW'.block _ sA4).trans xA4.out)) (Tryd.underlying35) (rfl) (by kernel_rfl)) hHeld ?_
      try simp only [Act.put, List.setIfInBounds_toArray, List.set_cons_zero, List.set_cons_succ]
      refine wpAnyH_ready (rs := [2]) (by kernel_rfl) (by simp) ?_
      refine AllReadyH.cons (i := 2) (o := ⟨(some 13), _, _, _, _, _⟩) rfl (fun K hK => ?_) AllReadyH.nil
      go_simp
      refine (times_any _ c0 c1 c2 c3 c0 c1 c2 c3 l4.1 l4.2.1 l4.2.2.1 l4.2.2.2 l4.1 l4.2.1 l4.2.2.1 l4.2.2.2).mono ?_
      rintro e T1 ⟨d0, d1, d2, d3, rfl, ed, ⟨ld0, ld1, ld2, ld3⟩, g1⟩
      refine hK.out _ _ (below_next hHeld hHeld.size g1) (fun hHeld => ?_)
      clear hK K
      try simp only [Act.put, List.setIfInBounds_toArray, List.set_cons_zero, List.set_cons_succ]
      refine wpAnyH_ready (rs := [3]) (by kernel_rfl) (by simp) ?_
      refine AllReadyH.cons (i := 3) (o := ⟨(some 14), _, _, _, _, _⟩) rfl (fun K hK => ?_) AllReadyH.nil
      go_simp
      refine (told_any _ d0 d1 d2 d3 ld0 ld1 ld2 ld3).mono ?_
      rintro e T2 ⟨m1, rfl, em1, hm1, g2⟩
      refine hK.out _ _ (below_next hHeld hHeld.size g2) (fun hHeld => ?_)
      clear hK K
      try simp only [Act.put, List.setIfInBounds_toArray, List.set_cons_zero, List.set_cons_succ]
      refine wpAnyH_ready (rs := [5]) (by kernel_rfl) (by simp) ?_
      refine AllReadyH.cons (i := 5) (o := ⟨(some 16), _, _, _, _, _⟩) rfl (fun K hK => ?_) AllReadyH.nil
      go_simp
      refine (told_any _ a0 a1 a2 a3 la0 la1 la2 la3).mono ?_
      rintro e T3 ⟨m2, rfl, em2, hm2, g3⟩
      refine hK.out _ _ (below_next hHeld hHeld.size g3) (fun hHeld => ?_)
      clear hK K
      try simp only [Act.put, List.setIfInBounds_toArray, List.set_cons_zero, List.set_cons_succ]
      have hneq := neq_bytes (P := Tryd.prog) Tryd.underlying24 Tryd.underlying5 Tryd.sizeByte m1 m2 hm1.out hm2.out
      have HM := vlt (show m1 = m2 ↔ n4 c0 c1 c2 c3 * n4 c0 c1 c2 c3 % FP = n4 a0 a1 a2 a3 % FP by rw [em1.out, em2.out, ed.out]; exact wo_iff _ _)
      generalize hbb : decide (m1 = m2) = bb at *
      refine wpAnyH_take (i := 6) (oi := ⟨(some 17), _, _, _, _, _⟩) (v := ?vq2001_0) rfl (by kernel_rfl) (by kernel_rfl) (by kernel_rfl) (fun _ _ _ h => h) (Or.inl ⟨by rfl, ?yq2001_0⟩) hHeld ?_
      case yq2001_0 => (intro W0 hSw; go_simp; try with_reducible rfl)
      try simp only [Act.put, List.setIfInBounds_toArray, List.set_cons_zero, List.set_cons_succ]
      refine wpAnyH_done (by kernel_rfl) ?_ _
      have hbT3 := below_next hbW4 hbW4.size hHeld
      have yR := Lib.hid ((hHeld.block _ sR4).trans xR4.out)
      have yA := Lib.hid ((hHeld.block _ sA4).trans xA4.out)
      have yZ := Lib.hid ((hHeld.block _ sZ4).trans xZ4.out)
      have hlT := hla4.below (by have := hla4.2; omega) hHeld
      have sRy : P3 < T3.heap.size := (Array.getElem?_eq_some_iff.1 yR.out).1
      have sAy : G < T3.heap.size := (Array.getElem?_eq_some_iff.1 yA.out).1
      have sZy : w.heap.size + 1 < T3.heap.size := (Array.getElem?_eq_some_iff.1 yZ.out).1
      clear hHeld g1 g2 g3 hneq ed em1 em2
      by_cases h1 : m1 = m2
      · have HQ := HM.out.1 h1
        rw [show bb = true by rw [← hbb]; simp [h1]]
        have HRO := vlt (root_first HX.out e2.out HQ)
        clear HM hbb h1
        go_upto_region 5 with fail
        refine wp_region_held_drew (S := (fun W' => Below T3.heap.size T3 W')) (by kernel_rfl) ((Below.refl _ _).drew) (fun hHeld => ?_)
        refine wpAnyH_take (i := 0) (oi := ⟨(some 21), _, _, _, _, _⟩) (v := _) rfl (by kernel_rfl) (by kernel_rfl) (by kernel_rfl) (fun _ _ _ h => h) (yieldsIf_load_mid (by rfl) _ _ rfl P3 0 rfl (u64v [c0, c1, c2, c3]) _ (fun W' hW' => range_row ((hW'.block _ sRy).trans yR.out)) (Tryd.underlying35) (rfl) (by kernel_rfl)) hHeld ?_
        try simp only [Act.put, List.setIfInBounds_toArray, List.set_cons_zero, List.set_cons_succ]
        refine wpAnyH_take (i := 1) (oi := ⟨(some 22), _, _, _, _, _⟩) (v := _) rfl (by kernel_rfl) (by kernel_rfl) (by kernel_rfl) (fun _ _ _ h => h) (yieldsIf_load_mid (by rfl) _ _ rfl P3 0 rfl (u64v [c0, c1, c2, c3]) _ (fun W' hW' => range_row ((hW'.block _ sRy).trans yR.out)) (Tryd.underlying35) (rfl) (by kernel_rfl)) hHeld ?_
        try simp only [Act.put, List.setIfInBounds_toArray, List.set_cons_zero, List.set_cons_succ]
        refine wpAnyH_take (i := 4) (oi := ⟨(some 25), _, _, _, _, _⟩) (v := _) rfl (by kernel_rfl) (by kernel_rfl) (by kernel_rfl) (fun _ _ _ h => h) (yieldsIf_load_mid (by rfl) _ _ rfl G 0 rfl (u64v [a0, a1, a2, a3]) _ (fun W' hW' => range_row ((hW'.block _ sAy).trans yA.out)) (Tryd.underlying35) (rfl) (by kernel_rfl)) hHeld ?_
        try simp only [Act.put, List.setIfInBounds_toArray, List.set_cons_zero, List.set_cons_succ]
        refine wpAnyH_ready (rs := [2]) (by kernel_rfl) (by simp) ?_
        refine AllReadyH.cons (i := 2) (o := ⟨(some 23), _, _, _, _, _⟩) rfl (fun K hK => ?_) AllReadyH.nil
        go_simp
        refine (times_any _ c0 c1 c2 c3 c0 c1 c2 c3 l4.1 l4.2.1 l4.2.2.1 l4.2.2.2 l4.1 l4.2.1 l4.2.2.1 l4.2.2.2).mono ?_
        rintro e U1 ⟨k0, k1, k2, k3, rfl, ek, ⟨lk0, lk1, lk2, lk3⟩, g1⟩
        refine hK.out _ _ (below_next hHeld hHeld.size g1) (fun hHeld => ?_)
        clear hK K
        try simp only [Act.put, List.setIfInBounds_toArray, List.set_cons_zero, List.set_cons_succ]
        refine wpAnyH_ready (rs := [3]) (by kernel_rfl) (by simp) ?_
        refine AllReadyH.cons (i := 3) (o := ⟨(some 24), _, _, _, _, _⟩) rfl (fun K hK => ?_) AllReadyH.nil
        go_simp
        refine (told_any _ k0 k1 k2 k3 lk0 lk1 lk2 lk3).mono ?_
        rintro e U2 ⟨n1, rfl, en1, hn1, g2⟩
        refine hK.out _ _ (below_next hHeld hHeld.size g2) (fun hHeld => ?_)
        clear hK K
        try simp only [Act.put, List.setIfInBounds_toArray, List.set_cons_zero, List.set_cons_succ]
        refine wpAnyH_ready (rs := [5]) (by kernel_rfl) (by simp) ?_
        refine AllReadyH.cons (i := 5) (o := ⟨(some 26), _, _, _, _, _⟩) rfl (fun K hK => ?_) AllReadyH.nil
        go_simp
        refine (told_any _ a0 a1 a2 a3 la0 la1 la2 la3).mono ?_
        rintro e U3 ⟨n2, rfl, en2, hn2, g3⟩
        refine hK.out _ _ (below_next hHeld hHeld.size g3) (fun hHeld => ?_)
        clear hK K
        try simp only [Act.put, List.setIfInBounds_toArray, List.set_cons_zero, List.set_cons_succ]
        obtain rfl : n1 = n2 := by rw [en1.out, en2.out, ek.out]; exact (wo_iff _ _).2 HQ
        have hneq := neq_bytes (P := Tryd.prog) Tryd.underlying24 Tryd.underlying5 Tryd.sizeByte n1 n1 hn1.out hn1.out
        rw [show (!decide (n1 = n1)) = false by simp] at hneq
        refine wpAnyH_take (i := 6) (oi := ⟨(some 27), _, _, _, _, _⟩) (v := ?vq2002_0) rfl (by kernel_rfl) (by kernel_rfl) (by kernel_rfl) (fun _ _ _ h => h) (Or.inl ⟨by rfl, ?yq2002_0⟩) hHeld ?_
        case yq2002_0 => (intro W0 hSw; go_simp; try with_reducible rfl)
        try simp only [Act.put, List.setIfInBounds_toArray, List.set_cons_zero, List.set_cons_succ]
        refine wpAnyH_done (by kernel_rfl) ?_ _
        have hbU3 := below_next hbT3 hbT3.size hHeld
        have uR := Lib.hid ((hHeld.block _ sRy).trans yR.out)
        have uZ := Lib.hid ((hHeld.block _ sZy).trans yZ.out)
        have sZu : w.heap.size + 1 < U3.heap.size := (Array.getElem?_eq_some_iff.1 uZ.out).1
        clear hHeld g1 g2 g3 hneq ek en1 en2 HQ
        go_wp2_with (with_reducible refine wpList_load_row rfl 35 (.tmp 5) rfl P3 rfl 35 (u64v [c0, c1, c2, c3]).toArray (0, 0) _ uR.out Tryd.underlying35 rfl (by kernel_rfl) ?_)
        refine (even_any U3 c0 c1 c2 c3 l4.1 l4.2.1 l4.2.2.1 l4.2.2.2).mono ?_
        rintro e T4 ⟨r, rfl, er, hr, g4⟩
        have HF := vlt (show (r, true) = rootOf (ln a) by rw [HRO.out, er.out])
        have hbT4 := below_next hbU3 hbU3.size g4
        have zZ : Hid (T4.heap[w.heap.size + 1]? = some (.cells (bv z32).toArray 24 (0, 0))) := (g4.block _ sZu).trans uZ.out
        have hrs := Lib.hid (bv_size r hr.out)
        go_wp2_with (with_reducible refine wpList_store_row rfl 24 (.tmp 2) (.tmp 30) rfl (w.heap.size + 1) (bv r).toArray rfl rfl 24 _ zZ.out (by rw [hrs.out]; kernel_rfl) (by rw [hrs.out]; kernel_rfl) (all_oneCell_toArray (bv_one _)) ?_)
        refine bodyPost_ret (v := .tuple #[.agg (bv r).toArray, .bool true]) (results_row_tmp Tryd.results7 _ _ (w.heap.size + 1) 24 _ (0, 0) _ rfl (setRow_heap _ _ _ _ _ _ zZ.out) Tryd.underlying24 rfl (by rw [hrs.out]; kernel_rfl) _ rfl) rfl ⟨r, true, rfl, HF, hr, below_setRow hbT4 (by omega) _⟩
      · have HQ : ¬ _ := fun h => h1 (HM.out.2 h)
        rw [show bb = false by rw [← hbb]; simp [h1]]
        clear HM hbb
        go_wp2_with (first
          | (with_reducible refine wpList_load_row rfl 35 (.tmp 5) rfl P3 rfl 35 (u64v [c0, c1, c2, c3]).toArray (0, 0) _ yR.out Tryd.underlying35 rfl (by kernel_rfl) ?_)
          | (with_reducible refine wpList_load_mid rfl 35 (.global 0) rfl 0 0 rfl (u64v turnL) _ hlT.range Tryd.underlying35 rfl (by kernel_rfl) ?_))
        refine (times_any T3 c0 c1 c2 c3 14190309331451158704 3405592160176694392 3120150775007532967 3135389899092516619 l4.1 l4.2.1 l4.2.2.1 l4.2.2.2 (by decide) (by decide) (by decide) (by decide)).mono ?_
        rintro e T4 ⟨f0, f1, f2, f3, rfl, ef, l5, g4⟩
        have hbT4 := below_next hbT3 hbT3.size g4
        have vR : Hid (T4.heap[P3]? = some (.cells (u64v [c0, c1, c2, c3]).toArray 35 (0, 0))) := (g4.block _ sRy).trans yR.out
        have vA : Hid (T4.heap[G]? = some (.cells (u64v [a0, a1, a2, a3]).toArray 35 (0, 0))) := (g4.block _ sAy).trans yA.out
        have vZ : Hid (T4.heap[w.heap.size + 1]? = some (.cells (bv z32).toArray 24 (0, 0))) := (g4.block _ sZy).trans yZ.out
        go_upto_region 5 with (with_reducible refine wpList_store_row rfl 35 (.tmp 5) (.tmp 20) rfl P3 (u64v [f0, f1, f2, f3]).toArray rfl rfl 35 _ vR.out (by kernel_rfl) (by kernel_rfl) (all_oneCell_toArray (u64v_one _)) ?_)
        obtain ⟨W5, hW5⟩ : ∃ W5, W5 = T4.setRow P3 (u64v [f0, f1, f2, f3]).toArray := ⟨_, rfl⟩
        rw [← hW5]
        have xR5 : Hid (W5.heap[P3]? = some (.cells (u64v [f0, f1, f2, f3]).toArray 35 (0, 0))) := by rw [hW5]; exact setRow_heap _ _ _ _ _ _ vR.out
        have xA5 : Hid (W5.heap[G]? = some (.cells (u64v [a0, a1, a2, a3]).toArray 35 (0, 0))) := by rw [hW5]; exact (setRow_other _ _ _ _ (by omega)).trans vA.out
        have xZ5 : Hid (W5.heap[w.heap.size + 1]? = some (.cells (bv z32).toArray 24 (0, 0))) := by rw [hW5]; exact (setRow_other _ _ _ _ (by omega)).trans vZ.out
        have hbW5 : Below w.heap.size w W5 := by rw [hW5]; exact below_setRow hbT4 (by omega) _
        have sR5 : P3 < W5.heap.size := (Array.getElem?_eq_some_iff.1 xR5.out).1
        have sA5 : G < W5.heap.size := (Array.getElem?_eq_some_iff.1 xA5.out).1
        have sZ5 : w.heap.size + 1 < W5.heap.size := (Array.getElem?_eq_some_iff.1 xZ5.out).1
        clear hW5 vR vA vZ hbT4 g4 yR yA yZ hlT
        refine wp_region_held_drew (S := (fun W' => Below W5.heap.size W5 W')) (by kernel_rfl) ((Below.refl _ _).drew) (fun hHeld => ?_)
        refine wpAnyH_take (i := 0) (oi := ⟨(some 21), _, _, _, _, _⟩) (v := _) rfl (by kernel_rfl) (by kernel_rfl) (by kernel_rfl) (fun _ _ _ h => h) (yieldsIf_load_mid (by rfl) _ _ rfl P3 0 rfl (u64v [f0, f1, f2, f3]) _ (fun W' hW' => range_row ((hW'.block _ sR5).trans xR5.out)) (Tryd.underlying35) (rfl) (by kernel_rfl)) hHeld ?_
        try simp only [Act.put, List.setIfInBounds_toArray, List.set_cons_zero, List.set_cons_succ]
        refine wpAnyH_take (i := 1) (oi := ⟨(some 22), _, _, _, _, _⟩) (v := _) rfl (by kernel_rfl) (by kernel_rfl) (by kernel_rfl) (fun _ _ _ h => h) (yieldsIf_load_mid (by rfl) _ _ rfl P3 0 rfl (u64v [f0, f1, f2, f3]) _ (fun W' hW' => range_row ((hW'.block _ sR5).trans xR5.out)) (Tryd.underlying35) (rfl) (by kernel_rfl)) hHeld ?_
        try simp only [Act.put, List.setIfInBounds_toArray, List.set_cons_zero, List.set_cons_succ]
        refine wpAnyH_take (i := 4) (oi := ⟨(some 25), _, _, _, _, _⟩) (v := _) rfl (by kernel_rfl) (by kernel_rfl) (by kernel_rfl) (fun _ _ _ h => h) (yieldsIf_load_mid (by rfl) _ _ rfl G 0 rfl (u64v [a0, a1, a2, a3]) _ (fun W' hW' => range_row ((hW'.block _ sA5).trans xA5.out)) (Tryd.underlying35) (rfl) (by kernel_rfl)) hHeld ?_
        try simp only [Act.put, List.setIfInBounds_toArray, List.set_cons_zero, List.set_cons_succ]
        refine wpAnyH_ready (rs := [2]) (by kernel_rfl) (by simp) ?_
        refine AllReadyH.cons (i := 2) (o := ⟨(some 23), _, _, _, _, _⟩) rfl (fun K hK => ?_) AllReadyH.nil
        go_simp
        refine (times_any _ f0 f1 f2 f3 f0 f1 f2 f3 l5.1 l5.2.1 l5.2.2.1 l5.2.2.2 l5.1 l5.2.1 l5.2.2.1 l5.2.2.2).mono ?_
        rintro e T1 ⟨d0, d1, d2, d3, rfl, ed, ⟨ld0, ld1, ld2, ld3⟩, g1⟩
        refine hK.out _ _ (below_next hHeld hHeld.size g1) (fun hHeld => ?_)
        clear hK K
        try simp only [Act.put, List.setIfInBounds_toArray, List.set_cons_zero, List.set_cons_succ]
        refine wpAnyH_ready (rs := [3]) (by kernel_rfl) (by simp) ?_
        refine AllReadyH.cons (i := 3) (o := ⟨(some 24), _, _, _, _, _⟩) rfl (fun K hK => ?_) AllReadyH.nil
        go_simp
        refine (told_any _ d0 d1 d2 d3 ld0 ld1 ld2 ld3).mono ?_
        rintro e T2 ⟨m1, rfl, em1, hm1, g2⟩
        refine hK.out _ _ (below_next hHeld hHeld.size g2) (fun hHeld => ?_)
        clear hK K
        try simp only [Act.put, List.setIfInBounds_toArray, List.set_cons_zero, List.set_cons_succ]
        refine wpAnyH_ready (rs := [5]) (by kernel_rfl) (by simp) ?_
        refine AllReadyH.cons (i := 5) (o := ⟨(some 26), _, _, _, _, _⟩) rfl (fun K hK => ?_) AllReadyH.nil
        go_simp
        refine (told_any _ a0 a1 a2 a3 la0 la1 la2 la3).mono ?_
        rintro e T3 ⟨m2, rfl, em2, hm2, g3⟩
        refine hK.out _ _ (below_next hHeld hHeld.size g3) (fun hHeld => ?_)
        clear hK K
        try simp only [Act.put, List.setIfInBounds_toArray, List.set_cons_zero, List.set_cons_succ]
        have hneq := neq_bytes (P := Tryd.prog) Tryd.underlying24 Tryd.underlying5 Tryd.sizeByte m1 m2 hm1.out hm2.out
        have HM := vlt (show m1 = m2 ↔ n4 f0 f1 f2 f3 * n4 f0 f1 f2 f3 % FP = n4 a0 a1 a2 a3 % FP by rw [em1.out, em2.out, ed.out]; exact wo_iff _ _)
        generalize hbb : decide (m1 = m2) = bb at *
        refine wpAnyH_take (i := 6) (oi := ⟨(some 27), _, _, _, _, _⟩) (v := ?vq2003_0) rfl (by kernel_rfl) (by kernel_rfl) (by kernel_rfl) (fun _ _ _ h => h) (Or.inl ⟨by rfl, ?yq2003_0⟩) hHeld ?_
        case yq2003_0 => (intro W0 hSw; go_simp; try with_reducible rfl)
        try simp only [Act.put, List.setIfInBounds_toArray, List.set_cons_zero, List.set_cons_succ]
        refine wpAnyH_done (by kernel_rfl) ?_ _
        have hbU := below_next hbW5 hbW5.size hHeld
        have uR := Lib.hid ((hHeld.block _ sR5).trans xR5.out)
        have uZ := Lib.hid ((hHeld.block _ sZ5).trans xZ5.out)
        have sZu : w.heap.size + 1 < T3.heap.size := (Array.getElem?_eq_some_iff.1 uZ.out).1
        clear hHeld g1 g2 g3 hneq ed em1 em2
        by_cases h2 : m1 = m2
        · have HQ2 := HM.out.1 h2
          rw [show bb = true by rw [← hbb]; simp [h2]]
          have HRO := vlt (root_second HX.out e2.out ef.out HQ HQ2)
          clear HM hbb h2 HQ2 HQ
          go_wp2_with (with_reducible refine wpList_load_row rfl 35 (.tmp 5) rfl P3 rfl 35 (u64v [f0, f1, f2, f3]).toArray (0, 0) _ uR.out Tryd.underlying35 rfl (by kernel_rfl) ?_)
          refine (even_any T3 f0 f1 f2 f3 l5.1 l5.2.1 l5.2.2.1 l5.2.2.2).mono ?_
          rintro e T4 ⟨r, rfl, er, hr, g4⟩
          have HF := vlt (show (r, true) = rootOf (ln a) by rw [HRO.out, er.out])
          have hbT4 := below_next hbU hbU.size g4
          have zZ : Hid (T4.heap[w.heap.size + 1]? = some (.cells (bv z32).toArray 24 (0, 0))) := (g4.block _ sZu).trans uZ.out
          have hrs := Lib.hid (bv_size r hr.out)
          go_wp2_with (with_reducible refine wpList_store_row rfl 24 (.tmp 2) (.tmp 30) rfl (w.heap.size + 1) (bv r).toArray rfl rfl 24 _ zZ.out (by rw [hrs.out]; kernel_rfl) (by rw [hrs.out]; kernel_rfl) (all_oneCell_toArray (bv_one _)) ?_)
          refine bodyPost_ret (v := .tuple #[.agg (bv r).toArray, .bool true]) (results_row_tmp Tryd.results7 _ _ (w.heap.size + 1) 24 _ (0, 0) _ rfl (setRow_heap _ _ _ _ _ _ zZ.out) Tryd.underlying24 rfl (by rw [hrs.out]; kernel_rfl) _ rfl) rfl ⟨r, true, rfl, HF, hr, below_setRow hbT4 (by omega) _⟩
        · have HQ2 : ¬ _ := fun h => h2 (HM.out.2 h)
          rw [show bb = false by rw [← hbb]; simp [h2]]
          have HF := vlt (show (z32, false) = rootOf (ln a) from (root_none HX.out e2.out ef.out HQ HQ2).symm)
          clear HM hbb HQ2 HQ
          go_wp2_with (with_reducible refine wpList_store_row rfl 24 (.tmp 2) (.tmp 28) rfl (w.heap.size + 1) (bv z32).toArray rfl rfl 24 _ uZ.out (by kernel_rfl) (by kernel_rfl) (all_oneCell_toArray (bv_one _)) ?_)
          refine bodyPost_ret (v := .tuple #[.agg (bv z32).toArray, .bool false]) (results_row_tmp Tryd.results7 _ _ (w.heap.size + 1) 24 _ (0, 0) _ rfl (setRow_heap _ _ _ _ _ _ uZ.out) Tryd.underlying24 rfl (by kernel_rfl) _ rfl) rfl ⟨z32, false, rfl, HF, z32_len, below_setRow hbU (by omega) _⟩
  · refine step_new (by rfl) rfl ?_
    intro P3 W1 hP3 z3 g1 l3
    have lP3 : V.heap.size ≤ P3 := by have := hHeld.size; have := hP3.out; omega
    have hB1 := below_next hHeld hHeld.size g1
    refine hK.out _ _ (hB1) (fun hHeld => ?_)
    clear hK K
    try simp only [Act.put, List.setIfInBounds_toArray, List.set_cons_zero, List.set_cons_succ]
    refine wpAnyH_ready (rs := [1]) (by kernel_rfl) (by simp) ?_
    refine AllReadyH.cons (i := 1) (o := ⟨(some 9), _, _, _, _, _⟩) rfl (fun K hK => ?_) AllReadyH.nil
    go_simp
    refine (beneath_252 _).mono ?_
    rintro e W2 ⟨rfl, g2⟩
    have hB2 := below_next hHeld hHeld.size g2
    refine hK.out _ _ (hB2) (fun hHeld => ?_)
    clear hK K
    try simp only [Act.put, List.setIfInBounds_toArray, List.set_cons_zero, List.set_cons_succ]
    refine wpAnyH_ready (rs := [2]) (by kernel_rfl) (by simp) ?_
    refine AllReadyH.cons (i := 2) (o := ⟨(some 10), _, _, _, _, _⟩) rfl (fun K hK => ?_) AllReadyH.nil
    go_simp
    refine (power_any _ a0 a1 a2 a3 18446744073709551614 18446744073709551615 18446744073709551615 1152921504606846975 la0 la1 la2 la3 (by decide) (by decide) (by decide) (by decide)).mono ?_
    rintro e W3 ⟨c0, c1, c2, c3, rfl, e2, l4, g3⟩
    have hB3 := below_next hHeld hHeld.size g3
    refine hK.out _ _ (hB3) (fun hHeld => ?_)
    clear hK K
    try simp only [Act.put, List.setIfInBounds_toArray, List.set_cons_zero, List.set_cons_succ]
    refine wpAnyH_ready (rs := [4]) (by kernel_rfl) (by simp) ?_
    refine AllReadyH.cons (i := 4) (o := ⟨none, _, _, _, _, _⟩) rfl (fun K hK => ?_) AllReadyH.nil
    refine step_store_row rfl 35 (.tmp 5) (.tmp 10) rfl P3 (u64v [c0, c1, c2, c3]).toArray rfl rfl 35 _ ((row_next (row_next z3 g2) g3)).out (by kernel_rfl) (by kernel_rfl) (all_oneCell_toArray (u64v_one _)) ?_
    have xR4 : Hid ((W3.setRow P3 (u64v [c0, c1, c2, c3]).toArray).heap[P3]? = some (.cells (u64v [c0, c1, c2, c3]).toArray 35 (0, 0))) := setRow_heap _ _ _ _ _ _ ((row_next (row_next z3 g2) g3)).out
    have hB4 := below_setRow hHeld lP3 (u64v [c0, c1, c2, c3]).toArray
    generalize W3.setRow P3 (u64v [c0, c1, c2, c3]).toArray = W4 at *
    refine hK.out _ _ (hB4) (fun hHeld => ?_)
    clear hK K
    try simp only [Act.put]
    refine wpAnyH_done (by kernel_rfl) ?_ _
    have hb4 := hHeld
    have xA4 := Lib.hid ((hHeld.block _ sAV).trans hgAV.out)
    have xZ4 := Lib.hid ((hHeld.block _ sZV).trans hgZV.out)
    have hbW4 := below_next hbV hbV.size hHeld
    have hla4 := hlaV.below (by have := hlaV.2; omega) hHeld
    have sR4 : P3 < W4.heap.size := (Array.getElem?_eq_some_iff.1 xR4.out).1
    have sA4 : G < W4.heap.size := (Array.getElem?_eq_some_iff.1 xA4.out).1
    have sZ4 : w.heap.size + 1 < W4.heap.size := (Array.getElem?_eq_some_iff.1 xZ4.out).1
    clear hHeld hb4
    go_upto_region 3 with fail
    have hbT := hbW4
    refine wp_region_held_drew (S := (fun W' => Below W4.heap.size W4 W')) (by kernel_rfl) ((Below.refl _ _).drew) (fun hHeld => ?_)
    refine wpAnyH_take (i := 0) (oi := ⟨(some 11), _, _, _, _, _⟩) (v := _) rfl (by kernel_rfl) (by kernel_rfl) (by kernel_rfl) (fun _ _ _ h => h) (yieldsIf_load_mid (by rfl) _ _ rfl P3 0 rfl (u64v [c0, c1, c2, c3]) _ (fun W' hW' => range_row ((hW'.block _ sR4).trans xR4.out)) (Tryd.underlying35) (rfl) (by kernel_rfl)) hHeld ?_
    try simp only [Act.put, List.setIfInBounds_toArray, List.set_cons_zero, List.set_cons_succ]
    refine wpAnyH_take (i := 1) (oi := ⟨(some 12), _, _, _, _, _⟩) (v := _) rfl (by kernel_rfl) (by kernel_rfl) (by kernel_rfl) (fun _ _ _ h => h) (yieldsIf_load_mid (by rfl) _ _ rfl P3 0 rfl (u64v [c0, c1, c2, c3]) _ (fun W' hW' => range_row ((hW'.block _ sR4).trans xR4.out)) (Tryd.underlying35) (rfl) (by kernel_rfl)) hHeld ?_
    try simp only [Act.put, List.setIfInBounds_toArray, List.set_cons_zero, List.set_cons_succ]
    refine wpAnyH_take (i := 4) (oi := ⟨(some 15), _, _, _, _, _⟩) (v := _) rfl (by kernel_rfl) (by kernel_rfl) (by kernel_rfl) (fun _ _ _ h => h) (yieldsIf_load_mid (by rfl) _ _ rfl G 0 rfl (u64v [a0, a1, a2, a3]) _ (fun W' hW' => range_row ((hW'.block _ sA4).trans xA4.out)) (Tryd.underlying35) (rfl) (by kernel_rfl)) hHeld ?_
    try simp only [Act.put, List.setIfInBounds_toArray, List.set_cons_zero, List.set_cons_succ]
    refine wpAnyH_ready (rs := [2]) (by kernel_rfl) (by simp) ?_
    refine AllReadyH.cons (i := 2) (o := ⟨(some 13), _, _, _, _, _⟩) rfl (fun K hK => ?_) AllReadyH.nil
    go_simp
    refine (times_any _ c0 c1 c2 c3 c0 c1 c2 c3 l4.1 l4.2.1 l4.2.2.1 l4.2.2.2 l4.1 l4.2.1 l4.2.2.1 l4.2.2.2).mono ?_
    rintro e T1 ⟨d0, d1, d2, d3, rfl, ed, ⟨ld0, ld1, ld2, ld3⟩, g1⟩
    refine hK.out _ _ (below_next hHeld hHeld.size g1) (fun hHeld => ?_)
    clear hK K
    try simp only [Act.put, List.setIfInBounds_toArray, List.set_cons_zero, List.set_cons_succ]
    refine wpAnyH_ready (rs := [3]) (by kernel_rfl) (by simp) ?_
    refine AllReadyH.cons (i := 3) (o := ⟨(some 14), _, _, _, _, _⟩) rfl (fun K hK => ?_) AllReadyH.nil
    go_simp
    refine (told_any _ d0 d1 d2 d3 ld0 ld1 ld2 ld3).mono ?_
    rintro e T2 ⟨m1, rfl, em1, hm1, g2⟩
    refine hK.out _ _ (below_next hHeld hHeld.size g2) (fun hHeld => ?_)
    clear hK K
    try simp only [Act.put, List.setIfInBounds_toArray, List.set_cons_zero, List.set_cons_succ]
    refine wpAnyH_ready (rs := [5]) (by kernel_rfl) (by simp) ?_
    refine AllReadyH.cons (i := 5) (o := ⟨(some 16), _, _, _, _, _⟩) rfl (fun K hK => ?_) AllReadyH.nil
    go_simp
    refine (told_any _ a0 a1 a2 a3 la0 la1 la2 la3).mono ?_
    rintro e T3 ⟨m2, rfl, em2, hm2, g3⟩
    refine hK.out _ _ (below_next hHeld hHeld.size g3) (fun hHeld => ?_)
    clear hK K
    try simp only [Act.put, List.setIfInBounds_toArray, List.set_cons_zero, List.set_cons_succ]
    have hneq := neq_bytes (P := Tryd.prog) Tryd.underlying24 Tryd.underlying5 Tryd.sizeByte m1 m2 hm1.out hm2.out
    have HM := vlt (show m1 = m2 ↔ n4 c0 c1 c2 c3 * n4 c0 c1 c2 c3 % FP = n4 a0 a1 a2 a3 % FP by rw [em1.out, em2.out, ed.out]; exact wo_iff _ _)
    generalize hbb : decide (m1 = m2) = bb at *
    refine wpAnyH_take (i := 6) (oi := ⟨(some 17), _, _, _, _, _⟩) (v := ?vq3001_0) rfl (by kernel_rfl) (by kernel_rfl) (by kernel_rfl) (fun _ _ _ h => h) (Or.inl ⟨by rfl, ?yq3001_0⟩) hHeld ?_
    case yq3001_0 => (intro W0 hSw; go_simp; try with_reducible rfl)
    try simp only [Act.put, List.setIfInBounds_toArray, List.set_cons_zero, List.set_cons_succ]
    refine wpAnyH_done (by kernel_rfl) ?_ _
    have hbT3 := below_next hbW4 hbW4.size hHeld
    have yR := Lib.hid ((hHeld.block _ sR4).trans xR4.out)
    have yA := Lib.hid ((hHeld.block _ sA4).trans xA4.out)
    have yZ := Lib.hid ((hHeld.block _ sZ4).trans xZ4.out)
    have hlT := hla4.below (by have := hla4.2; omega) hHeld
    have sRy : P3 < T3.heap.size := (Array.getElem?_eq_some_iff.1 yR.out).1
    have sAy : G < T3.heap.size := (Array.getElem?_eq_some_iff.1 yA.out).1
    have sZy : w.heap.size + 1 < T3.heap.size := (Array.getElem?_eq_some_iff.1 yZ.out).1
    clear hHeld g1 g2 g3 hneq ed em1 em2
    by_cases h1 : m1 = m2
    · have HQ := HM.out.1 h1
      rw [show bb = true by rw [← hbb]; simp [h1]]
      have HRO := vlt (root_first HX.out e2.out HQ)
      clear HM hbb h1
      go_upto_region 5 with fail
      refine wp_region_held_drew (S := (fun W' => Below T3.heap.size T3 W')) (by kernel_rfl) ((Below.refl _ _).drew) (fun hHeld => ?_)
      refine wpAnyH_take (i := 0) (oi := ⟨(some 21), _, _, _, _, _⟩) (v := _) rfl (by kernel_rfl) (by kernel_rfl) (by kernel_rfl) (fun _ _ _ h => h) (yieldsIf_load_mid (by rfl) _ _ rfl P3 0 rfl (u64v [c0, c1, c2, c3]) _ (fun W' hW' => range_row ((hW'.block _ sRy).trans yR.out)) (Tryd.underlying35) (rfl) (by kernel_rfl)) hHeld ?_
      try simp only [Act.put, List.setIfInBounds_toArray, List.set_cons_zero, List.set_cons_succ]
      refine wpAnyH_take (i := 1) (oi := ⟨(some 22), _, _, _, _, _⟩) (v := _) rfl (by kernel_rfl) (by kernel_rfl) (by kernel_rfl) (fun _ _ _ h => h) (yieldsIf_load_mid (by rfl) _ _ rfl P3 0 rfl (u64v [c0, c1, c2, c3]) _ (fun W' hW' => range_row ((hW'.block _ sRy).trans yR.out)) (Tryd.underlying35) (rfl) (by kernel_rfl)) hHeld ?_
      try simp only [Act.put, List.setIfInBounds_toArray, List.set_cons_zero, List.set_cons_succ]
      refine wpAnyH_take (i := 4) (oi := ⟨(some 25), _, _, _, _, _⟩) (v := _) rfl (by kernel_rfl) (by kernel_rfl) (by kernel_rfl) (fun _ _ _ h => h) (yieldsIf_load_mid (by rfl) _ _ rfl G 0 rfl (u64v [a0, a1, a2, a3]) _ (fun W' hW' => range_row ((hW'.block _ sAy).trans yA.out)) (Tryd.underlying35) (rfl) (by kernel_rfl)) hHeld ?_
      try simp only [Act.put, List.setIfInBounds_toArray, List.set_cons_zero, List.set_cons_succ]
      refine wpAnyH_ready (rs := [2]) (by kernel_rfl) (by simp) ?_
      refine AllReadyH.cons (i := 2) (o := ⟨(some 23), _, _, _, _, _⟩) rfl (fun K hK => ?_) AllReadyH.nil
      go_simp
      refine (times_any _ c0 c1 c2 c3 c0 c1 c2 c3 l4.1 l4.2.1 l4.2.2.1 l4.2.2.2 l4.1 l4.2.1 l4.2.2.1 l4.2.2.2).mono ?_
      rintro e U1 ⟨k0, k1, k2, k3, rfl, ek, ⟨lk0, lk1, lk2, lk3⟩, g1⟩
      refine hK.out _ _ (below_next hHeld hHeld.size g1) (fun hHeld => ?_)
      clear hK K
      try simp only [Act.put, List.setIfInBounds_toArray, List.set_cons_zero, List.set_cons_succ]
      refine wpAnyH_ready (rs := [3]) (by kernel_rfl) (by simp) ?_
      refine AllReadyH.cons (i := 3) (o := ⟨(some 24), _, _, _, _, _⟩) rfl (fun K hK => ?_) AllReadyH.nil
      go_simp
      refine (told_any _ k0 k1 k2 k3 lk0 lk1 lk2 lk3).mono ?_
      rintro e U2 ⟨n1, rfl, en1, hn1, g2⟩
      refine hK.out _ _ (below_next hHeld hHeld.size g2) (fun hHeld => ?_)
      clear hK K
      try simp only [Act.put, List.setIfInBounds_toArray, List.set_cons_zero, List.set_cons_succ]
      refine wpAnyH_ready (rs := [5]) (by kernel_rfl) (by simp) ?_
      refine AllReadyH.cons (i := 5) (o := ⟨(some 26), _, _, _, _, _⟩) rfl (fun K hK => ?_) AllReadyH.nil
      go_simp
      refine (told_any _ a0 a1 a2 a3 la0 la1 la2 la3).mono ?_
      rintro e U3 ⟨n2, rfl, en2, hn2, g3⟩
      refine hK.out _ _ (below_next hHeld hHeld.size g3) (fun hHeld => ?_)
      clear hK K
      try simp only [Act.put, List.setIfInBounds_toArray, List.set_cons_zero, List.set_cons_succ]
      obtain rfl : n1 = n2 := by rw [en1.out, en2.out, ek.out]; exact (wo_iff _ _).2 HQ
      have hneq := neq_bytes (P := Tryd.prog) Tryd.underlying24 Tryd.underlying5 Tryd.sizeByte n1 n1 hn1.out hn1.out
      rw [show (!decide (n1 = n1)) = false by simp] at hneq
      refine wpAnyH_take (i := 6) (oi := ⟨(some 27), _, _, _, _, _⟩) (v := ?vq3002_0) rfl (by kernel_rfl) (by kernel_rfl) (by kernel_rfl) (fun _ _ _ h => h) (Or.inl ⟨by rfl, ?yq3002_0⟩) hHeld ?_
      case yq3002_0 => (intro W0 hSw; go_simp; try with_reducible rfl)
      try simp only [Act.put, List.setIfInBounds_toArray, List.set_cons_zero, List.set_cons_succ]
      refine wpAnyH_done (by kernel_rfl) ?_ _
      have hbU3 := below_next hbT3 hbT3.size hHeld
      have uR := Lib.hid ((hHeld.block _ sRy).trans yR.out)
      have uZ := Lib.hid ((hHeld.block _ sZy).trans yZ.out)
      have sZu : w.heap.size + 1 < U3.heap.size := (Array.getElem?_eq_some_iff.1 uZ.out).1
      clear hHeld g1 g2 g3 hneq ek en1 en2 HQ
      go_wp2_with (with_reducible refine wpList_load_row rfl 35 (.tmp 5) rfl P3 rfl 35 (u64v [c0, c1, c2, c3]).toArray (0, 0) _ uR.out Tryd.underlying35 rfl (by kernel_rfl) ?_)
      refine (even_any U3 c0 c1 c2 c3 l4.1 l4.2.1 l4.2.2.1 l4.2.2.2).mono ?_
      rintro e T4 ⟨r, rfl, er, hr, g4⟩
      have HF := vlt (show (r, true) = rootOf (ln a) by rw [HRO.out, er.out])
      have hbT4 := below_next hbU3 hbU3.size g4
      have zZ : Hid (T4.heap[w.heap.size + 1]? = some (.cells (bv z32).toArray 24 (0, 0))) := (g4.block _ sZu).trans uZ.out
      have hrs := Lib.hid (bv_size r hr.out)
      go_wp2_with (with_reducible refine wpList_store_row rfl 24 (.tmp 2) (.tmp 30) rfl (w.heap.size + 1) (bv r).toArray rfl rfl 24 _ zZ.out (by rw [hrs.out]; kernel_rfl) (by rw [hrs.out]; kernel_rfl) (all_oneCell_toArray (bv_one _)) ?_)
      refine bodyPost_ret (v := .tuple #[.agg (bv r).toArray, .bool true]) (results_row_tmp Tryd.results7 _ _ (w.heap.size + 1) 24 _ (0, 0) _ rfl (setRow_heap _ _ _ _ _ _ zZ.out) Tryd.underlying24 rfl (by rw [hrs.out]; kernel_rfl) _ rfl) rfl ⟨r, true, rfl, HF, hr, below_setRow hbT4 (by omega) _⟩
    · have HQ : ¬ _ := fun h => h1 (HM.out.2 h)
      rw [show bb = false by rw [← hbb]; simp [h1]]
      clear HM hbb
      go_wp2_with (first
        | (with_reducible refine wpList_load_row rfl 35 (.tmp 5) rfl P3 rfl 35 (u64v [c0, c1, c2, c3]).toArray (0, 0) _ yR.out Tryd.underlying35 rfl (by kernel_rfl) ?_)
        | (with_reducible refine wpList_load_mid rfl 35 (.global 0) rfl 0 0 rfl (u64v turnL) _ hlT.range Tryd.underlying35 rfl (by kernel_rfl) ?_))
      refine (times_any T3 c0 c1 c2 c3 14190309331451158704 3405592160176694392 3120150775007532967 3135389899092516619 l4.1 l4.2.1 l4.2.2.1 l4.2.2.2 (by decide) (by decide) (by decide) (by decide)).mono ?_
      rintro e T4 ⟨f0, f1, f2, f3, rfl, ef, l5, g4⟩
      have hbT4 := below_next hbT3 hbT3.size g4
      have vR : Hid (T4.heap[P3]? = some (.cells (u64v [c0, c1, c2, c3]).toArray 35 (0, 0))) := (g4.block _ sRy).trans yR.out
      have vA : Hid (T4.heap[G]? = some (.cells (u64v [a0, a1, a2, a3]).toArray 35 (0, 0))) := (g4.block _ sAy).trans yA.out
      have vZ : Hid (T4.heap[w.heap.size + 1]? = some (.cells (bv z32).toArray 24 (0, 0))) := (g4.block _ sZy).trans yZ.out
      go_upto_region 5 with (with_reducible refine wpList_store_row rfl 35 (.tmp 5) (.tmp 20) rfl P3 (u64v [f0, f1, f2, f3]).toArray rfl rfl 35 _ vR.out (by kernel_rfl) (by kernel_rfl) (all_oneCell_toArray (u64v_one _)) ?_)
      obtain ⟨W5, hW5⟩ : ∃ W5, W5 = T4.setRow P3 (u64v [f0, f1, f2, f3]).toArray := ⟨_, rfl⟩
      rw [← hW5]
      have xR5 : Hid (W5.heap[P3]? = some (.cells (u64v [f0, f1, f2, f3]).toArray 35 (0, 0))) := by rw [hW5]; exact setRow_heap _ _ _ _ _ _ vR.out
      have xA5 : Hid (W5.heap[G]? = some (.cells (u64v [a0, a1, a2, a3]).toArray 35 (0, 0))) := by rw [hW5]; exact (setRow_other _ _ _ _ (by omega)).trans vA.out
      have xZ5 : Hid (W5.heap[w.heap.size + 1]? = some (.cells (bv z32).toArray 24 (0, 0))) := by rw [hW5]; exact (setRow_other _ _ _ _ (by omega)).trans vZ.out
      have hbW5 : Below w.heap.size w W5 := by rw [hW5]; exact below_setRow hbT4 (by omega) _
      have sR5 : P3 < W5.heap.size := (Array.getElem?_eq_some_iff.1 xR5.out).1
      have sA5 : G < W5.heap.size := (Array.getElem?_eq_some_iff.1 xA5.out).1
      have sZ5 : w.heap.size + 1 < W5.heap.size := (Array.getElem?_eq_some_iff.1 xZ5.out).1
      clear hW5 vR vA vZ hbT4 g4 yR yA yZ hlT
      refine wp_region_held_drew (S := (fun W' => Below W5.heap.size W5 W')) (by kernel_rfl) ((Below.refl _ _).drew) (fun hHeld => ?_)
      refine wpAnyH_take (i := 0) (oi := ⟨(some 21), _, _, _, _, _⟩) (v := _) rfl (by kernel_rfl) (by kernel_rfl) (by kernel_rfl) (fun _ _ _ h => h) (yieldsIf_load_mid (by rfl) _ _ rfl P3 0 rfl (u64v [f0, f1, f2, f3]) _ (fun W' hW' => range_row ((hW'.block _ sR5).trans xR5.out)) (Tryd.underlying35) (rfl) (by kernel_rfl)) hHeld ?_
      try simp only [Act.put, List.setIfInBounds_toArray, List.set_cons_zero, List.set_cons_succ]
      refine wpAnyH_take (i := 1) (oi := ⟨(some 22), _, _, _, _, _⟩) (v := _) rfl (by kernel_rfl) (by kernel_rfl) (by kernel_rfl) (fun _ _ _ h => h) (yieldsIf_load_mid (by rfl) _ _ rfl P3 0 rfl (u64v [f0, f1, f2, f3]) _ (fun W' hW' => range_row ((hW'.block _ sR5).trans xR5.out)) (Tryd.underlying35) (rfl) (by kernel_rfl)) hHeld ?_
      try simp only [Act.put, List.setIfInBounds_toArray, List.set_cons_zero, List.set_cons_succ]
      refine wpAnyH_take (i := 4) (oi := ⟨(some 25), _, _, _, _, _⟩) (v := _) rfl (by kernel_rfl) (by kernel_rfl) (by kernel_rfl) (fun _ _ _ h => h) (yieldsIf_load_mid (by rfl) _ _ rfl G 0 rfl (u64v [a0, a1, a2, a3]) _ (fun W' hW' => range_row ((hW'.block _ sA5).trans xA5.out)) (Tryd.underlying35) (rfl) (by kernel_rfl)) hHeld ?_
      try simp only [Act.put, List.setIfInBounds_toArray, List.set_cons_zero, List.set_cons_succ]
      refine wpAnyH_ready (rs := [2]) (by kernel_rfl) (by simp) ?_
      refine AllReadyH.cons (i := 2) (o := ⟨(some 23), _, _, _, _, _⟩) rfl (fun K hK => ?_) AllReadyH.nil
      go_simp
      refine (times_any _ f0 f1 f2 f3 f0 f1 f2 f3 l5.1 l5.2.1 l5.2.2.1 l5.2.2.2 l5.1 l5.2.1 l5.2.2.1 l5.2.2.2).mono ?_
      rintro e T1 ⟨d0, d1, d2, d3, rfl, ed, ⟨ld0, ld1, ld2, ld3⟩, g1⟩
      refine hK.out _ _ (below_next hHeld hHeld.size g1) (fun hHeld => ?_)
      clear hK K
      try simp only [Act.put, List.setIfInBounds_toArray, List.set_cons_zero, List.set_cons_succ]
      refine wpAnyH_ready (rs := [3]) (by kernel_rfl) (by simp) ?_
      refine AllReadyH.cons (i := 3) (o := ⟨(some 24), _, _, _, _, _⟩) rfl (fun K hK => ?_) AllReadyH.nil
      go_simp
      refine (told_any _ d0 d1 d2 d3 ld0 ld1 ld2 ld3).mono ?_
      rintro e T2 ⟨m1, rfl, em1, hm1, g2⟩
      refine hK.out _ _ (below_next hHeld hHeld.size g2) (fun hHeld => ?_)
      clear hK K
      try simp only [Act.put, List.setIfInBounds_toArray, List.set_cons_zero, List.set_cons_succ]
      refine wpAnyH_ready (rs := [5]) (by kernel_rfl) (by simp) ?_
      refine AllReadyH.cons (i := 5) (o := ⟨(some 26), _, _, _, _, _⟩) rfl (fun K hK => ?_) AllReadyH.nil
      go_simp
      refine (told_any _ a0 a1 a2 a3 la0 la1 la2 la3).mono ?_
      rintro e T3 ⟨m2, rfl, em2, hm2, g3⟩
      refine hK.out _ _ (below_next hHeld hHeld.size g3) (fun hHeld => ?_)
      clear hK K
      try simp only [Act.put, List.setIfInBounds_toArray, List.set_cons_zero, List.set_cons_succ]
      have hneq := neq_bytes (P := Tryd.prog) Tryd.underlying24 Tryd.underlying5 Tryd.sizeByte m1 m2 hm1.out hm2.out
      have HM := vlt (show m1 = m2 ↔ n4 f0 f1 f2 f3 * n4 f0 f1 f2 f3 % FP = n4 a0 a1 a2 a3 % FP by rw [em1.out, em2.out, ed.out]; exact wo_iff _ _)
      generalize hbb : decide (m1 = m2) = bb at *
      refine wpAnyH_take (i := 6) (oi := ⟨(some 27), _, _, _, _, _⟩) (v := ?vq3003_0) rfl (by kernel_rfl) (by kernel_rfl) (by kernel_rfl) (fun _ _ _ h => h) (Or.inl ⟨by rfl, ?yq3003_0⟩) hHeld ?_
      case yq3003_0 => (intro W0 hSw; go_simp; try with_reducible rfl)
      try simp only [Act.put, List.setIfInBounds_toArray, List.set_cons_zero, List.set_cons_succ]
      refine wpAnyH_done (by kernel_rfl) ?_ _
      have hbU := below_next hbW5 hbW5.size hHeld
      have uR := Lib.hid ((hHeld.block _ sR5).trans xR5.out)
      have uZ := Lib.hid ((hHeld.block _ sZ5).trans xZ5.out)
      have sZu : w.heap.size + 1 < T3.heap.size := (Array.getElem?_eq_some_iff.1 uZ.out).1
      clear hHeld g1 g2 g3 hneq ed em1 em2
      by_cases h2 : m1 = m2
      · have HQ2 := HM.out.1 h2
        rw [show bb = true by rw [← hbb]; simp [h2]]
        have HRO := vlt (root_second HX.out e2.out ef.out HQ HQ2)
        clear HM hbb h2 HQ2 HQ
        go_wp2_with (with_reducible refine wpList_load_row rfl 35 (.tmp 5) rfl P3 rfl 35 (u64v [f0, f1, f2, f3]).toArray (0, 0) _ uR.out Tryd.underlying35 rfl (by kernel_rfl) ?_)
        refine (even_any T3 f0 f1 f2 f3 l5.1 l5.2.1 l5.2.2.1 l5.2.2.2).mono ?_
        rintro e T4 ⟨r, rfl, er, hr, g4⟩
        have HF := vlt (show (r, true) = rootOf (ln a) by rw [HRO.out, er.out])
        have hbT4 := below_next hbU hbU.size g4
        have zZ : Hid (T4.heap[w.heap.size + 1]? = some (.cells (bv z32).toArray 24 (0, 0))) := (g4.block _ sZu).trans uZ.out
        have hrs := Lib.hid (bv_size r hr.out)
        go_wp2_with (with_reducible refine wpList_store_row rfl 24 (.tmp 2) (.tmp 30) rfl (w.heap.size + 1) (bv r).toArray rfl rfl 24 _ zZ.out (by rw [hrs.out]; kernel_rfl) (by rw [hrs.out]; kernel_rfl) (all_oneCell_toArray (bv_one _)) ?_)
        refine bodyPost_ret (v := .tuple #[.agg (bv r).toArray, .bool true]) (results_row_tmp Tryd.results7 _ _ (w.heap.size + 1) 24 _ (0, 0) _ rfl (setRow_heap _ _ _ _ _ _ zZ.out) Tryd.underlying24 rfl (by rw [hrs.out]; kernel_rfl) _ rfl) rfl ⟨r, true, rfl, HF, hr, below_setRow hbT4 (by omega) _⟩
      · have HQ2 : ¬ _ := fun h => h2 (HM.out.2 h)
        rw [show bb = false by rw [← hbb]; simp [h2]]
        have HF := vlt (show (z32, false) = rootOf (ln a) from (root_none HX.out e2.out ef.out HQ HQ2).symm)
        clear HM hbb HQ2 HQ
        go_wp2_with (with_reducible refine wpList_store_row rfl 24 (.tmp 2) (.tmp 28) rfl (w.heap.size + 1) (bv z32).toArray rfl rfl 24 _ uZ.out (by kernel_rfl) (by kernel_rfl) (all_oneCell_toArray (bv_one _)) ?_)
        refine bodyPost_ret (v := .tuple #[.agg (bv z32).toArray, .bool false]) (results_row_tmp Tryd.results7 _ _ (w.heap.size + 1) 24 _ (0, 0) _ rfl (setRow_heap _ _ _ _ _ _ uZ.out) Tryd.underlying24 rfl (by kernel_rfl) _ rfl) rfl ⟨z32, false, rfl, HF, z32_len, below_setRow hbU (by omega) _⟩
end Go.Proofs.YtpnodegmegpooaaDoor
