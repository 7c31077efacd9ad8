/-
  Words and contracts that other texts share, several in one text. No statement of the seat is proved here. Conditions: as each contract says.
  Contract of field's Root: the even root, or none. Conditions: the package's own number lies as the program's text lays it.
  Roots modulo the prime: words that the laws of this seat use. No statement is proved here. Conditions: none.
  The document's root, raw: words. No statement is proved here. Conditions: none.
  The document's own root beside the package's: words. No statement is proved here. Conditions: none.
  Places: points in four numbers as the package adds them, and roots modulo the prime as the curve asks for them. No statement is proved here. Conditions: none.
-/
import Derived.Test.YtcefdcjpddohaaaDoorPkD
import Derived.Test.YtcefdcjpddohaaaDoorPkC
namespace Go.Proofs.YtcefdcjpddohaaaDoor
open Go.RowKit

/-- The package's own number; a number's first root. -/
def turnL : List Nat := [14190309331451158704, 3405592160176694392, 3120150775007532967, 3135389899092516619]
def TRN : Nat := 19681161376707505956807079304988542015446066515923890162744021073123829784752
def E8 : Nat := 7237005577332262213973186563042994240829374041602535252466099000494570602494
theorem trn_n4 : n4 14190309331451158704 3405592160176694392 3120150775007532967 3135389899092516619 = TRN := by decide
theorem e8_n4 : n4 18446744073709551614 18446744073709551615 18446744073709551615 1152921504606846975 = E8 := by decide
def Laid (w : World) : Prop := (∀ k x : Nat, turnL[k]? = some x → w.cell? ⟨4, k, none⟩ = some (.int .u64 (x : Int))) ∧ 4 < w.heap.size
theorem Laid.below {w w' : World} {B : Nat} (h : Laid w) (hB : 4 < B) (hb : Below B w w') : Laid w' :=
  ⟨fun k x hx => (World.cell?_of_block (hb.block 4 (by omega))).trans (h.1 k x hx), Nat.le_trans h.2 hb.size⟩
theorem Laid.range {w : World} (h : Laid w) : w.rangeAt 4 0 (u64v turnL) := by
  intro j v hj
  rw [u64v_at] at hj
  obtain ⟨x, hx, rfl⟩ := Option.map_eq_some_iff.1 hj
  rw [Nat.zero_add]
  exact h.1 j x hx
/-- The root, as the chapter has it. -/
def rootOf (x : Nat) : List UInt8 × Bool :=
  if x ^ E8 * x ^ E8 % FP = x % FP then (evenW (x ^ E8), true)
  else if (x ^ E8 * TRN) * (x ^ E8 * TRN) % FP = x % FP then (evenW (x ^ E8 * TRN), true) else (z32, false)
theorem evenW_of {r s : Nat} (h : r % FP = s % FP) : evenW r = evenW s := by
  have h2 : subF 0 r = subF 0 s := by rw [subF, subF, h]
  rw [evenW, evenW, h, h2, wo_of h]
theorem sq_of {r s : Nat} (h : r % FP = s % FP) : r * r % FP = s * s % FP := by rw [Nat.mul_mod, h, ← Nat.mul_mod]
theorem root_first {x A C : Nat} (hx : A = x) (h2 : C % FP = A ^ n4 18446744073709551614 18446744073709551615 18446744073709551615 1152921504606846975 % FP) (hq : C * C % FP = A % FP) : rootOf x = (evenW C, true) := by
  subst hx
  rw [e8_n4] at h2
  rw [rootOf, if_pos (by rw [← sq_of h2]; exact hq), evenW_of h2]
theorem mul_of {r s t : Nat} (h : r % FP = s % FP) : r * t % FP = s * t % FP := by rw [Nat.mul_mod, h, ← Nat.mul_mod]
theorem root_second {x A C F : Nat} (hx : A = x) (h2 : C % FP = A ^ n4 18446744073709551614 18446744073709551615 18446744073709551615 1152921504606846975 % FP)
    (h3 : F % FP = C * n4 14190309331451158704 3405592160176694392 3120150775007532967 3135389899092516619 % FP) (hq : ¬ C * C % FP = A % FP) (hq2 : F * F % FP = A % FP) : rootOf x = (evenW F, true) := by
  subst hx
  rw [e8_n4] at h2
  rw [trn_n4, mul_of h2] at h3
  rw [rootOf, if_neg (by rw [← sq_of h2]; exact hq), if_pos (by rw [← sq_of h3]; exact hq2), evenW_of h3]
theorem root_none {x A C F : Nat} (hx : A = x) (h2 : C % FP = A ^ n4 18446744073709551614 18446744073709551615 18446744073709551615 1152921504606846975 % FP)
    (h3 : F % FP = C * n4 14190309331451158704 3405592160176694392 3120150775007532967 3135389899092516619 % FP) (hq : ¬ C * C % FP = A % FP) (hq2 : ¬ F * F % FP = A % FP) : rootOf x = (z32, false) := by
  subst hx
  rw [e8_n4] at h2
  rw [trn_n4, mul_of h2] at h3
  rw [rootOf, if_neg (by rw [← sq_of h2]; exact hq), if_neg (by rw [← sq_of h3]; exact hq2)]
set_option maxRecDepth 100000 in
theorem wo_iff (N M : Nat) : le (N % FP) 32 = le (M % FP) 32 ↔ N % FP = M % FP := ⟨fun h => wo_inj h, fun h => wo_of h⟩

set_option maxRecDepth 100000 in
set_option maxHeartbeats 4000000 in
theorem root_any (w : World) (hla : Laid w) (a : List UInt8) (ha : a.length = 32) :
    Calls Tryd.prog 62 #[.agg (bv a).toArray] w fun e w' => ∃ l ok, e = .returned (.tuple #[.agg (bv l).toArray, .bool ok]) ∧ Vlt ((l, ok) = rootOf (ln a)) ∧ Hid (l.length = 32) ∧ Below w.heap.size w w' := by
  have hzw := zero_word
  have hzn := zero_n4
  obtain ⟨W, hW, hgA, hgZ, hbW, hsW⟩ := pair_new w (bv a).toArray (bv z32).toArray 23 23
  have HW := Lib.hid hW
  have HA := Lib.hid ha
  have HS := Lib.hid (bv_size a ha)
  have hlaW := hla.below hla.2 hbW
  have hs1 : w.heap.size + 1 < W.heap.size := by have := hsW.out; omega
  clear hW ha hsW
  go_enter Tryd.func62, Tryd.ntmps62
  go_upto_region 1 with fail
  rw [HW.out]
  go_wp2_with (with_reducible refine wpList_load_row rfl 23 (.tmp 1) rfl w.heap.size rfl 23 (bv a).toArray (0, 0) _ hgA.out Tryd.underlying23 rfl (by rw [HS.out]; kernel_rfl) ?_)
  refine (numberOf_any W a HA.out).mono ?_
  rintro e Y ⟨a0, a1, a2, a3, rfl, eA, ⟨la0, la1, la2, la3⟩, hbY⟩
  have hbw1 := below_next hbW hbW.size hbY
  have hgZ1 := Lib.hid ((hbY.block _ hs1).trans hgZ.out)
  have hlaY := hlaW.below hlaW.2 hbY
  have hs2 : w.heap.size + 1 < Y.heap.size := (Array.getElem?_eq_some_iff.1 hgZ1.out).1
  clear hgA hgZ hlaW
  go_upto_region 2 with ((with_reducible refine wpList_store_row rfl 96 (.tmp 4) (.tmp 7) rfl Y.heap.size (u64v [a0, a1, a2, a3]).toArray rfl rfl 96 _ (heap_alloc_new _ _) (by kernel_rfl) (by kernel_rfl) (all_oneCell_toArray (u64v_one _)) ?_); rw [World.setRow_alloc_new])
  obtain ⟨V, hV⟩ : ∃ V, V = Y.alloc (.cells (u64v [a0, a1, a2, a3]).toArray 96) := ⟨_, rfl⟩
  rw [← hV]
  have hgZV : Hid (V.heap[w.heap.size + 1]? = some (.cells (bv z32).toArray 23 (0, 0))) := by rw [hV]; exact (Below.heap_alloc _ _ _ hs2).trans hgZ1.out
  have hgAV : Hid (V.heap[Y.heap.size]? = some (.cells (u64v [a0, a1, a2, a3]).toArray 96 (0, 0))) := by rw [hV]; exact heap_alloc_new _ _
  have hbV : Below w.heap.size w V := by rw [hV]; exact hbw1.alloc hbw1.size _
  have hlaV : Laid V := by rw [hV]; exact hlaY.below hlaY.2 ((Below.refl _ _).alloc (Nat.le_refl _) _)
  obtain ⟨G, hG⟩ : ∃ G, G = Y.heap.size := ⟨_, rfl⟩
  rw [← hG] at hgAV hs2 ⊢
  clear hV hG hgZ1 hbw1 hlaY
  have sAV : G < V.heap.size := (Array.getElem?_eq_some_iff.1 hgAV.out).1
  have sZV : w.heap.size + 1 < V.heap.size := (Array.getElem?_eq_some_iff.1 hgZV.out).1
  have HX := vlt eA.out
  clear eA
  refine wp_region_held_drew (S := (fun W' => Below V.heap.size V W')) (by kernel_rfl) ((Below.refl _ _).drew) (fun hHeld => ?_)
  refine wpAnyH_take (i := 0) (oi := ⟨(some 8), _, _, _, _, _⟩) (v := _) rfl (by kernel_rfl) (by kernel_rfl) (by kernel_rfl) (fun _ _ _ h => h) (yieldsIf_load_mid (by rfl) _ _ rfl G 0 rfl (u64v [a0, a1, a2, a3]) _ (fun W' hW' => range_row ((hW'.block _ sAV).trans hgAV.out)) (Tryd.underlying96) (rfl) (by kernel_rfl)) hHeld ?_
  try simp only [Act.put, List.setIfInBounds_toArray, List.set_cons_zero, List.set_cons_succ]
  refine wpAnyH_ready (rs := [1, 3]) (by kernel_rfl) (by simp) ?_
  refine AllReadyH.cons (i := 1) (o := ⟨(some 9), _, _, _, _, _⟩) rfl (fun K hK => ?_) (AllReadyH.cons (i := 3) (o := ⟨(some 5), _, _, _, _, _⟩) rfl (fun K hK => ?_) AllReadyH.nil)
  · go_simp
    refine (beneath_252 _).mono ?_
    rintro e W1 ⟨rfl, g1⟩
    have hB1 := below_next hHeld hHeld.size g1
    refine hK.out _ _ (hB1) (fun hHeld => ?_)
    clear hK K
    try simp only [Act.put, List.setIfInBounds_toArray, List.set_cons_zero, List.set_cons_succ]
    refine wpAnyH_ready (rs := [2, 3]) (by kernel_rfl) (by simp) ?_
    refine AllReadyH.cons (i := 2) (o := ⟨(some 10), _, _, _, _, _⟩) rfl (fun K hK => ?_) (AllReadyH.cons (i := 3) (o := ⟨(some 5), _, _, _, _, _⟩) rfl (fun K hK => ?_) AllReadyH.nil)
    · go_simp
      refine (power_any _ a0 a1 a2 a3 18446744073709551614 18446744073709551615 18446744073709551615 1152921504606846975 la0 la1 la2 la3 (by decide) (by decide) (by decide) (by decide)).mono ?_
      rintro e W2 ⟨c0, c1, c2, c3, rfl, e2, l4, g2⟩
      have hB2 := below_next hHeld hHeld.size g2
      refine hK.out _ _ (hB2) (fun hHeld => ?_)
      clear hK K
      try simp only [Act.put, List.setIfInBounds_toArray, List.set_cons_zero, List.set_cons_succ]
      refine wpAnyH_ready (rs := [3]) (by kernel_rfl) (by simp) ?_
      refine AllReadyH.cons (i := 3) (o := ⟨(some 5), _, _, _, _, _⟩) rfl (fun K hK => ?_) AllReadyH.nil
      refine step_new (by rfl) rfl ?_
      intro P3 W3 hP3 z3 g3 l3
      have lP3 : V.heap.size ≤ P3 := by have := hHeld.size; have := hP3.out; omega
      have hB3 := below_next hHeld hHeld.size g3
      refine hK.out _ _ (hB3) (fun hHeld => ?_)
      clear hK K
      try simp only [Act.put, List.setIfInBounds_toArray, List.set_cons_zero, List.set_cons_succ]
      refine wpAnyH_ready (rs := [4]) (by kernel_rfl) (by simp) ?_
      refine AllReadyH.cons (i := 4) (o := ⟨none, _, _, _, _, _⟩) rfl (fun K hK => ?_) AllReadyH.nil
      refine step_store_row rfl 96 (.tmp 5) (.tmp 10) rfl P3 (u64v [c0, c1, c2, c3]).toArray rfl rfl 96 _ (z3).out (by kernel_rfl) (by kernel_rfl) (all_oneCell_toArray (u64v_one _)) ?_
      have xR4 : Hid ((W3.setRow P3 (u64v [c0, c1, c2, c3]).toArray).heap[P3]? = some (.cells (u64v [c0, c1, c2, c3]).toArray 96 (0, 0))) := setRow_heap _ _ _ _ _ _ (z3).out
      have hB4 := below_setRow hHeld lP3 (u64v [c0, c1, c2, c3]).toArray
      generalize W3.setRow P3 (u64v [c0, c1, c2, c3]).toArray = W4 at *
      refine hK.out _ _ (hB4) (fun hHeld => ?_)
      clear hK K
      try simp only [Act.put]
      refine wpAnyH_done (by kernel_rfl) ?_ _
      have hb4 := hHeld
      have xA4 := Lib.hid ((hHeld.block _ sAV).trans hgAV.out)
      have xZ4 := Lib.hid ((hHeld.block _ sZV).trans hgZV.out)
      have hbW4 := below_next hbV hbV.size hHeld
      have hla4 := hlaV.below (by have := hlaV.2; omega) hHeld
      have sR4 : P3 < W4.heap.size := (Array.getElem?_eq_some_iff.1 xR4.out).1
      have sA4 : G < W4.heap.size := (Array.getElem?_eq_some_iff.1 xA4.out).1
      have sZ4 : w.heap.size + 1 < W4.heap.size := (Array.getElem?_eq_some_iff.1 xZ4.out).1
      clear hHeld hb4
      go_upto_region 3 with fail
      have hbT := hbW4
      refine wp_region_held_drew (S := (fun W' => Below W4.heap.size W4 W')) (by kernel_rfl) ((Below.refl _ _).drew) (fun hHeld => ?_)
      refine wpAnyH_take (i := 0) (oi := ⟨(some 11), _, _, _, _, _⟩) (v := _) rfl (by kernel_rfl) (by kernel_rfl) (by kernel_rfl) (fun _ _ _ h => h) (yieldsIf_load_mid (by rfl) _ _ rfl P3 0 rfl (u64v [c0, c1, c2, c3]) _ (fun W' hW' => range_row ((hW'.block _ sR4).trans xR4.out)) (Tryd.underlying96) (rfl) (by kernel_rfl)) hHeld ?_
      try simp only [Act.put, List.setIfInBounds_toArray, List.set_cons_zero, List.set_cons_succ]
      refine wpAnyH_take (i := 1) (oi := ⟨(some 12), _, _, _, _, _⟩) (v := _) rfl (by kernel_rfl) (by kernel_rfl) (by kernel_rfl) (fun _ _ _ h => h) (yieldsIf_load_mid (by rfl) _ _ rfl P3 0 rfl (u64v [c0, c1, c2, c3]) _ (fun W' hW' => range_row ((hW'.block _ sR4).trans xR4.out)) (Tryd.underlying96) (rfl) (by kernel_rfl)) hHeld ?_
      try simp only [Act.put, List.setIfInBounds_toArray, List.set_cons_zero, List.set_cons_succ]
      refine wpAnyH_take (i := 4) (oi := ⟨(some 15), _, _, _, _, _⟩) (v := _) rfl (by kernel_rfl) (by kernel_rfl) (by kernel_rfl) (fun _ _ _ h => h) (yieldsIf_load_mid (by rfl) _ _ rfl G 0 rfl (u64v [a0, a1, a2, a3]) _ (fun W' hW' => range_row ((hW'.block _ sA4).trans xA4.out)) (Tryd.underlying96) (rfl) (by kernel_rfl)) hHeld ?_
      try simp only [Act.put, List.setIfInBounds_toArray, List.set_cons_zero, List.set_cons_succ]
      refine wpAnyH_ready (rs := [2]) (by kernel_rfl) (by simp) ?_
      refine AllReadyH.cons (i := 2) (o := ⟨(some 13), _, _, _, _, _⟩) rfl (fun K hK => ?_) AllReadyH.nil
      go_simp
      refine (times_any _ c0 c1 c2 c3 c0 c1 c2 c3 l4.1 l4.2.1 l4.2.2.1 l4.2.2.2 l4.1 l4.2.1 l4.2.2.1 l4.2.2.2).mono ?_
      rintro e T1 ⟨d0, d1, d2, d3, rfl, ed, ⟨ld0, ld1, ld2, ld3⟩, g1⟩
      refine hK.out _ _ (below_next hHeld hHeld.size g1) (fun hHeld => ?_)
      clear hK K
      try simp only [Act.put, List.setIfInBounds_toArray, List.set_cons_zero, List.set_cons_succ]
      refine wpAnyH_ready (rs := [3]) (by kernel_rfl) (by simp) ?_
      refine AllReadyH.cons (i := 3) (o := ⟨(some 14), _, _, _, _, _⟩) rfl (fun K hK => ?_) AllReadyH.nil
      go_simp
      refine (told_any _ d0 d1 d2 d3 ld0 ld1 ld2 ld3).mono ?_
      rintro e T2 ⟨m1, rfl, em1, hm1, g2⟩
      refine hK.out _ _ (below_next hHeld hHeld.size g2) (fun hHeld => ?_)
      clear hK K
      try simp only [Act.put, List.setIfInBounds_toArray, List.set_cons_zero, List.set_cons_succ]
      refine wpAnyH_ready (rs := [5]) (by kernel_rfl) (by simp) ?_
      refine AllReadyH.cons (i := 5) (o := ⟨(some 16), _, _, _, _, _⟩) rfl (fun K hK => ?_) AllReadyH.nil
      go_simp
      refine (told_any _ a0 a1 a2 a3 la0 la1 la2 la3).mono ?_
      rintro e T3 ⟨m2, rfl, em2, hm2, g3⟩
      refine hK.out _ _ (below_next hHeld hHeld.size g3) (fun hHeld => ?_)
      clear hK K
      try simp only [Act.put, List.setIfInBounds_toArray, List.set_cons_zero, List.set_cons_succ]
      have hneq := neq_bytes (P := Tryd.prog) Tryd.underlying23 Tryd.underlying5 Tryd.sizeByte m1 m2 hm1.out hm2.out
      have HM := vlt (show m1 = m2 ↔ n4 c0 c1 c2 c3 * n4 c0 c1 c2 c3 % FP = n4 a0 a1 a2 a3 % FP by rw [em1.out, em2.out, ed.out]; exact wo_iff _ _)
      generalize hbb : decide (m1 = m2) = bb at *
      refine wpAnyH_take (i := 6) (oi := ⟨(some 17), _, _, _, _, _⟩) (v := ?vq1001_0) rfl (by kernel_rfl) (by kernel_rfl) (by kernel_rfl) (fun _ _ _ h => h) (Or.inl ⟨by rfl, ?yq1001_0⟩) hHeld ?_
      case yq1001_0 => (intro W0 hSw; go_simp; try with_reducible rfl)
      try simp only [Act.put, List.setIfInBounds_toArray, List.set_cons_zero, List.set_cons_succ]
      refine wpAnyH_done (by kernel_rfl) ?_ _
      have hbT3 := below_next hbW4 hbW4.size hHeld
      have yR := Lib.hid ((hHeld.block _ sR4).trans xR4.out)
      have yA := Lib.hid ((hHeld.block _ sA4).trans xA4.out)
      have yZ := Lib.hid ((hHeld.block _ sZ4).trans xZ4.out)
      have hlT := hla4.below (by have := hla4.2; omega) hHeld
      have sRy : P3 < T3.heap.size := (Array.getElem?_eq_some_iff.1 yR.out).1
      have sAy : G < T3.heap.size := (Array.getElem?_eq_some_iff.1 yA.out).1
      have sZy : w.heap.size + 1 < T3.heap.size := (Array.getElem?_eq_some_iff.1 yZ.out).1
      clear hHeld g1 g2 g3 hneq ed em1 em2
      by_cases h1 : m1 = m2
      · have HQ := HM.out.1 h1
        rw [show bb = true by rw [← hbb]; simp [h1]]
        have HRO := vlt (root_first HX.out e2.out HQ)
        clear HM hbb h1
        go_upto_region 5 with fail
        refine wp_region_held_drew (S := (fun W' => Below T3.heap.size T3 W')) (by kernel_rfl) ((Below.refl _ _).drew) (fun hHeld => ?_)
        refine wpAnyH_take (i := 0) (oi := ⟨(some 21), _, _, _, _, _⟩) (v := _) rfl (by kernel_rfl) (by kernel_rfl) (by kernel_rfl) (fun _ _ _ h => h) (yieldsIf_load_mid (by rfl) _ _ rfl P3 0 rfl (u64v [c0, c1, c2, c3]) _ (fun W' hW' => range_row ((hW'.block _ sRy).trans yR.out)) (Tryd.underlying96) (rfl) (by kernel_rfl)) hHeld ?_
        try simp only [Act.put, List.setIfInBounds_toArray, List.set_cons_zero, List.set_cons_succ]
        refine wpAnyH_take (i := 1) (oi := ⟨(some 22), _, _, _, _, _⟩) (v := _) rfl (by kernel_rfl) (by kernel_rfl) (by kernel_rfl) (fun _ _ _ h => h) (yieldsIf_load_mid (by rfl) _ _ rfl P3 0 rfl (u64v [c0, c1, c2, c3]) _ (fun W' hW' => range_row ((hW'.block _ sRy).trans yR.out)) (Tryd.underlying96) (rfl) (by kernel_rfl)) hHeld ?_
        try simp only [Act.put, List.setIfInBounds_toArray, List.set_cons_zero, List.set_cons_succ]
        refine wpAnyH_take (i := 4) (oi := ⟨(some 25), _, _, _, _, _⟩) (v := _) rfl (by kernel_rfl) (by kernel_rfl) (by kernel_rfl) (fun _ _ _ h => h) (yieldsIf_load_mid (by rfl) _ _ rfl G 0 rfl (u64v [a0, a1, a2, a3]) _ (fun W' hW' => range_row ((hW'.block _ sAy).trans yA.out)) (Tryd.underlying96) (rfl) (by kernel_rfl)) hHeld ?_
        try simp only [Act.put, List.setIfInBounds_toArray, List.set_cons_zero, List.set_cons_succ]
        refine wpAnyH_ready (rs := [2]) (by kernel_rfl) (by simp) ?_
        refine AllReadyH.cons (i := 2) (o := ⟨(some 23), _, _, _, _, _⟩) rfl (fun K hK => ?_) AllReadyH.nil
        go_simp
        refine (times_any _ c0 c1 c2 c3 c0 c1 c2 c3 l4.1 l4.2.1 l4.2.2.1 l4.2.2.2 l4.1 l4.2.1 l4.2.2.1 l4.2.2.2).mono ?_
        rintro e U1 ⟨k0, k1, k2, k3, rfl, ek, ⟨lk0, lk1, lk2, lk3⟩, g1⟩
        refine hK.out _ _ (below_next hHeld hHeld.size g1) (fun hHeld => ?_)
        clear hK K
        try simp only [Act.put, List.setIfInBounds_toArray, List.set_cons_zero, List.set_cons_succ]
        refine wpAnyH_ready (rs := [3]) (by kernel_rfl) (by simp) ?_
        refine AllReadyH.cons (i := 3) (o := ⟨(some 24), _, _, _, _, _⟩) rfl (fun K hK => ?_) AllReadyH.nil
        go_simp
        refine (told_any _ k0 k1 k2 k3 lk0 lk1 lk2 lk3).mono ?_
        rintro e U2 ⟨n1, rfl, en1, hn1, g2⟩
        refine hK.out _ _ (below_next hHeld hHeld.size g2) (fun hHeld => ?_)
        clear hK K
        try simp only [Act.put, List.setIfInBounds_toArray, List.set_cons_zero, List.set_cons_succ]
        refine wpAnyH_ready (rs := [5]) (by kernel_rfl) (by simp) ?_
        refine AllReadyH.cons (i := 5) (o := ⟨(some 26), _, _, _, _, _⟩) rfl (fun K hK => ?_) AllReadyH.nil
        go_simp
        refine (told_any _ a0 a1 a2 a3 la0 la1 la2 la3).mono ?_
        rintro e U3 ⟨n2, rfl, en2, hn2, g3⟩
        refine hK.out _ _ (below_next hHeld hHeld.size g3) (fun hHeld => ?_)
        clear hK K
        try simp only [Act.put, List.setIfInBounds_toArray, List.set_cons_zero, List.set_cons_succ]
        obtain rfl : n1 = n2 := by rw [en1.out, en2.out, ek.out]; exact (wo_iff _ _).2 HQ
        have hneq := neq_bytes (P := Tryd.prog) Tryd.underlying23 Tryd.underlying5 Tryd.sizeByte n1 n1 hn1.out hn1.out
        rw [show (!decide (n1 = n1)) = false by simp] at hneq
        refine wpAnyH_take (i := 6) (oi := ⟨(some 27), _, _, _, _, _⟩) (v := ?vq1002_0) rfl (by kernel_rfl) (by kernel_rfl) (by kernel_rfl) (fun _ _ _ h => h) (Or.inl ⟨by rfl, ?yq1002_0⟩) hHeld ?_
        case yq1002_0 => (intro W0 hSw; go_simp; try with_reducible rfl)
        try simp only [Act.put, List.setIfInBounds_toArray, List.set_cons_zero, List.set_cons_succ]
        refine wpAnyH_done (by kernel_rfl) ?_ _
        have hbU3 := below_next hbT3 hbT3.size hHeld
        have uR := Lib.hid ((hHeld.block _ sRy).trans yR.out)
        have uZ := Lib.hid ((hHeld.block _ sZy).trans yZ.out)
        have sZu : w.heap.size + 1 < U3.heap.size := (Array.getElem?_eq_some_iff.1 uZ.out).1
        clear hHeld g1 g2 g3 hneq ek en1 en2 HQ
        go_wp2_with (with_reducible refine wpList_load_row rfl 96 (.tmp 5) rfl P3 rfl 96 (u64v [c0, c1, c2, c3]).toArray (0, 0) _ uR.out Tryd.underlying96 rfl (by kernel_rfl) ?_)
        refine (even_any U3 c0 c1 c2 c3 l4.1 l4.2.1 l4.2.2.1 l4.2.2.2).mono ?_
        rintro e T4 ⟨r, rfl, er, hr, g4⟩
        have HF := vlt (show (r, true) = rootOf (ln a) by rw [HRO.out, er.out])
        have hbT4 := below_next hbU3 hbU3.size g4
        have zZ : Hid (T4.heap[w.heap.size + 1]? = some (.cells (bv z32).toArray 23 (0, 0))) := (g4.block _ sZu).trans uZ.out
        have hrs := Lib.hid (bv_size r hr.out)
        go_wp2_with (with_reducible refine wpList_store_row rfl 23 (.tmp 2) (.tmp 30) rfl (w.heap.size + 1) (bv r).toArray rfl rfl 23 _ zZ.out (by rw [hrs.out]; kernel_rfl) (by rw [hrs.out]; kernel_rfl) (all_oneCell_toArray (bv_one _)) ?_)
        refine bodyPost_ret (v := .tuple #[.agg (bv r).toArray, .bool true]) (results_row_tmp Tryd.results62 _ _ (w.heap.size + 1) 23 _ (0, 0) _ rfl (setRow_heap _ _ _ _ _ _ zZ.out) Tryd.underlying23 rfl (by rw [hrs.out]; kernel_rfl) _ rfl) rfl ⟨r, true, rfl, HF, hr, below_setRow hbT4 (by omega) _⟩
      · have HQ : ¬ _ := fun h => h1 (HM.out.2 h)
        rw [show bb = false by rw [← hbb]; simp [h1]]
        clear HM hbb
        go_wp2_with (first
          | (with_reducible refine wpList_load_row rfl 96 (.tmp 5) rfl P3 rfl 96 (u64v [c0, c1, c2, c3]).toArray (0, 0) _ yR.out Tryd.underlying96 rfl (by kernel_rfl) ?_)
          | (with_reducible refine wpList_load_mid rfl 96 (.global 4) rfl 4 0 rfl (u64v turnL) _ hlT.range Tryd.underlying96 rfl (by kernel_rfl) ?_))
        refine (times_any T3 c0 c1 c2 c3 14190309331451158704 3405592160176694392 3120150775007532967 3135389899092516619 l4.1 l4.2.1 l4.2.2.1 l4.2.2.2 (by decide) (by decide) (by decide) (by decide)).mono ?_
        rintro e T4 ⟨f0, f1, f2, f3, rfl, ef, l5, g4⟩
        have hbT4 := below_next hbT3 hbT3.size g4
        have vR : Hid (T4.heap[P3]? = some (.cells (u64v [c0, c1, c2, c3]).toArray 96 (0, 0))) := (g4.block _ sRy).trans yR.out
        have vA : Hid (T4.heap[G]? = some (.cells (u64v [a0, a1, a2, a3]).toArray 96 (0, 0))) := (g4.block _ sAy).trans yA.out
        have vZ : Hid (T4.heap[w.heap.size + 1]? = some (.cells (bv z32).toArray 23 (0, 0))) := (g4.block _ sZy).trans yZ.out
        go_upto_region 5 with (with_reducible refine wpList_store_row rfl 96 (.tmp 5) (.tmp 20) rfl P3 (u64v [f0, f1, f2, f3]).toArray rfl rfl 96 _ vR.out (by kernel_rfl) (by kernel_rfl) (all_oneCell_toArray (u64v_one _)) ?_)
        obtain ⟨W5, hW5⟩ : ∃ W5, W5 = T4.setRow P3 (u64v [f0, f1, f2, f3]).toArray := ⟨_, rfl⟩
        rw [← hW5]
        have xR5 : Hid (W5.heap[P3]? = some (.cells (u64v [f0, f1, f2, f3]).toArray 96 (0, 0))) := by rw [hW5]; exact setRow_heap _ _ _ _ _ _ vR.out
        have xA5 : Hid (W5.heap[G]? = some (.cells (u64v [a0, a1, a2, a3]).toArray 96 (0, 0))) := by rw [hW5]; exact (setRow_other _ _ _ _ (by omega)).trans vA.out
        have xZ5 : Hid (W5.heap[w.heap.size + 1]? = some (.cells (bv z32).toArray 23 (0, 0))) := by rw [hW5]; exact (setRow_other _ _ _ _ (by omega)).trans vZ.out
        have hbW5 : Below w.heap.size w W5 := by rw [hW5]; exact below_setRow hbT4 (by omega) _
        have sR5 : P3 < W5.heap.size := (Array.getElem?_eq_some_iff.1 xR5.out).1
        have sA5 : G < W5.heap.size := (Array.getElem?_eq_some_iff.1 xA5.out).1
        have sZ5 : w.heap.size + 1 < W5.heap.size := (Array.getElem?_eq_some_iff.1 xZ5.out).1
        clear hW5 vR vA vZ hbT4 g4 yR yA yZ hlT
        refine wp_region_held_drew (S := (fun W' => Below W5.heap.size W5 W')) (by kernel_rfl) ((Below.refl _ _).drew) (fun hHeld => ?_)
        refine wpAnyH_take (i := 0) (oi := ⟨(some 21), _, _, _, _, _⟩) (v := _) rfl (by kernel_rfl) (by kernel_rfl) (by kernel_rfl) (fun _ _ _ h => h) (yieldsIf_load_mid (by rfl) _ _ rfl P3 0 rfl (u64v [f0, f1, f2, f3]) _ (fun W' hW' => range_row ((hW'.block _ sR5).trans xR5.out)) (Tryd.underlying96) (rfl) (by kernel_rfl)) hHeld ?_
        try simp only [Act.put, List.setIfInBounds_toArray, List.set_cons_zero, List.set_cons_succ]
        refine wpAnyH_take (i := 1) (oi := ⟨(some 22), _, _, _, _, _⟩) (v := _) rfl (by kernel_rfl) (by kernel_rfl) (by kernel_rfl) (fun _ _ _ h => h) (yieldsIf_load_mid (by rfl) _ _ rfl P3 0 rfl (u64v [f0, f1, f2, f3]) _ (fun W' hW' => range_row ((hW'.block _ sR5).trans xR5.out)) (Tryd.underlying96) (rfl) (by kernel_rfl)) hHeld ?_
        try simp only [Act.put, List.setIfInBounds_toArray, List.set_cons_zero, List.set_cons_succ]
        refine wpAnyH_take (i := 4) (oi := ⟨(some 25), _, _, _, _, _⟩) (v := _) rfl (by kernel_rfl) (by kernel_rfl) (by kernel_rfl) (fun _ _ _ h => h) (yieldsIf_load_mid (by rfl) _ _ rfl G 0 rfl (u64v [a0, a1, a2, a3]) _ (fun W' hW' => range_row ((hW'.block _ sA5).trans xA5.out)) (Tryd.underlying96) (rfl) (by kernel_rfl)) hHeld ?_
        try simp only [Act.put, List.setIfInBounds_toArray, List.set_cons_zero, List.set_cons_succ]
        refine wpAnyH_ready (rs := [2]) (by kernel_rfl) (by simp) ?_
        refine AllReadyH.cons (i := 2) (o := ⟨(some 23), _, _, _, _, _⟩) rfl (fun K hK => ?_) AllReadyH.nil
        go_simp
        refine (times_any _ f0 f1 f2 f3 f0 f1 f2 f3 l5.1 l5.2.1 l5.2.2.1 l5.2.2.2 l5.1 l5.2.1 l5.2.2.1 l5.2.2.2).mono ?_
        rintro e T1 ⟨d0, d1, d2, d3, rfl, ed, ⟨ld0, ld1, ld2, ld3⟩, g1⟩
        refine hK.out _ _ (below_next hHeld hHeld.size g1) (fun hHeld => ?_)
        clear hK K
        try simp only [Act.put, List.setIfInBounds_toArray, List.set_cons_zero, List.set_cons_succ]
        refine wpAnyH_ready (rs := [3]) (by kernel_rfl) (by simp) ?_
        refine AllReadyH.cons (i := 3) (o := ⟨(some 24), _, _, _, _, _⟩) rfl (fun K hK => ?_) AllReadyH.nil
        go_simp
        refine (told_any _ d0 d1 d2 d3 ld0 ld1 ld2 ld3).mono ?_
        rintro e T2 ⟨m1, rfl, em1, hm1, g2⟩
        refine hK.out _ _ (below_next hHeld hHeld.size g2) (fun hHeld => ?_)
        clear hK K
        try simp only [Act.put, List.setIfInBounds_toArray, List.set_cons_zero, List.set_cons_succ]
        refine wpAnyH_ready (rs := [5]) (by kernel_rfl) (by simp) ?_
        refine AllReadyH.cons (i := 5) (o := ⟨(some 26), _, _, _, _, _⟩) rfl (fun K hK => ?_) AllReadyH.nil
        go_simp
        refine (told_any _ a0 a1 a2 a3 la0 la1 la2 la3).mono ?_
        rintro e T3 ⟨m2, rfl, em2, hm2, g3⟩
        refine hK.out _ _ (below_next hHeld hHeld.size g3) (fun hHeld => ?_)
        clear hK K
        try simp only [Act.put, List.setIfInBounds_toArray, List.set_cons_zero, List.set_cons_succ]
        have hneq := neq_bytes (P := Tryd.prog) Tryd.underlying23 Tryd.underlying5 Tryd.sizeByte m1 m2 hm1.out hm2.out
        have HM := vlt (show m1 = m2 ↔ n4 f0 f1 f2 f3 * n4 f0 f1 f2 f3 % FP = n4 a0 a1 a2 a3 % FP by rw [em1.out, em2.out, ed.out]; exact wo_iff _ _)
        generalize hbb : decide (m1 = m2) = bb at *
        refine wpAnyH_take (i := 6) (oi := ⟨(some 27), _, _, _, _, _⟩) (v := ?vq1003_0) rfl (by kernel_rfl) (by kernel_rfl) (by kernel_rfl) (fun _ _ _ h => h) (Or.inl ⟨by rfl, ?yq1003_0⟩) hHeld ?_
        case yq1003_0 => (intro W0 hSw; go_simp; try with_reducible rfl)
        try simp only [Act.put, List.setIfInBounds_toArray, List.set_cons_zero, List.set_cons_succ]
        refine wpAnyH_done (by kernel_rfl) ?_ _
        have hbU := below_next hbW5 hbW5.size hHeld
        have uR := Lib.hid ((hHeld.block _ sR5).trans xR5.out)
        have uZ := Lib.hid ((hHeld.block _ sZ5).trans xZ5.out)
        have sZu : w.heap.size + 1 < T3.heap.size := (Array.getElem?_eq_some_iff.1 uZ.out).1
        clear hHeld g1 g2 g3 hneq ed em1 em2
        by_cases h2 : m1 = m2
        · have HQ2 := HM.out.1 h2
          rw [show bb = true by rw [← hbb]; simp [h2]]
          have HRO := vlt (root_second HX.out e2.out ef.out HQ HQ2)
          clear HM hbb h2 HQ2 HQ
          go_wp2_with (with_reducible refine wpList_load_row rfl 96 (.tmp 5) rfl P3 rfl 96 (u64v [f0, f1, f2, f3]).toArray (0, 0) _ uR.out Tryd.underlying96 rfl (by kernel_rfl) ?_)
          refine (even_any T3 f0 f1 f2 f3 l5.1 l5.2.1 l5.2.2.1 l5.2.2.2).mono ?_
          rintro e T4 ⟨r, rfl, er, hr, g4⟩
          have HF := vlt (show (r, true) = rootOf (ln a) by rw [HRO.out, er.out])
          have hbT4 := below_next hbU hbU.size g4
          have zZ : Hid (T4.heap[w.heap.size + 1]? = some (.cells (bv z32).toArray 23 (0, 0))) := (g4.block _ sZu).trans uZ.out
          have hrs := Lib.hid (bv_size r hr.out)
          go_wp2_with (with_reducible refine wpList_store_row rfl 23 (.tmp 2) (.tmp 30) rfl (w.heap.size + 1) (bv r).toArray rfl rfl 23 _ zZ.out (by rw [hrs.out]; kernel_rfl) (by rw [hrs.out]; kernel_rfl) (all_oneCell_toArray (bv_one _)) ?_)
          refine bodyPost_ret (v := .tuple #[.agg (bv r).toArray, .bool true]) (results_row_tmp Tryd.results62 _ _ (w.heap.size + 1) 23 _ (0, 0) _ rfl (setRow_heap _ _ _ _ _ _ zZ.out) Tryd.underlying23 rfl (by rw [hrs.out]; kernel_rfl) _ rfl) rfl ⟨r, true, rfl, HF, hr, below_setRow hbT4 (by omega) _⟩
        · have HQ2 : ¬ _ := fun h => h2 (HM.out.2 h)
          rw [show bb = false by rw [← hbb]; simp [h2]]
          have HF := vlt (show (z32, false) = rootOf (ln a) from (root_none HX.out e2.out ef.out HQ HQ2).symm)
          clear HM hbb HQ2 HQ
          go_wp2_with (with_reducible refine wpList_store_row rfl 23 (.tmp 2) (.tmp 28) rfl (w.heap.size + 1) (bv z32).toArray rfl rfl 23 _ uZ.out (by kernel_rfl) (by kernel_rfl) (all_oneCell_toArray (bv_one _)) ?_)
          refine bodyPost_ret (v := .tuple #[.agg (bv z32).toArray, .bool false]) (results_row_tmp Tryd.results62 _ _ (w.heap.size + 1) 23 _ (0, 0) _ rfl (setRow_heap _ _ _ _ _ _ uZ.out) Tryd.underlying23 rfl (by kernel_rfl) _ rfl) rfl ⟨z32, false, rfl, HF, z32_len, below_setRow hbU (by omega) _⟩
    · refine step_new (by rfl) rfl ?_
      intro P3 W2 hP3 z3 g2 l3
      have lP3 : V.heap.size ≤ P3 := by have := hHeld.size; have := hP3.out; omega
      have hB2 := below_next hHeld hHeld.size g2
      refine hK.out _ _ (hB2) (fun hHeld => ?_)
      clear hK K
      try simp only [Act.put, List.setIfInBounds_toArray, List.set_cons_zero, List.set_cons_succ]
      refine wpAnyH_ready (rs := [2]) (by kernel_rfl) (by simp) ?_
      refine AllReadyH.cons (i := 2) (o := ⟨(some 10), _, _, _, _, _⟩) rfl (fun K hK => ?_) AllReadyH.nil
      go_simp
      refine (power_any _ a0 a1 a2 a3 18446744073709551614 18446744073709551615 18446744073709551615 1152921504606846975 la0 la1 la2 la3 (by decide) (by decide) (by decide) (by decide)).mono ?_
      rintro e W3 ⟨c0, c1, c2, c3, rfl, e2, l4, g3⟩
      have hB3 := below_next hHeld hHeld.size g3
      refine hK.out _ _ (hB3) (fun hHeld => ?_)
      clear hK K
      try simp only [Act.put, List.setIfInBounds_toArray, List.set_cons_zero, List.set_cons_succ]
      refine wpAnyH_ready (rs := [4]) (by kernel_rfl) (by simp) ?_
      refine AllReadyH.cons (i := 4) (o := ⟨none, _, _, _, _, _⟩) rfl (fun K hK => ?_) AllReadyH.nil
      refine step_store_row rfl 96 (.tmp 5) (.tmp 10) rfl P3 (u64v [c0, c1, c2, c3]).toArray rfl rfl 96 _ ((row_next z3 g3)).out (by kernel_rfl) (by kernel_rfl) (all_oneCell_toArray (u64v_one _)) ?_
      have xR4 : Hid ((W3.setRow P3 (u64v [c0, c1, c2, c3]).toArray).heap[P3]? = some (.cells (u64v [c0, c1, c2, c3]).toArray 96 (0, 0))) := setRow_heap _ _ _ _ _ _ ((row_next z3 g3)).out
      have hB4 := below_setRow hHeld lP3 (u64v [c0, c1, c2, c3]).toArray
      generalize W3.setRow P3 (u64v [c0, c1, c2, c3]).toArray = W4 at *
      refine hK.out _ _ (hB4) (fun hHeld => ?_)
      clear hK K
      try simp only [Act.put]
      refine wpAnyH_done (by kernel_rfl) ?_ _
      have hb4 := hHeld
      have xA4 := Lib.hid ((hHeld.block _ sAV).trans hgAV.out)
      have xZ4 := Lib.hid ((hHeld.block _ sZV).trans hgZV.out)
      have hbW4 := below_next hbV hbV.size hHeld
      have hla4 := hlaV.below (by have := hlaV.2; omega) hHeld
      have sR4 : P3 < W4.heap.size := (Array.getElem?_eq_some_iff.1 xR4.out).1
      have sA4 : G < W4.heap.size := (Array.getElem?_eq_some_iff.1 xA4.out).1
      have sZ4 : w.heap.size + 1 < W4.heap.size := (Array.getElem?_eq_some_iff.1 xZ4.out).1
      clear hHeld hb4
      go_upto_region 3 with fail
      have hbT := hbW4
      refine wp_region_held_drew (S := (fun W' => Below W4.heap.size W4 W')) (by kernel_rfl) ((Below.refl _ _).drew) (fun hHeld => ?_)
      refine wpAnyH_take (i := 0) (oi := ⟨(some 11), _, _, _, _, _⟩) (v := _) rfl (by kernel_rfl) (by kernel_rfl) (by kernel_rfl) (fun _ _ _ h => h) (yieldsIf_load_mid (by rfl) _ _ rfl P3 0 rfl (u64v [c0, c1, c2, c3]) _ (fun W' hW' => range_row ((hW'.block _ sR4).trans xR4.out)) (Tryd.underlying96) (rfl) (by kernel_rfl)) hHeld ?_
      try simp only [Act.put, List.setIfInBounds_toArray, List.set_cons_zero, List.set_cons_succ]
      refine wpAnyH_take (i := 1) (oi := ⟨(some 12), _, _, _, _, _⟩) (v := _) rfl (by kernel_rfl) (by kernel_rfl) (by kernel_rfl) (fun _ _ _ h => h) (yieldsIf_load_mid (by rfl) _ _ rfl P3 0 rfl (u64v [c0, c1, c2, c3]) _ (fun W' hW' => range_row ((hW'.block _ sR4).trans xR4.out)) (Tryd.underlying96) (rfl) (by kernel_rfl)) hHeld ?_
      try simp only [Act.put, List.setIfInBounds_toArray, List.set_cons_zero, List.set_cons_succ]
      refine wpAnyH_take (i := 4) (oi := ⟨(some 15), _, _, _, _, _⟩) (v := _) rfl (by kernel_rfl) (by kernel_rfl) (by kernel_rfl) (fun _ _ _ h => h) (yieldsIf_load_mid (by rfl) _ _ rfl G 0 rfl (u64v [a0, a1, a2, a3]) _ (fun W' hW' => range_row ((hW'.block _ sA4).trans xA4.out)) (Tryd.underlying96) (rfl) (by kernel_rfl)) hHeld ?_
      try simp only [Act.put, List.setIfInBounds_toArray, List.set_cons_zero, List.set_cons_succ]
      refine wpAnyH_ready (rs := [2]) (by kernel_rfl) (by simp) ?_
      refine AllReadyH.cons (i := 2) (o := ⟨(some 13), _, _, _, _, _⟩) rfl (fun K hK => ?_) AllReadyH.nil
      go_simp
      refine (times_any _ c0 c1 c2 c3 c0 c1 c2 c3 l4.1 l4.2.1 l4.2.2.1 l4.2.2.2 l4.1 l4.2.1 l4.2.2.1 l4.2.2.2).mono ?_
      rintro e T1 ⟨d0, d1, d2, d3, rfl, ed, ⟨ld0, ld1, ld2, ld3⟩, g1⟩
      refine hK.out _ _ (below_next hHeld hHeld.size g1) (fun hHeld => ?_)
      clear hK K
      try simp only [Act.put, List.setIfInBounds_toArray, List.set_cons_zero, List.set_cons_succ]
      refine wpAnyH_ready (rs := [3]) (by kernel_rfl) (by simp) ?_
      refine AllReadyH.cons (i := 3) (o := ⟨(some 14), _, _, _, _, _⟩) rfl (fun K hK => ?_) AllReadyH.nil
      go_simp
      refine (told_any _ d0 d1 d2 d3 ld0 ld1 ld2 ld3).mono ?_
      rintro e T2 ⟨m1, rfl, em1, hm1, g2⟩
      refine hK.out _ _ (below_next hHeld hHeld.size g2) (fun hHeld => ?_)
      clear hK K
      try simp only [Act.put, List.setIfInBounds_toArray, List.set_cons_zero, List.set_cons_succ]
      refine wpAnyH_ready (rs := [5]) (by kernel_rfl) (by simp) ?_
      refine AllReadyH.cons (i := 5) (o := ⟨(some 16), _, _, _, _, _⟩) rfl (fun K hK => ?_) AllReadyH.nil
      go_simp
      refine (told_any _ a0 a1 a2 a3 la0 la1 la2 la3).mono ?_
      rintro e T3 ⟨m2, rfl, em2, hm2, g3⟩
      refine hK.out _ _ (below_next hHeld hHeld.size g3) (fun hHeld => ?_)
      clear hK K
      try simp only [Act.put, List.setIfInBounds_toArray, List.set_cons_zero, List.set_cons_succ]
      have hneq := neq_bytes (P := Tryd.prog) Tryd.underlying23 Tryd.underlying5 Tryd.sizeByte m1 m2 hm1.out hm2.out
      have HM := vlt (show m1 = m2 ↔ n4 c0 c1 c2 c3 * n4 c0 c1 c2 c3 % FP = n4 a0 a1 a2 a3 % FP by rw [em1.out, em2.out, ed.out]; exact wo_iff _ _)
      generalize hbb : decide (m1 = m2) = bb at *
      refine wpAnyH_take (i := 6) (oi := ⟨(some 17), _, _, _, _, _⟩) (v := ?vq2001_0) rfl (by kernel_rfl) (by kernel_rfl) (by kernel_rfl) (fun _ _ _ h => h) (Or.inl ⟨by rfl, ?yq2001_0⟩) hHeld ?_
      case yq2001_0 => (intro W0 hSw; go_simp; try with_reducible rfl)
      try simp only [Act.put, List.setIfInBounds_toArray, List.set_cons_zero, List.set_cons_succ]
      refine wpAnyH_done (by kernel_rfl) ?_ _
      have hbT3 := below_next hbW4 hbW4.size hHeld
      have yR := Lib.hid ((hHeld.block _ sR4).trans xR4.out)
      have yA := Lib.hid ((hHeld.block _ sA4).trans xA4.out)
      have yZ := Lib.hid ((hHeld.block _ sZ4).trans xZ4.out)
      have hlT := hla4.below (by have := hla4.2; omega) hHeld
      have sRy : P3 < T3.heap.size := (Array.getElem?_eq_some_iff.1 yR.out).1
      have sAy : G < T3.heap.size := (Array.getElem?_eq_some_iff.1 yA.out).1
      have sZy : w.heap.size + 1 < T3.heap.size := (Array.getElem?_eq_some_iff.1 yZ.out).1
      clear hHeld g1 g2 g3 hneq ed em1 em2
      by_cases h1 : m1 = m2
      · have HQ := HM.out.1 h1
        rw [show bb = true by rw [← hbb]; simp [h1]]
        have HRO := vlt (root_first HX.out e2.out HQ)
        clear HM hbb h1
        go_upto_region 5 with fail
        refine wp_region_held_drew (S := (fun W' => Below T3.heap.size T3 W')) (by kernel_rfl) ((Below.refl _ _).drew) (fun hHeld => ?_)
        refine wpAnyH_take (i := 0) (oi := ⟨(some 21), _, _, _, _, _⟩) (v := _) rfl (by kernel_rfl) (by kernel_rfl) (by kernel_rfl) (fun _ _ _ h => h) (yieldsIf_load_mid (by rfl) _ _ rfl P3 0 rfl (u64v [c0, c1, c2, c3]) _ (fun W' hW' => range_row ((hW'.block _ sRy).trans yR.out)) (Tryd.underlying96) (rfl) (by kernel_rfl)) hHeld ?_
        try simp only [Act.put, List.setIfInBounds_toArray, List.set_cons_zero, List.set_cons_succ]
        refine wpAnyH_take (i := 1) (oi := ⟨(some 22), _, _, _, _, _⟩) (v := _) rfl (by kernel_rfl) (by kernel_rfl) (by kernel_rfl) (fun _ _ _ h => h) (yieldsIf_load_mid (by rfl) _ _ rfl P3 0 rfl (u64v [c0, c1, c2, c3]) _ (fun W' hW' => range_row ((hW'.block _ sRy).trans yR.out)) (Tryd.underlying96) (rfl) (by kernel_rfl)) hHeld ?_
        try simp only [Act.put, List.setIfInBounds_toArray, List.set_cons_zero, List.set_cons_succ]
        refine wpAnyH_take (i := 4) (oi := ⟨(some 25), _, _, _, _, _⟩) (v := _) rfl (by kernel_rfl) (by kernel_rfl) (by kernel_rfl) (fun _ _ _ h => h) (yieldsIf_load_mid (by rfl) _ _ rfl G 0 rfl (u64v [a0, a1, a2, a3]) _ (fun W' hW' => range_row ((hW'.block _ sAy).trans yA.out)) (Tryd.underlying96) (rfl) (by kernel_rfl)) hHeld ?_
        try simp only [Act.put, List.setIfInBounds_toArray, List.set_cons_zero, List.set_cons_succ]
        refine wpAnyH_ready (rs := [2]) (by kernel_rfl) (by simp) ?_
        refine AllReadyH.cons (i := 2) (o := ⟨(some 23), _, _, _, _, _⟩) rfl (fun K hK => ?_) AllReadyH.nil
        go_simp
        refine (times_any _ c0 c1 c2 c3 c0 c1 c2 c3 l4.1 l4.2.1 l4.2.2.1 l4.2.2.2 l4.1 l4.2.1 l4.2.2.1 l4.2.2.2).mono ?_
        rintro e U1 ⟨k0, k1, k2, k3, rfl, ek, ⟨lk0, lk1, lk2, lk3⟩, g1⟩
        refine hK.out _ _ (below_next hHeld hHeld.size g1) (fun hHeld => ?_)
        clear hK K
        try simp only [Act.put, List.setIfInBounds_toArray, List.set_cons_zero, List.set_cons_succ]
        refine wpAnyH_ready (rs := [3]) (by kernel_rfl) (by simp) ?_
        refine AllReadyH.cons (i := 3) (o := ⟨(some 24), _, _, _, _, _⟩) rfl (fun K hK => ?_) AllReadyH.nil
        go_simp
        refine (told_any _ k0 k1 k2 k3 lk0 lk1 lk2 lk3).mono ?_
        rintro e U2 ⟨n1, rfl, en1, hn1, g2⟩
        refine hK.out _ _ (below_next hHeld hHeld.size g2) (fun hHeld => ?_)
        clear hK K
        try simp only [Act.put, List.setIfInBounds_toArray, List.set_cons_zero, List.set_cons_succ]
        refine wpAnyH_ready (rs := [5]) (by kernel_rfl) (by simp) ?_
        refine AllReadyH.cons (i := 5) (o := ⟨(some 26), _, _, _, _, _⟩) rfl (fun K hK => ?_) AllReadyH.nil
        go_simp
        refine (told_any _ a0 a1 a2 a3 la0 la1 la2 la3).mono ?_
        rintro e U3 ⟨n2, rfl, en2, hn2, g3⟩
        refine hK.out _ _ (below_next hHeld hHeld.size g3) (fun hHeld => ?_)
        clear hK K
        try simp only [Act.put, List.setIfInBounds_toArray, List.set_cons_zero, List.set_cons_succ]
        obtain rfl : n1 = n2 := by rw [en1.out, en2.out, ek.out]; exact (wo_iff _ _).2 HQ
        have hneq := neq_bytes (P := Tryd.prog) Tryd.underlying23 Tryd.underlying5 Tryd.sizeByte n1 n1 hn1.out hn1.out
        rw [show (!decide (n1 = n1)) = false by simp] at hneq
        refine wpAnyH_take (i := 6) (oi := ⟨(some 27), _, _, _, _, _⟩) (v := ?vq2002_0) rfl (by kernel_rfl) (by kernel_rfl) (by kernel_rfl) (fun _ _ _ h => h) (Or.inl ⟨by rfl, ?yq2002_0⟩) hHeld ?_
        case yq2002_0 => (intro W0 hSw; go_simp; try with_reducible rfl)
        try simp only [Act.put, List.setIfInBounds_toArray, List.set_cons_zero, List.set_cons_succ]
        refine wpAnyH_done (by kernel_rfl) ?_ _
        have hbU3 := below_next hbT3 hbT3.size hHeld
        have uR := Lib.hid ((hHeld.block _ sRy).trans yR.out)
        have uZ := Lib.hid ((hHeld.block _ sZy).trans yZ.out)
        have sZu : w.heap.size + 1 < U3.heap.size := (Array.getElem?_eq_some_iff.1 uZ.out).1
        clear hHeld g1 g2 g3 hneq ek en1 en2 HQ
        go_wp2_with (with_reducible refine wpList_load_row rfl 96 (.tmp 5) rfl P3 rfl 96 (u64v [c0, c1, c2, c3]).toArray (0, 0) _ uR.out Tryd.underlying96 rfl (by kernel_rfl) ?_)
        refine (even_any U3 c0 c1 c2 c3 l4.1 l4.2.1 l4.2.2.1 l4.2.2.2).mono ?_
        rintro e T4 ⟨r, rfl, er, hr, g4⟩
        have HF := vlt (show (r, true) = rootOf (ln a) by rw [HRO.out, er.out])
        have hbT4 := below_next hbU3 hbU3.size g4
        have zZ : Hid (T4.heap[w.heap.size + 1]? = some (.cells (bv z32).toArray 23 (0, 0))) := (g4.block _ sZu).trans uZ.out
        have hrs := Lib.hid (bv_size r hr.out)
        go_wp2_with (with_reducible refine wpList_store_row rfl 23 (.tmp 2) (.tmp 30) rfl (w.heap.size + 1) (bv r).toArray rfl rfl 23 _ zZ.out (by rw [hrs.out]; kernel_rfl) (by rw [hrs.out]; kernel_rfl) (all_oneCell_toArray (bv_one _)) ?_)
        refine bodyPost_ret (v := .tuple #[.agg (bv r).toArray, .bool true]) (results_row_tmp Tryd.results62 _ _ (w.heap.size + 1) 23 _ (0, 0) _ rfl (setRow_heap _ _ _ _ _ _ zZ.out) Tryd.underlying23 rfl (by rw [hrs.out]; kernel_rfl) _ rfl) rfl ⟨r, true, rfl, HF, hr, below_setRow hbT4 (by omega) _⟩
      · have HQ : ¬ _ := fun h => h1 (HM.out.2 h)
        rw [show bb = false by rw [← hbb]; simp [h1]]
        clear HM hbb
        go_wp2_with (first
          | (with_reducible refine wpList_load_row rfl 96 (.tmp 5) rfl P3 rfl 96 (u64v [c0, c1, c2, c3]).toArray (0, 0) _ yR.out Tryd.underlying96 rfl (by kernel_rfl) ?_)
          | (with_reducible refine wpList_load_mid rfl 96 (.global 4) rfl 4 0 rfl (u64v turnL) _ hlT.range Tryd.underlying96 rfl (by kernel_rfl) ?_))
        refine (times_any T3 c0 c1 c2 c3 14190309331451158704 3405592160176694392 3120150775007532967 3135389899092516619 l4.1 l4.2.1 l4.2.2.1 l4.2.2.2 (by decide) (by decide) (by decide) (by decide)).mono ?_
        rintro e T4 ⟨f0, f1, f2, f3, rfl, ef, l5, g4⟩
        have hbT4 := below_next hbT3 hbT3.size g4
        have vR : Hid (T4.heap[P3]? = some (.cells (u64v [c0, c1, c2, c3]).toArray 96 (0, 0))) := (g4.block _ sRy).trans yR.out
        have vA : Hid (T4.heap[G]? = some (.cells (u64v [a0, a1, a2, a3]).toArray 96 (0, 0))) := (g4.block _ sAy).trans yA.out
        have vZ : Hid (T4.heap[w.heap.size + 1]? = some (.cells (bv z32).toArray 23 (0, 0))) := (g4.block _ sZy).trans yZ.out
        go_upto_region 5 with (with_reducible refine wpList_store_row rfl 96 (.tmp 5) (.tmp 20) rfl P3 (u64v [f0, f1, f2, f3]).toArray rfl rfl 96 _ vR.out (by kernel_rfl) (by kernel_rfl) (all_oneCell_toArray (u64v_one _)) ?_)
        obtain ⟨W5, hW5⟩ : ∃ W5, W5 = T4.setRow P3 (u64v [f0, f1, f2, f3]).toArray := ⟨_, rfl⟩
        rw [← hW5]
        have xR5 : Hid (W5.heap[P3]? = some (.cells (u64v [f0, f1, f2, f3]).toArray 96 (0, 0))) := by rw [hW5]; exact setRow_heap _ _ _ _ _ _ vR.out
        have xA5 : Hid (W5.heap[G]? = some (.cells (u64v [a0, a1, a2, a3]).toArray 96 (0, 0))) := by rw [hW5]; exact (setRow_other _ _ _ _ (by omega)).trans vA.out
        have xZ5 : Hid (W5.heap[w.heap.size + 1]? = some (.cells (bv z32).toArray 23 (0, 0))) := by rw [hW5]; exact (setRow_other _ _ _ _ (by omega)).trans vZ.out
        have hbW5 : Below w.heap.size w W5 := by rw [hW5]; exact below_setRow hbT4 (by omega) _
        have sR5 : P3 < W5.heap.size := (Array.getElem?_eq_some_iff.1 xR5.out).1
        have sA5 : G < W5.heap.size := (Array.getElem?_eq_some_iff.1 xA5.out).1
        have sZ5 : w.heap.size + 1 < W5.heap.size := (Array.getElem?_eq_some_iff.1 xZ5.out).1
        clear hW5 vR vA vZ hbT4 g4 yR yA yZ hlT
        refine wp_region_held_drew (S := (fun W' => Below W5.heap.size W5 W')) (by kernel_rfl) ((Below.refl _ _).drew) (fun hHeld => ?_)
        refine wpAnyH_take (i := 0) (oi := ⟨(some 21), _, _, _, _, _⟩) (v := _) rfl (by kernel_rfl) (by kernel_rfl) (by kernel_rfl) (fun _ _ _ h => h) (yieldsIf_load_mid (by rfl) _ _ rfl P3 0 rfl (u64v [f0, f1, f2, f3]) _ (fun W' hW' => range_row ((hW'.block _ sR5).trans xR5.out)) (Tryd.underlying96) (rfl) (by kernel_rfl)) hHeld ?_
        try simp only [Act.put, List.setIfInBounds_toArray, List.set_cons_zero, List.set_cons_succ]
        refine wpAnyH_take (i := 1) (oi := ⟨(some 22), _, _, _, _, _⟩) (v := _) rfl (by kernel_rfl) (by kernel_rfl) (by kernel_rfl) (fun _ _ _ h => h) (yieldsIf_load_mid (by rfl) _ _ rfl P3 0 rfl (u64v [f0, f1, f2, f3]) _ (fun W' hW' => range_row ((hW'.block _ sR5).trans xR5.out)) (Tryd.underlying96) (rfl) (by kernel_rfl)) hHeld ?_
        try simp only [Act.put, List.setIfInBounds_toArray, List.set_cons_zero, List.set_cons_succ]
        refine wpAnyH_take (i := 4) (oi := ⟨(some 25), _, _, _, _, _⟩) (v := _) rfl (by kernel_rfl) (by kernel_rfl) (by kernel_rfl) (fun _ _ _ h => h) (yieldsIf_load_mid (by rfl) _ _ rfl G 0 rfl (u64v [a0, a1, a2, a3]) _ (fun W' hW' => range_row ((hW'.block _ sA5).trans xA5.out)) (Tryd.underlying96) (rfl) (by kernel_rfl)) hHeld ?_
        try simp only [Act.put, List.setIfInBounds_toArray, List.set_cons_zero, List.set_cons_succ]
        refine wpAnyH_ready (rs := [2]) (by kernel_rfl) (by simp) ?_
        refine AllReadyH.cons (i := 2) (o := ⟨(some 23), _, _, _, _, _⟩) rfl (fun K hK => ?_) AllReadyH.nil
        go_simp
        refine (times_any _ f0 f1 f2 f3 f0 f1 f2 f3 l5.1 l5.2.1 l5.2.2.1 l5.2.2.2 l5.1 l5.2.1 l5.2.2.1 l5.2.2.2).mono ?_
        rintro e T1 ⟨d0, d1, d2, d3, rfl, ed, ⟨ld0, ld1, ld2, ld3⟩, g1⟩
        refine hK.out _ _ (below_next hHeld hHeld.size g1) (fun hHeld => ?_)
        clear hK K
        try simp only [Act.put, List.setIfInBounds_toArray, List.set_cons_zero, List.set_cons_succ]
        refine wpAnyH_ready (rs := [3]) (by kernel_rfl) (by simp) ?_
        refine AllReadyH.cons (i := 3) (o := ⟨(some 24), _, _, _, _, _⟩) rfl (fun K hK => ?_) AllReadyH.nil
        go_simp
        refine (told_any _ d0 d1 d2 d3 ld0 ld1 ld2 ld3).mono ?_
        rintro e T2 ⟨m1, rfl, em1, hm1, g2⟩
        refine hK.out _ _ (below_next hHeld hHeld.size g2) (fun hHeld => ?_)
        clear hK K
        try simp only [Act.put, List.setIfInBounds_toArray, List.set_cons_zero, List.set_cons_succ]
        refine wpAnyH_ready (rs := [5]) (by kernel_rfl) (by simp) ?_
        refine AllReadyH.cons (i := 5) (o := ⟨(some 26), _, _, _, _, _⟩) rfl (fun K hK => ?_) AllReadyH.nil
        go_simp
        refine (told_any _ a0 a1 a2 a3 la0 la1 la2 la3).mono ?_
        rintro e T3 ⟨m2, rfl, em2, hm2, g3⟩
        refine hK.out _ _ (below_next hHeld hHeld.size g3) (fun hHeld => ?_)
        clear hK K
        try simp only [Act.put, List.setIfInBounds_toArray, List.set_cons_zero, List.set_cons_succ]
        have hneq := neq_bytes (P := Tryd.prog) Tryd.underlying23 Tryd.underlying5 Tryd.sizeByte m1 m2 hm1.out hm2.out
        have HM := vlt (show m1 = m2 ↔ n4 f0 f1 f2 f3 * n4 f0 f1 f2 f3 % FP = n4 a0 a1 a2 a3 % FP by rw [em1.out, em2.out, ed.out]; exact wo_iff _ _)
        generalize hbb : decide (m1 = m2) = bb at *
        refine wpAnyH_take (i := 6) (oi := ⟨(some 27), _, _, _, _, _⟩) (v := ?vq2003_0) rfl (by kernel_rfl) (by kernel_rfl) (by kernel_rfl) (fun _ _ _ h => h) (Or.inl ⟨by rfl, ?yq2003_0⟩) hHeld ?_
        case yq2003_0 => (intro W0 hSw; go_simp; try with_reducible rfl)
        try simp only [Act.put, List.setIfInBounds_toArray, List.set_cons_zero, List.set_cons_succ]
        refine wpAnyH_done (by kernel_rfl) ?_ _
        have hbU := below_next hbW5 hbW5.size hHeld
        have uR := Lib.hid ((hHeld.block _ sR5).trans xR5.out)
        have uZ := Lib.hid ((hHeld.block _ sZ5).trans xZ5.out)
        have sZu : w.heap.size + 1 < T3.heap.size := (Array.getElem?_eq_some_iff.1 uZ.out).1
        clear hHeld g1 g2 g3 hneq ed em1 em2
        by_cases h2 : m1 = m2
        · have HQ2 := HM.out.1 h2
          rw [show bb = true by rw [← hbb]; simp [h2]]
          have HRO := vlt (root_second HX.out e2.out ef.out HQ HQ2)
          clear HM hbb h2 HQ2 HQ
          go_wp2_with (with_reducible refine wpList_load_row rfl 96 (.tmp 5) rfl P3 rfl 96 (u64v [f0, f1, f2, f3]).toArray (0, 0) _ uR.out Tryd.underlying96 rfl (by kernel_rfl) ?_)
          refine (even_any T3 f0 f1 f2 f3 l5.1 l5.2.1 l5.2.2.1 l5.2.2.2).mono ?_
          rintro e T4 ⟨r, rfl, er, hr, g4⟩
          have HF := vlt (show (r, true) = rootOf (ln a) by rw [HRO.out, er.out])
          have hbT4 := below_next hbU hbU.size g4
          have zZ : Hid (T4.heap[w.heap.size + 1]? = some (.cells (bv z32).toArray 23 (0, 0))) := (g4.block _ sZu).trans uZ.out
          have hrs := Lib.hid (bv_size r hr.out)
          go_wp2_with (with_reducible refine wpList_store_row rfl 23 (.tmp 2) (.tmp 30) rfl (w.heap.size + 1) (bv r).toArray rfl rfl 23 _ zZ.out (by rw [hrs.out]; kernel_rfl) (by rw [hrs.out]; kernel_rfl) (all_oneCell_toArray (bv_one _)) ?_)
          refine bodyPost_ret (v := .tuple #[.agg (bv r).toArray, .bool true]) (results_row_tmp Tryd.results62 _ _ (w.heap.size + 1) 23 _ (0, 0) _ rfl (setRow_heap _ _ _ _ _ _ zZ.out) Tryd.underlying23 rfl (by rw [hrs.out]; kernel_rfl) _ rfl) rfl ⟨r, true, rfl, HF, hr, below_setRow hbT4 (by omega) _⟩
        · have HQ2 : ¬ _ := fun h => h2 (HM.out.2 h)
          rw [show bb = false by rw [← hbb]; simp [h2]]
          have HF := vlt (show (z32, false) = rootOf (ln a) from (root_none HX.out e2.out ef.out HQ HQ2).symm)
          clear HM hbb HQ2 HQ
          go_wp2_with (with_reducible refine wpList_store_row rfl 23 (.tmp 2) (.tmp 28) rfl (w.heap.size + 1) (bv z32).toArray rfl rfl 23 _ uZ.out (by kernel_rfl) (by kernel_rfl) (all_oneCell_toArray (bv_one _)) ?_)
          refine bodyPost_ret (v := .tuple #[.agg (bv z32).toArray, .bool false]) (results_row_tmp Tryd.results62 _ _ (w.heap.size + 1) 23 _ (0, 0) _ rfl (setRow_heap _ _ _ _ _ _ uZ.out) Tryd.underlying23 rfl (by kernel_rfl) _ rfl) rfl ⟨z32, false, rfl, HF, z32_len, below_setRow hbU (by omega) _⟩
  · refine step_new (by rfl) rfl ?_
    intro P3 W1 hP3 z3 g1 l3
    have lP3 : V.heap.size ≤ P3 := by have := hHeld.size; have := hP3.out; omega
    have hB1 := below_next hHeld hHeld.size g1
    refine hK.out _ _ (hB1) (fun hHeld => ?_)
    clear hK K
    try simp only [Act.put, List.setIfInBounds_toArray, List.set_cons_zero, List.set_cons_succ]
    refine wpAnyH_ready (rs := [1]) (by kernel_rfl) (by simp) ?_
    refine AllReadyH.cons (i := 1) (o := ⟨(some 9), _, _, _, _, _⟩) rfl (fun K hK => ?_) AllReadyH.nil
    go_simp
    refine (beneath_252 _).mono ?_
    rintro e W2 ⟨rfl, g2⟩
    have hB2 := below_next hHeld hHeld.size g2
    refine hK.out _ _ (hB2) (fun hHeld => ?_)
    clear hK K
    try simp only [Act.put, List.setIfInBounds_toArray, List.set_cons_zero, List.set_cons_succ]
    refine wpAnyH_ready (rs := [2]) (by kernel_rfl) (by simp) ?_
    refine AllReadyH.cons (i := 2) (o := ⟨(some 10), _, _, _, _, _⟩) rfl (fun K hK => ?_) AllReadyH.nil
    go_simp
    refine (power_any _ a0 a1 a2 a3 18446744073709551614 18446744073709551615 18446744073709551615 1152921504606846975 la0 la1 la2 la3 (by decide) (by decide) (by decide) (by decide)).mono ?_
    rintro e W3 ⟨c0, c1, c2, c3, rfl, e2, l4, g3⟩
    have hB3 := below_next hHeld hHeld.size g3
    refine hK.out _ _ (hB3) (fun hHeld => ?_)
    clear hK K
    try simp only [Act.put, List.setIfInBounds_toArray, List.set_cons_zero, List.set_cons_succ]
    refine wpAnyH_ready (rs := [4]) (by kernel_rfl) (by simp) ?_
    refine AllReadyH.cons (i := 4) (o := ⟨none, _, _, _, _, _⟩) rfl (fun K hK => ?_) AllReadyH.nil
    refine step_store_row rfl 96 (.tmp 5) (.tmp 10) rfl P3 (u64v [c0, c1, c2, c3]).toArray rfl rfl 96 _ ((row_next (row_next z3 g2) g3)).out (by kernel_rfl) (by kernel_rfl) (all_oneCell_toArray (u64v_one _)) ?_
    have xR4 : Hid ((W3.setRow P3 (u64v [c0, c1, c2, c3]).toArray).heap[P3]? = some (.cells (u64v [c0, c1, c2, c3]).toArray 96 (0, 0))) := setRow_heap _ _ _ _ _ _ ((row_next (row_next z3 g2) g3)).out
    have hB4 := below_setRow hHeld lP3 (u64v [c0, c1, c2, c3]).toArray
    generalize W3.setRow P3 (u64v [c0, c1, c2, c3]).toArray = W4 at *
    refine hK.out _ _ (hB4) (fun hHeld => ?_)
    clear hK K
    try simp only [Act.put]
    refine wpAnyH_done (by kernel_rfl) ?_ _
    have hb4 := hHeld
    have xA4 := Lib.hid ((hHeld.block _ sAV).trans hgAV.out)
    have xZ4 := Lib.hid ((hHeld.block _ sZV).trans hgZV.out)
    have hbW4 := below_next hbV hbV.size hHeld
    have hla4 := hlaV.below (by have := hlaV.2; omega) hHeld
    have sR4 : P3 < W4.heap.size := (Array.getElem?_eq_some_iff.1 xR4.out).1
    have sA4 : G < W4.heap.size := (Array.getElem?_eq_some_iff.1 xA4.out).1
    have sZ4 : w.heap.size + 1 < W4.heap.size := (Array.getElem?_eq_some_iff.1 xZ4.out).1
    clear hHeld hb4
    go_upto_region 3 with fail
    have hbT := hbW4
    refine wp_region_held_drew (S := (fun W' => Below W4.heap.size W4 W')) (by kernel_rfl) ((Below.refl _ _).drew) (fun hHeld => ?_)
    refine wpAnyH_take (i := 0) (oi := ⟨(some 11), _, _, _, _, _⟩) (v := _) rfl (by kernel_rfl) (by kernel_rfl) (by kernel_rfl) (fun _ _ _ h => h) (yieldsIf_load_mid (by rfl) _ _ rfl P3 0 rfl (u64v [c0, c1, c2, c3]) _ (fun W' hW' => range_row ((hW'.block _ sR4).trans xR4.out)) (Tryd.underlying96) (rfl) (by kernel_rfl)) hHeld ?_
    try simp only [Act.put, List.setIfInBounds_toArray, List.set_cons_zero, List.set_cons_succ]
    refine wpAnyH_take (i := 1) (oi := ⟨(some 12), _, _, _, _, _⟩) (v := _) rfl (by kernel_rfl) (by kernel_rfl) (by kernel_rfl) (fun _ _ _ h => h) (yieldsIf_load_mid (by rfl) _ _ rfl P3 0 rfl (u64v [c0, c1, c2, c3]) _ (fun W' hW' => range_row ((hW'.block _ sR4).trans xR4.out)) (Tryd.underlying96) (rfl) (by kernel_rfl)) hHeld ?_
    try simp only [Act.put, List.setIfInBounds_toArray, List.set_cons_zero, List.set_cons_succ]
    refine wpAnyH_take (i := 4) (oi := ⟨(some 15), _, _, _, _, _⟩) (v := _) rfl (by kernel_rfl) (by kernel_rfl) (by kernel_rfl) (fun _ _ _ h => h) (yieldsIf_load_mid (by rfl) _ _ rfl G 0 rfl (u64v [a0, a1, a2, a3]) _ (fun W' hW' => range_row ((hW'.block _ sA4).trans xA4.out)) (Tryd.underlying96) (rfl) (by kernel_rfl)) hHeld ?_
    try simp only [Act.put, List.setIfInBounds_toArray, List.set_cons_zero, List.set_cons_succ]
    refine wpAnyH_ready (rs := [2]) (by kernel_rfl) (by simp) ?_
    refine AllReadyH.cons (i := 2) (o := ⟨(some 13), _, _, _, _, _⟩) rfl (fun K hK => ?_) AllReadyH.nil
    go_simp
    refine (times_any _ c0 c1 c2 c3 c0 c1 c2 c3 l4.1 l4.2.1 l4.2.2.1 l4.2.2.2 l4.1 l4.2.1 l4.2.2.1 l4.2.2.2).mono ?_
    rintro e T1 ⟨d0, d1, d2, d3, rfl, ed, ⟨ld0, ld1, ld2, ld3⟩, g1⟩
    refine hK.out _ _ (below_next hHeld hHeld.size g1) (fun hHeld => ?_)
    clear hK K
    try simp only [Act.put, List.setIfInBounds_toArray, List.set_cons_zero, List.set_cons_succ]
    refine wpAnyH_ready (rs := [3]) (by kernel_rfl) (by simp) ?_
    refine AllReadyH.cons (i := 3) (o := ⟨(some 14), _, _, _, _, _⟩) rfl (fun K hK => ?_) AllReadyH.nil
    go_simp
    refine (told_any _ d0 d1 d2 d3 ld0 ld1 ld2 ld3).mono ?_
    rintro e T2 ⟨m1, rfl, em1, hm1, g2⟩
    refine hK.out _ _ (below_next hHeld hHeld.size g2) (fun hHeld => ?_)
    clear hK K
    try simp only [Act.put, List.setIfInBounds_toArray, List.set_cons_zero, List.set_cons_succ]
    refine wpAnyH_ready (rs := [5]) (by kernel_rfl) (by simp) ?_
    refine AllReadyH.cons (i := 5) (o := ⟨(some 16), _, _, _, _, _⟩) rfl (fun K hK => ?_) AllReadyH.nil
    go_simp
    refine (told_any _ a0 a1 a2 a3 la0 la1 la2 la3).mono ?_
    rintro e T3 ⟨m2, rfl, em2, hm2, g3⟩
    refine hK.out _ _ (below_next hHeld hHeld.size g3) (fun hHeld => ?_)
    clear hK K
    try simp only [Act.put, List.setIfInBounds_toArray, List.set_cons_zero, List.set_cons_succ]
    have hneq := neq_bytes (P := Tryd.prog) Tryd.underlying23 Tryd.underlying5 Tryd.sizeByte m1 m2 hm1.out hm2.out
    have HM := vlt (show m1 = m2 ↔ n4 c0 c1 c2 c3 * n4 c0 c1 c2 c3 % FP = n4 a0 a1 a2 a3 % FP by rw [em1.out, em2.out, ed.out]; exact wo_iff _ _)
    generalize hbb : decide (m1 = m2) = bb at *
    refine wpAnyH_take (i := 6) (oi := ⟨(some 17), _, _, _, _, _⟩) (v := ?vq3001_0) rfl (by kernel_rfl) (by kernel_rfl) (by kernel_rfl) (fun _ _ _ h => h) (Or.inl ⟨by rfl, ?yq3001_0⟩) hHeld ?_
    case yq3001_0 => (intro W0 hSw; go_simp; try with_reducible rfl)
    try simp only [Act.put, List.setIfInBounds_toArray, List.set_cons_zero, List.set_cons_succ]
    refine wpAnyH_done (by kernel_rfl) ?_ _
    have hbT3 := below_next hbW4 hbW4.size hHeld
    have yR := Lib.hid ((hHeld.block _ sR4).trans xR4.out)
    have yA := Lib.hid ((hHeld.block _ sA4).trans xA4.out)
    have yZ := Lib.hid ((hHeld.block _ sZ4).trans xZ4.out)
    have hlT := hla4.below (by have := hla4.2; omega) hHeld
    have sRy : P3 < T3.heap.size := (Array.getElem?_eq_some_iff.1 yR.out).1
    have sAy : G < T3.heap.size := (Array.getElem?_eq_some_iff.1 yA.out).1
    have sZy : w.heap.size + 1 < T3.heap.size := (Array.getElem?_eq_some_iff.1 yZ.out).1
    clear hHeld g1 g2 g3 hneq ed em1 em2
    by_cases h1 : m1 = m2
    · have HQ := HM.out.1 h1
      rw [show bb = true by rw [← hbb]; simp [h1]]
      have HRO := vlt (root_first HX.out e2.out HQ)
      clear HM hbb h1
      go_upto_region 5 with fail
      refine wp_region_held_drew (S := (fun W' => Below T3.heap.size T3 W')) (by kernel_rfl) ((Below.refl _ _).drew) (fun hHeld => ?_)
      refine wpAnyH_take (i := 0) (oi := ⟨(some 21), _, _, _, _, _⟩) (v := _) rfl (by kernel_rfl) (by kernel_rfl) (by kernel_rfl) (fun _ _ _ h => h) (yieldsIf_load_mid (by rfl) _ _ rfl P3 0 rfl (u64v [c0, c1, c2, c3]) _ (fun W' hW' => range_row ((hW'.block _ sRy).trans yR.out)) (Tryd.underlying96) (rfl) (by kernel_rfl)) hHeld ?_
      try simp only [Act.put, List.setIfInBounds_toArray, List.set_cons_zero, List.set_cons_succ]
      refine wpAnyH_take (i := 1) (oi := ⟨(some 22), _, _, _, _, _⟩) (v := _) rfl (by kernel_rfl) (by kernel_rfl) (by kernel_rfl) (fun _ _ _ h => h) (yieldsIf_load_mid (by rfl) _ _ rfl P3 0 rfl (u64v [c0, c1, c2, c3]) _ (fun W' hW' => range_row ((hW'.block _ sRy).trans yR.out)) (Tryd.underlying96) (rfl) (by kernel_rfl)) hHeld ?_
      try simp only [Act.put, List.setIfInBounds_toArray, List.set_cons_zero, List.set_cons_succ]
      refine wpAnyH_take (i := 4) (oi := ⟨(some 25), _, _, _, _, _⟩) (v := _) rfl (by kernel_rfl) (by kernel_rfl) (by kernel_rfl) (fun _ _ _ h => h) (yieldsIf_load_mid (by rfl) _ _ rfl G 0 rfl (u64v [a0, a1, a2, a3]) _ (fun W' hW' => range_row ((hW'.block _ sAy).trans yA.out)) (Tryd.underlying96) (rfl) (by kernel_rfl)) hHeld ?_
      try simp only [Act.put, List.setIfInBounds_toArray, List.set_cons_zero, List.set_cons_succ]
      refine wpAnyH_ready (rs := [2]) (by kernel_rfl) (by simp) ?_
      refine AllReadyH.cons (i := 2) (o := ⟨(some 23), _, _, _, _, _⟩) rfl (fun K hK => ?_) AllReadyH.nil
      go_simp
      refine (times_any _ c0 c1 c2 c3 c0 c1 c2 c3 l4.1 l4.2.1 l4.2.2.1 l4.2.2.2 l4.1 l4.2.1 l4.2.2.1 l4.2.2.2).mono ?_
      rintro e U1 ⟨k0, k1, k2, k3, rfl, ek, ⟨lk0, lk1, lk2, lk3⟩, g1⟩
      refine hK.out _ _ (below_next hHeld hHeld.size g1) (fun hHeld => ?_)
      clear hK K
      try simp only [Act.put, List.setIfInBounds_toArray, List.set_cons_zero, List.set_cons_succ]
      refine wpAnyH_ready (rs := [3]) (by kernel_rfl) (by simp) ?_
      refine AllReadyH.cons (i := 3) (o := ⟨(some 24), _, _, _, _, _⟩) rfl (fun K hK => ?_) AllReadyH.nil
      go_simp
      refine (told_any _ k0 k1 k2 k3 lk0 lk1 lk2 lk3).mono ?_
      rintro e U2 ⟨n1, rfl, en1, hn1, g2⟩
      refine hK.out _ _ (below_next hHeld hHeld.size g2) (fun hHeld => ?_)
      clear hK K
      try simp only [Act.put, List.setIfInBounds_toArray, List.set_cons_zero, List.set_cons_succ]
      refine wpAnyH_ready (rs := [5]) (by kernel_rfl) (by simp) ?_
      refine AllReadyH.cons (i := 5) (o := ⟨(some 26), _, _, _, _, _⟩) rfl (fun K hK => ?_) AllReadyH.nil
      go_simp
      refine (told_any _ a0 a1 a2 a3 la0 la1 la2 la3).mono ?_
      rintro e U3 ⟨n2, rfl, en2, hn2, g3⟩
      refine hK.out _ _ (below_next hHeld hHeld.size g3) (fun hHeld => ?_)
      clear hK K
      try simp only [Act.put, List.setIfInBounds_toArray, List.set_cons_zero, List.set_cons_succ]
      obtain rfl : n1 = n2 := by rw [en1.out, en2.out, ek.out]; exact (wo_iff _ _).2 HQ
      have hneq := neq_bytes (P := Tryd.prog) Tryd.underlying23 Tryd.underlying5 Tryd.sizeByte n1 n1 hn1.out hn1.out
      rw [show (!decide (n1 = n1)) = false by simp] at hneq
      refine wpAnyH_take (i := 6) (oi := ⟨(some 27), _, _, _, _, _⟩) (v := ?vq3002_0) rfl (by kernel_rfl) (by kernel_rfl) (by kernel_rfl) (fun _ _ _ h => h) (Or.inl ⟨by rfl, ?yq3002_0⟩) hHeld ?_
      case yq3002_0 => (intro W0 hSw; go_simp; try with_reducible rfl)
      try simp only [Act.put, List.setIfInBounds_toArray, List.set_cons_zero, List.set_cons_succ]
      refine wpAnyH_done (by kernel_rfl) ?_ _
      have hbU3 := below_next hbT3 hbT3.size hHeld
      have uR := Lib.hid ((hHeld.block _ sRy).trans yR.out)
      have uZ := Lib.hid ((hHeld.block _ sZy).trans yZ.out)
      have sZu : w.heap.size + 1 < U3.heap.size := (Array.getElem?_eq_some_iff.1 uZ.out).1
      clear hHeld g1 g2 g3 hneq ek en1 en2 HQ
      go_wp2_with (with_reducible refine wpList_load_row rfl 96 (.tmp 5) rfl P3 rfl 96 (u64v [c0, c1, c2, c3]).toArray (0, 0) _ uR.out Tryd.underlying96 rfl (by kernel_rfl) ?_)
      refine (even_any U3 c0 c1 c2 c3 l4.1 l4.2.1 l4.2.2.1 l4.2.2.2).mono ?_
      rintro e T4 ⟨r, rfl, er, hr, g4⟩
      have HF := vlt (show (r, true) = rootOf (ln a) by rw [HRO.out, er.out])
      have hbT4 := below_next hbU3 hbU3.size g4
      have zZ : Hid (T4.heap[w.heap.size + 1]? = some (.cells (bv z32).toArray 23 (0, 0))) := (g4.block _ sZu).trans uZ.out
      have hrs := Lib.hid (bv_size r hr.out)
      go_wp2_with (with_reducible refine wpList_store_row rfl 23 (.tmp 2) (.tmp 30) rfl (w.heap.size + 1) (bv r).toArray rfl rfl 23 _ zZ.out (by rw [hrs.out]; kernel_rfl) (by rw [hrs.out]; kernel_rfl) (all_oneCell_toArray (bv_one _)) ?_)
      refine bodyPost_ret (v := .tuple #[.agg (bv r).toArray, .bool true]) (results_row_tmp Tryd.results62 _ _ (w.heap.size + 1) 23 _ (0, 0) _ rfl (setRow_heap _ _ _ _ _ _ zZ.out) Tryd.underlying23 rfl (by rw [hrs.out]; kernel_rfl) _ rfl) rfl ⟨r, true, rfl, HF, hr, below_setRow hbT4 (by omega) _⟩
    · have HQ : ¬ _ := fun h => h1 (HM.out.2 h)
      rw [show bb = false by rw [← hbb]; simp [h1]]
      clear HM hbb
      go_wp2_with (first
        | (with_reducible refine wpList_load_row rfl 96 (.tmp 5) rfl P3 rfl 96 (u64v [c0, c1, c2, c3]).toArray (0, 0) _ yR.out Tryd.underlying96 rfl (by kernel_rfl) ?_)
        | (with_reducible refine wpList_load_mid rfl 96 (.global 4) rfl 4 0 rfl (u64v turnL) _ hlT.range Tryd.underlying96 rfl (by kernel_rfl) ?_))
      refine (times_any T3 c0 c1 c2 c3 14190309331451158704 3405592160176694392 3120150775007532967 3135389899092516619 l4.1 l4.2.1 l4.2.2.1 l4.2.2.2 (by decide) (by decide) (by decide) (by decide)).mono ?_
      rintro e T4 ⟨f0, f1, f2, f3, rfl, ef, l5, g4⟩
      have hbT4 := below_next hbT3 hbT3.size g4
      have vR : Hid (T4.heap[P3]? = some (.cells (u64v [c0, c1, c2, c3]).toArray 96 (0, 0))) := (g4.block _ sRy).trans yR.out
      have vA : Hid (T4.heap[G]? = some (.cells (u64v [a0, a1, a2, a3]).toArray 96 (0, 0))) := (g4.block _ sAy).trans yA.out
      have vZ : Hid (T4.heap[w.heap.size + 1]? = some (.cells (bv z32).toArray 23 (0, 0))) := (g4.block _ sZy).trans yZ.out
      go_upto_region 5 with (with_reducible refine wpList_store_row rfl 96 (.tmp 5) (.tmp 20) rfl P3 (u64v [f0, f1, f2, f3]).toArray rfl rfl 96 _ vR.out (by kernel_rfl) (by kernel_rfl) (all_oneCell_toArray (u64v_one _)) ?_)
      obtain ⟨W5, hW5⟩ : ∃ W5, W5 = T4.setRow P3 (u64v [f0, f1, f2, f3]).toArray := ⟨_, rfl⟩
      rw [← hW5]
      have xR5 : Hid (W5.heap[P3]? = some (.cells (u64v [f0, f1, f2, f3]).toArray 96 (0, 0))) := by rw [hW5]; exact setRow_heap _ _ _ _ _ _ vR.out
      have xA5 : Hid (W5.heap[G]? = some (.cells (u64v [a0, a1, a2, a3]).toArray 96 (0, 0))) := by rw [hW5]; exact (setRow_other _ _ _ _ (by omega)).trans vA.out
      have xZ5 : Hid (W5.heap[w.heap.size + 1]? = some (.cells (bv z32).toArray 23 (0, 0))) := by rw [hW5]; exact (setRow_other _ _ _ _ (by omega)).trans vZ.out
      have hbW5 : Below w.heap.size w W5 := by rw [hW5]; exact below_setRow hbT4 (by omega) _
      have sR5 : P3 < W5.heap.size := (Array.getElem?_eq_some_iff.1 xR5.out).1
      have sA5 : G < W5.heap.size := (Array.getElem?_eq_some_iff.1 xA5.out).1
      have sZ5 : w.heap.size + 1 < W5.heap.size := (Array.getElem?_eq_some_iff.1 xZ5.out).1
      clear hW5 vR vA vZ hbT4 g4 yR yA yZ hlT
      refine wp_region_held_drew (S := (fun W' => Below W5.heap.size W5 W')) (by kernel_rfl) ((Below.refl _ _).drew) (fun hHeld => ?_)
      refine wpAnyH_take (i := 0) (oi := ⟨(some 21), _, _, _, _, _⟩) (v := _) rfl (by kernel_rfl) (by kernel_rfl) (by kernel_rfl) (fun _ _ _ h => h) (yieldsIf_load_mid (by rfl) _ _ rfl P3 0 rfl (u64v [f0, f1, f2, f3]) _ (fun W' hW' => range_row ((hW'.block _ sR5).trans xR5.out)) (Tryd.underlying96) (rfl) (by kernel_rfl)) hHeld ?_
      try simp only [Act.put, List.setIfInBounds_toArray, List.set_cons_zero, List.set_cons_succ]
      refine wpAnyH_take (i := 1) (oi := ⟨(some 22), _, _, _, _, _⟩) (v := _) rfl (by kernel_rfl) (by kernel_rfl) (by kernel_rfl) (fun _ _ _ h => h) (yieldsIf_load_mid (by rfl) _ _ rfl P3 0 rfl (u64v [f0, f1, f2, f3]) _ (fun W' hW' => range_row ((hW'.block _ sR5).trans xR5.out)) (Tryd.underlying96) (rfl) (by kernel_rfl)) hHeld ?_
      try simp only [Act.put, List.setIfInBounds_toArray, List.set_cons_zero, List.set_cons_succ]
      refine wpAnyH_take (i := 4) (oi := ⟨(some 25), _, _, _, _, _⟩) (v := _) rfl (by kernel_rfl) (by kernel_rfl) (by kernel_rfl) (fun _ _ _ h => h) (yieldsIf_load_mid (by rfl) _ _ rfl G 0 rfl (u64v [a0, a1, a2, a3]) _ (fun W' hW' => range_row ((hW'.block _ sA5).trans xA5.out)) (Tryd.underlying96) (rfl) (by kernel_rfl)) hHeld ?_
      try simp only [Act.put, List.setIfInBounds_toArray, List.set_cons_zero, List.set_cons_succ]
      refine wpAnyH_ready (rs := [2]) (by kernel_rfl) (by simp) ?_
      refine AllReadyH.cons (i := 2) (o := ⟨(some 23), _, _, _, _, _⟩) rfl (fun K hK => ?_) AllReadyH.nil
      go_simp
      refine (times_any _ f0 f1 f2 f3 f0 f1 f2 f3 l5.1 l5.2.1 l5.2.2.1 l5.2.2.2 l5.1 l5.2.1 l5.2.2.1 l5.2.2.2).mono ?_
      rintro e T1 ⟨d0, d1, d2, d3, rfl, ed, ⟨ld0, ld1, ld2, ld3⟩, g1⟩
      refine hK.out _ _ (below_next hHeld hHeld.size g1) (fun hHeld => ?_)
      clear hK K
      try simp only [Act.put, List.setIfInBounds_toArray, List.set_cons_zero, List.set_cons_succ]
      refine wpAnyH_ready (rs := [3]) (by kernel_rfl) (by simp) ?_
      refine AllReadyH.cons (i := 3) (o := ⟨(some 24), _, _, _, _, _⟩) rfl (fun K hK => ?_) AllReadyH.nil
      go_simp
      refine (told_any _ d0 d1 d2 d3 ld0 ld1 ld2 ld3).mono ?_
      rintro e T2 ⟨m1, rfl, em1, hm1, g2⟩
      refine hK.out _ _ (below_next hHeld hHeld.size g2) (fun hHeld => ?_)
      clear hK K
      try simp only [Act.put, List.setIfInBounds_toArray, List.set_cons_zero, List.set_cons_succ]
      refine wpAnyH_ready (rs := [5]) (by kernel_rfl) (by simp) ?_
      refine AllReadyH.cons (i := 5) (o := ⟨(some 26), _, _, _, _, _⟩) rfl (fun K hK => ?_) AllReadyH.nil
      go_simp
      refine (told_any _ a0 a1 a2 a3 la0 la1 la2 la3).mono ?_
      rintro e T3 ⟨m2, rfl, em2, hm2, g3⟩
      refine hK.out _ _ (below_next hHeld hHeld.size g3) (fun hHeld => ?_)
      clear hK K
      try simp only [Act.put, List.setIfInBounds_toArray, List.set_cons_zero, List.set_cons_succ]
      have hneq := neq_bytes (P := Tryd.prog) Tryd.underlying23 Tryd.underlying5 Tryd.sizeByte m1 m2 hm1.out hm2.out
      have HM := vlt (show m1 = m2 ↔ n4 f0 f1 f2 f3 * n4 f0 f1 f2 f3 % FP = n4 a0 a1 a2 a3 % FP by rw [em1.out, em2.out, ed.out]; exact wo_iff _ _)
      generalize hbb : decide (m1 = m2) = bb at *
      refine wpAnyH_take (i := 6) (oi := ⟨(some 27), _, _, _, _, _⟩) (v := ?vq3003_0) rfl (by kernel_rfl) (by kernel_rfl) (by kernel_rfl) (fun _ _ _ h => h) (Or.inl ⟨by rfl, ?yq3003_0⟩) hHeld ?_
      case yq3003_0 => (intro W0 hSw; go_simp; try with_reducible rfl)
      try simp only [Act.put, List.setIfInBounds_toArray, List.set_cons_zero, List.set_cons_succ]
      refine wpAnyH_done (by kernel_rfl) ?_ _
      have hbU := below_next hbW5 hbW5.size hHeld
      have uR := Lib.hid ((hHeld.block _ sR5).trans xR5.out)
      have uZ := Lib.hid ((hHeld.block _ sZ5).trans xZ5.out)
      have sZu : w.heap.size + 1 < T3.heap.size := (Array.getElem?_eq_some_iff.1 uZ.out).1
      clear hHeld g1 g2 g3 hneq ed em1 em2
      by_cases h2 : m1 = m2
      · have HQ2 := HM.out.1 h2
        rw [show bb = true by rw [← hbb]; simp [h2]]
        have HRO := vlt (root_second HX.out e2.out ef.out HQ HQ2)
        clear HM hbb h2 HQ2 HQ
        go_wp2_with (with_reducible refine wpList_load_row rfl 96 (.tmp 5) rfl P3 rfl 96 (u64v [f0, f1, f2, f3]).toArray (0, 0) _ uR.out Tryd.underlying96 rfl (by kernel_rfl) ?_)
        refine (even_any T3 f0 f1 f2 f3 l5.1 l5.2.1 l5.2.2.1 l5.2.2.2).mono ?_
        rintro e T4 ⟨r, rfl, er, hr, g4⟩
        have HF := vlt (show (r, true) = rootOf (ln a) by rw [HRO.out, er.out])
        have hbT4 := below_next hbU hbU.size g4
        have zZ : Hid (T4.heap[w.heap.size + 1]? = some (.cells (bv z32).toArray 23 (0, 0))) := (g4.block _ sZu).trans uZ.out
        have hrs := Lib.hid (bv_size r hr.out)
        go_wp2_with (with_reducible refine wpList_store_row rfl 23 (.tmp 2) (.tmp 30) rfl (w.heap.size + 1) (bv r).toArray rfl rfl 23 _ zZ.out (by rw [hrs.out]; kernel_rfl) (by rw [hrs.out]; kernel_rfl) (all_oneCell_toArray (bv_one _)) ?_)
        refine bodyPost_ret (v := .tuple #[.agg (bv r).toArray, .bool true]) (results_row_tmp Tryd.results62 _ _ (w.heap.size + 1) 23 _ (0, 0) _ rfl (setRow_heap _ _ _ _ _ _ zZ.out) Tryd.underlying23 rfl (by rw [hrs.out]; kernel_rfl) _ rfl) rfl ⟨r, true, rfl, HF, hr, below_setRow hbT4 (by omega) _⟩
      · have HQ2 : ¬ _ := fun h => h2 (HM.out.2 h)
        rw [show bb = false by rw [← hbb]; simp [h2]]
        have HF := vlt (show (z32, false) = rootOf (ln a) from (root_none HX.out e2.out ef.out HQ HQ2).symm)
        clear HM hbb HQ2 HQ
        go_wp2_with (with_reducible refine wpList_store_row rfl 23 (.tmp 2) (.tmp 28) rfl (w.heap.size + 1) (bv z32).toArray rfl rfl 23 _ uZ.out (by kernel_rfl) (by kernel_rfl) (all_oneCell_toArray (bv_one _)) ?_)
        refine bodyPost_ret (v := .tuple #[.agg (bv z32).toArray, .bool false]) (results_row_tmp Tryd.results62 _ _ (w.heap.size + 1) 23 _ (0, 0) _ rfl (setRow_heap _ _ _ _ _ _ uZ.out) Tryd.underlying23 rfl (by kernel_rfl) _ rfl) rfl ⟨z32, false, rfl, HF, z32_len, below_setRow hbU (by omega) _⟩
end Go.Proofs.YtcefdcjpddohaaaDoor
namespace Go.Proofs.YtcefdcjpddohaaaDoor

/-- What is taken from nothing, squared. -/
theorem neg_sq (r : Nat) : subF 0 r * subF 0 r % FP = r * r % FP := by
  have h := subF_add 0 r
  rw [Nat.zero_mod] at h
  obtain ⟨k, hk⟩ := Nat.dvd_of_mod_eq_zero h
  generalize subF 0 r = s at *
  have e1 : s * s + r * (s + r) = r * r + s * (s + r) := by grind
  rw [hk] at e1
  have e2 : (s * s + FP * (r * k)) % FP = (r * r + FP * (s * k)) % FP := by
    congr 1
    rw [Nat.mul_left_comm FP r k, Nat.mul_left_comm FP s k]; exact e1
  rwa [Nat.add_mul_mod_self_left, Nat.add_mul_mod_self_left] at e2
theorem evenW_sq (r : Nat) : ln (evenW r) * ln (evenW r) % FP = r * r % FP := by
  unfold evenW
  by_cases h : r % FP % 2 = 1
  · rw [if_pos h, ln_wo, ← Nat.mul_mod, neg_sq]
  · rw [if_neg h, ln_wo, ← Nat.mul_mod]
theorem evenW_even (r : Nat) : ln (evenW r) % 2 = 0 := by
  unfold evenW
  by_cases h : r % FP % 2 = 1
  · rw [if_pos h, ln_wo, subF]
    have h1 : r % FP < FP := Nat.mod_lt _ fp_pos
    have h3 : (0 + (FP - r % FP)) % FP = FP - r % FP := by rw [Nat.zero_add]; exact Nat.mod_eq_of_lt (by omega)
    rw [h3]
    have h2 : FP % 2 = 1 := by decide
    omega
  · rw [if_neg h, ln_wo]
    omega
theorem root_yes {x : Nat} {l : List UInt8} (h : (l, true) = rootOf x) : ln l * ln l % FP = x % FP ∧ ln l % 2 = 0 := by
  unfold rootOf at h
  by_cases h1 : x ^ E8 * x ^ E8 % FP = x % FP
  · rw [if_pos h1] at h
    injection h with h2 _
    rw [h2, evenW_sq]
    exact ⟨h1, evenW_even _⟩
  · rw [if_neg h1] at h
    by_cases h3 : (x ^ E8 * TRN) * (x ^ E8 * TRN) % FP = x % FP
    · rw [if_pos h3] at h
      injection h with h2 _
      rw [h2, evenW_sq]
      exact ⟨h3, evenW_even _⟩
    · rw [if_neg h3] at h
      injection h with _ h2
      cases h2
theorem root_no {x : Nat} {l : List UInt8} (h : (l, false) = rootOf x) : l = z32 := by
  unfold rootOf at h
  by_cases h1 : x ^ E8 * x ^ E8 % FP = x % FP
  · rw [if_pos h1] at h
    injection h with _ h2
    cases h2
  · rw [if_neg h1] at h
    by_cases h3 : (x ^ E8 * TRN) * (x ^ E8 * TRN) % FP = x % FP
    · rw [if_pos h3] at h
      injection h with _ h2
      cases h2
    · rw [if_neg h3] at h
      injection h with h2 _
theorem evenW_wo (r : Nat) : ∃ N, evenW r = wo N := by
  unfold evenW
  by_cases h : r % FP % 2 = 1
  · rw [if_pos h]; exact ⟨_, rfl⟩
  · rw [if_neg h]; exact ⟨_, rfl⟩
theorem wo_again (N : Nat) : wo (ln (wo N)) = wo N := by rw [ln_wo]; exact wo_of (Nat.mod_mod N FP)
theorem root_is (x : Nat) : (∃ r, rootOf x = (evenW r, true)) ∨ rootOf x = (z32, false) := by
  unfold rootOf
  by_cases h1 : x ^ E8 * x ^ E8 % FP = x % FP
  · rw [if_pos h1]; exact .inl ⟨_, rfl⟩
  · rw [if_neg h1]
    by_cases h3 : (x ^ E8 * TRN) * (x ^ E8 * TRN) % FP = x % FP
    · rw [if_pos h3]; exact .inl ⟨_, rfl⟩
    · rw [if_neg h3]; exact .inr rfl
theorem root_wo {x : Nat} {l : List UInt8} (h : (l, true) = rootOf x) : wo (ln l) = l := by
  rcases root_is x with ⟨r, hr⟩ | hr
  · rw [hr] at h
    have h2 : l = evenW r := congrArg Prod.fst h
    obtain ⟨N, hN⟩ := evenW_wo r
    rw [h2, hN, wo_again]
  · rw [hr] at h
    have h2 : true = false := congrArg Prod.snd h
    cases h2
/-- A square has a root. -/
theorem root_square (a : Nat) : (rootOf (a * a % FP)).2 = true := by
  unfold rootOf
  obtain ⟨x, hx⟩ : ∃ x, x = a * a % FP := ⟨_, rfl⟩
  rw [← hx]
  have e8 : E8 + E8 = (FP - 1) / 4 + 1 := by decide
  have hd : x ^ E8 * x ^ E8 = x ^ ((FP - 1) / 4) * x := by rw [← Nat.pow_add, e8, Nat.pow_succ]
  by_cases h1 : x ^ E8 * x ^ E8 % FP = x % FP
  · rw [if_pos h1]
  · rw [if_neg h1]
    by_cases h0 : FP ∣ a
    · exfalso
      apply h1
      have hx0 : x = 0 := by rw [hx, Nat.mul_mod, Nat.mod_eq_zero_of_dvd h0, Nat.zero_mul, Nat.zero_mod]
      rw [hd, hx0, Nat.mul_zero]
    · have hf := fermat_one prFP h0
      obtain ⟨g, hg⟩ : ∃ g, g = x ^ ((FP - 1) / 4) := ⟨_, rfl⟩
      rw [← hg] at hd
      have hgg : g * g % FP = 1 := by
        have e4 : (FP - 1) / 4 + (FP - 1) / 4 = (FP - 1) / 2 := by decide
        have e2 : 2 * ((FP - 1) / 2) = FP - 1 := by decide
        have hp2 : (a * a) ^ ((FP - 1) / 2) = a ^ (2 * ((FP - 1) / 2)) := by rw [Nat.pow_mul, Nat.pow_two]
        rw [hg, ← Nat.pow_add, e4, hx, ← Nat.pow_mod, hp2, e2, hf]
      have hgm : FP ∣ (g + (FP - 1)) * (g + 1) := by
        refine Nat.dvd_of_mod_eq_zero ?_
        have e : (g + (FP - 1)) * (g + 1) = g * g + (FP - 1) + FP * g := by
          obtain ⟨m, hm⟩ : ∃ m, FP = m + 1 := ⟨FP - 1, by have := fp_pos; omega⟩
          rw [hm, Nat.add_sub_cancel]
          grind
        rw [e, Nat.add_mul_mod_self_left, Nat.add_mod, hgg, show (1 + (FP - 1) % FP) % FP = 0 by decide]
      rcases prFP.euclid hgm with h2 | h2
      · exfalso
        apply h1
        obtain ⟨k, hk⟩ := h2
        have hk2 : g * x + FP * x = x + FP * (k * x) := by
          have h3 : (g + (FP - 1)) * x = FP * k * x := by rw [hk]
          obtain ⟨m, hm⟩ : ∃ m, FP = m + 1 := ⟨FP - 1, by have := fp_pos; omega⟩
          rw [hm, Nat.add_sub_cancel] at h3
          rw [hm]
          grind
        rw [hd, ← Nat.add_mul_mod_self_left (g * x) FP x, hk2, Nat.add_mul_mod_self_left]
      · have ht : TRN * TRN % FP = FP - 1 := by decide +kernel
        have h3 : (x ^ E8 * TRN) * (x ^ E8 * TRN) % FP = x % FP := by
          rw [Nat.mul_mul_mul_comm, hd, Nat.mul_mod, ht]
          obtain ⟨k, hk⟩ := h2
          have e : g * x % FP * (FP - 1) % FP = g * x * (FP - 1) % FP := by rw [Nat.mod_mul_mod]
          rw [e]
          have e5 : g * x * (FP - 1) + FP * (k * x) = x + FP * (g * x) := by
            have h3 : (g + 1) * x = FP * k * x := by rw [hk]
            obtain ⟨m, hm⟩ : ∃ m, FP = m + 1 := ⟨FP - 1, by have := fp_pos; omega⟩
            rw [hm] at h3 ⊢
            rw [Nat.add_sub_cancel]
            grind
          rw [← Nat.add_mul_mod_self_left (g * x * (FP - 1)) FP (k * x), e5, Nat.add_mul_mod_self_left]
        rw [if_pos h3]
/-- A number whose square is another's is it, or what it lacks of the prime. -/
theorem root_two {r a : Nat} (h : r * r % FP = a * a % FP) : r % FP = a % FP ∨ r % FP = subF 0 a % FP := by
  have ha : a % FP < FP := Nat.mod_lt _ fp_pos
  have hd : FP ∣ (r + (FP - a % FP)) * (r + a % FP) := by
    refine Nat.dvd_of_mod_eq_zero ?_
    obtain ⟨a0, ha0⟩ : ∃ a0, a0 = a % FP := ⟨_, rfl⟩
    obtain ⟨b, hb⟩ : ∃ b, b = FP - a % FP := ⟨_, rfl⟩
    have hab : FP = a0 + b := by omega
    have h2 : r * r % FP = a0 * a0 % FP := by rw [h, ha0, ← Nat.mul_mod]
    rw [← hb, ← ha0]
    have e : (r + b) * (r + a0) + a0 * a0 = r * r + FP * (r + a0) := by rw [hab]; grind
    have h3 : ((r + b) * (r + a0) + a0 * a0) % FP = a0 * a0 % FP := by rw [e, Nat.add_mul_mod_self_left, h2]
    have h4 := Nat.sub_mod_eq_zero_of_mod_eq h3
    rwa [Nat.add_sub_cancel] at h4
  rcases prFP.euclid hd with h2 | h2
  · refine .inl ?_
    obtain ⟨k, hk⟩ := h2
    have e : r + FP = a % FP + FP * k := by omega
    rw [← Nat.add_mod_right, e, Nat.add_mul_mod_self_left, Nat.mod_mod]
  · refine .inr (subF_of ?_)
    rw [← Nat.add_mod_mod, Nat.mod_eq_zero_of_dvd h2, Nat.zero_mod]
end Go.Proofs.YtcefdcjpddohaaaDoor
namespace Go.Proofs.YtcefdcjpddohaaaDoor

def rawX (N X : Nat) : List UInt8 × Bool :=
  if X * X % FP = N % FP then (wo X, true)
  else if (X * TRN) * (X * TRN) % FP = N % FP then (wo (X * TRN), true) else (z32, false)
def rawOf (N : Nat) : List UInt8 × Bool := rawX N (N ^ E8)
end Go.Proofs.YtcefdcjpddohaaaDoor
namespace Go.Proofs.YtcefdcjpddohaaaDoor

/-- The even one of a word and what it lacks of the prime. -/
def evl (l : List UInt8) : List UInt8 := if ln l % 2 = 1 then wo (subF 0 (ln l)) else l
theorem evl_wo (r : Nat) : evl (wo r) = evenW r := by
  have h : wo (subF 0 (r % FP)) = wo (subF 0 r) := by rw [subF, subF, Nat.mod_mod]
  rw [evl, evenW, ln_wo, h]
theorem raw_root (N : Nat) : rootOf N = if (rawOf N).2 = true then (evl (rawOf N).1, true) else (z32, false) := by
  unfold rootOf rawOf rawX
  split
  · rw [if_pos rfl, evl_wo]
  · split
    · rw [if_pos rfl, evl_wo]
    · rfl
theorem rawX_no {N X : Nat} {l : List UInt8} (h : (l, false) = rawX N X) : l = z32 := by
  unfold rawX at h
  split at h
  · have h3 : false = true := congrArg Prod.snd h
    cases h3
  · split at h
    · have h3 : false = true := congrArg Prod.snd h
      cases h3
    · exact congrArg Prod.fst h
theorem raw_no {N : Nat} {l : List UInt8} (h : (l, false) = rawOf N) : l = z32 ∧ (z32, false) = rootOf N :=
  ⟨rawX_no h, by rw [raw_root, ← h]; rfl⟩
theorem raw_yes {N : Nat} {l : List UInt8} (h : (l, true) = rawOf N) : (evl l, true) = rootOf N := by rw [raw_root, ← h]; rfl
theorem evl_odd {l : List UInt8} (h : ln l % 2 = 1) : evl l = wo (subF (ln z32) (ln l)) := by rw [evl, if_pos h, ln_z32]
theorem evl_not {l : List UInt8} (h : ¬ ln l % 2 = 1) : evl l = l := by rw [evl, if_neg h]
end Go.Proofs.YtcefdcjpddohaaaDoor
namespace Go.Proofs.YtcefdcjpddohaaaDoor

theorem plus_diff {n : Nat} [NeZero n] (x1 y1 z1 x2 y2 z2 d : Fin n) :
    (x1 * z1 + y1 * z1) * (x2 * z2 + y2 * z2) - (x1 * z1 * (x2 * z2) + y1 * z1 * (y2 * z2)) = z1 * z2 * (x1 * y2 + y1 * x2) ∧
    x1 * z1 * (x2 * z2) + y1 * z1 * (y2 * z2) = z1 * z2 * (y1 * y2 + x1 * x2) ∧
    z1 * z2 - d * (x1 * y1 * z1 * (x2 * y2 * z2)) = z1 * z2 * (1 - d * (x1 * x2 * y1 * y2)) ∧
    z1 * z2 + d * (x1 * y1 * z1 * (x2 * y2 * z2)) = z1 * z2 * (1 + d * (x1 * x2 * y1 * y2)) := by
  refine ⟨?_, ?_, ?_, ?_⟩ <;> grind
theorem twice_diff {n : Nat} [NeZero n] (x y z d : Fin n) (h : OnE d x y) :
    x * z * (y * z) + x * z * (y * z) = z * z * (x * y + y * x) ∧
    x * z * (x * z) + y * z * (y * z) = z * z * (y * y + x * x) ∧
    z * z + z * z - (y * z * (y * z) - x * z * (x * z)) = z * z * (1 - d * (x * x * y * y)) ∧
    y * z * (y * z) - x * z * (x * z) = z * z * (1 + d * (x * x * y * y)) := by
  simp only [OnE] at h
  refine ⟨?_, ?_, ?_, ?_⟩ <;> grind
theorem ring_y2 {n : Nat} [NeZero n] {K y A B : Fin n} : K * (y * B) * (K * A) = y * (K * A * (K * B)) := by grind
/-- A sum in four numbers, of what is told apart: x over xu, y over yu. -/
theorem rep_at {X XU Y YU K : Fin FP} {P Q : PtE} (hP : OnP P) (hQ : OnP Q) (hK : K ≠ 0)
    (hx : X = K * (P.1 * Q.2 + P.2 * Q.1)) (hy : Y = K * (P.2 * Q.2 + P.1 * Q.1)) (hu : YU = K * (1 - cF dE * (P.1 * Q.1 * P.2 * Q.2))) (hv : XU = K * (1 + cF dE * (P.1 * Q.1 * P.2 * Q.2))) :
    RepE (X * YU) (Y * XU) (XU * YU) (X * Y) (addE P Q) := by
  have hs := addE_sm hP hQ
  have n1 := comp_p fld25519 hP hQ
  have n2 := comp_m fld25519 hP hQ
  have sx := hs.x
  have sy := hs.y
  rw [hx, hy, hu, hv, ← sx, ← sy]
  clear hx hy hu hv hs
  generalize 1 + cF dE * (P.1 * Q.1 * P.2 * Q.2) = A at *
  generalize 1 - cF dE * (P.1 * Q.1 * P.2 * Q.2) = B at *
  clear sx sy
  exact ⟨fld25519.mul_ne (fld25519.mul_ne hK n1) (fld25519.mul_ne hK n2), ring_x, ring_y2, ring_t⟩
theorem rep_plus {X1 Y1 Z1 T1 X2 Y2 Z2 T2 : Fin FP} {P Q : PtE} (hP : OnP P) (hQ : OnP Q) (h1 : RepE X1 Y1 Z1 T1 P) (h2 : RepE X2 Y2 Z2 T2 Q) {xx yy zz bent cross st X XU YU : Fin FP}
    (hxx : xx = X1 * X2) (hyy : yy = Y1 * Y2) (hzz : zz = Z1 * Z2) (hb : bent = cF dE * (T1 * T2)) (hc : cross = (X1 + Y1) * (X2 + Y2)) (hs : st = xx + yy) (hX : X = cross - st) (hXU : XU = zz + bent) (hYU : YU = zz - bent) :
    RepE (X * YU) (st * XU) (XU * YU) (X * st) (addE P Q) := by
  obtain ⟨r1, r2, r3, r4⟩ := plus_diff P.1 P.2 Z1 Q.1 Q.2 Z2 (cF dE)
  have e1 : (P.1 * Z1 * (Q.1 * Z2) + P.2 * Z1 * (Q.2 * Z2)) = st := by rw [hs, hxx, hyy, h1.x, h1.y, h2.x, h2.y]
  have e2 : bent = cF dE * (P.1 * P.2 * Z1 * (Q.1 * Q.2 * Z2)) := by rw [hb, h1.t, h2.t]
  refine rep_at hP hQ (fld25519.mul_ne h1.z h2.z) ?_ (e1.symm.trans r2) ?_ ?_
  · rw [hX, hc, ← e1, h1.x, h1.y, h2.x, h2.y]; exact r1
  · rw [hYU, hzz, e2]; exact r3
  · rw [hXU, hzz, e2]; exact r4
theorem rep_twice {X1 Y1 Z1 T1 : Fin FP} {P : PtE} (hP : OnP P) (h1 : RepE X1 Y1 Z1 T1 P) {xx yy zz xy X XU Y YU : Fin FP}
    (hxx : xx = X1 * X1) (hyy : yy = Y1 * Y1) (hzz : zz = Z1 * Z1) (hxy : xy = X1 * Y1) (hX : X = xy + xy) (hXU : XU = yy - xx) (hY : Y = xx + yy) (hYU : YU = zz + zz - XU) :
    RepE (X * YU) (Y * XU) (XU * YU) (X * Y) (addE P P) := by
  obtain ⟨r1, r2, r3, r4⟩ := twice_diff P.1 P.2 Z1 (cF dE) hP
  have ex := h1.x
  have ey := h1.y
  refine rep_at hP hP (fld25519.mul_ne h1.z h1.z) ?_ ?_ ?_ ?_
  · rw [hX, hxy, ex, ey]; exact r1
  · rw [hY, hxx, hyy, ex, ey]; exact r2
  · rw [hYU, hXU, hzz, hyy, hxx, ex, ey]; exact r3
  · rw [hXU, hyy, hxx, ex, ey]; exact r4
/-- A word as a number modulo the prime. -/
def cW (l : List UInt8) : Fin FP := cF (ln l)
theorem cW_wo (N : Nat) : cW (wo N) = cF N := by rw [cW, ln_wo, cF_eq, Nat.mod_mod]
theorem cW_lt (N : Nat) : ln (wo N) < FP := by rw [ln_wo]; exact Nat.mod_lt _ (by decide)
/-- A place's parts. -/
def sub (p : List UInt8) (o n : Nat) : List UInt8 := (p.drop o).take n
theorem sub_len (p : List UInt8) (o n : Nat) (h : o + n ≤ p.length) : (sub p o n).length = n := by simp [sub]; omega
structure PlE (p : List UInt8) (P : PtE) : Prop where
  rep : RepE (cW (sub p 0 32)) (cW (sub p 32 32)) (cW (sub p 64 32)) (cW (sub p 96 32)) P
  on : OnP P
theorem sub_four (x y z t : List UInt8) (hx : x.length = 32) (hy : y.length = 32) (hz : z.length = 32) (ht : t.length = 32) :
    sub (x ++ (y ++ (z ++ t))) 0 32 = x ∧ sub (x ++ (y ++ (z ++ t))) 32 32 = y ∧ sub (x ++ (y ++ (z ++ t))) 64 32 = z ∧ sub (x ++ (y ++ (z ++ t))) 96 32 = t := by
  refine ⟨?_, ?_, ?_, ?_⟩ <;> simp [sub, List.drop_append, hx, hy, hz, ht, List.drop_eq_nil_of_le, List.take_of_length_le]
theorem plE_four {x y z t p : List UInt8} {P : PtE} (hp : p = x ++ (y ++ (z ++ t))) (hx : x.length = 32) (hy : y.length = 32) (hz : z.length = 32) (ht : t.length = 32) (h : RepE (cW x) (cW y) (cW z) (cW t) P) (ho : OnP P) : PlE p P := by
  obtain ⟨h1, h2, h3, h4⟩ := sub_four x y z t hx hy hz ht
  subst hp
  exact ⟨by rw [h1, h2, h3, h4]; exact h, ho⟩
/-- A square's root, or none. -/
theorem root_none_E {l : List UInt8} {u : Fin FP} {N : Nat} (hN : cF N = u) (hlt : N < FP) (h : (l, false) = rootOf N) : ∀ x : Fin FP, x * x ≠ u := fun x hx => by
  have h1 := root_square x.val
  have h2 : cF (x.val * x.val) = cF N := by rw [cF_mul, cF_self, hx, hN]
  have h3 := cF_eq.1 h2
  rw [h3, Nat.mod_eq_of_lt hlt, ← h] at h1
  cases h1
theorem root_some_E {l : List UInt8} {u : Fin FP} {N : Nat} (hN : cF N = u) (h : (l, true) = rootOf N) : cW l * cW l = u ∧ ln l % 2 = 0 ∧ ln l < FP := by
  obtain ⟨h1, h2⟩ := root_yes h
  refine ⟨?_, h2, ?_⟩
  · rw [cW, ← cF_mul, ← hN, cF_eq]; exact h1
  · rw [← root_wo h]; exact cW_lt _
theorem raw_some_E {l : List UInt8} {u : Fin FP} {N : Nat} (hN : cF N = u) (h : (l, true) = rawOf N) : cW l * cW l = u ∧ ln l < FP := by
  unfold rawOf rawX at h
  split at h
  · rename_i h1
    have h2 : l = wo (N ^ E8) := congrArg Prod.fst h
    rw [h2, cW_wo, ← cF_mul, ← hN, cF_eq]
    exact ⟨h1, cW_lt _⟩
  · split at h
    · rename_i h1
      have h2 : l = wo (N ^ E8 * TRN) := congrArg Prod.fst h
      rw [h2, cW_wo, ← cF_mul, ← hN, cF_eq]
      exact ⟨h1, cW_lt _⟩
    · have h3 : true = false := congrArg Prod.snd h
      cases h3
theorem raw_mod (N : Nat) : rawOf (N % FP) = rawOf N := by
  have h0 : (N % FP) ^ E8 % FP = N ^ E8 % FP := (Nat.pow_mod _ _ _).symm
  unfold rawOf rawX
  rw [sq_of h0, Nat.mod_mod, wo_of h0, sq_of (mul_of (t := TRN) h0), wo_of (mul_of (t := TRN) h0)]
theorem raw_none_E {l : List UInt8} {u : Fin FP} {N : Nat} (hN : cF N = u) (h : (l, false) = rawOf N) : ∀ x : Fin FP, x * x ≠ u := by
  rw [← raw_mod] at h
  refine root_none_E (N := N % FP) (l := z32) ?_ (Nat.mod_lt _ (by decide)) (raw_no h).2
  rw [← hN, cF_eq, Nat.mod_mod]
end Go.Proofs.YtcefdcjpddohaaaDoor
