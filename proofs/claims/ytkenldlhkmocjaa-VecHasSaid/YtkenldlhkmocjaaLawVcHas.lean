/-
  VecHas: the law's Go text returns true, whatever the two and the edit. Conditions: none beyond the row's own.
-/
import Derived.Test.YtkenldlhkmocjaaVcW
import Derived.Test.YtkenldlhkmocjaaVcD
namespace Go.Proofs.Ytkenldlhkmocjaa
open Go.RowKit

theorem sum_in {a : List Int} (h : vgood a = true) (ha : a.length = 8) : 0 ≤ vsum a ∧ vsum a ≤ 8796093022208 := by
  rw [← vsum_yes h ha]; exact vup_small h ha (Nat.le_refl _)
set_option maxRecDepth 100000 in
set_option maxHeartbeats 8000000 in
theorem walk_VecHas (w : World) (a : List Int) (ha : a.length = 8) (_ : Hid (I64s a)) (b : List Int) (hb : b.length = 8) (_ : Hid (I64s b)) (x y : Int) (_ : -9223372036854775808 ≤ x ∧ x < 9223372036854775808) (_ : -9223372036854775808 ≤ y ∧ y < 9223372036854775808) :
    Calls Try.prog 7 #[.agg (i64v a).toArray, .agg (i64v b).toArray, .agg #[.int .i64 x, .int .i64 y]] w fun e w' => e = .returned (.bool true) ∧ Below w.heap.size w w' := by
  obtain ⟨W, hW, hgA, hgB, hgD, hbW, hsW⟩ := three_new w (i64v a).toArray (i64v b).toArray [.int .i64 x, .int .i64 y].toArray 27 27 33
  have HW := Lib.hid hW
  have HA := Lib.hid ha
  have HB := Lib.hid hb
  clear hW ha hb hsW
  go_enter Try.func7, Try.ntmps7
  go_upto_region 1 with fail
  rw [HW.out]
  clear HW
  go_wp2_with fail
  refine (awake15_any W).mono ?_
  rintro e w0 ⟨rfl, hb0⟩
  have g0A := row_next2 hgA hb0
  have g0B := row_next2 hgB hb0
  have g0D := row_next2 hgD hb0
  have s0A := row_size g0A
  have s0B := row_size g0B
  have s0D := row_size g0D
  have hbw0 := below_next hbW hbW.size hb0
  clear hgA hgB hgD hbW hb0
  have sum1 := fun h => Lib.hid (sum_in (a := a) h HA.out)
  have sum2 := fun h => Lib.hid (sum_in (a := b) h HB.out)
  have sum3 := fun h1 h2 => Lib.hid (vsum_max (a := a) (b := b) HA.out HB.out h1 h2)
  have mono := fun h1 h2 => Lib.hid (vhas_mono (a := a) (b := b) HA.out HB.out h1 x y h2)
  have hasm := Lib.hid (vhas_max (a := a) (b := b) HA.out HB.out x y)
  obtain ⟨k1, hk1⟩ : ∃ k, k = vcmp a b := ⟨_, rfl⟩
  obtain ⟨k2, hk2⟩ : ∃ k, k = vcmp b a := ⟨_, rfl⟩
  obtain ⟨o5, ho5⟩ : ∃ o, o = (k1 == 1) := ⟨_, rfl⟩
  have m5 := Lib.hid ho5.symm
  have m6 := Lib.hid (show (k2 == -1) = o5 by rw [ho5, hk1, hk2]; exact (vcmp_turn a b).symm)
  obtain ⟨l, hl⟩ : ∃ o, o = vle a b := ⟨_, rfl⟩
  obtain ⟨o1, ho1⟩ : ∃ o, o = vhas a x y := ⟨_, rfl⟩
  obtain ⟨o2, ho2⟩ : ∃ o, o = vhas b x y := ⟨_, rfl⟩
  obtain ⟨g1, hg1⟩ : ∃ o, o = vgood a := ⟨_, rfl⟩
  obtain ⟨g2, hg2⟩ : ∃ o, o = vgood b := ⟨_, rfl⟩
  obtain ⟨s1, hs1⟩ : ∃ s, s = vsum a := ⟨_, rfl⟩
  obtain ⟨s2, hs2⟩ : ∃ s, s = vsum b := ⟨_, rfl⟩
  have c1 := fun w => vle_any w a b HA.out HB.out
  have c2 := fun w => vhas_any w a HA.out x y
  have c3 := fun w => vhas_any w b HB.out x y
  have c5 := fun w => vgood_any w a HA.out
  have c6 := fun w => vgood_any w b HB.out
  have c7 := fun w => vsum_any w a HA.out
  have c8 := fun w => vsum_any w b HB.out
  have c10 := fun w => vcmp_any w a b HA.out HB.out
  have c11 := fun w => vcmp_any w b a HB.out HA.out
  simp only [← hl] at c1 mono
  simp only [← ho1] at c2 mono hasm
  simp only [← ho2] at c3 mono hasm
  simp only [← hg1] at c5 sum1 sum3
  simp only [← hg2] at c6 sum2 sum3
  simp only [← hs1] at c7 sum1 sum3
  simp only [← hs2] at c8 sum2 sum3
  simp only [← hk1] at c10
  simp only [← hk2] at c11
  clear hk1 hk2 ho5 hl ho1 ho2 hg1 hg2 hs1 hs2
  cases l
  · clear mono
    go_upto_region 3 with fail
    refine plain_start (S := fun W' => Below w0.heap.size w0 W') (by kernel_rfl) (Below.refl _ _) (fun hHeld => ?_)
    refine wpAnyH_take (i := 0) (oi := ⟨(some 10), _, _, _, _, _⟩) (v := .agg (i64v a).toArray) rfl (by kernel_rfl) (by kernel_rfl) (by kernel_rfl) (fun _ _ _ h => h) (yieldsIf_load_mid (by rfl) _ _ rfl w.heap.size 0 rfl (i64v a) _ (fun W' hW' => range_row ((hW'.block _ s0A).trans g0A.out)) (Try.underlying27) rfl (by rw [i64v_len, HA.out]; kernel_rfl)) hHeld ?_
    try simp only [pu]
    refine wpAnyH_take (i := 1) (oi := ⟨(some 11), _, _, _, _, _⟩) (v := .agg (i64v b).toArray) rfl (by kernel_rfl) (by kernel_rfl) (by kernel_rfl) (fun _ _ _ h => h) (yieldsIf_load_mid (by rfl) _ _ rfl (w.heap.size + 1) 0 rfl (i64v b) _ (fun W' hW' => range_row ((hW'.block _ s0B).trans g0B.out)) (Try.underlying27) rfl (by rw [i64v_len, HB.out]; kernel_rfl)) hHeld ?_
    try simp only [pu]
    refine wpAnyH_ready (rs := [2]) (by kernel_rfl) (by simp) ?_
    refine AllReadyH.cons (i := 2) (o := ⟨(some 12), _, _, _, _, _⟩) rfl (fun K hK => ?_) AllReadyH.nil
    go_simp
    refine (c1 _).mono ?_
    rintro e r3W1 ⟨rfl, r3h1⟩
    refine hK.out _ _ (below_next hHeld hHeld.size r3h1) (fun hHeld => ?_)
    clear hK K r3h1
    try simp only [pu]
    refine wpAnyH_take (i := 3) (oi := ⟨(some 13), _, _, _, _, _⟩) (v := .bool false) rfl (by kernel_rfl) (by kernel_rfl) (by kernel_rfl) (fun _ _ _ h => h) (Or.inl ⟨by rfl, ?yr3_3⟩) hHeld ?_
    case yr3_3 => (intro W0 hSw; go_simp; try with_reducible rfl)
    try simp only [pu]
    refine wpAnyH_take (i := 4) (oi := ⟨(some 14), _, _, _, _, _⟩) (v := undef) rfl (by kernel_rfl) (by kernel_rfl) (by kernel_rfl) (fun _ _ _ h => h) (Or.inr ⟨by rfl, rfl⟩) hHeld ?_
    try simp only [pu]
    refine wpAnyH_take (i := 5) (oi := ⟨(some 15), _, _, _, _, _⟩) (v := undef) rfl (by kernel_rfl) (by kernel_rfl) (by kernel_rfl) (fun _ _ _ h => h) (Or.inr ⟨by rfl, rfl⟩) hHeld ?_
    try simp only [pu]
    refine wpAnyH_take (i := 6) (oi := ⟨(some 16), _, _, _, _, _⟩) (v := undef) rfl (by kernel_rfl) (by kernel_rfl) (by kernel_rfl) (fun _ _ _ h => h) (Or.inr ⟨by rfl, rfl⟩) hHeld ?_
    try simp only [pu]
    refine wpAnyH_take (i := 7) (oi := ⟨(some 17), _, _, _, _, _⟩) (v := .bool false) rfl (by kernel_rfl) (by kernel_rfl) (by kernel_rfl) (fun _ _ _ h => h) (Or.inl ⟨by rfl, ?yr3_7⟩) hHeld ?_
    case yr3_7 => (intro W0 hSw; go_simp; try with_reducible rfl)
    try simp only [pu]
    refine wpAnyH_take (i := 8) (oi := ⟨(some 18), _, _, _, _, _⟩) (v := .bool false) rfl (by kernel_rfl) (by kernel_rfl) (by kernel_rfl) (fun _ _ _ h => h) (Or.inl ⟨by rfl, ?yr3_8⟩) hHeld ?_
    case yr3_8 => (intro W0 hSw; go_simp; try with_reducible rfl)
    try simp only [pu]
    refine wpAnyH_take (i := 9) (oi := ⟨(some 19), _, _, _, _, _⟩) (v := undef) rfl (by kernel_rfl) (by kernel_rfl) (by kernel_rfl) (fun _ _ _ h => h) (Or.inr ⟨by rfl, rfl⟩) hHeld ?_
    try simp only [pu]
    refine wpAnyH_take (i := 10) (oi := ⟨(some 20), _, _, _, _, _⟩) (v := undef) rfl (by kernel_rfl) (by kernel_rfl) (by kernel_rfl) (fun _ _ _ h => h) (Or.inr ⟨by rfl, rfl⟩) hHeld ?_
    try simp only [pu]
    refine wpAnyH_take (i := 11) (oi := ⟨(some 21), _, _, _, _, _⟩) (v := undef) rfl (by kernel_rfl) (by kernel_rfl) (by kernel_rfl) (fun _ _ _ h => h) (Or.inr ⟨by rfl, rfl⟩) hHeld ?_
    try simp only [pu]
    refine wpAnyH_take (i := 12) (oi := ⟨(some 22), _, _, _, _, _⟩) (v := undef) rfl (by kernel_rfl) (by kernel_rfl) (by kernel_rfl) (fun _ _ _ h => h) (Or.inr ⟨by rfl, rfl⟩) hHeld ?_
    try simp only [pu]
    refine wpAnyH_take (i := 13) (oi := ⟨(some 23), _, _, _, _, _⟩) (v := .bool false) rfl (by kernel_rfl) (by kernel_rfl) (by kernel_rfl) (fun _ _ _ h => h) (Or.inl ⟨by rfl, ?yr3_13⟩) hHeld ?_
    case yr3_13 => (intro W0 hSw; go_simp; try with_reducible rfl)
    try simp only [pu]
    refine wpAnyH_done (by kernel_rfl) ?_ _
    obtain ⟨w1, hw1⟩ : ∃ X, X = r3W1 := ⟨_, rfl⟩
    subst hw1
    have g1A := row_next2 g0A hHeld
    have g1B := row_next2 g0B hHeld
    have g1D := row_next2 g0D hHeld
    have hbw1 := below_next hbw0 hbw0.size hHeld
    clear hHeld g0A g0B g0D s0A s0B s0D hbw0
    go_wp2_with (first | (with_reducible refine wpList_load_row rfl 27 (.tmp 3) rfl w.heap.size rfl 27 (i64v a).toArray (0, 0) _ (g1A).out Try.underlying27 rfl (by rw [int8_size HA.out]; kernel_rfl) ?_) | (with_reducible refine wpList_load_row rfl 27 (.tmp 4) rfl (w.heap.size + 1) rfl 27 (i64v b).toArray (0, 0) _ (g1B).out Try.underlying27 rfl (by rw [int8_size HB.out]; kernel_rfl) ?_))
    refine (vmerge_any w1 a b HA.out HB.out).mono ?_
    rintro e w2 ⟨rfl, hb2⟩
    have g2A := row_next2 g1A hb2
    have g2B := row_next2 g1B hb2
    have g2D := row_next2 g1D hb2
    have hbw2 := below_next hbw1 hbw1.size hb2
    obtain ⟨m, hm⟩ : ∃ m, m = vmx a b := ⟨_, rfl⟩
    have HM := vlt hm
    have HML := Lib.hid (show m.length = 8 by rw [hm]; exact vmx_len HA.out HB.out)
    rw [← hm]
    clear hm hb2 hbw1 g1A g1B g1D
    go_upto_region 6 with ((with_reducible refine wpList_store_row rfl 27 (.tmp 7) (.tmp 26) rfl w2.heap.size (i64v m).toArray rfl rfl 27 _ (heap_alloc_new _ _) (by rw [int8_size HML.out]; kernel_rfl) (by rw [int8_size HML.out]; kernel_rfl) (all_oneCell_toArray (i64v_one _)) ?_); rw [World.setRow_alloc_new])
    obtain ⟨V, hV⟩ : ∃ V, V = w2.alloc (.cells (i64v m).toArray 27) := ⟨_, rfl⟩
    rw [← hV]
    have gA := row_next2 g2A (show Below w2.heap.size w2 V by rw [hV]; exact (Below.refl _ _).alloc (Nat.le_refl _) _)
    have gB := row_next2 g2B (show Below w2.heap.size w2 V by rw [hV]; exact (Below.refl _ _).alloc (Nat.le_refl _) _)
    have gD := row_next2 g2D (show Below w2.heap.size w2 V by rw [hV]; exact (Below.refl _ _).alloc (Nat.le_refl _) _)
    have gM : Hid (V.heap[w2.heap.size]? = some (.cells (i64v m).toArray 27 (0, 0))) := by rw [hV]; exact heap_alloc_new _ _
    have hbV : Below w.heap.size w V := by rw [hV]; exact hbw2.alloc hbw2.size _
    obtain ⟨G, hG⟩ : ∃ G, G = w2.heap.size := ⟨_, rfl⟩
    rw [← hG] at gM ⊢
    clear hV hG hbw2 g2A g2B g2D
    have sA := row_size gA
    have sB := row_size gB
    have sM := row_size gM
    have sD := row_size gD
    cases o1
    · have c4 := fun w => vhas_any w m HML.out x y
      have c9 := fun w => vsum_any w m HML.out
      simp only [HM.out, hasm.out, Bool.false_or] at c4
      simp only [← HM.out] at c4
      obtain ⟨s3, hs3⟩ : ∃ s, s = vsum m := ⟨_, rfl⟩
      simp only [← hs3] at c9
      simp only [← HM.out, ← hs3] at sum3
      clear HM hs3 hasm
      cases g1
      · clear sum1 sum2 sum3 c6 c7 c8 c9
        refine wp_region_held_drew (S := fun W' => Below V.heap.size V W') (by kernel_rfl) ((Below.refl _ _).drew) (fun hHeld => ?_)
        refine wpAnyH_take (i := 0) (oi := ⟨(some 27), _, _, _, _, _⟩) (v := .agg (i64v m).toArray) rfl (by kernel_rfl) (by kernel_rfl) (by kernel_rfl) (fun _ _ _ h => h) (yieldsIf_load_mid (by rfl) _ _ rfl G 0 rfl (i64v m) _ (fun W' hW' => range_row ((hW'.block _ sM).trans gM.out)) (Try.underlying27) rfl (by rw [i64v_len, HML.out]; kernel_rfl)) hHeld ?_
        try simp only [pu]
        refine wpAnyH_take (i := 1) (oi := ⟨(some 28), _, _, _, _, _⟩) (v := .agg [Value.int .i64 x, .int .i64 y].toArray) rfl (by kernel_rfl) (by kernel_rfl) (by kernel_rfl) (fun _ _ _ h => h) (yieldsIf_load_mid (by rfl) _ _ rfl (w.heap.size + 2) 0 rfl [Value.int .i64 x, .int .i64 y] _ (fun W' hW' => range_row ((hW'.block _ sD).trans gD.out)) (Try.underlying33) rfl (by kernel_rfl)) hHeld ?_
        try simp only [pu]
        refine wpAnyH_take (i := 3) (oi := ⟨(some 30), _, _, _, _, _⟩) (v := .agg (i64v a).toArray) rfl (by kernel_rfl) (by kernel_rfl) (by kernel_rfl) (fun _ _ _ h => h) (yieldsIf_load_mid (by rfl) _ _ rfl w.heap.size 0 rfl (i64v a) _ (fun W' hW' => range_row ((hW'.block _ sA).trans gA.out)) (Try.underlying27) rfl (by rw [i64v_len, HA.out]; kernel_rfl)) hHeld ?_
        try simp only [pu]
        refine wpAnyH_take (i := 4) (oi := ⟨(some 31), _, _, _, _, _⟩) (v := .agg [Value.int .i64 x, .int .i64 y].toArray) rfl (by kernel_rfl) (by kernel_rfl) (by kernel_rfl) (fun _ _ _ h => h) (yieldsIf_load_mid (by rfl) _ _ rfl (w.heap.size + 2) 0 rfl [Value.int .i64 x, .int .i64 y] _ (fun W' hW' => range_row ((hW'.block _ sD).trans gD.out)) (Try.underlying33) rfl (by kernel_rfl)) hHeld ?_
        try simp only [pu]
        refine wpAnyH_ready (rs := [2]) (by kernel_rfl) (by simp) ?_
        refine AllReadyH.cons (i := 2) (o := ⟨(some 29), _, _, _, _, _⟩) rfl (fun K hK => ?_) AllReadyH.nil
        go_simp
        refine (c4 _).mono ?_
        rintro e r6W1 ⟨rfl, r6h1⟩
        refine hK.out _ _ (below_next hHeld hHeld.size r6h1) (fun hHeld => ?_)
        clear hK K r6h1
        try simp only [pu]
        refine wpAnyH_ready (rs := [5]) (by kernel_rfl) (by simp) ?_
        refine AllReadyH.cons (i := 5) (o := ⟨(some 32), _, _, _, _, _⟩) rfl (fun K hK => ?_) AllReadyH.nil
        go_simp
        refine (c2 _).mono ?_
        rintro e r6W2 ⟨rfl, r6h2⟩
        refine hK.out _ _ (below_next hHeld hHeld.size r6h2) (fun hHeld => ?_)
        clear hK K r6h2
        try simp only [pu]
        refine wpAnyH_take (i := 6) (oi := ⟨(some 33), _, _, _, _, _⟩) (v := .bool false) rfl (by kernel_rfl) (by kernel_rfl) (by kernel_rfl) (fun _ _ _ h => h) (Or.inl ⟨by rfl, ?yr6_6⟩) hHeld ?_
        case yr6_6 => (intro W0 hSw; go_simp; try with_reducible rfl)
        try simp only [pu]
        refine wpAnyH_take (i := 7) (oi := ⟨(some 34), _, _, _, _, _⟩) (v := .agg (i64v b).toArray) rfl (by kernel_rfl) (by kernel_rfl) (by kernel_rfl) (fun _ _ _ h => h) (yieldsIf_load_mid (by rfl) _ _ rfl (w.heap.size + 1) 0 rfl (i64v b) _ (fun W' hW' => range_row ((hW'.block _ sB).trans gB.out)) (Try.underlying27) rfl (by rw [i64v_len, HB.out]; kernel_rfl)) hHeld ?_
        try simp only [pu]
        refine wpAnyH_take (i := 8) (oi := ⟨(some 35), _, _, _, _, _⟩) (v := .agg [Value.int .i64 x, .int .i64 y].toArray) rfl (by kernel_rfl) (by kernel_rfl) (by kernel_rfl) (fun _ _ _ h => h) (yieldsIf_load_mid (by rfl) _ _ rfl (w.heap.size + 2) 0 rfl [Value.int .i64 x, .int .i64 y] _ (fun W' hW' => range_row ((hW'.block _ sD).trans gD.out)) (Try.underlying33) rfl (by kernel_rfl)) hHeld ?_
        try simp only [pu]
        refine wpAnyH_ready (rs := [9]) (by kernel_rfl) (by simp) ?_
        refine AllReadyH.cons (i := 9) (o := ⟨(some 36), _, _, _, _, _⟩) rfl (fun K hK => ?_) AllReadyH.nil
        go_simp
        refine (c3 _).mono ?_
        rintro e r6W3 ⟨rfl, r6h3⟩
        refine hK.out _ _ (below_next hHeld hHeld.size r6h3) (fun hHeld => ?_)
        clear hK K r6h3
        try simp only [pu]
        refine wpAnyH_take (i := 10) (oi := ⟨(some 37), _, _, _, _, _⟩) (v := .bool o2) rfl (by kernel_rfl) (by kernel_rfl) (by kernel_rfl) (fun _ _ _ h => h) (Or.inl ⟨by rfl, ?yr6_10⟩) hHeld ?_
        case yr6_10 => (intro W0 hSw; go_simp; try with_reducible rfl)
        try simp only [pu]
        refine wpAnyH_take (i := 11) (oi := ⟨(some 38), _, _, _, _, _⟩) (v := .bool true) rfl (by kernel_rfl) (by kernel_rfl) (by kernel_rfl) (fun _ _ _ h => h) (Or.inl ⟨by rfl, ?yr6_11⟩) hHeld ?_
        case yr6_11 => (intro W0 hSw; go_simp; try simp; try with_reducible rfl)
        try simp only [pu]
        refine wpAnyH_take (i := 12) (oi := ⟨(some 39), _, _, _, _, _⟩) (v := .bool true) rfl (by kernel_rfl) (by kernel_rfl) (by kernel_rfl) (fun _ _ _ h => h) (Or.inl ⟨by rfl, ?yr6_12⟩) hHeld ?_
        case yr6_12 => (intro W0 hSw; go_simp; try with_reducible rfl)
        try simp only [pu]
        refine wpAnyH_take (i := 13) (oi := ⟨(some 40), _, _, _, _, _⟩) (v := .agg (i64v a).toArray) rfl (by kernel_rfl) (by kernel_rfl) (by kernel_rfl) (fun _ _ _ h => h) (yieldsIf_load_mid (by rfl) _ _ rfl w.heap.size 0 rfl (i64v a) _ (fun W' hW' => range_row ((hW'.block _ sA).trans gA.out)) (Try.underlying27) rfl (by rw [i64v_len, HA.out]; kernel_rfl)) hHeld ?_
        try simp only [pu]
        refine wpAnyH_ready (rs := [14]) (by kernel_rfl) (by simp) ?_
        refine AllReadyH.cons (i := 14) (o := ⟨(some 41), _, _, _, _, _⟩) rfl (fun K hK => ?_) AllReadyH.nil
        go_simp
        refine (c5 _).mono ?_
        rintro e r6W4 ⟨rfl, r6h4⟩
        refine hK.out _ _ (below_next hHeld hHeld.size r6h4) (fun hHeld => ?_)
        clear hK K r6h4
        try simp only [pu]
        refine wpAnyH_take (i := 15) (oi := ⟨(some 42), _, _, _, _, _⟩) (v := .bool true) rfl (by kernel_rfl) (by kernel_rfl) (by kernel_rfl) (fun _ _ _ h => h) (Or.inl ⟨by rfl, ?yr6_15⟩) hHeld ?_
        case yr6_15 => (intro W0 hSw; go_simp; try with_reducible rfl)
        try simp only [pu]
        refine wpAnyH_take (i := 16) (oi := ⟨(some 43), _, _, _, _, _⟩) (v := .bool true) rfl (by kernel_rfl) (by kernel_rfl) (by kernel_rfl) (fun _ _ _ h => h) (Or.inl ⟨by rfl, ?yr6_16⟩) hHeld ?_
        case yr6_16 => (intro W0 hSw; go_simp; try with_reducible rfl)
        try simp only [pu]
        refine wpAnyH_take (i := 17) (oi := ⟨(some 44), _, _, _, _, _⟩) (v := undef) rfl (by kernel_rfl) (by kernel_rfl) (by kernel_rfl) (fun _ _ _ h => h) (Or.inr ⟨by rfl, rfl⟩) hHeld ?_
        try simp only [pu]
        refine wpAnyH_take (i := 18) (oi := ⟨(some 45), _, _, _, _, _⟩) (v := undef) rfl (by kernel_rfl) (by kernel_rfl) (by kernel_rfl) (fun _ _ _ h => h) (Or.inr ⟨by rfl, rfl⟩) hHeld ?_
        try simp only [pu]
        refine wpAnyH_take (i := 19) (oi := ⟨(some 46), _, _, _, _, _⟩) (v := undef) rfl (by kernel_rfl) (by kernel_rfl) (by kernel_rfl) (fun _ _ _ h => h) (Or.inr ⟨by rfl, rfl⟩) hHeld ?_
        try simp only [pu]
        refine wpAnyH_take (i := 20) (oi := ⟨(some 47), _, _, _, _, _⟩) (v := .bool true) rfl (by kernel_rfl) (by kernel_rfl) (by kernel_rfl) (fun _ _ _ h => h) (Or.inl ⟨by rfl, ?yr6_20⟩) hHeld ?_
        case yr6_20 => (intro W0 hSw; go_simp; try with_reducible rfl)
        try simp only [pu]
        refine wpAnyH_take (i := 21) (oi := ⟨(some 48), _, _, _, _, _⟩) (v := .bool true) rfl (by kernel_rfl) (by kernel_rfl) (by kernel_rfl) (fun _ _ _ h => h) (Or.inl ⟨by rfl, ?yr6_21⟩) hHeld ?_
        case yr6_21 => (intro W0 hSw; go_simp; try with_reducible rfl)
        try simp only [pu]
        refine wpAnyH_take (i := 22) (oi := ⟨(some 49), _, _, _, _, _⟩) (v := undef) rfl (by kernel_rfl) (by kernel_rfl) (by kernel_rfl) (fun _ _ _ h => h) (Or.inr ⟨by rfl, rfl⟩) hHeld ?_
        try simp only [pu]
        refine wpAnyH_take (i := 23) (oi := ⟨(some 50), _, _, _, _, _⟩) (v := undef) rfl (by kernel_rfl) (by kernel_rfl) (by kernel_rfl) (fun _ _ _ h => h) (Or.inr ⟨by rfl, rfl⟩) hHeld ?_
        try simp only [pu]
        refine wpAnyH_take (i := 24) (oi := ⟨(some 51), _, _, _, _, _⟩) (v := undef) rfl (by kernel_rfl) (by kernel_rfl) (by kernel_rfl) (fun _ _ _ h => h) (Or.inr ⟨by rfl, rfl⟩) hHeld ?_
        try simp only [pu]
        refine wpAnyH_take (i := 25) (oi := ⟨(some 52), _, _, _, _, _⟩) (v := undef) rfl (by kernel_rfl) (by kernel_rfl) (by kernel_rfl) (fun _ _ _ h => h) (Or.inr ⟨by rfl, rfl⟩) hHeld ?_
        try simp only [pu]
        refine wpAnyH_take (i := 26) (oi := ⟨(some 53), _, _, _, _, _⟩) (v := undef) rfl (by kernel_rfl) (by kernel_rfl) (by kernel_rfl) (fun _ _ _ h => h) (Or.inr ⟨by rfl, rfl⟩) hHeld ?_
        try simp only [pu]
        refine wpAnyH_take (i := 27) (oi := ⟨(some 54), _, _, _, _, _⟩) (v := undef) rfl (by kernel_rfl) (by kernel_rfl) (by kernel_rfl) (fun _ _ _ h => h) (Or.inr ⟨by rfl, rfl⟩) hHeld ?_
        try simp only [pu]
        refine wpAnyH_take (i := 28) (oi := ⟨(some 55), _, _, _, _, _⟩) (v := undef) rfl (by kernel_rfl) (by kernel_rfl) (by kernel_rfl) (fun _ _ _ h => h) (Or.inr ⟨by rfl, rfl⟩) hHeld ?_
        try simp only [pu]
        refine wpAnyH_take (i := 29) (oi := ⟨(some 56), _, _, _, _, _⟩) (v := undef) rfl (by kernel_rfl) (by kernel_rfl) (by kernel_rfl) (fun _ _ _ h => h) (Or.inr ⟨by rfl, rfl⟩) hHeld ?_
        try simp only [pu]
        refine wpAnyH_take (i := 30) (oi := ⟨(some 57), _, _, _, _, _⟩) (v := .bool true) rfl (by kernel_rfl) (by kernel_rfl) (by kernel_rfl) (fun _ _ _ h => h) (Or.inl ⟨by rfl, ?yr6_30⟩) hHeld ?_
        case yr6_30 => (intro W0 hSw; go_simp; try with_reducible rfl)
        try simp only [pu]
        refine wpAnyH_take (i := 31) (oi := ⟨(some 58), _, _, _, _, _⟩) (v := .bool true) rfl (by kernel_rfl) (by kernel_rfl) (by kernel_rfl) (fun _ _ _ h => h) (Or.inl ⟨by rfl, ?yr6_31⟩) hHeld ?_
        case yr6_31 => (intro W0 hSw; go_simp; try with_reducible rfl)
        try simp only [pu]
        refine wpAnyH_take (i := 32) (oi := ⟨(some 59), _, _, _, _, _⟩) (v := .bool true) rfl (by kernel_rfl) (by kernel_rfl) (by kernel_rfl) (fun _ _ _ h => h) (Or.inl ⟨by rfl, ?yr6_32⟩) hHeld ?_
        case yr6_32 => (intro W0 hSw; go_simp; try with_reducible rfl)
        try simp only [pu]
        refine wpAnyH_take (i := 33) (oi := ⟨(some 60), _, _, _, _, _⟩) (v := .agg (i64v a).toArray) rfl (by kernel_rfl) (by kernel_rfl) (by kernel_rfl) (fun _ _ _ h => h) (yieldsIf_load_mid (by rfl) _ _ rfl w.heap.size 0 rfl (i64v a) _ (fun W' hW' => range_row ((hW'.block _ sA).trans gA.out)) (Try.underlying27) rfl (by rw [i64v_len, HA.out]; kernel_rfl)) hHeld ?_
        try simp only [pu]
        refine wpAnyH_take (i := 34) (oi := ⟨(some 61), _, _, _, _, _⟩) (v := .agg (i64v b).toArray) rfl (by kernel_rfl) (by kernel_rfl) (by kernel_rfl) (fun _ _ _ h => h) (yieldsIf_load_mid (by rfl) _ _ rfl (w.heap.size + 1) 0 rfl (i64v b) _ (fun W' hW' => range_row ((hW'.block _ sB).trans gB.out)) (Try.underlying27) rfl (by rw [i64v_len, HB.out]; kernel_rfl)) hHeld ?_
        try simp only [pu]
        refine wpAnyH_take (i := 37) (oi := ⟨(some 64), _, _, _, _, _⟩) (v := .agg (i64v b).toArray) rfl (by kernel_rfl) (by kernel_rfl) (by kernel_rfl) (fun _ _ _ h => h) (yieldsIf_load_mid (by rfl) _ _ rfl (w.heap.size + 1) 0 rfl (i64v b) _ (fun W' hW' => range_row ((hW'.block _ sB).trans gB.out)) (Try.underlying27) rfl (by rw [i64v_len, HB.out]; kernel_rfl)) hHeld ?_
        try simp only [pu]
        refine wpAnyH_take (i := 38) (oi := ⟨(some 65), _, _, _, _, _⟩) (v := .agg (i64v a).toArray) rfl (by kernel_rfl) (by kernel_rfl) (by kernel_rfl) (fun _ _ _ h => h) (yieldsIf_load_mid (by rfl) _ _ rfl w.heap.size 0 rfl (i64v a) _ (fun W' hW' => range_row ((hW'.block _ sA).trans gA.out)) (Try.underlying27) rfl (by rw [i64v_len, HA.out]; kernel_rfl)) hHeld ?_
        try simp only [pu]
        refine wpAnyH_ready (rs := [35]) (by kernel_rfl) (by simp) ?_
        refine AllReadyH.cons (i := 35) (o := ⟨(some 62), _, _, _, _, _⟩) rfl (fun K hK => ?_) AllReadyH.nil
        go_simp
        refine (c10 _).mono ?_
        rintro e r6W5 ⟨rfl, r6h5⟩
        refine hK.out _ _ (below_next hHeld hHeld.size r6h5) (fun hHeld => ?_)
        clear hK K r6h5
        try simp only [pu]
        refine wpAnyH_take (i := 36) (oi := ⟨(some 63), _, _, _, _, _⟩) (v := .bool o5) rfl (by kernel_rfl) (by kernel_rfl) (by kernel_rfl) (fun _ _ _ h => h) (Or.inl ⟨by rfl, ?yr6_36⟩) hHeld ?_
        case yr6_36 => (intro W0 hSw; go_simp; try simp only [m5.out]; try with_reducible rfl)
        try simp only [pu]
        refine wpAnyH_ready (rs := [39]) (by kernel_rfl) (by simp) ?_
        refine AllReadyH.cons (i := 39) (o := ⟨(some 66), _, _, _, _, _⟩) rfl (fun K hK => ?_) AllReadyH.nil
        go_simp
        refine (c11 _).mono ?_
        rintro e r6W6 ⟨rfl, r6h6⟩
        refine hK.out _ _ (below_next hHeld hHeld.size r6h6) (fun hHeld => ?_)
        clear hK K r6h6
        try simp only [pu]
        refine wpAnyH_take (i := 40) (oi := ⟨(some 67), _, _, _, _, _⟩) (v := .bool o5) rfl (by kernel_rfl) (by kernel_rfl) (by kernel_rfl) (fun _ _ _ h => h) (Or.inl ⟨by rfl, ?yr6_40⟩) hHeld ?_
        case yr6_40 => (intro W0 hSw; go_simp; try simp only [m6.out]; try with_reducible rfl)
        try simp only [pu]
        refine wpAnyH_take (i := 41) (oi := ⟨(some 68), _, _, _, _, _⟩) (v := .bool true) rfl (by kernel_rfl) (by kernel_rfl) (by kernel_rfl) (fun _ _ _ h => h) (Or.inl ⟨by rfl, ?yr6_41⟩) hHeld ?_
        case yr6_41 => (intro W0 hSw; go_simp; try simp; try with_reducible rfl)
        try simp only [pu]
        refine wpAnyH_take (i := 42) (oi := ⟨(some 69), _, _, _, _, _⟩) (v := .bool true) rfl (by kernel_rfl) (by kernel_rfl) (by kernel_rfl) (fun _ _ _ h => h) (Or.inl ⟨by rfl, ?yr6_42⟩) hHeld ?_
        case yr6_42 => (intro W0 hSw; go_simp; try with_reducible rfl)
        try simp only [pu]
        refine wpAnyH_take (i := 43) (oi := ⟨(some 6), _, _, _, _, _⟩) (v := .bool true) rfl (by kernel_rfl) (by kernel_rfl) (by kernel_rfl) (fun _ _ _ h => h) (Or.inl ⟨by rfl, ?yr6_43⟩) hHeld ?_
        case yr6_43 => (intro W0 hSw; go_simp; try with_reducible rfl)
        try simp only [pu]
        refine wpAnyH_done (by kernel_rfl) ?_ _
        go_wp2
        go_ret
        exact ⟨rfl, below_next hbV hbV.size hHeld⟩
      · cases g2
        · clear sum1 sum2 sum3 c7 c8 c9
          refine wp_region_held_drew (S := fun W' => Below V.heap.size V W') (by kernel_rfl) ((Below.refl _ _).drew) (fun hHeld => ?_)
          refine wpAnyH_take (i := 0) (oi := ⟨(some 27), _, _, _, _, _⟩) (v := .agg (i64v m).toArray) rfl (by kernel_rfl) (by kernel_rfl) (by kernel_rfl) (fun _ _ _ h => h) (yieldsIf_load_mid (by rfl) _ _ rfl G 0 rfl (i64v m) _ (fun W' hW' => range_row ((hW'.block _ sM).trans gM.out)) (Try.underlying27) rfl (by rw [i64v_len, HML.out]; kernel_rfl)) hHeld ?_
          try simp only [pu]
          refine wpAnyH_take (i := 1) (oi := ⟨(some 28), _, _, _, _, _⟩) (v := .agg [Value.int .i64 x, .int .i64 y].toArray) rfl (by kernel_rfl) (by kernel_rfl) (by kernel_rfl) (fun _ _ _ h => h) (yieldsIf_load_mid (by rfl) _ _ rfl (w.heap.size + 2) 0 rfl [Value.int .i64 x, .int .i64 y] _ (fun W' hW' => range_row ((hW'.block _ sD).trans gD.out)) (Try.underlying33) rfl (by kernel_rfl)) hHeld ?_
          try simp only [pu]
          refine wpAnyH_take (i := 3) (oi := ⟨(some 30), _, _, _, _, _⟩) (v := .agg (i64v a).toArray) rfl (by kernel_rfl) (by kernel_rfl) (by kernel_rfl) (fun _ _ _ h => h) (yieldsIf_load_mid (by rfl) _ _ rfl w.heap.size 0 rfl (i64v a) _ (fun W' hW' => range_row ((hW'.block _ sA).trans gA.out)) (Try.underlying27) rfl (by rw [i64v_len, HA.out]; kernel_rfl)) hHeld ?_
          try simp only [pu]
          refine wpAnyH_take (i := 4) (oi := ⟨(some 31), _, _, _, _, _⟩) (v := .agg [Value.int .i64 x, .int .i64 y].toArray) rfl (by kernel_rfl) (by kernel_rfl) (by kernel_rfl) (fun _ _ _ h => h) (yieldsIf_load_mid (by rfl) _ _ rfl (w.heap.size + 2) 0 rfl [Value.int .i64 x, .int .i64 y] _ (fun W' hW' => range_row ((hW'.block _ sD).trans gD.out)) (Try.underlying33) rfl (by kernel_rfl)) hHeld ?_
          try simp only [pu]
          refine wpAnyH_ready (rs := [2]) (by kernel_rfl) (by simp) ?_
          refine AllReadyH.cons (i := 2) (o := ⟨(some 29), _, _, _, _, _⟩) rfl (fun K hK => ?_) AllReadyH.nil
          go_simp
          refine (c4 _).mono ?_
          rintro e r6W1 ⟨rfl, r6h1⟩
          refine hK.out _ _ (below_next hHeld hHeld.size r6h1) (fun hHeld => ?_)
          clear hK K r6h1
          try simp only [pu]
          refine wpAnyH_ready (rs := [5]) (by kernel_rfl) (by simp) ?_
          refine AllReadyH.cons (i := 5) (o := ⟨(some 32), _, _, _, _, _⟩) rfl (fun K hK => ?_) AllReadyH.nil
          go_simp
          refine (c2 _).mono ?_
          rintro e r6W2 ⟨rfl, r6h2⟩
          refine hK.out _ _ (below_next hHeld hHeld.size r6h2) (fun hHeld => ?_)
          clear hK K r6h2
          try simp only [pu]
          refine wpAnyH_take (i := 6) (oi := ⟨(some 33), _, _, _, _, _⟩) (v := .bool false) rfl (by kernel_rfl) (by kernel_rfl) (by kernel_rfl) (fun _ _ _ h => h) (Or.inl ⟨by rfl, ?yr6_6⟩) hHeld ?_
          case yr6_6 => (intro W0 hSw; go_simp; try with_reducible rfl)
          try simp only [pu]
          refine wpAnyH_take (i := 7) (oi := ⟨(some 34), _, _, _, _, _⟩) (v := .agg (i64v b).toArray) rfl (by kernel_rfl) (by kernel_rfl) (by kernel_rfl) (fun _ _ _ h => h) (yieldsIf_load_mid (by rfl) _ _ rfl (w.heap.size + 1) 0 rfl (i64v b) _ (fun W' hW' => range_row ((hW'.block _ sB).trans gB.out)) (Try.underlying27) rfl (by rw [i64v_len, HB.out]; kernel_rfl)) hHeld ?_
          try simp only [pu]
          refine wpAnyH_take (i := 8) (oi := ⟨(some 35), _, _, _, _, _⟩) (v := .agg [Value.int .i64 x, .int .i64 y].toArray) rfl (by kernel_rfl) (by kernel_rfl) (by kernel_rfl) (fun _ _ _ h => h) (yieldsIf_load_mid (by rfl) _ _ rfl (w.heap.size + 2) 0 rfl [Value.int .i64 x, .int .i64 y] _ (fun W' hW' => range_row ((hW'.block _ sD).trans gD.out)) (Try.underlying33) rfl (by kernel_rfl)) hHeld ?_
          try simp only [pu]
          refine wpAnyH_ready (rs := [9]) (by kernel_rfl) (by simp) ?_
          refine AllReadyH.cons (i := 9) (o := ⟨(some 36), _, _, _, _, _⟩) rfl (fun K hK => ?_) AllReadyH.nil
          go_simp
          refine (c3 _).mono ?_
          rintro e r6W3 ⟨rfl, r6h3⟩
          refine hK.out _ _ (below_next hHeld hHeld.size r6h3) (fun hHeld => ?_)
          clear hK K r6h3
          try simp only [pu]
          refine wpAnyH_take (i := 10) (oi := ⟨(some 37), _, _, _, _, _⟩) (v := .bool o2) rfl (by kernel_rfl) (by kernel_rfl) (by kernel_rfl) (fun _ _ _ h => h) (Or.inl ⟨by rfl, ?yr6_10⟩) hHeld ?_
          case yr6_10 => (intro W0 hSw; go_simp; try with_reducible rfl)
          try simp only [pu]
          refine wpAnyH_take (i := 11) (oi := ⟨(some 38), _, _, _, _, _⟩) (v := .bool true) rfl (by kernel_rfl) (by kernel_rfl) (by kernel_rfl) (fun _ _ _ h => h) (Or.inl ⟨by rfl, ?yr6_11⟩) hHeld ?_
          case yr6_11 => (intro W0 hSw; go_simp; try simp; try with_reducible rfl)
          try simp only [pu]
          refine wpAnyH_take (i := 12) (oi := ⟨(some 39), _, _, _, _, _⟩) (v := .bool true) rfl (by kernel_rfl) (by kernel_rfl) (by kernel_rfl) (fun _ _ _ h => h) (Or.inl ⟨by rfl, ?yr6_12⟩) hHeld ?_
          case yr6_12 => (intro W0 hSw; go_simp; try with_reducible rfl)
          try simp only [pu]
          refine wpAnyH_take (i := 13) (oi := ⟨(some 40), _, _, _, _, _⟩) (v := .agg (i64v a).toArray) rfl (by kernel_rfl) (by kernel_rfl) (by kernel_rfl) (fun _ _ _ h => h) (yieldsIf_load_mid (by rfl) _ _ rfl w.heap.size 0 rfl (i64v a) _ (fun W' hW' => range_row ((hW'.block _ sA).trans gA.out)) (Try.underlying27) rfl (by rw [i64v_len, HA.out]; kernel_rfl)) hHeld ?_
          try simp only [pu]
          refine wpAnyH_ready (rs := [14]) (by kernel_rfl) (by simp) ?_
          refine AllReadyH.cons (i := 14) (o := ⟨(some 41), _, _, _, _, _⟩) rfl (fun K hK => ?_) AllReadyH.nil
          go_simp
          refine (c5 _).mono ?_
          rintro e r6W4 ⟨rfl, r6h4⟩
          refine hK.out _ _ (below_next hHeld hHeld.size r6h4) (fun hHeld => ?_)
          clear hK K r6h4
          try simp only [pu]
          refine wpAnyH_take (i := 15) (oi := ⟨(some 42), _, _, _, _, _⟩) (v := .bool false) rfl (by kernel_rfl) (by kernel_rfl) (by kernel_rfl) (fun _ _ _ h => h) (Or.inl ⟨by rfl, ?yr6_15⟩) hHeld ?_
          case yr6_15 => (intro W0 hSw; go_simp; try with_reducible rfl)
          try simp only [pu]
          refine wpAnyH_take (i := 16) (oi := ⟨(some 43), _, _, _, _, _⟩) (v := .bool false) rfl (by kernel_rfl) (by kernel_rfl) (by kernel_rfl) (fun _ _ _ h => h) (Or.inl ⟨by rfl, ?yr6_16⟩) hHeld ?_
          case yr6_16 => (intro W0 hSw; go_simp; try with_reducible rfl)
          try simp only [pu]
          refine wpAnyH_take (i := 17) (oi := ⟨(some 44), _, _, _, _, _⟩) (v := .agg (i64v b).toArray) rfl (by kernel_rfl) (by kernel_rfl) (by kernel_rfl) (fun _ _ _ h => h) (yieldsIf_load_mid (by rfl) _ _ rfl (w.heap.size + 1) 0 rfl (i64v b) _ (fun W' hW' => range_row ((hW'.block _ sB).trans gB.out)) (Try.underlying27) rfl (by rw [i64v_len, HB.out]; kernel_rfl)) hHeld ?_
          try simp only [pu]
          refine wpAnyH_ready (rs := [18]) (by kernel_rfl) (by simp) ?_
          refine AllReadyH.cons (i := 18) (o := ⟨(some 45), _, _, _, _, _⟩) rfl (fun K hK => ?_) AllReadyH.nil
          go_simp
          refine (c6 _).mono ?_
          rintro e r6W5 ⟨rfl, r6h5⟩
          refine hK.out _ _ (below_next hHeld hHeld.size r6h5) (fun hHeld => ?_)
          clear hK K r6h5
          try simp only [pu]
          refine wpAnyH_take (i := 19) (oi := ⟨(some 46), _, _, _, _, _⟩) (v := .bool true) rfl (by kernel_rfl) (by kernel_rfl) (by kernel_rfl) (fun _ _ _ h => h) (Or.inl ⟨by rfl, ?yr6_19⟩) hHeld ?_
          case yr6_19 => (intro W0 hSw; go_simp; try with_reducible rfl)
          try simp only [pu]
          refine wpAnyH_take (i := 20) (oi := ⟨(some 47), _, _, _, _, _⟩) (v := .bool true) rfl (by kernel_rfl) (by kernel_rfl) (by kernel_rfl) (fun _ _ _ h => h) (Or.inl ⟨by rfl, ?yr6_20⟩) hHeld ?_
          case yr6_20 => (intro W0 hSw; go_simp; try with_reducible rfl)
          try simp only [pu]
          refine wpAnyH_take (i := 21) (oi := ⟨(some 48), _, _, _, _, _⟩) (v := .bool true) rfl (by kernel_rfl) (by kernel_rfl) (by kernel_rfl) (fun _ _ _ h => h) (Or.inl ⟨by rfl, ?yr6_21⟩) hHeld ?_
          case yr6_21 => (intro W0 hSw; go_simp; try with_reducible rfl)
          try simp only [pu]
          refine wpAnyH_take (i := 22) (oi := ⟨(some 49), _, _, _, _, _⟩) (v := undef) rfl (by kernel_rfl) (by kernel_rfl) (by kernel_rfl) (fun _ _ _ h => h) (Or.inr ⟨by rfl, rfl⟩) hHeld ?_
          try simp only [pu]
          refine wpAnyH_take (i := 23) (oi := ⟨(some 50), _, _, _, _, _⟩) (v := undef) rfl (by kernel_rfl) (by kernel_rfl) (by kernel_rfl) (fun _ _ _ h => h) (Or.inr ⟨by rfl, rfl⟩) hHeld ?_
          try simp only [pu]
          refine wpAnyH_take (i := 24) (oi := ⟨(some 51), _, _, _, _, _⟩) (v := undef) rfl (by kernel_rfl) (by kernel_rfl) (by kernel_rfl) (fun _ _ _ h => h) (Or.inr ⟨by rfl, rfl⟩) hHeld ?_
          try simp only [pu]
          refine wpAnyH_take (i := 25) (oi := ⟨(some 52), _, _, _, _, _⟩) (v := undef) rfl (by kernel_rfl) (by kernel_rfl) (by kernel_rfl) (fun _ _ _ h => h) (Or.inr ⟨by rfl, rfl⟩) hHeld ?_
          try simp only [pu]
          refine wpAnyH_take (i := 26) (oi := ⟨(some 53), _, _, _, _, _⟩) (v := undef) rfl (by kernel_rfl) (by kernel_rfl) (by kernel_rfl) (fun _ _ _ h => h) (Or.inr ⟨by rfl, rfl⟩) hHeld ?_
          try simp only [pu]
          refine wpAnyH_take (i := 27) (oi := ⟨(some 54), _, _, _, _, _⟩) (v := undef) rfl (by kernel_rfl) (by kernel_rfl) (by kernel_rfl) (fun _ _ _ h => h) (Or.inr ⟨by rfl, rfl⟩) hHeld ?_
          try simp only [pu]
          refine wpAnyH_take (i := 28) (oi := ⟨(some 55), _, _, _, _, _⟩) (v := undef) rfl (by kernel_rfl) (by kernel_rfl) (by kernel_rfl) (fun _ _ _ h => h) (Or.inr ⟨by rfl, rfl⟩) hHeld ?_
          try simp only [pu]
          refine wpAnyH_take (i := 29) (oi := ⟨(some 56), _, _, _, _, _⟩) (v := undef) rfl (by kernel_rfl) (by kernel_rfl) (by kernel_rfl) (fun _ _ _ h => h) (Or.inr ⟨by rfl, rfl⟩) hHeld ?_
          try simp only [pu]
          refine wpAnyH_take (i := 30) (oi := ⟨(some 57), _, _, _, _, _⟩) (v := .bool true) rfl (by kernel_rfl) (by kernel_rfl) (by kernel_rfl) (fun _ _ _ h => h) (Or.inl ⟨by rfl, ?yr6_30⟩) hHeld ?_
          case yr6_30 => (intro W0 hSw; go_simp; try with_reducible rfl)
          try simp only [pu]
          refine wpAnyH_take (i := 31) (oi := ⟨(some 58), _, _, _, _, _⟩) (v := .bool true) rfl (by kernel_rfl) (by kernel_rfl) (by kernel_rfl) (fun _ _ _ h => h) (Or.inl ⟨by rfl, ?yr6_31⟩) hHeld ?_
          case yr6_31 => (intro W0 hSw; go_simp; try with_reducible rfl)
          try simp only [pu]
          refine wpAnyH_take (i := 32) (oi := ⟨(some 59), _, _, _, _, _⟩) (v := .bool true) rfl (by kernel_rfl) (by kernel_rfl) (by kernel_rfl) (fun _ _ _ h => h) (Or.inl ⟨by rfl, ?yr6_32⟩) hHeld ?_
          case yr6_32 => (intro W0 hSw; go_simp; try with_reducible rfl)
          try simp only [pu]
          refine wpAnyH_take (i := 33) (oi := ⟨(some 60), _, _, _, _, _⟩) (v := .agg (i64v a).toArray) rfl (by kernel_rfl) (by kernel_rfl) (by kernel_rfl) (fun _ _ _ h => h) (yieldsIf_load_mid (by rfl) _ _ rfl w.heap.size 0 rfl (i64v a) _ (fun W' hW' => range_row ((hW'.block _ sA).trans gA.out)) (Try.underlying27) rfl (by rw [i64v_len, HA.out]; kernel_rfl)) hHeld ?_
          try simp only [pu]
          refine wpAnyH_take (i := 34) (oi := ⟨(some 61), _, _, _, _, _⟩) (v := .agg (i64v b).toArray) rfl (by kernel_rfl) (by kernel_rfl) (by kernel_rfl) (fun _ _ _ h => h) (yieldsIf_load_mid (by rfl) _ _ rfl (w.heap.size + 1) 0 rfl (i64v b) _ (fun W' hW' => range_row ((hW'.block _ sB).trans gB.out)) (Try.underlying27) rfl (by rw [i64v_len, HB.out]; kernel_rfl)) hHeld ?_
          try simp only [pu]
          refine wpAnyH_take (i := 37) (oi := ⟨(some 64), _, _, _, _, _⟩) (v := .agg (i64v b).toArray) rfl (by kernel_rfl) (by kernel_rfl) (by kernel_rfl) (fun _ _ _ h => h) (yieldsIf_load_mid (by rfl) _ _ rfl (w.heap.size + 1) 0 rfl (i64v b) _ (fun W' hW' => range_row ((hW'.block _ sB).trans gB.out)) (Try.underlying27) rfl (by rw [i64v_len, HB.out]; kernel_rfl)) hHeld ?_
          try simp only [pu]
          refine wpAnyH_take (i := 38) (oi := ⟨(some 65), _, _, _, _, _⟩) (v := .agg (i64v a).toArray) rfl (by kernel_rfl) (by kernel_rfl) (by kernel_rfl) (fun _ _ _ h => h) (yieldsIf_load_mid (by rfl) _ _ rfl w.heap.size 0 rfl (i64v a) _ (fun W' hW' => range_row ((hW'.block _ sA).trans gA.out)) (Try.underlying27) rfl (by rw [i64v_len, HA.out]; kernel_rfl)) hHeld ?_
          try simp only [pu]
          refine wpAnyH_ready (rs := [35]) (by kernel_rfl) (by simp) ?_
          refine AllReadyH.cons (i := 35) (o := ⟨(some 62), _, _, _, _, _⟩) rfl (fun K hK => ?_) AllReadyH.nil
          go_simp
          refine (c10 _).mono ?_
          rintro e r6W6 ⟨rfl, r6h6⟩
          refine hK.out _ _ (below_next hHeld hHeld.size r6h6) (fun hHeld => ?_)
          clear hK K r6h6
          try simp only [pu]
          refine wpAnyH_take (i := 36) (oi := ⟨(some 63), _, _, _, _, _⟩) (v := .bool o5) rfl (by kernel_rfl) (by kernel_rfl) (by kernel_rfl) (fun _ _ _ h => h) (Or.inl ⟨by rfl, ?yr6_36⟩) hHeld ?_
          case yr6_36 => (intro W0 hSw; go_simp; try simp only [m5.out]; try with_reducible rfl)
          try simp only [pu]
          refine wpAnyH_ready (rs := [39]) (by kernel_rfl) (by simp) ?_
          refine AllReadyH.cons (i := 39) (o := ⟨(some 66), _, _, _, _, _⟩) rfl (fun K hK => ?_) AllReadyH.nil
          go_simp
          refine (c11 _).mono ?_
          rintro e r6W7 ⟨rfl, r6h7⟩
          refine hK.out _ _ (below_next hHeld hHeld.size r6h7) (fun hHeld => ?_)
          clear hK K r6h7
          try simp only [pu]
          refine wpAnyH_take (i := 40) (oi := ⟨(some 67), _, _, _, _, _⟩) (v := .bool o5) rfl (by kernel_rfl) (by kernel_rfl) (by kernel_rfl) (fun _ _ _ h => h) (Or.inl ⟨by rfl, ?yr6_40⟩) hHeld ?_
          case yr6_40 => (intro W0 hSw; go_simp; try simp only [m6.out]; try with_reducible rfl)
          try simp only [pu]
          refine wpAnyH_take (i := 41) (oi := ⟨(some 68), _, _, _, _, _⟩) (v := .bool true) rfl (by kernel_rfl) (by kernel_rfl) (by kernel_rfl) (fun _ _ _ h => h) (Or.inl ⟨by rfl, ?yr6_41⟩) hHeld ?_
          case yr6_41 => (intro W0 hSw; go_simp; try simp; try with_reducible rfl)
          try simp only [pu]
          refine wpAnyH_take (i := 42) (oi := ⟨(some 69), _, _, _, _, _⟩) (v := .bool true) rfl (by kernel_rfl) (by kernel_rfl) (by kernel_rfl) (fun _ _ _ h => h) (Or.inl ⟨by rfl, ?yr6_42⟩) hHeld ?_
          case yr6_42 => (intro W0 hSw; go_simp; try with_reducible rfl)
          try simp only [pu]
          refine wpAnyH_take (i := 43) (oi := ⟨(some 6), _, _, _, _, _⟩) (v := .bool true) rfl (by kernel_rfl) (by kernel_rfl) (by kernel_rfl) (fun _ _ _ h => h) (Or.inl ⟨by rfl, ?yr6_43⟩) hHeld ?_
          case yr6_43 => (intro W0 hSw; go_simp; try with_reducible rfl)
          try simp only [pu]
          refine wpAnyH_done (by kernel_rfl) ?_ _
          go_wp2
          go_ret
          exact ⟨rfl, below_next hbV hbV.size hHeld⟩
        · have n1 := Lib.hid (show IntKind.i64.wrap (s1 + s2) = s1 + s2 from IntWalk.i64_in _ (by have q1 := (sum1 rfl).out; have q2 := (sum2 rfl).out; omega))
          have n2 := Lib.hid (show s3 ≤ s1 + s2 from (sum3 rfl rfl).out)
          clear sum1 sum2 sum3
          refine wp_region_held_drew (S := fun W' => Below V.heap.size V W') (by kernel_rfl) ((Below.refl _ _).drew) (fun hHeld => ?_)
          refine wpAnyH_take (i := 0) (oi := ⟨(some 27), _, _, _, _, _⟩) (v := .agg (i64v m).toArray) rfl (by kernel_rfl) (by kernel_rfl) (by kernel_rfl) (fun _ _ _ h => h) (yieldsIf_load_mid (by rfl) _ _ rfl G 0 rfl (i64v m) _ (fun W' hW' => range_row ((hW'.block _ sM).trans gM.out)) (Try.underlying27) rfl (by rw [i64v_len, HML.out]; kernel_rfl)) hHeld ?_
          try simp only [pu]
          refine wpAnyH_take (i := 1) (oi := ⟨(some 28), _, _, _, _, _⟩) (v := .agg [Value.int .i64 x, .int .i64 y].toArray) rfl (by kernel_rfl) (by kernel_rfl) (by kernel_rfl) (fun _ _ _ h => h) (yieldsIf_load_mid (by rfl) _ _ rfl (w.heap.size + 2) 0 rfl [Value.int .i64 x, .int .i64 y] _ (fun W' hW' => range_row ((hW'.block _ sD).trans gD.out)) (Try.underlying33) rfl (by kernel_rfl)) hHeld ?_
          try simp only [pu]
          refine wpAnyH_take (i := 3) (oi := ⟨(some 30), _, _, _, _, _⟩) (v := .agg (i64v a).toArray) rfl (by kernel_rfl) (by kernel_rfl) (by kernel_rfl) (fun _ _ _ h => h) (yieldsIf_load_mid (by rfl) _ _ rfl w.heap.size 0 rfl (i64v a) _ (fun W' hW' => range_row ((hW'.block _ sA).trans gA.out)) (Try.underlying27) rfl (by rw [i64v_len, HA.out]; kernel_rfl)) hHeld ?_
          try simp only [pu]
          refine wpAnyH_take (i := 4) (oi := ⟨(some 31), _, _, _, _, _⟩) (v := .agg [Value.int .i64 x, .int .i64 y].toArray) rfl (by kernel_rfl) (by kernel_rfl) (by kernel_rfl) (fun _ _ _ h => h) (yieldsIf_load_mid (by rfl) _ _ rfl (w.heap.size + 2) 0 rfl [Value.int .i64 x, .int .i64 y] _ (fun W' hW' => range_row ((hW'.block _ sD).trans gD.out)) (Try.underlying33) rfl (by kernel_rfl)) hHeld ?_
          try simp only [pu]
          refine wpAnyH_ready (rs := [2]) (by kernel_rfl) (by simp) ?_
          refine AllReadyH.cons (i := 2) (o := ⟨(some 29), _, _, _, _, _⟩) rfl (fun K hK => ?_) AllReadyH.nil
          go_simp
          refine (c4 _).mono ?_
          rintro e r6W1 ⟨rfl, r6h1⟩
          refine hK.out _ _ (below_next hHeld hHeld.size r6h1) (fun hHeld => ?_)
          clear hK K r6h1
          try simp only [pu]
          refine wpAnyH_ready (rs := [5]) (by kernel_rfl) (by simp) ?_
          refine AllReadyH.cons (i := 5) (o := ⟨(some 32), _, _, _, _, _⟩) rfl (fun K hK => ?_) AllReadyH.nil
          go_simp
          refine (c2 _).mono ?_
          rintro e r6W2 ⟨rfl, r6h2⟩
          refine hK.out _ _ (below_next hHeld hHeld.size r6h2) (fun hHeld => ?_)
          clear hK K r6h2
          try simp only [pu]
          refine wpAnyH_take (i := 6) (oi := ⟨(some 33), _, _, _, _, _⟩) (v := .bool false) rfl (by kernel_rfl) (by kernel_rfl) (by kernel_rfl) (fun _ _ _ h => h) (Or.inl ⟨by rfl, ?yr6_6⟩) hHeld ?_
          case yr6_6 => (intro W0 hSw; go_simp; try with_reducible rfl)
          try simp only [pu]
          refine wpAnyH_take (i := 7) (oi := ⟨(some 34), _, _, _, _, _⟩) (v := .agg (i64v b).toArray) rfl (by kernel_rfl) (by kernel_rfl) (by kernel_rfl) (fun _ _ _ h => h) (yieldsIf_load_mid (by rfl) _ _ rfl (w.heap.size + 1) 0 rfl (i64v b) _ (fun W' hW' => range_row ((hW'.block _ sB).trans gB.out)) (Try.underlying27) rfl (by rw [i64v_len, HB.out]; kernel_rfl)) hHeld ?_
          try simp only [pu]
          refine wpAnyH_take (i := 8) (oi := ⟨(some 35), _, _, _, _, _⟩) (v := .agg [Value.int .i64 x, .int .i64 y].toArray) rfl (by kernel_rfl) (by kernel_rfl) (by kernel_rfl) (fun _ _ _ h => h) (yieldsIf_load_mid (by rfl) _ _ rfl (w.heap.size + 2) 0 rfl [Value.int .i64 x, .int .i64 y] _ (fun W' hW' => range_row ((hW'.block _ sD).trans gD.out)) (Try.underlying33) rfl (by kernel_rfl)) hHeld ?_
          try simp only [pu]
          refine wpAnyH_ready (rs := [9]) (by kernel_rfl) (by simp) ?_
          refine AllReadyH.cons (i := 9) (o := ⟨(some 36), _, _, _, _, _⟩) rfl (fun K hK => ?_) AllReadyH.nil
          go_simp
          refine (c3 _).mono ?_
          rintro e r6W3 ⟨rfl, r6h3⟩
          refine hK.out _ _ (below_next hHeld hHeld.size r6h3) (fun hHeld => ?_)
          clear hK K r6h3
          try simp only [pu]
          refine wpAnyH_take (i := 10) (oi := ⟨(some 37), _, _, _, _, _⟩) (v := .bool o2) rfl (by kernel_rfl) (by kernel_rfl) (by kernel_rfl) (fun _ _ _ h => h) (Or.inl ⟨by rfl, ?yr6_10⟩) hHeld ?_
          case yr6_10 => (intro W0 hSw; go_simp; try with_reducible rfl)
          try simp only [pu]
          refine wpAnyH_take (i := 11) (oi := ⟨(some 38), _, _, _, _, _⟩) (v := .bool true) rfl (by kernel_rfl) (by kernel_rfl) (by kernel_rfl) (fun _ _ _ h => h) (Or.inl ⟨by rfl, ?yr6_11⟩) hHeld ?_
          case yr6_11 => (intro W0 hSw; go_simp; try simp; try with_reducible rfl)
          try simp only [pu]
          refine wpAnyH_take (i := 12) (oi := ⟨(some 39), _, _, _, _, _⟩) (v := .bool true) rfl (by kernel_rfl) (by kernel_rfl) (by kernel_rfl) (fun _ _ _ h => h) (Or.inl ⟨by rfl, ?yr6_12⟩) hHeld ?_
          case yr6_12 => (intro W0 hSw; go_simp; try with_reducible rfl)
          try simp only [pu]
          refine wpAnyH_take (i := 13) (oi := ⟨(some 40), _, _, _, _, _⟩) (v := .agg (i64v a).toArray) rfl (by kernel_rfl) (by kernel_rfl) (by kernel_rfl) (fun _ _ _ h => h) (yieldsIf_load_mid (by rfl) _ _ rfl w.heap.size 0 rfl (i64v a) _ (fun W' hW' => range_row ((hW'.block _ sA).trans gA.out)) (Try.underlying27) rfl (by rw [i64v_len, HA.out]; kernel_rfl)) hHeld ?_
          try simp only [pu]
          refine wpAnyH_ready (rs := [14]) (by kernel_rfl) (by simp) ?_
          refine AllReadyH.cons (i := 14) (o := ⟨(some 41), _, _, _, _, _⟩) rfl (fun K hK => ?_) AllReadyH.nil
          go_simp
          refine (c5 _).mono ?_
          rintro e r6W4 ⟨rfl, r6h4⟩
          refine hK.out _ _ (below_next hHeld hHeld.size r6h4) (fun hHeld => ?_)
          clear hK K r6h4
          try simp only [pu]
          refine wpAnyH_take (i := 15) (oi := ⟨(some 42), _, _, _, _, _⟩) (v := .bool false) rfl (by kernel_rfl) (by kernel_rfl) (by kernel_rfl) (fun _ _ _ h => h) (Or.inl ⟨by rfl, ?yr6_15⟩) hHeld ?_
          case yr6_15 => (intro W0 hSw; go_simp; try with_reducible rfl)
          try simp only [pu]
          refine wpAnyH_take (i := 16) (oi := ⟨(some 43), _, _, _, _, _⟩) (v := .bool false) rfl (by kernel_rfl) (by kernel_rfl) (by kernel_rfl) (fun _ _ _ h => h) (Or.inl ⟨by rfl, ?yr6_16⟩) hHeld ?_
          case yr6_16 => (intro W0 hSw; go_simp; try with_reducible rfl)
          try simp only [pu]
          refine wpAnyH_take (i := 17) (oi := ⟨(some 44), _, _, _, _, _⟩) (v := .agg (i64v b).toArray) rfl (by kernel_rfl) (by kernel_rfl) (by kernel_rfl) (fun _ _ _ h => h) (yieldsIf_load_mid (by rfl) _ _ rfl (w.heap.size + 1) 0 rfl (i64v b) _ (fun W' hW' => range_row ((hW'.block _ sB).trans gB.out)) (Try.underlying27) rfl (by rw [i64v_len, HB.out]; kernel_rfl)) hHeld ?_
          try simp only [pu]
          refine wpAnyH_ready (rs := [18]) (by kernel_rfl) (by simp) ?_
          refine AllReadyH.cons (i := 18) (o := ⟨(some 45), _, _, _, _, _⟩) rfl (fun K hK => ?_) AllReadyH.nil
          go_simp
          refine (c6 _).mono ?_
          rintro e r6W5 ⟨rfl, r6h5⟩
          refine hK.out _ _ (below_next hHeld hHeld.size r6h5) (fun hHeld => ?_)
          clear hK K r6h5
          try simp only [pu]
          refine wpAnyH_take (i := 19) (oi := ⟨(some 46), _, _, _, _, _⟩) (v := .bool false) rfl (by kernel_rfl) (by kernel_rfl) (by kernel_rfl) (fun _ _ _ h => h) (Or.inl ⟨by rfl, ?yr6_19⟩) hHeld ?_
          case yr6_19 => (intro W0 hSw; go_simp; try with_reducible rfl)
          try simp only [pu]
          refine wpAnyH_take (i := 20) (oi := ⟨(some 47), _, _, _, _, _⟩) (v := .bool false) rfl (by kernel_rfl) (by kernel_rfl) (by kernel_rfl) (fun _ _ _ h => h) (Or.inl ⟨by rfl, ?yr6_20⟩) hHeld ?_
          case yr6_20 => (intro W0 hSw; go_simp; try with_reducible rfl)
          try simp only [pu]
          refine wpAnyH_take (i := 21) (oi := ⟨(some 48), _, _, _, _, _⟩) (v := .bool false) rfl (by kernel_rfl) (by kernel_rfl) (by kernel_rfl) (fun _ _ _ h => h) (Or.inl ⟨by rfl, ?yr6_21⟩) hHeld ?_
          case yr6_21 => (intro W0 hSw; go_simp; try with_reducible rfl)
          try simp only [pu]
          refine wpAnyH_take (i := 22) (oi := ⟨(some 49), _, _, _, _, _⟩) (v := .agg (i64v m).toArray) rfl (by kernel_rfl) (by kernel_rfl) (by kernel_rfl) (fun _ _ _ h => h) (yieldsIf_load_mid (by rfl) _ _ rfl G 0 rfl (i64v m) _ (fun W' hW' => range_row ((hW'.block _ sM).trans gM.out)) (Try.underlying27) rfl (by rw [i64v_len, HML.out]; kernel_rfl)) hHeld ?_
          try simp only [pu]
          refine wpAnyH_take (i := 24) (oi := ⟨(some 51), _, _, _, _, _⟩) (v := .agg (i64v a).toArray) rfl (by kernel_rfl) (by kernel_rfl) (by kernel_rfl) (fun _ _ _ h => h) (yieldsIf_load_mid (by rfl) _ _ rfl w.heap.size 0 rfl (i64v a) _ (fun W' hW' => range_row ((hW'.block _ sA).trans gA.out)) (Try.underlying27) rfl (by rw [i64v_len, HA.out]; kernel_rfl)) hHeld ?_
          try simp only [pu]
          refine wpAnyH_take (i := 26) (oi := ⟨(some 53), _, _, _, _, _⟩) (v := .agg (i64v b).toArray) rfl (by kernel_rfl) (by kernel_rfl) (by kernel_rfl) (fun _ _ _ h => h) (yieldsIf_load_mid (by rfl) _ _ rfl (w.heap.size + 1) 0 rfl (i64v b) _ (fun W' hW' => range_row ((hW'.block _ sB).trans gB.out)) (Try.underlying27) rfl (by rw [i64v_len, HB.out]; kernel_rfl)) hHeld ?_
          try simp only [pu]
          refine wpAnyH_ready (rs := [23]) (by kernel_rfl) (by simp) ?_
          refine AllReadyH.cons (i := 23) (o := ⟨(some 50), _, _, _, _, _⟩) rfl (fun K hK => ?_) AllReadyH.nil
          go_simp
          refine (c9 _).mono ?_
          rintro e r6W6 ⟨rfl, r6h6⟩
          refine hK.out _ _ (below_next hHeld hHeld.size r6h6) (fun hHeld => ?_)
          clear hK K r6h6
          try simp only [pu]
          refine wpAnyH_ready (rs := [25]) (by kernel_rfl) (by simp) ?_
          refine AllReadyH.cons (i := 25) (o := ⟨(some 52), _, _, _, _, _⟩) rfl (fun K hK => ?_) AllReadyH.nil
          go_simp
          refine (c7 _).mono ?_
          rintro e r6W7 ⟨rfl, r6h7⟩
          refine hK.out _ _ (below_next hHeld hHeld.size r6h7) (fun hHeld => ?_)
          clear hK K r6h7
          try simp only [pu]
          refine wpAnyH_ready (rs := [27]) (by kernel_rfl) (by simp) ?_
          refine AllReadyH.cons (i := 27) (o := ⟨(some 54), _, _, _, _, _⟩) rfl (fun K hK => ?_) AllReadyH.nil
          go_simp
          refine (c8 _).mono ?_
          rintro e r6W8 ⟨rfl, r6h8⟩
          refine hK.out _ _ (below_next hHeld hHeld.size r6h8) (fun hHeld => ?_)
          clear hK K r6h8
          try simp only [pu]
          refine wpAnyH_take (i := 28) (oi := ⟨(some 55), _, _, _, _, _⟩) (v := .int .i64 (s1 + s2)) rfl (by kernel_rfl) (by kernel_rfl) (by kernel_rfl) (fun _ _ _ h => h) (Or.inl ⟨by rfl, ?yr6_28⟩) hHeld ?_
          case yr6_28 => (intro W0 hSw; go_simp; try simp only [n1.out]; try with_reducible rfl)
          try simp only [pu]
          refine wpAnyH_take (i := 29) (oi := ⟨(some 56), _, _, _, _, _⟩) (v := .bool true) rfl (by kernel_rfl) (by kernel_rfl) (by kernel_rfl) (fun _ _ _ h => h) (Or.inl ⟨by rfl, ?yr6_29⟩) hHeld ?_
          case yr6_29 => (intro W0 hSw; go_simp; first | exact n2.out | (simp only [decide_eq_true n2.out]; try with_reducible rfl))
          try simp only [pu]
          refine wpAnyH_take (i := 30) (oi := ⟨(some 57), _, _, _, _, _⟩) (v := .bool true) rfl (by kernel_rfl) (by kernel_rfl) (by kernel_rfl) (fun _ _ _ h => h) (Or.inl ⟨by rfl, ?yr6_30⟩) hHeld ?_
          case yr6_30 => (intro W0 hSw; go_simp; try with_reducible rfl)
          try simp only [pu]
          refine wpAnyH_take (i := 31) (oi := ⟨(some 58), _, _, _, _, _⟩) (v := .bool true) rfl (by kernel_rfl) (by kernel_rfl) (by kernel_rfl) (fun _ _ _ h => h) (Or.inl ⟨by rfl, ?yr6_31⟩) hHeld ?_
          case yr6_31 => (intro W0 hSw; go_simp; try with_reducible rfl)
          try simp only [pu]
          refine wpAnyH_take (i := 32) (oi := ⟨(some 59), _, _, _, _, _⟩) (v := .bool true) rfl (by kernel_rfl) (by kernel_rfl) (by kernel_rfl) (fun _ _ _ h => h) (Or.inl ⟨by rfl, ?yr6_32⟩) hHeld ?_
          case yr6_32 => (intro W0 hSw; go_simp; try with_reducible rfl)
          try simp only [pu]
          refine wpAnyH_take (i := 33) (oi := ⟨(some 60), _, _, _, _, _⟩) (v := .agg (i64v a).toArray) rfl (by kernel_rfl) (by kernel_rfl) (by kernel_rfl) (fun _ _ _ h => h) (yieldsIf_load_mid (by rfl) _ _ rfl w.heap.size 0 rfl (i64v a) _ (fun W' hW' => range_row ((hW'.block _ sA).trans gA.out)) (Try.underlying27) rfl (by rw [i64v_len, HA.out]; kernel_rfl)) hHeld ?_
          try simp only [pu]
          refine wpAnyH_take (i := 34) (oi := ⟨(some 61), _, _, _, _, _⟩) (v := .agg (i64v b).toArray) rfl (by kernel_rfl) (by kernel_rfl) (by kernel_rfl) (fun _ _ _ h => h) (yieldsIf_load_mid (by rfl) _ _ rfl (w.heap.size + 1) 0 rfl (i64v b) _ (fun W' hW' => range_row ((hW'.block _ sB).trans gB.out)) (Try.underlying27) rfl (by rw [i64v_len, HB.out]; kernel_rfl)) hHeld ?_
          try simp only [pu]
          refine wpAnyH_take (i := 37) (oi := ⟨(some 64), _, _, _, _, _⟩) (v := .agg (i64v b).toArray) rfl (by kernel_rfl) (by kernel_rfl) (by kernel_rfl) (fun _ _ _ h => h) (yieldsIf_load_mid (by rfl) _ _ rfl (w.heap.size + 1) 0 rfl (i64v b) _ (fun W' hW' => range_row ((hW'.block _ sB).trans gB.out)) (Try.underlying27) rfl (by rw [i64v_len, HB.out]; kernel_rfl)) hHeld ?_
          try simp only [pu]
          refine wpAnyH_take (i := 38) (oi := ⟨(some 65), _, _, _, _, _⟩) (v := .agg (i64v a).toArray) rfl (by kernel_rfl) (by kernel_rfl) (by kernel_rfl) (fun _ _ _ h => h) (yieldsIf_load_mid (by rfl) _ _ rfl w.heap.size 0 rfl (i64v a) _ (fun W' hW' => range_row ((hW'.block _ sA).trans gA.out)) (Try.underlying27) rfl (by rw [i64v_len, HA.out]; kernel_rfl)) hHeld ?_
          try simp only [pu]
          refine wpAnyH_ready (rs := [35]) (by kernel_rfl) (by simp) ?_
          refine AllReadyH.cons (i := 35) (o := ⟨(some 62), _, _, _, _, _⟩) rfl (fun K hK => ?_) AllReadyH.nil
          go_simp
          refine (c10 _).mono ?_
          rintro e r6W9 ⟨rfl, r6h9⟩
          refine hK.out _ _ (below_next hHeld hHeld.size r6h9) (fun hHeld => ?_)
          clear hK K r6h9
          try simp only [pu]
          refine wpAnyH_take (i := 36) (oi := ⟨(some 63), _, _, _, _, _⟩) (v := .bool o5) rfl (by kernel_rfl) (by kernel_rfl) (by kernel_rfl) (fun _ _ _ h => h) (Or.inl ⟨by rfl, ?yr6_36⟩) hHeld ?_
          case yr6_36 => (intro W0 hSw; go_simp; try simp only [m5.out]; try with_reducible rfl)
          try simp only [pu]
          refine wpAnyH_ready (rs := [39]) (by kernel_rfl) (by simp) ?_
          refine AllReadyH.cons (i := 39) (o := ⟨(some 66), _, _, _, _, _⟩) rfl (fun K hK => ?_) AllReadyH.nil
          go_simp
          refine (c11 _).mono ?_
          rintro e r6W10 ⟨rfl, r6h10⟩
          refine hK.out _ _ (below_next hHeld hHeld.size r6h10) (fun hHeld => ?_)
          clear hK K r6h10
          try simp only [pu]
          refine wpAnyH_take (i := 40) (oi := ⟨(some 67), _, _, _, _, _⟩) (v := .bool o5) rfl (by kernel_rfl) (by kernel_rfl) (by kernel_rfl) (fun _ _ _ h => h) (Or.inl ⟨by rfl, ?yr6_40⟩) hHeld ?_
          case yr6_40 => (intro W0 hSw; go_simp; try simp only [m6.out]; try with_reducible rfl)
          try simp only [pu]
          refine wpAnyH_take (i := 41) (oi := ⟨(some 68), _, _, _, _, _⟩) (v := .bool true) rfl (by kernel_rfl) (by kernel_rfl) (by kernel_rfl) (fun _ _ _ h => h) (Or.inl ⟨by rfl, ?yr6_41⟩) hHeld ?_
          case yr6_41 => (intro W0 hSw; go_simp; try simp; try with_reducible rfl)
          try simp only [pu]
          refine wpAnyH_take (i := 42) (oi := ⟨(some 69), _, _, _, _, _⟩) (v := .bool true) rfl (by kernel_rfl) (by kernel_rfl) (by kernel_rfl) (fun _ _ _ h => h) (Or.inl ⟨by rfl, ?yr6_42⟩) hHeld ?_
          case yr6_42 => (intro W0 hSw; go_simp; try with_reducible rfl)
          try simp only [pu]
          refine wpAnyH_take (i := 43) (oi := ⟨(some 6), _, _, _, _, _⟩) (v := .bool true) rfl (by kernel_rfl) (by kernel_rfl) (by kernel_rfl) (fun _ _ _ h => h) (Or.inl ⟨by rfl, ?yr6_43⟩) hHeld ?_
          case yr6_43 => (intro W0 hSw; go_simp; try with_reducible rfl)
          try simp only [pu]
          refine wpAnyH_done (by kernel_rfl) ?_ _
          go_wp2
          go_ret
          exact ⟨rfl, below_next hbV hbV.size hHeld⟩
    · clear c3
      have c4 := fun w => vhas_any w m HML.out x y
      have c9 := fun w => vsum_any w m HML.out
      simp only [HM.out, hasm.out, Bool.true_or] at c4
      simp only [← HM.out] at c4
      obtain ⟨s3, hs3⟩ : ∃ s, s = vsum m := ⟨_, rfl⟩
      simp only [← hs3] at c9
      simp only [← HM.out, ← hs3] at sum3
      clear HM hs3 hasm
      cases g1
      · clear sum1 sum2 sum3 c6 c7 c8 c9
        refine wp_region_held_drew (S := fun W' => Below V.heap.size V W') (by kernel_rfl) ((Below.refl _ _).drew) (fun hHeld => ?_)
        refine wpAnyH_take (i := 0) (oi := ⟨(some 27), _, _, _, _, _⟩) (v := .agg (i64v m).toArray) rfl (by kernel_rfl) (by kernel_rfl) (by kernel_rfl) (fun _ _ _ h => h) (yieldsIf_load_mid (by rfl) _ _ rfl G 0 rfl (i64v m) _ (fun W' hW' => range_row ((hW'.block _ sM).trans gM.out)) (Try.underlying27) rfl (by rw [i64v_len, HML.out]; kernel_rfl)) hHeld ?_
        try simp only [pu]
        refine wpAnyH_take (i := 1) (oi := ⟨(some 28), _, _, _, _, _⟩) (v := .agg [Value.int .i64 x, .int .i64 y].toArray) rfl (by kernel_rfl) (by kernel_rfl) (by kernel_rfl) (fun _ _ _ h => h) (yieldsIf_load_mid (by rfl) _ _ rfl (w.heap.size + 2) 0 rfl [Value.int .i64 x, .int .i64 y] _ (fun W' hW' => range_row ((hW'.block _ sD).trans gD.out)) (Try.underlying33) rfl (by kernel_rfl)) hHeld ?_
        try simp only [pu]
        refine wpAnyH_take (i := 3) (oi := ⟨(some 30), _, _, _, _, _⟩) (v := .agg (i64v a).toArray) rfl (by kernel_rfl) (by kernel_rfl) (by kernel_rfl) (fun _ _ _ h => h) (yieldsIf_load_mid (by rfl) _ _ rfl w.heap.size 0 rfl (i64v a) _ (fun W' hW' => range_row ((hW'.block _ sA).trans gA.out)) (Try.underlying27) rfl (by rw [i64v_len, HA.out]; kernel_rfl)) hHeld ?_
        try simp only [pu]
        refine wpAnyH_take (i := 4) (oi := ⟨(some 31), _, _, _, _, _⟩) (v := .agg [Value.int .i64 x, .int .i64 y].toArray) rfl (by kernel_rfl) (by kernel_rfl) (by kernel_rfl) (fun _ _ _ h => h) (yieldsIf_load_mid (by rfl) _ _ rfl (w.heap.size + 2) 0 rfl [Value.int .i64 x, .int .i64 y] _ (fun W' hW' => range_row ((hW'.block _ sD).trans gD.out)) (Try.underlying33) rfl (by kernel_rfl)) hHeld ?_
        try simp only [pu]
        refine wpAnyH_ready (rs := [2]) (by kernel_rfl) (by simp) ?_
        refine AllReadyH.cons (i := 2) (o := ⟨(some 29), _, _, _, _, _⟩) rfl (fun K hK => ?_) AllReadyH.nil
        go_simp
        refine (c4 _).mono ?_
        rintro e r6W1 ⟨rfl, r6h1⟩
        refine hK.out _ _ (below_next hHeld hHeld.size r6h1) (fun hHeld => ?_)
        clear hK K r6h1
        try simp only [pu]
        refine wpAnyH_ready (rs := [5]) (by kernel_rfl) (by simp) ?_
        refine AllReadyH.cons (i := 5) (o := ⟨(some 32), _, _, _, _, _⟩) rfl (fun K hK => ?_) AllReadyH.nil
        go_simp
        refine (c2 _).mono ?_
        rintro e r6W2 ⟨rfl, r6h2⟩
        refine hK.out _ _ (below_next hHeld hHeld.size r6h2) (fun hHeld => ?_)
        clear hK K r6h2
        try simp only [pu]
        refine wpAnyH_take (i := 6) (oi := ⟨(some 33), _, _, _, _, _⟩) (v := .bool true) rfl (by kernel_rfl) (by kernel_rfl) (by kernel_rfl) (fun _ _ _ h => h) (Or.inl ⟨by rfl, ?yr6_6⟩) hHeld ?_
        case yr6_6 => (intro W0 hSw; go_simp; try with_reducible rfl)
        try simp only [pu]
        refine wpAnyH_take (i := 7) (oi := ⟨(some 34), _, _, _, _, _⟩) (v := undef) rfl (by kernel_rfl) (by kernel_rfl) (by kernel_rfl) (fun _ _ _ h => h) (Or.inr ⟨by rfl, rfl⟩) hHeld ?_
        try simp only [pu]
        refine wpAnyH_take (i := 8) (oi := ⟨(some 35), _, _, _, _, _⟩) (v := undef) rfl (by kernel_rfl) (by kernel_rfl) (by kernel_rfl) (fun _ _ _ h => h) (Or.inr ⟨by rfl, rfl⟩) hHeld ?_
        try simp only [pu]
        refine wpAnyH_take (i := 9) (oi := ⟨(some 36), _, _, _, _, _⟩) (v := undef) rfl (by kernel_rfl) (by kernel_rfl) (by kernel_rfl) (fun _ _ _ h => h) (Or.inr ⟨by rfl, rfl⟩) hHeld ?_
        try simp only [pu]
        refine wpAnyH_take (i := 10) (oi := ⟨(some 37), _, _, _, _, _⟩) (v := .bool true) rfl (by kernel_rfl) (by kernel_rfl) (by kernel_rfl) (fun _ _ _ h => h) (Or.inl ⟨by rfl, ?yr6_10⟩) hHeld ?_
        case yr6_10 => (intro W0 hSw; go_simp; try with_reducible rfl)
        try simp only [pu]
        refine wpAnyH_take (i := 11) (oi := ⟨(some 38), _, _, _, _, _⟩) (v := .bool true) rfl (by kernel_rfl) (by kernel_rfl) (by kernel_rfl) (fun _ _ _ h => h) (Or.inl ⟨by rfl, ?yr6_11⟩) hHeld ?_
        case yr6_11 => (intro W0 hSw; go_simp; try with_reducible rfl)
        try simp only [pu]
        refine wpAnyH_take (i := 12) (oi := ⟨(some 39), _, _, _, _, _⟩) (v := .bool true) rfl (by kernel_rfl) (by kernel_rfl) (by kernel_rfl) (fun _ _ _ h => h) (Or.inl ⟨by rfl, ?yr6_12⟩) hHeld ?_
        case yr6_12 => (intro W0 hSw; go_simp; try with_reducible rfl)
        try simp only [pu]
        refine wpAnyH_take (i := 13) (oi := ⟨(some 40), _, _, _, _, _⟩) (v := .agg (i64v a).toArray) rfl (by kernel_rfl) (by kernel_rfl) (by kernel_rfl) (fun _ _ _ h => h) (yieldsIf_load_mid (by rfl) _ _ rfl w.heap.size 0 rfl (i64v a) _ (fun W' hW' => range_row ((hW'.block _ sA).trans gA.out)) (Try.underlying27) rfl (by rw [i64v_len, HA.out]; kernel_rfl)) hHeld ?_
        try simp only [pu]
        refine wpAnyH_ready (rs := [14]) (by kernel_rfl) (by simp) ?_
        refine AllReadyH.cons (i := 14) (o := ⟨(some 41), _, _, _, _, _⟩) rfl (fun K hK => ?_) AllReadyH.nil
        go_simp
        refine (c5 _).mono ?_
        rintro e r6W3 ⟨rfl, r6h3⟩
        refine hK.out _ _ (below_next hHeld hHeld.size r6h3) (fun hHeld => ?_)
        clear hK K r6h3
        try simp only [pu]
        refine wpAnyH_take (i := 15) (oi := ⟨(some 42), _, _, _, _, _⟩) (v := .bool true) rfl (by kernel_rfl) (by kernel_rfl) (by kernel_rfl) (fun _ _ _ h => h) (Or.inl ⟨by rfl, ?yr6_15⟩) hHeld ?_
        case yr6_15 => (intro W0 hSw; go_simp; try with_reducible rfl)
        try simp only [pu]
        refine wpAnyH_take (i := 16) (oi := ⟨(some 43), _, _, _, _, _⟩) (v := .bool true) rfl (by kernel_rfl) (by kernel_rfl) (by kernel_rfl) (fun _ _ _ h => h) (Or.inl ⟨by rfl, ?yr6_16⟩) hHeld ?_
        case yr6_16 => (intro W0 hSw; go_simp; try with_reducible rfl)
        try simp only [pu]
        refine wpAnyH_take (i := 17) (oi := ⟨(some 44), _, _, _, _, _⟩) (v := undef) rfl (by kernel_rfl) (by kernel_rfl) (by kernel_rfl) (fun _ _ _ h => h) (Or.inr ⟨by rfl, rfl⟩) hHeld ?_
        try simp only [pu]
        refine wpAnyH_take (i := 18) (oi := ⟨(some 45), _, _, _, _, _⟩) (v := undef) rfl (by kernel_rfl) (by kernel_rfl) (by kernel_rfl) (fun _ _ _ h => h) (Or.inr ⟨by rfl, rfl⟩) hHeld ?_
        try simp only [pu]
        refine wpAnyH_take (i := 19) (oi := ⟨(some 46), _, _, _, _, _⟩) (v := undef) rfl (by kernel_rfl) (by kernel_rfl) (by kernel_rfl) (fun _ _ _ h => h) (Or.inr ⟨by rfl, rfl⟩) hHeld ?_
        try simp only [pu]
        refine wpAnyH_take (i := 20) (oi := ⟨(some 47), _, _, _, _, _⟩) (v := .bool true) rfl (by kernel_rfl) (by kernel_rfl) (by kernel_rfl) (fun _ _ _ h => h) (Or.inl ⟨by rfl, ?yr6_20⟩) hHeld ?_
        case yr6_20 => (intro W0 hSw; go_simp; try with_reducible rfl)
        try simp only [pu]
        refine wpAnyH_take (i := 21) (oi := ⟨(some 48), _, _, _, _, _⟩) (v := .bool true) rfl (by kernel_rfl) (by kernel_rfl) (by kernel_rfl) (fun _ _ _ h => h) (Or.inl ⟨by rfl, ?yr6_21⟩) hHeld ?_
        case yr6_21 => (intro W0 hSw; go_simp; try with_reducible rfl)
        try simp only [pu]
        refine wpAnyH_take (i := 22) (oi := ⟨(some 49), _, _, _, _, _⟩) (v := undef) rfl (by kernel_rfl) (by kernel_rfl) (by kernel_rfl) (fun _ _ _ h => h) (Or.inr ⟨by rfl, rfl⟩) hHeld ?_
        try simp only [pu]
        refine wpAnyH_take (i := 23) (oi := ⟨(some 50), _, _, _, _, _⟩) (v := undef) rfl (by kernel_rfl) (by kernel_rfl) (by kernel_rfl) (fun _ _ _ h => h) (Or.inr ⟨by rfl, rfl⟩) hHeld ?_
        try simp only [pu]
        refine wpAnyH_take (i := 24) (oi := ⟨(some 51), _, _, _, _, _⟩) (v := undef) rfl (by kernel_rfl) (by kernel_rfl) (by kernel_rfl) (fun _ _ _ h => h) (Or.inr ⟨by rfl, rfl⟩) hHeld ?_
        try simp only [pu]
        refine wpAnyH_take (i := 25) (oi := ⟨(some 52), _, _, _, _, _⟩) (v := undef) rfl (by kernel_rfl) (by kernel_rfl) (by kernel_rfl) (fun _ _ _ h => h) (Or.inr ⟨by rfl, rfl⟩) hHeld ?_
        try simp only [pu]
        refine wpAnyH_take (i := 26) (oi := ⟨(some 53), _, _, _, _, _⟩) (v := undef) rfl (by kernel_rfl) (by kernel_rfl) (by kernel_rfl) (fun _ _ _ h => h) (Or.inr ⟨by rfl, rfl⟩) hHeld ?_
        try simp only [pu]
        refine wpAnyH_take (i := 27) (oi := ⟨(some 54), _, _, _, _, _⟩) (v := undef) rfl (by kernel_rfl) (by kernel_rfl) (by kernel_rfl) (fun _ _ _ h => h) (Or.inr ⟨by rfl, rfl⟩) hHeld ?_
        try simp only [pu]
        refine wpAnyH_take (i := 28) (oi := ⟨(some 55), _, _, _, _, _⟩) (v := undef) rfl (by kernel_rfl) (by kernel_rfl) (by kernel_rfl) (fun _ _ _ h => h) (Or.inr ⟨by rfl, rfl⟩) hHeld ?_
        try simp only [pu]
        refine wpAnyH_take (i := 29) (oi := ⟨(some 56), _, _, _, _, _⟩) (v := undef) rfl (by kernel_rfl) (by kernel_rfl) (by kernel_rfl) (fun _ _ _ h => h) (Or.inr ⟨by rfl, rfl⟩) hHeld ?_
        try simp only [pu]
        refine wpAnyH_take (i := 30) (oi := ⟨(some 57), _, _, _, _, _⟩) (v := .bool true) rfl (by kernel_rfl) (by kernel_rfl) (by kernel_rfl) (fun _ _ _ h => h) (Or.inl ⟨by rfl, ?yr6_30⟩) hHeld ?_
        case yr6_30 => (intro W0 hSw; go_simp; try with_reducible rfl)
        try simp only [pu]
        refine wpAnyH_take (i := 31) (oi := ⟨(some 58), _, _, _, _, _⟩) (v := .bool true) rfl (by kernel_rfl) (by kernel_rfl) (by kernel_rfl) (fun _ _ _ h => h) (Or.inl ⟨by rfl, ?yr6_31⟩) hHeld ?_
        case yr6_31 => (intro W0 hSw; go_simp; try with_reducible rfl)
        try simp only [pu]
        refine wpAnyH_take (i := 32) (oi := ⟨(some 59), _, _, _, _, _⟩) (v := .bool true) rfl (by kernel_rfl) (by kernel_rfl) (by kernel_rfl) (fun _ _ _ h => h) (Or.inl ⟨by rfl, ?yr6_32⟩) hHeld ?_
        case yr6_32 => (intro W0 hSw; go_simp; try with_reducible rfl)
        try simp only [pu]
        refine wpAnyH_take (i := 33) (oi := ⟨(some 60), _, _, _, _, _⟩) (v := .agg (i64v a).toArray) rfl (by kernel_rfl) (by kernel_rfl) (by kernel_rfl) (fun _ _ _ h => h) (yieldsIf_load_mid (by rfl) _ _ rfl w.heap.size 0 rfl (i64v a) _ (fun W' hW' => range_row ((hW'.block _ sA).trans gA.out)) (Try.underlying27) rfl (by rw [i64v_len, HA.out]; kernel_rfl)) hHeld ?_
        try simp only [pu]
        refine wpAnyH_take (i := 34) (oi := ⟨(some 61), _, _, _, _, _⟩) (v := .agg (i64v b).toArray) rfl (by kernel_rfl) (by kernel_rfl) (by kernel_rfl) (fun _ _ _ h => h) (yieldsIf_load_mid (by rfl) _ _ rfl (w.heap.size + 1) 0 rfl (i64v b) _ (fun W' hW' => range_row ((hW'.block _ sB).trans gB.out)) (Try.underlying27) rfl (by rw [i64v_len, HB.out]; kernel_rfl)) hHeld ?_
        try simp only [pu]
        refine wpAnyH_take (i := 37) (oi := ⟨(some 64), _, _, _, _, _⟩) (v := .agg (i64v b).toArray) rfl (by kernel_rfl) (by kernel_rfl) (by kernel_rfl) (fun _ _ _ h => h) (yieldsIf_load_mid (by rfl) _ _ rfl (w.heap.size + 1) 0 rfl (i64v b) _ (fun W' hW' => range_row ((hW'.block _ sB).trans gB.out)) (Try.underlying27) rfl (by rw [i64v_len, HB.out]; kernel_rfl)) hHeld ?_
        try simp only [pu]
        refine wpAnyH_take (i := 38) (oi := ⟨(some 65), _, _, _, _, _⟩) (v := .agg (i64v a).toArray) rfl (by kernel_rfl) (by kernel_rfl) (by kernel_rfl) (fun _ _ _ h => h) (yieldsIf_load_mid (by rfl) _ _ rfl w.heap.size 0 rfl (i64v a) _ (fun W' hW' => range_row ((hW'.block _ sA).trans gA.out)) (Try.underlying27) rfl (by rw [i64v_len, HA.out]; kernel_rfl)) hHeld ?_
        try simp only [pu]
        refine wpAnyH_ready (rs := [35]) (by kernel_rfl) (by simp) ?_
        refine AllReadyH.cons (i := 35) (o := ⟨(some 62), _, _, _, _, _⟩) rfl (fun K hK => ?_) AllReadyH.nil
        go_simp
        refine (c10 _).mono ?_
        rintro e r6W4 ⟨rfl, r6h4⟩
        refine hK.out _ _ (below_next hHeld hHeld.size r6h4) (fun hHeld => ?_)
        clear hK K r6h4
        try simp only [pu]
        refine wpAnyH_take (i := 36) (oi := ⟨(some 63), _, _, _, _, _⟩) (v := .bool o5) rfl (by kernel_rfl) (by kernel_rfl) (by kernel_rfl) (fun _ _ _ h => h) (Or.inl ⟨by rfl, ?yr6_36⟩) hHeld ?_
        case yr6_36 => (intro W0 hSw; go_simp; try simp only [m5.out]; try with_reducible rfl)
        try simp only [pu]
        refine wpAnyH_ready (rs := [39]) (by kernel_rfl) (by simp) ?_
        refine AllReadyH.cons (i := 39) (o := ⟨(some 66), _, _, _, _, _⟩) rfl (fun K hK => ?_) AllReadyH.nil
        go_simp
        refine (c11 _).mono ?_
        rintro e r6W5 ⟨rfl, r6h5⟩
        refine hK.out _ _ (below_next hHeld hHeld.size r6h5) (fun hHeld => ?_)
        clear hK K r6h5
        try simp only [pu]
        refine wpAnyH_take (i := 40) (oi := ⟨(some 67), _, _, _, _, _⟩) (v := .bool o5) rfl (by kernel_rfl) (by kernel_rfl) (by kernel_rfl) (fun _ _ _ h => h) (Or.inl ⟨by rfl, ?yr6_40⟩) hHeld ?_
        case yr6_40 => (intro W0 hSw; go_simp; try simp only [m6.out]; try with_reducible rfl)
        try simp only [pu]
        refine wpAnyH_take (i := 41) (oi := ⟨(some 68), _, _, _, _, _⟩) (v := .bool true) rfl (by kernel_rfl) (by kernel_rfl) (by kernel_rfl) (fun _ _ _ h => h) (Or.inl ⟨by rfl, ?yr6_41⟩) hHeld ?_
        case yr6_41 => (intro W0 hSw; go_simp; try simp; try with_reducible rfl)
        try simp only [pu]
        refine wpAnyH_take (i := 42) (oi := ⟨(some 69), _, _, _, _, _⟩) (v := .bool true) rfl (by kernel_rfl) (by kernel_rfl) (by kernel_rfl) (fun _ _ _ h => h) (Or.inl ⟨by rfl, ?yr6_42⟩) hHeld ?_
        case yr6_42 => (intro W0 hSw; go_simp; try with_reducible rfl)
        try simp only [pu]
        refine wpAnyH_take (i := 43) (oi := ⟨(some 6), _, _, _, _, _⟩) (v := .bool true) rfl (by kernel_rfl) (by kernel_rfl) (by kernel_rfl) (fun _ _ _ h => h) (Or.inl ⟨by rfl, ?yr6_43⟩) hHeld ?_
        case yr6_43 => (intro W0 hSw; go_simp; try with_reducible rfl)
        try simp only [pu]
        refine wpAnyH_done (by kernel_rfl) ?_ _
        go_wp2
        go_ret
        exact ⟨rfl, below_next hbV hbV.size hHeld⟩
      · cases g2
        · clear sum1 sum2 sum3 c7 c8 c9
          refine wp_region_held_drew (S := fun W' => Below V.heap.size V W') (by kernel_rfl) ((Below.refl _ _).drew) (fun hHeld => ?_)
          refine wpAnyH_take (i := 0) (oi := ⟨(some 27), _, _, _, _, _⟩) (v := .agg (i64v m).toArray) rfl (by kernel_rfl) (by kernel_rfl) (by kernel_rfl) (fun _ _ _ h => h) (yieldsIf_load_mid (by rfl) _ _ rfl G 0 rfl (i64v m) _ (fun W' hW' => range_row ((hW'.block _ sM).trans gM.out)) (Try.underlying27) rfl (by rw [i64v_len, HML.out]; kernel_rfl)) hHeld ?_
          try simp only [pu]
          refine wpAnyH_take (i := 1) (oi := ⟨(some 28), _, _, _, _, _⟩) (v := .agg [Value.int .i64 x, .int .i64 y].toArray) rfl (by kernel_rfl) (by kernel_rfl) (by kernel_rfl) (fun _ _ _ h => h) (yieldsIf_load_mid (by rfl) _ _ rfl (w.heap.size + 2) 0 rfl [Value.int .i64 x, .int .i64 y] _ (fun W' hW' => range_row ((hW'.block _ sD).trans gD.out)) (Try.underlying33) rfl (by kernel_rfl)) hHeld ?_
          try simp only [pu]
          refine wpAnyH_take (i := 3) (oi := ⟨(some 30), _, _, _, _, _⟩) (v := .agg (i64v a).toArray) rfl (by kernel_rfl) (by kernel_rfl) (by kernel_rfl) (fun _ _ _ h => h) (yieldsIf_load_mid (by rfl) _ _ rfl w.heap.size 0 rfl (i64v a) _ (fun W' hW' => range_row ((hW'.block _ sA).trans gA.out)) (Try.underlying27) rfl (by rw [i64v_len, HA.out]; kernel_rfl)) hHeld ?_
          try simp only [pu]
          refine wpAnyH_take (i := 4) (oi := ⟨(some 31), _, _, _, _, _⟩) (v := .agg [Value.int .i64 x, .int .i64 y].toArray) rfl (by kernel_rfl) (by kernel_rfl) (by kernel_rfl) (fun _ _ _ h => h) (yieldsIf_load_mid (by rfl) _ _ rfl (w.heap.size + 2) 0 rfl [Value.int .i64 x, .int .i64 y] _ (fun W' hW' => range_row ((hW'.block _ sD).trans gD.out)) (Try.underlying33) rfl (by kernel_rfl)) hHeld ?_
          try simp only [pu]
          refine wpAnyH_ready (rs := [2]) (by kernel_rfl) (by simp) ?_
          refine AllReadyH.cons (i := 2) (o := ⟨(some 29), _, _, _, _, _⟩) rfl (fun K hK => ?_) AllReadyH.nil
          go_simp
          refine (c4 _).mono ?_
          rintro e r6W1 ⟨rfl, r6h1⟩
          refine hK.out _ _ (below_next hHeld hHeld.size r6h1) (fun hHeld => ?_)
          clear hK K r6h1
          try simp only [pu]
          refine wpAnyH_ready (rs := [5]) (by kernel_rfl) (by simp) ?_
          refine AllReadyH.cons (i := 5) (o := ⟨(some 32), _, _, _, _, _⟩) rfl (fun K hK => ?_) AllReadyH.nil
          go_simp
          refine (c2 _).mono ?_
          rintro e r6W2 ⟨rfl, r6h2⟩
          refine hK.out _ _ (below_next hHeld hHeld.size r6h2) (fun hHeld => ?_)
          clear hK K r6h2
          try simp only [pu]
          refine wpAnyH_take (i := 6) (oi := ⟨(some 33), _, _, _, _, _⟩) (v := .bool true) rfl (by kernel_rfl) (by kernel_rfl) (by kernel_rfl) (fun _ _ _ h => h) (Or.inl ⟨by rfl, ?yr6_6⟩) hHeld ?_
          case yr6_6 => (intro W0 hSw; go_simp; try with_reducible rfl)
          try simp only [pu]
          refine wpAnyH_take (i := 7) (oi := ⟨(some 34), _, _, _, _, _⟩) (v := undef) rfl (by kernel_rfl) (by kernel_rfl) (by kernel_rfl) (fun _ _ _ h => h) (Or.inr ⟨by rfl, rfl⟩) hHeld ?_
          try simp only [pu]
          refine wpAnyH_take (i := 8) (oi := ⟨(some 35), _, _, _, _, _⟩) (v := undef) rfl (by kernel_rfl) (by kernel_rfl) (by kernel_rfl) (fun _ _ _ h => h) (Or.inr ⟨by rfl, rfl⟩) hHeld ?_
          try simp only [pu]
          refine wpAnyH_take (i := 9) (oi := ⟨(some 36), _, _, _, _, _⟩) (v := undef) rfl (by kernel_rfl) (by kernel_rfl) (by kernel_rfl) (fun _ _ _ h => h) (Or.inr ⟨by rfl, rfl⟩) hHeld ?_
          try simp only [pu]
          refine wpAnyH_take (i := 10) (oi := ⟨(some 37), _, _, _, _, _⟩) (v := .bool true) rfl (by kernel_rfl) (by kernel_rfl) (by kernel_rfl) (fun _ _ _ h => h) (Or.inl ⟨by rfl, ?yr6_10⟩) hHeld ?_
          case yr6_10 => (intro W0 hSw; go_simp; try with_reducible rfl)
          try simp only [pu]
          refine wpAnyH_take (i := 11) (oi := ⟨(some 38), _, _, _, _, _⟩) (v := .bool true) rfl (by kernel_rfl) (by kernel_rfl) (by kernel_rfl) (fun _ _ _ h => h) (Or.inl ⟨by rfl, ?yr6_11⟩) hHeld ?_
          case yr6_11 => (intro W0 hSw; go_simp; try with_reducible rfl)
          try simp only [pu]
          refine wpAnyH_take (i := 12) (oi := ⟨(some 39), _, _, _, _, _⟩) (v := .bool true) rfl (by kernel_rfl) (by kernel_rfl) (by kernel_rfl) (fun _ _ _ h => h) (Or.inl ⟨by rfl, ?yr6_12⟩) hHeld ?_
          case yr6_12 => (intro W0 hSw; go_simp; try with_reducible rfl)
          try simp only [pu]
          refine wpAnyH_take (i := 13) (oi := ⟨(some 40), _, _, _, _, _⟩) (v := .agg (i64v a).toArray) rfl (by kernel_rfl) (by kernel_rfl) (by kernel_rfl) (fun _ _ _ h => h) (yieldsIf_load_mid (by rfl) _ _ rfl w.heap.size 0 rfl (i64v a) _ (fun W' hW' => range_row ((hW'.block _ sA).trans gA.out)) (Try.underlying27) rfl (by rw [i64v_len, HA.out]; kernel_rfl)) hHeld ?_
          try simp only [pu]
          refine wpAnyH_ready (rs := [14]) (by kernel_rfl) (by simp) ?_
          refine AllReadyH.cons (i := 14) (o := ⟨(some 41), _, _, _, _, _⟩) rfl (fun K hK => ?_) AllReadyH.nil
          go_simp
          refine (c5 _).mono ?_
          rintro e r6W3 ⟨rfl, r6h3⟩
          refine hK.out _ _ (below_next hHeld hHeld.size r6h3) (fun hHeld => ?_)
          clear hK K r6h3
          try simp only [pu]
          refine wpAnyH_take (i := 15) (oi := ⟨(some 42), _, _, _, _, _⟩) (v := .bool false) rfl (by kernel_rfl) (by kernel_rfl) (by kernel_rfl) (fun _ _ _ h => h) (Or.inl ⟨by rfl, ?yr6_15⟩) hHeld ?_
          case yr6_15 => (intro W0 hSw; go_simp; try with_reducible rfl)
          try simp only [pu]
          refine wpAnyH_take (i := 16) (oi := ⟨(some 43), _, _, _, _, _⟩) (v := .bool false) rfl (by kernel_rfl) (by kernel_rfl) (by kernel_rfl) (fun _ _ _ h => h) (Or.inl ⟨by rfl, ?yr6_16⟩) hHeld ?_
          case yr6_16 => (intro W0 hSw; go_simp; try with_reducible rfl)
          try simp only [pu]
          refine wpAnyH_take (i := 17) (oi := ⟨(some 44), _, _, _, _, _⟩) (v := .agg (i64v b).toArray) rfl (by kernel_rfl) (by kernel_rfl) (by kernel_rfl) (fun _ _ _ h => h) (yieldsIf_load_mid (by rfl) _ _ rfl (w.heap.size + 1) 0 rfl (i64v b) _ (fun W' hW' => range_row ((hW'.block _ sB).trans gB.out)) (Try.underlying27) rfl (by rw [i64v_len, HB.out]; kernel_rfl)) hHeld ?_
          try simp only [pu]
          refine wpAnyH_ready (rs := [18]) (by kernel_rfl) (by simp) ?_
          refine AllReadyH.cons (i := 18) (o := ⟨(some 45), _, _, _, _, _⟩) rfl (fun K hK => ?_) AllReadyH.nil
          go_simp
          refine (c6 _).mono ?_
          rintro e r6W4 ⟨rfl, r6h4⟩
          refine hK.out _ _ (below_next hHeld hHeld.size r6h4) (fun hHeld => ?_)
          clear hK K r6h4
          try simp only [pu]
          refine wpAnyH_take (i := 19) (oi := ⟨(some 46), _, _, _, _, _⟩) (v := .bool true) rfl (by kernel_rfl) (by kernel_rfl) (by kernel_rfl) (fun _ _ _ h => h) (Or.inl ⟨by rfl, ?yr6_19⟩) hHeld ?_
          case yr6_19 => (intro W0 hSw; go_simp; try with_reducible rfl)
          try simp only [pu]
          refine wpAnyH_take (i := 20) (oi := ⟨(some 47), _, _, _, _, _⟩) (v := .bool true) rfl (by kernel_rfl) (by kernel_rfl) (by kernel_rfl) (fun _ _ _ h => h) (Or.inl ⟨by rfl, ?yr6_20⟩) hHeld ?_
          case yr6_20 => (intro W0 hSw; go_simp; try with_reducible rfl)
          try simp only [pu]
          refine wpAnyH_take (i := 21) (oi := ⟨(some 48), _, _, _, _, _⟩) (v := .bool true) rfl (by kernel_rfl) (by kernel_rfl) (by kernel_rfl) (fun _ _ _ h => h) (Or.inl ⟨by rfl, ?yr6_21⟩) hHeld ?_
          case yr6_21 => (intro W0 hSw; go_simp; try with_reducible rfl)
          try simp only [pu]
          refine wpAnyH_take (i := 22) (oi := ⟨(some 49), _, _, _, _, _⟩) (v := undef) rfl (by kernel_rfl) (by kernel_rfl) (by kernel_rfl) (fun _ _ _ h => h) (Or.inr ⟨by rfl, rfl⟩) hHeld ?_
          try simp only [pu]
          refine wpAnyH_take (i := 23) (oi := ⟨(some 50), _, _, _, _, _⟩) (v := undef) rfl (by kernel_rfl) (by kernel_rfl) (by kernel_rfl) (fun _ _ _ h => h) (Or.inr ⟨by rfl, rfl⟩) hHeld ?_
          try simp only [pu]
          refine wpAnyH_take (i := 24) (oi := ⟨(some 51), _, _, _, _, _⟩) (v := undef) rfl (by kernel_rfl) (by kernel_rfl) (by kernel_rfl) (fun _ _ _ h => h) (Or.inr ⟨by rfl, rfl⟩) hHeld ?_
          try simp only [pu]
          refine wpAnyH_take (i := 25) (oi := ⟨(some 52), _, _, _, _, _⟩) (v := undef) rfl (by kernel_rfl) (by kernel_rfl) (by kernel_rfl) (fun _ _ _ h => h) (Or.inr ⟨by rfl, rfl⟩) hHeld ?_
          try simp only [pu]
          refine wpAnyH_take (i := 26) (oi := ⟨(some 53), _, _, _, _, _⟩) (v := undef) rfl (by kernel_rfl) (by kernel_rfl) (by kernel_rfl) (fun _ _ _ h => h) (Or.inr ⟨by rfl, rfl⟩) hHeld ?_
          try simp only [pu]
          refine wpAnyH_take (i := 27) (oi := ⟨(some 54), _, _, _, _, _⟩) (v := undef) rfl (by kernel_rfl) (by kernel_rfl) (by kernel_rfl) (fun _ _ _ h => h) (Or.inr ⟨by rfl, rfl⟩) hHeld ?_
          try simp only [pu]
          refine wpAnyH_take (i := 28) (oi := ⟨(some 55), _, _, _, _, _⟩) (v := undef) rfl (by kernel_rfl) (by kernel_rfl) (by kernel_rfl) (fun _ _ _ h => h) (Or.inr ⟨by rfl, rfl⟩) hHeld ?_
          try simp only [pu]
          refine wpAnyH_take (i := 29) (oi := ⟨(some 56), _, _, _, _, _⟩) (v := undef) rfl (by kernel_rfl) (by kernel_rfl) (by kernel_rfl) (fun _ _ _ h => h) (Or.inr ⟨by rfl, rfl⟩) hHeld ?_
          try simp only [pu]
          refine wpAnyH_take (i := 30) (oi := ⟨(some 57), _, _, _, _, _⟩) (v := .bool true) rfl (by kernel_rfl) (by kernel_rfl) (by kernel_rfl) (fun _ _ _ h => h) (Or.inl ⟨by rfl, ?yr6_30⟩) hHeld ?_
          case yr6_30 => (intro W0 hSw; go_simp; try with_reducible rfl)
          try simp only [pu]
          refine wpAnyH_take (i := 31) (oi := ⟨(some 58), _, _, _, _, _⟩) (v := .bool true) rfl (by kernel_rfl) (by kernel_rfl) (by kernel_rfl) (fun _ _ _ h => h) (Or.inl ⟨by rfl, ?yr6_31⟩) hHeld ?_
          case yr6_31 => (intro W0 hSw; go_simp; try with_reducible rfl)
          try simp only [pu]
          refine wpAnyH_take (i := 32) (oi := ⟨(some 59), _, _, _, _, _⟩) (v := .bool true) rfl (by kernel_rfl) (by kernel_rfl) (by kernel_rfl) (fun _ _ _ h => h) (Or.inl ⟨by rfl, ?yr6_32⟩) hHeld ?_
          case yr6_32 => (intro W0 hSw; go_simp; try with_reducible rfl)
          try simp only [pu]
          refine wpAnyH_take (i := 33) (oi := ⟨(some 60), _, _, _, _, _⟩) (v := .agg (i64v a).toArray) rfl (by kernel_rfl) (by kernel_rfl) (by kernel_rfl) (fun _ _ _ h => h) (yieldsIf_load_mid (by rfl) _ _ rfl w.heap.size 0 rfl (i64v a) _ (fun W' hW' => range_row ((hW'.block _ sA).trans gA.out)) (Try.underlying27) rfl (by rw [i64v_len, HA.out]; kernel_rfl)) hHeld ?_
          try simp only [pu]
          refine wpAnyH_take (i := 34) (oi := ⟨(some 61), _, _, _, _, _⟩) (v := .agg (i64v b).toArray) rfl (by kernel_rfl) (by kernel_rfl) (by kernel_rfl) (fun _ _ _ h => h) (yieldsIf_load_mid (by rfl) _ _ rfl (w.heap.size + 1) 0 rfl (i64v b) _ (fun W' hW' => range_row ((hW'.block _ sB).trans gB.out)) (Try.underlying27) rfl (by rw [i64v_len, HB.out]; kernel_rfl)) hHeld ?_
          try simp only [pu]
          refine wpAnyH_take (i := 37) (oi := ⟨(some 64), _, _, _, _, _⟩) (v := .agg (i64v b).toArray) rfl (by kernel_rfl) (by kernel_rfl) (by kernel_rfl) (fun _ _ _ h => h) (yieldsIf_load_mid (by rfl) _ _ rfl (w.heap.size + 1) 0 rfl (i64v b) _ (fun W' hW' => range_row ((hW'.block _ sB).trans gB.out)) (Try.underlying27) rfl (by rw [i64v_len, HB.out]; kernel_rfl)) hHeld ?_
          try simp only [pu]
          refine wpAnyH_take (i := 38) (oi := ⟨(some 65), _, _, _, _, _⟩) (v := .agg (i64v a).toArray) rfl (by kernel_rfl) (by kernel_rfl) (by kernel_rfl) (fun _ _ _ h => h) (yieldsIf_load_mid (by rfl) _ _ rfl w.heap.size 0 rfl (i64v a) _ (fun W' hW' => range_row ((hW'.block _ sA).trans gA.out)) (Try.underlying27) rfl (by rw [i64v_len, HA.out]; kernel_rfl)) hHeld ?_
          try simp only [pu]
          refine wpAnyH_ready (rs := [35]) (by kernel_rfl) (by simp) ?_
          refine AllReadyH.cons (i := 35) (o := ⟨(some 62), _, _, _, _, _⟩) rfl (fun K hK => ?_) AllReadyH.nil
          go_simp
          refine (c10 _).mono ?_
          rintro e r6W5 ⟨rfl, r6h5⟩
          refine hK.out _ _ (below_next hHeld hHeld.size r6h5) (fun hHeld => ?_)
          clear hK K r6h5
          try simp only [pu]
          refine wpAnyH_take (i := 36) (oi := ⟨(some 63), _, _, _, _, _⟩) (v := .bool o5) rfl (by kernel_rfl) (by kernel_rfl) (by kernel_rfl) (fun _ _ _ h => h) (Or.inl ⟨by rfl, ?yr6_36⟩) hHeld ?_
          case yr6_36 => (intro W0 hSw; go_simp; try simp only [m5.out]; try with_reducible rfl)
          try simp only [pu]
          refine wpAnyH_ready (rs := [39]) (by kernel_rfl) (by simp) ?_
          refine AllReadyH.cons (i := 39) (o := ⟨(some 66), _, _, _, _, _⟩) rfl (fun K hK => ?_) AllReadyH.nil
          go_simp
          refine (c11 _).mono ?_
          rintro e r6W6 ⟨rfl, r6h6⟩
          refine hK.out _ _ (below_next hHeld hHeld.size r6h6) (fun hHeld => ?_)
          clear hK K r6h6
          try simp only [pu]
          refine wpAnyH_take (i := 40) (oi := ⟨(some 67), _, _, _, _, _⟩) (v := .bool o5) rfl (by kernel_rfl) (by kernel_rfl) (by kernel_rfl) (fun _ _ _ h => h) (Or.inl ⟨by rfl, ?yr6_40⟩) hHeld ?_
          case yr6_40 => (intro W0 hSw; go_simp; try simp only [m6.out]; try with_reducible rfl)
          try simp only [pu]
          refine wpAnyH_take (i := 41) (oi := ⟨(some 68), _, _, _, _, _⟩) (v := .bool true) rfl (by kernel_rfl) (by kernel_rfl) (by kernel_rfl) (fun _ _ _ h => h) (Or.inl ⟨by rfl, ?yr6_41⟩) hHeld ?_
          case yr6_41 => (intro W0 hSw; go_simp; try simp; try with_reducible rfl)
          try simp only [pu]
          refine wpAnyH_take (i := 42) (oi := ⟨(some 69), _, _, _, _, _⟩) (v := .bool true) rfl (by kernel_rfl) (by kernel_rfl) (by kernel_rfl) (fun _ _ _ h => h) (Or.inl ⟨by rfl, ?yr6_42⟩) hHeld ?_
          case yr6_42 => (intro W0 hSw; go_simp; try with_reducible rfl)
          try simp only [pu]
          refine wpAnyH_take (i := 43) (oi := ⟨(some 6), _, _, _, _, _⟩) (v := .bool true) rfl (by kernel_rfl) (by kernel_rfl) (by kernel_rfl) (fun _ _ _ h => h) (Or.inl ⟨by rfl, ?yr6_43⟩) hHeld ?_
          case yr6_43 => (intro W0 hSw; go_simp; try with_reducible rfl)
          try simp only [pu]
          refine wpAnyH_done (by kernel_rfl) ?_ _
          go_wp2
          go_ret
          exact ⟨rfl, below_next hbV hbV.size hHeld⟩
        · have n1 := Lib.hid (show IntKind.i64.wrap (s1 + s2) = s1 + s2 from IntWalk.i64_in _ (by have q1 := (sum1 rfl).out; have q2 := (sum2 rfl).out; omega))
          have n2 := Lib.hid (show s3 ≤ s1 + s2 from (sum3 rfl rfl).out)
          clear sum1 sum2 sum3
          refine wp_region_held_drew (S := fun W' => Below V.heap.size V W') (by kernel_rfl) ((Below.refl _ _).drew) (fun hHeld => ?_)
          refine wpAnyH_take (i := 0) (oi := ⟨(some 27), _, _, _, _, _⟩) (v := .agg (i64v m).toArray) rfl (by kernel_rfl) (by kernel_rfl) (by kernel_rfl) (fun _ _ _ h => h) (yieldsIf_load_mid (by rfl) _ _ rfl G 0 rfl (i64v m) _ (fun W' hW' => range_row ((hW'.block _ sM).trans gM.out)) (Try.underlying27) rfl (by rw [i64v_len, HML.out]; kernel_rfl)) hHeld ?_
          try simp only [pu]
          refine wpAnyH_take (i := 1) (oi := ⟨(some 28), _, _, _, _, _⟩) (v := .agg [Value.int .i64 x, .int .i64 y].toArray) rfl (by kernel_rfl) (by kernel_rfl) (by kernel_rfl) (fun _ _ _ h => h) (yieldsIf_load_mid (by rfl) _ _ rfl (w.heap.size + 2) 0 rfl [Value.int .i64 x, .int .i64 y] _ (fun W' hW' => range_row ((hW'.block _ sD).trans gD.out)) (Try.underlying33) rfl (by kernel_rfl)) hHeld ?_
          try simp only [pu]
          refine wpAnyH_take (i := 3) (oi := ⟨(some 30), _, _, _, _, _⟩) (v := .agg (i64v a).toArray) rfl (by kernel_rfl) (by kernel_rfl) (by kernel_rfl) (fun _ _ _ h => h) (yieldsIf_load_mid (by rfl) _ _ rfl w.heap.size 0 rfl (i64v a) _ (fun W' hW' => range_row ((hW'.block _ sA).trans gA.out)) (Try.underlying27) rfl (by rw [i64v_len, HA.out]; kernel_rfl)) hHeld ?_
          try simp only [pu]
          refine wpAnyH_take (i := 4) (oi := ⟨(some 31), _, _, _, _, _⟩) (v := .agg [Value.int .i64 x, .int .i64 y].toArray) rfl (by kernel_rfl) (by kernel_rfl) (by kernel_rfl) (fun _ _ _ h => h) (yieldsIf_load_mid (by rfl) _ _ rfl (w.heap.size + 2) 0 rfl [Value.int .i64 x, .int .i64 y] _ (fun W' hW' => range_row ((hW'.block _ sD).trans gD.out)) (Try.underlying33) rfl (by kernel_rfl)) hHeld ?_
          try simp only [pu]
          refine wpAnyH_ready (rs := [2]) (by kernel_rfl) (by simp) ?_
          refine AllReadyH.cons (i := 2) (o := ⟨(some 29), _, _, _, _, _⟩) rfl (fun K hK => ?_) AllReadyH.nil
          go_simp
          refine (c4 _).mono ?_
          rintro e r6W1 ⟨rfl, r6h1⟩
          refine hK.out _ _ (below_next hHeld hHeld.size r6h1) (fun hHeld => ?_)
          clear hK K r6h1
          try simp only [pu]
          refine wpAnyH_ready (rs := [5]) (by kernel_rfl) (by simp) ?_
          refine AllReadyH.cons (i := 5) (o := ⟨(some 32), _, _, _, _, _⟩) rfl (fun K hK => ?_) AllReadyH.nil
          go_simp
          refine (c2 _).mono ?_
          rintro e r6W2 ⟨rfl, r6h2⟩
          refine hK.out _ _ (below_next hHeld hHeld.size r6h2) (fun hHeld => ?_)
          clear hK K r6h2
          try simp only [pu]
          refine wpAnyH_take (i := 6) (oi := ⟨(some 33), _, _, _, _, _⟩) (v := .bool true) rfl (by kernel_rfl) (by kernel_rfl) (by kernel_rfl) (fun _ _ _ h => h) (Or.inl ⟨by rfl, ?yr6_6⟩) hHeld ?_
          case yr6_6 => (intro W0 hSw; go_simp; try with_reducible rfl)
          try simp only [pu]
          refine wpAnyH_take (i := 7) (oi := ⟨(some 34), _, _, _, _, _⟩) (v := undef) rfl (by kernel_rfl) (by kernel_rfl) (by kernel_rfl) (fun _ _ _ h => h) (Or.inr ⟨by rfl, rfl⟩) hHeld ?_
          try simp only [pu]
          refine wpAnyH_take (i := 8) (oi := ⟨(some 35), _, _, _, _, _⟩) (v := undef) rfl (by kernel_rfl) (by kernel_rfl) (by kernel_rfl) (fun _ _ _ h => h) (Or.inr ⟨by rfl, rfl⟩) hHeld ?_
          try simp only [pu]
          refine wpAnyH_take (i := 9) (oi := ⟨(some 36), _, _, _, _, _⟩) (v := undef) rfl (by kernel_rfl) (by kernel_rfl) (by kernel_rfl) (fun _ _ _ h => h) (Or.inr ⟨by rfl, rfl⟩) hHeld ?_
          try simp only [pu]
          refine wpAnyH_take (i := 10) (oi := ⟨(some 37), _, _, _, _, _⟩) (v := .bool true) rfl (by kernel_rfl) (by kernel_rfl) (by kernel_rfl) (fun _ _ _ h => h) (Or.inl ⟨by rfl, ?yr6_10⟩) hHeld ?_
          case yr6_10 => (intro W0 hSw; go_simp; try with_reducible rfl)
          try simp only [pu]
          refine wpAnyH_take (i := 11) (oi := ⟨(some 38), _, _, _, _, _⟩) (v := .bool true) rfl (by kernel_rfl) (by kernel_rfl) (by kernel_rfl) (fun _ _ _ h => h) (Or.inl ⟨by rfl, ?yr6_11⟩) hHeld ?_
          case yr6_11 => (intro W0 hSw; go_simp; try with_reducible rfl)
          try simp only [pu]
          refine wpAnyH_take (i := 12) (oi := ⟨(some 39), _, _, _, _, _⟩) (v := .bool true) rfl (by kernel_rfl) (by kernel_rfl) (by kernel_rfl) (fun _ _ _ h => h) (Or.inl ⟨by rfl, ?yr6_12⟩) hHeld ?_
          case yr6_12 => (intro W0 hSw; go_simp; try with_reducible rfl)
          try simp only [pu]
          refine wpAnyH_take (i := 13) (oi := ⟨(some 40), _, _, _, _, _⟩) (v := .agg (i64v a).toArray) rfl (by kernel_rfl) (by kernel_rfl) (by kernel_rfl) (fun _ _ _ h => h) (yieldsIf_load_mid (by rfl) _ _ rfl w.heap.size 0 rfl (i64v a) _ (fun W' hW' => range_row ((hW'.block _ sA).trans gA.out)) (Try.underlying27) rfl (by rw [i64v_len, HA.out]; kernel_rfl)) hHeld ?_
          try simp only [pu]
          refine wpAnyH_ready (rs := [14]) (by kernel_rfl) (by simp) ?_
          refine AllReadyH.cons (i := 14) (o := ⟨(some 41), _, _, _, _, _⟩) rfl (fun K hK => ?_) AllReadyH.nil
          go_simp
          refine (c5 _).mono ?_
          rintro e r6W3 ⟨rfl, r6h3⟩
          refine hK.out _ _ (below_next hHeld hHeld.size r6h3) (fun hHeld => ?_)
          clear hK K r6h3
          try simp only [pu]
          refine wpAnyH_take (i := 15) (oi := ⟨(some 42), _, _, _, _, _⟩) (v := .bool false) rfl (by kernel_rfl) (by kernel_rfl) (by kernel_rfl) (fun _ _ _ h => h) (Or.inl ⟨by rfl, ?yr6_15⟩) hHeld ?_
          case yr6_15 => (intro W0 hSw; go_simp; try with_reducible rfl)
          try simp only [pu]
          refine wpAnyH_take (i := 16) (oi := ⟨(some 43), _, _, _, _, _⟩) (v := .bool false) rfl (by kernel_rfl) (by kernel_rfl) (by kernel_rfl) (fun _ _ _ h => h) (Or.inl ⟨by rfl, ?yr6_16⟩) hHeld ?_
          case yr6_16 => (intro W0 hSw; go_simp; try with_reducible rfl)
          try simp only [pu]
          refine wpAnyH_take (i := 17) (oi := ⟨(some 44), _, _, _, _, _⟩) (v := .agg (i64v b).toArray) rfl (by kernel_rfl) (by kernel_rfl) (by kernel_rfl) (fun _ _ _ h => h) (yieldsIf_load_mid (by rfl) _ _ rfl (w.heap.size + 1) 0 rfl (i64v b) _ (fun W' hW' => range_row ((hW'.block _ sB).trans gB.out)) (Try.underlying27) rfl (by rw [i64v_len, HB.out]; kernel_rfl)) hHeld ?_
          try simp only [pu]
          refine wpAnyH_ready (rs := [18]) (by kernel_rfl) (by simp) ?_
          refine AllReadyH.cons (i := 18) (o := ⟨(some 45), _, _, _, _, _⟩) rfl (fun K hK => ?_) AllReadyH.nil
          go_simp
          refine (c6 _).mono ?_
          rintro e r6W4 ⟨rfl, r6h4⟩
          refine hK.out _ _ (below_next hHeld hHeld.size r6h4) (fun hHeld => ?_)
          clear hK K r6h4
          try simp only [pu]
          refine wpAnyH_take (i := 19) (oi := ⟨(some 46), _, _, _, _, _⟩) (v := .bool false) rfl (by kernel_rfl) (by kernel_rfl) (by kernel_rfl) (fun _ _ _ h => h) (Or.inl ⟨by rfl, ?yr6_19⟩) hHeld ?_
          case yr6_19 => (intro W0 hSw; go_simp; try with_reducible rfl)
          try simp only [pu]
          refine wpAnyH_take (i := 20) (oi := ⟨(some 47), _, _, _, _, _⟩) (v := .bool false) rfl (by kernel_rfl) (by kernel_rfl) (by kernel_rfl) (fun _ _ _ h => h) (Or.inl ⟨by rfl, ?yr6_20⟩) hHeld ?_
          case yr6_20 => (intro W0 hSw; go_simp; try with_reducible rfl)
          try simp only [pu]
          refine wpAnyH_take (i := 21) (oi := ⟨(some 48), _, _, _, _, _⟩) (v := .bool false) rfl (by kernel_rfl) (by kernel_rfl) (by kernel_rfl) (fun _ _ _ h => h) (Or.inl ⟨by rfl, ?yr6_21⟩) hHeld ?_
          case yr6_21 => (intro W0 hSw; go_simp; try with_reducible rfl)
          try simp only [pu]
          refine wpAnyH_take (i := 22) (oi := ⟨(some 49), _, _, _, _, _⟩) (v := .agg (i64v m).toArray) rfl (by kernel_rfl) (by kernel_rfl) (by kernel_rfl) (fun _ _ _ h => h) (yieldsIf_load_mid (by rfl) _ _ rfl G 0 rfl (i64v m) _ (fun W' hW' => range_row ((hW'.block _ sM).trans gM.out)) (Try.underlying27) rfl (by rw [i64v_len, HML.out]; kernel_rfl)) hHeld ?_
          try simp only [pu]
          refine wpAnyH_take (i := 24) (oi := ⟨(some 51), _, _, _, _, _⟩) (v := .agg (i64v a).toArray) rfl (by kernel_rfl) (by kernel_rfl) (by kernel_rfl) (fun _ _ _ h => h) (yieldsIf_load_mid (by rfl) _ _ rfl w.heap.size 0 rfl (i64v a) _ (fun W' hW' => range_row ((hW'.block _ sA).trans gA.out)) (Try.underlying27) rfl (by rw [i64v_len, HA.out]; kernel_rfl)) hHeld ?_
          try simp only [pu]
          refine wpAnyH_take (i := 26) (oi := ⟨(some 53), _, _, _, _, _⟩) (v := .agg (i64v b).toArray) rfl (by kernel_rfl) (by kernel_rfl) (by kernel_rfl) (fun _ _ _ h => h) (yieldsIf_load_mid (by rfl) _ _ rfl (w.heap.size + 1) 0 rfl (i64v b) _ (fun W' hW' => range_row ((hW'.block _ sB).trans gB.out)) (Try.underlying27) rfl (by rw [i64v_len, HB.out]; kernel_rfl)) hHeld ?_
          try simp only [pu]
          refine wpAnyH_ready (rs := [23]) (by kernel_rfl) (by simp) ?_
          refine AllReadyH.cons (i := 23) (o := ⟨(some 50), _, _, _, _, _⟩) rfl (fun K hK => ?_) AllReadyH.nil
          go_simp
          refine (c9 _).mono ?_
          rintro e r6W5 ⟨rfl, r6h5⟩
          refine hK.out _ _ (below_next hHeld hHeld.size r6h5) (fun hHeld => ?_)
          clear hK K r6h5
          try simp only [pu]
          refine wpAnyH_ready (rs := [25]) (by kernel_rfl) (by simp) ?_
          refine AllReadyH.cons (i := 25) (o := ⟨(some 52), _, _, _, _, _⟩) rfl (fun K hK => ?_) AllReadyH.nil
          go_simp
          refine (c7 _).mono ?_
          rintro e r6W6 ⟨rfl, r6h6⟩
          refine hK.out _ _ (below_next hHeld hHeld.size r6h6) (fun hHeld => ?_)
          clear hK K r6h6
          try simp only [pu]
          refine wpAnyH_ready (rs := [27]) (by kernel_rfl) (by simp) ?_
          refine AllReadyH.cons (i := 27) (o := ⟨(some 54), _, _, _, _, _⟩) rfl (fun K hK => ?_) AllReadyH.nil
          go_simp
          refine (c8 _).mono ?_
          rintro e r6W7 ⟨rfl, r6h7⟩
          refine hK.out _ _ (below_next hHeld hHeld.size r6h7) (fun hHeld => ?_)
          clear hK K r6h7
          try simp only [pu]
          refine wpAnyH_take (i := 28) (oi := ⟨(some 55), _, _, _, _, _⟩) (v := .int .i64 (s1 + s2)) rfl (by kernel_rfl) (by kernel_rfl) (by kernel_rfl) (fun _ _ _ h => h) (Or.inl ⟨by rfl, ?yr6_28⟩) hHeld ?_
          case yr6_28 => (intro W0 hSw; go_simp; try simp only [n1.out]; try with_reducible rfl)
          try simp only [pu]
          refine wpAnyH_take (i := 29) (oi := ⟨(some 56), _, _, _, _, _⟩) (v := .bool true) rfl (by kernel_rfl) (by kernel_rfl) (by kernel_rfl) (fun _ _ _ h => h) (Or.inl ⟨by rfl, ?yr6_29⟩) hHeld ?_
          case yr6_29 => (intro W0 hSw; go_simp; first | exact n2.out | (simp only [decide_eq_true n2.out]; try with_reducible rfl))
          try simp only [pu]
          refine wpAnyH_take (i := 30) (oi := ⟨(some 57), _, _, _, _, _⟩) (v := .bool true) rfl (by kernel_rfl) (by kernel_rfl) (by kernel_rfl) (fun _ _ _ h => h) (Or.inl ⟨by rfl, ?yr6_30⟩) hHeld ?_
          case yr6_30 => (intro W0 hSw; go_simp; try with_reducible rfl)
          try simp only [pu]
          refine wpAnyH_take (i := 31) (oi := ⟨(some 58), _, _, _, _, _⟩) (v := .bool true) rfl (by kernel_rfl) (by kernel_rfl) (by kernel_rfl) (fun _ _ _ h => h) (Or.inl ⟨by rfl, ?yr6_31⟩) hHeld ?_
          case yr6_31 => (intro W0 hSw; go_simp; try with_reducible rfl)
          try simp only [pu]
          refine wpAnyH_take (i := 32) (oi := ⟨(some 59), _, _, _, _, _⟩) (v := .bool true) rfl (by kernel_rfl) (by kernel_rfl) (by kernel_rfl) (fun _ _ _ h => h) (Or.inl ⟨by rfl, ?yr6_32⟩) hHeld ?_
          case yr6_32 => (intro W0 hSw; go_simp; try with_reducible rfl)
          try simp only [pu]
          refine wpAnyH_take (i := 33) (oi := ⟨(some 60), _, _, _, _, _⟩) (v := .agg (i64v a).toArray) rfl (by kernel_rfl) (by kernel_rfl) (by kernel_rfl) (fun _ _ _ h => h) (yieldsIf_load_mid (by rfl) _ _ rfl w.heap.size 0 rfl (i64v a) _ (fun W' hW' => range_row ((hW'.block _ sA).trans gA.out)) (Try.underlying27) rfl (by rw [i64v_len, HA.out]; kernel_rfl)) hHeld ?_
          try simp only [pu]
          refine wpAnyH_take (i := 34) (oi := ⟨(some 61), _, _, _, _, _⟩) (v := .agg (i64v b).toArray) rfl (by kernel_rfl) (by kernel_rfl) (by kernel_rfl) (fun _ _ _ h => h) (yieldsIf_load_mid (by rfl) _ _ rfl (w.heap.size + 1) 0 rfl (i64v b) _ (fun W' hW' => range_row ((hW'.block _ sB).trans gB.out)) (Try.underlying27) rfl (by rw [i64v_len, HB.out]; kernel_rfl)) hHeld ?_
          try simp only [pu]
          refine wpAnyH_take (i := 37) (oi := ⟨(some 64), _, _, _, _, _⟩) (v := .agg (i64v b).toArray) rfl (by kernel_rfl) (by kernel_rfl) (by kernel_rfl) (fun _ _ _ h => h) (yieldsIf_load_mid (by rfl) _ _ rfl (w.heap.size + 1) 0 rfl (i64v b) _ (fun W' hW' => range_row ((hW'.block _ sB).trans gB.out)) (Try.underlying27) rfl (by rw [i64v_len, HB.out]; kernel_rfl)) hHeld ?_
          try simp only [pu]
          refine wpAnyH_take (i := 38) (oi := ⟨(some 65), _, _, _, _, _⟩) (v := .agg (i64v a).toArray) rfl (by kernel_rfl) (by kernel_rfl) (by kernel_rfl) (fun _ _ _ h => h) (yieldsIf_load_mid (by rfl) _ _ rfl w.heap.size 0 rfl (i64v a) _ (fun W' hW' => range_row ((hW'.block _ sA).trans gA.out)) (Try.underlying27) rfl (by rw [i64v_len, HA.out]; kernel_rfl)) hHeld ?_
          try simp only [pu]
          refine wpAnyH_ready (rs := [35]) (by kernel_rfl) (by simp) ?_
          refine AllReadyH.cons (i := 35) (o := ⟨(some 62), _, _, _, _, _⟩) rfl (fun K hK => ?_) AllReadyH.nil
          go_simp
          refine (c10 _).mono ?_
          rintro e r6W8 ⟨rfl, r6h8⟩
          refine hK.out _ _ (below_next hHeld hHeld.size r6h8) (fun hHeld => ?_)
          clear hK K r6h8
          try simp only [pu]
          refine wpAnyH_take (i := 36) (oi := ⟨(some 63), _, _, _, _, _⟩) (v := .bool o5) rfl (by kernel_rfl) (by kernel_rfl) (by kernel_rfl) (fun _ _ _ h => h) (Or.inl ⟨by rfl, ?yr6_36⟩) hHeld ?_
          case yr6_36 => (intro W0 hSw; go_simp; try simp only [m5.out]; try with_reducible rfl)
          try simp only [pu]
          refine wpAnyH_ready (rs := [39]) (by kernel_rfl) (by simp) ?_
          refine AllReadyH.cons (i := 39) (o := ⟨(some 66), _, _, _, _, _⟩) rfl (fun K hK => ?_) AllReadyH.nil
          go_simp
          refine (c11 _).mono ?_
          rintro e r6W9 ⟨rfl, r6h9⟩
          refine hK.out _ _ (below_next hHeld hHeld.size r6h9) (fun hHeld => ?_)
          clear hK K r6h9
          try simp only [pu]
          refine wpAnyH_take (i := 40) (oi := ⟨(some 67), _, _, _, _, _⟩) (v := .bool o5) rfl (by kernel_rfl) (by kernel_rfl) (by kernel_rfl) (fun _ _ _ h => h) (Or.inl ⟨by rfl, ?yr6_40⟩) hHeld ?_
          case yr6_40 => (intro W0 hSw; go_simp; try simp only [m6.out]; try with_reducible rfl)
          try simp only [pu]
          refine wpAnyH_take (i := 41) (oi := ⟨(some 68), _, _, _, _, _⟩) (v := .bool true) rfl (by kernel_rfl) (by kernel_rfl) (by kernel_rfl) (fun _ _ _ h => h) (Or.inl ⟨by rfl, ?yr6_41⟩) hHeld ?_
          case yr6_41 => (intro W0 hSw; go_simp; try simp; try with_reducible rfl)
          try simp only [pu]
          refine wpAnyH_take (i := 42) (oi := ⟨(some 69), _, _, _, _, _⟩) (v := .bool true) rfl (by kernel_rfl) (by kernel_rfl) (by kernel_rfl) (fun _ _ _ h => h) (Or.inl ⟨by rfl, ?yr6_42⟩) hHeld ?_
          case yr6_42 => (intro W0 hSw; go_simp; try with_reducible rfl)
          try simp only [pu]
          refine wpAnyH_take (i := 43) (oi := ⟨(some 6), _, _, _, _, _⟩) (v := .bool true) rfl (by kernel_rfl) (by kernel_rfl) (by kernel_rfl) (fun _ _ _ h => h) (Or.inl ⟨by rfl, ?yr6_43⟩) hHeld ?_
          case yr6_43 => (intro W0 hSw; go_simp; try with_reducible rfl)
          try simp only [pu]
          refine wpAnyH_done (by kernel_rfl) ?_ _
          go_wp2
          go_ret
          exact ⟨rfl, below_next hbV hbV.size hHeld⟩
  · cases o1
    · clear mono
      go_upto_region 3 with fail
      refine plain_start (S := fun W' => Below w0.heap.size w0 W') (by kernel_rfl) (Below.refl _ _) (fun hHeld => ?_)
      refine wpAnyH_take (i := 0) (oi := ⟨(some 10), _, _, _, _, _⟩) (v := .agg (i64v a).toArray) rfl (by kernel_rfl) (by kernel_rfl) (by kernel_rfl) (fun _ _ _ h => h) (yieldsIf_load_mid (by rfl) _ _ rfl w.heap.size 0 rfl (i64v a) _ (fun W' hW' => range_row ((hW'.block _ s0A).trans g0A.out)) (Try.underlying27) rfl (by rw [i64v_len, HA.out]; kernel_rfl)) hHeld ?_
      try simp only [pu]
      refine wpAnyH_take (i := 1) (oi := ⟨(some 11), _, _, _, _, _⟩) (v := .agg (i64v b).toArray) rfl (by kernel_rfl) (by kernel_rfl) (by kernel_rfl) (fun _ _ _ h => h) (yieldsIf_load_mid (by rfl) _ _ rfl (w.heap.size + 1) 0 rfl (i64v b) _ (fun W' hW' => range_row ((hW'.block _ s0B).trans g0B.out)) (Try.underlying27) rfl (by rw [i64v_len, HB.out]; kernel_rfl)) hHeld ?_
      try simp only [pu]
      refine wpAnyH_ready (rs := [2]) (by kernel_rfl) (by simp) ?_
      refine AllReadyH.cons (i := 2) (o := ⟨(some 12), _, _, _, _, _⟩) rfl (fun K hK => ?_) AllReadyH.nil
      go_simp
      refine (c1 _).mono ?_
      rintro e r3W1 ⟨rfl, r3h1⟩
      refine hK.out _ _ (below_next hHeld hHeld.size r3h1) (fun hHeld => ?_)
      clear hK K r3h1
      try simp only [pu]
      refine wpAnyH_take (i := 3) (oi := ⟨(some 13), _, _, _, _, _⟩) (v := .bool true) rfl (by kernel_rfl) (by kernel_rfl) (by kernel_rfl) (fun _ _ _ h => h) (Or.inl ⟨by rfl, ?yr3_3⟩) hHeld ?_
      case yr3_3 => (intro W0 hSw; go_simp; try with_reducible rfl)
      try simp only [pu]
      refine wpAnyH_take (i := 4) (oi := ⟨(some 14), _, _, _, _, _⟩) (v := .agg (i64v a).toArray) rfl (by kernel_rfl) (by kernel_rfl) (by kernel_rfl) (fun _ _ _ h => h) (yieldsIf_load_mid (by rfl) _ _ rfl w.heap.size 0 rfl (i64v a) _ (fun W' hW' => range_row ((hW'.block _ s0A).trans g0A.out)) (Try.underlying27) rfl (by rw [i64v_len, HA.out]; kernel_rfl)) hHeld ?_
      try simp only [pu]
      refine wpAnyH_take (i := 5) (oi := ⟨(some 15), _, _, _, _, _⟩) (v := .agg [Value.int .i64 x, .int .i64 y].toArray) rfl (by kernel_rfl) (by kernel_rfl) (by kernel_rfl) (fun _ _ _ h => h) (yieldsIf_load_mid (by rfl) _ _ rfl (w.heap.size + 2) 0 rfl [Value.int .i64 x, .int .i64 y] _ (fun W' hW' => range_row ((hW'.block _ s0D).trans g0D.out)) (Try.underlying33) rfl (by kernel_rfl)) hHeld ?_
      try simp only [pu]
      refine wpAnyH_ready (rs := [6]) (by kernel_rfl) (by simp) ?_
      refine AllReadyH.cons (i := 6) (o := ⟨(some 16), _, _, _, _, _⟩) rfl (fun K hK => ?_) AllReadyH.nil
      go_simp
      refine (c2 _).mono ?_
      rintro e r3W2 ⟨rfl, r3h2⟩
      refine hK.out _ _ (below_next hHeld hHeld.size r3h2) (fun hHeld => ?_)
      clear hK K r3h2
      try simp only [pu]
      refine wpAnyH_take (i := 7) (oi := ⟨(some 17), _, _, _, _, _⟩) (v := .bool false) rfl (by kernel_rfl) (by kernel_rfl) (by kernel_rfl) (fun _ _ _ h => h) (Or.inl ⟨by rfl, ?yr3_7⟩) hHeld ?_
      case yr3_7 => (intro W0 hSw; go_simp; try with_reducible rfl)
      try simp only [pu]
      refine wpAnyH_take (i := 8) (oi := ⟨(some 18), _, _, _, _, _⟩) (v := .bool false) rfl (by kernel_rfl) (by kernel_rfl) (by kernel_rfl) (fun _ _ _ h => h) (Or.inl ⟨by rfl, ?yr3_8⟩) hHeld ?_
      case yr3_8 => (intro W0 hSw; go_simp; try with_reducible rfl)
      try simp only [pu]
      refine wpAnyH_take (i := 9) (oi := ⟨(some 19), _, _, _, _, _⟩) (v := undef) rfl (by kernel_rfl) (by kernel_rfl) (by kernel_rfl) (fun _ _ _ h => h) (Or.inr ⟨by rfl, rfl⟩) hHeld ?_
      try simp only [pu]
      refine wpAnyH_take (i := 10) (oi := ⟨(some 20), _, _, _, _, _⟩) (v := undef) rfl (by kernel_rfl) (by kernel_rfl) (by kernel_rfl) (fun _ _ _ h => h) (Or.inr ⟨by rfl, rfl⟩) hHeld ?_
      try simp only [pu]
      refine wpAnyH_take (i := 11) (oi := ⟨(some 21), _, _, _, _, _⟩) (v := undef) rfl (by kernel_rfl) (by kernel_rfl) (by kernel_rfl) (fun _ _ _ h => h) (Or.inr ⟨by rfl, rfl⟩) hHeld ?_
      try simp only [pu]
      refine wpAnyH_take (i := 12) (oi := ⟨(some 22), _, _, _, _, _⟩) (v := undef) rfl (by kernel_rfl) (by kernel_rfl) (by kernel_rfl) (fun _ _ _ h => h) (Or.inr ⟨by rfl, rfl⟩) hHeld ?_
      try simp only [pu]
      refine wpAnyH_take (i := 13) (oi := ⟨(some 23), _, _, _, _, _⟩) (v := .bool false) rfl (by kernel_rfl) (by kernel_rfl) (by kernel_rfl) (fun _ _ _ h => h) (Or.inl ⟨by rfl, ?yr3_13⟩) hHeld ?_
      case yr3_13 => (intro W0 hSw; go_simp; try with_reducible rfl)
      try simp only [pu]
      refine wpAnyH_done (by kernel_rfl) ?_ _
      obtain ⟨w1, hw1⟩ : ∃ X, X = r3W2 := ⟨_, rfl⟩
      subst hw1
      have g1A := row_next2 g0A hHeld
      have g1B := row_next2 g0B hHeld
      have g1D := row_next2 g0D hHeld
      have hbw1 := below_next hbw0 hbw0.size hHeld
      clear hHeld g0A g0B g0D s0A s0B s0D hbw0
      go_wp2_with (first | (with_reducible refine wpList_load_row rfl 27 (.tmp 3) rfl w.heap.size rfl 27 (i64v a).toArray (0, 0) _ (g1A).out Try.underlying27 rfl (by rw [int8_size HA.out]; kernel_rfl) ?_) | (with_reducible refine wpList_load_row rfl 27 (.tmp 4) rfl (w.heap.size + 1) rfl 27 (i64v b).toArray (0, 0) _ (g1B).out Try.underlying27 rfl (by rw [int8_size HB.out]; kernel_rfl) ?_))
      refine (vmerge_any w1 a b HA.out HB.out).mono ?_
      rintro e w2 ⟨rfl, hb2⟩
      have g2A := row_next2 g1A hb2
      have g2B := row_next2 g1B hb2
      have g2D := row_next2 g1D hb2
      have hbw2 := below_next hbw1 hbw1.size hb2
      obtain ⟨m, hm⟩ : ∃ m, m = vmx a b := ⟨_, rfl⟩
      have HM := vlt hm
      have HML := Lib.hid (show m.length = 8 by rw [hm]; exact vmx_len HA.out HB.out)
      rw [← hm]
      clear hm hb2 hbw1 g1A g1B g1D
      go_upto_region 6 with ((with_reducible refine wpList_store_row rfl 27 (.tmp 7) (.tmp 26) rfl w2.heap.size (i64v m).toArray rfl rfl 27 _ (heap_alloc_new _ _) (by rw [int8_size HML.out]; kernel_rfl) (by rw [int8_size HML.out]; kernel_rfl) (all_oneCell_toArray (i64v_one _)) ?_); rw [World.setRow_alloc_new])
      obtain ⟨V, hV⟩ : ∃ V, V = w2.alloc (.cells (i64v m).toArray 27) := ⟨_, rfl⟩
      rw [← hV]
      have gA := row_next2 g2A (show Below w2.heap.size w2 V by rw [hV]; exact (Below.refl _ _).alloc (Nat.le_refl _) _)
      have gB := row_next2 g2B (show Below w2.heap.size w2 V by rw [hV]; exact (Below.refl _ _).alloc (Nat.le_refl _) _)
      have gD := row_next2 g2D (show Below w2.heap.size w2 V by rw [hV]; exact (Below.refl _ _).alloc (Nat.le_refl _) _)
      have gM : Hid (V.heap[w2.heap.size]? = some (.cells (i64v m).toArray 27 (0, 0))) := by rw [hV]; exact heap_alloc_new _ _
      have hbV : Below w.heap.size w V := by rw [hV]; exact hbw2.alloc hbw2.size _
      obtain ⟨G, hG⟩ : ∃ G, G = w2.heap.size := ⟨_, rfl⟩
      rw [← hG] at gM ⊢
      clear hV hG hbw2 g2A g2B g2D
      have sA := row_size gA
      have sB := row_size gB
      have sM := row_size gM
      have sD := row_size gD
      have c4 := fun w => vhas_any w m HML.out x y
      have c9 := fun w => vsum_any w m HML.out
      simp only [HM.out, hasm.out, Bool.false_or] at c4
      simp only [← HM.out] at c4
      obtain ⟨s3, hs3⟩ : ∃ s, s = vsum m := ⟨_, rfl⟩
      simp only [← hs3] at c9
      simp only [← HM.out, ← hs3] at sum3
      clear HM hs3 hasm
      cases g1
      · clear sum1 sum2 sum3 c6 c7 c8 c9
        refine wp_region_held_drew (S := fun W' => Below V.heap.size V W') (by kernel_rfl) ((Below.refl _ _).drew) (fun hHeld => ?_)
        refine wpAnyH_take (i := 0) (oi := ⟨(some 27), _, _, _, _, _⟩) (v := .agg (i64v m).toArray) rfl (by kernel_rfl) (by kernel_rfl) (by kernel_rfl) (fun _ _ _ h => h) (yieldsIf_load_mid (by rfl) _ _ rfl G 0 rfl (i64v m) _ (fun W' hW' => range_row ((hW'.block _ sM).trans gM.out)) (Try.underlying27) rfl (by rw [i64v_len, HML.out]; kernel_rfl)) hHeld ?_
        try simp only [pu]
        refine wpAnyH_take (i := 1) (oi := ⟨(some 28), _, _, _, _, _⟩) (v := .agg [Value.int .i64 x, .int .i64 y].toArray) rfl (by kernel_rfl) (by kernel_rfl) (by kernel_rfl) (fun _ _ _ h => h) (yieldsIf_load_mid (by rfl) _ _ rfl (w.heap.size + 2) 0 rfl [Value.int .i64 x, .int .i64 y] _ (fun W' hW' => range_row ((hW'.block _ sD).trans gD.out)) (Try.underlying33) rfl (by kernel_rfl)) hHeld ?_
        try simp only [pu]
        refine wpAnyH_take (i := 3) (oi := ⟨(some 30), _, _, _, _, _⟩) (v := .agg (i64v a).toArray) rfl (by kernel_rfl) (by kernel_rfl) (by kernel_rfl) (fun _ _ _ h => h) (yieldsIf_load_mid (by rfl) _ _ rfl w.heap.size 0 rfl (i64v a) _ (fun W' hW' => range_row ((hW'.block _ sA).trans gA.out)) (Try.underlying27) rfl (by rw [i64v_len, HA.out]; kernel_rfl)) hHeld ?_
        try simp only [pu]
        refine wpAnyH_take (i := 4) (oi := ⟨(some 31), _, _, _, _, _⟩) (v := .agg [Value.int .i64 x, .int .i64 y].toArray) rfl (by kernel_rfl) (by kernel_rfl) (by kernel_rfl) (fun _ _ _ h => h) (yieldsIf_load_mid (by rfl) _ _ rfl (w.heap.size + 2) 0 rfl [Value.int .i64 x, .int .i64 y] _ (fun W' hW' => range_row ((hW'.block _ sD).trans gD.out)) (Try.underlying33) rfl (by kernel_rfl)) hHeld ?_
        try simp only [pu]
        refine wpAnyH_ready (rs := [2]) (by kernel_rfl) (by simp) ?_
        refine AllReadyH.cons (i := 2) (o := ⟨(some 29), _, _, _, _, _⟩) rfl (fun K hK => ?_) AllReadyH.nil
        go_simp
        refine (c4 _).mono ?_
        rintro e r6W1 ⟨rfl, r6h1⟩
        refine hK.out _ _ (below_next hHeld hHeld.size r6h1) (fun hHeld => ?_)
        clear hK K r6h1
        try simp only [pu]
        refine wpAnyH_ready (rs := [5]) (by kernel_rfl) (by simp) ?_
        refine AllReadyH.cons (i := 5) (o := ⟨(some 32), _, _, _, _, _⟩) rfl (fun K hK => ?_) AllReadyH.nil
        go_simp
        refine (c2 _).mono ?_
        rintro e r6W2 ⟨rfl, r6h2⟩
        refine hK.out _ _ (below_next hHeld hHeld.size r6h2) (fun hHeld => ?_)
        clear hK K r6h2
        try simp only [pu]
        refine wpAnyH_take (i := 6) (oi := ⟨(some 33), _, _, _, _, _⟩) (v := .bool false) rfl (by kernel_rfl) (by kernel_rfl) (by kernel_rfl) (fun _ _ _ h => h) (Or.inl ⟨by rfl, ?yr6_6⟩) hHeld ?_
        case yr6_6 => (intro W0 hSw; go_simp; try with_reducible rfl)
        try simp only [pu]
        refine wpAnyH_take (i := 7) (oi := ⟨(some 34), _, _, _, _, _⟩) (v := .agg (i64v b).toArray) rfl (by kernel_rfl) (by kernel_rfl) (by kernel_rfl) (fun _ _ _ h => h) (yieldsIf_load_mid (by rfl) _ _ rfl (w.heap.size + 1) 0 rfl (i64v b) _ (fun W' hW' => range_row ((hW'.block _ sB).trans gB.out)) (Try.underlying27) rfl (by rw [i64v_len, HB.out]; kernel_rfl)) hHeld ?_
        try simp only [pu]
        refine wpAnyH_take (i := 8) (oi := ⟨(some 35), _, _, _, _, _⟩) (v := .agg [Value.int .i64 x, .int .i64 y].toArray) rfl (by kernel_rfl) (by kernel_rfl) (by kernel_rfl) (fun _ _ _ h => h) (yieldsIf_load_mid (by rfl) _ _ rfl (w.heap.size + 2) 0 rfl [Value.int .i64 x, .int .i64 y] _ (fun W' hW' => range_row ((hW'.block _ sD).trans gD.out)) (Try.underlying33) rfl (by kernel_rfl)) hHeld ?_
        try simp only [pu]
        refine wpAnyH_ready (rs := [9]) (by kernel_rfl) (by simp) ?_
        refine AllReadyH.cons (i := 9) (o := ⟨(some 36), _, _, _, _, _⟩) rfl (fun K hK => ?_) AllReadyH.nil
        go_simp
        refine (c3 _).mono ?_
        rintro e r6W3 ⟨rfl, r6h3⟩
        refine hK.out _ _ (below_next hHeld hHeld.size r6h3) (fun hHeld => ?_)
        clear hK K r6h3
        try simp only [pu]
        refine wpAnyH_take (i := 10) (oi := ⟨(some 37), _, _, _, _, _⟩) (v := .bool o2) rfl (by kernel_rfl) (by kernel_rfl) (by kernel_rfl) (fun _ _ _ h => h) (Or.inl ⟨by rfl, ?yr6_10⟩) hHeld ?_
        case yr6_10 => (intro W0 hSw; go_simp; try with_reducible rfl)
        try simp only [pu]
        refine wpAnyH_take (i := 11) (oi := ⟨(some 38), _, _, _, _, _⟩) (v := .bool true) rfl (by kernel_rfl) (by kernel_rfl) (by kernel_rfl) (fun _ _ _ h => h) (Or.inl ⟨by rfl, ?yr6_11⟩) hHeld ?_
        case yr6_11 => (intro W0 hSw; go_simp; try simp; try with_reducible rfl)
        try simp only [pu]
        refine wpAnyH_take (i := 12) (oi := ⟨(some 39), _, _, _, _, _⟩) (v := .bool true) rfl (by kernel_rfl) (by kernel_rfl) (by kernel_rfl) (fun _ _ _ h => h) (Or.inl ⟨by rfl, ?yr6_12⟩) hHeld ?_
        case yr6_12 => (intro W0 hSw; go_simp; try with_reducible rfl)
        try simp only [pu]
        refine wpAnyH_take (i := 13) (oi := ⟨(some 40), _, _, _, _, _⟩) (v := .agg (i64v a).toArray) rfl (by kernel_rfl) (by kernel_rfl) (by kernel_rfl) (fun _ _ _ h => h) (yieldsIf_load_mid (by rfl) _ _ rfl w.heap.size 0 rfl (i64v a) _ (fun W' hW' => range_row ((hW'.block _ sA).trans gA.out)) (Try.underlying27) rfl (by rw [i64v_len, HA.out]; kernel_rfl)) hHeld ?_
        try simp only [pu]
        refine wpAnyH_ready (rs := [14]) (by kernel_rfl) (by simp) ?_
        refine AllReadyH.cons (i := 14) (o := ⟨(some 41), _, _, _, _, _⟩) rfl (fun K hK => ?_) AllReadyH.nil
        go_simp
        refine (c5 _).mono ?_
        rintro e r6W4 ⟨rfl, r6h4⟩
        refine hK.out _ _ (below_next hHeld hHeld.size r6h4) (fun hHeld => ?_)
        clear hK K r6h4
        try simp only [pu]
        refine wpAnyH_take (i := 15) (oi := ⟨(some 42), _, _, _, _, _⟩) (v := .bool true) rfl (by kernel_rfl) (by kernel_rfl) (by kernel_rfl) (fun _ _ _ h => h) (Or.inl ⟨by rfl, ?yr6_15⟩) hHeld ?_
        case yr6_15 => (intro W0 hSw; go_simp; try with_reducible rfl)
        try simp only [pu]
        refine wpAnyH_take (i := 16) (oi := ⟨(some 43), _, _, _, _, _⟩) (v := .bool true) rfl (by kernel_rfl) (by kernel_rfl) (by kernel_rfl) (fun _ _ _ h => h) (Or.inl ⟨by rfl, ?yr6_16⟩) hHeld ?_
        case yr6_16 => (intro W0 hSw; go_simp; try with_reducible rfl)
        try simp only [pu]
        refine wpAnyH_take (i := 17) (oi := ⟨(some 44), _, _, _, _, _⟩) (v := undef) rfl (by kernel_rfl) (by kernel_rfl) (by kernel_rfl) (fun _ _ _ h => h) (Or.inr ⟨by rfl, rfl⟩) hHeld ?_
        try simp only [pu]
        refine wpAnyH_take (i := 18) (oi := ⟨(some 45), _, _, _, _, _⟩) (v := undef) rfl (by kernel_rfl) (by kernel_rfl) (by kernel_rfl) (fun _ _ _ h => h) (Or.inr ⟨by rfl, rfl⟩) hHeld ?_
        try simp only [pu]
        refine wpAnyH_take (i := 19) (oi := ⟨(some 46), _, _, _, _, _⟩) (v := undef) rfl (by kernel_rfl) (by kernel_rfl) (by kernel_rfl) (fun _ _ _ h => h) (Or.inr ⟨by rfl, rfl⟩) hHeld ?_
        try simp only [pu]
        refine wpAnyH_take (i := 20) (oi := ⟨(some 47), _, _, _, _, _⟩) (v := .bool true) rfl (by kernel_rfl) (by kernel_rfl) (by kernel_rfl) (fun _ _ _ h => h) (Or.inl ⟨by rfl, ?yr6_20⟩) hHeld ?_
        case yr6_20 => (intro W0 hSw; go_simp; try with_reducible rfl)
        try simp only [pu]
        refine wpAnyH_take (i := 21) (oi := ⟨(some 48), _, _, _, _, _⟩) (v := .bool true) rfl (by kernel_rfl) (by kernel_rfl) (by kernel_rfl) (fun _ _ _ h => h) (Or.inl ⟨by rfl, ?yr6_21⟩) hHeld ?_
        case yr6_21 => (intro W0 hSw; go_simp; try with_reducible rfl)
        try simp only [pu]
        refine wpAnyH_take (i := 22) (oi := ⟨(some 49), _, _, _, _, _⟩) (v := undef) rfl (by kernel_rfl) (by kernel_rfl) (by kernel_rfl) (fun _ _ _ h => h) (Or.inr ⟨by rfl, rfl⟩) hHeld ?_
        try simp only [pu]
        refine wpAnyH_take (i := 23) (oi := ⟨(some 50), _, _, _, _, _⟩) (v := undef) rfl (by kernel_rfl) (by kernel_rfl) (by kernel_rfl) (fun _ _ _ h => h) (Or.inr ⟨by rfl, rfl⟩) hHeld ?_
        try simp only [pu]
        refine wpAnyH_take (i := 24) (oi := ⟨(some 51), _, _, _, _, _⟩) (v := undef) rfl (by kernel_rfl) (by kernel_rfl) (by kernel_rfl) (fun _ _ _ h => h) (Or.inr ⟨by rfl, rfl⟩) hHeld ?_
        try simp only [pu]
        refine wpAnyH_take (i := 25) (oi := ⟨(some 52), _, _, _, _, _⟩) (v := undef) rfl (by kernel_rfl) (by kernel_rfl) (by kernel_rfl) (fun _ _ _ h => h) (Or.inr ⟨by rfl, rfl⟩) hHeld ?_
        try simp only [pu]
        refine wpAnyH_take (i := 26) (oi := ⟨(some 53), _, _, _, _, _⟩) (v := undef) rfl (by kernel_rfl) (by kernel_rfl) (by kernel_rfl) (fun _ _ _ h => h) (Or.inr ⟨by rfl, rfl⟩) hHeld ?_
        try simp only [pu]
        refine wpAnyH_take (i := 27) (oi := ⟨(some 54), _, _, _, _, _⟩) (v := undef) rfl (by kernel_rfl) (by kernel_rfl) (by kernel_rfl) (fun _ _ _ h => h) (Or.inr ⟨by rfl, rfl⟩) hHeld ?_
        try simp only [pu]
        refine wpAnyH_take (i := 28) (oi := ⟨(some 55), _, _, _, _, _⟩) (v := undef) rfl (by kernel_rfl) (by kernel_rfl) (by kernel_rfl) (fun _ _ _ h => h) (Or.inr ⟨by rfl, rfl⟩) hHeld ?_
        try simp only [pu]
        refine wpAnyH_take (i := 29) (oi := ⟨(some 56), _, _, _, _, _⟩) (v := undef) rfl (by kernel_rfl) (by kernel_rfl) (by kernel_rfl) (fun _ _ _ h => h) (Or.inr ⟨by rfl, rfl⟩) hHeld ?_
        try simp only [pu]
        refine wpAnyH_take (i := 30) (oi := ⟨(some 57), _, _, _, _, _⟩) (v := .bool true) rfl (by kernel_rfl) (by kernel_rfl) (by kernel_rfl) (fun _ _ _ h => h) (Or.inl ⟨by rfl, ?yr6_30⟩) hHeld ?_
        case yr6_30 => (intro W0 hSw; go_simp; try with_reducible rfl)
        try simp only [pu]
        refine wpAnyH_take (i := 31) (oi := ⟨(some 58), _, _, _, _, _⟩) (v := .bool true) rfl (by kernel_rfl) (by kernel_rfl) (by kernel_rfl) (fun _ _ _ h => h) (Or.inl ⟨by rfl, ?yr6_31⟩) hHeld ?_
        case yr6_31 => (intro W0 hSw; go_simp; try with_reducible rfl)
        try simp only [pu]
        refine wpAnyH_take (i := 32) (oi := ⟨(some 59), _, _, _, _, _⟩) (v := .bool true) rfl (by kernel_rfl) (by kernel_rfl) (by kernel_rfl) (fun _ _ _ h => h) (Or.inl ⟨by rfl, ?yr6_32⟩) hHeld ?_
        case yr6_32 => (intro W0 hSw; go_simp; try with_reducible rfl)
        try simp only [pu]
        refine wpAnyH_take (i := 33) (oi := ⟨(some 60), _, _, _, _, _⟩) (v := .agg (i64v a).toArray) rfl (by kernel_rfl) (by kernel_rfl) (by kernel_rfl) (fun _ _ _ h => h) (yieldsIf_load_mid (by rfl) _ _ rfl w.heap.size 0 rfl (i64v a) _ (fun W' hW' => range_row ((hW'.block _ sA).trans gA.out)) (Try.underlying27) rfl (by rw [i64v_len, HA.out]; kernel_rfl)) hHeld ?_
        try simp only [pu]
        refine wpAnyH_take (i := 34) (oi := ⟨(some 61), _, _, _, _, _⟩) (v := .agg (i64v b).toArray) rfl (by kernel_rfl) (by kernel_rfl) (by kernel_rfl) (fun _ _ _ h => h) (yieldsIf_load_mid (by rfl) _ _ rfl (w.heap.size + 1) 0 rfl (i64v b) _ (fun W' hW' => range_row ((hW'.block _ sB).trans gB.out)) (Try.underlying27) rfl (by rw [i64v_len, HB.out]; kernel_rfl)) hHeld ?_
        try simp only [pu]
        refine wpAnyH_take (i := 37) (oi := ⟨(some 64), _, _, _, _, _⟩) (v := .agg (i64v b).toArray) rfl (by kernel_rfl) (by kernel_rfl) (by kernel_rfl) (fun _ _ _ h => h) (yieldsIf_load_mid (by rfl) _ _ rfl (w.heap.size + 1) 0 rfl (i64v b) _ (fun W' hW' => range_row ((hW'.block _ sB).trans gB.out)) (Try.underlying27) rfl (by rw [i64v_len, HB.out]; kernel_rfl)) hHeld ?_
        try simp only [pu]
        refine wpAnyH_take (i := 38) (oi := ⟨(some 65), _, _, _, _, _⟩) (v := .agg (i64v a).toArray) rfl (by kernel_rfl) (by kernel_rfl) (by kernel_rfl) (fun _ _ _ h => h) (yieldsIf_load_mid (by rfl) _ _ rfl w.heap.size 0 rfl (i64v a) _ (fun W' hW' => range_row ((hW'.block _ sA).trans gA.out)) (Try.underlying27) rfl (by rw [i64v_len, HA.out]; kernel_rfl)) hHeld ?_
        try simp only [pu]
        refine wpAnyH_ready (rs := [35]) (by kernel_rfl) (by simp) ?_
        refine AllReadyH.cons (i := 35) (o := ⟨(some 62), _, _, _, _, _⟩) rfl (fun K hK => ?_) AllReadyH.nil
        go_simp
        refine (c10 _).mono ?_
        rintro e r6W5 ⟨rfl, r6h5⟩
        refine hK.out _ _ (below_next hHeld hHeld.size r6h5) (fun hHeld => ?_)
        clear hK K r6h5
        try simp only [pu]
        refine wpAnyH_take (i := 36) (oi := ⟨(some 63), _, _, _, _, _⟩) (v := .bool o5) rfl (by kernel_rfl) (by kernel_rfl) (by kernel_rfl) (fun _ _ _ h => h) (Or.inl ⟨by rfl, ?yr6_36⟩) hHeld ?_
        case yr6_36 => (intro W0 hSw; go_simp; try simp only [m5.out]; try with_reducible rfl)
        try simp only [pu]
        refine wpAnyH_ready (rs := [39]) (by kernel_rfl) (by simp) ?_
        refine AllReadyH.cons (i := 39) (o := ⟨(some 66), _, _, _, _, _⟩) rfl (fun K hK => ?_) AllReadyH.nil
        go_simp
        refine (c11 _).mono ?_
        rintro e r6W6 ⟨rfl, r6h6⟩
        refine hK.out _ _ (below_next hHeld hHeld.size r6h6) (fun hHeld => ?_)
        clear hK K r6h6
        try simp only [pu]
        refine wpAnyH_take (i := 40) (oi := ⟨(some 67), _, _, _, _, _⟩) (v := .bool o5) rfl (by kernel_rfl) (by kernel_rfl) (by kernel_rfl) (fun _ _ _ h => h) (Or.inl ⟨by rfl, ?yr6_40⟩) hHeld ?_
        case yr6_40 => (intro W0 hSw; go_simp; try simp only [m6.out]; try with_reducible rfl)
        try simp only [pu]
        refine wpAnyH_take (i := 41) (oi := ⟨(some 68), _, _, _, _, _⟩) (v := .bool true) rfl (by kernel_rfl) (by kernel_rfl) (by kernel_rfl) (fun _ _ _ h => h) (Or.inl ⟨by rfl, ?yr6_41⟩) hHeld ?_
        case yr6_41 => (intro W0 hSw; go_simp; try simp; try with_reducible rfl)
        try simp only [pu]
        refine wpAnyH_take (i := 42) (oi := ⟨(some 69), _, _, _, _, _⟩) (v := .bool true) rfl (by kernel_rfl) (by kernel_rfl) (by kernel_rfl) (fun _ _ _ h => h) (Or.inl ⟨by rfl, ?yr6_42⟩) hHeld ?_
        case yr6_42 => (intro W0 hSw; go_simp; try with_reducible rfl)
        try simp only [pu]
        refine wpAnyH_take (i := 43) (oi := ⟨(some 6), _, _, _, _, _⟩) (v := .bool true) rfl (by kernel_rfl) (by kernel_rfl) (by kernel_rfl) (fun _ _ _ h => h) (Or.inl ⟨by rfl, ?yr6_43⟩) hHeld ?_
        case yr6_43 => (intro W0 hSw; go_simp; try with_reducible rfl)
        try simp only [pu]
        refine wpAnyH_done (by kernel_rfl) ?_ _
        go_wp2
        go_ret
        exact ⟨rfl, below_next hbV hbV.size hHeld⟩
      · cases g2
        · clear sum1 sum2 sum3 c7 c8 c9
          refine wp_region_held_drew (S := fun W' => Below V.heap.size V W') (by kernel_rfl) ((Below.refl _ _).drew) (fun hHeld => ?_)
          refine wpAnyH_take (i := 0) (oi := ⟨(some 27), _, _, _, _, _⟩) (v := .agg (i64v m).toArray) rfl (by kernel_rfl) (by kernel_rfl) (by kernel_rfl) (fun _ _ _ h => h) (yieldsIf_load_mid (by rfl) _ _ rfl G 0 rfl (i64v m) _ (fun W' hW' => range_row ((hW'.block _ sM).trans gM.out)) (Try.underlying27) rfl (by rw [i64v_len, HML.out]; kernel_rfl)) hHeld ?_
          try simp only [pu]
          refine wpAnyH_take (i := 1) (oi := ⟨(some 28), _, _, _, _, _⟩) (v := .agg [Value.int .i64 x, .int .i64 y].toArray) rfl (by kernel_rfl) (by kernel_rfl) (by kernel_rfl) (fun _ _ _ h => h) (yieldsIf_load_mid (by rfl) _ _ rfl (w.heap.size + 2) 0 rfl [Value.int .i64 x, .int .i64 y] _ (fun W' hW' => range_row ((hW'.block _ sD).trans gD.out)) (Try.underlying33) rfl (by kernel_rfl)) hHeld ?_
          try simp only [pu]
          refine wpAnyH_take (i := 3) (oi := ⟨(some 30), _, _, _, _, _⟩) (v := .agg (i64v a).toArray) rfl (by kernel_rfl) (by kernel_rfl) (by kernel_rfl) (fun _ _ _ h => h) (yieldsIf_load_mid (by rfl) _ _ rfl w.heap.size 0 rfl (i64v a) _ (fun W' hW' => range_row ((hW'.block _ sA).trans gA.out)) (Try.underlying27) rfl (by rw [i64v_len, HA.out]; kernel_rfl)) hHeld ?_
          try simp only [pu]
          refine wpAnyH_take (i := 4) (oi := ⟨(some 31), _, _, _, _, _⟩) (v := .agg [Value.int .i64 x, .int .i64 y].toArray) rfl (by kernel_rfl) (by kernel_rfl) (by kernel_rfl) (fun _ _ _ h => h) (yieldsIf_load_mid (by rfl) _ _ rfl (w.heap.size + 2) 0 rfl [Value.int .i64 x, .int .i64 y] _ (fun W' hW' => range_row ((hW'.block _ sD).trans gD.out)) (Try.underlying33) rfl (by kernel_rfl)) hHeld ?_
          try simp only [pu]
          refine wpAnyH_ready (rs := [2]) (by kernel_rfl) (by simp) ?_
          refine AllReadyH.cons (i := 2) (o := ⟨(some 29), _, _, _, _, _⟩) rfl (fun K hK => ?_) AllReadyH.nil
          go_simp
          refine (c4 _).mono ?_
          rintro e r6W1 ⟨rfl, r6h1⟩
          refine hK.out _ _ (below_next hHeld hHeld.size r6h1) (fun hHeld => ?_)
          clear hK K r6h1
          try simp only [pu]
          refine wpAnyH_ready (rs := [5]) (by kernel_rfl) (by simp) ?_
          refine AllReadyH.cons (i := 5) (o := ⟨(some 32), _, _, _, _, _⟩) rfl (fun K hK => ?_) AllReadyH.nil
          go_simp
          refine (c2 _).mono ?_
          rintro e r6W2 ⟨rfl, r6h2⟩
          refine hK.out _ _ (below_next hHeld hHeld.size r6h2) (fun hHeld => ?_)
          clear hK K r6h2
          try simp only [pu]
          refine wpAnyH_take (i := 6) (oi := ⟨(some 33), _, _, _, _, _⟩) (v := .bool false) rfl (by kernel_rfl) (by kernel_rfl) (by kernel_rfl) (fun _ _ _ h => h) (Or.inl ⟨by rfl, ?yr6_6⟩) hHeld ?_
          case yr6_6 => (intro W0 hSw; go_simp; try with_reducible rfl)
          try simp only [pu]
          refine wpAnyH_take (i := 7) (oi := ⟨(some 34), _, _, _, _, _⟩) (v := .agg (i64v b).toArray) rfl (by kernel_rfl) (by kernel_rfl) (by kernel_rfl) (fun _ _ _ h => h) (yieldsIf_load_mid (by rfl) _ _ rfl (w.heap.size + 1) 0 rfl (i64v b) _ (fun W' hW' => range_row ((hW'.block _ sB).trans gB.out)) (Try.underlying27) rfl (by rw [i64v_len, HB.out]; kernel_rfl)) hHeld ?_
          try simp only [pu]
          refine wpAnyH_take (i := 8) (oi := ⟨(some 35), _, _, _, _, _⟩) (v := .agg [Value.int .i64 x, .int .i64 y].toArray) rfl (by kernel_rfl) (by kernel_rfl) (by kernel_rfl) (fun _ _ _ h => h) (yieldsIf_load_mid (by rfl) _ _ rfl (w.heap.size + 2) 0 rfl [Value.int .i64 x, .int .i64 y] _ (fun W' hW' => range_row ((hW'.block _ sD).trans gD.out)) (Try.underlying33) rfl (by kernel_rfl)) hHeld ?_
          try simp only [pu]
          refine wpAnyH_ready (rs := [9]) (by kernel_rfl) (by simp) ?_
          refine AllReadyH.cons (i := 9) (o := ⟨(some 36), _, _, _, _, _⟩) rfl (fun K hK => ?_) AllReadyH.nil
          go_simp
          refine (c3 _).mono ?_
          rintro e r6W3 ⟨rfl, r6h3⟩
          refine hK.out _ _ (below_next hHeld hHeld.size r6h3) (fun hHeld => ?_)
          clear hK K r6h3
          try simp only [pu]
          refine wpAnyH_take (i := 10) (oi := ⟨(some 37), _, _, _, _, _⟩) (v := .bool o2) rfl (by kernel_rfl) (by kernel_rfl) (by kernel_rfl) (fun _ _ _ h => h) (Or.inl ⟨by rfl, ?yr6_10⟩) hHeld ?_
          case yr6_10 => (intro W0 hSw; go_simp; try with_reducible rfl)
          try simp only [pu]
          refine wpAnyH_take (i := 11) (oi := ⟨(some 38), _, _, _, _, _⟩) (v := .bool true) rfl (by kernel_rfl) (by kernel_rfl) (by kernel_rfl) (fun _ _ _ h => h) (Or.inl ⟨by rfl, ?yr6_11⟩) hHeld ?_
          case yr6_11 => (intro W0 hSw; go_simp; try simp; try with_reducible rfl)
          try simp only [pu]
          refine wpAnyH_take (i := 12) (oi := ⟨(some 39), _, _, _, _, _⟩) (v := .bool true) rfl (by kernel_rfl) (by kernel_rfl) (by kernel_rfl) (fun _ _ _ h => h) (Or.inl ⟨by rfl, ?yr6_12⟩) hHeld ?_
          case yr6_12 => (intro W0 hSw; go_simp; try with_reducible rfl)
          try simp only [pu]
          refine wpAnyH_take (i := 13) (oi := ⟨(some 40), _, _, _, _, _⟩) (v := .agg (i64v a).toArray) rfl (by kernel_rfl) (by kernel_rfl) (by kernel_rfl) (fun _ _ _ h => h) (yieldsIf_load_mid (by rfl) _ _ rfl w.heap.size 0 rfl (i64v a) _ (fun W' hW' => range_row ((hW'.block _ sA).trans gA.out)) (Try.underlying27) rfl (by rw [i64v_len, HA.out]; kernel_rfl)) hHeld ?_
          try simp only [pu]
          refine wpAnyH_ready (rs := [14]) (by kernel_rfl) (by simp) ?_
          refine AllReadyH.cons (i := 14) (o := ⟨(some 41), _, _, _, _, _⟩) rfl (fun K hK => ?_) AllReadyH.nil
          go_simp
          refine (c5 _).mono ?_
          rintro e r6W4 ⟨rfl, r6h4⟩
          refine hK.out _ _ (below_next hHeld hHeld.size r6h4) (fun hHeld => ?_)
          clear hK K r6h4
          try simp only [pu]
          refine wpAnyH_take (i := 15) (oi := ⟨(some 42), _, _, _, _, _⟩) (v := .bool false) rfl (by kernel_rfl) (by kernel_rfl) (by kernel_rfl) (fun _ _ _ h => h) (Or.inl ⟨by rfl, ?yr6_15⟩) hHeld ?_
          case yr6_15 => (intro W0 hSw; go_simp; try with_reducible rfl)
          try simp only [pu]
          refine wpAnyH_take (i := 16) (oi := ⟨(some 43), _, _, _, _, _⟩) (v := .bool false) rfl (by kernel_rfl) (by kernel_rfl) (by kernel_rfl) (fun _ _ _ h => h) (Or.inl ⟨by rfl, ?yr6_16⟩) hHeld ?_
          case yr6_16 => (intro W0 hSw; go_simp; try with_reducible rfl)
          try simp only [pu]
          refine wpAnyH_take (i := 17) (oi := ⟨(some 44), _, _, _, _, _⟩) (v := .agg (i64v b).toArray) rfl (by kernel_rfl) (by kernel_rfl) (by kernel_rfl) (fun _ _ _ h => h) (yieldsIf_load_mid (by rfl) _ _ rfl (w.heap.size + 1) 0 rfl (i64v b) _ (fun W' hW' => range_row ((hW'.block _ sB).trans gB.out)) (Try.underlying27) rfl (by rw [i64v_len, HB.out]; kernel_rfl)) hHeld ?_
          try simp only [pu]
          refine wpAnyH_ready (rs := [18]) (by kernel_rfl) (by simp) ?_
          refine AllReadyH.cons (i := 18) (o := ⟨(some 45), _, _, _, _, _⟩) rfl (fun K hK => ?_) AllReadyH.nil
          go_simp
          refine (c6 _).mono ?_
          rintro e r6W5 ⟨rfl, r6h5⟩
          refine hK.out _ _ (below_next hHeld hHeld.size r6h5) (fun hHeld => ?_)
          clear hK K r6h5
          try simp only [pu]
          refine wpAnyH_take (i := 19) (oi := ⟨(some 46), _, _, _, _, _⟩) (v := .bool true) rfl (by kernel_rfl) (by kernel_rfl) (by kernel_rfl) (fun _ _ _ h => h) (Or.inl ⟨by rfl, ?yr6_19⟩) hHeld ?_
          case yr6_19 => (intro W0 hSw; go_simp; try with_reducible rfl)
          try simp only [pu]
          refine wpAnyH_take (i := 20) (oi := ⟨(some 47), _, _, _, _, _⟩) (v := .bool true) rfl (by kernel_rfl) (by kernel_rfl) (by kernel_rfl) (fun _ _ _ h => h) (Or.inl ⟨by rfl, ?yr6_20⟩) hHeld ?_
          case yr6_20 => (intro W0 hSw; go_simp; try with_reducible rfl)
          try simp only [pu]
          refine wpAnyH_take (i := 21) (oi := ⟨(some 48), _, _, _, _, _⟩) (v := .bool true) rfl (by kernel_rfl) (by kernel_rfl) (by kernel_rfl) (fun _ _ _ h => h) (Or.inl ⟨by rfl, ?yr6_21⟩) hHeld ?_
          case yr6_21 => (intro W0 hSw; go_simp; try with_reducible rfl)
          try simp only [pu]
          refine wpAnyH_take (i := 22) (oi := ⟨(some 49), _, _, _, _, _⟩) (v := undef) rfl (by kernel_rfl) (by kernel_rfl) (by kernel_rfl) (fun _ _ _ h => h) (Or.inr ⟨by rfl, rfl⟩) hHeld ?_
          try simp only [pu]
          refine wpAnyH_take (i := 23) (oi := ⟨(some 50), _, _, _, _, _⟩) (v := undef) rfl (by kernel_rfl) (by kernel_rfl) (by kernel_rfl) (fun _ _ _ h => h) (Or.inr ⟨by rfl, rfl⟩) hHeld ?_
          try simp only [pu]
          refine wpAnyH_take (i := 24) (oi := ⟨(some 51), _, _, _, _, _⟩) (v := undef) rfl (by kernel_rfl) (by kernel_rfl) (by kernel_rfl) (fun _ _ _ h => h) (Or.inr ⟨by rfl, rfl⟩) hHeld ?_
          try simp only [pu]
          refine wpAnyH_take (i := 25) (oi := ⟨(some 52), _, _, _, _, _⟩) (v := undef) rfl (by kernel_rfl) (by kernel_rfl) (by kernel_rfl) (fun _ _ _ h => h) (Or.inr ⟨by rfl, rfl⟩) hHeld ?_
          try simp only [pu]
          refine wpAnyH_take (i := 26) (oi := ⟨(some 53), _, _, _, _, _⟩) (v := undef) rfl (by kernel_rfl) (by kernel_rfl) (by kernel_rfl) (fun _ _ _ h => h) (Or.inr ⟨by rfl, rfl⟩) hHeld ?_
          try simp only [pu]
          refine wpAnyH_take (i := 27) (oi := ⟨(some 54), _, _, _, _, _⟩) (v := undef) rfl (by kernel_rfl) (by kernel_rfl) (by kernel_rfl) (fun _ _ _ h => h) (Or.inr ⟨by rfl, rfl⟩) hHeld ?_
          try simp only [pu]
          refine wpAnyH_take (i := 28) (oi := ⟨(some 55), _, _, _, _, _⟩) (v := undef) rfl (by kernel_rfl) (by kernel_rfl) (by kernel_rfl) (fun _ _ _ h => h) (Or.inr ⟨by rfl, rfl⟩) hHeld ?_
          try simp only [pu]
          refine wpAnyH_take (i := 29) (oi := ⟨(some 56), _, _, _, _, _⟩) (v := undef) rfl (by kernel_rfl) (by kernel_rfl) (by kernel_rfl) (fun _ _ _ h => h) (Or.inr ⟨by rfl, rfl⟩) hHeld ?_
          try simp only [pu]
          refine wpAnyH_take (i := 30) (oi := ⟨(some 57), _, _, _, _, _⟩) (v := .bool true) rfl (by kernel_rfl) (by kernel_rfl) (by kernel_rfl) (fun _ _ _ h => h) (Or.inl ⟨by rfl, ?yr6_30⟩) hHeld ?_
          case yr6_30 => (intro W0 hSw; go_simp; try with_reducible rfl)
          try simp only [pu]
          refine wpAnyH_take (i := 31) (oi := ⟨(some 58), _, _, _, _, _⟩) (v := .bool true) rfl (by kernel_rfl) (by kernel_rfl) (by kernel_rfl) (fun _ _ _ h => h) (Or.inl ⟨by rfl, ?yr6_31⟩) hHeld ?_
          case yr6_31 => (intro W0 hSw; go_simp; try with_reducible rfl)
          try simp only [pu]
          refine wpAnyH_take (i := 32) (oi := ⟨(some 59), _, _, _, _, _⟩) (v := .bool true) rfl (by kernel_rfl) (by kernel_rfl) (by kernel_rfl) (fun _ _ _ h => h) (Or.inl ⟨by rfl, ?yr6_32⟩) hHeld ?_
          case yr6_32 => (intro W0 hSw; go_simp; try with_reducible rfl)
          try simp only [pu]
          refine wpAnyH_take (i := 33) (oi := ⟨(some 60), _, _, _, _, _⟩) (v := .agg (i64v a).toArray) rfl (by kernel_rfl) (by kernel_rfl) (by kernel_rfl) (fun _ _ _ h => h) (yieldsIf_load_mid (by rfl) _ _ rfl w.heap.size 0 rfl (i64v a) _ (fun W' hW' => range_row ((hW'.block _ sA).trans gA.out)) (Try.underlying27) rfl (by rw [i64v_len, HA.out]; kernel_rfl)) hHeld ?_
          try simp only [pu]
          refine wpAnyH_take (i := 34) (oi := ⟨(some 61), _, _, _, _, _⟩) (v := .agg (i64v b).toArray) rfl (by kernel_rfl) (by kernel_rfl) (by kernel_rfl) (fun _ _ _ h => h) (yieldsIf_load_mid (by rfl) _ _ rfl (w.heap.size + 1) 0 rfl (i64v b) _ (fun W' hW' => range_row ((hW'.block _ sB).trans gB.out)) (Try.underlying27) rfl (by rw [i64v_len, HB.out]; kernel_rfl)) hHeld ?_
          try simp only [pu]
          refine wpAnyH_take (i := 37) (oi := ⟨(some 64), _, _, _, _, _⟩) (v := .agg (i64v b).toArray) rfl (by kernel_rfl) (by kernel_rfl) (by kernel_rfl) (fun _ _ _ h => h) (yieldsIf_load_mid (by rfl) _ _ rfl (w.heap.size + 1) 0 rfl (i64v b) _ (fun W' hW' => range_row ((hW'.block _ sB).trans gB.out)) (Try.underlying27) rfl (by rw [i64v_len, HB.out]; kernel_rfl)) hHeld ?_
          try simp only [pu]
          refine wpAnyH_take (i := 38) (oi := ⟨(some 65), _, _, _, _, _⟩) (v := .agg (i64v a).toArray) rfl (by kernel_rfl) (by kernel_rfl) (by kernel_rfl) (fun _ _ _ h => h) (yieldsIf_load_mid (by rfl) _ _ rfl w.heap.size 0 rfl (i64v a) _ (fun W' hW' => range_row ((hW'.block _ sA).trans gA.out)) (Try.underlying27) rfl (by rw [i64v_len, HA.out]; kernel_rfl)) hHeld ?_
          try simp only [pu]
          refine wpAnyH_ready (rs := [35]) (by kernel_rfl) (by simp) ?_
          refine AllReadyH.cons (i := 35) (o := ⟨(some 62), _, _, _, _, _⟩) rfl (fun K hK => ?_) AllReadyH.nil
          go_simp
          refine (c10 _).mono ?_
          rintro e r6W6 ⟨rfl, r6h6⟩
          refine hK.out _ _ (below_next hHeld hHeld.size r6h6) (fun hHeld => ?_)
          clear hK K r6h6
          try simp only [pu]
          refine wpAnyH_take (i := 36) (oi := ⟨(some 63), _, _, _, _, _⟩) (v := .bool o5) rfl (by kernel_rfl) (by kernel_rfl) (by kernel_rfl) (fun _ _ _ h => h) (Or.inl ⟨by rfl, ?yr6_36⟩) hHeld ?_
          case yr6_36 => (intro W0 hSw; go_simp; try simp only [m5.out]; try with_reducible rfl)
          try simp only [pu]
          refine wpAnyH_ready (rs := [39]) (by kernel_rfl) (by simp) ?_
          refine AllReadyH.cons (i := 39) (o := ⟨(some 66), _, _, _, _, _⟩) rfl (fun K hK => ?_) AllReadyH.nil
          go_simp
          refine (c11 _).mono ?_
          rintro e r6W7 ⟨rfl, r6h7⟩
          refine hK.out _ _ (below_next hHeld hHeld.size r6h7) (fun hHeld => ?_)
          clear hK K r6h7
          try simp only [pu]
          refine wpAnyH_take (i := 40) (oi := ⟨(some 67), _, _, _, _, _⟩) (v := .bool o5) rfl (by kernel_rfl) (by kernel_rfl) (by kernel_rfl) (fun _ _ _ h => h) (Or.inl ⟨by rfl, ?yr6_40⟩) hHeld ?_
          case yr6_40 => (intro W0 hSw; go_simp; try simp only [m6.out]; try with_reducible rfl)
          try simp only [pu]
          refine wpAnyH_take (i := 41) (oi := ⟨(some 68), _, _, _, _, _⟩) (v := .bool true) rfl (by kernel_rfl) (by kernel_rfl) (by kernel_rfl) (fun _ _ _ h => h) (Or.inl ⟨by rfl, ?yr6_41⟩) hHeld ?_
          case yr6_41 => (intro W0 hSw; go_simp; try simp; try with_reducible rfl)
          try simp only [pu]
          refine wpAnyH_take (i := 42) (oi := ⟨(some 69), _, _, _, _, _⟩) (v := .bool true) rfl (by kernel_rfl) (by kernel_rfl) (by kernel_rfl) (fun _ _ _ h => h) (Or.inl ⟨by rfl, ?yr6_42⟩) hHeld ?_
          case yr6_42 => (intro W0 hSw; go_simp; try with_reducible rfl)
          try simp only [pu]
          refine wpAnyH_take (i := 43) (oi := ⟨(some 6), _, _, _, _, _⟩) (v := .bool true) rfl (by kernel_rfl) (by kernel_rfl) (by kernel_rfl) (fun _ _ _ h => h) (Or.inl ⟨by rfl, ?yr6_43⟩) hHeld ?_
          case yr6_43 => (intro W0 hSw; go_simp; try with_reducible rfl)
          try simp only [pu]
          refine wpAnyH_done (by kernel_rfl) ?_ _
          go_wp2
          go_ret
          exact ⟨rfl, below_next hbV hbV.size hHeld⟩
        · have n1 := Lib.hid (show IntKind.i64.wrap (s1 + s2) = s1 + s2 from IntWalk.i64_in _ (by have q1 := (sum1 rfl).out; have q2 := (sum2 rfl).out; omega))
          have n2 := Lib.hid (show s3 ≤ s1 + s2 from (sum3 rfl rfl).out)
          clear sum1 sum2 sum3
          refine wp_region_held_drew (S := fun W' => Below V.heap.size V W') (by kernel_rfl) ((Below.refl _ _).drew) (fun hHeld => ?_)
          refine wpAnyH_take (i := 0) (oi := ⟨(some 27), _, _, _, _, _⟩) (v := .agg (i64v m).toArray) rfl (by kernel_rfl) (by kernel_rfl) (by kernel_rfl) (fun _ _ _ h => h) (yieldsIf_load_mid (by rfl) _ _ rfl G 0 rfl (i64v m) _ (fun W' hW' => range_row ((hW'.block _ sM).trans gM.out)) (Try.underlying27) rfl (by rw [i64v_len, HML.out]; kernel_rfl)) hHeld ?_
          try simp only [pu]
          refine wpAnyH_take (i := 1) (oi := ⟨(some 28), _, _, _, _, _⟩) (v := .agg [Value.int .i64 x, .int .i64 y].toArray) rfl (by kernel_rfl) (by kernel_rfl) (by kernel_rfl) (fun _ _ _ h => h) (yieldsIf_load_mid (by rfl) _ _ rfl (w.heap.size + 2) 0 rfl [Value.int .i64 x, .int .i64 y] _ (fun W' hW' => range_row ((hW'.block _ sD).trans gD.out)) (Try.underlying33) rfl (by kernel_rfl)) hHeld ?_
          try simp only [pu]
          refine wpAnyH_take (i := 3) (oi := ⟨(some 30), _, _, _, _, _⟩) (v := .agg (i64v a).toArray) rfl (by kernel_rfl) (by kernel_rfl) (by kernel_rfl) (fun _ _ _ h => h) (yieldsIf_load_mid (by rfl) _ _ rfl w.heap.size 0 rfl (i64v a) _ (fun W' hW' => range_row ((hW'.block _ sA).trans gA.out)) (Try.underlying27) rfl (by rw [i64v_len, HA.out]; kernel_rfl)) hHeld ?_
          try simp only [pu]
          refine wpAnyH_take (i := 4) (oi := ⟨(some 31), _, _, _, _, _⟩) (v := .agg [Value.int .i64 x, .int .i64 y].toArray) rfl (by kernel_rfl) (by kernel_rfl) (by kernel_rfl) (fun _ _ _ h => h) (yieldsIf_load_mid (by rfl) _ _ rfl (w.heap.size + 2) 0 rfl [Value.int .i64 x, .int .i64 y] _ (fun W' hW' => range_row ((hW'.block _ sD).trans gD.out)) (Try.underlying33) rfl (by kernel_rfl)) hHeld ?_
          try simp only [pu]
          refine wpAnyH_ready (rs := [2]) (by kernel_rfl) (by simp) ?_
          refine AllReadyH.cons (i := 2) (o := ⟨(some 29), _, _, _, _, _⟩) rfl (fun K hK => ?_) AllReadyH.nil
          go_simp
          refine (c4 _).mono ?_
          rintro e r6W1 ⟨rfl, r6h1⟩
          refine hK.out _ _ (below_next hHeld hHeld.size r6h1) (fun hHeld => ?_)
          clear hK K r6h1
          try simp only [pu]
          refine wpAnyH_ready (rs := [5]) (by kernel_rfl) (by simp) ?_
          refine AllReadyH.cons (i := 5) (o := ⟨(some 32), _, _, _, _, _⟩) rfl (fun K hK => ?_) AllReadyH.nil
          go_simp
          refine (c2 _).mono ?_
          rintro e r6W2 ⟨rfl, r6h2⟩
          refine hK.out _ _ (below_next hHeld hHeld.size r6h2) (fun hHeld => ?_)
          clear hK K r6h2
          try simp only [pu]
          refine wpAnyH_take (i := 6) (oi := ⟨(some 33), _, _, _, _, _⟩) (v := .bool false) rfl (by kernel_rfl) (by kernel_rfl) (by kernel_rfl) (fun _ _ _ h => h) (Or.inl ⟨by rfl, ?yr6_6⟩) hHeld ?_
          case yr6_6 => (intro W0 hSw; go_simp; try with_reducible rfl)
          try simp only [pu]
          refine wpAnyH_take (i := 7) (oi := ⟨(some 34), _, _, _, _, _⟩) (v := .agg (i64v b).toArray) rfl (by kernel_rfl) (by kernel_rfl) (by kernel_rfl) (fun _ _ _ h => h) (yieldsIf_load_mid (by rfl) _ _ rfl (w.heap.size + 1) 0 rfl (i64v b) _ (fun W' hW' => range_row ((hW'.block _ sB).trans gB.out)) (Try.underlying27) rfl (by rw [i64v_len, HB.out]; kernel_rfl)) hHeld ?_
          try simp only [pu]
          refine wpAnyH_take (i := 8) (oi := ⟨(some 35), _, _, _, _, _⟩) (v := .agg [Value.int .i64 x, .int .i64 y].toArray) rfl (by kernel_rfl) (by kernel_rfl) (by kernel_rfl) (fun _ _ _ h => h) (yieldsIf_load_mid (by rfl) _ _ rfl (w.heap.size + 2) 0 rfl [Value.int .i64 x, .int .i64 y] _ (fun W' hW' => range_row ((hW'.block _ sD).trans gD.out)) (Try.underlying33) rfl (by kernel_rfl)) hHeld ?_
          try simp only [pu]
          refine wpAnyH_ready (rs := [9]) (by kernel_rfl) (by simp) ?_
          refine AllReadyH.cons (i := 9) (o := ⟨(some 36), _, _, _, _, _⟩) rfl (fun K hK => ?_) AllReadyH.nil
          go_simp
          refine (c3 _).mono ?_
          rintro e r6W3 ⟨rfl, r6h3⟩
          refine hK.out _ _ (below_next hHeld hHeld.size r6h3) (fun hHeld => ?_)
          clear hK K r6h3
          try simp only [pu]
          refine wpAnyH_take (i := 10) (oi := ⟨(some 37), _, _, _, _, _⟩) (v := .bool o2) rfl (by kernel_rfl) (by kernel_rfl) (by kernel_rfl) (fun _ _ _ h => h) (Or.inl ⟨by rfl, ?yr6_10⟩) hHeld ?_
          case yr6_10 => (intro W0 hSw; go_simp; try with_reducible rfl)
          try simp only [pu]
          refine wpAnyH_take (i := 11) (oi := ⟨(some 38), _, _, _, _, _⟩) (v := .bool true) rfl (by kernel_rfl) (by kernel_rfl) (by kernel_rfl) (fun _ _ _ h => h) (Or.inl ⟨by rfl, ?yr6_11⟩) hHeld ?_
          case yr6_11 => (intro W0 hSw; go_simp; try simp; try with_reducible rfl)
          try simp only [pu]
          refine wpAnyH_take (i := 12) (oi := ⟨(some 39), _, _, _, _, _⟩) (v := .bool true) rfl (by kernel_rfl) (by kernel_rfl) (by kernel_rfl) (fun _ _ _ h => h) (Or.inl ⟨by rfl, ?yr6_12⟩) hHeld ?_
          case yr6_12 => (intro W0 hSw; go_simp; try with_reducible rfl)
          try simp only [pu]
          refine wpAnyH_take (i := 13) (oi := ⟨(some 40), _, _, _, _, _⟩) (v := .agg (i64v a).toArray) rfl (by kernel_rfl) (by kernel_rfl) (by kernel_rfl) (fun _ _ _ h => h) (yieldsIf_load_mid (by rfl) _ _ rfl w.heap.size 0 rfl (i64v a) _ (fun W' hW' => range_row ((hW'.block _ sA).trans gA.out)) (Try.underlying27) rfl (by rw [i64v_len, HA.out]; kernel_rfl)) hHeld ?_
          try simp only [pu]
          refine wpAnyH_ready (rs := [14]) (by kernel_rfl) (by simp) ?_
          refine AllReadyH.cons (i := 14) (o := ⟨(some 41), _, _, _, _, _⟩) rfl (fun K hK => ?_) AllReadyH.nil
          go_simp
          refine (c5 _).mono ?_
          rintro e r6W4 ⟨rfl, r6h4⟩
          refine hK.out _ _ (below_next hHeld hHeld.size r6h4) (fun hHeld => ?_)
          clear hK K r6h4
          try simp only [pu]
          refine wpAnyH_take (i := 15) (oi := ⟨(some 42), _, _, _, _, _⟩) (v := .bool false) rfl (by kernel_rfl) (by kernel_rfl) (by kernel_rfl) (fun _ _ _ h => h) (Or.inl ⟨by rfl, ?yr6_15⟩) hHeld ?_
          case yr6_15 => (intro W0 hSw; go_simp; try with_reducible rfl)
          try simp only [pu]
          refine wpAnyH_take (i := 16) (oi := ⟨(some 43), _, _, _, _, _⟩) (v := .bool false) rfl (by kernel_rfl) (by kernel_rfl) (by kernel_rfl) (fun _ _ _ h => h) (Or.inl ⟨by rfl, ?yr6_16⟩) hHeld ?_
          case yr6_16 => (intro W0 hSw; go_simp; try with_reducible rfl)
          try simp only [pu]
          refine wpAnyH_take (i := 17) (oi := ⟨(some 44), _, _, _, _, _⟩) (v := .agg (i64v b).toArray) rfl (by kernel_rfl) (by kernel_rfl) (by kernel_rfl) (fun _ _ _ h => h) (yieldsIf_load_mid (by rfl) _ _ rfl (w.heap.size + 1) 0 rfl (i64v b) _ (fun W' hW' => range_row ((hW'.block _ sB).trans gB.out)) (Try.underlying27) rfl (by rw [i64v_len, HB.out]; kernel_rfl)) hHeld ?_
          try simp only [pu]
          refine wpAnyH_ready (rs := [18]) (by kernel_rfl) (by simp) ?_
          refine AllReadyH.cons (i := 18) (o := ⟨(some 45), _, _, _, _, _⟩) rfl (fun K hK => ?_) AllReadyH.nil
          go_simp
          refine (c6 _).mono ?_
          rintro e r6W5 ⟨rfl, r6h5⟩
          refine hK.out _ _ (below_next hHeld hHeld.size r6h5) (fun hHeld => ?_)
          clear hK K r6h5
          try simp only [pu]
          refine wpAnyH_take (i := 19) (oi := ⟨(some 46), _, _, _, _, _⟩) (v := .bool false) rfl (by kernel_rfl) (by kernel_rfl) (by kernel_rfl) (fun _ _ _ h => h) (Or.inl ⟨by rfl, ?yr6_19⟩) hHeld ?_
          case yr6_19 => (intro W0 hSw; go_simp; try with_reducible rfl)
          try simp only [pu]
          refine wpAnyH_take (i := 20) (oi := ⟨(some 47), _, _, _, _, _⟩) (v := .bool false) rfl (by kernel_rfl) (by kernel_rfl) (by kernel_rfl) (fun _ _ _ h => h) (Or.inl ⟨by rfl, ?yr6_20⟩) hHeld ?_
          case yr6_20 => (intro W0 hSw; go_simp; try with_reducible rfl)
          try simp only [pu]
          refine wpAnyH_take (i := 21) (oi := ⟨(some 48), _, _, _, _, _⟩) (v := .bool false) rfl (by kernel_rfl) (by kernel_rfl) (by kernel_rfl) (fun _ _ _ h => h) (Or.inl ⟨by rfl, ?yr6_21⟩) hHeld ?_
          case yr6_21 => (intro W0 hSw; go_simp; try with_reducible rfl)
          try simp only [pu]
          refine wpAnyH_take (i := 22) (oi := ⟨(some 49), _, _, _, _, _⟩) (v := .agg (i64v m).toArray) rfl (by kernel_rfl) (by kernel_rfl) (by kernel_rfl) (fun _ _ _ h => h) (yieldsIf_load_mid (by rfl) _ _ rfl G 0 rfl (i64v m) _ (fun W' hW' => range_row ((hW'.block _ sM).trans gM.out)) (Try.underlying27) rfl (by rw [i64v_len, HML.out]; kernel_rfl)) hHeld ?_
          try simp only [pu]
          refine wpAnyH_take (i := 24) (oi := ⟨(some 51), _, _, _, _, _⟩) (v := .agg (i64v a).toArray) rfl (by kernel_rfl) (by kernel_rfl) (by kernel_rfl) (fun _ _ _ h => h) (yieldsIf_load_mid (by rfl) _ _ rfl w.heap.size 0 rfl (i64v a) _ (fun W' hW' => range_row ((hW'.block _ sA).trans gA.out)) (Try.underlying27) rfl (by rw [i64v_len, HA.out]; kernel_rfl)) hHeld ?_
          try simp only [pu]
          refine wpAnyH_take (i := 26) (oi := ⟨(some 53), _, _, _, _, _⟩) (v := .agg (i64v b).toArray) rfl (by kernel_rfl) (by kernel_rfl) (by kernel_rfl) (fun _ _ _ h => h) (yieldsIf_load_mid (by rfl) _ _ rfl (w.heap.size + 1) 0 rfl (i64v b) _ (fun W' hW' => range_row ((hW'.block _ sB).trans gB.out)) (Try.underlying27) rfl (by rw [i64v_len, HB.out]; kernel_rfl)) hHeld ?_
          try simp only [pu]
          refine wpAnyH_ready (rs := [23]) (by kernel_rfl) (by simp) ?_
          refine AllReadyH.cons (i := 23) (o := ⟨(some 50), _, _, _, _, _⟩) rfl (fun K hK => ?_) AllReadyH.nil
          go_simp
          refine (c9 _).mono ?_
          rintro e r6W6 ⟨rfl, r6h6⟩
          refine hK.out _ _ (below_next hHeld hHeld.size r6h6) (fun hHeld => ?_)
          clear hK K r6h6
          try simp only [pu]
          refine wpAnyH_ready (rs := [25]) (by kernel_rfl) (by simp) ?_
          refine AllReadyH.cons (i := 25) (o := ⟨(some 52), _, _, _, _, _⟩) rfl (fun K hK => ?_) AllReadyH.nil
          go_simp
          refine (c7 _).mono ?_
          rintro e r6W7 ⟨rfl, r6h7⟩
          refine hK.out _ _ (below_next hHeld hHeld.size r6h7) (fun hHeld => ?_)
          clear hK K r6h7
          try simp only [pu]
          refine wpAnyH_ready (rs := [27]) (by kernel_rfl) (by simp) ?_
          refine AllReadyH.cons (i := 27) (o := ⟨(some 54), _, _, _, _, _⟩) rfl (fun K hK => ?_) AllReadyH.nil
          go_simp
          refine (c8 _).mono ?_
          rintro e r6W8 ⟨rfl, r6h8⟩
          refine hK.out _ _ (below_next hHeld hHeld.size r6h8) (fun hHeld => ?_)
          clear hK K r6h8
          try simp only [pu]
          refine wpAnyH_take (i := 28) (oi := ⟨(some 55), _, _, _, _, _⟩) (v := .int .i64 (s1 + s2)) rfl (by kernel_rfl) (by kernel_rfl) (by kernel_rfl) (fun _ _ _ h => h) (Or.inl ⟨by rfl, ?yr6_28⟩) hHeld ?_
          case yr6_28 => (intro W0 hSw; go_simp; try simp only [n1.out]; try with_reducible rfl)
          try simp only [pu]
          refine wpAnyH_take (i := 29) (oi := ⟨(some 56), _, _, _, _, _⟩) (v := .bool true) rfl (by kernel_rfl) (by kernel_rfl) (by kernel_rfl) (fun _ _ _ h => h) (Or.inl ⟨by rfl, ?yr6_29⟩) hHeld ?_
          case yr6_29 => (intro W0 hSw; go_simp; first | exact n2.out | (simp only [decide_eq_true n2.out]; try with_reducible rfl))
          try simp only [pu]
          refine wpAnyH_take (i := 30) (oi := ⟨(some 57), _, _, _, _, _⟩) (v := .bool true) rfl (by kernel_rfl) (by kernel_rfl) (by kernel_rfl) (fun _ _ _ h => h) (Or.inl ⟨by rfl, ?yr6_30⟩) hHeld ?_
          case yr6_30 => (intro W0 hSw; go_simp; try with_reducible rfl)
          try simp only [pu]
          refine wpAnyH_take (i := 31) (oi := ⟨(some 58), _, _, _, _, _⟩) (v := .bool true) rfl (by kernel_rfl) (by kernel_rfl) (by kernel_rfl) (fun _ _ _ h => h) (Or.inl ⟨by rfl, ?yr6_31⟩) hHeld ?_
          case yr6_31 => (intro W0 hSw; go_simp; try with_reducible rfl)
          try simp only [pu]
          refine wpAnyH_take (i := 32) (oi := ⟨(some 59), _, _, _, _, _⟩) (v := .bool true) rfl (by kernel_rfl) (by kernel_rfl) (by kernel_rfl) (fun _ _ _ h => h) (Or.inl ⟨by rfl, ?yr6_32⟩) hHeld ?_
          case yr6_32 => (intro W0 hSw; go_simp; try with_reducible rfl)
          try simp only [pu]
          refine wpAnyH_take (i := 33) (oi := ⟨(some 60), _, _, _, _, _⟩) (v := .agg (i64v a).toArray) rfl (by kernel_rfl) (by kernel_rfl) (by kernel_rfl) (fun _ _ _ h => h) (yieldsIf_load_mid (by rfl) _ _ rfl w.heap.size 0 rfl (i64v a) _ (fun W' hW' => range_row ((hW'.block _ sA).trans gA.out)) (Try.underlying27) rfl (by rw [i64v_len, HA.out]; kernel_rfl)) hHeld ?_
          try simp only [pu]
          refine wpAnyH_take (i := 34) (oi := ⟨(some 61), _, _, _, _, _⟩) (v := .agg (i64v b).toArray) rfl (by kernel_rfl) (by kernel_rfl) (by kernel_rfl) (fun _ _ _ h => h) (yieldsIf_load_mid (by rfl) _ _ rfl (w.heap.size + 1) 0 rfl (i64v b) _ (fun W' hW' => range_row ((hW'.block _ sB).trans gB.out)) (Try.underlying27) rfl (by rw [i64v_len, HB.out]; kernel_rfl)) hHeld ?_
          try simp only [pu]
          refine wpAnyH_take (i := 37) (oi := ⟨(some 64), _, _, _, _, _⟩) (v := .agg (i64v b).toArray) rfl (by kernel_rfl) (by kernel_rfl) (by kernel_rfl) (fun _ _ _ h => h) (yieldsIf_load_mid (by rfl) _ _ rfl (w.heap.size + 1) 0 rfl (i64v b) _ (fun W' hW' => range_row ((hW'.block _ sB).trans gB.out)) (Try.underlying27) rfl (by rw [i64v_len, HB.out]; kernel_rfl)) hHeld ?_
          try simp only [pu]
          refine wpAnyH_take (i := 38) (oi := ⟨(some 65), _, _, _, _, _⟩) (v := .agg (i64v a).toArray) rfl (by kernel_rfl) (by kernel_rfl) (by kernel_rfl) (fun _ _ _ h => h) (yieldsIf_load_mid (by rfl) _ _ rfl w.heap.size 0 rfl (i64v a) _ (fun W' hW' => range_row ((hW'.block _ sA).trans gA.out)) (Try.underlying27) rfl (by rw [i64v_len, HA.out]; kernel_rfl)) hHeld ?_
          try simp only [pu]
          refine wpAnyH_ready (rs := [35]) (by kernel_rfl) (by simp) ?_
          refine AllReadyH.cons (i := 35) (o := ⟨(some 62), _, _, _, _, _⟩) rfl (fun K hK => ?_) AllReadyH.nil
          go_simp
          refine (c10 _).mono ?_
          rintro e r6W9 ⟨rfl, r6h9⟩
          refine hK.out _ _ (below_next hHeld hHeld.size r6h9) (fun hHeld => ?_)
          clear hK K r6h9
          try simp only [pu]
          refine wpAnyH_take (i := 36) (oi := ⟨(some 63), _, _, _, _, _⟩) (v := .bool o5) rfl (by kernel_rfl) (by kernel_rfl) (by kernel_rfl) (fun _ _ _ h => h) (Or.inl ⟨by rfl, ?yr6_36⟩) hHeld ?_
          case yr6_36 => (intro W0 hSw; go_simp; try simp only [m5.out]; try with_reducible rfl)
          try simp only [pu]
          refine wpAnyH_ready (rs := [39]) (by kernel_rfl) (by simp) ?_
          refine AllReadyH.cons (i := 39) (o := ⟨(some 66), _, _, _, _, _⟩) rfl (fun K hK => ?_) AllReadyH.nil
          go_simp
          refine (c11 _).mono ?_
          rintro e r6W10 ⟨rfl, r6h10⟩
          refine hK.out _ _ (below_next hHeld hHeld.size r6h10) (fun hHeld => ?_)
          clear hK K r6h10
          try simp only [pu]
          refine wpAnyH_take (i := 40) (oi := ⟨(some 67), _, _, _, _, _⟩) (v := .bool o5) rfl (by kernel_rfl) (by kernel_rfl) (by kernel_rfl) (fun _ _ _ h => h) (Or.inl ⟨by rfl, ?yr6_40⟩) hHeld ?_
          case yr6_40 => (intro W0 hSw; go_simp; try simp only [m6.out]; try with_reducible rfl)
          try simp only [pu]
          refine wpAnyH_take (i := 41) (oi := ⟨(some 68), _, _, _, _, _⟩) (v := .bool true) rfl (by kernel_rfl) (by kernel_rfl) (by kernel_rfl) (fun _ _ _ h => h) (Or.inl ⟨by rfl, ?yr6_41⟩) hHeld ?_
          case yr6_41 => (intro W0 hSw; go_simp; try simp; try with_reducible rfl)
          try simp only [pu]
          refine wpAnyH_take (i := 42) (oi := ⟨(some 69), _, _, _, _, _⟩) (v := .bool true) rfl (by kernel_rfl) (by kernel_rfl) (by kernel_rfl) (fun _ _ _ h => h) (Or.inl ⟨by rfl, ?yr6_42⟩) hHeld ?_
          case yr6_42 => (intro W0 hSw; go_simp; try with_reducible rfl)
          try simp only [pu]
          refine wpAnyH_take (i := 43) (oi := ⟨(some 6), _, _, _, _, _⟩) (v := .bool true) rfl (by kernel_rfl) (by kernel_rfl) (by kernel_rfl) (fun _ _ _ h => h) (Or.inl ⟨by rfl, ?yr6_43⟩) hHeld ?_
          case yr6_43 => (intro W0 hSw; go_simp; try with_reducible rfl)
          try simp only [pu]
          refine wpAnyH_done (by kernel_rfl) ?_ _
          go_wp2
          go_ret
          exact ⟨rfl, below_next hbV hbV.size hHeld⟩
    · obtain rfl : o2 = true := (mono rfl rfl).out
      clear mono
      go_upto_region 3 with fail
      refine plain_start (S := fun W' => Below w0.heap.size w0 W') (by kernel_rfl) (Below.refl _ _) (fun hHeld => ?_)
      refine wpAnyH_take (i := 0) (oi := ⟨(some 10), _, _, _, _, _⟩) (v := .agg (i64v a).toArray) rfl (by kernel_rfl) (by kernel_rfl) (by kernel_rfl) (fun _ _ _ h => h) (yieldsIf_load_mid (by rfl) _ _ rfl w.heap.size 0 rfl (i64v a) _ (fun W' hW' => range_row ((hW'.block _ s0A).trans g0A.out)) (Try.underlying27) rfl (by rw [i64v_len, HA.out]; kernel_rfl)) hHeld ?_
      try simp only [pu]
      refine wpAnyH_take (i := 1) (oi := ⟨(some 11), _, _, _, _, _⟩) (v := .agg (i64v b).toArray) rfl (by kernel_rfl) (by kernel_rfl) (by kernel_rfl) (fun _ _ _ h => h) (yieldsIf_load_mid (by rfl) _ _ rfl (w.heap.size + 1) 0 rfl (i64v b) _ (fun W' hW' => range_row ((hW'.block _ s0B).trans g0B.out)) (Try.underlying27) rfl (by rw [i64v_len, HB.out]; kernel_rfl)) hHeld ?_
      try simp only [pu]
      refine wpAnyH_ready (rs := [2]) (by kernel_rfl) (by simp) ?_
      refine AllReadyH.cons (i := 2) (o := ⟨(some 12), _, _, _, _, _⟩) rfl (fun K hK => ?_) AllReadyH.nil
      go_simp
      refine (c1 _).mono ?_
      rintro e r3W1 ⟨rfl, r3h1⟩
      refine hK.out _ _ (below_next hHeld hHeld.size r3h1) (fun hHeld => ?_)
      clear hK K r3h1
      try simp only [pu]
      refine wpAnyH_take (i := 3) (oi := ⟨(some 13), _, _, _, _, _⟩) (v := .bool true) rfl (by kernel_rfl) (by kernel_rfl) (by kernel_rfl) (fun _ _ _ h => h) (Or.inl ⟨by rfl, ?yr3_3⟩) hHeld ?_
      case yr3_3 => (intro W0 hSw; go_simp; try with_reducible rfl)
      try simp only [pu]
      refine wpAnyH_take (i := 4) (oi := ⟨(some 14), _, _, _, _, _⟩) (v := .agg (i64v a).toArray) rfl (by kernel_rfl) (by kernel_rfl) (by kernel_rfl) (fun _ _ _ h => h) (yieldsIf_load_mid (by rfl) _ _ rfl w.heap.size 0 rfl (i64v a) _ (fun W' hW' => range_row ((hW'.block _ s0A).trans g0A.out)) (Try.underlying27) rfl (by rw [i64v_len, HA.out]; kernel_rfl)) hHeld ?_
      try simp only [pu]
      refine wpAnyH_take (i := 5) (oi := ⟨(some 15), _, _, _, _, _⟩) (v := .agg [Value.int .i64 x, .int .i64 y].toArray) rfl (by kernel_rfl) (by kernel_rfl) (by kernel_rfl) (fun _ _ _ h => h) (yieldsIf_load_mid (by rfl) _ _ rfl (w.heap.size + 2) 0 rfl [Value.int .i64 x, .int .i64 y] _ (fun W' hW' => range_row ((hW'.block _ s0D).trans g0D.out)) (Try.underlying33) rfl (by kernel_rfl)) hHeld ?_
      try simp only [pu]
      refine wpAnyH_ready (rs := [6]) (by kernel_rfl) (by simp) ?_
      refine AllReadyH.cons (i := 6) (o := ⟨(some 16), _, _, _, _, _⟩) rfl (fun K hK => ?_) AllReadyH.nil
      go_simp
      refine (c2 _).mono ?_
      rintro e r3W2 ⟨rfl, r3h2⟩
      refine hK.out _ _ (below_next hHeld hHeld.size r3h2) (fun hHeld => ?_)
      clear hK K r3h2
      try simp only [pu]
      refine wpAnyH_take (i := 7) (oi := ⟨(some 17), _, _, _, _, _⟩) (v := .bool true) rfl (by kernel_rfl) (by kernel_rfl) (by kernel_rfl) (fun _ _ _ h => h) (Or.inl ⟨by rfl, ?yr3_7⟩) hHeld ?_
      case yr3_7 => (intro W0 hSw; go_simp; try with_reducible rfl)
      try simp only [pu]
      refine wpAnyH_take (i := 8) (oi := ⟨(some 18), _, _, _, _, _⟩) (v := .bool true) rfl (by kernel_rfl) (by kernel_rfl) (by kernel_rfl) (fun _ _ _ h => h) (Or.inl ⟨by rfl, ?yr3_8⟩) hHeld ?_
      case yr3_8 => (intro W0 hSw; go_simp; try with_reducible rfl)
      try simp only [pu]
      refine wpAnyH_take (i := 9) (oi := ⟨(some 19), _, _, _, _, _⟩) (v := .agg (i64v b).toArray) rfl (by kernel_rfl) (by kernel_rfl) (by kernel_rfl) (fun _ _ _ h => h) (yieldsIf_load_mid (by rfl) _ _ rfl (w.heap.size + 1) 0 rfl (i64v b) _ (fun W' hW' => range_row ((hW'.block _ s0B).trans g0B.out)) (Try.underlying27) rfl (by rw [i64v_len, HB.out]; kernel_rfl)) hHeld ?_
      try simp only [pu]
      refine wpAnyH_take (i := 10) (oi := ⟨(some 20), _, _, _, _, _⟩) (v := .agg [Value.int .i64 x, .int .i64 y].toArray) rfl (by kernel_rfl) (by kernel_rfl) (by kernel_rfl) (fun _ _ _ h => h) (yieldsIf_load_mid (by rfl) _ _ rfl (w.heap.size + 2) 0 rfl [Value.int .i64 x, .int .i64 y] _ (fun W' hW' => range_row ((hW'.block _ s0D).trans g0D.out)) (Try.underlying33) rfl (by kernel_rfl)) hHeld ?_
      try simp only [pu]
      refine wpAnyH_ready (rs := [11]) (by kernel_rfl) (by simp) ?_
      refine AllReadyH.cons (i := 11) (o := ⟨(some 21), _, _, _, _, _⟩) rfl (fun K hK => ?_) AllReadyH.nil
      go_simp
      refine (c3 _).mono ?_
      rintro e r3W3 ⟨rfl, r3h3⟩
      refine hK.out _ _ (below_next hHeld hHeld.size r3h3) (fun hHeld => ?_)
      clear hK K r3h3
      try simp only [pu]
      refine wpAnyH_take (i := 12) (oi := ⟨(some 22), _, _, _, _, _⟩) (v := .bool false) rfl (by kernel_rfl) (by kernel_rfl) (by kernel_rfl) (fun _ _ _ h => h) (Or.inl ⟨by rfl, ?yr3_12⟩) hHeld ?_
      case yr3_12 => (intro W0 hSw; go_simp; try with_reducible rfl)
      try simp only [pu]
      refine wpAnyH_take (i := 13) (oi := ⟨(some 23), _, _, _, _, _⟩) (v := .bool false) rfl (by kernel_rfl) (by kernel_rfl) (by kernel_rfl) (fun _ _ _ h => h) (Or.inl ⟨by rfl, ?yr3_13⟩) hHeld ?_
      case yr3_13 => (intro W0 hSw; go_simp; try with_reducible rfl)
      try simp only [pu]
      refine wpAnyH_done (by kernel_rfl) ?_ _
      obtain ⟨w1, hw1⟩ : ∃ X, X = r3W3 := ⟨_, rfl⟩
      subst hw1
      have g1A := row_next2 g0A hHeld
      have g1B := row_next2 g0B hHeld
      have g1D := row_next2 g0D hHeld
      have hbw1 := below_next hbw0 hbw0.size hHeld
      clear hHeld g0A g0B g0D s0A s0B s0D hbw0
      go_wp2_with (first | (with_reducible refine wpList_load_row rfl 27 (.tmp 3) rfl w.heap.size rfl 27 (i64v a).toArray (0, 0) _ (g1A).out Try.underlying27 rfl (by rw [int8_size HA.out]; kernel_rfl) ?_) | (with_reducible refine wpList_load_row rfl 27 (.tmp 4) rfl (w.heap.size + 1) rfl 27 (i64v b).toArray (0, 0) _ (g1B).out Try.underlying27 rfl (by rw [int8_size HB.out]; kernel_rfl) ?_))
      refine (vmerge_any w1 a b HA.out HB.out).mono ?_
      rintro e w2 ⟨rfl, hb2⟩
      have g2A := row_next2 g1A hb2
      have g2B := row_next2 g1B hb2
      have g2D := row_next2 g1D hb2
      have hbw2 := below_next hbw1 hbw1.size hb2
      obtain ⟨m, hm⟩ : ∃ m, m = vmx a b := ⟨_, rfl⟩
      have HM := vlt hm
      have HML := Lib.hid (show m.length = 8 by rw [hm]; exact vmx_len HA.out HB.out)
      rw [← hm]
      clear hm hb2 hbw1 g1A g1B g1D
      go_upto_region 6 with ((with_reducible refine wpList_store_row rfl 27 (.tmp 7) (.tmp 26) rfl w2.heap.size (i64v m).toArray rfl rfl 27 _ (heap_alloc_new _ _) (by rw [int8_size HML.out]; kernel_rfl) (by rw [int8_size HML.out]; kernel_rfl) (all_oneCell_toArray (i64v_one _)) ?_); rw [World.setRow_alloc_new])
      obtain ⟨V, hV⟩ : ∃ V, V = w2.alloc (.cells (i64v m).toArray 27) := ⟨_, rfl⟩
      rw [← hV]
      have gA := row_next2 g2A (show Below w2.heap.size w2 V by rw [hV]; exact (Below.refl _ _).alloc (Nat.le_refl _) _)
      have gB := row_next2 g2B (show Below w2.heap.size w2 V by rw [hV]; exact (Below.refl _ _).alloc (Nat.le_refl _) _)
      have gD := row_next2 g2D (show Below w2.heap.size w2 V by rw [hV]; exact (Below.refl _ _).alloc (Nat.le_refl _) _)
      have gM : Hid (V.heap[w2.heap.size]? = some (.cells (i64v m).toArray 27 (0, 0))) := by rw [hV]; exact heap_alloc_new _ _
      have hbV : Below w.heap.size w V := by rw [hV]; exact hbw2.alloc hbw2.size _
      obtain ⟨G, hG⟩ : ∃ G, G = w2.heap.size := ⟨_, rfl⟩
      rw [← hG] at gM ⊢
      clear hV hG hbw2 g2A g2B g2D
      have sA := row_size gA
      have sB := row_size gB
      have sM := row_size gM
      have sD := row_size gD
      clear c3
      have c4 := fun w => vhas_any w m HML.out x y
      have c9 := fun w => vsum_any w m HML.out
      simp only [HM.out, hasm.out, Bool.true_or] at c4
      simp only [← HM.out] at c4
      obtain ⟨s3, hs3⟩ : ∃ s, s = vsum m := ⟨_, rfl⟩
      simp only [← hs3] at c9
      simp only [← HM.out, ← hs3] at sum3
      clear HM hs3 hasm
      cases g1
      · clear sum1 sum2 sum3 c6 c7 c8 c9
        refine wp_region_held_drew (S := fun W' => Below V.heap.size V W') (by kernel_rfl) ((Below.refl _ _).drew) (fun hHeld => ?_)
        refine wpAnyH_take (i := 0) (oi := ⟨(some 27), _, _, _, _, _⟩) (v := .agg (i64v m).toArray) rfl (by kernel_rfl) (by kernel_rfl) (by kernel_rfl) (fun _ _ _ h => h) (yieldsIf_load_mid (by rfl) _ _ rfl G 0 rfl (i64v m) _ (fun W' hW' => range_row ((hW'.block _ sM).trans gM.out)) (Try.underlying27) rfl (by rw [i64v_len, HML.out]; kernel_rfl)) hHeld ?_
        try simp only [pu]
        refine wpAnyH_take (i := 1) (oi := ⟨(some 28), _, _, _, _, _⟩) (v := .agg [Value.int .i64 x, .int .i64 y].toArray) rfl (by kernel_rfl) (by kernel_rfl) (by kernel_rfl) (fun _ _ _ h => h) (yieldsIf_load_mid (by rfl) _ _ rfl (w.heap.size + 2) 0 rfl [Value.int .i64 x, .int .i64 y] _ (fun W' hW' => range_row ((hW'.block _ sD).trans gD.out)) (Try.underlying33) rfl (by kernel_rfl)) hHeld ?_
        try simp only [pu]
        refine wpAnyH_take (i := 3) (oi := ⟨(some 30), _, _, _, _, _⟩) (v := .agg (i64v a).toArray) rfl (by kernel_rfl) (by kernel_rfl) (by kernel_rfl) (fun _ _ _ h => h) (yieldsIf_load_mid (by rfl) _ _ rfl w.heap.size 0 rfl (i64v a) _ (fun W' hW' => range_row ((hW'.block _ sA).trans gA.out)) (Try.underlying27) rfl (by rw [i64v_len, HA.out]; kernel_rfl)) hHeld ?_
        try simp only [pu]
        refine wpAnyH_take (i := 4) (oi := ⟨(some 31), _, _, _, _, _⟩) (v := .agg [Value.int .i64 x, .int .i64 y].toArray) rfl (by kernel_rfl) (by kernel_rfl) (by kernel_rfl) (fun _ _ _ h => h) (yieldsIf_load_mid (by rfl) _ _ rfl (w.heap.size + 2) 0 rfl [Value.int .i64 x, .int .i64 y] _ (fun W' hW' => range_row ((hW'.block _ sD).trans gD.out)) (Try.underlying33) rfl (by kernel_rfl)) hHeld ?_
        try simp only [pu]
        refine wpAnyH_ready (rs := [2]) (by kernel_rfl) (by simp) ?_
        refine AllReadyH.cons (i := 2) (o := ⟨(some 29), _, _, _, _, _⟩) rfl (fun K hK => ?_) AllReadyH.nil
        go_simp
        refine (c4 _).mono ?_
        rintro e r6W1 ⟨rfl, r6h1⟩
        refine hK.out _ _ (below_next hHeld hHeld.size r6h1) (fun hHeld => ?_)
        clear hK K r6h1
        try simp only [pu]
        refine wpAnyH_ready (rs := [5]) (by kernel_rfl) (by simp) ?_
        refine AllReadyH.cons (i := 5) (o := ⟨(some 32), _, _, _, _, _⟩) rfl (fun K hK => ?_) AllReadyH.nil
        go_simp
        refine (c2 _).mono ?_
        rintro e r6W2 ⟨rfl, r6h2⟩
        refine hK.out _ _ (below_next hHeld hHeld.size r6h2) (fun hHeld => ?_)
        clear hK K r6h2
        try simp only [pu]
        refine wpAnyH_take (i := 6) (oi := ⟨(some 33), _, _, _, _, _⟩) (v := .bool true) rfl (by kernel_rfl) (by kernel_rfl) (by kernel_rfl) (fun _ _ _ h => h) (Or.inl ⟨by rfl, ?yr6_6⟩) hHeld ?_
        case yr6_6 => (intro W0 hSw; go_simp; try with_reducible rfl)
        try simp only [pu]
        refine wpAnyH_take (i := 7) (oi := ⟨(some 34), _, _, _, _, _⟩) (v := undef) rfl (by kernel_rfl) (by kernel_rfl) (by kernel_rfl) (fun _ _ _ h => h) (Or.inr ⟨by rfl, rfl⟩) hHeld ?_
        try simp only [pu]
        refine wpAnyH_take (i := 8) (oi := ⟨(some 35), _, _, _, _, _⟩) (v := undef) rfl (by kernel_rfl) (by kernel_rfl) (by kernel_rfl) (fun _ _ _ h => h) (Or.inr ⟨by rfl, rfl⟩) hHeld ?_
        try simp only [pu]
        refine wpAnyH_take (i := 9) (oi := ⟨(some 36), _, _, _, _, _⟩) (v := undef) rfl (by kernel_rfl) (by kernel_rfl) (by kernel_rfl) (fun _ _ _ h => h) (Or.inr ⟨by rfl, rfl⟩) hHeld ?_
        try simp only [pu]
        refine wpAnyH_take (i := 10) (oi := ⟨(some 37), _, _, _, _, _⟩) (v := .bool true) rfl (by kernel_rfl) (by kernel_rfl) (by kernel_rfl) (fun _ _ _ h => h) (Or.inl ⟨by rfl, ?yr6_10⟩) hHeld ?_
        case yr6_10 => (intro W0 hSw; go_simp; try with_reducible rfl)
        try simp only [pu]
        refine wpAnyH_take (i := 11) (oi := ⟨(some 38), _, _, _, _, _⟩) (v := .bool true) rfl (by kernel_rfl) (by kernel_rfl) (by kernel_rfl) (fun _ _ _ h => h) (Or.inl ⟨by rfl, ?yr6_11⟩) hHeld ?_
        case yr6_11 => (intro W0 hSw; go_simp; try with_reducible rfl)
        try simp only [pu]
        refine wpAnyH_take (i := 12) (oi := ⟨(some 39), _, _, _, _, _⟩) (v := .bool true) rfl (by kernel_rfl) (by kernel_rfl) (by kernel_rfl) (fun _ _ _ h => h) (Or.inl ⟨by rfl, ?yr6_12⟩) hHeld ?_
        case yr6_12 => (intro W0 hSw; go_simp; try with_reducible rfl)
        try simp only [pu]
        refine wpAnyH_take (i := 13) (oi := ⟨(some 40), _, _, _, _, _⟩) (v := .agg (i64v a).toArray) rfl (by kernel_rfl) (by kernel_rfl) (by kernel_rfl) (fun _ _ _ h => h) (yieldsIf_load_mid (by rfl) _ _ rfl w.heap.size 0 rfl (i64v a) _ (fun W' hW' => range_row ((hW'.block _ sA).trans gA.out)) (Try.underlying27) rfl (by rw [i64v_len, HA.out]; kernel_rfl)) hHeld ?_
        try simp only [pu]
        refine wpAnyH_ready (rs := [14]) (by kernel_rfl) (by simp) ?_
        refine AllReadyH.cons (i := 14) (o := ⟨(some 41), _, _, _, _, _⟩) rfl (fun K hK => ?_) AllReadyH.nil
        go_simp
        refine (c5 _).mono ?_
        rintro e r6W3 ⟨rfl, r6h3⟩
        refine hK.out _ _ (below_next hHeld hHeld.size r6h3) (fun hHeld => ?_)
        clear hK K r6h3
        try simp only [pu]
        refine wpAnyH_take (i := 15) (oi := ⟨(some 42), _, _, _, _, _⟩) (v := .bool true) rfl (by kernel_rfl) (by kernel_rfl) (by kernel_rfl) (fun _ _ _ h => h) (Or.inl ⟨by rfl, ?yr6_15⟩) hHeld ?_
        case yr6_15 => (intro W0 hSw; go_simp; try with_reducible rfl)
        try simp only [pu]
        refine wpAnyH_take (i := 16) (oi := ⟨(some 43), _, _, _, _, _⟩) (v := .bool true) rfl (by kernel_rfl) (by kernel_rfl) (by kernel_rfl) (fun _ _ _ h => h) (Or.inl ⟨by rfl, ?yr6_16⟩) hHeld ?_
        case yr6_16 => (intro W0 hSw; go_simp; try with_reducible rfl)
        try simp only [pu]
        refine wpAnyH_take (i := 17) (oi := ⟨(some 44), _, _, _, _, _⟩) (v := undef) rfl (by kernel_rfl) (by kernel_rfl) (by kernel_rfl) (fun _ _ _ h => h) (Or.inr ⟨by rfl, rfl⟩) hHeld ?_
        try simp only [pu]
        refine wpAnyH_take (i := 18) (oi := ⟨(some 45), _, _, _, _, _⟩) (v := undef) rfl (by kernel_rfl) (by kernel_rfl) (by kernel_rfl) (fun _ _ _ h => h) (Or.inr ⟨by rfl, rfl⟩) hHeld ?_
        try simp only [pu]
        refine wpAnyH_take (i := 19) (oi := ⟨(some 46), _, _, _, _, _⟩) (v := undef) rfl (by kernel_rfl) (by kernel_rfl) (by kernel_rfl) (fun _ _ _ h => h) (Or.inr ⟨by rfl, rfl⟩) hHeld ?_
        try simp only [pu]
        refine wpAnyH_take (i := 20) (oi := ⟨(some 47), _, _, _, _, _⟩) (v := .bool true) rfl (by kernel_rfl) (by kernel_rfl) (by kernel_rfl) (fun _ _ _ h => h) (Or.inl ⟨by rfl, ?yr6_20⟩) hHeld ?_
        case yr6_20 => (intro W0 hSw; go_simp; try with_reducible rfl)
        try simp only [pu]
        refine wpAnyH_take (i := 21) (oi := ⟨(some 48), _, _, _, _, _⟩) (v := .bool true) rfl (by kernel_rfl) (by kernel_rfl) (by kernel_rfl) (fun _ _ _ h => h) (Or.inl ⟨by rfl, ?yr6_21⟩) hHeld ?_
        case yr6_21 => (intro W0 hSw; go_simp; try with_reducible rfl)
        try simp only [pu]
        refine wpAnyH_take (i := 22) (oi := ⟨(some 49), _, _, _, _, _⟩) (v := undef) rfl (by kernel_rfl) (by kernel_rfl) (by kernel_rfl) (fun _ _ _ h => h) (Or.inr ⟨by rfl, rfl⟩) hHeld ?_
        try simp only [pu]
        refine wpAnyH_take (i := 23) (oi := ⟨(some 50), _, _, _, _, _⟩) (v := undef) rfl (by kernel_rfl) (by kernel_rfl) (by kernel_rfl) (fun _ _ _ h => h) (Or.inr ⟨by rfl, rfl⟩) hHeld ?_
        try simp only [pu]
        refine wpAnyH_take (i := 24) (oi := ⟨(some 51), _, _, _, _, _⟩) (v := undef) rfl (by kernel_rfl) (by kernel_rfl) (by kernel_rfl) (fun _ _ _ h => h) (Or.inr ⟨by rfl, rfl⟩) hHeld ?_
        try simp only [pu]
        refine wpAnyH_take (i := 25) (oi := ⟨(some 52), _, _, _, _, _⟩) (v := undef) rfl (by kernel_rfl) (by kernel_rfl) (by kernel_rfl) (fun _ _ _ h => h) (Or.inr ⟨by rfl, rfl⟩) hHeld ?_
        try simp only [pu]
        refine wpAnyH_take (i := 26) (oi := ⟨(some 53), _, _, _, _, _⟩) (v := undef) rfl (by kernel_rfl) (by kernel_rfl) (by kernel_rfl) (fun _ _ _ h => h) (Or.inr ⟨by rfl, rfl⟩) hHeld ?_
        try simp only [pu]
        refine wpAnyH_take (i := 27) (oi := ⟨(some 54), _, _, _, _, _⟩) (v := undef) rfl (by kernel_rfl) (by kernel_rfl) (by kernel_rfl) (fun _ _ _ h => h) (Or.inr ⟨by rfl, rfl⟩) hHeld ?_
        try simp only [pu]
        refine wpAnyH_take (i := 28) (oi := ⟨(some 55), _, _, _, _, _⟩) (v := undef) rfl (by kernel_rfl) (by kernel_rfl) (by kernel_rfl) (fun _ _ _ h => h) (Or.inr ⟨by rfl, rfl⟩) hHeld ?_
        try simp only [pu]
        refine wpAnyH_take (i := 29) (oi := ⟨(some 56), _, _, _, _, _⟩) (v := undef) rfl (by kernel_rfl) (by kernel_rfl) (by kernel_rfl) (fun _ _ _ h => h) (Or.inr ⟨by rfl, rfl⟩) hHeld ?_
        try simp only [pu]
        refine wpAnyH_take (i := 30) (oi := ⟨(some 57), _, _, _, _, _⟩) (v := .bool true) rfl (by kernel_rfl) (by kernel_rfl) (by kernel_rfl) (fun _ _ _ h => h) (Or.inl ⟨by rfl, ?yr6_30⟩) hHeld ?_
        case yr6_30 => (intro W0 hSw; go_simp; try with_reducible rfl)
        try simp only [pu]
        refine wpAnyH_take (i := 31) (oi := ⟨(some 58), _, _, _, _, _⟩) (v := .bool true) rfl (by kernel_rfl) (by kernel_rfl) (by kernel_rfl) (fun _ _ _ h => h) (Or.inl ⟨by rfl, ?yr6_31⟩) hHeld ?_
        case yr6_31 => (intro W0 hSw; go_simp; try with_reducible rfl)
        try simp only [pu]
        refine wpAnyH_take (i := 32) (oi := ⟨(some 59), _, _, _, _, _⟩) (v := .bool true) rfl (by kernel_rfl) (by kernel_rfl) (by kernel_rfl) (fun _ _ _ h => h) (Or.inl ⟨by rfl, ?yr6_32⟩) hHeld ?_
        case yr6_32 => (intro W0 hSw; go_simp; try with_reducible rfl)
        try simp only [pu]
        refine wpAnyH_take (i := 33) (oi := ⟨(some 60), _, _, _, _, _⟩) (v := .agg (i64v a).toArray) rfl (by kernel_rfl) (by kernel_rfl) (by kernel_rfl) (fun _ _ _ h => h) (yieldsIf_load_mid (by rfl) _ _ rfl w.heap.size 0 rfl (i64v a) _ (fun W' hW' => range_row ((hW'.block _ sA).trans gA.out)) (Try.underlying27) rfl (by rw [i64v_len, HA.out]; kernel_rfl)) hHeld ?_
        try simp only [pu]
        refine wpAnyH_take (i := 34) (oi := ⟨(some 61), _, _, _, _, _⟩) (v := .agg (i64v b).toArray) rfl (by kernel_rfl) (by kernel_rfl) (by kernel_rfl) (fun _ _ _ h => h) (yieldsIf_load_mid (by rfl) _ _ rfl (w.heap.size + 1) 0 rfl (i64v b) _ (fun W' hW' => range_row ((hW'.block _ sB).trans gB.out)) (Try.underlying27) rfl (by rw [i64v_len, HB.out]; kernel_rfl)) hHeld ?_
        try simp only [pu]
        refine wpAnyH_take (i := 37) (oi := ⟨(some 64), _, _, _, _, _⟩) (v := .agg (i64v b).toArray) rfl (by kernel_rfl) (by kernel_rfl) (by kernel_rfl) (fun _ _ _ h => h) (yieldsIf_load_mid (by rfl) _ _ rfl (w.heap.size + 1) 0 rfl (i64v b) _ (fun W' hW' => range_row ((hW'.block _ sB).trans gB.out)) (Try.underlying27) rfl (by rw [i64v_len, HB.out]; kernel_rfl)) hHeld ?_
        try simp only [pu]
        refine wpAnyH_take (i := 38) (oi := ⟨(some 65), _, _, _, _, _⟩) (v := .agg (i64v a).toArray) rfl (by kernel_rfl) (by kernel_rfl) (by kernel_rfl) (fun _ _ _ h => h) (yieldsIf_load_mid (by rfl) _ _ rfl w.heap.size 0 rfl (i64v a) _ (fun W' hW' => range_row ((hW'.block _ sA).trans gA.out)) (Try.underlying27) rfl (by rw [i64v_len, HA.out]; kernel_rfl)) hHeld ?_
        try simp only [pu]
        refine wpAnyH_ready (rs := [35]) (by kernel_rfl) (by simp) ?_
        refine AllReadyH.cons (i := 35) (o := ⟨(some 62), _, _, _, _, _⟩) rfl (fun K hK => ?_) AllReadyH.nil
        go_simp
        refine (c10 _).mono ?_
        rintro e r6W4 ⟨rfl, r6h4⟩
        refine hK.out _ _ (below_next hHeld hHeld.size r6h4) (fun hHeld => ?_)
        clear hK K r6h4
        try simp only [pu]
        refine wpAnyH_take (i := 36) (oi := ⟨(some 63), _, _, _, _, _⟩) (v := .bool o5) rfl (by kernel_rfl) (by kernel_rfl) (by kernel_rfl) (fun _ _ _ h => h) (Or.inl ⟨by rfl, ?yr6_36⟩) hHeld ?_
        case yr6_36 => (intro W0 hSw; go_simp; try simp only [m5.out]; try with_reducible rfl)
        try simp only [pu]
        refine wpAnyH_ready (rs := [39]) (by kernel_rfl) (by simp) ?_
        refine AllReadyH.cons (i := 39) (o := ⟨(some 66), _, _, _, _, _⟩) rfl (fun K hK => ?_) AllReadyH.nil
        go_simp
        refine (c11 _).mono ?_
        rintro e r6W5 ⟨rfl, r6h5⟩
        refine hK.out _ _ (below_next hHeld hHeld.size r6h5) (fun hHeld => ?_)
        clear hK K r6h5
        try simp only [pu]
        refine wpAnyH_take (i := 40) (oi := ⟨(some 67), _, _, _, _, _⟩) (v := .bool o5) rfl (by kernel_rfl) (by kernel_rfl) (by kernel_rfl) (fun _ _ _ h => h) (Or.inl ⟨by rfl, ?yr6_40⟩) hHeld ?_
        case yr6_40 => (intro W0 hSw; go_simp; try simp only [m6.out]; try with_reducible rfl)
        try simp only [pu]
        refine wpAnyH_take (i := 41) (oi := ⟨(some 68), _, _, _, _, _⟩) (v := .bool true) rfl (by kernel_rfl) (by kernel_rfl) (by kernel_rfl) (fun _ _ _ h => h) (Or.inl ⟨by rfl, ?yr6_41⟩) hHeld ?_
        case yr6_41 => (intro W0 hSw; go_simp; try simp; try with_reducible rfl)
        try simp only [pu]
        refine wpAnyH_take (i := 42) (oi := ⟨(some 69), _, _, _, _, _⟩) (v := .bool true) rfl (by kernel_rfl) (by kernel_rfl) (by kernel_rfl) (fun _ _ _ h => h) (Or.inl ⟨by rfl, ?yr6_42⟩) hHeld ?_
        case yr6_42 => (intro W0 hSw; go_simp; try with_reducible rfl)
        try simp only [pu]
        refine wpAnyH_take (i := 43) (oi := ⟨(some 6), _, _, _, _, _⟩) (v := .bool true) rfl (by kernel_rfl) (by kernel_rfl) (by kernel_rfl) (fun _ _ _ h => h) (Or.inl ⟨by rfl, ?yr6_43⟩) hHeld ?_
        case yr6_43 => (intro W0 hSw; go_simp; try with_reducible rfl)
        try simp only [pu]
        refine wpAnyH_done (by kernel_rfl) ?_ _
        go_wp2
        go_ret
        exact ⟨rfl, below_next hbV hbV.size hHeld⟩
      · cases g2
        · clear sum1 sum2 sum3 c7 c8 c9
          refine wp_region_held_drew (S := fun W' => Below V.heap.size V W') (by kernel_rfl) ((Below.refl _ _).drew) (fun hHeld => ?_)
          refine wpAnyH_take (i := 0) (oi := ⟨(some 27), _, _, _, _, _⟩) (v := .agg (i64v m).toArray) rfl (by kernel_rfl) (by kernel_rfl) (by kernel_rfl) (fun _ _ _ h => h) (yieldsIf_load_mid (by rfl) _ _ rfl G 0 rfl (i64v m) _ (fun W' hW' => range_row ((hW'.block _ sM).trans gM.out)) (Try.underlying27) rfl (by rw [i64v_len, HML.out]; kernel_rfl)) hHeld ?_
          try simp only [pu]
          refine wpAnyH_take (i := 1) (oi := ⟨(some 28), _, _, _, _, _⟩) (v := .agg [Value.int .i64 x, .int .i64 y].toArray) rfl (by kernel_rfl) (by kernel_rfl) (by kernel_rfl) (fun _ _ _ h => h) (yieldsIf_load_mid (by rfl) _ _ rfl (w.heap.size + 2) 0 rfl [Value.int .i64 x, .int .i64 y] _ (fun W' hW' => range_row ((hW'.block _ sD).trans gD.out)) (Try.underlying33) rfl (by kernel_rfl)) hHeld ?_
          try simp only [pu]
          refine wpAnyH_take (i := 3) (oi := ⟨(some 30), _, _, _, _, _⟩) (v := .agg (i64v a).toArray) rfl (by kernel_rfl) (by kernel_rfl) (by kernel_rfl) (fun _ _ _ h => h) (yieldsIf_load_mid (by rfl) _ _ rfl w.heap.size 0 rfl (i64v a) _ (fun W' hW' => range_row ((hW'.block _ sA).trans gA.out)) (Try.underlying27) rfl (by rw [i64v_len, HA.out]; kernel_rfl)) hHeld ?_
          try simp only [pu]
          refine wpAnyH_take (i := 4) (oi := ⟨(some 31), _, _, _, _, _⟩) (v := .agg [Value.int .i64 x, .int .i64 y].toArray) rfl (by kernel_rfl) (by kernel_rfl) (by kernel_rfl) (fun _ _ _ h => h) (yieldsIf_load_mid (by rfl) _ _ rfl (w.heap.size + 2) 0 rfl [Value.int .i64 x, .int .i64 y] _ (fun W' hW' => range_row ((hW'.block _ sD).trans gD.out)) (Try.underlying33) rfl (by kernel_rfl)) hHeld ?_
          try simp only [pu]
          refine wpAnyH_ready (rs := [2]) (by kernel_rfl) (by simp) ?_
          refine AllReadyH.cons (i := 2) (o := ⟨(some 29), _, _, _, _, _⟩) rfl (fun K hK => ?_) AllReadyH.nil
          go_simp
          refine (c4 _).mono ?_
          rintro e r6W1 ⟨rfl, r6h1⟩
          refine hK.out _ _ (below_next hHeld hHeld.size r6h1) (fun hHeld => ?_)
          clear hK K r6h1
          try simp only [pu]
          refine wpAnyH_ready (rs := [5]) (by kernel_rfl) (by simp) ?_
          refine AllReadyH.cons (i := 5) (o := ⟨(some 32), _, _, _, _, _⟩) rfl (fun K hK => ?_) AllReadyH.nil
          go_simp
          refine (c2 _).mono ?_
          rintro e r6W2 ⟨rfl, r6h2⟩
          refine hK.out _ _ (below_next hHeld hHeld.size r6h2) (fun hHeld => ?_)
          clear hK K r6h2
          try simp only [pu]
          refine wpAnyH_take (i := 6) (oi := ⟨(some 33), _, _, _, _, _⟩) (v := .bool true) rfl (by kernel_rfl) (by kernel_rfl) (by kernel_rfl) (fun _ _ _ h => h) (Or.inl ⟨by rfl, ?yr6_6⟩) hHeld ?_
          case yr6_6 => (intro W0 hSw; go_simp; try with_reducible rfl)
          try simp only [pu]
          refine wpAnyH_take (i := 7) (oi := ⟨(some 34), _, _, _, _, _⟩) (v := undef) rfl (by kernel_rfl) (by kernel_rfl) (by kernel_rfl) (fun _ _ _ h => h) (Or.inr ⟨by rfl, rfl⟩) hHeld ?_
          try simp only [pu]
          refine wpAnyH_take (i := 8) (oi := ⟨(some 35), _, _, _, _, _⟩) (v := undef) rfl (by kernel_rfl) (by kernel_rfl) (by kernel_rfl) (fun _ _ _ h => h) (Or.inr ⟨by rfl, rfl⟩) hHeld ?_
          try simp only [pu]
          refine wpAnyH_take (i := 9) (oi := ⟨(some 36), _, _, _, _, _⟩) (v := undef) rfl (by kernel_rfl) (by kernel_rfl) (by kernel_rfl) (fun _ _ _ h => h) (Or.inr ⟨by rfl, rfl⟩) hHeld ?_
          try simp only [pu]
          refine wpAnyH_take (i := 10) (oi := ⟨(some 37), _, _, _, _, _⟩) (v := .bool true) rfl (by kernel_rfl) (by kernel_rfl) (by kernel_rfl) (fun _ _ _ h => h) (Or.inl ⟨by rfl, ?yr6_10⟩) hHeld ?_
          case yr6_10 => (intro W0 hSw; go_simp; try with_reducible rfl)
          try simp only [pu]
          refine wpAnyH_take (i := 11) (oi := ⟨(some 38), _, _, _, _, _⟩) (v := .bool true) rfl (by kernel_rfl) (by kernel_rfl) (by kernel_rfl) (fun _ _ _ h => h) (Or.inl ⟨by rfl, ?yr6_11⟩) hHeld ?_
          case yr6_11 => (intro W0 hSw; go_simp; try with_reducible rfl)
          try simp only [pu]
          refine wpAnyH_take (i := 12) (oi := ⟨(some 39), _, _, _, _, _⟩) (v := .bool true) rfl (by kernel_rfl) (by kernel_rfl) (by kernel_rfl) (fun _ _ _ h => h) (Or.inl ⟨by rfl, ?yr6_12⟩) hHeld ?_
          case yr6_12 => (intro W0 hSw; go_simp; try with_reducible rfl)
          try simp only [pu]
          refine wpAnyH_take (i := 13) (oi := ⟨(some 40), _, _, _, _, _⟩) (v := .agg (i64v a).toArray) rfl (by kernel_rfl) (by kernel_rfl) (by kernel_rfl) (fun _ _ _ h => h) (yieldsIf_load_mid (by rfl) _ _ rfl w.heap.size 0 rfl (i64v a) _ (fun W' hW' => range_row ((hW'.block _ sA).trans gA.out)) (Try.underlying27) rfl (by rw [i64v_len, HA.out]; kernel_rfl)) hHeld ?_
          try simp only [pu]
          refine wpAnyH_ready (rs := [14]) (by kernel_rfl) (by simp) ?_
          refine AllReadyH.cons (i := 14) (o := ⟨(some 41), _, _, _, _, _⟩) rfl (fun K hK => ?_) AllReadyH.nil
          go_simp
          refine (c5 _).mono ?_
          rintro e r6W3 ⟨rfl, r6h3⟩
          refine hK.out _ _ (below_next hHeld hHeld.size r6h3) (fun hHeld => ?_)
          clear hK K r6h3
          try simp only [pu]
          refine wpAnyH_take (i := 15) (oi := ⟨(some 42), _, _, _, _, _⟩) (v := .bool false) rfl (by kernel_rfl) (by kernel_rfl) (by kernel_rfl) (fun _ _ _ h => h) (Or.inl ⟨by rfl, ?yr6_15⟩) hHeld ?_
          case yr6_15 => (intro W0 hSw; go_simp; try with_reducible rfl)
          try simp only [pu]
          refine wpAnyH_take (i := 16) (oi := ⟨(some 43), _, _, _, _, _⟩) (v := .bool false) rfl (by kernel_rfl) (by kernel_rfl) (by kernel_rfl) (fun _ _ _ h => h) (Or.inl ⟨by rfl, ?yr6_16⟩) hHeld ?_
          case yr6_16 => (intro W0 hSw; go_simp; try with_reducible rfl)
          try simp only [pu]
          refine wpAnyH_take (i := 17) (oi := ⟨(some 44), _, _, _, _, _⟩) (v := .agg (i64v b).toArray) rfl (by kernel_rfl) (by kernel_rfl) (by kernel_rfl) (fun _ _ _ h => h) (yieldsIf_load_mid (by rfl) _ _ rfl (w.heap.size + 1) 0 rfl (i64v b) _ (fun W' hW' => range_row ((hW'.block _ sB).trans gB.out)) (Try.underlying27) rfl (by rw [i64v_len, HB.out]; kernel_rfl)) hHeld ?_
          try simp only [pu]
          refine wpAnyH_ready (rs := [18]) (by kernel_rfl) (by simp) ?_
          refine AllReadyH.cons (i := 18) (o := ⟨(some 45), _, _, _, _, _⟩) rfl (fun K hK => ?_) AllReadyH.nil
          go_simp
          refine (c6 _).mono ?_
          rintro e r6W4 ⟨rfl, r6h4⟩
          refine hK.out _ _ (below_next hHeld hHeld.size r6h4) (fun hHeld => ?_)
          clear hK K r6h4
          try simp only [pu]
          refine wpAnyH_take (i := 19) (oi := ⟨(some 46), _, _, _, _, _⟩) (v := .bool true) rfl (by kernel_rfl) (by kernel_rfl) (by kernel_rfl) (fun _ _ _ h => h) (Or.inl ⟨by rfl, ?yr6_19⟩) hHeld ?_
          case yr6_19 => (intro W0 hSw; go_simp; try with_reducible rfl)
          try simp only [pu]
          refine wpAnyH_take (i := 20) (oi := ⟨(some 47), _, _, _, _, _⟩) (v := .bool true) rfl (by kernel_rfl) (by kernel_rfl) (by kernel_rfl) (fun _ _ _ h => h) (Or.inl ⟨by rfl, ?yr6_20⟩) hHeld ?_
          case yr6_20 => (intro W0 hSw; go_simp; try with_reducible rfl)
          try simp only [pu]
          refine wpAnyH_take (i := 21) (oi := ⟨(some 48), _, _, _, _, _⟩) (v := .bool true) rfl (by kernel_rfl) (by kernel_rfl) (by kernel_rfl) (fun _ _ _ h => h) (Or.inl ⟨by rfl, ?yr6_21⟩) hHeld ?_
          case yr6_21 => (intro W0 hSw; go_simp; try with_reducible rfl)
          try simp only [pu]
          refine wpAnyH_take (i := 22) (oi := ⟨(some 49), _, _, _, _, _⟩) (v := undef) rfl (by kernel_rfl) (by kernel_rfl) (by kernel_rfl) (fun _ _ _ h => h) (Or.inr ⟨by rfl, rfl⟩) hHeld ?_
          try simp only [pu]
          refine wpAnyH_take (i := 23) (oi := ⟨(some 50), _, _, _, _, _⟩) (v := undef) rfl (by kernel_rfl) (by kernel_rfl) (by kernel_rfl) (fun _ _ _ h => h) (Or.inr ⟨by rfl, rfl⟩) hHeld ?_
          try simp only [pu]
          refine wpAnyH_take (i := 24) (oi := ⟨(some 51), _, _, _, _, _⟩) (v := undef) rfl (by kernel_rfl) (by kernel_rfl) (by kernel_rfl) (fun _ _ _ h => h) (Or.inr ⟨by rfl, rfl⟩) hHeld ?_
          try simp only [pu]
          refine wpAnyH_take (i := 25) (oi := ⟨(some 52), _, _, _, _, _⟩) (v := undef) rfl (by kernel_rfl) (by kernel_rfl) (by kernel_rfl) (fun _ _ _ h => h) (Or.inr ⟨by rfl, rfl⟩) hHeld ?_
          try simp only [pu]
          refine wpAnyH_take (i := 26) (oi := ⟨(some 53), _, _, _, _, _⟩) (v := undef) rfl (by kernel_rfl) (by kernel_rfl) (by kernel_rfl) (fun _ _ _ h => h) (Or.inr ⟨by rfl, rfl⟩) hHeld ?_
          try simp only [pu]
          refine wpAnyH_take (i := 27) (oi := ⟨(some 54), _, _, _, _, _⟩) (v := undef) rfl (by kernel_rfl) (by kernel_rfl) (by kernel_rfl) (fun _ _ _ h => h) (Or.inr ⟨by rfl, rfl⟩) hHeld ?_
          try simp only [pu]
          refine wpAnyH_take (i := 28) (oi := ⟨(some 55), _, _, _, _, _⟩) (v := undef) rfl (by kernel_rfl) (by kernel_rfl) (by kernel_rfl) (fun _ _ _ h => h) (Or.inr ⟨by rfl, rfl⟩) hHeld ?_
          try simp only [pu]
          refine wpAnyH_take (i := 29) (oi := ⟨(some 56), _, _, _, _, _⟩) (v := undef) rfl (by kernel_rfl) (by kernel_rfl) (by kernel_rfl) (fun _ _ _ h => h) (Or.inr ⟨by rfl, rfl⟩) hHeld ?_
          try simp only [pu]
          refine wpAnyH_take (i := 30) (oi := ⟨(some 57), _, _, _, _, _⟩) (v := .bool true) rfl (by kernel_rfl) (by kernel_rfl) (by kernel_rfl) (fun _ _ _ h => h) (Or.inl ⟨by rfl, ?yr6_30⟩) hHeld ?_
          case yr6_30 => (intro W0 hSw; go_simp; try with_reducible rfl)
          try simp only [pu]
          refine wpAnyH_take (i := 31) (oi := ⟨(some 58), _, _, _, _, _⟩) (v := .bool true) rfl (by kernel_rfl) (by kernel_rfl) (by kernel_rfl) (fun _ _ _ h => h) (Or.inl ⟨by rfl, ?yr6_31⟩) hHeld ?_
          case yr6_31 => (intro W0 hSw; go_simp; try with_reducible rfl)
          try simp only [pu]
          refine wpAnyH_take (i := 32) (oi := ⟨(some 59), _, _, _, _, _⟩) (v := .bool true) rfl (by kernel_rfl) (by kernel_rfl) (by kernel_rfl) (fun _ _ _ h => h) (Or.inl ⟨by rfl, ?yr6_32⟩) hHeld ?_
          case yr6_32 => (intro W0 hSw; go_simp; try with_reducible rfl)
          try simp only [pu]
          refine wpAnyH_take (i := 33) (oi := ⟨(some 60), _, _, _, _, _⟩) (v := .agg (i64v a).toArray) rfl (by kernel_rfl) (by kernel_rfl) (by kernel_rfl) (fun _ _ _ h => h) (yieldsIf_load_mid (by rfl) _ _ rfl w.heap.size 0 rfl (i64v a) _ (fun W' hW' => range_row ((hW'.block _ sA).trans gA.out)) (Try.underlying27) rfl (by rw [i64v_len, HA.out]; kernel_rfl)) hHeld ?_
          try simp only [pu]
          refine wpAnyH_take (i := 34) (oi := ⟨(some 61), _, _, _, _, _⟩) (v := .agg (i64v b).toArray) rfl (by kernel_rfl) (by kernel_rfl) (by kernel_rfl) (fun _ _ _ h => h) (yieldsIf_load_mid (by rfl) _ _ rfl (w.heap.size + 1) 0 rfl (i64v b) _ (fun W' hW' => range_row ((hW'.block _ sB).trans gB.out)) (Try.underlying27) rfl (by rw [i64v_len, HB.out]; kernel_rfl)) hHeld ?_
          try simp only [pu]
          refine wpAnyH_take (i := 37) (oi := ⟨(some 64), _, _, _, _, _⟩) (v := .agg (i64v b).toArray) rfl (by kernel_rfl) (by kernel_rfl) (by kernel_rfl) (fun _ _ _ h => h) (yieldsIf_load_mid (by rfl) _ _ rfl (w.heap.size + 1) 0 rfl (i64v b) _ (fun W' hW' => range_row ((hW'.block _ sB).trans gB.out)) (Try.underlying27) rfl (by rw [i64v_len, HB.out]; kernel_rfl)) hHeld ?_
          try simp only [pu]
          refine wpAnyH_take (i := 38) (oi := ⟨(some 65), _, _, _, _, _⟩) (v := .agg (i64v a).toArray) rfl (by kernel_rfl) (by kernel_rfl) (by kernel_rfl) (fun _ _ _ h => h) (yieldsIf_load_mid (by rfl) _ _ rfl w.heap.size 0 rfl (i64v a) _ (fun W' hW' => range_row ((hW'.block _ sA).trans gA.out)) (Try.underlying27) rfl (by rw [i64v_len, HA.out]; kernel_rfl)) hHeld ?_
          try simp only [pu]
          refine wpAnyH_ready (rs := [35]) (by kernel_rfl) (by simp) ?_
          refine AllReadyH.cons (i := 35) (o := ⟨(some 62), _, _, _, _, _⟩) rfl (fun K hK => ?_) AllReadyH.nil
          go_simp
          refine (c10 _).mono ?_
          rintro e r6W5 ⟨rfl, r6h5⟩
          refine hK.out _ _ (below_next hHeld hHeld.size r6h5) (fun hHeld => ?_)
          clear hK K r6h5
          try simp only [pu]
          refine wpAnyH_take (i := 36) (oi := ⟨(some 63), _, _, _, _, _⟩) (v := .bool o5) rfl (by kernel_rfl) (by kernel_rfl) (by kernel_rfl) (fun _ _ _ h => h) (Or.inl ⟨by rfl, ?yr6_36⟩) hHeld ?_
          case yr6_36 => (intro W0 hSw; go_simp; try simp only [m5.out]; try with_reducible rfl)
          try simp only [pu]
          refine wpAnyH_ready (rs := [39]) (by kernel_rfl) (by simp) ?_
          refine AllReadyH.cons (i := 39) (o := ⟨(some 66), _, _, _, _, _⟩) rfl (fun K hK => ?_) AllReadyH.nil
          go_simp
          refine (c11 _).mono ?_
          rintro e r6W6 ⟨rfl, r6h6⟩
          refine hK.out _ _ (below_next hHeld hHeld.size r6h6) (fun hHeld => ?_)
          clear hK K r6h6
          try simp only [pu]
          refine wpAnyH_take (i := 40) (oi := ⟨(some 67), _, _, _, _, _⟩) (v := .bool o5) rfl (by kernel_rfl) (by kernel_rfl) (by kernel_rfl) (fun _ _ _ h => h) (Or.inl ⟨by rfl, ?yr6_40⟩) hHeld ?_
          case yr6_40 => (intro W0 hSw; go_simp; try simp only [m6.out]; try with_reducible rfl)
          try simp only [pu]
          refine wpAnyH_take (i := 41) (oi := ⟨(some 68), _, _, _, _, _⟩) (v := .bool true) rfl (by kernel_rfl) (by kernel_rfl) (by kernel_rfl) (fun _ _ _ h => h) (Or.inl ⟨by rfl, ?yr6_41⟩) hHeld ?_
          case yr6_41 => (intro W0 hSw; go_simp; try simp; try with_reducible rfl)
          try simp only [pu]
          refine wpAnyH_take (i := 42) (oi := ⟨(some 69), _, _, _, _, _⟩) (v := .bool true) rfl (by kernel_rfl) (by kernel_rfl) (by kernel_rfl) (fun _ _ _ h => h) (Or.inl ⟨by rfl, ?yr6_42⟩) hHeld ?_
          case yr6_42 => (intro W0 hSw; go_simp; try with_reducible rfl)
          try simp only [pu]
          refine wpAnyH_take (i := 43) (oi := ⟨(some 6), _, _, _, _, _⟩) (v := .bool true) rfl (by kernel_rfl) (by kernel_rfl) (by kernel_rfl) (fun _ _ _ h => h) (Or.inl ⟨by rfl, ?yr6_43⟩) hHeld ?_
          case yr6_43 => (intro W0 hSw; go_simp; try with_reducible rfl)
          try simp only [pu]
          refine wpAnyH_done (by kernel_rfl) ?_ _
          go_wp2
          go_ret
          exact ⟨rfl, below_next hbV hbV.size hHeld⟩
        · have n1 := Lib.hid (show IntKind.i64.wrap (s1 + s2) = s1 + s2 from IntWalk.i64_in _ (by have q1 := (sum1 rfl).out; have q2 := (sum2 rfl).out; omega))
          have n2 := Lib.hid (show s3 ≤ s1 + s2 from (sum3 rfl rfl).out)
          clear sum1 sum2 sum3
          refine wp_region_held_drew (S := fun W' => Below V.heap.size V W') (by kernel_rfl) ((Below.refl _ _).drew) (fun hHeld => ?_)
          refine wpAnyH_take (i := 0) (oi := ⟨(some 27), _, _, _, _, _⟩) (v := .agg (i64v m).toArray) rfl (by kernel_rfl) (by kernel_rfl) (by kernel_rfl) (fun _ _ _ h => h) (yieldsIf_load_mid (by rfl) _ _ rfl G 0 rfl (i64v m) _ (fun W' hW' => range_row ((hW'.block _ sM).trans gM.out)) (Try.underlying27) rfl (by rw [i64v_len, HML.out]; kernel_rfl)) hHeld ?_
          try simp only [pu]
          refine wpAnyH_take (i := 1) (oi := ⟨(some 28), _, _, _, _, _⟩) (v := .agg [Value.int .i64 x, .int .i64 y].toArray) rfl (by kernel_rfl) (by kernel_rfl) (by kernel_rfl) (fun _ _ _ h => h) (yieldsIf_load_mid (by rfl) _ _ rfl (w.heap.size + 2) 0 rfl [Value.int .i64 x, .int .i64 y] _ (fun W' hW' => range_row ((hW'.block _ sD).trans gD.out)) (Try.underlying33) rfl (by kernel_rfl)) hHeld ?_
          try simp only [pu]
          refine wpAnyH_take (i := 3) (oi := ⟨(some 30), _, _, _, _, _⟩) (v := .agg (i64v a).toArray) rfl (by kernel_rfl) (by kernel_rfl) (by kernel_rfl) (fun _ _ _ h => h) (yieldsIf_load_mid (by rfl) _ _ rfl w.heap.size 0 rfl (i64v a) _ (fun W' hW' => range_row ((hW'.block _ sA).trans gA.out)) (Try.underlying27) rfl (by rw [i64v_len, HA.out]; kernel_rfl)) hHeld ?_
          try simp only [pu]
          refine wpAnyH_take (i := 4) (oi := ⟨(some 31), _, _, _, _, _⟩) (v := .agg [Value.int .i64 x, .int .i64 y].toArray) rfl (by kernel_rfl) (by kernel_rfl) (by kernel_rfl) (fun _ _ _ h => h) (yieldsIf_load_mid (by rfl) _ _ rfl (w.heap.size + 2) 0 rfl [Value.int .i64 x, .int .i64 y] _ (fun W' hW' => range_row ((hW'.block _ sD).trans gD.out)) (Try.underlying33) rfl (by kernel_rfl)) hHeld ?_
          try simp only [pu]
          refine wpAnyH_ready (rs := [2]) (by kernel_rfl) (by simp) ?_
          refine AllReadyH.cons (i := 2) (o := ⟨(some 29), _, _, _, _, _⟩) rfl (fun K hK => ?_) AllReadyH.nil
          go_simp
          refine (c4 _).mono ?_
          rintro e r6W1 ⟨rfl, r6h1⟩
          refine hK.out _ _ (below_next hHeld hHeld.size r6h1) (fun hHeld => ?_)
          clear hK K r6h1
          try simp only [pu]
          refine wpAnyH_ready (rs := [5]) (by kernel_rfl) (by simp) ?_
          refine AllReadyH.cons (i := 5) (o := ⟨(some 32), _, _, _, _, _⟩) rfl (fun K hK => ?_) AllReadyH.nil
          go_simp
          refine (c2 _).mono ?_
          rintro e r6W2 ⟨rfl, r6h2⟩
          refine hK.out _ _ (below_next hHeld hHeld.size r6h2) (fun hHeld => ?_)
          clear hK K r6h2
          try simp only [pu]
          refine wpAnyH_take (i := 6) (oi := ⟨(some 33), _, _, _, _, _⟩) (v := .bool true) rfl (by kernel_rfl) (by kernel_rfl) (by kernel_rfl) (fun _ _ _ h => h) (Or.inl ⟨by rfl, ?yr6_6⟩) hHeld ?_
          case yr6_6 => (intro W0 hSw; go_simp; try with_reducible rfl)
          try simp only [pu]
          refine wpAnyH_take (i := 7) (oi := ⟨(some 34), _, _, _, _, _⟩) (v := undef) rfl (by kernel_rfl) (by kernel_rfl) (by kernel_rfl) (fun _ _ _ h => h) (Or.inr ⟨by rfl, rfl⟩) hHeld ?_
          try simp only [pu]
          refine wpAnyH_take (i := 8) (oi := ⟨(some 35), _, _, _, _, _⟩) (v := undef) rfl (by kernel_rfl) (by kernel_rfl) (by kernel_rfl) (fun _ _ _ h => h) (Or.inr ⟨by rfl, rfl⟩) hHeld ?_
          try simp only [pu]
          refine wpAnyH_take (i := 9) (oi := ⟨(some 36), _, _, _, _, _⟩) (v := undef) rfl (by kernel_rfl) (by kernel_rfl) (by kernel_rfl) (fun _ _ _ h => h) (Or.inr ⟨by rfl, rfl⟩) hHeld ?_
          try simp only [pu]
          refine wpAnyH_take (i := 10) (oi := ⟨(some 37), _, _, _, _, _⟩) (v := .bool true) rfl (by kernel_rfl) (by kernel_rfl) (by kernel_rfl) (fun _ _ _ h => h) (Or.inl ⟨by rfl, ?yr6_10⟩) hHeld ?_
          case yr6_10 => (intro W0 hSw; go_simp; try with_reducible rfl)
          try simp only [pu]
          refine wpAnyH_take (i := 11) (oi := ⟨(some 38), _, _, _, _, _⟩) (v := .bool true) rfl (by kernel_rfl) (by kernel_rfl) (by kernel_rfl) (fun _ _ _ h => h) (Or.inl ⟨by rfl, ?yr6_11⟩) hHeld ?_
          case yr6_11 => (intro W0 hSw; go_simp; try with_reducible rfl)
          try simp only [pu]
          refine wpAnyH_take (i := 12) (oi := ⟨(some 39), _, _, _, _, _⟩) (v := .bool true) rfl (by kernel_rfl) (by kernel_rfl) (by kernel_rfl) (fun _ _ _ h => h) (Or.inl ⟨by rfl, ?yr6_12⟩) hHeld ?_
          case yr6_12 => (intro W0 hSw; go_simp; try with_reducible rfl)
          try simp only [pu]
          refine wpAnyH_take (i := 13) (oi := ⟨(some 40), _, _, _, _, _⟩) (v := .agg (i64v a).toArray) rfl (by kernel_rfl) (by kernel_rfl) (by kernel_rfl) (fun _ _ _ h => h) (yieldsIf_load_mid (by rfl) _ _ rfl w.heap.size 0 rfl (i64v a) _ (fun W' hW' => range_row ((hW'.block _ sA).trans gA.out)) (Try.underlying27) rfl (by rw [i64v_len, HA.out]; kernel_rfl)) hHeld ?_
          try simp only [pu]
          refine wpAnyH_ready (rs := [14]) (by kernel_rfl) (by simp) ?_
          refine AllReadyH.cons (i := 14) (o := ⟨(some 41), _, _, _, _, _⟩) rfl (fun K hK => ?_) AllReadyH.nil
          go_simp
          refine (c5 _).mono ?_
          rintro e r6W3 ⟨rfl, r6h3⟩
          refine hK.out _ _ (below_next hHeld hHeld.size r6h3) (fun hHeld => ?_)
          clear hK K r6h3
          try simp only [pu]
          refine wpAnyH_take (i := 15) (oi := ⟨(some 42), _, _, _, _, _⟩) (v := .bool false) rfl (by kernel_rfl) (by kernel_rfl) (by kernel_rfl) (fun _ _ _ h => h) (Or.inl ⟨by rfl, ?yr6_15⟩) hHeld ?_
          case yr6_15 => (intro W0 hSw; go_simp; try with_reducible rfl)
          try simp only [pu]
          refine wpAnyH_take (i := 16) (oi := ⟨(some 43), _, _, _, _, _⟩) (v := .bool false) rfl (by kernel_rfl) (by kernel_rfl) (by kernel_rfl) (fun _ _ _ h => h) (Or.inl ⟨by rfl, ?yr6_16⟩) hHeld ?_
          case yr6_16 => (intro W0 hSw; go_simp; try with_reducible rfl)
          try simp only [pu]
          refine wpAnyH_take (i := 17) (oi := ⟨(some 44), _, _, _, _, _⟩) (v := .agg (i64v b).toArray) rfl (by kernel_rfl) (by kernel_rfl) (by kernel_rfl) (fun _ _ _ h => h) (yieldsIf_load_mid (by rfl) _ _ rfl (w.heap.size + 1) 0 rfl (i64v b) _ (fun W' hW' => range_row ((hW'.block _ sB).trans gB.out)) (Try.underlying27) rfl (by rw [i64v_len, HB.out]; kernel_rfl)) hHeld ?_
          try simp only [pu]
          refine wpAnyH_ready (rs := [18]) (by kernel_rfl) (by simp) ?_
          refine AllReadyH.cons (i := 18) (o := ⟨(some 45), _, _, _, _, _⟩) rfl (fun K hK => ?_) AllReadyH.nil
          go_simp
          refine (c6 _).mono ?_
          rintro e r6W4 ⟨rfl, r6h4⟩
          refine hK.out _ _ (below_next hHeld hHeld.size r6h4) (fun hHeld => ?_)
          clear hK K r6h4
          try simp only [pu]
          refine wpAnyH_take (i := 19) (oi := ⟨(some 46), _, _, _, _, _⟩) (v := .bool false) rfl (by kernel_rfl) (by kernel_rfl) (by kernel_rfl) (fun _ _ _ h => h) (Or.inl ⟨by rfl, ?yr6_19⟩) hHeld ?_
          case yr6_19 => (intro W0 hSw; go_simp; try with_reducible rfl)
          try simp only [pu]
          refine wpAnyH_take (i := 20) (oi := ⟨(some 47), _, _, _, _, _⟩) (v := .bool false) rfl (by kernel_rfl) (by kernel_rfl) (by kernel_rfl) (fun _ _ _ h => h) (Or.inl ⟨by rfl, ?yr6_20⟩) hHeld ?_
          case yr6_20 => (intro W0 hSw; go_simp; try with_reducible rfl)
          try simp only [pu]
          refine wpAnyH_take (i := 21) (oi := ⟨(some 48), _, _, _, _, _⟩) (v := .bool false) rfl (by kernel_rfl) (by kernel_rfl) (by kernel_rfl) (fun _ _ _ h => h) (Or.inl ⟨by rfl, ?yr6_21⟩) hHeld ?_
          case yr6_21 => (intro W0 hSw; go_simp; try with_reducible rfl)
          try simp only [pu]
          refine wpAnyH_take (i := 22) (oi := ⟨(some 49), _, _, _, _, _⟩) (v := .agg (i64v m).toArray) rfl (by kernel_rfl) (by kernel_rfl) (by kernel_rfl) (fun _ _ _ h => h) (yieldsIf_load_mid (by rfl) _ _ rfl G 0 rfl (i64v m) _ (fun W' hW' => range_row ((hW'.block _ sM).trans gM.out)) (Try.underlying27) rfl (by rw [i64v_len, HML.out]; kernel_rfl)) hHeld ?_
          try simp only [pu]
          refine wpAnyH_take (i := 24) (oi := ⟨(some 51), _, _, _, _, _⟩) (v := .agg (i64v a).toArray) rfl (by kernel_rfl) (by kernel_rfl) (by kernel_rfl) (fun _ _ _ h => h) (yieldsIf_load_mid (by rfl) _ _ rfl w.heap.size 0 rfl (i64v a) _ (fun W' hW' => range_row ((hW'.block _ sA).trans gA.out)) (Try.underlying27) rfl (by rw [i64v_len, HA.out]; kernel_rfl)) hHeld ?_
          try simp only [pu]
          refine wpAnyH_take (i := 26) (oi := ⟨(some 53), _, _, _, _, _⟩) (v := .agg (i64v b).toArray) rfl (by kernel_rfl) (by kernel_rfl) (by kernel_rfl) (fun _ _ _ h => h) (yieldsIf_load_mid (by rfl) _ _ rfl (w.heap.size + 1) 0 rfl (i64v b) _ (fun W' hW' => range_row ((hW'.block _ sB).trans gB.out)) (Try.underlying27) rfl (by rw [i64v_len, HB.out]; kernel_rfl)) hHeld ?_
          try simp only [pu]
          refine wpAnyH_ready (rs := [23]) (by kernel_rfl) (by simp) ?_
          refine AllReadyH.cons (i := 23) (o := ⟨(some 50), _, _, _, _, _⟩) rfl (fun K hK => ?_) AllReadyH.nil
          go_simp
          refine (c9 _).mono ?_
          rintro e r6W5 ⟨rfl, r6h5⟩
          refine hK.out _ _ (below_next hHeld hHeld.size r6h5) (fun hHeld => ?_)
          clear hK K r6h5
          try simp only [pu]
          refine wpAnyH_ready (rs := [25]) (by kernel_rfl) (by simp) ?_
          refine AllReadyH.cons (i := 25) (o := ⟨(some 52), _, _, _, _, _⟩) rfl (fun K hK => ?_) AllReadyH.nil
          go_simp
          refine (c7 _).mono ?_
          rintro e r6W6 ⟨rfl, r6h6⟩
          refine hK.out _ _ (below_next hHeld hHeld.size r6h6) (fun hHeld => ?_)
          clear hK K r6h6
          try simp only [pu]
          refine wpAnyH_ready (rs := [27]) (by kernel_rfl) (by simp) ?_
          refine AllReadyH.cons (i := 27) (o := ⟨(some 54), _, _, _, _, _⟩) rfl (fun K hK => ?_) AllReadyH.nil
          go_simp
          refine (c8 _).mono ?_
          rintro e r6W7 ⟨rfl, r6h7⟩
          refine hK.out _ _ (below_next hHeld hHeld.size r6h7) (fun hHeld => ?_)
          clear hK K r6h7
          try simp only [pu]
          refine wpAnyH_take (i := 28) (oi := ⟨(some 55), _, _, _, _, _⟩) (v := .int .i64 (s1 + s2)) rfl (by kernel_rfl) (by kernel_rfl) (by kernel_rfl) (fun _ _ _ h => h) (Or.inl ⟨by rfl, ?yr6_28⟩) hHeld ?_
          case yr6_28 => (intro W0 hSw; go_simp; try simp only [n1.out]; try with_reducible rfl)
          try simp only [pu]
          refine wpAnyH_take (i := 29) (oi := ⟨(some 56), _, _, _, _, _⟩) (v := .bool true) rfl (by kernel_rfl) (by kernel_rfl) (by kernel_rfl) (fun _ _ _ h => h) (Or.inl ⟨by rfl, ?yr6_29⟩) hHeld ?_
          case yr6_29 => (intro W0 hSw; go_simp; first | exact n2.out | (simp only [decide_eq_true n2.out]; try with_reducible rfl))
          try simp only [pu]
          refine wpAnyH_take (i := 30) (oi := ⟨(some 57), _, _, _, _, _⟩) (v := .bool true) rfl (by kernel_rfl) (by kernel_rfl) (by kernel_rfl) (fun _ _ _ h => h) (Or.inl ⟨by rfl, ?yr6_30⟩) hHeld ?_
          case yr6_30 => (intro W0 hSw; go_simp; try with_reducible rfl)
          try simp only [pu]
          refine wpAnyH_take (i := 31) (oi := ⟨(some 58), _, _, _, _, _⟩) (v := .bool true) rfl (by kernel_rfl) (by kernel_rfl) (by kernel_rfl) (fun _ _ _ h => h) (Or.inl ⟨by rfl, ?yr6_31⟩) hHeld ?_
          case yr6_31 => (intro W0 hSw; go_simp; try with_reducible rfl)
          try simp only [pu]
          refine wpAnyH_take (i := 32) (oi := ⟨(some 59), _, _, _, _, _⟩) (v := .bool true) rfl (by kernel_rfl) (by kernel_rfl) (by kernel_rfl) (fun _ _ _ h => h) (Or.inl ⟨by rfl, ?yr6_32⟩) hHeld ?_
          case yr6_32 => (intro W0 hSw; go_simp; try with_reducible rfl)
          try simp only [pu]
          refine wpAnyH_take (i := 33) (oi := ⟨(some 60), _, _, _, _, _⟩) (v := .agg (i64v a).toArray) rfl (by kernel_rfl) (by kernel_rfl) (by kernel_rfl) (fun _ _ _ h => h) (yieldsIf_load_mid (by rfl) _ _ rfl w.heap.size 0 rfl (i64v a) _ (fun W' hW' => range_row ((hW'.block _ sA).trans gA.out)) (Try.underlying27) rfl (by rw [i64v_len, HA.out]; kernel_rfl)) hHeld ?_
          try simp only [pu]
          refine wpAnyH_take (i := 34) (oi := ⟨(some 61), _, _, _, _, _⟩) (v := .agg (i64v b).toArray) rfl (by kernel_rfl) (by kernel_rfl) (by kernel_rfl) (fun _ _ _ h => h) (yieldsIf_load_mid (by rfl) _ _ rfl (w.heap.size + 1) 0 rfl (i64v b) _ (fun W' hW' => range_row ((hW'.block _ sB).trans gB.out)) (Try.underlying27) rfl (by rw [i64v_len, HB.out]; kernel_rfl)) hHeld ?_
          try simp only [pu]
          refine wpAnyH_take (i := 37) (oi := ⟨(some 64), _, _, _, _, _⟩) (v := .agg (i64v b).toArray) rfl (by kernel_rfl) (by kernel_rfl) (by kernel_rfl) (fun _ _ _ h => h) (yieldsIf_load_mid (by rfl) _ _ rfl (w.heap.size + 1) 0 rfl (i64v b) _ (fun W' hW' => range_row ((hW'.block _ sB).trans gB.out)) (Try.underlying27) rfl (by rw [i64v_len, HB.out]; kernel_rfl)) hHeld ?_
          try simp only [pu]
          refine wpAnyH_take (i := 38) (oi := ⟨(some 65), _, _, _, _, _⟩) (v := .agg (i64v a).toArray) rfl (by kernel_rfl) (by kernel_rfl) (by kernel_rfl) (fun _ _ _ h => h) (yieldsIf_load_mid (by rfl) _ _ rfl w.heap.size 0 rfl (i64v a) _ (fun W' hW' => range_row ((hW'.block _ sA).trans gA.out)) (Try.underlying27) rfl (by rw [i64v_len, HA.out]; kernel_rfl)) hHeld ?_
          try simp only [pu]
          refine wpAnyH_ready (rs := [35]) (by kernel_rfl) (by simp) ?_
          refine AllReadyH.cons (i := 35) (o := ⟨(some 62), _, _, _, _, _⟩) rfl (fun K hK => ?_) AllReadyH.nil
          go_simp
          refine (c10 _).mono ?_
          rintro e r6W8 ⟨rfl, r6h8⟩
          refine hK.out _ _ (below_next hHeld hHeld.size r6h8) (fun hHeld => ?_)
          clear hK K r6h8
          try simp only [pu]
          refine wpAnyH_take (i := 36) (oi := ⟨(some 63), _, _, _, _, _⟩) (v := .bool o5) rfl (by kernel_rfl) (by kernel_rfl) (by kernel_rfl) (fun _ _ _ h => h) (Or.inl ⟨by rfl, ?yr6_36⟩) hHeld ?_
          case yr6_36 => (intro W0 hSw; go_simp; try simp only [m5.out]; try with_reducible rfl)
          try simp only [pu]
          refine wpAnyH_ready (rs := [39]) (by kernel_rfl) (by simp) ?_
          refine AllReadyH.cons (i := 39) (o := ⟨(some 66), _, _, _, _, _⟩) rfl (fun K hK => ?_) AllReadyH.nil
          go_simp
          refine (c11 _).mono ?_
          rintro e r6W9 ⟨rfl, r6h9⟩
          refine hK.out _ _ (below_next hHeld hHeld.size r6h9) (fun hHeld => ?_)
          clear hK K r6h9
          try simp only [pu]
          refine wpAnyH_take (i := 40) (oi := ⟨(some 67), _, _, _, _, _⟩) (v := .bool o5) rfl (by kernel_rfl) (by kernel_rfl) (by kernel_rfl) (fun _ _ _ h => h) (Or.inl ⟨by rfl, ?yr6_40⟩) hHeld ?_
          case yr6_40 => (intro W0 hSw; go_simp; try simp only [m6.out]; try with_reducible rfl)
          try simp only [pu]
          refine wpAnyH_take (i := 41) (oi := ⟨(some 68), _, _, _, _, _⟩) (v := .bool true) rfl (by kernel_rfl) (by kernel_rfl) (by kernel_rfl) (fun _ _ _ h => h) (Or.inl ⟨by rfl, ?yr6_41⟩) hHeld ?_
          case yr6_41 => (intro W0 hSw; go_simp; try simp; try with_reducible rfl)
          try simp only [pu]
          refine wpAnyH_take (i := 42) (oi := ⟨(some 69), _, _, _, _, _⟩) (v := .bool true) rfl (by kernel_rfl) (by kernel_rfl) (by kernel_rfl) (fun _ _ _ h => h) (Or.inl ⟨by rfl, ?yr6_42⟩) hHeld ?_
          case yr6_42 => (intro W0 hSw; go_simp; try with_reducible rfl)
          try simp only [pu]
          refine wpAnyH_take (i := 43) (oi := ⟨(some 6), _, _, _, _, _⟩) (v := .bool true) rfl (by kernel_rfl) (by kernel_rfl) (by kernel_rfl) (fun _ _ _ h => h) (Or.inl ⟨by rfl, ?yr6_43⟩) hHeld ?_
          case yr6_43 => (intro W0 hSw; go_simp; try with_reducible rfl)
          try simp only [pu]
          refine wpAnyH_done (by kernel_rfl) ?_ _
          go_wp2
          go_ret
          exact ⟨rfl, below_next hbV hbV.size hHeld⟩
end Go.Proofs.Ytkenldlhkmocjaa
