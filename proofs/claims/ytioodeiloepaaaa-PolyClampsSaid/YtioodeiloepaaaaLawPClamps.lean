/-
  PolyClamps: the law's Go text returns true, whatever the key and the bytes. Conditions: none beyond the row's own.
-/
import Derived.Test.YtioodeiloepaaaaPlStp
import Derived.Test.YtioodeiloepaaaaEqB
namespace Go.Proofs.Ytioodeiloepaaaa
open Go.RowKit

theorem built_n16 : Try.prog.built 23 [] = some (bv z16).toArray := by kernel_rfl
theorem tag_clamped (key b : List UInt8) (hk : key.length = 32) : tagOf (clampOf (key.take 16) ++ key.drop 16) b = tagOf key b := by
  have e0 : (clampOf (key.take 16)).length = 16 := by rw [clampOf_len]; simp [hk]
  have e1 : (clampOf (key.take 16) ++ key.drop 16).take 16 = clampOf (key.take 16) := by rw [List.take_append_of_le_length (by omega), List.take_of_length_le (by omega)]
  have e2 : (clampOf (key.take 16) ++ key.drop 16).drop 16 = key.drop 16 := by rw [List.drop_append_of_le_length (by omega), List.drop_of_length_le (by omega), List.nil_append]
  unfold tagOf rOf
  rw [e1, e2, clampOf_twice]

set_option maxRecDepth 100000 in
set_option maxHeartbeats 2000000 in
theorem walk_PolyClamps (w : World) (key : List UInt8) (hk : key.length = 32) (A : Option Addr) (b : List UInt8) (n c : Nat) (hb : Byt w w.heap.size A b) (hl : b.length = n) (hc : n ≤ c) :
    Calls Try.prog 5 #[.agg (bv key).toArray, .slice A n c] w fun e w' => e = .returned (.bool true) ∧ Below w.heap.size w w' := by
  have hz16 := zero_b16
  have hzw := zero_w32
  obtain ⟨W, hW, hgK, hbW, hsW⟩ := one_new w (bv key).toArray 26
  have HW := Lib.hid hW
  have HK := Lib.hid hk
  have HL := Lib.hid hl
  have HZ16 := Lib.hid (show (bv z16).toArray.size = 16 from rfl)
  have HKS := Lib.hid (show (bv key).toArray.size = 32 by simp [bv_len, hk])
  have hs1 : w.heap.size < W.heap.size := by have := hsW.out; omega
  have hbW' : Byt W W.heap.size A b := (hb.below hbW).up hbW.size
  clear hW hk hl hb
  go_enter Try.func5, Try.ntmps5
  go_upto_region 1 with fail
  rw [HW.out]
  go_wp2_with fail
  refine (awake5_any W).mono ?_
  rintro e w1 ⟨rfl, hb1⟩
  have hgK1 : Hid (w1.heap[w.heap.size]? = some (.cells (bv key).toArray 26 (0, 0))) := (hb1.block _ hs1).trans hgK.out
  have hbt1 : Byt w1 w1.heap.size A b := (hbW'.below hb1).up hb1.size
  have hbw1 : Below w.heap.size w w1 := below_next hbW hbW.size hb1
  have hs2 : w.heap.size < w1.heap.size := by have := hb1.size; omega
  clear hgK hbW' hb1
  by_cases hbig : 200 < n
  · have hbi : (200 : Int) < (n : Int) := by omega
    go_wp2
    go_ret
    exact ⟨rfl, hbw1⟩
  · have hbi : ¬ (200 : Int) < (n : Int) := by omega
    go_wp2_with (first
      | (with_reducible refine wpList_build_to rfl 23 _ rfl [] (by rfl) _ built_n16 ?_)
      | ((with_reducible refine wpList_store_row rfl 23 (.tmp 5) (.tmp 13) rfl w1.heap.size (bv z16).toArray rfl rfl 23 _ (heap_alloc_new _ _) (by rw [HZ16.out]; kernel_rfl) (by rw [HZ16.out]) (all_oneCell_toArray (bv_one _)) ?_); rw [World.setRow_alloc_new]))
    have gr := Lib.hid (heap_alloc_new w1 (.cells (bv z16).toArray 23))
    have hb2 : Below w1.heap.size w1 (w1.alloc (.cells (bv z16).toArray 23)) := (Below.refl _ _).alloc (Nat.le_refl _) _
    have lr2 : w1.heap.size < (w1.alloc (.cells (bv z16).toArray 23)).heap.size := by simp
    generalize w1.alloc (.cells (bv z16).toArray 23) = w2 at *
    have hgK2 : Hid (w2.heap[w.heap.size]? = some (.cells (bv key).toArray 26 (0, 0))) := (hb2.block _ hs2).trans hgK1.out
    have hbt2 : Byt w2 w1.heap.size A b := hbt1.below hb2
    have hbw2 : Below w.heap.size w w2 := below_next hbw1 hbw1.size hb2
    obtain ⟨R, hR⟩ : ∃ R, R = w1.heap.size := ⟨_, rfl⟩
    rw [← hR] at gr lr2 hs2 hbt2 ⊢
    clear hR hb2 hgK1 hbt1 hbw1
    have hcr := cut_all Try.underlying23 Try.sizeByte R 0 (by decide)
    have hck := cut_lh Try.underlying26 Try.sizeByte w.heap.size 0 0 16 0 16 rfl rfl (by decide) (by decide) (by decide)
    have hbk := byt_mid hgK2.out 0 16
    rw [List.drop_zero] at hbk
    have hkl := Lib.hid (show (key.take 16).length = 16 by simp [HK.out])
    go_region_law ((refine step_copy_but rfl (.tmp 14) (.tmp 15) 27 rfl 5 Try.underlying27 Try.sizeByte R 0 16 16 16 32 (some ⟨w.heap.size, 0, none⟩) (by rfl) (by rfl) (bv z16) 23 gr.out (key.take 16) w2.heap.size hbk hkl.out (by decide) (by decide) w2 (But.refl R w2).drew ?_; intro w3 hg3 hb3))
    have gr3 : Hid (w3.heap[R]? = some (.cells (bv (key.take 16)).toArray 23 (0, 0))) := by
      have h1 := hg3.out
      rw [List.take_of_length_le (show (key.take 16).length ≤ 16 by rw [hkl.out]; exact Nat.le_refl _), splice_all _ _ (by rw [hkl.out]; rfl)] at h1
      exact h1
    have hgK3 : Hid (w3.heap[w.heap.size]? = some (.cells (bv key).toArray 26 (0, 0))) := (hb3.block _ (by omega) (by intro e; injection e; omega)).trans hgK2.out
    have hbw3 : Below w.heap.size w w3 := But.below hbw2 hb3 (by omega) hbw2.size
    have hbt3 : Byt w3 R A b := hbt2.but hb3 (by omega) (Nat.le_refl _)
    have hs3 : R < w3.heap.size := (Array.getElem?_eq_some_iff.1 gr3.out).1
    have HRS := Lib.hid (show (bv (key.take 16)).toArray.size = 16 by simp [bv_len, hkl.out])
    have hclamp := clamp_any w3 (key.take 16) hkl.out
    obtain ⟨cl, hcl⟩ : ∃ cl, cl = clampOf (key.take 16) := ⟨_, rfl⟩
    have HCL := vlt hcl
    have hcll := Lib.hid (show cl.length = 16 by rw [hcl, clampOf_len]; exact hkl.out)
    rw [← hcl] at hclamp
    have HCS := Lib.hid (show (bv cl).toArray.size = 16 by simp [bv_len, hcll.out])
    clear hcr hck hbk hgK2 hbt2 hbw2 hb3 hg3 gr hcl hkl
    obtain ⟨k0, hk0⟩ : ∃ k0, k0 = key.take 16 := ⟨_, rfl⟩
    rw [← hk0] at hclamp gr3 HRS
    have HK0 := vlt hk0
    clear hk0
    go_wp2_with (with_reducible refine wpList_load_row rfl 23 (.tmp 5) rfl R rfl 23 (bv k0).toArray (0, 0) _ gr3.out Try.underlying23 rfl (by rw [HRS.out]; kernel_rfl) ?_)
    refine hclamp.mono ?_
    rintro e w4 ⟨rfl, hb4⟩
    have hgK4 : Hid (w4.heap[w.heap.size]? = some (.cells (bv key).toArray 26 (0, 0))) := (hb4.block _ (by omega)).trans hgK3.out
    have hbt4 : Byt w4 R A b := hbt3.keep fun p hp => hb4.cell (by omega)
    have hbw4 : Below w.heap.size w w4 := below_next hbw3 hbw3.size hb4
    clear hclamp gr3 hgK3 hbt3 hbw3
    go_upto_region 8 with ((with_reducible refine wpList_store_row rfl 23 (.tmp 6) (.tmp 18) rfl w4.heap.size (bv cl).toArray rfl rfl 23 _ (heap_alloc_new _ _) (by rw [HCS.out]; kernel_rfl) (by rw [HCS.out]; exact HZ16.out) (all_oneCell_toArray (bv_one _)) ?_); rw [World.setRow_alloc_new])
    have gc := Lib.hid (heap_alloc_new w4 (.cells (bv cl).toArray 23))
    have hb5 : Below w4.heap.size w4 (w4.alloc (.cells (bv cl).toArray 23)) := (Below.refl _ _).alloc (Nat.le_refl _) _
    have lc5 : w4.heap.size < (w4.alloc (.cells (bv cl).toArray 23)).heap.size := by simp
    generalize w4.alloc (.cells (bv cl).toArray 23) = w5 at *
    have hgK5 : Hid (w5.heap[w.heap.size]? = some (.cells (bv key).toArray 26 (0, 0))) := (hb5.block _ (by have := hb4.size; omega)).trans hgK4.out
    have hbt5 : Byt w5 R A b := hbt4.keep fun p hp => hb5.cell (by have := hb4.size; omega)
    have hbw5 : Below w.heap.size w w5 := below_next hbw4 hbw4.size hb5
    obtain ⟨C, hC⟩ : ∃ C, C = w4.heap.size := ⟨_, rfl⟩
    have hRC : R < C := by have := hb4.size; omega
    rw [← hC] at gc lc5 ⊢
    have HZ32 := Lib.hid (show (bv z32).toArray.size = 32 from rfl)
    clear hC hb4 hb5 hgK4 hbt4 hbw4
    go_upto_region 9 with (first
      | (with_reducible refine wpList_load_row rfl 26 (.tmp 2) rfl w.heap.size rfl 26 (bv key).toArray (0, 0) _ hgK5.out Try.underlying26 rfl (by rw [HKS.out]; kernel_rfl) ?_)
      | ((with_reducible refine wpList_store_row rfl 26 (.tmp 7) (.tmp 19) rfl w5.heap.size (bv key).toArray rfl rfl 26 _ (heap_alloc_new _ _) (by rw [HKS.out]; kernel_rfl) (by rw [HKS.out]; exact HZ32.out) (all_oneCell_toArray (bv_one _)) ?_); rw [World.setRow_alloc_new]))
    have gk := Lib.hid (heap_alloc_new w5 (.cells (bv key).toArray 26))
    have hb6 : Below w5.heap.size w5 (w5.alloc (.cells (bv key).toArray 26)) := (Below.refl _ _).alloc (Nat.le_refl _) _
    have lk6 : w5.heap.size < (w5.alloc (.cells (bv key).toArray 26)).heap.size := by simp
    generalize w5.alloc (.cells (bv key).toArray 26) = w6 at *
    have hgK6 : Hid (w6.heap[w.heap.size]? = some (.cells (bv key).toArray 26 (0, 0))) := (hb6.block _ (by omega)).trans hgK5.out
    have gc6 : Hid (w6.heap[C]? = some (.cells (bv cl).toArray 23 (0, 0))) := (hb6.block _ lc5).trans gc.out
    have hbt6 : Byt w6 R A b := hbt5.keep fun p hp => hb6.cell (by omega)
    have hbw6 : Below w.heap.size w w6 := below_next hbw5 hbw5.size hb6
    obtain ⟨D, hD⟩ : ∃ D, D = w5.heap.size := ⟨_, rfl⟩
    have hCD : C < D := by omega
    have hwD : w.heap.size ≤ D := by omega
    rw [← hD] at gk lk6 ⊢
    clear hD hb6 hgK5 hbt5 hbw5 gc
    have hcd := cut_all Try.underlying26 Try.sizeByte D 0 (by decide)
    have hcc := cut_all Try.underlying23 Try.sizeByte C 0 (by decide)
    have hbc := byt_row gc6.out
    go_wp2_with fail
    go_region_law ((refine step_copy_but rfl (.tmp 20) (.tmp 21) 27 rfl 5 Try.underlying27 Try.sizeByte D 0 32 32 16 16 (some ⟨C, 0, none⟩) (by rfl) (by rfl) (bv key) 26 gk.out cl w6.heap.size hbc hcll.out (by decide) (by rw [bv_len, HK.out]; decide) w6 (But.refl D w6).drew ?_; intro w7 hg7 hb7))
    obtain ⟨k1, hk1⟩ : ∃ k1, k1 = cl ++ key.drop 16 := ⟨_, rfl⟩
    have gk7 : Hid (w7.heap[D]? = some (.cells (bv k1).toArray 26 (0, 0))) := by
      have h1 := hg7.out
      rw [List.take_of_length_le (show cl.length ≤ 32 by rw [hcll.out]; decide), splice_bv, List.take_zero, List.nil_append, hcll.out, Nat.zero_add, ← hk1] at h1
      exact h1
    have HK1 := Lib.hid (show k1.length = 32 by rw [hk1]; simp [hcll.out, HK.out])
    have hgK7 : Hid (w7.heap[w.heap.size]? = some (.cells (bv key).toArray 26 (0, 0))) := (hb7.block _ (by omega) (by intro e; injection e; omega)).trans hgK6.out
    have hbt7 : Byt w7 R A b := hbt6.but hb7 (by omega) (by omega)
    have hbw7 : Below w.heap.size w w7 := But.below hbw6 hb7 hwD hbw6.size
    have hs7 : D < w7.heap.size := (Array.getElem?_eq_some_iff.1 gk7.out).1
    obtain ⟨T, hT⟩ : ∃ T, T = tagOf key b := ⟨_, rfl⟩
    have hTl : T.length = 16 := by rw [hT]; exact tagOf_len _ _
    have hT1 := vlt (show tagOf k1 [b].flatten = T by rw [hT, hk1, HCL.out]; simpa using tag_clamped key b HK.out)
    have hT2 := vlt (show tagOf key [b].flatten = T by rw [hT]; simp)
    have hbig : [b].flatten.length ≤ 288230376151711744 := by simp [HL.out]; omega
    have heq := eql_bytes_same Try.underlying23 Try.underlying5 Try.sizeByte T hTl
    have hrK := Lib.hid (range_byt (byt_row hgK7.out))
    have hrD := Lib.hid (range_byt (byt_row gk7.out))
    have hl32 := Lib.hid (show (bv key).length = 32 by rw [bv_len]; exact HK.out)
    have hd32 := Lib.hid (show (bv k1).length = 32 by rw [bv_len]; exact HK1.out)
    have hbV : Byt w7.drew w7.drew.heap.size A b := hbt7.up (by show R ≤ w7.heap.size; omega)
    have hBV : ∀ W', Below w7.heap.size w7 W' → Below w.heap.size w W' := fun W' h => below_next hbw7 hbw7.size h
    clear hT hTl hg7 hgK6 hbt6 hbw6 hb7 hk1 hcd hcc hbc gc6 HCL
    go_wp2_with fail
    refine wp_region_held_drew (S := (fun W' => Below w7.heap.size w7 W' ∧ W'.rangeAt w.heap.size 0 (bv key) ∧ W'.rangeAt D 0 (bv k1))) (by kernel_rfl) (⟨(Below.refl _ _).drew, hrK.out, hrD.out⟩) (fun hHeld => ?_)
    refine wpAnyH_take (i := 0) (oi := ⟨(some 23), _, _, _, _, _⟩) (v := _) rfl (by kernel_rfl) (by kernel_rfl) (by kernel_rfl) (fun _ _ _ h => h) (yieldsIf_load_mid (by rfl) _ _ rfl D 0 rfl (bv k1) _ ((fun _ h => h.2.2)) (Try.underlying26) (rfl) (by rw [hd32.out]; kernel_rfl)) hHeld ?_
    try simp only [Act.put, List.setIfInBounds_toArray, List.set_cons_zero, List.set_cons_succ]
    refine wpAnyH_take (i := 1) (oi := ⟨(some 24), _, _, _, _, _⟩) (v := ?vq1_0) rfl (by kernel_rfl) (by kernel_rfl) (by kernel_rfl) (fun _ _ _ h => h) (Or.inl ⟨by rfl, ?yq1_0⟩) hHeld ?_
    case yq1_0 => (intro W0 hSw; go_simp; try with_reducible rfl)
    try simp only [Act.put, List.setIfInBounds_toArray, List.set_cons_zero, List.set_cons_succ]
    refine wpAnyH_take (i := 4) (oi := ⟨(some 27), _, _, _, _, _⟩) (v := _) rfl (by kernel_rfl) (by kernel_rfl) (by kernel_rfl) (fun _ _ _ h => h) (yieldsIf_load_mid (by rfl) _ _ rfl w.heap.size 0 rfl (bv key) _ ((fun _ h => h.2.1)) (Try.underlying26) (rfl) (by rw [hl32.out]; kernel_rfl)) hHeld ?_
    try simp only [Act.put, List.setIfInBounds_toArray, List.set_cons_zero, List.set_cons_succ]
    refine wpAnyH_take (i := 5) (oi := ⟨(some 28), _, _, _, _, _⟩) (v := ?vq1_1) rfl (by kernel_rfl) (by kernel_rfl) (by kernel_rfl) (fun _ _ _ h => h) (Or.inl ⟨by rfl, ?yq1_1⟩) hHeld ?_
    case yq1_1 => (intro W0 hSw; go_simp; try with_reducible rfl)
    try simp only [Act.put, List.setIfInBounds_toArray, List.set_cons_zero, List.set_cons_succ]
    refine wpAnyH_ready (rs := [2, 6]) (by kernel_rfl) (by simp) ?_
    refine AllReadyH.cons (i := 2) (o := ⟨(some 25), _, _, _, _, _⟩) rfl (fun K hK => ?_) (AllReadyH.cons (i := 6) (o := ⟨(some 29), _, _, _, _, _⟩) rfl (fun K hK => ?_) AllReadyH.nil)
    · refine step_one (by rfl) (.tmp 24) rfl A b n c (by rfl) (hbV) HL.out hc ?_
      intro D2 W1 f2 g1
      refine hK.out _ _ (⟨below_next hHeld.1 hHeld.1.size g1, range_below hHeld.2.1 (by have := hHeld.1.size; omega) g1, range_below hHeld.2.2 (by have := hHeld.1.size; omega) g1⟩) (fun hHeld => ?_)
      clear hK K
      try simp only [Act.put, List.setIfInBounds_toArray, List.set_cons_zero, List.set_cons_succ]
      refine wpAnyH_ready (rs := [3, 6]) (by kernel_rfl) (by simp) ?_
      refine AllReadyH.cons (i := 3) (o := ⟨(some 26), _, _, _, _, _⟩) rfl (fun K hK => ?_) (AllReadyH.cons (i := 6) (o := ⟨(some 29), _, _, _, _, _⟩) rfl (fun K hK => ?_) AllReadyH.nil)
      · refine step_tag (by rfl) (.tmp 23) (.tmp 25) rfl k1 D2 [b] 1 1 (by rfl) (by rfl) HK1.out (f2) rfl hbig (by decide) ?_
        intro W2 g2
        rw [hT1.out]
        refine hK.out _ _ (⟨below_next hHeld.1 hHeld.1.size g2, range_below hHeld.2.1 (by have := hHeld.1.size; omega) g2, range_below hHeld.2.2 (by have := hHeld.1.size; omega) g2⟩) (fun hHeld => ?_)
        clear hK K
        try simp only [Act.put, List.setIfInBounds_toArray, List.set_cons_zero, List.set_cons_succ]
        refine wpAnyH_ready (rs := [6]) (by kernel_rfl) (by simp) ?_
        refine AllReadyH.cons (i := 6) (o := ⟨(some 29), _, _, _, _, _⟩) rfl (fun K hK => ?_) AllReadyH.nil
        refine step_one (by rfl) (.tmp 28) rfl A b n c (by rfl) (((hbV).next g1).next g2) HL.out hc ?_
        intro D6 W3 f6 g3
        refine hK.out _ _ (⟨below_next hHeld.1 hHeld.1.size g3, range_below hHeld.2.1 (by have := hHeld.1.size; omega) g3, range_below hHeld.2.2 (by have := hHeld.1.size; omega) g3⟩) (fun hHeld => ?_)
        clear hK K
        try simp only [Act.put, List.setIfInBounds_toArray, List.set_cons_zero, List.set_cons_succ]
        refine wpAnyH_ready (rs := [7]) (by kernel_rfl) (by simp) ?_
        refine AllReadyH.cons (i := 7) (o := ⟨(some 30), _, _, _, _, _⟩) rfl (fun K hK => ?_) AllReadyH.nil
        refine step_tag (by rfl) (.tmp 27) (.tmp 29) rfl key D6 [b] 1 1 (by rfl) (by rfl) HK.out (f6) rfl hbig (by decide) ?_
        intro W4 g4
        rw [hT2.out]
        refine hK.out _ _ (⟨below_next hHeld.1 hHeld.1.size g4, range_below hHeld.2.1 (by have := hHeld.1.size; omega) g4, range_below hHeld.2.2 (by have := hHeld.1.size; omega) g4⟩) (fun hHeld => ?_)
        clear hK K
        try simp only [Act.put, List.setIfInBounds_toArray, List.set_cons_zero, List.set_cons_succ]
        refine wpAnyH_take (i := 8) (oi := ⟨(some 31), _, _, _, _, _⟩) (v := ?vt_2_3_6_7_8) rfl (by kernel_rfl) (by kernel_rfl) (by kernel_rfl) (fun _ _ _ h => h) (Or.inl ⟨by rfl, ?yt_2_3_6_7_8⟩) hHeld ?_
        case yt_2_3_6_7_8 => (intro W0 hSw; go_simp; try with_reducible rfl)
        try simp only [Act.put, List.setIfInBounds_toArray, List.set_cons_zero, List.set_cons_succ]
        refine wpAnyH_take (i := 9) (oi := ⟨(some 4), _, _, _, _, _⟩) (v := ?vt_2_3_6_7_9) rfl (by kernel_rfl) (by kernel_rfl) (by kernel_rfl) (fun _ _ _ h => h) (Or.inl ⟨by rfl, ?yt_2_3_6_7_9⟩) hHeld ?_
        case yt_2_3_6_7_9 => (intro W0 hSw; go_simp; try with_reducible rfl)
        try simp only [Act.put, List.setIfInBounds_toArray, List.set_cons_zero, List.set_cons_succ]
        refine wpAnyH_done (by kernel_rfl) ?_ _
        go_wp2_with fail
        go_ret
        exact ⟨rfl, hBV _ hHeld.1⟩
      · refine step_one (by rfl) (.tmp 28) rfl A b n c (by rfl) ((hbV).next g1) HL.out hc ?_
        intro D6 W2 f6 g2
        refine hK.out _ _ (⟨below_next hHeld.1 hHeld.1.size g2, range_below hHeld.2.1 (by have := hHeld.1.size; omega) g2, range_below hHeld.2.2 (by have := hHeld.1.size; omega) g2⟩) (fun hHeld => ?_)
        clear hK K
        try simp only [Act.put, List.setIfInBounds_toArray, List.set_cons_zero, List.set_cons_succ]
        refine wpAnyH_ready (rs := [3]) (by kernel_rfl) (by simp) ?_
        refine AllReadyH.cons (i := 3) (o := ⟨(some 26), _, _, _, _, _⟩) rfl (fun K hK => ?_) AllReadyH.nil
        refine step_tag (by rfl) (.tmp 23) (.tmp 25) rfl k1 D2 [b] 1 1 (by rfl) (by rfl) HK1.out ((f2).next g2) rfl hbig (by decide) ?_
        intro W3 g3
        rw [hT1.out]
        refine hK.out _ _ (⟨below_next hHeld.1 hHeld.1.size g3, range_below hHeld.2.1 (by have := hHeld.1.size; omega) g3, range_below hHeld.2.2 (by have := hHeld.1.size; omega) g3⟩) (fun hHeld => ?_)
        clear hK K
        try simp only [Act.put, List.setIfInBounds_toArray, List.set_cons_zero, List.set_cons_succ]
        refine wpAnyH_ready (rs := [7]) (by kernel_rfl) (by simp) ?_
        refine AllReadyH.cons (i := 7) (o := ⟨(some 30), _, _, _, _, _⟩) rfl (fun K hK => ?_) AllReadyH.nil
        refine step_tag (by rfl) (.tmp 27) (.tmp 29) rfl key D6 [b] 1 1 (by rfl) (by rfl) HK.out ((f6).next g3) rfl hbig (by decide) ?_
        intro W4 g4
        rw [hT2.out]
        refine hK.out _ _ (⟨below_next hHeld.1 hHeld.1.size g4, range_below hHeld.2.1 (by have := hHeld.1.size; omega) g4, range_below hHeld.2.2 (by have := hHeld.1.size; omega) g4⟩) (fun hHeld => ?_)
        clear hK K
        try simp only [Act.put, List.setIfInBounds_toArray, List.set_cons_zero, List.set_cons_succ]
        refine wpAnyH_take (i := 8) (oi := ⟨(some 31), _, _, _, _, _⟩) (v := ?vt_2_6_3_7_8) rfl (by kernel_rfl) (by kernel_rfl) (by kernel_rfl) (fun _ _ _ h => h) (Or.inl ⟨by rfl, ?yt_2_6_3_7_8⟩) hHeld ?_
        case yt_2_6_3_7_8 => (intro W0 hSw; go_simp; try with_reducible rfl)
        try simp only [Act.put, List.setIfInBounds_toArray, List.set_cons_zero, List.set_cons_succ]
        refine wpAnyH_take (i := 9) (oi := ⟨(some 4), _, _, _, _, _⟩) (v := ?vt_2_6_3_7_9) rfl (by kernel_rfl) (by kernel_rfl) (by kernel_rfl) (fun _ _ _ h => h) (Or.inl ⟨by rfl, ?yt_2_6_3_7_9⟩) hHeld ?_
        case yt_2_6_3_7_9 => (intro W0 hSw; go_simp; try with_reducible rfl)
        try simp only [Act.put, List.setIfInBounds_toArray, List.set_cons_zero, List.set_cons_succ]
        refine wpAnyH_done (by kernel_rfl) ?_ _
        go_wp2_with fail
        go_ret
        exact ⟨rfl, hBV _ hHeld.1⟩
    · refine step_one (by rfl) (.tmp 28) rfl A b n c (by rfl) (hbV) HL.out hc ?_
      intro D6 W1 f6 g1
      refine hK.out _ _ (⟨below_next hHeld.1 hHeld.1.size g1, range_below hHeld.2.1 (by have := hHeld.1.size; omega) g1, range_below hHeld.2.2 (by have := hHeld.1.size; omega) g1⟩) (fun hHeld => ?_)
      clear hK K
      try simp only [Act.put, List.setIfInBounds_toArray, List.set_cons_zero, List.set_cons_succ]
      refine wpAnyH_ready (rs := [2]) (by kernel_rfl) (by simp) ?_
      refine AllReadyH.cons (i := 2) (o := ⟨(some 25), _, _, _, _, _⟩) rfl (fun K hK => ?_) AllReadyH.nil
      refine step_one (by rfl) (.tmp 24) rfl A b n c (by rfl) ((hbV).next g1) HL.out hc ?_
      intro D2 W2 f2 g2
      refine hK.out _ _ (⟨below_next hHeld.1 hHeld.1.size g2, range_below hHeld.2.1 (by have := hHeld.1.size; omega) g2, range_below hHeld.2.2 (by have := hHeld.1.size; omega) g2⟩) (fun hHeld => ?_)
      clear hK K
      try simp only [Act.put, List.setIfInBounds_toArray, List.set_cons_zero, List.set_cons_succ]
      refine wpAnyH_ready (rs := [3]) (by kernel_rfl) (by simp) ?_
      refine AllReadyH.cons (i := 3) (o := ⟨(some 26), _, _, _, _, _⟩) rfl (fun K hK => ?_) AllReadyH.nil
      refine step_tag (by rfl) (.tmp 23) (.tmp 25) rfl k1 D2 [b] 1 1 (by rfl) (by rfl) HK1.out (f2) rfl hbig (by decide) ?_
      intro W3 g3
      rw [hT1.out]
      refine hK.out _ _ (⟨below_next hHeld.1 hHeld.1.size g3, range_below hHeld.2.1 (by have := hHeld.1.size; omega) g3, range_below hHeld.2.2 (by have := hHeld.1.size; omega) g3⟩) (fun hHeld => ?_)
      clear hK K
      try simp only [Act.put, List.setIfInBounds_toArray, List.set_cons_zero, List.set_cons_succ]
      refine wpAnyH_ready (rs := [7]) (by kernel_rfl) (by simp) ?_
      refine AllReadyH.cons (i := 7) (o := ⟨(some 30), _, _, _, _, _⟩) rfl (fun K hK => ?_) AllReadyH.nil
      refine step_tag (by rfl) (.tmp 27) (.tmp 29) rfl key D6 [b] 1 1 (by rfl) (by rfl) HK.out (((f6).next g2).next g3) rfl hbig (by decide) ?_
      intro W4 g4
      rw [hT2.out]
      refine hK.out _ _ (⟨below_next hHeld.1 hHeld.1.size g4, range_below hHeld.2.1 (by have := hHeld.1.size; omega) g4, range_below hHeld.2.2 (by have := hHeld.1.size; omega) g4⟩) (fun hHeld => ?_)
      clear hK K
      try simp only [Act.put, List.setIfInBounds_toArray, List.set_cons_zero, List.set_cons_succ]
      refine wpAnyH_take (i := 8) (oi := ⟨(some 31), _, _, _, _, _⟩) (v := ?vt_6_2_3_7_8) rfl (by kernel_rfl) (by kernel_rfl) (by kernel_rfl) (fun _ _ _ h => h) (Or.inl ⟨by rfl, ?yt_6_2_3_7_8⟩) hHeld ?_
      case yt_6_2_3_7_8 => (intro W0 hSw; go_simp; try with_reducible rfl)
      try simp only [Act.put, List.setIfInBounds_toArray, List.set_cons_zero, List.set_cons_succ]
      refine wpAnyH_take (i := 9) (oi := ⟨(some 4), _, _, _, _, _⟩) (v := ?vt_6_2_3_7_9) rfl (by kernel_rfl) (by kernel_rfl) (by kernel_rfl) (fun _ _ _ h => h) (Or.inl ⟨by rfl, ?yt_6_2_3_7_9⟩) hHeld ?_
      case yt_6_2_3_7_9 => (intro W0 hSw; go_simp; try with_reducible rfl)
      try simp only [Act.put, List.setIfInBounds_toArray, List.set_cons_zero, List.set_cons_succ]
      refine wpAnyH_done (by kernel_rfl) ?_ _
      go_wp2_with fail
      go_ret
      exact ⟨rfl, hBV _ hHeld.1⟩
end Go.Proofs.Ytioodeiloepaaaa
