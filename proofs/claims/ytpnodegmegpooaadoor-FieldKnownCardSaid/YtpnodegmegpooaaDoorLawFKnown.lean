/-
  FieldKnown: the law's Go text returns true, whatever the input. Conditions: none beyond the row's own.
-/
import Derived.Test.YtpnodegmegpooaaDoorFdY
import Derived.Test.YtpnodegmegpooaaDoorNumC
namespace Go.Proofs.YtpnodegmegpooaaDoor
open Go.RowKit

set_option maxRecDepth 100000 in
set_option maxHeartbeats 4000000 in
theorem walk_FieldKnown (w : World) (hla : Laid w) :
    Calls Tryd.prog 3 #[] w fun e w' => e = .returned (.bool true) ∧ Below w.heap.size w w' := by
  have hzw := zero_word
  have hnz := bv_z32_ne
  have HZL : Hid (z32.length = 32) := z32_len
  obtain ⟨KD, dKD, HKD, lKD, wKD⟩ := const_word 2 (by decide)
  have hsKD := set_w2
  rw [← dKD] at hsKD
  clear dKD
  obtain ⟨KQ, dKQ, HKQ, lKQ, wKQ⟩ := const_word 4 (by decide)
  have hsKQ := set_w4
  rw [← dKQ] at hsKQ
  clear dKQ
  obtain ⟨KL, dKL, HKL, lKL, wKL⟩ := const_word 37 (by decide)
  have hsKL := set_w37
  rw [← dKL] at hsKL
  clear dKL
  obtain ⟨KT, dKT, HKT, lKT, wKT⟩ := const_word 3 (by decide)
  have hsKT := set_w3
  rw [← dKT] at hsKT
  clear dKT
  obtain ⟨KF, dKF, HKF, lKF, wKF⟩ := const_word 5 (by decide)
  have hsKF := set_w5
  rw [← dKF] at hsKF
  clear dKF
  obtain ⟨KC, dKC, HKC, lKC, wKC⟩ := const_word 243 (by decide)
  have hsKC := set_w243
  rw [← dKC] at hsKC
  clear dKC
  obtain ⟨KO, dKO, HKO, lKO, wKO⟩ := const_word 1 (by decide)
  have hsKO := set_w1
  rw [← dKO] at hsKO
  clear dKO
  obtain ⟨KB, dKB, HKB, lKB, wKB⟩ := const_word 9223372036854775808 (by decide)
  have hsKB := set_w63
  rw [← dKB] at hsKB
  clear dKB
  go_enter Tryd.func3, Tryd.ntmps3
  go_wp2_with fail
  refine (awake7_any w).mono ?_
  rintro e V ⟨rfl, hbV⟩
  have hla := hla.below hla.2 hbV
  go_wp2_with fail
  refine (root_any V hla KQ HKQ.out).mono ?_
  rintro e V1 ⟨RA, okA, rfl, eRA, HRA, gV1⟩
  obtain ⟨hRA, rfl⟩ : RA = KD ∧ okA = true := by
    have h := eRA.out
    rw [lKQ.out, root_4] at h
    injection h with h1 h2
    exact ⟨by rw [h1, wKD.out]; exact wk_wo 2 (by decide), h2⟩
  have HRAE := vlt hRA
  clear eRA hRA
  have hbV1 := below_next hbV hbV.size gV1
  have hla := hla.below hla.2 gV1
  go_upto_region 4 with (((with_reducible refine wpList_store_row rfl 24 (.tmp 1) (.tmp 14) rfl V1.heap.size (bv RA).toArray rfl rfl 24 _ (heap_alloc_new _ _) (by rw [bv_size RA (HRA.out)]; kernel_rfl) (by rw [bv_size RA (HRA.out)]; kernel_rfl) (all_oneCell_toArray (bv_one _)) ?_); rw [World.setRow_alloc_new]))
  obtain ⟨V2, hX⟩ : ∃ X, X = V1.alloc (.cells (bv RA).toArray 24) := ⟨_, rfl⟩
  rw [← hX]
  have hbV2 : Below w.heap.size w V2 := by rw [hX]; exact hbV1.alloc hbV1.size _
  have hBV2 : Below V1.heap.size V1 V2 := by rw [hX]; exact (Below.refl _ _).alloc (Nat.le_refl _) _
  have gRA : Hid (V2.heap[V1.heap.size]? = some (.cells (bv RA).toArray 24 (0, 0))) := by rw [hX]; exact heap_alloc_new _ _
  obtain ⟨GRA, hG⟩ : ∃ G, G = V1.heap.size := ⟨_, rfl⟩
  rw [← hG] at gRA ⊢
  clear hG hX
  have sRA : GRA < V2.heap.size := (Array.getElem?_eq_some_iff.1 gRA.out).1
  have hla := hla.below hla.2 hBV2
  go_wp2_with fail
  refine (root_any V2 hla KD HKD.out).mono ?_
  rintro e V3 ⟨RC, okC, rfl, eRC, HRC, gV3⟩
  obtain rfl : okC = false := by
    have h := congrArg Prod.snd eRC.out
    rw [lKD.out, root_2] at h
    exact h
  clear eRC
  have hbV3 := below_next hbV2 hbV2.size gV3
  have gRA := Lib.hid ((gV3.block _ sRA).trans gRA.out)
  have sRA := Nat.lt_of_lt_of_le sRA gV3.size
  have hla := hla.below hla.2 gV3
  go_upto_region 5 with (((with_reducible refine wpList_store_row rfl 24 (.tmp 3) (.tmp 19) rfl V3.heap.size (bv RC).toArray rfl rfl 24 _ (heap_alloc_new _ _) (by rw [bv_size RC (HRC.out)]; kernel_rfl) (by rw [bv_size RC (HRC.out)]; kernel_rfl) (all_oneCell_toArray (bv_one _)) ?_); rw [World.setRow_alloc_new]))
  obtain ⟨V4, hX⟩ : ∃ X, X = V3.alloc (.cells (bv RC).toArray 24) := ⟨_, rfl⟩
  rw [← hX]
  have hbV4 : Below w.heap.size w V4 := by rw [hX]; exact hbV3.alloc hbV3.size _
  have hBV4 : Below V3.heap.size V3 V4 := by rw [hX]; exact (Below.refl _ _).alloc (Nat.le_refl _) _
  have gRC : Hid (V4.heap[V3.heap.size]? = some (.cells (bv RC).toArray 24 (0, 0))) := by rw [hX]; exact heap_alloc_new _ _
  obtain ⟨GRC, hG⟩ : ∃ G, G = V3.heap.size := ⟨_, rfl⟩
  rw [← hG] at gRC ⊢
  clear hG hX
  have sRC : GRC < V4.heap.size := (Array.getElem?_eq_some_iff.1 gRC.out).1
  have gRA := Lib.hid ((hBV4.block _ sRA).trans gRA.out)
  have sRA := Nat.lt_of_lt_of_le sRA hBV4.size
  have hla := hla.below hla.2 hBV4
  go_wp2_with fail
  refine (root_any V4 hla z32 z32_len).mono ?_
  rintro e V5 ⟨RD, okD, rfl, eRD, HRD, gV5⟩
  obtain ⟨hRD, rfl⟩ : RD = z32 ∧ okD = true := by
    have h := eRD.out
    rw [ln_z32, root_0] at h
    injection h with h1 h2
    exact ⟨h1, h2⟩
  have HRDE := vlt hRD
  clear eRD hRD
  have hbV5 := below_next hbV4 hbV4.size gV5
  have gRA := Lib.hid ((gV5.block _ sRA).trans gRA.out)
  have sRA := Nat.lt_of_lt_of_le sRA gV5.size
  have hla := hla.below hla.2 gV5
  go_upto_region 6 with (((with_reducible refine wpList_store_row rfl 24 (.tmp 5) (.tmp 24) rfl V5.heap.size (bv RD).toArray rfl rfl 24 _ (heap_alloc_new _ _) (by rw [bv_size RD (HRD.out)]; kernel_rfl) (by rw [bv_size RD (HRD.out)]; kernel_rfl) (all_oneCell_toArray (bv_one _)) ?_); rw [World.setRow_alloc_new]))
  obtain ⟨V6, hX⟩ : ∃ X, X = V5.alloc (.cells (bv RD).toArray 24) := ⟨_, rfl⟩
  rw [← hX]
  have hbV6 : Below w.heap.size w V6 := by rw [hX]; exact hbV5.alloc hbV5.size _
  have hBV6 : Below V5.heap.size V5 V6 := by rw [hX]; exact (Below.refl _ _).alloc (Nat.le_refl _) _
  have gRD : Hid (V6.heap[V5.heap.size]? = some (.cells (bv RD).toArray 24 (0, 0))) := by rw [hX]; exact heap_alloc_new _ _
  obtain ⟨GRD, hG⟩ : ∃ G, G = V5.heap.size := ⟨_, rfl⟩
  rw [← hG] at gRD ⊢
  clear hG hX
  have sRD : GRD < V6.heap.size := (Array.getElem?_eq_some_iff.1 gRD.out).1
  have gRA := Lib.hid ((hBV6.block _ sRA).trans gRA.out)
  have sRA := Nat.lt_of_lt_of_le sRA hBV6.size
  have hla := hla.below hla.2 hBV6
  go_wp2_with fail
  refine (of_any V6 (-1) (by decide) (by decide)).mono ?_
  rintro e V7 ⟨M, rfl, eM, HM, gV7⟩
  have hbV7 := below_next hbV6 hbV6.size gV7
  have gRA := Lib.hid ((gV7.block _ sRA).trans gRA.out)
  have sRA := Nat.lt_of_lt_of_le sRA gV7.size
  have gRD := Lib.hid ((gV7.block _ sRD).trans gRD.out)
  have sRD := Nat.lt_of_lt_of_le sRD gV7.size
  have hla := hla.below hla.2 gV7
  go_wp2_with fail
  refine (root_any V7 hla M HM.out).mono ?_
  rintro e V8 ⟨RF, okF, rfl, eRF, HRF, gV8⟩
  obtain rfl : okF = true := by
    have h := congrArg Prod.snd eRF.out
    rw [eM.out, ln_wo, root_m1] at h
    exact h
  have eRF2 := vlt (show ln RF * ln RF % FP = ofF (-1) % FP by rw [(root_yes eRF.out).1, eM.out, ln_wo, Nat.mod_mod])
  clear eRF
  have hbV8 := below_next hbV7 hbV7.size gV8
  have gRA := Lib.hid ((gV8.block _ sRA).trans gRA.out)
  have sRA := Nat.lt_of_lt_of_le sRA gV8.size
  have gRD := Lib.hid ((gV8.block _ sRD).trans gRD.out)
  have sRD := Nat.lt_of_lt_of_le sRD gV8.size
  have hla := hla.below hla.2 gV8
  go_upto_region 7 with (((with_reducible refine wpList_store_row rfl 24 (.tmp 7) (.tmp 29) rfl V8.heap.size (bv RF).toArray rfl rfl 24 _ (heap_alloc_new _ _) (by rw [bv_size RF (HRF.out)]; kernel_rfl) (by rw [bv_size RF (HRF.out)]; kernel_rfl) (all_oneCell_toArray (bv_one _)) ?_); rw [World.setRow_alloc_new]))
  obtain ⟨V9, hX⟩ : ∃ X, X = V8.alloc (.cells (bv RF).toArray 24) := ⟨_, rfl⟩
  rw [← hX]
  have hbV9 : Below w.heap.size w V9 := by rw [hX]; exact hbV8.alloc hbV8.size _
  have hBV9 : Below V8.heap.size V8 V9 := by rw [hX]; exact (Below.refl _ _).alloc (Nat.le_refl _) _
  have gRF : Hid (V9.heap[V8.heap.size]? = some (.cells (bv RF).toArray 24 (0, 0))) := by rw [hX]; exact heap_alloc_new _ _
  obtain ⟨GRF, hG⟩ : ∃ G, G = V8.heap.size := ⟨_, rfl⟩
  rw [← hG] at gRF ⊢
  clear hG hX
  have sRF : GRF < V9.heap.size := (Array.getElem?_eq_some_iff.1 gRF.out).1
  have gRA := Lib.hid ((hBV9.block _ sRA).trans gRA.out)
  have sRA := Nat.lt_of_lt_of_le sRA hBV9.size
  have gRD := Lib.hid ((hBV9.block _ sRD).trans gRD.out)
  have sRD := Nat.lt_of_lt_of_le sRD hBV9.size
  have gRA0 := gRA
  have sgRA0 := sRA
  have gRD0 := gRD
  have sgRD0 := sRD
  have gRF0 := gRF
  have sgRF0 := sRF
  have hbw0 := hbV9
  go_wp2_with fail
  refine (prime7_any _).mono ?_
  rintro e u1 ⟨PRM31, rfl, e31, h31, hb1⟩
  have gRA1 := Lib.hid ((hb1.block _ sgRA0).trans gRA0.out)
  have sgRA1 := Nat.lt_of_lt_of_le sgRA0 hb1.size
  have gRD1 := Lib.hid ((hb1.block _ sgRD0).trans gRD0.out)
  have sgRD1 := Nat.lt_of_lt_of_le sgRD0 hb1.size
  have gRF1 := Lib.hid ((hb1.block _ sgRF0).trans gRF0.out)
  have sgRF1 := Nat.lt_of_lt_of_le sgRF0 hb1.size
  have hbw1 := below_next hbw0 hbw0.size hb1
  go_wp2_with fail
  refine (norm_any _ PRM31 (h31.out)).mono ?_
  rintro e u2 ⟨v32, rfl, e32, h32, hb2⟩
  have gRA2 := Lib.hid ((hb2.block _ sgRA1).trans gRA1.out)
  have sgRA2 := Nat.lt_of_lt_of_le sgRA1 hb2.size
  have gRD2 := Lib.hid ((hb2.block _ sgRD1).trans gRD1.out)
  have sgRD2 := Nat.lt_of_lt_of_le sgRD1 hb2.size
  have gRF2 := Lib.hid ((hb2.block _ sgRF1).trans gRF1.out)
  have sgRF2 := Nat.lt_of_lt_of_le sgRF1 hb2.size
  have hbw2 := below_next hbw1 hbw1.size hb2
  obtain rfl : v32 = z32 := by rw [e32.out, z32_wo]; refine wo_of ?_; rw [e31.out, wk, ln_le, Nat.mod_eq_of_lt (show FP < 256 ^ 32 by decide)]; exact fp_self
  have q0 := eql_bytes_same (P := Tryd.prog) Tryd.underlying24 Tryd.underlying5 Tryd.sizeByte z32 (z32_len)
  go_wp2_with fail
  refine (prime7_any _).mono ?_
  rintro e u3 ⟨PRM36, rfl, e36, h36, hb3⟩
  have gRA3 := Lib.hid ((hb3.block _ sgRA2).trans gRA2.out)
  have sgRA3 := Nat.lt_of_lt_of_le sgRA2 hb3.size
  have gRD3 := Lib.hid ((hb3.block _ sgRD2).trans gRD2.out)
  have sgRD3 := Nat.lt_of_lt_of_le sgRD2 hb3.size
  have gRF3 := Lib.hid ((hb3.block _ sgRF2).trans gRF2.out)
  have sgRF3 := Nat.lt_of_lt_of_le sgRF2 hb3.size
  have hbw3 := below_next hbw2 hbw2.size hb3
  go_wp2_with fail
  refine (good_any _ PRM36 (h36.out)).mono ?_
  rintro e u4 ⟨v37, rfl, e37, hb4⟩
  have gRA4 := Lib.hid ((hb4.block _ sgRA3).trans gRA3.out)
  have sgRA4 := Nat.lt_of_lt_of_le sgRA3 hb4.size
  have gRD4 := Lib.hid ((hb4.block _ sgRD3).trans gRD3.out)
  have sgRD4 := Nat.lt_of_lt_of_le sgRD3 hb4.size
  have gRF4 := Lib.hid ((hb4.block _ sgRF3).trans gRF3.out)
  have sgRF4 := Nat.lt_of_lt_of_le sgRF3 hb4.size
  have hbw4 := below_next hbw3 hbw3.size hb4
  obtain rfl : v37 = false := by rw [e37.out, e36.out]; exact prm_not
  go_wp2_with fail
  refine (all7_any _).mono ?_
  rintro e u5 ⟨ALL41, rfl, e41, h41, hb5⟩
  have gRA5 := Lib.hid ((hb5.block _ sgRA4).trans gRA4.out)
  have sgRA5 := Nat.lt_of_lt_of_le sgRA4 hb5.size
  have gRD5 := Lib.hid ((hb5.block _ sgRD4).trans gRD4.out)
  have sgRD5 := Nat.lt_of_lt_of_le sgRD4 hb5.size
  have gRF5 := Lib.hid ((hb5.block _ sgRF4).trans gRF4.out)
  have sgRF5 := Nat.lt_of_lt_of_le sgRF4 hb5.size
  have hbw5 := below_next hbw4 hbw4.size hb5
  go_wp2_with fail
  refine (norm_any _ ALL41 (h41.out)).mono ?_
  rintro e u6 ⟨v42, rfl, e42, h42, hb6⟩
  have gRA6 := Lib.hid ((hb6.block _ sgRA5).trans gRA5.out)
  have sgRA6 := Nat.lt_of_lt_of_le sgRA5 hb6.size
  have gRD6 := Lib.hid ((hb6.block _ sgRD5).trans gRD5.out)
  have sgRD6 := Nat.lt_of_lt_of_le sgRD5 hb6.size
  have gRF6 := Lib.hid ((hb6.block _ sgRF5).trans gRF5.out)
  have sgRF6 := Nat.lt_of_lt_of_le sgRF5 hb6.size
  have hbw6 := below_next hbw5 hbw5.size hb6
  obtain rfl : KL = v42 := Eq.symm (by rw [e42.out, wKL.out]; refine wo_of ?_; rw [e41.out, wk, ln_le, Nat.mod_eq_of_lt (show ALL < 256 ^ 32 by decide)]; exact all_37)
  have q1 := eql_bytes_same (P := Tryd.prog) Tryd.underlying24 Tryd.underlying5 Tryd.sizeByte KL (HKL.out)
  go_wp2_with (first
    | (with_reducible refine wpList_eql_w (by kernel_rfl) 24 _ (.tmp 42) (.tmp 43) rfl (by kernel_rfl) (bv KL).toArray (bv KL).toArray rfl rfl true (q1 _) ?_))
  refine (inv_any _ z32 (z32_len)).mono ?_
  rintro e u7 ⟨v48, rfl, e48, h48, hb7⟩
  have gRA7 := Lib.hid ((hb7.block _ sgRA6).trans gRA6.out)
  have sgRA7 := Nat.lt_of_lt_of_le sgRA6 hb7.size
  have gRD7 := Lib.hid ((hb7.block _ sgRD6).trans gRD6.out)
  have sgRD7 := Nat.lt_of_lt_of_le sgRD6 hb7.size
  have gRF7 := Lib.hid ((hb7.block _ sgRF6).trans gRF6.out)
  have sgRF7 := Nat.lt_of_lt_of_le sgRF6 hb7.size
  have hbw7 := below_next hbw6 hbw6.size hb7
  obtain rfl : v48 = z32 := by rw [e48.out, z32_wo]; refine wo_of ?_; rw [← z32_wo, ln_z32]; exact inv_0
  have q2 := eql_bytes_same (P := Tryd.prog) Tryd.underlying24 Tryd.underlying5 Tryd.sizeByte z32 (z32_len)
  go_wp2_with (first
    | (with_reducible refine wpList_eql_w (by kernel_rfl) 24 _ (.tmp 48) (.tmp 49) rfl (by kernel_rfl) (bv z32).toArray (bv z32).toArray rfl rfl true (q2 _) ?_))
  refine (pow_any _ KT KF (HKT.out) (HKF.out)).mono ?_
  rintro e u8 ⟨v55, rfl, e55, h55, hb8⟩
  have gRA8 := Lib.hid ((hb8.block _ sgRA7).trans gRA7.out)
  have sgRA8 := Nat.lt_of_lt_of_le sgRA7 hb8.size
  have gRD8 := Lib.hid ((hb8.block _ sgRD7).trans gRD7.out)
  have sgRD8 := Nat.lt_of_lt_of_le sgRD7 hb8.size
  have gRF8 := Lib.hid ((hb8.block _ sgRF7).trans gRF7.out)
  have sgRF8 := Nat.lt_of_lt_of_le sgRF7 hb8.size
  have hbw8 := below_next hbw7 hbw7.size hb8
  obtain rfl : KC = v55 := Eq.symm (by rw [e55.out, wKC.out]; refine wo_of ?_; rw [lKT.out, lKF.out])
  have q3 := eql_bytes_same (P := Tryd.prog) Tryd.underlying24 Tryd.underlying5 Tryd.sizeByte KC (HKC.out)
  go_wp2_with (first
    | (with_reducible refine wpList_eql_w (by kernel_rfl) 24 _ (.tmp 55) (.tmp 56) rfl (by kernel_rfl) (bv KC).toArray (bv KC).toArray rfl rfl true (q3 _) ?_))
  refine (pow_any _ z32 z32 (z32_len) (z32_len)).mono ?_
  rintro e u9 ⟨v62, rfl, e62, h62, hb9⟩
  have gRA9 := Lib.hid ((hb9.block _ sgRA8).trans gRA8.out)
  have sgRA9 := Nat.lt_of_lt_of_le sgRA8 hb9.size
  have gRD9 := Lib.hid ((hb9.block _ sgRD8).trans gRD8.out)
  have sgRD9 := Nat.lt_of_lt_of_le sgRD8 hb9.size
  have gRF9 := Lib.hid ((hb9.block _ sgRF8).trans gRF8.out)
  have sgRF9 := Nat.lt_of_lt_of_le sgRF8 hb9.size
  have hbw9 := below_next hbw8 hbw8.size hb9
  obtain rfl : KO = v62 := Eq.symm (by rw [e62.out, wKO.out]; refine wo_of ?_; rw [ln_z32])
  have q4 := eql_bytes_same (P := Tryd.prog) Tryd.underlying24 Tryd.underlying5 Tryd.sizeByte KO (HKO.out)
  obtain rfl : KD = RA := Eq.symm (HRAE.out)
  have q5 := eql_bytes_same (P := Tryd.prog) Tryd.underlying24 Tryd.underlying5 Tryd.sizeByte KD (HKD.out)
  obtain rfl : RD = z32 := HRDE.out
  have q6 := eql_bytes_same (P := Tryd.prog) Tryd.underlying24 Tryd.underlying5 Tryd.sizeByte z32 (z32_len)
  go_wp2_with (first
    | (with_reducible refine wpList_eql_w (by kernel_rfl) 24 _ (.tmp 62) (.tmp 63) rfl (by kernel_rfl) (bv KO).toArray (bv KO).toArray rfl rfl true (q4 _) ?_)
    | (with_reducible refine wpList_load_row_w (by kernel_rfl) 24 (.tmp 1) rfl GRA rfl 24 (bv KD).toArray (0, 0) _ gRA9.out Tryd.underlying24 rfl (by rw [bv_size KD HRA.out]; kernel_rfl) ?_)
    | (with_reducible refine wpList_eql_w (by kernel_rfl) 24 _ (.tmp 70) (.tmp 71) rfl (by kernel_rfl) (bv KD).toArray (bv KD).toArray rfl rfl true (q5 _) ?_)
    | (with_reducible refine wpList_load_row_w (by kernel_rfl) 24 (.tmp 5) rfl GRD rfl 24 (bv z32).toArray (0, 0) _ gRD9.out Tryd.underlying24 rfl (by rw [bv_size z32 HRD.out]; kernel_rfl) ?_)
    | (with_reducible refine wpList_eql_w (by kernel_rfl) 24 _ (.tmp 82) (.tmp 83) rfl (by kernel_rfl) (bv z32).toArray (bv z32).toArray rfl rfl true (q6 _) ?_)
    | (with_reducible refine wpList_load_row_w (by kernel_rfl) 24 (.tmp 7) rfl GRF rfl 24 (bv RF).toArray (0, 0) _ gRF9.out Tryd.underlying24 rfl (by rw [bv_size RF HRF.out]; kernel_rfl) ?_))
  refine (mul_any _ RF RF (HRF.out) (HRF.out)).mono ?_
  rintro e u10 ⟨v92, rfl, e92, h92, hb10⟩
  have gRA10 := Lib.hid ((hb10.block _ sgRA9).trans gRA9.out)
  have sgRA10 := Nat.lt_of_lt_of_le sgRA9 hb10.size
  have gRD10 := Lib.hid ((hb10.block _ sgRD9).trans gRD9.out)
  have sgRD10 := Nat.lt_of_lt_of_le sgRD9 hb10.size
  have gRF10 := Lib.hid ((hb10.block _ sgRF9).trans gRF9.out)
  have sgRF10 := Nat.lt_of_lt_of_le sgRF9 hb10.size
  have hbw10 := below_next hbw9 hbw9.size hb10
  go_wp2_with fail
  refine (of_any _ (-1) (by decide) (by decide)).mono ?_
  rintro e u11 ⟨v93, rfl, e93, h93, hb11⟩
  have gRA11 := Lib.hid ((hb11.block _ sgRA10).trans gRA10.out)
  have sgRA11 := Nat.lt_of_lt_of_le sgRA10 hb11.size
  have gRD11 := Lib.hid ((hb11.block _ sgRD10).trans gRD10.out)
  have sgRD11 := Nat.lt_of_lt_of_le sgRD10 hb11.size
  have gRF11 := Lib.hid ((hb11.block _ sgRF10).trans gRF10.out)
  have sgRF11 := Nat.lt_of_lt_of_le sgRF10 hb11.size
  have hbw11 := below_next hbw10 hbw10.size hb11
  obtain rfl : v92 = v93 := by rw [e92.out, e93.out]; exact wo_of eRF2.out
  have q7 := eql_bytes_same (P := Tryd.prog) Tryd.underlying24 Tryd.underlying5 Tryd.sizeByte v92 (h92.out)
  go_wp2_with (first
    | (with_reducible refine wpList_eql_w (by kernel_rfl) 24 _ (.tmp 92) (.tmp 93) rfl (by kernel_rfl) (bv v92).toArray (bv v92).toArray rfl rfl true (q7 _) ?_))
  refine (of_any _ (-9223372036854775808) (by decide) (by decide)).mono ?_
  rintro e u12 ⟨v97, rfl, e97, h97, hb12⟩
  have gRA12 := Lib.hid ((hb12.block _ sgRA11).trans gRA11.out)
  have sgRA12 := Nat.lt_of_lt_of_le sgRA11 hb12.size
  have gRD12 := Lib.hid ((hb12.block _ sgRD11).trans gRD11.out)
  have sgRD12 := Nat.lt_of_lt_of_le sgRD11 hb12.size
  have gRF12 := Lib.hid ((hb12.block _ sgRF11).trans gRF11.out)
  have sgRF12 := Nat.lt_of_lt_of_le sgRF11 hb12.size
  have hbw12 := below_next hbw11 hbw11.size hb12
  go_wp2_with fail
  refine (sub_any _ z32 KB (z32_len) (HKB.out)).mono ?_
  rintro e u13 ⟨v100, rfl, e100, h100, hb13⟩
  have gRA13 := Lib.hid ((hb13.block _ sgRA12).trans gRA12.out)
  have sgRA13 := Nat.lt_of_lt_of_le sgRA12 hb13.size
  have gRD13 := Lib.hid ((hb13.block _ sgRD12).trans gRD12.out)
  have sgRD13 := Nat.lt_of_lt_of_le sgRD12 hb13.size
  have gRF13 := Lib.hid ((hb13.block _ sgRF12).trans gRF12.out)
  have sgRF13 := Nat.lt_of_lt_of_le sgRF12 hb13.size
  have hbw13 := below_next hbw12 hbw12.size hb13
  obtain rfl : v97 = v100 := by rw [e97.out, e100.out]; refine wo_of ?_; rw [ln_z32, lKB.out]; exact big_63
  have q8 := eql_bytes_same (P := Tryd.prog) Tryd.underlying24 Tryd.underlying5 Tryd.sizeByte v97 (h97.out)
  go_wp2_with (first
    | (with_reducible refine wpList_eql_w (by kernel_rfl) 24 _ (.tmp 97) (.tmp 100) rfl (by kernel_rfl) (bv v97).toArray (bv v97).toArray rfl rfl true (q8 _) ?_))
  go_ret
  exact ⟨rfl, hbw13⟩
end Go.Proofs.YtpnodegmegpooaaDoor
