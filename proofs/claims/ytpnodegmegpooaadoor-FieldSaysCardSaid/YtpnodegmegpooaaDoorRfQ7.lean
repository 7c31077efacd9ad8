/-
  Contracts of the document's own Root and Of. Conditions: Of's number has 64 bits.
-/
import Derived.Test.YtpnodegmegpooaaDoorRfR7
import Derived.Test.YtpnodegmegpooaaDoorRefAL
namespace Go.Proofs.YtpnodegmegpooaaDoor
open Go.RowKit

/-- The even one of a word and what it lacks of the prime. -/
def evl (l : List UInt8) : List UInt8 := if ln l % 2 = 1 then wo (subF 0 (ln l)) else l
theorem evl_wo (r : Nat) : evl (wo r) = evenW r := by
  have h : wo (subF 0 (r % FP)) = wo (subF 0 r) := by rw [subF, subF, Nat.mod_mod]
  rw [evl, evenW, ln_wo, h]
theorem raw_root (N : Nat) : rootOf N = if (rawOf N).2 = true then (evl (rawOf N).1, true) else (z32, false) := by
  unfold rootOf rawOf rawX
  split
  · rw [if_pos rfl, evl_wo]
  · split
    · rw [if_pos rfl, evl_wo]
    · rfl
theorem rawX_no {N X : Nat} {l : List UInt8} (h : (l, false) = rawX N X) : l = z32 := by
  unfold rawX at h
  split at h
  · have h3 : false = true := congrArg Prod.snd h
    cases h3
  · split at h
    · have h3 : false = true := congrArg Prod.snd h
      cases h3
    · exact congrArg Prod.fst h
theorem raw_no {N : Nat} {l : List UInt8} (h : (l, false) = rawOf N) : l = z32 ∧ (z32, false) = rootOf N :=
  ⟨rawX_no h, by rw [raw_root, ← h]; rfl⟩
theorem raw_yes {N : Nat} {l : List UInt8} (h : (l, true) = rawOf N) : (evl l, true) = rootOf N := by rw [raw_root, ← h]; rfl
theorem evl_odd {l : List UInt8} (h : ln l % 2 = 1) : evl l = wo (subF (ln z32) (ln l)) := by rw [evl, if_pos h, ln_z32]
theorem evl_not {l : List UInt8} (h : ¬ ln l % 2 = 1) : evl l = l := by rw [evl, if_neg h]

set_option maxRecDepth 100000 in
set_option maxHeartbeats 2000000 in
theorem rRoot_any (w : World) (a : List UInt8) (ha : a.length = 32) :
    Calls Tryd.prog 17 #[.agg (bv a).toArray] w fun e w' => ∃ l ok, e = .returned (.tuple #[.agg (bv l).toArray, .bool ok]) ∧ Vlt ((l, ok) = rootOf (ln a)) ∧ Hid (l.length = 32) ∧ Below w.heap.size w w' := by
  have hzw := zero_word
  obtain ⟨W, hW, hgA, hgZ, hbW, hsW⟩ := pair_new w (bv a).toArray (bv z32).toArray 24 24
  have HW := Lib.hid hW
  have HA := Lib.hid ha
  have HS := Lib.hid (bv_size a ha)
  have hs0 : w.heap.size + 1 < W.heap.size := by have := hsW.out; omega
  clear hW ha hsW
  go_enter Tryd.func17, Tryd.ntmps17
  go_upto_region 1 with fail
  rw [HW.out]
  go_wp2_with (with_reducible refine wpList_load_row rfl 24 (.tmp 1) rfl w.heap.size rfl 24 (bv a).toArray (0, 0) _ hgA.out Tryd.underlying24 rfl (by rw [HS.out]; kernel_rfl) ?_)
  refine (rin_any W a HA.out).mono ?_
  rintro e w1 ⟨x, rfl, e1, HX, hb1⟩
  have hx := vlt (fv_in e1.out)
  have hbw1 := below_next hbW hbW.size hb1
  have gZ1 := Lib.hid ((hb1.block _ hs0).trans hgZ.out)
  have hs1 := Nat.lt_of_lt_of_le hs0 hb1.size
  clear e1 hb1 hbW hgA hgZ
  go_wp2_with fail
  refine (rroot_any w1 x (ln a) hx.out).mono ?_
  rintro e w2 ⟨R, ok, rfl, eR, HR, hb2⟩
  have hbw2 := below_next hbw1 hbw1.size hb2
  have gZ2 := Lib.hid ((hb2.block _ hs1).trans gZ1.out)
  have hs2 := Nat.lt_of_lt_of_le hs1 hb2.size
  clear hb2 hbw1 gZ1
  go_upto_region 2 with ((with_reducible refine wpList_store_row rfl 24 (.tmp 4) (.tmp 10) rfl w2.heap.size (bv R).toArray rfl rfl 24 _ (heap_alloc_new _ _) (by rw [bv_size R HR.out]; kernel_rfl) (by rw [bv_size R HR.out]; kernel_rfl) (all_oneCell_toArray (bv_one _)) ?_); rw [World.setRow_alloc_new])
  obtain ⟨V, hV⟩ : ∃ V, V = w2.alloc (.cells (bv R).toArray 24) := ⟨_, rfl⟩
  rw [← hV]
  have gZ : Hid (V.heap[w.heap.size + 1]? = some (.cells (bv z32).toArray 24 (0, 0))) := by rw [hV]; exact (Below.heap_alloc _ _ _ (by omega)).trans gZ2.out
  have gR : Hid (V.heap[w2.heap.size]? = some (.cells (bv R).toArray 24 (0, 0))) := by rw [hV]; exact heap_alloc_new _ _
  have hbV : Below w.heap.size w V := by rw [hV]; exact hbw2.alloc hbw2.size _
  obtain ⟨G, hG⟩ : ∃ G, G = w2.heap.size := ⟨_, rfl⟩
  rw [← hG] at gR hs2 ⊢
  clear hV hG gZ2 hbw2
  have sR : G < V.heap.size := (Array.getElem?_eq_some_iff.1 gR.out).1
  obtain ⟨c, lc, hc0, hc2⟩ := first_byte R HR.out
  have hcell : V.cell? ⟨G, 0, none⟩ = some (.int .u8 (c : Int)) := by
    have := byte_cell gR.out hc0
    rwa [UInt8.toNat_ofNat', show (2 : Nat) ^ 8 = 256 by decide, Nat.mod_eq_of_lt lc] at this
  have hlow := low8 c lc
  clear hc0
  cases ok
  · obtain ⟨hRz, hF⟩ := raw_no eR.out
    have HF := vlt (show (R, false) = rootOf (ln a) by rw [hRz]; exact hF)
    clear eR hRz hF
    go_wp2_with (first
      | (with_reducible refine wpList_load_row rfl 24 (.tmp 4) rfl G rfl 24 (bv R).toArray (0, 0) _ gR.out Tryd.underlying24 rfl (by rw [bv_size R HR.out]; kernel_rfl) ?_)
      | (with_reducible refine wpList_store_row rfl 24 (.tmp 2) (.tmp 22) rfl (w.heap.size + 1) (bv R).toArray rfl rfl 24 _ gZ.out (by rw [bv_size R HR.out]; kernel_rfl) (by rw [bv_size R HR.out]; kernel_rfl) (all_oneCell_toArray (bv_one _)) ?_))
    refine bodyPost_ret (v := .tuple #[.agg (bv R).toArray, .bool false]) (results_row_tmp Tryd.results17 _ _ (w.heap.size + 1) 24 _ (0, 0) _ rfl (setRow_heap _ _ _ _ _ _ gZ.out) Tryd.underlying24 rfl (by rw [bv_size R HR.out]; kernel_rfl) _ rfl) rfl ⟨R, false, rfl, HF, HR, below_setRow hbV (by omega) _⟩
  · have HE := vlt (raw_yes eR.out)
    clear eR
    by_cases hodd : c % 2 = 1
    · have HO := vlt (evl_odd (show ln R % 2 = 1 by omega))
      rw [hodd] at hlow
      clear hc2 hodd
      go_upto_region 3 with fail
      go_wp2_with (with_reducible refine wpList_load_row rfl 24 (.tmp 4) rfl G rfl 24 (bv R).toArray (0, 0) _ gR.out Tryd.underlying24 rfl (by rw [bv_size R HR.out]; kernel_rfl) ?_)
      refine (rsub_any V z32 R z32_len HR.out).mono ?_
      rintro e w3 ⟨S, rfl, e3, HSL, hb3⟩
      have HF := vlt (show (S, true) = rootOf (ln a) by rw [e3.out, ← HO.out]; exact HE.out)
      have gZ3 := Lib.hid ((hb3.block _ (by omega : w.heap.size + 1 < V.heap.size)).trans gZ.out)
      have gR3 := Lib.hid ((hb3.block _ sR).trans gR.out)
      have hbw3 := below_next hbV hbV.size hb3
      clear e3 hcell gZ gR HE HO
      go_upto_region 4 with (with_reducible refine wpList_store_row rfl 24 (.tmp 4) (.tmp 21) rfl G (bv S).toArray rfl rfl 24 _ gR3.out (by rw [bv_size S HSL.out]; kernel_rfl) (by rw [bv_size S HSL.out, bv_size R HR.out]) (all_oneCell_toArray (bv_one _)) ?_)
      have gR4 : Hid ((w3.setRow G (bv S).toArray).heap[G]? = some (.cells (bv S).toArray 24 (0, 0))) := setRow_heap _ _ _ _ _ _ gR3.out
      have gZ4 : Hid ((w3.setRow G (bv S).toArray).heap[w.heap.size + 1]? = some (.cells (bv z32).toArray 24 (0, 0))) := (setRow_other _ _ _ _ (by omega)).trans gZ3.out
      have hbw4 := below_setRow (g := G) hbw3 (by omega) (bv S).toArray
      generalize w3.setRow G (bv S).toArray = w4 at *
      go_wp2_with (first
        | (with_reducible refine wpList_load_row rfl 24 (.tmp 4) rfl G rfl 24 (bv S).toArray (0, 0) _ gR4.out Tryd.underlying24 rfl (by rw [bv_size S HSL.out]; kernel_rfl) ?_)
        | (with_reducible refine wpList_store_row rfl 24 (.tmp 2) (.tmp 22) rfl (w.heap.size + 1) (bv S).toArray rfl rfl 24 _ gZ4.out (by rw [bv_size S HSL.out]; kernel_rfl) (by rw [bv_size S HSL.out]; kernel_rfl) (all_oneCell_toArray (bv_one _)) ?_))
      refine bodyPost_ret (v := .tuple #[.agg (bv S).toArray, .bool true]) (results_row_tmp Tryd.results17 _ _ (w.heap.size + 1) 24 _ (0, 0) _ rfl (setRow_heap _ _ _ _ _ _ gZ4.out) Tryd.underlying24 rfl (by rw [bv_size S HSL.out]; kernel_rfl) _ rfl) rfl ⟨S, true, rfl, HF, HSL, below_setRow hbw4 (by omega) _⟩
    · have HF := vlt (show (R, true) = rootOf (ln a) by have h := HE.out; rwa [evl_not (show ¬ ln R % 2 = 1 by omega)] at h)
      rw [show c % 2 = 0 by omega] at hlow
      clear hc2 hodd HE
      go_wp2_with (first
        | (with_reducible refine wpList_load_row rfl 24 (.tmp 4) rfl G rfl 24 (bv R).toArray (0, 0) _ gR.out Tryd.underlying24 rfl (by rw [bv_size R HR.out]; kernel_rfl) ?_)
        | (with_reducible refine wpList_store_row rfl 24 (.tmp 2) (.tmp 22) rfl (w.heap.size + 1) (bv R).toArray rfl rfl 24 _ gZ.out (by rw [bv_size R HR.out]; kernel_rfl) (by rw [bv_size R HR.out]; kernel_rfl) (all_oneCell_toArray (bv_one _)) ?_))
      refine bodyPost_ret (v := .tuple #[.agg (bv R).toArray, .bool true]) (results_row_tmp Tryd.results17 _ _ (w.heap.size + 1) 24 _ (0, 0) _ rfl (setRow_heap _ _ _ _ _ _ gZ.out) Tryd.underlying24 rfl (by rw [bv_size R HR.out]; kernel_rfl) _ rfl) rfl ⟨R, true, rfl, HF, HR, below_setRow hbV (by omega) _⟩

theorem rlittle8 (m : Nat) (w : World) (hm : m < 18446744073709551616) :
    Calls Tryd.prog 43 #[.slice none 0 0, .int .u64 (m : Int), .int .i64 8] w fun e w' => ∃ A c, e = .returned (.slice A 8 c) ∧ Res w' w.heap.size 5 A 8 c (le m 8) ∧ Below w.heap.size w w' := by
  refine (refLittle_any none [] 0 0 m 8 w (.inl rfl) rfl (by decide) hm).mono ?_
  rintro e w1 ⟨A, c, rfl, hr, hb⟩
  rw [wd_8, Nat.zero_add, List.nil_append] at hr
  rw [wd_8, Nat.zero_add]
  exact ⟨A, c, rfl, hr, hb⟩
theorem wk_eight (m : Nat) (hm : m < 18446744073709551616) : le m 8 ++ List.replicate 24 0 = wk m := by
  rw [wk, show (32 : Nat) = 8 + 24 from rfl, le_add, show (2 : Nat) ^ (8 * 8) = 18446744073709551616 by decide, Nat.div_eq_of_lt hm]
  congr 1
theorem splice_eight (m : Nat) (hm : m < 18446744073709551616) : splice (bv z32) 0 (bv ((le m 8).take 32)) = bv (wk m) := by
  rw [List.take_of_length_le (by rw [le_len]; decide), splice_bv, ← wk_eight m hm, le_len]
  rfl
set_option maxRecDepth 100000 in
set_option maxHeartbeats 2000000 in
theorem rof_any (w : World) (n : Int) (hlo : -9223372036854775808 ≤ n) (hhi : n ≤ 9223372036854775807) :
    Calls Tryd.prog 26 #[.int .i64 n] w fun e w' => ∃ l, e = .returned (.agg (bv l).toArray) ∧ Vlt (l = wo (ofF n)) ∧ Hid (l.length = 32) ∧ Below w.heap.size w w' := by
  have hzw := zero_word
  obtain ⟨W, hW, hgZ, hbW, hsW⟩ := one_new w (bv z32).toArray 24
  have HW := Lib.hid hW
  have hs : w.heap.size < W.heap.size := by have := hsW.out; omega
  clear hW hsW
  by_cases hn : n < 0
  · obtain ⟨m, hm⟩ : ∃ m : Nat, n = -(m : Int) := ⟨n.natAbs, by omega⟩
    subst hm
    have lm : m < 18446744073709551616 := by omega
    go_enter Tryd.func26, Tryd.ntmps26
    go_upto_region 1 with fail
    rw [HW.out]
    go_upto_region 4 with fail
    rw [neg64 m lm]
    generalize IntKind.u64.wrap (-(m : Int)) = z
    go_upto_region 5 with ((with_reducible refine wpList_store_row rfl 24 (.tmp 4) (.tmp 11) rfl W.heap.size (bv z32).toArray rfl rfl 24 _ (heap_alloc_new _ _) (by kernel_rfl) (by kernel_rfl) (all_oneCell_toArray (bv_one _)) ?_); rw [World.setRow_alloc_new])
    obtain ⟨V, hV⟩ : ∃ V, V = W.alloc (.cells (bv z32).toArray 24) := ⟨_, rfl⟩
    rw [← hV]
    have gZ : Hid (V.heap[w.heap.size]? = some (.cells (bv z32).toArray 24 (0, 0))) := by rw [hV]; exact (Below.heap_alloc _ _ _ (by omega)).trans hgZ.out
    have gT : Hid (V.heap[W.heap.size]? = some (.cells (bv z32).toArray 24 (0, 0))) := by rw [hV]; exact heap_alloc_new _ _
    have hbV : Below w.heap.size w V := by rw [hV]; exact hbW.alloc hbW.size _
    obtain ⟨G, hG⟩ : ∃ G, G = W.heap.size := ⟨_, rfl⟩
    rw [← hG] at gT hs ⊢
    clear hV hG hgZ hbW
    have sT : G < V.heap.size := (Array.getElem?_eq_some_iff.1 gT.out).1
    have hcut := cut_all Tryd.underlying24 Tryd.sizeByte G 0 (by decide)
    refine wp_region_held_drew (S := (fun _ => True)) (by kernel_rfl) (trivial) (fun hHeld => ?_)
    refine wpAnyH_take (i := 0) (oi := ⟨(some 12), _, _, _, _, _⟩) (v := ?vq1_0) rfl (by kernel_rfl) (by kernel_rfl) (by kernel_rfl) (fun _ _ _ h => h) (Or.inl ⟨by rfl, ?yq1_0⟩) hHeld ?_
    case yq1_0 => (intro W0 hSw; go_simp; try with_reducible rfl)
    try simp only [Act.put, List.setIfInBounds_toArray, List.set_cons_zero, List.set_cons_succ]
    refine wpAnyH_take (i := 1) (oi := ⟨(some 13), _, _, _, _, _⟩) (v := ?vq1_1) rfl (by kernel_rfl) (by kernel_rfl) (by kernel_rfl) (fun _ _ _ h => h) (Or.inl ⟨by rfl, ?yq1_1⟩) hHeld ?_
    case yq1_1 => (intro W0 hSw; go_simp; try with_reducible rfl)
    try simp only [Act.put, List.setIfInBounds_toArray, List.set_cons_zero, List.set_cons_succ]
    refine wpAnyH_ready (rs := [2]) (by kernel_rfl) (by simp) ?_
    refine AllReadyH.cons (i := 2) (o := ⟨(some 14), _, _, _, _, _⟩) rfl (fun K hK => ?_) AllReadyH.nil
    go_simp
    refine (rlittle8 m _ lm).mono ?_
    rintro e w6 ⟨A6, c6, rfl, hr6, hb6d⟩
    have hb6 : Below V.heap.size V w6 := below_undrew hb6d
    have g6 : Hid (w6.heap[G]? = some (.cells (bv z32).toArray 24 (0, 0))) := (hb6.block _ sT).trans gT.out
    refine hK.out _ _ (trivial) (fun hHeld => ?_)
    clear hK K
    try simp only [Act.put, List.setIfInBounds_toArray, List.set_cons_zero, List.set_cons_succ]
    refine wpAnyH_ready (rs := [3]) (by kernel_rfl) (by simp) ?_
    refine AllReadyH.cons (i := 3) (o := ⟨(some 15), _, _, _, _, _⟩) rfl (fun K hK => ?_) AllReadyH.nil
    refine step_copy_but rfl (.tmp 12) (.tmp 14) 47 rfl 5 Tryd.underlying47 Tryd.sizeByte G 0 32 32 8 c6 A6 (by rfl) (by rfl) (bv z32) 24 g6.out (le m 8) w6.heap.size hr6.byt (le_len _ _) (by decide) (by rw [bv_len, z32_len]; decide) w6 (But.refl _ _) ?_
    intro w7 g7 hb7
    refine hK.out _ _ (trivial) (fun hHeld => ?_)
    clear hK K
    try simp only [Act.put, List.setIfInBounds_toArray, List.set_cons_zero, List.set_cons_succ]
    refine wpAnyH_done (by kernel_rfl) ?_ _
    obtain ⟨T, dT, HT, lT, wT⟩ := const_word m (Nat.lt_trans lm (by decide))
    have gT8 : Hid (w7.heap[G]? = some (.cells (bv T).toArray 24 (0, 0))) := by
      have h1 := g7.out
      rw [splice_eight m lm, ← dT] at h1
      exact h1
    have gZ8 : Hid (w7.heap[w.heap.size]? = some (.cells (bv z32).toArray 24 (0, 0))) := (hb7.block _ (by have := hb6.size; omega) (by intro e; injection e; omega)).trans ((hb6.block _ (by omega)).trans gZ.out)
    have hbw7 : Below w.heap.size w w7 := But.below (below_next hbV hbV.size hb6) hb7 (by omega) (by have := hbV.size; have := hb6.size; omega)
    have s7 : w.heap.size < w7.heap.size := (Array.getElem?_eq_some_iff.1 gZ8.out).1
    clear dT g7 g6 hr6 hb6 hb7 gZ gT hbV sT hcut hHeld
    go_wp2_with (with_reducible refine wpList_load_row rfl 24 (.tmp 4) rfl G rfl 24 (bv T).toArray (0, 0) _ gT8.out Tryd.underlying24 rfl (by rw [bv_size T HT.out]; kernel_rfl) ?_)
    refine (rsub_any w7 z32 T z32_len HT.out).mono ?_
    rintro e w8 ⟨l, rfl, e8, HL, hb8⟩
    have HE := vlt (show l = wo (ofF (-(m : Int))) by rw [e8.out, ln_z32, lT.out]; exact (wo_of (ofF_neg m)).symm)
    have gZ9 : Hid (w8.heap[w.heap.size]? = some (.cells (bv z32).toArray 24 (0, 0))) := (hb8.block _ s7).trans gZ8.out
    have hbw8 := below_next hbw7 hbw7.size hb8
    clear e8
    go_wp2_with (with_reducible refine wpList_store_row rfl 24 (.tmp 2) (.tmp 20) rfl w.heap.size (bv l).toArray rfl rfl 24 _ gZ9.out (by rw [bv_size l HL.out]; kernel_rfl) (by rw [bv_size l HL.out]; kernel_rfl) (all_oneCell_toArray (bv_one _)) ?_)
    refine bodyPost_ret (v := .agg (bv l).toArray) (results_cell_row Tryd.results26 _ _ w.heap.size 24 _ (0, 0) _ rfl (setRow_heap _ _ _ _ _ _ gZ9.out) Tryd.underlying24 rfl (by rw [bv_size l HL.out]; kernel_rfl)) rfl ⟨l, rfl, HE, HL, below_setRow hbw8 (by omega) _⟩
  · obtain ⟨m, hm⟩ : ∃ m : Nat, n = (m : Int) := ⟨n.natAbs, by omega⟩
    subst hm
    have lm : m < 18446744073709551616 := by omega
    go_enter Tryd.func26, Tryd.ntmps26
    go_upto_region 1 with fail
    rw [HW.out]
    go_upto_region 4 with fail
    go_upto_region 5 with ((with_reducible refine wpList_store_row rfl 24 (.tmp 4) (.tmp 11) rfl W.heap.size (bv z32).toArray rfl rfl 24 _ (heap_alloc_new _ _) (by kernel_rfl) (by kernel_rfl) (all_oneCell_toArray (bv_one _)) ?_); rw [World.setRow_alloc_new])
    obtain ⟨V, hV⟩ : ∃ V, V = W.alloc (.cells (bv z32).toArray 24) := ⟨_, rfl⟩
    rw [← hV]
    have gZ : Hid (V.heap[w.heap.size]? = some (.cells (bv z32).toArray 24 (0, 0))) := by rw [hV]; exact (Below.heap_alloc _ _ _ (by omega)).trans hgZ.out
    have gT : Hid (V.heap[W.heap.size]? = some (.cells (bv z32).toArray 24 (0, 0))) := by rw [hV]; exact heap_alloc_new _ _
    have hbV : Below w.heap.size w V := by rw [hV]; exact hbW.alloc hbW.size _
    obtain ⟨G, hG⟩ : ∃ G, G = W.heap.size := ⟨_, rfl⟩
    rw [← hG] at gT hs ⊢
    clear hV hG hgZ hbW
    have sT : G < V.heap.size := (Array.getElem?_eq_some_iff.1 gT.out).1
    have hcut := cut_all Tryd.underlying24 Tryd.sizeByte G 0 (by decide)
    refine wp_region_held_drew (S := (fun _ => True)) (by kernel_rfl) (trivial) (fun hHeld => ?_)
    refine wpAnyH_take (i := 0) (oi := ⟨(some 12), _, _, _, _, _⟩) (v := ?vq2_0) rfl (by kernel_rfl) (by kernel_rfl) (by kernel_rfl) (fun _ _ _ h => h) (Or.inl ⟨by rfl, ?yq2_0⟩) hHeld ?_
    case yq2_0 => (intro W0 hSw; go_simp; try with_reducible rfl)
    try simp only [Act.put, List.setIfInBounds_toArray, List.set_cons_zero, List.set_cons_succ]
    refine wpAnyH_take (i := 1) (oi := ⟨(some 13), _, _, _, _, _⟩) (v := ?vq2_1) rfl (by kernel_rfl) (by kernel_rfl) (by kernel_rfl) (fun _ _ _ h => h) (Or.inl ⟨by rfl, ?yq2_1⟩) hHeld ?_
    case yq2_1 => (intro W0 hSw; go_simp; try with_reducible rfl)
    try simp only [Act.put, List.setIfInBounds_toArray, List.set_cons_zero, List.set_cons_succ]
    refine wpAnyH_ready (rs := [2]) (by kernel_rfl) (by simp) ?_
    refine AllReadyH.cons (i := 2) (o := ⟨(some 14), _, _, _, _, _⟩) rfl (fun K hK => ?_) AllReadyH.nil
    go_simp
    refine (rlittle8 m _ lm).mono ?_
    rintro e w6 ⟨A6, c6, rfl, hr6, hb6d⟩
    have hb6 : Below V.heap.size V w6 := below_undrew hb6d
    have g6 : Hid (w6.heap[G]? = some (.cells (bv z32).toArray 24 (0, 0))) := (hb6.block _ sT).trans gT.out
    refine hK.out _ _ (trivial) (fun hHeld => ?_)
    clear hK K
    try simp only [Act.put, List.setIfInBounds_toArray, List.set_cons_zero, List.set_cons_succ]
    refine wpAnyH_ready (rs := [3]) (by kernel_rfl) (by simp) ?_
    refine AllReadyH.cons (i := 3) (o := ⟨(some 15), _, _, _, _, _⟩) rfl (fun K hK => ?_) AllReadyH.nil
    refine step_copy_but rfl (.tmp 12) (.tmp 14) 47 rfl 5 Tryd.underlying47 Tryd.sizeByte G 0 32 32 8 c6 A6 (by rfl) (by rfl) (bv z32) 24 g6.out (le m 8) w6.heap.size hr6.byt (le_len _ _) (by decide) (by rw [bv_len, z32_len]; decide) w6 (But.refl _ _) ?_
    intro w7 g7 hb7
    refine hK.out _ _ (trivial) (fun hHeld => ?_)
    clear hK K
    try simp only [Act.put, List.setIfInBounds_toArray, List.set_cons_zero, List.set_cons_succ]
    refine wpAnyH_done (by kernel_rfl) ?_ _
    obtain ⟨T, dT, HT, lT, wT⟩ := const_word m (Nat.lt_trans lm (by decide))
    have gT8 : Hid (w7.heap[G]? = some (.cells (bv T).toArray 24 (0, 0))) := by
      have h1 := g7.out
      rw [splice_eight m lm, ← dT] at h1
      exact h1
    have gZ8 : Hid (w7.heap[w.heap.size]? = some (.cells (bv z32).toArray 24 (0, 0))) := (hb7.block _ (by have := hb6.size; omega) (by intro e; injection e; omega)).trans ((hb6.block _ (by omega)).trans gZ.out)
    have hbw7 : Below w.heap.size w w7 := But.below (below_next hbV hbV.size hb6) hb7 (by omega) (by have := hbV.size; have := hb6.size; omega)
    have s7 : w.heap.size < w7.heap.size := (Array.getElem?_eq_some_iff.1 gZ8.out).1
    clear dT g7 g6 hr6 hb6 hb7 gZ gT hbV sT hcut hHeld
    have HE := vlt (show T = wo (ofF (m : Int)) by rw [wT.out]; exact wo_of (by rw [ofF_nat, Nat.mod_mod]))
    go_wp2_with (first
      | (with_reducible refine wpList_load_row rfl 24 (.tmp 4) rfl G rfl 24 (bv T).toArray (0, 0) _ gT8.out Tryd.underlying24 rfl (by rw [bv_size T HT.out]; kernel_rfl) ?_)
      | (with_reducible refine wpList_store_row rfl 24 (.tmp 2) (.tmp 21) rfl w.heap.size (bv T).toArray rfl rfl 24 _ gZ8.out (by rw [bv_size T HT.out]; kernel_rfl) (by rw [bv_size T HT.out]; kernel_rfl) (all_oneCell_toArray (bv_one _)) ?_))
    refine bodyPost_ret (v := .agg (bv T).toArray) (results_cell_row Tryd.results26 _ _ w.heap.size 24 _ (0, 0) _ rfl (setRow_heap _ _ _ _ _ _ gZ8.out) Tryd.underlying24 rfl (by rw [bv_size T HT.out]; kernel_rfl)) rfl ⟨T, rfl, HE, HT, below_setRow hbw7 (by omega) _⟩
end Go.Proofs.YtpnodegmegpooaaDoor
