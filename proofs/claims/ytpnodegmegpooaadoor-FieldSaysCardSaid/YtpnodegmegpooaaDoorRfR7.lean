/-
  Contract of the document's own root: the number's first root, or none. Conditions: pieces nearly of 16 bits.
-/
import Derived.Test.YtpnodegmegpooaaDoorRfN7
import Derived.Test.YtpnodegmegpooaaDoorRegC
import Derived.Test.YtpnodegmegpooaaDoorFdR
import Derived.Test.YtpnodegmegpooaaDoorFdY0
namespace Go.Proofs.YtpnodegmegpooaaDoor
open Go.RowKit

/-- The rows of the first exponent. -/
def erow : Nat → List UInt8
  | 0 => z32
  | k + 1 => (erow k).set k 255
theorem erow_len : ∀ k, (erow k).length = 32
  | 0 => rfl
  | k + 1 => by rw [erow, List.length_set, erow_len k]
def ewd : List UInt8 := ((erow 31).set 0 254).set 31 15
theorem ewd_len : ewd.length = 32 := by rw [ewd, List.length_set, List.length_set, erow_len]
theorem ewd_ln : ln ewd = E8 := by decide +kernel
/-- The second exponent; the power of two that it stands for. -/
def Q4 : Nat := 14474011154664524427946373126085988481658748083205070504932198000989141204987
theorem q4_ln : ln (halfB (halfB (bel 1))) = Q4 := by decide +kernel
theorem q4_trn : 2 ^ Q4 % FP = TRN % FP := by
  have h := pmod_ok FP 256 2 Q4 (by decide)
  rw [← h]
  decide +kernel
theorem fv_of {l : List Int} {N M : Nat} (h : Fv l N) (e : N % FP = M % FP) : Fv l M :=
  ⟨h.1, by rw [h.2, ← Int.natCast_emod, ← Int.natCast_emod, e]⟩
def rawX (N X : Nat) : List UInt8 × Bool :=
  if X * X % FP = N % FP then (wo X, true)
  else if (X * TRN) * (X * TRN) % FP = N % FP then (wo (X * TRN), true) else (z32, false)
def rawOf (N : Nat) : List UInt8 × Bool := rawX N (N ^ E8)
def two16 : List Int := 2 :: List.replicate 15 0
theorem two16_set : (i64v z16).set 0 (.int .i64 2) = i64v two16 := by kernel_rfl
theorem two16_fv : Fv two16 2 := ⟨⟨2, List.replicate 15 0, rfl, rfl, fun y hy => by rw [List.eq_of_mem_replicate hy]; decide, by decide, by decide⟩, by decide⟩
theorem wo_dec (N M : Nat) : decide (wo N = wo M) = decide (N % FP = M % FP) := by
  by_cases h : N % FP = M % FP
  · rw [decide_eq_true h, decide_eq_true (wo_of h)]
  · rw [decide_eq_false h, decide_eq_false fun e => h (wo_inj e)]

set_option maxRecDepth 100000 in
set_option maxHeartbeats 4000000 in
theorem rroot_any (w : World) (a : List Int) (N : Nat) (ha : Fv a N) :
    Calls Tryd.prog 34 #[.agg (i64v a).toArray] w fun e w' => ∃ l ok, e = .returned (.tuple #[.agg (bv l).toArray, .bool ok]) ∧ Vlt ((l, ok) = rawOf N) ∧ Hid (l.length = 32) ∧ Below w.heap.size w w' := by
  have hzf := zero_fe
  have hzw := zero_word
  have hnz := i64v_z16_ne
  have htwo := two16_set
  obtain ⟨TW, hTW⟩ : ∃ TW, TW = two16 := ⟨_, rfl⟩
  rw [← hTW] at htwo
  have HTW := vlt (show Fv TW 2 by rw [hTW]; exact two16_fv)
  clear hTW
  obtain ⟨W, hW, hgA, hgZ, hbW, hsW⟩ := pair_new w (i64v a).toArray (bv z32).toArray 41 24
  have HW := Lib.hid hW
  have NA := vlt ha
  have HS := Lib.hid (i64v_size a ha.1.len)
  have hs0 : w.heap.size + 1 < W.heap.size := by have := hsW.out; omega
  clear hW ha hsW
  go_enter Tryd.func34, Tryd.ntmps34
  go_upto_region 1 with fail
  rw [HW.out]
  go_wp2_with (with_reducible refine wpList_load_row rfl 41 (.tmp 1) rfl w.heap.size rfl 41 (i64v a).toArray (0, 0) _ hgA.out Tryd.underlying41 rfl (by rw [HS.out]; kernel_rfl) ?_)
  refine (rout_any W a NA.out.1 N NA.out.2).mono ?_
  rintro e w1 ⟨WT, rfl, eW, HWT, hb1⟩
  have hbw1 := below_next hbW hbW.size hb1
  have gA1 := Lib.hid ((hb1.block _ (by omega : w.heap.size < W.heap.size)).trans hgA.out)
  have gZ1 := Lib.hid ((hb1.block _ hs0).trans hgZ.out)
  have hs1 := Nat.lt_of_lt_of_le hs0 hb1.size
  clear hgA hgZ hb1 hbW
  go_upto_region 2 with ((with_reducible refine wpList_store_row rfl 24 (.tmp 4) (.tmp 9) rfl w1.heap.size (bv WT).toArray rfl rfl 24 _ (heap_alloc_new _ _) (by rw [bv_size WT HWT.out]; kernel_rfl) (by rw [bv_size WT HWT.out]; kernel_rfl) (all_oneCell_toArray (bv_one _)) ?_); rw [World.setRow_alloc_new])
  obtain ⟨V, hV⟩ : ∃ V, V = w1.alloc (.cells (bv WT).toArray 24) := ⟨_, rfl⟩
  rw [← hV]
  have gAV : Hid (V.heap[w.heap.size]? = some (.cells (i64v a).toArray 41 (0, 0))) := by rw [hV]; exact (Below.heap_alloc _ _ _ (by omega)).trans gA1.out
  have gZV : Hid (V.heap[w.heap.size + 1]? = some (.cells (bv z32).toArray 24 (0, 0))) := by rw [hV]; exact (Below.heap_alloc _ _ _ (by omega)).trans gZ1.out
  have gTV : Hid (V.heap[w1.heap.size]? = some (.cells (bv WT).toArray 24 (0, 0))) := by rw [hV]; exact heap_alloc_new _ _
  have hbV : Below w.heap.size w V := by rw [hV]; exact hbw1.alloc hbw1.size _
  obtain ⟨GT, hG⟩ : ∃ G, G = w1.heap.size := ⟨_, rfl⟩
  rw [← hG] at gTV hs1 ⊢
  clear hV hG gA1 gZ1 hbw1
  have sTV : GT < V.heap.size := (Array.getElem?_eq_some_iff.1 gTV.out).1
  go_upto_region 3 with ((with_reducible refine wpList_store_row rfl 24 (.tmp 5) (.tmp 10) rfl V.heap.size (bv z32).toArray rfl rfl 24 _ (heap_alloc_new _ _) (by kernel_rfl) (by kernel_rfl) (all_oneCell_toArray (bv_one _)) ?_); rw [World.setRow_alloc_new])
  obtain ⟨V2, hV⟩ : ∃ V2, V2 = V.alloc (.cells (bv z32).toArray 24) := ⟨_, rfl⟩
  rw [← hV]
  have gA : Hid (V2.heap[w.heap.size]? = some (.cells (i64v a).toArray 41 (0, 0))) := by rw [hV]; exact (Below.heap_alloc _ _ _ (by omega)).trans gAV.out
  have gZ : Hid (V2.heap[w.heap.size + 1]? = some (.cells (bv z32).toArray 24 (0, 0))) := by rw [hV]; exact (Below.heap_alloc _ _ _ (by omega)).trans gZV.out
  have gT : Hid (V2.heap[GT]? = some (.cells (bv WT).toArray 24 (0, 0))) := by rw [hV]; exact (Below.heap_alloc _ _ _ (by omega)).trans gTV.out
  have gE : Hid (V2.heap[V.heap.size]? = some (.cells (bv z32).toArray 24 (0, 0))) := by rw [hV]; exact heap_alloc_new _ _
  have hbV2 : Below w.heap.size w V2 := by rw [hV]; exact hbV.alloc hbV.size _
  obtain ⟨GE, hG⟩ : ∃ G, G = V.heap.size := ⟨_, rfl⟩
  rw [← hG] at gE sTV ⊢
  clear hV hG gAV gZV gTV hbV
  have sE : GE < V2.heap.size := (Array.getElem?_eq_some_iff.1 gE.out).1
  go_wp2_with fail
  go_loopw [6] (fun s wr => ∃ k : Nat, k ≤ 31 ∧ s = .int .i64 (k : Int) ∧ Hid (wr.heap[GE]? = some (.cells (bv (erow k)).toArray 24 (0, 0))) ∧ But GE V2 wr) (fun s _ => 31 - (intOf s).toNat)
  case atStart => exact ⟨0, by omega, rfl, gE, But.refl _ _⟩
  case round =>
    obtain ⟨k, hk, rfl, hg, hbt⟩ := hrel
    by_cases hlt : k < 31
    · have f0 : wr.frozen? ⟨GE, k, none⟩ = false := frozen_of_row _ _ _ _ _ hg.out
      obtain ⟨u0, c0⟩ : ∃ u, wr.cell? ⟨GE, k, none⟩ = some u := by
        rw [cell_of_row _ _ _ _ _ _ hg.out]
        exact ⟨_, List.getElem?_toArray .. ▸ List.getElem?_eq_getElem (by rw [bv_len, erow_len]; omega)⟩
      have hset : Hid ((wr.setCell ⟨GE, k, none⟩ (.int .u8 255)).heap[GE]? = some (.cells (bv (erow (k + 1))).toArray 24 (0, 0))) := by
        have h1 := (world_set_cell hg.out k (.int .u8 255)).out
        rw [show (255 : Int) = ((255 : UInt8).toNat : Int) from rfl, bv_set] at h1
        exact h1
      have hb2 := hbt.set (i := k) (.int .u8 255)
      go_wp2
      go_roundw
      case rel => exact ⟨k + 1, by omega, by go_num, hset, hb2⟩
      case measure => simp [intOf]; omega
    · obtain rfl : k = 31 := by omega
      have f0 : wr.frozen? ⟨GE, 0, none⟩ = false := frozen_of_row _ _ _ _ _ hg.out
      have f1 : wr.frozen? ⟨GE, 31, none⟩ = false := frozen_of_row _ _ _ _ _ hg.out
      obtain ⟨u0, c0⟩ : ∃ u, wr.cell? ⟨GE, 0, none⟩ = some u := by
        rw [cell_of_row _ _ _ _ _ _ hg.out]
        exact ⟨_, List.getElem?_toArray .. ▸ List.getElem?_eq_getElem (by rw [bv_len, erow_len]; omega)⟩
      obtain ⟨u1, c1⟩ : ∃ u, wr.cell? ⟨GE, 31, none⟩ = some u := by
        rw [cell_of_row _ _ _ _ _ _ hg.out]
        exact ⟨_, List.getElem?_toArray .. ▸ List.getElem?_eq_getElem (by rw [bv_len, erow_len]; omega)⟩
      obtain ⟨T, hT⟩ : ∃ T, T = ewd := ⟨_, rfl⟩
      have HTV := vlt (show ln T = E8 by rw [hT, ewd_ln])
      have HTL := Lib.hid (show T.length = 32 by rw [hT, ewd_len])
      have hset : Hid (((wr.setCell ⟨GE, 0, none⟩ (.int .u8 254)).setCell ⟨GE, 31, none⟩ (.int .u8 15)).heap[GE]? = some (.cells (bv T).toArray 24 (0, 0))) := by
        have h1 := (world_set_cell (world_set_cell hg.out 0 (.int .u8 254)).out 31 (.int .u8 15)).out
        rw [show (254 : Int) = ((254 : UInt8).toNat : Int) from rfl, show (15 : Int) = ((15 : UInt8).toNat : Int) from rfl, bv_set, bv_set, show ((erow 31).set 0 254).set 31 15 = ewd from rfl, ← hT] at h1
        exact h1
      have hb2 := (hbt.set (i := 0) (.int .u8 254)).set (i := 31) (.int .u8 15)
      clear hT hg hbt
      go_upto_region 8 with fail
      generalize (wr.setCell ⟨GE, 0, none⟩ (.int .u8 254)).setCell ⟨GE, 31, none⟩ (.int .u8 15) = w3 at *
      have gA3 : Hid (w3.heap[w.heap.size]? = some (.cells (i64v a).toArray 41 (0, 0))) := (hb2.block _ (by omega) (by intro e; injection e; omega)).trans gA.out
      have gZ3 : Hid (w3.heap[w.heap.size + 1]? = some (.cells (bv z32).toArray 24 (0, 0))) := (hb2.block _ (by omega) (by intro e; injection e; omega)).trans gZ.out
      have gT3 : Hid (w3.heap[GT]? = some (.cells (bv WT).toArray 24 (0, 0))) := (hb2.block _ (by omega) (by intro e; injection e; omega)).trans gT.out
      have hbw3 : Below w.heap.size w w3 := But.below hbV2 hb2 (by omega) (by omega)
      have sE3 : GE < w3.heap.size := Nat.lt_of_lt_of_le sE hb2.size
      clear f0 f1 c0 c1 hb2
      go_wp2_with (first
        | (with_reducible refine wpList_load_row rfl 41 (.tmp 1) rfl w.heap.size rfl 41 (i64v a).toArray (0, 0) _ gA3.out Tryd.underlying41 rfl (by rw [HS.out]; kernel_rfl) ?_)
        | (with_reducible refine wpList_load_row rfl 24 (.tmp 5) rfl GE rfl 24 (bv T).toArray (0, 0) _ hset.out Tryd.underlying24 rfl (by rw [bv_size T HTL.out]; kernel_rfl) ?_))
      obtain ⟨X, hX⟩ : ∃ X, X = N ^ E8 := ⟨_, rfl⟩
      have HRAW := vlt (show rawOf N = rawX N X by rw [hX]; rfl)
      refine (rpower_any w3 a NA.out.1 T HTL.out).mono ?_
      rintro e w4 ⟨r, rfl, e4, HR, hb4⟩
      have hr := vlt (show Fv r X by have h := fv_pow NA.out e4.out; rw [HTV.out] at h; rw [hX]; exact h)
      have gZ4 := Lib.hid ((hb4.block _ (by omega : w.heap.size + 1 < w3.heap.size)).trans gZ3.out)
      have gT4 := Lib.hid ((hb4.block _ (by omega : GT < w3.heap.size)).trans gT3.out)
      have hbw4 := below_next hbw3 hbw3.size hb4
      have sE4 := Nat.lt_of_lt_of_le sE3 hb4.size
      clear hX e4 gA3 gZ3 gT3 hbw3 hb4 hset
      have hrs := Lib.hid (i64v_size r HR.out)
      go_upto_region 9 with ((with_reducible refine wpList_store_row rfl 41 (.tmp 7) (.tmp 21) rfl w4.heap.size (i64v r).toArray rfl rfl 41 _ (heap_alloc_new _ _) (by rw [hrs.out]; kernel_rfl) (by rw [hrs.out]; kernel_rfl) (all_oneCell_toArray (i64v_one _)) ?_); rw [World.setRow_alloc_new])
      obtain ⟨V3, hV⟩ : ∃ V3, V3 = w4.alloc (.cells (i64v r).toArray 41) := ⟨_, rfl⟩
      rw [← hV]
      have gZ5 : Hid (V3.heap[w.heap.size + 1]? = some (.cells (bv z32).toArray 24 (0, 0))) := by rw [hV]; exact (Below.heap_alloc _ _ _ (by omega)).trans gZ4.out
      have gT5 : Hid (V3.heap[GT]? = some (.cells (bv WT).toArray 24 (0, 0))) := by rw [hV]; exact (Below.heap_alloc _ _ _ (by omega)).trans gT4.out
      have gR : Hid (V3.heap[w4.heap.size]? = some (.cells (i64v r).toArray 41 (0, 0))) := by rw [hV]; exact heap_alloc_new _ _
      have hbV3 : Below w.heap.size w V3 := by rw [hV]; exact hbw4.alloc hbw4.size _
      obtain ⟨GR, hG⟩ : ∃ G, G = w4.heap.size := ⟨_, rfl⟩
      rw [← hG] at gR sE4 ⊢
      clear hV hG gZ4 gT4 hbw4
      have sR : GR < V3.heap.size := (Array.getElem?_eq_some_iff.1 gR.out).1
      have sT : GT < V3.heap.size := by omega
      have sZ : w.heap.size + 1 < V3.heap.size := by omega
      refine wp_region_held_drew (S := (fun W' => Below V3.heap.size V3 W')) (by kernel_rfl) ((Below.refl _ _).drew) (fun hHeld => ?_)
      refine wpAnyH_take (i := 0) (oi := ⟨(some 22), _, _, _, _, _⟩) (v := _) rfl (by kernel_rfl) (by kernel_rfl) (by kernel_rfl) (fun _ _ _ h => h) (yieldsIf_load_mid (by rfl) _ _ rfl GR 0 rfl (i64v r) _ (fun W' hW' => range_row ((hW'.block _ sR).trans gR.out)) (Tryd.underlying41) (rfl) (by rw [i64v_len, HR.out]; kernel_rfl)) hHeld ?_
      try simp only [Act.put, List.setIfInBounds_toArray, List.set_cons_zero, List.set_cons_succ]
      refine wpAnyH_take (i := 1) (oi := ⟨(some 23), _, _, _, _, _⟩) (v := _) rfl (by kernel_rfl) (by kernel_rfl) (by kernel_rfl) (fun _ _ _ h => h) (yieldsIf_load_mid (by rfl) _ _ rfl GR 0 rfl (i64v r) _ (fun W' hW' => range_row ((hW'.block _ sR).trans gR.out)) (Tryd.underlying41) (rfl) (by rw [i64v_len, HR.out]; kernel_rfl)) hHeld ?_
      try simp only [Act.put, List.setIfInBounds_toArray, List.set_cons_zero, List.set_cons_succ]
      refine wpAnyH_take (i := 4) (oi := ⟨(some 26), _, _, _, _, _⟩) (v := _) rfl (by kernel_rfl) (by kernel_rfl) (by kernel_rfl) (fun _ _ _ h => h) (yieldsIf_load_mid (by rfl) _ _ rfl GT 0 rfl (bv WT) _ (fun W' hW' => range_row ((hW'.block _ sT).trans gT5.out)) (Tryd.underlying24) (rfl) (by rw [bv_len, HWT.out]; kernel_rfl)) hHeld ?_
      try simp only [Act.put, List.setIfInBounds_toArray, List.set_cons_zero, List.set_cons_succ]
      refine wpAnyH_ready (rs := [2]) (by kernel_rfl) (by simp) ?_
      refine AllReadyH.cons (i := 2) (o := ⟨(some 24), _, _, _, _, _⟩) rfl (fun K hK => ?_) AllReadyH.nil
      go_simp
      refine (rtimes_any _ r r hr.out.1 hr.out.1).mono ?_
      rintro e w5 ⟨q, rfl, e5, HQ, hb5⟩
      have hq := vlt (fv_mul hr.out hr.out e5.out)
      refine hK.out _ _ (below_next hHeld hHeld.size hb5) (fun hHeld => ?_)
      clear hK K
      try simp only [Act.put, List.setIfInBounds_toArray, List.set_cons_zero, List.set_cons_succ]
      refine wpAnyH_ready (rs := [3]) (by kernel_rfl) (by simp) ?_
      refine AllReadyH.cons (i := 3) (o := ⟨(some 25), _, _, _, _, _⟩) rfl (fun K hK => ?_) AllReadyH.nil
      go_simp
      refine (rout_any _ q hq.out.1 (X * X) hq.out.2).mono ?_
      rintro e w6 ⟨l, rfl, el, HLn, hb6⟩
      refine hK.out _ _ (below_next hHeld hHeld.size hb6) (fun hHeld => ?_)
      clear hK K
      try simp only [Act.put, List.setIfInBounds_toArray, List.set_cons_zero, List.set_cons_succ]
      have heq := eql_bytes (P := Tryd.prog) Tryd.underlying24 Tryd.underlying5 Tryd.sizeByte l WT HLn.out HWT.out
      have HD := vlt (show decide (l = WT) = decide (X * X % FP = N % FP) by rw [el.out, eW.out, wo_dec])
      generalize decide (l = WT) = b at *
      refine wpAnyH_take (i := 5) (oi := ⟨(some 27), _, _, _, _, _⟩) (v := ?vq1_0) rfl (by kernel_rfl) (by kernel_rfl) (by kernel_rfl) (fun _ _ _ h => h) (Or.inl ⟨by rfl, ?yq1_0⟩) hHeld ?_
      case yq1_0 => (intro W0 hSw; go_simp; try with_reducible rfl)
      try simp only [Act.put, List.setIfInBounds_toArray, List.set_cons_zero, List.set_cons_succ]
      refine wpAnyH_done (by kernel_rfl) ?_ _
      clear heq hq e5 el hb5 hb6
      cases b
      · have HN : ¬ X * X % FP = N % FP := by have h := HD.out; simpa using h.symm
        have HNV := vlt HN
        clear HN HD
        go_upto_region 11 with fail
        refine c_start (S := (fun W' => Below V3.heap.size V3 W')) 7 (by kernel_rfl) (hHeld.drew) (fun hHeld => ?_)
        refine c_read (i := 0) (oi := ⟨(some 30), _, _, _, _, _⟩) (v := _) rfl (by decide) (by kernel_rfl) (by kernel_rfl) (by kernel_rfl) (by kernel_rfl) (by kernel_rfl) (fun _ _ _ h => h) (yieldsIf_load_mid (by rfl) _ _ rfl GR 0 rfl (i64v r) _ (fun W' hW' => range_row ((hW'.block _ sR).trans gR.out)) (Tryd.underlying41) (rfl) (by rw [i64v_len, HR.out]; kernel_rfl)) hHeld ?_
        try simp only [Act.put, List.setIfInBounds_toArray, List.set_cons_zero, List.set_cons_succ]
        refine c_take (i := 1) (oi := ⟨(some 31), _, _, _, _, _⟩) (v := ?vq2_0) rfl (by decide) (by kernel_rfl) (by kernel_rfl) (by kernel_rfl) (fun _ _ _ h => h) (Or.inl ⟨by rfl, ?yq2_0⟩) hHeld ?_
        case yq2_0 => (intro W0 hSw; go_simp; try with_reducible rfl)
        try simp only [Act.put, List.setIfInBounds_toArray, List.set_cons_zero, List.set_cons_succ]
        refine c_step (i := 2) (o := ⟨(some 32), _, _, _, _, _⟩) (by kernel_rfl) rfl (fun K hK => ?_)
        go_simp
        refine (below_any _ 1 (by decide) (by decide)).mono ?_
        rintro e y1 ⟨b1, rfl, f1, HB1, hc1⟩
        refine hK.out _ _ (below_next hHeld hHeld.size hc1) (fun hHeld => ?_)
        clear hK K
        try simp only [Act.put, List.setIfInBounds_toArray, List.set_cons_zero, List.set_cons_succ]
        refine c_step (i := 3) (o := ⟨(some 33), _, _, _, _, _⟩) (by kernel_rfl) rfl (fun K hK => ?_)
        go_simp
        refine (half_any _ b1 HB1.out).mono ?_
        rintro e y2 ⟨b2, rfl, f2, HB2, hc2⟩
        refine hK.out _ _ (below_next hHeld hHeld.size hc2) (fun hHeld => ?_)
        clear hK K
        try simp only [Act.put, List.setIfInBounds_toArray, List.set_cons_zero, List.set_cons_succ]
        refine c_step (i := 4) (o := ⟨(some 34), _, _, _, _, _⟩) (by kernel_rfl) rfl (fun K hK => ?_)
        go_simp
        refine (half_any _ b2 HB2.out).mono ?_
        rintro e y3 ⟨b3, rfl, f3, HB3, hc3⟩
        refine hK.out _ _ (below_next hHeld hHeld.size hc3) (fun hHeld => ?_)
        clear hK K
        try simp only [Act.put, List.setIfInBounds_toArray, List.set_cons_zero, List.set_cons_succ]
        refine c_step (i := 5) (o := ⟨(some 35), _, _, _, _, _⟩) (by kernel_rfl) rfl (fun K hK => ?_)
        go_simp
        refine (rpower_any _ TW HTW.out.1 b3 HB3.out).mono ?_
        rintro e y4 ⟨s, rfl, f4, HSS, hc4⟩
        refine hK.out _ _ (below_next hHeld hHeld.size hc4) (fun hHeld => ?_)
        clear hK K
        try simp only [Act.put, List.setIfInBounds_toArray, List.set_cons_zero, List.set_cons_succ]
        have hs := vlt (show Fv s TRN by have h := fv_pow HTW.out f4.out; rw [f3.out, f2.out, f1.out, q4_ln] at h; exact fv_of h q4_trn)
        refine c_step (i := 6) (o := ⟨(some 36), _, _, _, _, _⟩) (by kernel_rfl) rfl (fun K hK => ?_)
        go_simp
        refine (rtimes_any _ r s hr.out.1 hs.out.1).mono ?_
        rintro e y5 ⟨t, rfl, f5, HTT, hc5⟩
        refine hK.out _ _ (below_next hHeld hHeld.size hc5) (fun hHeld => ?_)
        clear hK K
        try simp only [Act.put, List.setIfInBounds_toArray, List.set_cons_zero, List.set_cons_succ]
        have ht := vlt (show Fv t (X * TRN) from fv_mul hr.out hs.out f5.out)
        have hH5 := hHeld
        have gR7 : Hid (y5.heap[GR]? = some (.cells (i64v r).toArray 41 (0, 0))) := (hH5.block _ sR).trans gR.out
        clear f1 f2 f3 f4 f5 hc1 hc2 hc3 hc4 hc5 hs
        refine c_call (S' := (fun _ => True)) (o := ⟨none, _, _, _, _, _⟩) (by kernel_rfl) (by kernel_rfl) rfl (fun K hK => ?_)
        clear hHeld
        refine step_store_row rfl 41 (.tmp 7) (.tmp 36) (by rfl) GR (i64v t).toArray (by rfl) (by rfl) 41 _ gR7.out (by rw [i64v_size t HTT.out]; kernel_rfl) (by rw [i64v_size t HTT.out, hrs.out]) (all_oneCell_toArray (i64v_one _)) ?_
        refine hK.out _ _ (trivial) (fun hHeld => ?_)
        clear hK K
        try simp only [Act.put]
        refine wpAnyH_done (by kernel_rfl) ?_ _
        obtain ⟨U, hU⟩ : ∃ U, U = y5.setRow GR (i64v t).toArray := ⟨_, rfl⟩
        rw [← hU]
        have uT : Hid (U.heap[GT]? = some (.cells (bv WT).toArray 24 (0, 0))) := by rw [hU]; exact (setRow_other _ _ _ _ (by omega)).trans ((hH5.block _ sT).trans gT5.out)
        have uZ : Hid (U.heap[w.heap.size + 1]? = some (.cells (bv z32).toArray 24 (0, 0))) := by rw [hU]; exact (setRow_other _ _ _ _ (by omega)).trans ((hH5.block _ sZ).trans gZ5.out)
        have uR : Hid (U.heap[GR]? = some (.cells (i64v t).toArray 41 (0, 0))) := by rw [hU]; exact setRow_heap _ _ _ _ _ _ gR7.out
        have hbU : Below w.heap.size w U := by rw [hU]; exact below_setRow (below_next hbV3 hbV3.size hH5) (by omega) _
        clear hU hH5 gR7 gR gT5 gZ5 hHeld
        have sRU : GR < U.heap.size := (Array.getElem?_eq_some_iff.1 uR.out).1
        have sTU : GT < U.heap.size := by omega
        have sZU : w.heap.size + 1 < U.heap.size := by omega
        go_upto_region 12 with fail
        refine wp_region_held_drew (S := (fun W' => Below U.heap.size U W')) (by kernel_rfl) ((Below.refl _ _).drew) (fun hHeld => ?_)
        refine wpAnyH_take (i := 0) (oi := ⟨(some 37), _, _, _, _, _⟩) (v := _) rfl (by kernel_rfl) (by kernel_rfl) (by kernel_rfl) (fun _ _ _ h => h) (yieldsIf_load_mid (by rfl) _ _ rfl GR 0 rfl (i64v t) _ (fun W' hW' => range_row ((hW'.block _ sRU).trans uR.out)) (Tryd.underlying41) (rfl) (by rw [i64v_len, HTT.out]; kernel_rfl)) hHeld ?_
        try simp only [Act.put, List.setIfInBounds_toArray, List.set_cons_zero, List.set_cons_succ]
        refine wpAnyH_take (i := 1) (oi := ⟨(some 38), _, _, _, _, _⟩) (v := _) rfl (by kernel_rfl) (by kernel_rfl) (by kernel_rfl) (fun _ _ _ h => h) (yieldsIf_load_mid (by rfl) _ _ rfl GR 0 rfl (i64v t) _ (fun W' hW' => range_row ((hW'.block _ sRU).trans uR.out)) (Tryd.underlying41) (rfl) (by rw [i64v_len, HTT.out]; kernel_rfl)) hHeld ?_
        try simp only [Act.put, List.setIfInBounds_toArray, List.set_cons_zero, List.set_cons_succ]
        refine wpAnyH_take (i := 4) (oi := ⟨(some 41), _, _, _, _, _⟩) (v := _) rfl (by kernel_rfl) (by kernel_rfl) (by kernel_rfl) (fun _ _ _ h => h) (yieldsIf_load_mid (by rfl) _ _ rfl GT 0 rfl (bv WT) _ (fun W' hW' => range_row ((hW'.block _ sTU).trans uT.out)) (Tryd.underlying24) (rfl) (by rw [bv_len, HWT.out]; kernel_rfl)) hHeld ?_
        try simp only [Act.put, List.setIfInBounds_toArray, List.set_cons_zero, List.set_cons_succ]
        refine wpAnyH_ready (rs := [2]) (by kernel_rfl) (by simp) ?_
        refine AllReadyH.cons (i := 2) (o := ⟨(some 39), _, _, _, _, _⟩) rfl (fun K hK => ?_) AllReadyH.nil
        go_simp
        refine (rtimes_any _ t t ht.out.1 ht.out.1).mono ?_
        rintro e y6 ⟨q2, rfl, e5, HQ2, hb5⟩
        have hq := vlt (fv_mul ht.out ht.out e5.out)
        refine hK.out _ _ (below_next hHeld hHeld.size hb5) (fun hHeld => ?_)
        clear hK K
        try simp only [Act.put, List.setIfInBounds_toArray, List.set_cons_zero, List.set_cons_succ]
        refine wpAnyH_ready (rs := [3]) (by kernel_rfl) (by simp) ?_
        refine AllReadyH.cons (i := 3) (o := ⟨(some 40), _, _, _, _, _⟩) rfl (fun K hK => ?_) AllReadyH.nil
        go_simp
        refine (rout_any _ q2 hq.out.1 ((X * TRN) * (X * TRN)) hq.out.2).mono ?_
        rintro e y7 ⟨l2, rfl, el, HLn2, hb6⟩
        refine hK.out _ _ (below_next hHeld hHeld.size hb6) (fun hHeld => ?_)
        clear hK K
        try simp only [Act.put, List.setIfInBounds_toArray, List.set_cons_zero, List.set_cons_succ]
        have heq := eql_bytes (P := Tryd.prog) Tryd.underlying24 Tryd.underlying5 Tryd.sizeByte l2 WT HLn2.out HWT.out
        have HD := vlt (show decide (l2 = WT) = decide ((X * TRN) * (X * TRN) % FP = N % FP) by rw [el.out, eW.out, wo_dec])
        generalize decide (l2 = WT) = b at *
        refine wpAnyH_take (i := 5) (oi := ⟨(some 42), _, _, _, _, _⟩) (v := ?vq3_0) rfl (by kernel_rfl) (by kernel_rfl) (by kernel_rfl) (fun _ _ _ h => h) (Or.inl ⟨by rfl, ?yq3_0⟩) hHeld ?_
        case yq3_0 => (intro W0 hSw; go_simp; try with_reducible rfl)
        try simp only [Act.put, List.setIfInBounds_toArray, List.set_cons_zero, List.set_cons_succ]
        refine wpAnyH_done (by kernel_rfl) ?_ _
        clear heq hq e5 el hb5 hb6
        have hb7 := below_next hbU hbU.size hHeld
        have vR := Lib.hid ((hHeld.block _ sRU).trans uR.out)
        have vZ := Lib.hid ((hHeld.block _ sZU).trans uZ.out)
        have svZ := Nat.lt_of_lt_of_le sZU hHeld.size
        clear hHeld uR uZ uT hbU
        cases b
        · have HN : ¬ (X * TRN) * (X * TRN) % FP = N % FP := by have h := HD.out; simpa using h.symm
          have HF := vlt (show (z32, false) = rawOf N by rw [HRAW.out, rawX, if_neg HNV.out, if_neg HN])
          clear HD HN
          go_wp2_with (with_reducible refine wpList_store_row rfl 24 (.tmp 2) (.tmp 45) rfl (w.heap.size + 1) (bv z32).toArray rfl rfl 24 _ vZ.out (by kernel_rfl) (by kernel_rfl) (all_oneCell_toArray (bv_one _)) ?_)
          refine bodyPost_ret (v := .tuple #[.agg (bv z32).toArray, .bool false]) (results_row_tmp Tryd.results34 _ _ (w.heap.size + 1) 24 _ (0, 0) _ rfl (setRow_heap _ _ _ _ _ _ vZ.out) Tryd.underlying24 rfl (by kernel_rfl) _ rfl) rfl ⟨z32, false, rfl, HF, z32_len, below_setRow hb7 (by omega) _⟩
        · have HN : (X * TRN) * (X * TRN) % FP = N % FP := by have h := HD.out; simpa using h.symm
          have HYV := vlt HN
          clear HN HD
          go_wp2_with (with_reducible refine wpList_load_row rfl 41 (.tmp 7) rfl GR rfl 41 (i64v t).toArray (0, 0) _ vR.out Tryd.underlying41 rfl (by rw [i64v_size t HTT.out]; kernel_rfl) ?_)
          refine (rout_any _ t ht.out.1 (X * TRN) ht.out.2).mono ?_
          rintro e w9 ⟨l9, rfl, e9, HL9, hb9⟩
          have gZ9 : Hid (w9.heap[w.heap.size + 1]? = some (.cells (bv z32).toArray 24 (0, 0))) := (hb9.block _ svZ).trans vZ.out
          have hbw9 := below_next hb7 hb7.size hb9
          have s9 : w.heap.size + 1 < w9.heap.size := Nat.lt_of_lt_of_le svZ hb9.size
          have HF := vlt (show (l9, true) = rawOf N by rw [HRAW.out, rawX, if_neg HNV.out, if_pos HYV.out, e9.out])
          clear e9
          go_wp2_with (with_reducible refine wpList_store_row rfl 24 (.tmp 2) (.tmp 44) rfl (w.heap.size + 1) (bv l9).toArray rfl rfl 24 _ gZ9.out (by rw [bv_size l9 HL9.out]; kernel_rfl) (by rw [bv_size l9 HL9.out]; kernel_rfl) (all_oneCell_toArray (bv_one _)) ?_)
          refine bodyPost_ret (v := .tuple #[.agg (bv l9).toArray, .bool true]) (results_row_tmp Tryd.results34 _ _ (w.heap.size + 1) 24 _ (0, 0) _ rfl (setRow_heap _ _ _ _ _ _ gZ9.out) Tryd.underlying24 rfl (by rw [bv_size l9 HL9.out]; kernel_rfl) _ rfl) rfl ⟨l9, true, rfl, HF, HL9, below_setRow hbw9 (by omega) _⟩
      · have HN : X * X % FP = N % FP := by have h := HD.out; simpa using h.symm
        have HYV := vlt HN
        clear HN HD
        have hb7 := below_next hbV3 hbV3.size hHeld
        have vR := Lib.hid ((hHeld.block _ sR).trans gR.out)
        have vZ := Lib.hid ((hHeld.block _ sZ).trans gZ5.out)
        have svZ := Nat.lt_of_lt_of_le sZ hHeld.size
        clear hHeld
        go_wp2_with (with_reducible refine wpList_load_row rfl 41 (.tmp 7) rfl GR rfl 41 (i64v r).toArray (0, 0) _ vR.out Tryd.underlying41 rfl (by rw [i64v_size r HR.out]; kernel_rfl) ?_)
        refine (rout_any _ r hr.out.1 (X) hr.out.2).mono ?_
        rintro e w9 ⟨l9, rfl, e9, HL9, hb9⟩
        have gZ9 : Hid (w9.heap[w.heap.size + 1]? = some (.cells (bv z32).toArray 24 (0, 0))) := (hb9.block _ svZ).trans vZ.out
        have hbw9 := below_next hb7 hb7.size hb9
        have s9 : w.heap.size + 1 < w9.heap.size := Nat.lt_of_lt_of_le svZ hb9.size
        have HF := vlt (show (l9, true) = rawOf N by rw [HRAW.out, rawX, if_pos HYV.out, e9.out])
        clear e9
        go_wp2_with (with_reducible refine wpList_store_row rfl 24 (.tmp 2) (.tmp 29) rfl (w.heap.size + 1) (bv l9).toArray rfl rfl 24 _ gZ9.out (by rw [bv_size l9 HL9.out]; kernel_rfl) (by rw [bv_size l9 HL9.out]; kernel_rfl) (all_oneCell_toArray (bv_one _)) ?_)
        refine bodyPost_ret (v := .tuple #[.agg (bv l9).toArray, .bool true]) (results_row_tmp Tryd.results34 _ _ (w.heap.size + 1) 24 _ (0, 0) _ rfl (setRow_heap _ _ _ _ _ _ gZ9.out) Tryd.underlying24 rfl (by rw [bv_size l9 HL9.out]; kernel_rfl) _ rfl) rfl ⟨l9, true, rfl, HF, HL9, below_setRow hbw9 (by omega) _⟩
end Go.Proofs.YtpnodegmegpooaaDoor
