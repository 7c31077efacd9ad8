/-
  Contracts of the document's own In, Plus, Minus. Conditions: pieces nearly of 16 bits.
-/
import Derived.Test.YtpnodegmegpooaaDoorRfC7
namespace Go.Proofs.YtpnodegmegpooaaDoor
open Go.RowKit

theorem ln_pair (b : List UInt8) (i c d : Nat) (hc : b[2 * i]? = some (UInt8.ofNat c)) (hd : b[2 * i + 1]? = some (UInt8.ofNat d)) (lc : c < 256) (ld : d < 256) (h : 2 * i + 1 < b.length) :
    ((ln (b.take (2 * (i + 1))) : Nat) : Int) = (ln (b.take (2 * i)) : Int) + ((c : Int) + (d : Int) * 256 - 0) * 65536 ^ i := by
  rw [show 2 * (i + 1) = 2 * i + 1 + 1 by omega, take_at hd, ln_snoc, take_at hc, ln_snoc]
  simp only [List.length_append, List.length_take, List.length_cons, List.length_nil]
  rw [Nat.min_eq_left (by omega), Nat.pow_mul, show (256 : Nat) ^ 2 = 65536 by decide, Nat.pow_succ, Nat.pow_mul, show (256 : Nat) ^ 2 = 65536 by decide]
  rw [UInt8.toNat_ofNat', UInt8.toNat_ofNat', show (2 : Nat) ^ 8 = 256 by decide, Nat.mod_eq_of_lt lc, Nat.mod_eq_of_lt ld]
  simp only [Int.natCast_add, Int.natCast_mul, Int.natCast_pow, Int.cast_ofNat_Int]
  grind
theorem byte_ex (b : List UInt8) (k : Nat) (h : k < b.length) : ∃ c : Nat, c < 256 ∧ b[k]? = some (UInt8.ofNat c) := ⟨b[k].toNat, UInt8.toNat_lt _, by rw [List.getElem?_eq_getElem h, UInt8.ofNat_toNat]⟩
theorem byte_cell' {w : World} {g k : Nat} {l : List UInt8} {t : TypeId} {c : Nat} (hg : w.heap[g]? = some (.cells (bv l).toArray t (0, 0))) (lc : c < 256) (hb : l[k]? = some (UInt8.ofNat c)) : w.cell? ⟨g, k, none⟩ = some (.int .u8 (c : Int)) := by
  have := byte_cell hg hb
  rwa [UInt8.toNat_ofNat', show (2 : Nat) ^ 8 = 256 by decide, Nat.mod_eq_of_lt lc] at this
set_option maxRecDepth 100000 in
set_option maxHeartbeats 2000000 in
theorem rin_any (w : World) (b : List UInt8) (hb : b.length = 32) :
    Calls Tryd.prog 35 #[.agg (bv b).toArray] w fun e w' => ∃ r, e = .returned (.agg (i64v r).toArray) ∧ Vlt (fvs r = (ln b : Int) ∧ Can r) ∧ Hid (r.length = 16) ∧ Below w.heap.size w w' := by
  have hzf := zero_fe
  obtain ⟨W, hW, hgA, hgZ, hbW, hsW⟩ := pair_new w (bv b).toArray (i64v z16).toArray 24 41
  have HW := Lib.hid hW
  have HB := Lib.hid hb
  have hs : w.heap.size + 1 < W.heap.size := by have := hsW.out; omega
  clear hW hb hsW
  go_enter Tryd.func35, Tryd.ntmps35
  go_upto_region 1 with fail
  rw [HW.out]
  go_upto_region 2 with ((with_reducible refine wpList_store_row rfl 41 (.tmp 3) (.tmp 5) rfl W.heap.size (i64v z16).toArray rfl rfl 41 _ (heap_alloc_new _ _) (by kernel_rfl) (by kernel_rfl) (all_oneCell_toArray (i64v_one _)) ?_); rw [World.setRow_alloc_new])
  obtain ⟨V, hV⟩ : ∃ V, V = W.alloc (.cells (i64v z16).toArray 41) := ⟨_, rfl⟩
  rw [← hV]
  have gA : Hid (V.heap[w.heap.size]? = some (.cells (bv b).toArray 24 (0, 0))) := by rw [hV]; exact (Below.heap_alloc _ _ _ (by omega)).trans hgA.out
  have gZ : Hid (V.heap[w.heap.size + 1]? = some (.cells (i64v z16).toArray 41 (0, 0))) := by rw [hV]; exact (Below.heap_alloc _ _ _ (by omega)).trans hgZ.out
  have gO : Hid (V.heap[W.heap.size]? = some (.cells (i64v z16).toArray 41 (0, 0))) := by rw [hV]; exact heap_alloc_new _ _
  have hbV : Below w.heap.size w V := by rw [hV]; exact hbW.alloc hbW.size _
  obtain ⟨R, hR⟩ : ∃ R, R = W.heap.size := ⟨_, rfl⟩
  rw [← hR] at gO hs ⊢
  clear hV hR hgA hgZ
  have hsV : R < V.heap.size := (Array.getElem?_eq_some_iff.1 gO.out).1
  go_wp2_with fail
  go_loopw [4] (fun s wr => ∃ (i : Nat) (o : List Int), i ≤ 16 ∧ s = .int .i64 (i : Int) ∧ Hid (wr.heap[R]? = some (.cells (i64v o).toArray 41 (0, 0))) ∧ Vlt (Fill o (ln (b.take (2 * i)) : Int) i (fun _ => 0) (fun x => 0 ≤ x ∧ x ≤ 65535)) ∧ But R V wr) (fun s _ => 16 - (intOf s).toNat)
  case atStart => exact ⟨0, z16, by omega, rfl, gO, vlt ⟨rfl, by rw [z16, fvs_zeros]; rfl, fun j _ _ => iat_zeros _ _, fun x hx => by rw [List.eq_of_mem_replicate hx]; decide⟩, But.refl _ _⟩
  case round =>
    obtain ⟨i, o, hi, rfl, hg, hF, hbt⟩ := hrel
    by_cases hlt : i < 16
    · have hgb : Hid (wr.heap[w.heap.size]? = some (.cells (bv b).toArray 24 (0, 0))) := (hbt.block _ (by omega) (by intro e; injection e; omega)).trans gA.out
      obtain ⟨c, lc, hc⟩ := byte_ex b (2 * i) (by rw [HB.out]; omega)
      obtain ⟨d, ld, hd⟩ := byte_ex b (2 * i + 1) (by rw [HB.out]; omega)
      have c0 := byte_cell' hgb.out lc hc
      have c1 := byte_cell' hgb.out ld hd
      have hL := vlt (ln_pair b i c d hc hd lc ld (by rw [HB.out]; omega))
      have hF2 := vlt (hF.out.step hlt ((c : Int) + (d : Int) * 256) (by omega))
      have f0 : wr.frozen? ⟨R, i, none⟩ = false := frozen_of_row _ _ _ _ _ hg.out
      have u0 := int_at hg.out i (by rw [hF.out.len]; exact hlt)
      have hs2 := world_set_cell hg.out i (.int .i64 ((c : Int) + (d : Int) * 256))
      rw [i64v_set] at hs2
      have hb2 := hbt.set (i := i) (.int .i64 ((c : Int) + (d : Int) * 256))
      clear hc hd
      generalize iat o i = oi at u0
      go_wp2_with fail
      go_region
      go_wp2
      go_roundw
      case rel => exact ⟨i + 1, _, by omega, by go_num, hs2, vlt (by have h := hF2.out; rw [← hL.out] at h; exact h), hb2.drew⟩
      case measure => simp [intOf]; omega
    · obtain rfl : i = 16 := by omega
      have HE := vlt (show fvs o = (ln b : Int) ∧ Can o from ⟨by rw [hF.out.val, List.take_of_length_le (by rw [HB.out]; decide)], hF.out.len, hF.out.bnd⟩)
      have HOL := Lib.hid hF.out.len
      have hsz := Lib.hid (i64v_size o hF.out.len)
      have hz : Hid (wr.heap[w.heap.size + 1]? = some (.cells (i64v z16).toArray 41 (0, 0))) := (hbt.block _ (by omega) (by intro e; injection e; omega)).trans gZ.out
      have hbw : Below w.heap.size w wr := But.below hbV hbt (by omega) (by omega)
      go_wp2_with (first
        | (with_reducible refine wpList_load_row rfl 41 (.tmp 3) rfl R rfl 41 (i64v o).toArray (0, 0) _ hg.out Tryd.underlying41 rfl (by rw [hsz.out]; kernel_rfl) ?_)
        | (with_reducible refine wpList_store_row rfl 41 (.tmp 2) (.tmp 25) rfl (w.heap.size + 1) (i64v o).toArray rfl rfl 41 _ hz.out (by rw [hsz.out]; kernel_rfl) (by rw [hsz.out]; kernel_rfl) (all_oneCell_toArray (i64v_one _)) ?_))
      refine bodyPost_ret (v := .agg (i64v o).toArray) (results_cell_row Tryd.results35 _ _ (w.heap.size + 1) 41 _ (0, 0) _ rfl (setRow_heap _ _ _ _ _ _ hz.out) Tryd.underlying41 rfl (by rw [hsz.out]; kernel_rfl)) rfl ⟨o, rfl, HE, HOL, below_setRow hbw (by omega) _⟩

set_option maxRecDepth 100000 in
set_option maxHeartbeats 2000000 in
theorem rplus_any (w : World) (a b : List Int) (hna : Near a) (hnb : Near b) :
    Calls Tryd.prog 38 #[.agg (i64v a).toArray, .agg (i64v b).toArray] w fun e w' => ∃ r, e = .returned (.agg (i64v r).toArray) ∧ Vlt (Near r ∧ fvs r % (FP : Int) = (fvs a + fvs b) % (FP : Int)) ∧ Hid (r.length = 16) ∧ Below w.heap.size w w' := by
  have hzf := zero_fe
  obtain ⟨W, hW, gA, gB, gZ, hbW, hsW⟩ := three_new w (i64v a).toArray (i64v b).toArray (i64v z16).toArray 41 41 41
  have HW := Lib.hid hW
  have NA := vlt hna
  have NB := vlt hnb
  have hs : w.heap.size + 2 < W.heap.size := by have := hsW.out; omega
  clear hW hna hnb hsW
  go_enter Tryd.func38, Tryd.ntmps38
  go_upto_region 1 with fail
  rw [HW.out]
  go_wp2_with fail
  go_loopw [5] (fun s wr => ∃ (i : Nat) (o : List Int), i ≤ 16 ∧ s = .int .i64 (i : Int) ∧ Hid (wr.heap[w.heap.size]? = some (.cells (i64v o).toArray 41 (0, 0))) ∧ Vlt (Fill o (fvs a + fvs (b.take i)) i (fun j => iat a j) (fun x => -262144 ≤ x ∧ x ≤ 262144)) ∧ But w.heap.size W wr) (fun s _ => 16 - (intOf s).toNat)
  case atStart => exact ⟨0, a, by omega, rfl, gA, vlt ⟨NA.out.len, by simp [fvs], fun j _ _ => rfl, fun x hx => by have := near_mem NA.out x hx; omega⟩, But.refl _ _⟩
  case round =>
    obtain ⟨i, o, hi, rfl, hg, hF, hbt⟩ := hrel
    by_cases hlt : i < 16
    · have hgb : Hid (wr.heap[w.heap.size + 1]? = some (.cells (i64v b).toArray 41 (0, 0))) := (hbt.block _ (by omega) (by intro e; injection e; omega)).trans gB.out
      have la := near_iat NA.out i hlt
      have lb := near_iat NB.out i hlt
      have hF2 := vlt (hF.out.step hlt (iat a i + iat b i) (by omega))
      have hft := vlt (fvs_take b i (by rw [NB.out.len]; exact hlt))
      have f0 : wr.frozen? ⟨w.heap.size, i, none⟩ = false := frozen_of_row _ _ _ _ _ hg.out
      have c0 := int_at hg.out i (by rw [hF.out.len]; exact hlt)
      rw [hF.out.rest i (Nat.le_refl _) hlt] at c0
      have c1 := int_at hgb.out i (by rw [NB.out.len]; exact hlt)
      have hs2 := world_set_cell hg.out i (.int .i64 (iat a i + iat b i))
      rw [i64v_set] at hs2
      have hb2 := hbt.set (i := i) (.int .i64 (iat a i + iat b i))
      have hF3 := vlt (show Fill (o.set i (iat a i + iat b i)) (fvs a + fvs (b.take (i + 1))) (i + 1) (fun j => iat a j) (fun x => -262144 ≤ x ∧ x ≤ 262144) by
        have h := hF2.out
        rw [show fvs a + fvs (b.take i) + (iat a i + iat b i - iat a i) * 65536 ^ i = fvs a + fvs (b.take (i + 1)) by rw [hft.out]; grind] at h
        exact h)
      clear hF2 hft
      obtain ⟨x, hx⟩ : ∃ x, x = iat a i := ⟨_, rfl⟩
      obtain ⟨y, hy⟩ : ∃ y, y = iat b i := ⟨_, rfl⟩
      rw [← hx] at la c0 hs2 hb2 hF3
      rw [← hy] at lb c1 hs2 hb2 hF3
      clear hx hy
      go_wp2_with fail
      go_region
      go_wp2
      go_roundw
      case rel => exact ⟨i + 1, _, by omega, by go_num, hs2, hF3, hb2.drew⟩
      case measure => simp [intOf]; omega
    · obtain rfl : i = 16 := by omega
      have HV := vlt (show fvs o = fvs a + fvs b by rw [hF.out.val, fvs_all b NB.out.len])
      have HOL := Lib.hid hF.out.len
      have HT := vlt (carI_twice o hF.out.len (fun x hx => by have := hF.out.bnd x hx; omega))
      have hsz := Lib.hid (i64v_size o hF.out.len)
      have HOB := vlt (fun x hx => hF.out.bnd x hx)
      have hz : Hid (wr.heap[w.heap.size + 2]? = some (.cells (i64v z16).toArray 41 (0, 0))) := (hbt.block _ (by omega) (by intro e; injection e; omega)).trans gZ.out
      have hbw : Below w.heap.size w wr := But.below hbW hbt (by omega) (by omega)
      have hsr : w.heap.size + 2 < wr.heap.size := (Array.getElem?_eq_some_iff.1 hz.out).1
      clear hF
      go_wp2_with (with_reducible refine wpList_load_row rfl 41 (.tmp 2) rfl w.heap.size rfl 41 (i64v o).toArray (0, 0) _ hg.out Tryd.underlying41 rfl (by rw [hsz.out]; kernel_rfl) ?_)
      refine (rcar_any wr o HOL.out (fun x hx => by have := HOB.out x hx; omega)).mono ?_
      rintro e w2 ⟨r1, rfl, e1, hr1, hb1⟩
      have hz1 : Hid (w2.heap[w.heap.size + 2]? = some (.cells (i64v z16).toArray 41 (0, 0))) := (hb1.block _ hsr).trans hz.out
      have hbw1 := below_next hbw hbw.size hb1
      have hsr1 : w.heap.size + 2 < w2.heap.size := (Array.getElem?_eq_some_iff.1 hz1.out).1
      go_wp2_with fail
      refine (rcar_any w2 r1 hr1.out (fun x hx => by rw [e1.out] at hx; have := HT.out.2.2 x hx; omega)).mono ?_
      rintro e w3 ⟨r2, rfl, e2, hr2, hb2⟩
      have HE := vlt (show Near r2 ∧ fvs r2 % (FP : Int) = (fvs a + fvs b) % (FP : Int) by rw [e2.out, e1.out, ← HV.out]; exact ⟨HT.out.1, HT.out.2.1⟩)
      clear e1 e2 HT HV
      have hz2 : Hid (w3.heap[w.heap.size + 1 + 1]? = some (.cells (i64v z16).toArray 41 (0, 0))) := (hb2.block _ hsr1).trans hz1.out
      have hbw2 := below_next hbw1 hbw1.size hb2
      have hsz2 := Lib.hid (i64v_size r2 hr2.out)
      go_wp2_with (with_reducible refine wpList_store_row rfl 41 (.tmp 4) (.tmp 21) rfl (w.heap.size + 1 + 1) (i64v r2).toArray rfl rfl 41 _ hz2.out (by rw [hsz2.out]; kernel_rfl) (by rw [hsz2.out]; kernel_rfl) (all_oneCell_toArray (i64v_one _)) ?_)
      refine bodyPost_ret (v := .agg (i64v r2).toArray) (results_cell_row Tryd.results38 _ _ (w.heap.size + 1 + 1) 41 _ (0, 0) _ rfl (setRow_heap _ _ _ _ _ _ hz2.out) Tryd.underlying41 rfl (by rw [hsz2.out]; kernel_rfl)) rfl ⟨r2, rfl, HE, hr2, below_setRow hbw2 (by omega) _⟩

set_option maxRecDepth 100000 in
set_option maxHeartbeats 2000000 in
theorem rminus_any (w : World) (a b : List Int) (hna : Near a) (hnb : Near b) :
    Calls Tryd.prog 39 #[.agg (i64v a).toArray, .agg (i64v b).toArray] w fun e w' => ∃ r, e = .returned (.agg (i64v r).toArray) ∧ Vlt (Near r ∧ fvs r % (FP : Int) = (fvs a - fvs b) % (FP : Int)) ∧ Hid (r.length = 16) ∧ Below w.heap.size w w' := by
  have hzf := zero_fe
  obtain ⟨W, hW, gA, gB, gZ, hbW, hsW⟩ := three_new w (i64v a).toArray (i64v b).toArray (i64v z16).toArray 41 41 41
  have HW := Lib.hid hW
  have NA := vlt hna
  have NB := vlt hnb
  have hs : w.heap.size + 2 < W.heap.size := by have := hsW.out; omega
  clear hW hna hnb hsW
  go_enter Tryd.func39, Tryd.ntmps39
  go_upto_region 1 with fail
  rw [HW.out]
  go_wp2_with fail
  go_loopw [5] (fun s wr => ∃ (i : Nat) (o : List Int), i ≤ 16 ∧ s = .int .i64 (i : Int) ∧ Hid (wr.heap[w.heap.size]? = some (.cells (i64v o).toArray 41 (0, 0))) ∧ Vlt (Fill o (fvs a - fvs (b.take i)) i (fun j => iat a j) (fun x => -262144 ≤ x ∧ x ≤ 262144)) ∧ But w.heap.size W wr) (fun s _ => 16 - (intOf s).toNat)
  case atStart => exact ⟨0, a, by omega, rfl, gA, vlt ⟨NA.out.len, by simp [fvs], fun j _ _ => rfl, fun x hx => by have := near_mem NA.out x hx; omega⟩, But.refl _ _⟩
  case round =>
    obtain ⟨i, o, hi, rfl, hg, hF, hbt⟩ := hrel
    by_cases hlt : i < 16
    · have hgb : Hid (wr.heap[w.heap.size + 1]? = some (.cells (i64v b).toArray 41 (0, 0))) := (hbt.block _ (by omega) (by intro e; injection e; omega)).trans gB.out
      have la := near_iat NA.out i hlt
      have lb := near_iat NB.out i hlt
      have hF2 := vlt (hF.out.step hlt (iat a i - iat b i) (by omega))
      have hft := vlt (fvs_take b i (by rw [NB.out.len]; exact hlt))
      have f0 : wr.frozen? ⟨w.heap.size, i, none⟩ = false := frozen_of_row _ _ _ _ _ hg.out
      have c0 := int_at hg.out i (by rw [hF.out.len]; exact hlt)
      rw [hF.out.rest i (Nat.le_refl _) hlt] at c0
      have c1 := int_at hgb.out i (by rw [NB.out.len]; exact hlt)
      have hs2 := world_set_cell hg.out i (.int .i64 (iat a i - iat b i))
      rw [i64v_set] at hs2
      have hb2 := hbt.set (i := i) (.int .i64 (iat a i - iat b i))
      have hF3 := vlt (show Fill (o.set i (iat a i - iat b i)) (fvs a - fvs (b.take (i + 1))) (i + 1) (fun j => iat a j) (fun x => -262144 ≤ x ∧ x ≤ 262144) by
        have h := hF2.out
        rw [show fvs a - fvs (b.take i) + (iat a i - iat b i - iat a i) * 65536 ^ i = fvs a - fvs (b.take (i + 1)) by rw [hft.out]; grind] at h
        exact h)
      clear hF2 hft
      obtain ⟨x, hx⟩ : ∃ x, x = iat a i := ⟨_, rfl⟩
      obtain ⟨y, hy⟩ : ∃ y, y = iat b i := ⟨_, rfl⟩
      rw [← hx] at la c0 hs2 hb2 hF3
      rw [← hy] at lb c1 hs2 hb2 hF3
      clear hx hy
      go_wp2_with fail
      go_region
      go_wp2
      go_roundw
      case rel => exact ⟨i + 1, _, by omega, by go_num, hs2, hF3, hb2.drew⟩
      case measure => simp [intOf]; omega
    · obtain rfl : i = 16 := by omega
      have HV := vlt (show fvs o = fvs a - fvs b by rw [hF.out.val, fvs_all b NB.out.len])
      have HOL := Lib.hid hF.out.len
      have HT := vlt (carI_twice o hF.out.len (fun x hx => by have := hF.out.bnd x hx; omega))
      have hsz := Lib.hid (i64v_size o hF.out.len)
      have HOB := vlt (fun x hx => hF.out.bnd x hx)
      have hz : Hid (wr.heap[w.heap.size + 2]? = some (.cells (i64v z16).toArray 41 (0, 0))) := (hbt.block _ (by omega) (by intro e; injection e; omega)).trans gZ.out
      have hbw : Below w.heap.size w wr := But.below hbW hbt (by omega) (by omega)
      have hsr : w.heap.size + 2 < wr.heap.size := (Array.getElem?_eq_some_iff.1 hz.out).1
      clear hF
      go_wp2_with (with_reducible refine wpList_load_row rfl 41 (.tmp 2) rfl w.heap.size rfl 41 (i64v o).toArray (0, 0) _ hg.out Tryd.underlying41 rfl (by rw [hsz.out]; kernel_rfl) ?_)
      refine (rcar_any wr o HOL.out (fun x hx => by have := HOB.out x hx; omega)).mono ?_
      rintro e w2 ⟨r1, rfl, e1, hr1, hb1⟩
      have hz1 : Hid (w2.heap[w.heap.size + 2]? = some (.cells (i64v z16).toArray 41 (0, 0))) := (hb1.block _ hsr).trans hz.out
      have hbw1 := below_next hbw hbw.size hb1
      have hsr1 : w.heap.size + 2 < w2.heap.size := (Array.getElem?_eq_some_iff.1 hz1.out).1
      go_wp2_with fail
      refine (rcar_any w2 r1 hr1.out (fun x hx => by rw [e1.out] at hx; have := HT.out.2.2 x hx; omega)).mono ?_
      rintro e w3 ⟨r2, rfl, e2, hr2, hb2⟩
      have HE := vlt (show Near r2 ∧ fvs r2 % (FP : Int) = (fvs a - fvs b) % (FP : Int) by rw [e2.out, e1.out, ← HV.out]; exact ⟨HT.out.1, HT.out.2.1⟩)
      clear e1 e2 HT HV
      have hz2 : Hid (w3.heap[w.heap.size + 1 + 1]? = some (.cells (i64v z16).toArray 41 (0, 0))) := (hb2.block _ hsr1).trans hz1.out
      have hbw2 := below_next hbw1 hbw1.size hb2
      have hsz2 := Lib.hid (i64v_size r2 hr2.out)
      go_wp2_with (with_reducible refine wpList_store_row rfl 41 (.tmp 4) (.tmp 21) rfl (w.heap.size + 1 + 1) (i64v r2).toArray rfl rfl 41 _ hz2.out (by rw [hsz2.out]; kernel_rfl) (by rw [hsz2.out]; kernel_rfl) (all_oneCell_toArray (i64v_one _)) ?_)
      refine bodyPost_ret (v := .agg (i64v r2).toArray) (results_cell_row Tryd.results39 _ _ (w.heap.size + 1 + 1) 41 _ (0, 0) _ rfl (setRow_heap _ _ _ _ _ _ hz2.out) Tryd.underlying41 rfl (by rw [hsz2.out]; kernel_rfl)) rfl ⟨r2, rfl, HE, hr2, below_setRow hbw2 (by omega) _⟩

end Go.Proofs.YtpnodegmegpooaaDoor
