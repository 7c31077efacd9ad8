/-
  Contract of the document's own Mod: bytes modulo L, bit by bit. Conditions: up to 64 bytes.
-/
import Derived.Test.YtlobejnohkecdaaDoorRsA
namespace Go.Proofs.YtlobejnohkecdaaDoor
open Go.RowKit

theorem double_val (x c : Nat) (hc : c ≤ 1) : bits .or .u8 ((x : Int) * 2 % 256) (c : Int) = (((2 * x + c) % 256 : Nat) : Int) := by
  have h3 := u8_or_nat (x * 2 % 256) c (by omega) (by omega)
  rw [show (x : Int) * 2 % 256 = ((x * 2 % 256 : Nat) : Int) by omega, h3]
  congr 1
  rw [show x * 2 % 256 = (x % 128) <<< 1 by rw [Nat.shiftLeft_eq]; omega, ← Nat.shiftLeft_add_eq_or_of_lt (by omega), Nat.shiftLeft_eq]
  omega
theorem top_val (x : Nat) (hx : x < 256) : bits .or .u8 ((x : Int) / 128) 0 = ((x / 128 : Nat) : Int) := by
  have h3 := u8_or_nat (x / 128) 0 (by omega) (by decide)
  rw [show (x : Int) / 128 = ((x / 128 : Nat) : Int) by omega, show (0 : Int) = ((0 : Nat) : Int) from rfl, h3, Nat.or_zero]
theorem bit_val (x k : Nat) (hx : x < 256) : bits .and .u8 ((x : Int) / 2 ^ k) 1 = ((x / 2 ^ k % 2 : Nat) : Int) := by
  have h0 : x / 2 ^ k < 256 := Nat.lt_of_le_of_lt (Nat.div_le_self _ _) hx
  have h3 := u8_and_nat (x / 2 ^ k) 1 h0 (by decide)
  rw [show (x : Int) / 2 ^ k = ((x / 2 ^ k : Nat) : Int) by simp, show (1 : Int) = ((1 : Nat) : Int) from rfl, h3, Nat.and_one_is_mod]
theorem built_wz' : Tryd.prog.built 24 [] = some (bv z32).toArray := by kernel_rfl
theorem ln_z32' : ln z32 = 0 := by decide +kernel

set_option maxRecDepth 100000 in
set_option maxHeartbeats 2000000 in
theorem rmod_any (w : World) (A : Option Addr) (n c : Nat) (l : List UInt8) (hb : Byt w w.heap.size A l) (hl : l.length = n) (hn : n ≤ 64) :
    Calls Tryd.prog 14 #[.slice A n c] w fun e w' => ∃ r, e = .returned (.agg (bv r).toArray) ∧ Vlt (r = wl (ln l)) ∧ Hid (r.length = 32) ∧ Below w.heap.size w w' := by
  have hzw := zero_word
  have hbuild := built_wz'
  obtain ⟨W, hW, hgZ, hbW, hsW⟩ := one_new w (bv z32).toArray 24
  have HW := Lib.hid hW
  have HL := Lib.hid hl
  have HBY := vlt hb
  have hs : w.heap.size < W.heap.size := by have := hsW.out; omega
  clear hW hsW hb hl
  go_enter Tryd.func14, Tryd.ntmps14
  go_upto_region 1 with fail
  rw [HW.out]
  go_wp2_with fail
  refine (rorder_any W).mono ?_
  rintro e w1 ⟨O, rfl, eO, HO, hb1⟩
  have hbw1 := below_next hbW hbW.size hb1
  have hz1 : Hid (w1.heap[w.heap.size]? = some (.cells (bv z32).toArray 24 (0, 0))) := (hb1.block _ hs).trans hgZ.out
  have HOS := Lib.hid (bv_size O HO.out)
  go_upto_region 2 with ((with_reducible refine wpList_store_row rfl 24 (.tmp 3) (.tmp 9) rfl w1.heap.size (bv O).toArray rfl rfl 24 _ (heap_alloc_new _ _) (by rw [HOS.out]; kernel_rfl) (by rw [HOS.out]; kernel_rfl) (all_oneCell_toArray (bv_one _)) ?_); rw [World.setRow_alloc_new])
  obtain ⟨w2, hX, gO, hb2, hsX⟩ := one_new w1 (bv O).toArray 24
  rw [hX]
  have hbw2 := below_next hbw1 hbw1.size hb2
  have hs1 : w.heap.size < w1.heap.size := (Array.getElem?_eq_some_iff.1 hz1.out).1
  have hz2 : Hid (w2.heap[w.heap.size]? = some (.cells (bv z32).toArray 24 (0, 0))) := (hb2.block _ hs1).trans hz1.out
  obtain ⟨G, hG⟩ : ∃ G, G = w1.heap.size := ⟨_, rfl⟩
  rw [← hG] at gO hs1 ⊢
  have sG2 : G < w2.heap.size := (Array.getElem?_eq_some_iff.1 gO.out).1
  clear hX hsX hG
  go_upto_region 3 with (first
    | (with_reducible refine wpList_build_as rfl 24 rfl (bv z32).toArray hbuild ?_)
    | ((with_reducible refine wpList_store_row rfl 24 (.tmp 4) (.tmp 10) rfl w2.heap.size (bv z32).toArray rfl rfl 24 _ (heap_alloc_new _ _) (by kernel_rfl) (by kernel_rfl) (all_oneCell_toArray (bv_one _)) ?_); rw [World.setRow_alloc_new]))
  obtain ⟨V, hX, gR, hb3, hsX⟩ := one_new w2 (bv z32).toArray 24
  rw [hX]
  have hbwV := below_next hbw2 hbw2.size hb3
  have hzV : Hid (V.heap[w.heap.size]? = some (.cells (bv z32).toArray 24 (0, 0))) := (hb3.block _ (by omega)).trans hz2.out
  have gOV : Hid (V.heap[G]? = some (.cells (bv O).toArray 24 (0, 0))) := (hb3.block _ sG2).trans gO.out
  obtain ⟨R, hR⟩ : ∃ R, R = w2.heap.size := ⟨_, rfl⟩
  have hsR : w.heap.size < R := by rw [hR]; exact Nat.lt_trans hs1 sG2
  have hGR : G < R := by rw [hR]; exact sG2
  rw [← hR] at gR ⊢
  clear hX hsX hR hb3 hb2 hb1 hz2 hz1 gO hbw2 hbw1 hbW hgZ hs HW hbuild sG2
  have hstart := vlt (show ln z32 = ln l / 2 ^ (8 * n) % FL by
    have h := ln_lt n l HL.out
    rw [show (256 : Nat) ^ n = 2 ^ (8 * n) by rw [Nat.pow_mul]] at h
    rw [Nat.div_eq_of_lt h, ln_z32']; rfl)
  go_wp2_with fail
  go_loopw [5] (fun s wr => ∃ (k : Nat) (r : List UInt8), k ≤ 8 * n ∧ s = .int .i64 ((k : Int) - 1) ∧ Hid (wr.heap[R]? = some (.cells (bv r).toArray 24 (0, 0))) ∧ Hid (r.length = 32) ∧ Vlt (ln r = ln l / 2 ^ k % FL) ∧ Below R V wr) (fun s _ => ((intOf s) + 1).toNat)
  case atStart => exact ⟨8 * n, z32, Nat.le_refl _, by go_num, gR, rfl, hstart, Below.refl _ _⟩
  case round =>
    clear gR hstart
    obtain ⟨k, r, hk, rfl, hg, hr, hv, hbt⟩ := hrel
    have hbwr : Below w.heap.size w wr := ⟨hbt.os.trans hbwV.os, hbt.tape.trans hbwV.tape, hbt.output.trans hbwV.output, Nat.le_trans hbwV.size hbt.size, fun k hk => (hbt.block k (by omega)).trans (hbwV.block k hk)⟩
    by_cases hkt : 0 < k
    · obtain ⟨j, rfl⟩ : ∃ j, k = j + 1 := ⟨k - 1, by omega⟩
      rw [show ((j + 1 : Nat) : Int) - 1 = (j : Int) by omega]
      obtain ⟨g, o, x, rfl, hgg, hx, hcell, hget⟩ := (HBY.out.below hbwr).at_ (k := j / 8) (by rw [HL.out]; omega)
      have et : Int.tdiv (j : Int) 8 = ((j / 8 : Nat) : Int) := (Int.ofNat_tdiv j 8).symm
      have em : Int.tmod (j : Int) 8 = ((j % 8 : Nat) : Int) := (Int.ofNat_tmod j 8).symm
      have ebit := bit_val x (j % 8) hx
      have hxb : x = nb l (j / 8) := by
        have h := hget.out
        rw [nb, List.getD_eq_getElem?_getD, h]
        simp [Nat.mod_eq_of_lt hx]
      have hbit := vlt (show x / 2 ^ (j % 8) % 2 = ln l / 2 ^ j % 2 by rw [hxb]; exact bit_at l j)
      have lb : x / 2 ^ (j % 8) % 2 ≤ 1 := by omega
      generalize x / 2 ^ (j % 8) % 2 = c0 at *
      clear hxb hget
      go_upto_region 7 with fail
      obtain ⟨Y0, hY0⟩ : ∃ Y0, Y0 = wr := ⟨_, rfl⟩
      subst hY0
      clear hcell et em ebit hx
      have hdb := vlt (show Dbl r r c0 0 c0 from Dbl.first hr.out lb)
      go_wp2_with fail
      go_loopw [6, 7] (fun cc s wi => ∃ (k c : Nat) (u : List UInt8), k ≤ 32 ∧ s = .int .i64 (k : Int) ∧ cc = .int .u8 (c : Int) ∧ c ≤ 1 ∧ Hid (wi.heap[R]? = some (.cells (bv u).toArray 24 (0, 0))) ∧ Vlt (Dbl r u c0 k c) ∧ Below R V wi) (fun _ s _ => 32 - (intOf s).toNat)
      case atStart => exact ⟨0, c0, r, by omega, rfl, rfl, lb, hg, hdb, hbt⟩
      case round =>
        clear hg hbt hdb hbwr
        obtain ⟨k, c, u, hk2, rfl, rfl, hc, hg, hD, hbt⟩ := hrel
        by_cases hlt : k < 32
        · have hul := Lib.hid hD.out.len
          have q0 := nb_cell hg.out (show k < u.length by rw [hul.out]; exact hlt)
          rw [hD.out.rest k (Nat.le_refl _)] at q0
          have lx := nb_lt r k
          have hst := vlt (hD.out.step hr.out hlt)
          have f0 : wr.frozen? ⟨R, k, none⟩ = false := frozen_of_row _ _ _ _ _ hg.out
          have e1 := top_val (nb r k) lx
          have e2 := double_val (nb r k) c hc
          have lt : nb r k / 128 ≤ 1 := by omega
          have lv : (2 * nb r k + c) % 256 < 256 := by omega
          have hset := world_set_cell hg.out k (.int .u8 (((2 * nb r k + c) % 256 : Nat) : Int))
          rw [bv_put _ _ _ lv] at hset
          have hb2 := hbt.setCell (p := ⟨R, k, none⟩) (Nat.le_refl _) (.int .u8 (((2 * nb r k + c) % 256 : Nat) : Int))
          generalize nb r k = x at *
          generalize (2 * x + c) % 256 = v at *
          generalize x / 128 = d at *
          clear hD
          go_wp2
          go_roundw
          case rel => exact ⟨k + 1, d, _, by omega, by go_num, rfl, lt, hset, hst, hb2⟩
          case measure => simp [intOf]; omega
        · obtain rfl : k = 32 := by omega
          have HU := vlt (hD.out.all hr.out (by rw [hv.out]; exact Nat.mod_lt _ fl_pos) lb)
          have hul := Lib.hid hD.out.len
          have HUS := Lib.hid (bv_size u hul.out)
          have hOL : ln O = FL := by rw [eO.out]; exact ln_ordW
          have HOL := vlt hOL
          have gOr : Hid (wr.heap[G]? = some (.cells (bv O).toArray 24 (0, 0))) := (hbt.block _ hGR).trans gOV.out
          have hsr : R < wr.heap.size := (Array.getElem?_eq_some_iff.1 hg.out).1
          have hms := vlt (mod_step (ln l) j (ln r) hv.out)
          clear hD hOL
          go_wp2_with (first
            | (with_reducible refine wpList_load_row rfl 24 (.tmp 4) rfl R rfl 24 (bv u).toArray (0, 0) _ hg.out Tryd.underlying24 rfl (by rw [HUS.out]; kernel_rfl) ?_)
            | (with_reducible refine wpList_load_row rfl 24 (.tmp 3) rfl G rfl 24 (bv O).toArray (0, 0) _ gOr.out Tryd.underlying24 rfl (by rw [HOS.out]; kernel_rfl) ?_))
          refine (ratLeast_any wr u O hul.out HO.out).mono ?_
          rintro e w4 ⟨q, rfl, hq, hb4⟩
          have hbt4 := below_next hbt (Nat.le_of_lt hsr) hb4
          have hg4 : Hid (w4.heap[R]? = some (.cells (bv u).toArray 24 (0, 0))) := (hb4.block _ hsr).trans hg.out
          have gO4 : Hid (w4.heap[G]? = some (.cells (bv O).toArray 24 (0, 0))) := (hb4.block _ (by omega)).trans gOr.out
          have hs4 : R < w4.heap.size := (Array.getElem?_eq_some_iff.1 hg4.out).1
          clear hb4 hbt hg gOr
          by_cases hge : FL ≤ ln u
          · obtain rfl : q = true := by rw [hq.out, HOL.out]; exact decide_eq_true hge
            have HGE := vlt hge
            clear hge hq
            go_wp2_with (first
              | (with_reducible refine wpList_load_row rfl 24 (.tmp 4) rfl R rfl 24 (bv u).toArray (0, 0) _ hg4.out Tryd.underlying24 rfl (by rw [HUS.out]; kernel_rfl) ?_)
              | (with_reducible refine wpList_load_row rfl 24 (.tmp 3) rfl G rfl 24 (bv O).toArray (0, 0) _ gO4.out Tryd.underlying24 rfl (by rw [HOS.out]; kernel_rfl) ?_))
            refine (rminus_any w4 u O hul.out HO.out (by rw [HOL.out]; exact HGE.out)).mono ?_
            rintro e w5 ⟨m, rfl, hm, hml, hb5⟩
            have hbt5 := below_next hbt4 (Nat.le_of_lt hs4) hb5
            have hg5 : Hid (w5.heap[R]? = some (.cells (bv u).toArray 24 (0, 0))) := (hb5.block _ hs4).trans hg4.out
            have HMS := Lib.hid (bv_size m hml.out)
            have HV := vlt (show ln m = ln l / 2 ^ j % FL by
              rw [hm.out, HOL.out, HU.out, hbit.out]
              have h := HGE.out
              rw [HU.out, hbit.out] at h
              exact hms.out.2 h)
            clear hm hb5 hbt4 hg4 gO4 hms HU
            go_wp2_with (with_reducible refine wpList_store_row rfl 24 (.tmp 4) (.tmp 52) rfl R (bv m).toArray rfl rfl 24 _ hg5.out (by rw [HMS.out]; kernel_rfl) (by rw [HMS.out, HUS.out]) (all_oneCell_toArray (bv_one _)) ?_)
            have hset : Hid ((w5.setRow R (bv m).toArray).heap[R]? = some (.cells (bv m).toArray 24 (0, 0))) := setRow_heap _ _ _ _ _ _ hg5.out
            have hb6 : Below R V (w5.setRow R (bv m).toArray) := below_setRow hbt5 (Nat.le_refl _) _
            generalize w5.setRow R (bv m).toArray = w6 at *
            go_roundw
            case rel => exact ⟨j, m, by omega, by go_num, hset, hml, HV, hb6⟩
            case measure => simp [intOf]
          · obtain rfl : q = false := by rw [hq.out, HOL.out]; exact decide_eq_false hge
            have HV := vlt (show ln u = ln l / 2 ^ j % FL by
              rw [HU.out, hbit.out]
              have h : ln u < FL := by omega
              rw [HU.out, hbit.out] at h
              exact hms.out.1 h)
            clear hge hq hms HU
            go_wp2_with fail
            go_roundw
            case rel => exact ⟨j, u, by omega, by go_num, hg4, hul, HV, hbt4⟩
            case measure => simp [intOf]
    · obtain rfl : k = 0 := by omega
      have HE := vlt (show r = wl (ln l) by
        have h := hv.out
        rw [Nat.pow_zero, Nat.div_one] at h
        have h2 := wl_ln r hr.out (by rw [h]; exact Nat.mod_lt _ fl_pos)
        rw [← h2, h]
        exact wl_of (Nat.mod_mod _ _))
      have HLS := Lib.hid (bv_size r hr.out)
      have hz : Hid (wr.heap[w.heap.size]? = some (.cells (bv z32).toArray 24 (0, 0))) := (hbt.block _ hsR).trans hzV.out
      clear hv
      go_wp2_with (first
        | (with_reducible refine wpList_load_row rfl 24 (.tmp 4) rfl R rfl 24 (bv r).toArray (0, 0) _ hg.out Tryd.underlying24 rfl (by rw [HLS.out]; kernel_rfl) ?_)
        | (with_reducible refine wpList_store_row rfl 24 (.tmp 2) (.tmp 53) rfl w.heap.size (bv r).toArray rfl rfl 24 _ hz.out (by rw [HLS.out]; kernel_rfl) (by rw [HLS.out]; kernel_rfl) (all_oneCell_toArray (bv_one _)) ?_))
      refine bodyPost_ret (v := .agg (bv r).toArray) (results_cell_row Tryd.results14 _ _ w.heap.size 24 _ (0, 0) _ rfl (setRow_heap _ _ _ _ _ _ hz.out) Tryd.underlying24 rfl (by rw [HLS.out]; kernel_rfl)) rfl ⟨r, rfl, HE, hr, below_setRow hbwr (by omega) _⟩
end Go.Proofs.YtlobejnohkecdaaDoor
