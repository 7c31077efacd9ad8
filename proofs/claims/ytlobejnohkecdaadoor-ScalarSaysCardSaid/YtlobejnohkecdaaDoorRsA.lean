/-
  Contracts of the document's own order, atLeast and minus. Conditions: words of 32 bytes; minus: the first is not less.
-/
import Derived.Test.YtlobejnohkecdaaDoorRsS
import Derived.Test.YtlobejnohkecdaaDoorOrd
import Derived.Test.YtlobejnohkecdaaDoorRng
namespace Go.Proofs.YtlobejnohkecdaaDoor
open Go.RowKit

set_option maxRecDepth 100000 in
set_option maxHeartbeats 1000000 in
theorem rorder_any (w : World) : Calls Tryd.prog 26 #[] w fun e w' => ∃ l, e = .returned (.agg (bv l).toArray) ∧ Vlt (l = ordW) ∧ Hid (l.length = 32) ∧ Below w.heap.size w w' := by
  have hzw := zero_word
  obtain ⟨W, hW, hgZ, hbW, hsW⟩ := one_new w (bv z32).toArray 24
  have HW := Lib.hid hW
  clear hW hsW
  obtain ⟨T, hT⟩ : ∃ T, T = ordW := ⟨_, rfl⟩
  have hbo := built_ord
  rw [← hT] at hbo
  have HE := vlt hT
  have HL := Lib.hid (show T.length = 32 by rw [hT]; rfl)
  have HLS := Lib.hid (bv_size T HL.out)
  clear hT
  go_enter Tryd.func26, Tryd.ntmps26
  go_upto_region 1 with fail
  rw [HW.out]
  go_wp2_with (first
    | (with_reducible refine wpList_build_to rfl 24 _ rfl [(0, .int .u8 237), (1, .int .u8 211), (2, .int .u8 245), (3, .int .u8 92), (4, .int .u8 26), (5, .int .u8 99), (6, .int .u8 18), (7, .int .u8 88), (8, .int .u8 214), (9, .int .u8 156), (10, .int .u8 247), (11, .int .u8 162), (12, .int .u8 222), (13, .int .u8 249), (14, .int .u8 222), (15, .int .u8 20), (16, .int .u8 0), (17, .int .u8 0), (18, .int .u8 0), (19, .int .u8 0), (20, .int .u8 0), (21, .int .u8 0), (22, .int .u8 0), (23, .int .u8 0), (24, .int .u8 0), (25, .int .u8 0), (26, .int .u8 0), (27, .int .u8 0), (28, .int .u8 0), (29, .int .u8 0), (30, .int .u8 0), (31, .int .u8 16)] (by kernel_rfl) _ hbo ?_)
    | (with_reducible refine wpList_store_row rfl 24 (.tmp 0) (.tmp 1) rfl w.heap.size (bv T).toArray rfl rfl 24 _ hgZ.out (by rw [HLS.out]; kernel_rfl) (by rw [HLS.out]; kernel_rfl) (all_oneCell_toArray (bv_one _)) ?_))
  refine bodyPost_ret (v := .agg (bv T).toArray) (results_cell_row Tryd.results26 _ _ w.heap.size 24 _ (0, 0) _ rfl (setRow_heap _ _ _ _ _ _ hgZ.out) Tryd.underlying24 rfl (by rw [HLS.out]; kernel_rfl)) rfl ⟨T, rfl, HE, HL, below_setRow hbW (by omega) _⟩

set_option maxHeartbeats 1000000 in
theorem ratLeast_any (w : World) (a b : List UInt8) (ha : a.length = 32) (hb : b.length = 32) :
    Calls Tryd.prog 27 #[.agg (bv a).toArray, .agg (bv b).toArray] w fun e w' => ∃ r, e = .returned (.bool r) ∧ Vlt (r = decide (ln b ≤ ln a)) ∧ Below w.heap.size w w' := by
  obtain ⟨W, hW, hgA, hgB, hbW, hsW⟩ := pair_new w (bv a).toArray (bv b).toArray 24 24
  have HW := Lib.hid hW
  have HA := Lib.hid ha
  have HB := Lib.hid hb
  have hs : w.heap.size + 1 < W.heap.size := by have := hsW.out; omega
  clear hW ha hb hsW
  go_enter Tryd.func27, Tryd.ntmps27
  go_upto_region 1 with fail
  rw [HW.out]
  go_wp2_with fail
  go_loopw [5] (fun s wr => ∃ k : Nat, k ≤ 32 ∧ s = .int .i64 ((k : Int) - 1) ∧ Vlt (a.drop k = b.drop k) ∧ Below W.heap.size W wr) (fun s _ => ((intOf s) + 1).toNat)
  case atStart => exact ⟨32, by omega, rfl, vlt (by rw [List.drop_eq_nil_of_le (by rw [HA.out]; decide), List.drop_eq_nil_of_le (by rw [HB.out]; decide)]), Below.refl _ _⟩
  case round =>
    obtain ⟨k, hk, rfl, hd, hbt⟩ := hrel
    by_cases hkt : 0 < k
    · obtain ⟨j, rfl⟩ : ∃ j, k = j + 1 := ⟨k - 1, by omega⟩
      rw [show ((j + 1 : Nat) : Int) - 1 = (j : Int) by omega]
      have hj8 : (j : Int) < 32 := by omega
      have ga : wr.heap[w.heap.size]? = some (.cells (bv a).toArray 24 (0, 0)) := (hbt.block _ (by omega)).trans hgA.out
      have gb : wr.heap[w.heap.size + 1]? = some (.cells (bv b).toArray 24 (0, 0)) := (hbt.block _ (by omega)).trans hgB.out
      have c0 := nb_cell ga (show j < a.length by rw [HA.out]; omega)
      have c1 := nb_cell gb (show j < b.length by rw [HB.out]; omega)
      have hdd := vlt (fun h => drop_same HA.out HB.out j (by omega) hd.out h)
      have hal := vlt (fun h => at_least HA.out HB.out j (by omega) hd.out h)
      generalize nb a j = x at *
      generalize nb b j = y at *
      clear ga gb hd
      by_cases he : x = y
      · subst he
        have hd2 := vlt (hdd.out rfl)
        clear hdd hal
        go_wp2_with fail
        go_region
        go_wp2
        go_roundw
        case rel => exact ⟨j, by omega, by go_num, hd2, hbt.drew⟩
        case measure => simp [intOf]
      · have hal2 := hal.out he
        have hxy : ¬ (x : Int) = (y : Int) := by omega
        have HR := vlt (show decide (y < x) = decide (ln b ≤ ln a) from decide_eq_decide.2 hal2)
        clear hdd hal hal2
        go_wp2_with fail
        go_region
        go_wp2_with fail
        go_region
        go_wp2_with fail
        go_ret
        exact ⟨_, rfl, HR, below_next hbW hbW.size hbt.drew.drew⟩
    · obtain rfl : k = 0 := by omega
      have HR := vlt (show true = decide (ln b ≤ ln a) by have h := hd.out; rw [List.drop_zero, List.drop_zero] at h; rw [h]; simp)
      clear hd
      go_wp2
      go_ret
      exact ⟨true, rfl, HR, below_next hbW hbW.size hbt⟩

set_option maxRecDepth 100000 in
set_option maxHeartbeats 2000000 in
theorem rminus_any (w : World) (a b : List UInt8) (ha : a.length = 32) (hb : b.length = 32) (hle : ln b ≤ ln a) :
    Calls Tryd.prog 28 #[.agg (bv a).toArray, .agg (bv b).toArray] w fun e w' => ∃ l, e = .returned (.agg (bv l).toArray) ∧ Vlt (ln l = ln a - ln b) ∧ Hid (l.length = 32) ∧ Below w.heap.size w w' := by
  have hzw := zero_word
  obtain ⟨W, hW, hgA, hgB, hgZ, hbW, hsW⟩ := three_new w (bv a).toArray (bv b).toArray (bv z32).toArray 24 24 24
  have HW := Lib.hid hW
  have HA := Lib.hid ha
  have HB := Lib.hid hb
  have HLE := vlt hle
  have hs : w.heap.size + 2 < W.heap.size := by have := hsW.out; omega
  clear hW ha hb hsW hle
  go_enter Tryd.func28, Tryd.ntmps28
  go_upto_region 1 with fail
  rw [HW.out]
  go_wp2_with fail
  go_loopw [5, 6] (fun cc s wr => ∃ (k c : Nat) (u : List UInt8), k ≤ 32 ∧ s = .int .i64 (k : Int) ∧ cc = .int .i64 (c : Int) ∧ c ≤ 1 ∧ Hid (wr.heap[w.heap.size]? = some (.cells (bv u).toArray 24 (0, 0))) ∧ Vlt (Mns a b u k c) ∧ But w.heap.size W wr) (fun _ s _ => 32 - (intOf s).toNat)
  case atStart => exact ⟨0, 0, a, by omega, rfl, rfl, by decide, hgA, vlt (Mns.first HA.out), But.refl _ _⟩
  case round =>
    obtain ⟨k, c, u, hk, rfl, rfl, hc, hg, hM, hbt⟩ := hrel
    by_cases hlt : k < 32
    · have gb : wr.heap[w.heap.size + 1]? = some (.cells (bv b).toArray 24 (0, 0)) := (hbt.block _ (by omega) (by intro e; injection e; omega)).trans hgB.out
      have hul := Lib.hid hM.out.len
      have c0 := nb_cell hg.out (show k < u.length by rw [hul.out]; exact hlt)
      rw [hM.out.rest k (Nat.le_refl _)] at c0
      have c1 := nb_cell gb (show k < b.length by rw [HB.out]; exact hlt)
      have lx := nb_lt a k
      have ly := nb_lt b k
      have hst := vlt (fun v d e hv hd => hM.out.step HB.out hlt v d e hv hd)
      have f0 : wr.frozen? ⟨w.heap.size, k, none⟩ = false := frozen_of_row _ _ _ _ _ hg.out
      generalize nb a k = x at *
      generalize nb b k = y at *
      have hw1 : IntKind.i64.wrap ((x : Int) - (y : Int)) = (x : Int) - (y : Int) := IntWalk.i64_in _ (by omega)
      have hw2 : IntKind.i64.wrap ((x : Int) - (y : Int) - (c : Int)) = (x : Int) - (y : Int) - (c : Int) := IntWalk.i64_in _ (by omega)
      clear gb hM
      by_cases hneg : x < y + c
      · obtain ⟨v, hv⟩ : ∃ v, v = x + 256 - y - c := ⟨_, rfl⟩
        have lv : v < 256 := by omega
        have ev : (x : Int) - (y : Int) - (c : Int) = (v : Int) - 256 := by omega
        have hM2 := vlt (hst.out v 1 (by omega) lv (by decide))
        have hset := world_set_cell hg.out k (.int .u8 (v : Int))
        rw [bv_put _ _ _ lv] at hset
        have hb2 := hbt.set (i := k) (.int .u8 (v : Int))
        rw [ev] at hw2
        clear hv hst
        go_wp2_with fail
        go_region
        go_wp2_with fail
        go_roundw
        case rel => exact ⟨k + 1, 1, _, by omega, by go_num, rfl, by decide, hset, hM2, hb2.drew⟩
        case measure => simp [intOf]; omega
      · obtain ⟨v, hv⟩ : ∃ v, v = x - y - c := ⟨_, rfl⟩
        have lv : v < 256 := by omega
        have ev : (x : Int) - (y : Int) - (c : Int) = (v : Int) := by omega
        have hM2 := vlt (hst.out v 0 (by omega) lv (by decide))
        have hset := world_set_cell hg.out k (.int .u8 (v : Int))
        rw [bv_put _ _ _ lv] at hset
        have hb2 := hbt.set (i := k) (.int .u8 (v : Int))
        rw [ev] at hw2
        clear hv hst
        go_wp2_with fail
        go_region
        go_wp2_with fail
        go_roundw
        case rel => exact ⟨k + 1, 0, _, by omega, by go_num, rfl, by decide, hset, hM2, hb2.drew⟩
        case measure => simp [intOf]; omega
    · obtain rfl : k = 32 := by omega
      have HE := vlt (hM.out.all HB.out HLE.out)
      have HUL := Lib.hid hM.out.len
      have HLS := Lib.hid (bv_size u HUL.out)
      have hz : Hid (wr.heap[w.heap.size + 2]? = some (.cells (bv z32).toArray 24 (0, 0))) := (hbt.block _ (by omega) (by intro e; injection e; omega)).trans hgZ.out
      have hbw : Below w.heap.size w wr := But.below hbW hbt (by omega) (by omega)
      clear hM
      go_wp2_with (first
        | (with_reducible refine wpList_load_row rfl 24 (.tmp 2) rfl w.heap.size rfl 24 (bv u).toArray (0, 0) _ hg.out Tryd.underlying24 rfl (by rw [HLS.out]; kernel_rfl) ?_)
        | (with_reducible refine wpList_store_row rfl 24 (.tmp 4) (.tmp 31) rfl (w.heap.size + 1 + 1) (bv u).toArray rfl rfl 24 _ hz.out (by rw [HLS.out]; kernel_rfl) (by rw [HLS.out]; kernel_rfl) (all_oneCell_toArray (bv_one _)) ?_))
      refine bodyPost_ret (v := .agg (bv u).toArray) (results_cell_row Tryd.results28 _ _ (w.heap.size + 1 + 1) 24 _ (0, 0) _ rfl (setRow_heap _ _ _ _ _ _ hz.out) Tryd.underlying24 rfl (by rw [HLS.out]; kernel_rfl)) rfl ⟨u, rfl, HE, HUL, below_setRow hbw (by omega) _⟩
end Go.Proofs.YtlobejnohkecdaaDoor
