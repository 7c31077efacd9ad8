/-
  Contracts of scalar's step, numberOf and longOf. Conditions: words of 32 and of 64 bytes.
-/
import Derived.Test.YtlobejnohkecdaaDoorScS
import Derived.Test.YtlobejnohkecdaaDoorOctCL
namespace Go.Proofs.YtlobejnohkecdaaDoor
open Go.RowKit

theorem zero_num (w : World) : (zeroValue 41).run Tryd.prog w = .ok (.agg (u64v (uptoW 4 [])).toArray) w := by kernel_rfl
theorem zero_long (w : World) : (zeroValue 43).run Tryd.prog w = .ok (.agg (u64v (uptoW 8 [])).toArray) w := by kernel_rfl
set_option maxHeartbeats 1000000 in
theorem lstep_any (w : World) (v x y z : Nat) (hv : v < B64) (hx : x < B64) (hy : y < B64) (hz : z < B64) :
    Calls Tryd.prog 31 #[.int .u64 (v : Int), .int .u64 (x : Int), .int .u64 (y : Int), .int .u64 (z : Int)] w fun e w' => ∃ h l : Nat, e = .returned (.tuple #[.int .u64 (h : Int), .int .u64 (l : Int)]) ∧ Vlt (l + 18446744073709551616 * h = v * x + y + z) ∧ h < B64 ∧ l < B64 ∧ w = w' := by
  go_enter Tryd.func31, Tryd.ntmps31
  go_wp2_with fail
  refine (mul64_any w v x hv hx).mono ?_
  rintro e w' ⟨h, l, rfl, he, lh, ll, rfl⟩
  obtain ⟨s1, o1, r1, e1, ls1, lo1⟩ := add64_ex0 add_run l y ll hy
  obtain ⟨s2, o2, r2, e2, ls2, lo2⟩ := add64_ex0 add_run s1 z ls1 hz
  have hb : h + o1 + o2 < 18446744073709551616 := by
    have h1 : v * x ≤ 18446744073709551615 * 18446744073709551615 := Nat.mul_le_mul (by simp only [B64] at *; omega) (by simp only [B64] at *; omega)
    have h2 := he.out
    have h3 := e1.out
    have h4 := e2.out
    simp only [B64] at *
    generalize v * x = p at *
    omega
  have HE := vlt (show s2 + 18446744073709551616 * (h + o1 + o2) = v * x + y + z by have h2 := he.out; have h3 := e1.out; have h4 := e2.out; generalize v * x = p at *; omega)
  have hb1 : h + o1 < 18446744073709551616 := by omega
  clear he e1 e2
  go_wp2
  rw [show (h : Int) + (o1 : Int) + (o2 : Int) = ((h + o1 + o2 : Nat) : Int) by omega]
  go_ret2
  exact ⟨_, s2, rfl, HE, hb, ls2, rfl⟩


set_option maxRecDepth 100000 in
set_option maxHeartbeats 1000000 in
theorem lnumberOf_any (w : World) (b : List UInt8) (hb : b.length = 32) :
    Calls Tryd.prog 21 #[.agg (bv b).toArray] w fun e w' => ∃ X, e = .returned (.agg (u64v X).toArray) ∧ Vlt (X = pcs b 4) ∧ Hid (X.length = 4) ∧ Below w.heap.size w w' := by
  have hzn := zero_num
  obtain ⟨W, hW, hgA, hgZ, hbW, hsW⟩ := pair_new w (bv b).toArray (u64v (uptoW 4 [])).toArray 24 41
  have HW := Lib.hid hW
  have HB := Lib.hid hb
  have hs1 : w.heap.size + 1 < W.heap.size := by have := hsW.out; omega
  clear hW hb hsW
  go_enter Tryd.func21, Tryd.ntmps21
  go_upto_region 1 with fail
  rw [HW.out]
  go_upto_region 2 with fail
  obtain ⟨V, hV, hgT, hbV, hsV⟩ := one_new W (u64v (uptoW 4 [])).toArray 41
  rw [hV]
  obtain ⟨T, hT⟩ : ∃ T, T = W.heap.size := ⟨_, rfl⟩
  rw [← hT] at hgT hs1 ⊢
  have hgAV : Hid (V.heap[w.heap.size]? = some (.cells (bv b).toArray 24 (0, 0))) := (hbV.block _ (by omega)).trans hgA.out
  have hgZV : Hid (V.heap[w.heap.size + 1]? = some (.cells (u64v (uptoW 4 [])).toArray 41 (0, 0))) := (hbV.block _ (by omega)).trans hgZ.out
  have hbwV := below_next hbW hbW.size hbV
  have hsz2 : w.heap.size + 1 < V.heap.size := (Array.getElem?_eq_some_iff.1 hgZV.out).1
  clear hV hbV hgA hgZ hbW hsV hT HW
  go_wp2_with fail
  go_loopw [5] (fun i wr => ∃ k : Nat, k ≤ 4 ∧ i = .int .i64 (k : Int) ∧ Hid (wr.heap[T]? = some (.cells (u64v (uptoW 4 (pcs b k))).toArray 41 (0, 0))) ∧ But T V wr) (fun i _ => 4 - (intOf i).toNat)
  case atStart => exact ⟨0, by omega, rfl, hgT, But.refl _ _⟩
  case round =>
    obtain ⟨k, hk, rfl, hg, hbt⟩ := hrel
    by_cases hlt : k < 4
    · have hgb : wr.heap[w.heap.size]? = some (.cells (bv b).toArray 24 (0, 0)) := (hbt.block _ (by omega) (by intro e; injection e; omega)).trans hgAV.out
      have hcut := cut_lh Tryd.underlying24 Tryd.sizeByte w.heap.size 0 (8 * k) (8 * k + 8) (8 * (k : Int)) (8 * (k : Int) + 8) (by omega) (by omega) (by omega) (by omega) (by omega)
      have hbm := byt_mid hgb (8 * k) 8
      rw [show 8 * k + 8 - 8 * k = 8 by omega, show 0 + 8 * k = 8 * k by omega] at hcut
      have hfl := fromLittle_ok (some ⟨w.heap.size, 8 * k, none⟩) _ 8 (32 - 8 * k) wr hbm (by simp only [List.length_take, List.length_drop]; rw [HB.out]; omega) (by decide)
      have hx : (uptoW 4 (pcs b k))[k]? = some 0 := by have := uptoW_at 4 (pcs b k) (by rw [pcs_len]; exact hlt); rwa [pcs_len] at this
      have hcl : wr.cell? ⟨T, k, none⟩ = some (.int .u64 0) := by rw [cell_of_row _ _ _ _ _ _ hg.out]; simp [u64v_at, hx]
      have hf : wr.frozen? ⟨T, k, none⟩ = false := frozen_of_row _ _ _ _ _ hg.out
      clear hx hbm hgb
      go_wp2_with fail
      refine hfl.mono ?_
      rintro e w' ⟨rfl, rfl⟩
      clear hcut hfl
      obtain ⟨v, hvv⟩ : ∃ v, v = ln ((b.drop (8 * k)).take 8) := ⟨_, rfl⟩
      rw [← hvv]
      have hset : Hid ((wr.setCell ⟨T, k, none⟩ (.int .u64 (v : Int))).heap[T]? = some (.cells (u64v (uptoW 4 (pcs b (k + 1)))).toArray 41 (0, 0))) := by
        have h1 := (world_set_cell hg.out k (.int .u64 (v : Int))).out
        have h2 := uptoW_set 4 (pcs b k) v (by rw [pcs_len]; exact hlt)
        rw [pcs_len, hvv] at h2
        rw [u64v_set, hvv, h2] at h1
        rw [hvv]; exact h1
      have hb2 := hbt.set (i := k) (.int .u64 (v : Int))
      clear hvv
      go_wp2
      go_roundw
      case rel => exact ⟨k + 1, by omega, by go_num, hset, hb2⟩
      case measure => simp [intOf]; omega
    · have HK := Lib.hid (show k = 4 by omega)
      obtain ⟨X, hX⟩ : ∃ X, X = pcs b k := ⟨_, rfl⟩
      have hUP : uptoW 4 (pcs b k) = X := by rw [hX]; exact uptoW_all 4 _ (by rw [pcs_len]; exact HK.out)
      rw [hUP] at hg
      have HX := vlt (show X = pcs b 4 by rw [hX, HK.out])
      have HXL := Lib.hid (show X.length = 4 by rw [hX, pcs_len]; exact HK.out)
      have HXS := Lib.hid (show (u64v X).toArray.size = 4 by simp [u64v_len, HXL.out])
      have HZ := Lib.hid (show (u64v (uptoW 4 [])).toArray.size = 4 from rfl)
      have hz4 : Hid (wr.heap[w.heap.size + 1]? = some (.cells (u64v (uptoW 4 [])).toArray 41 (0, 0))) := (hbt.block _ (by omega) (by intro e; injection e; omega)).trans hgZV.out
      have hb4 : Below w.heap.size w wr := But.below hbwV hbt (by omega) (by omega)
      clear hX hUP
      go_wp2_with (first
        | (with_reducible refine wpList_load_row rfl 41 (.tmp 3) rfl T rfl 41 (u64v X).toArray (0, 0) _ hg.out Tryd.underlying41 rfl (by rw [HXS.out]; kernel_rfl) ?_)
        | (with_reducible refine wpList_store_row rfl 41 (.tmp 2) (.tmp 21) rfl (w.heap.size + 1) (u64v X).toArray rfl rfl 41 _ hz4.out (by rw [HXS.out]; kernel_rfl) (by rw [HXS.out]; exact HZ.out) (all_oneCell_toArray (u64v_one _)) ?_))
      refine bodyPost_ret (v := .agg (u64v X).toArray) (results_cell_row Tryd.results21 _ _ (w.heap.size + 1) 41 _ (0, 0) _ rfl (setRow_heap _ _ _ _ _ _ hz4.out) Tryd.underlying41 rfl (by rw [HXS.out]; kernel_rfl)) rfl ⟨X, rfl, HX, HXL, below_setRow hb4 (by omega) _⟩

set_option maxRecDepth 100000 in
set_option maxHeartbeats 1000000 in
theorem longOf_any (w : World) (b : List UInt8) (hb : b.length = 64) :
    Calls Tryd.prog 25 #[.agg (bv b).toArray] w fun e w' => ∃ X, e = .returned (.agg (u64v X).toArray) ∧ Vlt (X = pcs b 8) ∧ Hid (X.length = 8) ∧ Below w.heap.size w w' := by
  have hzn := zero_long
  obtain ⟨W, hW, hgA, hgZ, hbW, hsW⟩ := pair_new w (bv b).toArray (u64v (uptoW 8 [])).toArray 26 43
  have HW := Lib.hid hW
  have HB := Lib.hid hb
  have hs1 : w.heap.size + 1 < W.heap.size := by have := hsW.out; omega
  clear hW hb hsW
  go_enter Tryd.func25, Tryd.ntmps25
  go_upto_region 1 with fail
  rw [HW.out]
  go_upto_region 2 with fail
  obtain ⟨V, hV, hgT, hbV, hsV⟩ := one_new W (u64v (uptoW 8 [])).toArray 43
  rw [hV]
  obtain ⟨T, hT⟩ : ∃ T, T = W.heap.size := ⟨_, rfl⟩
  rw [← hT] at hgT hs1 ⊢
  have hgAV : Hid (V.heap[w.heap.size]? = some (.cells (bv b).toArray 26 (0, 0))) := (hbV.block _ (by omega)).trans hgA.out
  have hgZV : Hid (V.heap[w.heap.size + 1]? = some (.cells (u64v (uptoW 8 [])).toArray 43 (0, 0))) := (hbV.block _ (by omega)).trans hgZ.out
  have hbwV := below_next hbW hbW.size hbV
  have hsz2 : w.heap.size + 1 < V.heap.size := (Array.getElem?_eq_some_iff.1 hgZV.out).1
  clear hV hbV hgA hgZ hbW hsV hT HW
  go_wp2_with fail
  go_loopw [5] (fun i wr => ∃ k : Nat, k ≤ 8 ∧ i = .int .i64 (k : Int) ∧ Hid (wr.heap[T]? = some (.cells (u64v (uptoW 8 (pcs b k))).toArray 43 (0, 0))) ∧ But T V wr) (fun i _ => 8 - (intOf i).toNat)
  case atStart => exact ⟨0, by omega, rfl, hgT, But.refl _ _⟩
  case round =>
    obtain ⟨k, hk, rfl, hg, hbt⟩ := hrel
    by_cases hlt : k < 8
    · have hgb : wr.heap[w.heap.size]? = some (.cells (bv b).toArray 26 (0, 0)) := (hbt.block _ (by omega) (by intro e; injection e; omega)).trans hgAV.out
      have hcut := cut_lh Tryd.underlying26 Tryd.sizeByte w.heap.size 0 (8 * k) (8 * k + 8) (8 * (k : Int)) (8 * (k : Int) + 8) (by omega) (by omega) (by omega) (by omega) (by omega)
      have hbm := byt_mid hgb (8 * k) 8
      rw [show 8 * k + 8 - 8 * k = 8 by omega, show 0 + 8 * k = 8 * k by omega] at hcut
      have hfl := fromLittle_ok (some ⟨w.heap.size, 8 * k, none⟩) _ 8 (64 - 8 * k) wr hbm (by simp only [List.length_take, List.length_drop]; rw [HB.out]; omega) (by decide)
      have hx : (uptoW 8 (pcs b k))[k]? = some 0 := by have := uptoW_at 8 (pcs b k) (by rw [pcs_len]; exact hlt); rwa [pcs_len] at this
      have hcl : wr.cell? ⟨T, k, none⟩ = some (.int .u64 0) := by rw [cell_of_row _ _ _ _ _ _ hg.out]; simp [u64v_at, hx]
      have hf : wr.frozen? ⟨T, k, none⟩ = false := frozen_of_row _ _ _ _ _ hg.out
      clear hx hbm hgb
      go_wp2_with fail
      refine hfl.mono ?_
      rintro e w' ⟨rfl, rfl⟩
      clear hcut hfl
      obtain ⟨v, hvv⟩ : ∃ v, v = ln ((b.drop (8 * k)).take 8) := ⟨_, rfl⟩
      rw [← hvv]
      have hset : Hid ((wr.setCell ⟨T, k, none⟩ (.int .u64 (v : Int))).heap[T]? = some (.cells (u64v (uptoW 8 (pcs b (k + 1)))).toArray 43 (0, 0))) := by
        have h1 := (world_set_cell hg.out k (.int .u64 (v : Int))).out
        have h2 := uptoW_set 8 (pcs b k) v (by rw [pcs_len]; exact hlt)
        rw [pcs_len, hvv] at h2
        rw [u64v_set, hvv, h2] at h1
        rw [hvv]; exact h1
      have hb2 := hbt.set (i := k) (.int .u64 (v : Int))
      clear hvv
      go_wp2
      go_roundw
      case rel => exact ⟨k + 1, by omega, by go_num, hset, hb2⟩
      case measure => simp [intOf]; omega
    · have HK := Lib.hid (show k = 8 by omega)
      obtain ⟨X, hX⟩ : ∃ X, X = pcs b k := ⟨_, rfl⟩
      have hUP : uptoW 8 (pcs b k) = X := by rw [hX]; exact uptoW_all 8 _ (by rw [pcs_len]; exact HK.out)
      rw [hUP] at hg
      have HX := vlt (show X = pcs b 8 by rw [hX, HK.out])
      have HXL := Lib.hid (show X.length = 8 by rw [hX, pcs_len]; exact HK.out)
      have HXS := Lib.hid (show (u64v X).toArray.size = 8 by simp [u64v_len, HXL.out])
      have HZ := Lib.hid (show (u64v (uptoW 8 [])).toArray.size = 8 from rfl)
      have hz4 : Hid (wr.heap[w.heap.size + 1]? = some (.cells (u64v (uptoW 8 [])).toArray 43 (0, 0))) := (hbt.block _ (by omega) (by intro e; injection e; omega)).trans hgZV.out
      have hb4 : Below w.heap.size w wr := But.below hbwV hbt (by omega) (by omega)
      clear hX hUP
      go_wp2_with (first
        | (with_reducible refine wpList_load_row rfl 43 (.tmp 3) rfl T rfl 43 (u64v X).toArray (0, 0) _ hg.out Tryd.underlying43 rfl (by rw [HXS.out]; kernel_rfl) ?_)
        | (with_reducible refine wpList_store_row rfl 43 (.tmp 2) (.tmp 21) rfl (w.heap.size + 1) (u64v X).toArray rfl rfl 43 _ hz4.out (by rw [HXS.out]; kernel_rfl) (by rw [HXS.out]; exact HZ.out) (all_oneCell_toArray (u64v_one _)) ?_))
      refine bodyPost_ret (v := .agg (u64v X).toArray) (results_cell_row Tryd.results25 _ _ (w.heap.size + 1) 43 _ (0, 0) _ rfl (setRow_heap _ _ _ _ _ _ hz4.out) Tryd.underlying43 rfl (by rw [HXS.out]; kernel_rfl)) rfl ⟨X, rfl, HX, HXL, below_setRow hb4 (by omega) _⟩
end Go.Proofs.YtlobejnohkecdaaDoor
