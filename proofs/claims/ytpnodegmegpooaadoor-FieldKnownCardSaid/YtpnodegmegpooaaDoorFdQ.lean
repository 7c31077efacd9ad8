/-
  Law 7's prime: the word of 2^255 - 19; words of four and five bytes. No statement is proved here. Conditions: none.
-/
import Derived.Test.YtpnodegmegpooaaDoorFdY
namespace Go.Proofs.YtpnodegmegpooaaDoor
open Go.RowKit

theorem le_zero (m : Nat) : le 0 m = List.replicate m 0 := by
  induction m with
  | zero => rfl
  | succ m ih => rw [le, ih, Nat.zero_div, List.replicate_succ']; rfl
theorem wk_four (u : Nat) (h : u < 4294967296) : wk u = [UInt8.ofNat u, UInt8.ofNat (u / 256), UInt8.ofNat (u / 65536), UInt8.ofNat (u / 16777216)] ++ List.replicate 28 0 := by
  rw [wk, show (32 : Nat) = 4 + 28 from rfl, le_add, show (2 : Nat) ^ (8 * 4) = 4294967296 by decide, Nat.div_eq_of_lt h, le_zero]
  simp [le]
theorem wk_five (u : Nat) (h : u < 1099511627776) : wk u = [UInt8.ofNat u, UInt8.ofNat (u / 256), UInt8.ofNat (u / 65536), UInt8.ofNat (u / 16777216), UInt8.ofNat (u / 4294967296)] ++ List.replicate 27 0 := by
  rw [wk, show (32 : Nat) = 5 + 27 from rfl, le_add, show (2 : Nat) ^ (8 * 5) = 1099511627776 by decide, Nat.div_eq_of_lt h, le_zero]
  simp [le]
theorem set_four_w (n : Nat) (hn : n < 4294967296) : ((((bv z32).set 0 (.int .u8 ((n : Int) % 256))).set 1 (.int .u8 ((n : Int) / 256 % 256))).set 2 (.int .u8 ((n : Int) / 65536 % 256))).set 3 (.int .u8 ((n : Int) / 16777216)) = bv (wk n) := by
  rw [wk_four n hn]
  have h3 : (n : Int) / 16777216 = (n : Int) / 16777216 % 256 := by omega
  rw [h3]
  simp [bv, z32, List.replicate]
theorem set_five_w (n : Nat) (hn : n < 1099511627776) : (((((bv z32).set 0 (.int .u8 ((n : Int) % 256))).set 1 (.int .u8 ((n : Int) / 256 % 256))).set 2 (.int .u8 ((n : Int) / 65536 % 256))).set 3 (.int .u8 ((n : Int) / 16777216 % 256))).set 4 (.int .u8 ((n : Int) / 4294967296)) = bv (wk n) := by
  rw [wk_five n hn]
  have h3 : (n : Int) / 4294967296 = (n : Int) / 4294967296 % 256 := by omega
  rw [h3]
  simp [bv, z32, List.replicate]
/-- The rows of law 7's prime. -/
def prow : Nat → List UInt8
  | 0 => z32
  | k + 1 => (prow k).set (k + 1) 255
theorem prow_len : ∀ k, (prow k).length = 32
  | 0 => rfl
  | k + 1 => by rw [prow, List.length_set, prow_len k]
theorem prow_all : ((prow 31).set 0 237).set 31 127 = wk FP := by decide +kernel
set_option maxRecDepth 100000 in
set_option maxHeartbeats 1000000 in
theorem prime7_any (w : World) : Calls Tryd.prog 10 #[] w fun e w' => ∃ l, e = .returned (.agg (bv l).toArray) ∧ Vlt (l = wk FP) ∧ Hid (l.length = 32) ∧ Below w.heap.size w w' := by
  have hzw := zero_word
  obtain ⟨W, hW, hgZ, hgT, hbW, hsW⟩ := pair_new w (bv z32).toArray (bv z32).toArray 24 24
  have HW := Lib.hid hW
  have hs : w.heap.size + 1 < W.heap.size := by have := hsW.out; omega
  clear hW hsW
  go_enter Tryd.func10, Tryd.ntmps10
  go_upto_region 2 with (with_reducible refine wpList_store_row rfl 24 (.tmp 1) (.tmp 3) rfl (w.heap.size + 1) (bv z32).toArray rfl rfl 24 _ (heap_alloc2_new _ _ _) (by kernel_rfl) (by kernel_rfl) (all_oneCell_toArray (bv_one _)) ?_)
  obtain ⟨V, hV⟩ : ∃ V, V = ((w.alloc (.cells (bv z32).toArray 24)).alloc (.cells (bv z32).toArray 24)).setRow (w.heap.size + 1) (bv z32).toArray := ⟨_, rfl⟩
  rw [← hV]
  have hR : Hid (V.heap[w.heap.size + 1]? = some (.cells (bv z32).toArray 24 (0, 0))) := by rw [hV]; exact setRow_heap _ _ _ _ _ _ (heap_alloc2_new _ _ _)
  have hZ : Hid (V.heap[w.heap.size]? = some (.cells (bv z32).toArray 24 (0, 0))) := by rw [hV]; exact (setRow_other _ _ _ _ (by omega)).trans (heap_alloc2_old _ _ _)
  have hbV : Below w.heap.size w V := by rw [hV]; exact below_setRow (by rw [HW.out]; exact hbW) (by omega) _
  have hsV : w.heap.size + 1 < V.heap.size := (Array.getElem?_eq_some_iff.1 hR.out).1
  clear hV hgZ hgT hbW hs HW
  obtain ⟨R, hRe⟩ : ∃ R, R = w.heap.size + 1 := ⟨_, rfl⟩
  rw [← hRe] at hR hsV ⊢
  have hne : w.heap.size < R := by omega
  clear hRe
  simp only [Act.put]
  go_wp2_with fail
  go_loopw [2] (fun i wr => ∃ k : Nat, k ≤ 31 ∧ i = .int .i64 ((k : Int) + 1) ∧ Hid (wr.heap[R]? = some (.cells (bv (prow k)).toArray 24 (0, 0))) ∧ But R V wr) (fun i _ => 32 - (intOf i).toNat)
  case atStart => exact ⟨0, by omega, rfl, hR, But.refl _ _⟩
  case round =>
    obtain ⟨k, hk, rfl, hg, hbt⟩ := hrel
    by_cases hlt : k < 31
    · have f0 : wr.frozen? ⟨R, k + 1, none⟩ = false := frozen_of_row _ _ _ _ _ hg.out
      obtain ⟨u0, c0⟩ : ∃ u, wr.cell? ⟨R, k + 1, none⟩ = some u := by
        rw [cell_of_row _ _ _ _ _ _ hg.out]
        exact ⟨_, List.getElem?_toArray .. ▸ List.getElem?_eq_getElem (by rw [bv_len, prow_len]; omega)⟩
      have hset : Hid ((wr.setCell ⟨R, k + 1, none⟩ (.int .u8 255)).heap[R]? = some (.cells (bv (prow (k + 1))).toArray 24 (0, 0))) := by
        have h1 := (world_set_cell hg.out (k + 1) (.int .u8 255)).out
        rw [show (255 : Int) = ((255 : UInt8).toNat : Int) from rfl, bv_set] at h1
        exact h1
      have hb2 := hbt.set (i := k + 1) (.int .u8 255)
      go_wp2
      go_roundw
      case rel => exact ⟨k + 1, by omega, by go_num, hset, hb2⟩
      case measure => simp [intOf]; omega
    · obtain rfl : k = 31 := by omega
      have f0 : wr.frozen? ⟨R, 0, none⟩ = false := frozen_of_row _ _ _ _ _ hg.out
      have f1 : wr.frozen? ⟨R, 31, none⟩ = false := frozen_of_row _ _ _ _ _ hg.out
      obtain ⟨u0, c0⟩ : ∃ u, wr.cell? ⟨R, 0, none⟩ = some u := by
        rw [cell_of_row _ _ _ _ _ _ hg.out]
        exact ⟨_, List.getElem?_toArray .. ▸ List.getElem?_eq_getElem (by rw [bv_len, prow_len]; omega)⟩
      obtain ⟨u1, c1⟩ : ∃ u, wr.cell? ⟨R, 31, none⟩ = some u := by
        rw [cell_of_row _ _ _ _ _ _ hg.out]
        exact ⟨_, List.getElem?_toArray .. ▸ List.getElem?_eq_getElem (by rw [bv_len, prow_len]; omega)⟩
      obtain ⟨T, hT⟩ : ∃ T, T = wk FP := ⟨_, rfl⟩
      have HT := vlt hT
      have HTL := Lib.hid (show T.length = 32 by rw [hT, wk_len])
      have hset : Hid (((wr.setCell ⟨R, 0, none⟩ (.int .u8 237)).setCell ⟨R, 31, none⟩ (.int .u8 127)).heap[R]? = some (.cells (bv T).toArray 24 (0, 0))) := by
        have h1 := (world_set_cell (world_set_cell hg.out 0 (.int .u8 237)).out 31 (.int .u8 127)).out
        rw [show (237 : Int) = ((237 : UInt8).toNat : Int) from rfl, show (127 : Int) = ((127 : UInt8).toNat : Int) from rfl, bv_set, bv_set, prow_all, ← hT] at h1
        exact h1
      have hb2 := (hbt.set (i := 0) (.int .u8 237)).set (i := 31) (.int .u8 127)
      clear hT hg hbt
      go_upto_region 7 with fail
      generalize (wr.setCell ⟨R, 0, none⟩ (.int .u8 237)).setCell ⟨R, 31, none⟩ (.int .u8 127) = w3 at *
      have hz3 : Hid (w3.heap[w.heap.size]? = some (.cells (bv z32).toArray 24 (0, 0))) := (hb2.block _ (by omega) (by intro e; injection e; omega)).trans hZ.out
      have hbw : Below w.heap.size w w3 := But.below hbV hb2 (by omega) (by omega)
      have hsz := Lib.hid (bv_size T HTL.out)
      go_wp2_with (first
        | (with_reducible refine wpList_load_row rfl 24 (.tmp 1) rfl R rfl 24 (bv T).toArray (0, 0) _ hset.out Tryd.underlying24 rfl (by rw [hsz.out]; kernel_rfl) ?_)
        | (with_reducible refine wpList_store_row rfl 24 (.tmp 0) (.tmp 12) rfl w.heap.size (bv T).toArray rfl rfl 24 _ hz3.out (by rw [hsz.out]; kernel_rfl) (by rw [hsz.out]; kernel_rfl) (all_oneCell_toArray (bv_one _)) ?_))
      refine bodyPost_ret (v := .agg (bv T).toArray) (results_cell_row Tryd.results10 _ _ w.heap.size 24 _ (0, 0) _ rfl (setRow_heap _ _ _ _ _ _ hz3.out) Tryd.underlying24 rfl (by rw [hsz.out]; kernel_rfl)) rfl ⟨T, rfl, HT, HTL, below_setRow hbw (by omega) _⟩
end Go.Proofs.YtpnodegmegpooaaDoor
