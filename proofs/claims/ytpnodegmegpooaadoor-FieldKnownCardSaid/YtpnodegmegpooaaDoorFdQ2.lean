/-
  Law 7's all: the greatest word. Conditions: none.
-/
import Derived.Test.YtpnodegmegpooaaDoorFdQ
namespace Go.Proofs.YtpnodegmegpooaaDoor
open Go.RowKit

def ALL : Nat := 115792089237316195423570985008687907853269984665640564039457584007913129639935
def arow : Nat → List UInt8
  | 0 => z32
  | k + 1 => (arow k).set k 255
theorem arow_len : ∀ k, (arow k).length = 32
  | 0 => rfl
  | k + 1 => by rw [arow, List.length_set, arow_len k]
theorem arow_all : arow 32 = wk ALL := by decide +kernel
set_option maxRecDepth 100000 in
set_option maxHeartbeats 1000000 in
theorem all7_any (w : World) : Calls Tryd.prog 12 #[] w fun e w' => ∃ l, e = .returned (.agg (bv l).toArray) ∧ Vlt (l = wk ALL) ∧ Hid (l.length = 32) ∧ Below w.heap.size w w' := by
  have hzw := zero_word
  obtain ⟨W, hW, hgZ, hgT, hbW, hsW⟩ := pair_new w (bv z32).toArray (bv z32).toArray 24 24
  have HW := Lib.hid hW
  have hs : w.heap.size + 1 < W.heap.size := by have := hsW.out; omega
  clear hW hsW
  go_enter Tryd.func12, Tryd.ntmps12
  go_upto_region 2 with (with_reducible refine wpList_store_row rfl 24 (.tmp 1) (.tmp 3) rfl (w.heap.size + 1) (bv z32).toArray rfl rfl 24 _ (heap_alloc2_new _ _ _) (by kernel_rfl) (by kernel_rfl) (all_oneCell_toArray (bv_one _)) ?_)
  obtain ⟨V, hV⟩ : ∃ V, V = ((w.alloc (.cells (bv z32).toArray 24)).alloc (.cells (bv z32).toArray 24)).setRow (w.heap.size + 1) (bv z32).toArray := ⟨_, rfl⟩
  rw [← hV]
  have hR : Hid (V.heap[w.heap.size + 1]? = some (.cells (bv z32).toArray 24 (0, 0))) := by rw [hV]; exact setRow_heap _ _ _ _ _ _ (heap_alloc2_new _ _ _)
  have hZ : Hid (V.heap[w.heap.size]? = some (.cells (bv z32).toArray 24 (0, 0))) := by rw [hV]; exact (setRow_other _ _ _ _ (by omega)).trans (heap_alloc2_old _ _ _)
  have hbV : Below w.heap.size w V := by rw [hV]; exact below_setRow (by rw [HW.out]; exact hbW) (by omega) _
  have hsV : w.heap.size + 1 < V.heap.size := (Array.getElem?_eq_some_iff.1 hR.out).1
  clear hV hgZ hgT hbW hs HW
  obtain ⟨R, hRe⟩ : ∃ R, R = w.heap.size + 1 := ⟨_, rfl⟩
  rw [← hRe] at hR hsV ⊢
  have hne : w.heap.size < R := by omega
  clear hRe
  simp only [Act.put]
  go_wp2_with fail
  go_loopw [2] (fun i wr => ∃ k : Nat, k ≤ 32 ∧ i = .int .i64 (k : Int) ∧ Hid (wr.heap[R]? = some (.cells (bv (arow k)).toArray 24 (0, 0))) ∧ But R V wr) (fun i _ => 32 - (intOf i).toNat)
  case atStart => exact ⟨0, by omega, rfl, hR, But.refl _ _⟩
  case round =>
    obtain ⟨k, hk, rfl, hg, hbt⟩ := hrel
    by_cases hlt : k < 32
    · have f0 : wr.frozen? ⟨R, k, none⟩ = false := frozen_of_row _ _ _ _ _ hg.out
      obtain ⟨u0, c0⟩ : ∃ u, wr.cell? ⟨R, k, none⟩ = some u := by
        rw [cell_of_row _ _ _ _ _ _ hg.out]
        exact ⟨_, List.getElem?_toArray .. ▸ List.getElem?_eq_getElem (by rw [bv_len, arow_len]; omega)⟩
      have hset : Hid ((wr.setCell ⟨R, k, none⟩ (.int .u8 255)).heap[R]? = some (.cells (bv (arow (k + 1))).toArray 24 (0, 0))) := by
        have h1 := (world_set_cell hg.out k (.int .u8 255)).out
        rw [show (255 : Int) = ((255 : UInt8).toNat : Int) from rfl, bv_set] at h1
        exact h1
      have hb2 := hbt.set (i := k) (.int .u8 255)
      go_wp2
      go_roundw
      case rel => exact ⟨k + 1, by omega, by go_num, hset, hb2⟩
      case measure => simp [intOf]; omega
    · obtain rfl : k = 32 := by omega
      obtain ⟨T, hT⟩ : ∃ T, T = wk ALL := ⟨_, rfl⟩
      have HT := vlt hT
      have HTL := Lib.hid (show T.length = 32 by rw [hT, wk_len])
      have hset : Hid (wr.heap[R]? = some (.cells (bv T).toArray 24 (0, 0))) := by
        have h1 := hg.out
        rw [arow_all, ← hT] at h1
        exact h1
      clear hT hg
      have hz3 : Hid (wr.heap[w.heap.size]? = some (.cells (bv z32).toArray 24 (0, 0))) := (hbt.block _ (by omega) (by intro e; injection e; omega)).trans hZ.out
      have hbw : Below w.heap.size w wr := But.below hbV hbt (by omega) (by omega)
      have hsz := Lib.hid (bv_size T HTL.out)
      go_wp2_with (first
        | (with_reducible refine wpList_load_row rfl 24 (.tmp 1) rfl R rfl 24 (bv T).toArray (0, 0) _ hset.out Tryd.underlying24 rfl (by rw [hsz.out]; kernel_rfl) ?_)
        | (with_reducible refine wpList_store_row rfl 24 (.tmp 0) (.tmp 10) rfl w.heap.size (bv T).toArray rfl rfl 24 _ hz3.out (by rw [hsz.out]; kernel_rfl) (by rw [hsz.out]; kernel_rfl) (all_oneCell_toArray (bv_one _)) ?_))
      refine bodyPost_ret (v := .agg (bv T).toArray) (results_cell_row Tryd.results12 _ _ w.heap.size 24 _ (0, 0) _ rfl (setRow_heap _ _ _ _ _ _ hz3.out) Tryd.underlying24 rfl (by rw [hsz.out]; kernel_rfl)) rfl ⟨T, rfl, HT, HTL, below_setRow hbw (by omega) _⟩
end Go.Proofs.YtpnodegmegpooaaDoor
