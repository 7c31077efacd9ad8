/-
  Contract of scalar's told: a number's 32 bytes. Conditions: pieces below 2^64.
-/
import Derived.Test.YtlobejnohkecdaaDoorScD
import Derived.Test.YtlobejnohkecdaaDoorOctDD
namespace Go.Proofs.YtlobejnohkecdaaDoor
open Go.RowKit

theorem le_set (v k : Nat) (h : k < 32) : (uptoB 32 (le v k)).set k (UInt8.ofNat (v / 2 ^ (8 * k))) = uptoB 32 (le v (k + 1)) := by
  obtain ⟨m, hm⟩ : ∃ m, 32 - (le v k).length = m + 1 := ⟨31 - k, by rw [le_len]; omega⟩
  have e : uptoB 32 (le v (k + 1)) = le v k ++ (UInt8.ofNat (v / 2 ^ (8 * k)) :: List.replicate m 0) := by
    rw [uptoB, le, List.append_assoc, List.length_append, List.length_singleton]
    congr 2
    rw [show 32 - ((le v k).length + 1) = m by omega]; rfl
  have e2 : (uptoB 32 (le v k)).set (le v k).length (UInt8.ofNat (v / 2 ^ (8 * k))) = le v k ++ (UInt8.ofNat (v / 2 ^ (8 * k)) :: List.replicate m 0) := by
    rw [uptoB, List.set_append_right _ _ (Nat.le_refl _), Nat.sub_self, hm, List.replicate_succ, List.set_cons_zero]
  rw [le_len] at e2
  rw [e2, e]
set_option maxRecDepth 100000 in
set_option maxHeartbeats 1000000 in
theorem ltold_any (w : World) (X : List Nat) (hX : X.length = 4) (bX : ∀ x ∈ X, x < B64) :
    Calls Tryd.prog 24 #[.agg (u64v X).toArray] w fun e w' => ∃ l, e = .returned (.agg (bv l).toArray) ∧ Vlt (l = le (nB X) 32) ∧ Hid (l.length = 32) ∧ Below w.heap.size w w' := by
  have hzw : ∀ w : World, (zeroValue 24).run Tryd.prog w = .ok (.agg (bv (uptoB 32 [])).toArray) w := fun w => by kernel_rfl
  obtain ⟨W, hW, hgX, hgZ, hbW, hsW⟩ := pair_new w (u64v X).toArray (bv (uptoB 32 [])).toArray 41 24
  have HW := Lib.hid hW
  have HXL := Lib.hid hX
  have HBX := vlt bX
  have hs1 : w.heap.size + 1 < W.heap.size := by have := hsW.out; omega
  clear hW hX bX hsW
  go_enter Tryd.func24, Tryd.ntmps24
  go_upto_region 1 with fail
  rw [HW.out]
  go_upto_region 2 with fail
  obtain ⟨V, hV, hgT, hbV, hsV⟩ := one_new W (bv (uptoB 32 [])).toArray 24
  rw [hV]
  obtain ⟨T, hT⟩ : ∃ T, T = W.heap.size := ⟨_, rfl⟩
  rw [← hT] at hgT hs1 ⊢
  have hgX1 : Hid (V.heap[w.heap.size]? = some (.cells (u64v X).toArray 41 (0, 0))) := (hbV.block _ (by omega)).trans hgX.out
  have hgZ1 : Hid (V.heap[w.heap.size + 1]? = some (.cells (bv (uptoB 32 [])).toArray 24 (0, 0))) := (hbV.block _ (by omega)).trans hgZ.out
  have hbw1 := below_next hbW hbW.size hbV
  have hsT : w.heap.size + 1 < V.heap.size := (Array.getElem?_eq_some_iff.1 hgZ1.out).1
  clear hV hbV hgX hgZ hbW hsV hT HW
  go_wp2_with fail
  go_loopw [5] (fun i wr => ∃ k : Nat, k ≤ 32 ∧ i = .int .i64 (k : Int) ∧ Hid (wr.heap[T]? = some (.cells (bv (uptoB 32 (le (nB X) k))).toArray 24 (0, 0))) ∧ But T V wr) (fun i _ => 32 - (intOf i).toNat)
  case atStart => exact ⟨0, by omega, rfl, hgT, But.refl _ _⟩
  case round =>
    clear hgT
    obtain ⟨k, hk, rfl, hg, hbt⟩ := hrel
    by_cases hlt : k < 32
    · have hgx : Hid (wr.heap[w.heap.size]? = some (.cells (u64v X).toArray 41 (0, 0))) := (hbt.block _ (by omega) (by intro e; injection e; omega)).trans hgX1.out
      have c0 := long_at hgx.out (k / 8) (by rw [HXL.out]; omega)
      have hbp := vlt (byte_piece HBX.out k)
      have lx := natB_mem HBX.out (k / 8)
      have et : Int.tdiv (k : Int) 8 = ((k / 8 : Nat) : Int) := (Int.ofNat_tdiv k 8).symm
      have em : Int.tmod (k : Int) 8 = ((k % 8 : Nat) : Int) := (Int.ofNat_tmod k 8).symm
      have f0 : wr.frozen? ⟨T, k, none⟩ = false := frozen_of_row _ _ _ _ _ hg.out
      obtain ⟨u0, hu0⟩ : ∃ u, wr.cell? ⟨T, k, none⟩ = some u := by
        rw [cell_of_row _ _ _ _ _ _ hg.out]
        exact ⟨_, List.getElem?_toArray .. ▸ List.getElem?_eq_getElem (by rw [bv_len, uptoB_len _ _ (by rw [le_len]; exact hk)]; exact hlt)⟩
      generalize natAt X (k / 8) = x at *
      have hset := world_set_cell hg.out k (.int .u8 ((x : Int) / 2 ^ (k % 8 * 8) % 256))
      rw [byte_of x (k % 8 * 8), bv_set, hbp.out, le_set _ _ hlt, ← hbp.out, ← byte_of x (k % 8 * 8)] at hset
      have hb2 := hbt.set (i := k) (.int .u8 ((x : Int) / 2 ^ (k % 8 * 8) % 256))
      clear hbp
      go_wp2_with fail
      go_roundw
      case rel => exact ⟨k + 1, by omega, by go_num, hset, hb2⟩
      case measure => simp [intOf]; omega
    · have HK := Lib.hid (show k = 32 by omega)
      obtain ⟨l, hl⟩ : ∃ l, l = le (nB X) k := ⟨_, rfl⟩
      rw [← hl] at hg
      have HE := vlt (show l = le (nB X) 32 by rw [hl, HK.out])
      have HL := Lib.hid (show l.length = 32 by rw [hl, le_len]; exact HK.out)
      rw [uptoB_all _ _ HL.out] at hg
      have HLS := Lib.hid (bv_size l HL.out)
      have HZ := Lib.hid (show (bv (uptoB 32 [])).toArray.size = 32 from rfl)
      have hz4 : Hid (wr.heap[w.heap.size + 1]? = some (.cells (bv (uptoB 32 [])).toArray 24 (0, 0))) := (hbt.block _ (by omega) (by intro e; injection e; omega)).trans hgZ1.out
      have hb4 : Below w.heap.size w wr := But.below hbw1 hbt (by omega) (by omega)
      clear hl
      go_wp2_with (first
        | (with_reducible refine wpList_load_row rfl 24 (.tmp 3) rfl T rfl 24 (bv l).toArray (0, 0) _ hg.out Tryd.underlying24 rfl (by rw [HLS.out]; kernel_rfl) ?_)
        | (with_reducible refine wpList_store_row rfl 24 (.tmp 2) (.tmp 20) rfl (w.heap.size + 1) (bv l).toArray rfl rfl 24 _ hz4.out (by rw [HLS.out]; kernel_rfl) (by rw [HLS.out]; exact HZ.out) (all_oneCell_toArray (bv_one _)) ?_))
      refine bodyPost_ret (v := .agg (bv l).toArray) (results_cell_row Tryd.results24 _ _ (w.heap.size + 1) 24 _ (0, 0) _ rfl (setRow_heap _ _ _ _ _ _ hz4.out) Tryd.underlying24 rfl (by rw [HLS.out]; kernel_rfl)) rfl ⟨l, rfl, HE, HL, below_setRow hb4 (by omega) _⟩
end Go.Proofs.YtlobejnohkecdaaDoor
