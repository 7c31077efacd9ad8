/-
  Contract of the document's own carried. Conditions: pieces from -2^47 to 2^47.
-/
import Derived.Test.YtpnodegmegpooaaDoorRfI
import Derived.Test.YtpnodegmegpooaaDoorFdX
namespace Go.Proofs.YtpnodegmegpooaaDoor
open Go.RowKit

def z16 : List Int := List.replicate 16 0
theorem z16_len : z16.length = 16 := rfl
theorem zero_fe (w : World) : (zeroValue 41).run Tryd.prog w = .ok (.agg (i64v z16).toArray) w := by kernel_rfl
set_option maxRecDepth 100000 in
set_option maxHeartbeats 2000000 in
theorem rcar_any (w : World) (l : List Int) (hl : l.length = 16) (hb : ∀ x ∈ l, -140737488355328 ≤ x ∧ x ≤ 140737488355328) :
    Calls Tryd.prog 50 #[.agg (i64v l).toArray] w fun e w' => ∃ r, e = .returned (.agg (i64v r).toArray) ∧ Vlt (r = carI l) ∧ Hid (r.length = 16) ∧ Below w.heap.size w w' := by
  have hzf := zero_fe
  obtain ⟨W, hW, hgA, hgZ, hbW, hsW⟩ := pair_new w (i64v l).toArray (i64v z16).toArray 41 41
  have HW := Lib.hid hW
  have HL := Lib.hid hl
  have HB := vlt hb
  have hs : w.heap.size + 1 < W.heap.size := by have := hsW.out; omega
  clear hW hl hb hsW
  go_enter Tryd.func50, Tryd.ntmps50
  go_upto_region 1 with fail
  rw [HW.out]
  go_wp2_with fail
  go_loopw [3] (fun s wr => ∃ i : Nat, i ≤ 16 ∧ s = .int .i64 (i : Int) ∧ Hid (wr.heap[w.heap.size]? = some (.cells (i64v (mC l i)).toArray 41 (0, 0))) ∧ But w.heap.size W wr) (fun s _ => 16 - (intOf s).toNat)
  case atStart => exact ⟨0, by omega, rfl, by rw [mC_zero l HL.out]; exact hgA, But.refl _ _⟩
  case round =>
    obtain ⟨i, hi, rfl, hg, hbt⟩ := hrel
    by_cases hlt : i < 16
    · obtain ⟨M, hM⟩ : ∃ M, M = mC l i := ⟨_, rfl⟩
      rw [← hM] at hg
      have HML := Lib.hid (show M.length = 16 by rw [hM, mC_len l HL.out])
      have hv := vC_small l HL.out HB.out i hlt
      have c0 := int_at hg.out i (by rw [HML.out]; exact hlt)
      rw [show iat M i = vC l i by rw [hM, mC_at l HL.out i hlt]] at c0
      have f0 : wr.frozen? ⟨w.heap.size, i, none⟩ = false := frozen_of_row _ _ _ _ _ hg.out
      obtain ⟨v, hve⟩ : ∃ v, v = vC l i := ⟨_, rfl⟩
      rw [← hve] at c0 hv
      have lq : -4294967296 ≤ v / 65536 ∧ v / 65536 ≤ 4294967296 := by omega
      have hs0 := world_set_cell hg.out i (.int .i64 (v - v / 65536 * 65536))
      have hb0 := hbt.set (i := i) (.int .i64 (v - v / 65536 * 65536))
      rw [i64v_set] at hs0
      by_cases h15 : i < 15
      · have hn := mC_next l HL.out i h15 (v - v / 65536 * 65536)
        rw [← hM, ← hve] at hn
        have lx : -140737488355328 ≤ iat l (i + 1) ∧ iat l (i + 1) ≤ 140737488355328 := HB.out _ (by rw [iat, List.getD_eq_getElem?_getD, List.getElem?_eq_getElem (by rw [HL.out]; omega)]; exact List.getElem_mem _)
        have c1 := int_at hs0.out (i + 1) (by rw [List.length_set, HML.out]; omega)
        rw [hn.1] at c1
        have f1 : (wr.setCell ⟨w.heap.size, i, none⟩ (.int .i64 (v - v / 65536 * 65536))).frozen? ⟨w.heap.size, i + 1, none⟩ = false := frozen_of_row _ _ _ _ _ hs0.out
        have hs2 := world_set_cell hs0.out (i + 1) (.int .i64 (iat l (i + 1) + v / 65536))
        rw [i64v_set, hn.2] at hs2
        have hb2 := hb0.set (i := i + 1) (.int .i64 (iat l (i + 1) + v / 65536))
        generalize iat l (i + 1) = x at *
        clear hn hM hve hs0 hb0
        go_wp2
        go_roundw
        case rel => exact ⟨i + 1, by omega, by go_num, hs2, hb2⟩
        case measure => simp [intOf]; omega
      · obtain rfl : i = 15 := by omega
        have hn := mC_last l HL.out (v - v / 65536 * 65536)
        rw [← hM, ← hve] at hn
        have lx : 0 ≤ iat (carL 0 l).1 0 ∧ iat (carL 0 l).1 0 ≤ 65535 := carL_bits l 0 _ (by rw [iat, List.getD_eq_getElem?_getD, List.getElem?_eq_getElem (by rw [carL_len, HL.out]; decide)]; exact List.getElem_mem _)
        have c1 := int_at hs0.out 0 (by rw [List.length_set, HML.out]; omega)
        rw [hn.1] at c1
        have f1 : (wr.setCell ⟨w.heap.size, 15, none⟩ (.int .i64 (v - v / 65536 * 65536))).frozen? ⟨w.heap.size, 0, none⟩ = false := frozen_of_row _ _ _ _ _ hs0.out
        have hs2 := world_set_cell hs0.out 0 (.int .i64 (iat (carL 0 l).1 0 + 38 * (v / 65536)))
        rw [i64v_set, hn.2] at hs2
        have hb2 := hb0.set (i := 0) (.int .i64 (iat (carL 0 l).1 0 + 38 * (v / 65536)))
        generalize iat (carL 0 l).1 0 = x at *
        clear hn hM hve hs0 hb0
        go_wp2
        go_roundw
        case rel => exact ⟨16, by omega, by go_num, hs2, hb2⟩
        case measure => simp [intOf]
    · obtain rfl : i = 16 := by omega
      obtain ⟨T, hT⟩ : ∃ T, T = carI l := ⟨_, rfl⟩
      rw [show mC l 16 = T by rw [hT, mC, if_neg (by decide)]] at hg
      have HT := vlt hT
      have HTL := Lib.hid (show T.length = 16 by rw [hT, carI_len, HL.out])
      clear hT
      have hsz := Lib.hid (i64v_size T HTL.out)
      have hz : Hid (wr.heap[w.heap.size + 1]? = some (.cells (i64v z16).toArray 41 (0, 0))) := (hbt.block _ (by omega) (by intro e; injection e; omega)).trans hgZ.out
      have hbw : Below w.heap.size w wr := But.below hbW hbt (by omega) (by omega)
      go_wp2_with (first
        | (with_reducible refine wpList_load_row rfl 41 (.tmp 1) rfl w.heap.size rfl 41 (i64v T).toArray (0, 0) _ hg.out Tryd.underlying41 rfl (by rw [hsz.out]; kernel_rfl) ?_)
        | (with_reducible refine wpList_store_row rfl 41 (.tmp 2) (.tmp 38) rfl (w.heap.size + 1) (i64v T).toArray rfl rfl 41 _ hz.out (by rw [hsz.out]; kernel_rfl) (by rw [hsz.out]; kernel_rfl) (all_oneCell_toArray (i64v_one _)) ?_))
      refine bodyPost_ret (v := .agg (i64v T).toArray) (results_cell_row Tryd.results50 _ _ (w.heap.size + 1) 41 _ (0, 0) _ rfl (setRow_heap _ _ _ _ _ _ hz.out) Tryd.underlying41 rfl (by rw [hsz.out]; kernel_rfl)) rfl ⟨T, rfl, HT, HTL, below_setRow hbw (by omega) _⟩
end Go.Proofs.YtpnodegmegpooaaDoor
