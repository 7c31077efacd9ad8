/-
  Contract of the document's own least. Conditions: seventeen bytes.
-/
import Derived.Test.YtioodeiloepaaaaRf5U
namespace Go.Proofs.Ytioodeiloepaaaa
open Go.RowKit

def one17 : List Nat := 1 :: List.replicate 16 0
def five17 : List Nat := 5 :: List.replicate 16 0
theorem built_one : Try.prog.built 50 [(0, .int .u32 1)] = some (u32v one17).toArray := by kernel_rfl
theorem built_five : Try.prog.built 50 [(0, .int .u32 5)] = some (u32v five17).toArray := by kernel_rfl
theorem and2w (x : Nat) (hx : x < 4294967296) : bits .and .u32 (x : Int) 3 = ((x % 4 : Nat) : Int) := by
  have h := u32_and_nat x 3 hx (by decide)
  rw [show ((3 : Nat) : Int) = 3 from rfl] at h
  rw [h, show (3 : Nat) = 2 ^ 2 - 1 by decide, Nat.and_two_pow_sub_one_eq_mod]
theorem lv_split16 (X : List Nat) (h : X.length = 17) (hl : ∀ j, j < 16 → natAt X j < 256) : ∃ L, lvN X = L + natAt X 16 * 340282366920938463463374607431768211456 ∧ L < 340282366920938463463374607431768211456 ∧ ∀ v, lvN (X.set 16 v) = L + v * 340282366920938463463374607431768211456 := by
  have h2 := lvN_take X 16 (by omega)
  rw [List.take_of_length_le (by omega)] at h2
  have h3 : lvN (X.take 16) < 256 ^ (X.take 16).length := lvN_lt _ (by
    intro x hx
    obtain ⟨k, hk, rfl⟩ := List.mem_iff_getElem.1 hx
    have hk16 : k < 16 := by simp at hk; omega
    have := hl k (by omega)
    have hkX : k < X.length := by omega
    simpa [natAt, hkX] using this)
  have e : (X.take 16).length = 16 := by simp; omega
  rw [e, show (256 : Nat) ^ 16 = 340282366920938463463374607431768211456 by decide] at h3
  rw [show (256 : Nat) ^ 16 = 340282366920938463463374607431768211456 by decide] at h2
  refine ⟨_, h2, h3, fun v => ?_⟩
  have h4 := lvN_set X 16 v (by omega)
  rw [show (256 : Nat) ^ 16 = 340282366920938463463374607431768211456 by decide] at h4
  omega

set_option maxRecDepth 100000 in
set_option maxHeartbeats 2000000 in
theorem rleast_any (w : World) (H : List Nat) (hH : H.length = 17) (la : ∀ x ∈ H, x < 256) :
    Calls Try.prog 22 #[.agg (u32v H).toArray] w fun e w' => ∃ X, e = .returned (.agg (u32v X).toArray) ∧ Hid (X.length = 17) ∧ Vlt ((∀ j, j < 17 → natAt X j < 256) ∧ lvN X = lvN H % PP) ∧ Below w.heap.size w w' := by
  have hzn := zero_w17
  obtain ⟨W, hW, hgH, hgZ, hbW, hsW⟩ := pair_new w (u32v H).toArray (u32v z17).toArray 50 50
  have HW := Lib.hid hW
  have HH := Lib.hid hH
  have LH := Lib.hid la
  have HHS := Lib.hid (show (u32v H).toArray.size = 17 by simp [u32v_len, hH])
  have HZS := Lib.hid (show (u32v z17).toArray.size = 17 from rfl)
  have HOS := Lib.hid (show (u32v one17).toArray.size = 17 from rfl)
  have HFS := Lib.hid (show (u32v five17).toArray.size = 17 from rfl)
  have hs1 : w.heap.size + 1 < W.heap.size := by have := hsW.out; omega
  clear hW hH la
  go_enter Try.func22, Try.ntmps22
  go_upto_region 1 with fail
  rw [HW.out]
  go_upto_region 2 with (first
    | (with_reducible refine wpList_build_to rfl 50 _ rfl [(0, .int .u32 1)] (by kernel_rfl) _ built_one ?_)
    | ((with_reducible refine wpList_store_row rfl 50 (.tmp 3) (.tmp 6) rfl W.heap.size (u32v one17).toArray rfl rfl 50 _ (heap_alloc_new _ _) (by rw [HOS.out]; kernel_rfl) (by rw [HOS.out]; exact HZS.out) (all_oneCell_toArray (u32v_one _)) ?_); rw [World.setRow_alloc_new]))
  have g1 := Lib.hid (heap_alloc_new W (.cells (u32v one17).toArray 50))
  have hb1 : Below W.heap.size W (W.alloc (.cells (u32v one17).toArray 50)) := (Below.refl _ _).alloc (Nat.le_refl _) _
  generalize W.alloc (.cells (u32v one17).toArray 50) = w1 at *
  have hgH1 : Hid (w1.heap[w.heap.size]? = some (.cells (u32v H).toArray 50 (0, 0))) := (hb1.block _ (by omega)).trans hgH.out
  have hgZ1 : Hid (w1.heap[w.heap.size + 1]? = some (.cells (u32v z17).toArray 50 (0, 0))) := (hb1.block _ hs1).trans hgZ.out
  have hbw1 := below_next hbW hbW.size hb1
  have hsz1 : w.heap.size + 1 < w1.heap.size := by have := hb1.size; omega
  clear hgH hgZ hb1 hbW
  have hcall := rtimes_any w1 H one17 HH.out rfl (fun x hx => by have := LH.out x hx; omega) (by decide)
  go_wp2_with (first
    | (with_reducible refine wpList_load_row rfl 50 (.tmp 1) rfl w.heap.size rfl 50 (u32v H).toArray (0, 0) _ hgH1.out Try.underlying50 rfl (by rw [HHS.out]; kernel_rfl) ?_)
    | (with_reducible refine wpList_load_row rfl 50 (.tmp 3) rfl W.heap.size rfl 50 (u32v one17).toArray (0, 0) _ g1.out Try.underlying50 rfl (by rw [HOS.out]; kernel_rfl) ?_))
  refine hcall.mono ?_
  rintro e w2 ⟨T, rfl, hTl, hT, hb2⟩
  have hgH2 : Hid (w2.heap[w.heap.size]? = some (.cells (u32v H).toArray 50 (0, 0))) := (hb2.block _ (by omega)).trans hgH1.out
  have hgZ2 : Hid (w2.heap[w.heap.size + 1]? = some (.cells (u32v z17).toArray 50 (0, 0))) := (hb2.block _ hsz1).trans hgZ1.out
  have hbw2 := below_next hbw1 hbw1.size hb2
  have hsz2 : w.heap.size + 1 < w2.heap.size := by have := hb2.size; omega
  have HTS := Lib.hid (show (u32v T).toArray.size = 17 by simp [u32v_len, hTl.out])
  clear hcall hgH1 hgZ1 hb2 g1 hbw1
  go_upto_region 3 with (with_reducible refine wpList_store_row rfl 50 (.tmp 1) (.tmp 9) rfl w.heap.size (u32v T).toArray rfl rfl 50 _ hgH2.out (by rw [HTS.out]; kernel_rfl) (by rw [HTS.out]; exact HHS.out) (all_oneCell_toArray (u32v_one _)) ?_)
  have hgT3 : Hid ((w2.setRow w.heap.size (u32v T).toArray).heap[w.heap.size]? = some (.cells (u32v T).toArray 50 (0, 0))) := setRow_heap _ _ _ _ _ _ hgH2.out
  have hgZ3 : Hid ((w2.setRow w.heap.size (u32v T).toArray).heap[w.heap.size + 1]? = some (.cells (u32v z17).toArray 50 (0, 0))) := (setRow_other _ _ _ _ (by omega)).trans hgZ2.out
  have hbw3 : Below w.heap.size w (w2.setRow w.heap.size (u32v T).toArray) := below_setRow hbw2 (Nat.le_refl _) _
  have hsz3 : w.heap.size + 1 < (w2.setRow w.heap.size (u32v T).toArray).heap.size := by simp [World.setRow]; omega
  generalize w2.setRow w.heap.size (u32v T).toArray = w3 at *
  clear hgH2 hgZ2 hbw2
  go_upto_region 4 with (first
    | (with_reducible refine wpList_build_to rfl 50 _ rfl [(0, .int .u32 5)] (by kernel_rfl) _ built_five ?_)
    | ((with_reducible refine wpList_store_row rfl 50 (.tmp 4) (.tmp 10) rfl w3.heap.size (u32v five17).toArray rfl rfl 50 _ (heap_alloc_new _ _) (by rw [HFS.out]; kernel_rfl) (by rw [HFS.out]; exact HZS.out) (all_oneCell_toArray (u32v_one _)) ?_); rw [World.setRow_alloc_new]))
  have g4 := Lib.hid (heap_alloc_new w3 (.cells (u32v five17).toArray 50))
  have hb4 : Below w3.heap.size w3 (w3.alloc (.cells (u32v five17).toArray 50)) := (Below.refl _ _).alloc (Nat.le_refl _) _
  generalize w3.alloc (.cells (u32v five17).toArray 50) = w4 at *
  have hgT4 : Hid (w4.heap[w.heap.size]? = some (.cells (u32v T).toArray 50 (0, 0))) := (hb4.block _ (by omega)).trans hgT3.out
  have hgZ4 : Hid (w4.heap[w.heap.size + 1]? = some (.cells (u32v z17).toArray 50 (0, 0))) := (hb4.block _ hsz3).trans hgZ3.out
  have hbw4 := below_next hbw3 hbw3.size hb4
  have hsz4 : w.heap.size + 1 < w4.heap.size := by have := hb4.size; omega
  clear hgT3 hgZ3 hb4 hbw3
  have hcall := rplus_any w4 T five17 hTl.out rfl (natAt_all (fun k hk => hT.out.1 k (by rw [hTl.out] at hk; exact hk))) (by decide)
  go_wp2_with (first
    | (with_reducible refine wpList_load_row rfl 50 (.tmp 1) rfl w.heap.size rfl 50 (u32v T).toArray (0, 0) _ hgT4.out Try.underlying50 rfl (by rw [HTS.out]; kernel_rfl) ?_)
    | (with_reducible refine wpList_load_row rfl 50 (.tmp 4) rfl w3.heap.size rfl 50 (u32v five17).toArray (0, 0) _ g4.out Try.underlying50 rfl (by rw [HFS.out]; kernel_rfl) ?_))
  refine hcall.mono ?_
  rintro e w5 ⟨G, rfl, hGl, hG, hb5⟩
  have hgT5 : Hid (w5.heap[w.heap.size]? = some (.cells (u32v T).toArray 50 (0, 0))) := (hb5.block _ (by omega)).trans hgT4.out
  have hgZ5 : Hid (w5.heap[w.heap.size + 1]? = some (.cells (u32v z17).toArray 50 (0, 0))) := (hb5.block _ hsz4).trans hgZ4.out
  have hbw5 := below_next hbw4 hbw4.size hb5
  have hsz5 : w.heap.size + 1 < w5.heap.size := by have := hb5.size; omega
  have HGS := Lib.hid (show (u32v G).toArray.size = 17 by simp [u32v_len, hGl.out])
  clear hcall hgT4 hgZ4 hb5 g4 hbw4
  go_upto_region 5 with ((with_reducible refine wpList_store_row rfl 50 (.tmp 5) (.tmp 13) rfl w5.heap.size (u32v G).toArray rfl rfl 50 _ (heap_alloc_new _ _) (by rw [HGS.out]; kernel_rfl) (by rw [HGS.out]; exact HZS.out) (all_oneCell_toArray (u32v_one _)) ?_); rw [World.setRow_alloc_new])
  have g6 := Lib.hid (heap_alloc_new w5 (.cells (u32v G).toArray 50))
  have hb6 : Below w5.heap.size w5 (w5.alloc (.cells (u32v G).toArray 50)) := (Below.refl _ _).alloc (Nat.le_refl _) _
  generalize w5.alloc (.cells (u32v G).toArray 50) = w6 at *
  have hgT6 : Hid (w6.heap[w.heap.size]? = some (.cells (u32v T).toArray 50 (0, 0))) := (hb6.block _ (by omega)).trans hgT5.out
  have hgZ6 : Hid (w6.heap[w.heap.size + 1]? = some (.cells (u32v z17).toArray 50 (0, 0))) := (hb6.block _ hsz5).trans hgZ5.out
  have hbw6 := below_next hbw5 hbw5.size hb6
  obtain ⟨g, hg⟩ : ∃ g, g = w5.heap.size := ⟨_, rfl⟩
  have hwg : w.heap.size + 1 < g := by omega
  rw [← hg] at g6 ⊢
  clear hg hgT5 hgZ5 hb6 hbw5
  have c16 := word_at g6.out 16 (by rw [hGl.out]; decide)
  have f16 : w6.frozen? ⟨g, 16, none⟩ = false := frozen_of_row _ _ _ _ _ g6.out
  obtain ⟨L, hL1, hL2, hL3⟩ := lv_split16 G hGl.out hG.out.1
  have hGv := hG.out.2.2
  have hTlt := hT.out.2.1
  have hTm : lvN T % PP = lvN H % PP := by have := hT.out.2.2; rwa [show lvN one17 = 1 by decide, Nat.mul_one] at this
  have hfive : lvN five17 = 5 := by decide
  have hlv := least_val (lvN T) (lvN G) (by rw [hGv, hfive]) hTlt
  have lx := hG.out.2.1
  obtain ⟨x, hx⟩ : ∃ x, x = natAt G 16 := ⟨_, rfl⟩
  rw [← hx] at c16 hL1 lx
  by_cases h4 : 4 ≤ x
  · have h4i : (4 : Int) ≤ (x : Int) := by omega
    have e1 := and2w x (by omega)
    have hx4 : x = 4 := by omega
    have hxm : x % 4 = 0 := by omega
    have hset := world_set_cell g6.out 16 (.int .u32 ((x % 4 : Nat) : Int))
    rw [u32v_set] at hset
    have hb7 : Below w.heap.size w (w6.setCell ⟨g, 16, none⟩ (.int .u32 ((x % 4 : Nat) : Int))) := hbw6.setCell (show w.heap.size ≤ g by omega) _
    have hgZ7 : Hid ((w6.setCell ⟨g, 16, none⟩ (.int .u32 ((x % 4 : Nat) : Int))).heap[w.heap.size + 1]? = some (.cells (u32v z17).toArray 50 (0, 0))) := (heap_setCell_other w6 _ _ _ (by show w.heap.size + 1 ≠ g; omega)).trans hgZ6.out
    obtain ⟨X, hX⟩ : ∃ X, X = G.set 16 (x % 4) := ⟨_, rfl⟩
    rw [← hX] at hset
    have HXL := Lib.hid (show X.length = 17 by rw [hX, List.length_set]; exact hGl.out)
    have HXS := Lib.hid (show (u32v X).toArray.size = 17 by simp [u32v_len, HXL.out])
    have HRES := vlt (show (∀ j, j < 17 → natAt X j < 256) ∧ lvN X = lvN H % PP by
      refine ⟨fun j hj => ?_, ?_⟩
      · rw [hX, natAt_set _ _ _ _ (by rw [hGl.out]; decide)]
        split
        · omega
        · exact hG.out.1 j (by omega)
      · rw [hX, hL3, hxm, ← hTm, ← hlv.1 (by omega)]; omega)
    clear hlv hL1 hL2 hL3 hGv hTlt hTm hX hxm hx hx4 hT hG
    generalize x % 4 = q at *
    go_wp2_with (first
      | (with_reducible refine wpList_load_row rfl 50 (.tmp 5) rfl g rfl 50 (u32v X).toArray (0, 0) _ hset.out Try.underlying50 rfl (by rw [HXS.out]; kernel_rfl) ?_)
      | (with_reducible refine wpList_store_row rfl 50 (.tmp 2) (.tmp 21) rfl (w.heap.size + 1) (u32v X).toArray rfl rfl 50 _ hgZ7.out (by rw [HXS.out]; kernel_rfl) (by rw [HXS.out]; exact HZS.out) (all_oneCell_toArray (u32v_one _)) ?_))
    refine bodyPost_ret (v := .agg (u32v X).toArray) (results_cell_row Try.results22 _ _ (w.heap.size + 1) 50 _ (0, 0) _ rfl (setRow_heap _ _ _ _ _ _ hgZ7.out) Try.underlying50 rfl (by rw [HXS.out]; kernel_rfl)) rfl ⟨X, rfl, HXL, HRES, below_setRow hb7 (by omega) _⟩
  · have h4i : ¬ (4 : Int) ≤ (x : Int) := by omega
    have HRES := vlt (show (∀ j, j < 17 → natAt T j < 256) ∧ lvN T = lvN H % PP from ⟨hT.out.1, by rw [← hTm]; exact hlv.2 (by omega)⟩)
    clear hlv hL1 hL2 hL3 hGv hTlt hTm hx hT hG
    go_wp2_with (first
      | (with_reducible refine wpList_load_row rfl 50 (.tmp 1) rfl w.heap.size rfl 50 (u32v T).toArray (0, 0) _ hgT6.out Try.underlying50 rfl (by rw [HTS.out]; kernel_rfl) ?_)
      | (with_reducible refine wpList_store_row rfl 50 (.tmp 2) (.tmp 22) rfl (w.heap.size + 1) (u32v T).toArray rfl rfl 50 _ hgZ6.out (by rw [HTS.out]; kernel_rfl) (by rw [HTS.out]; exact HZS.out) (all_oneCell_toArray (u32v_one _)) ?_))
    refine bodyPost_ret (v := .agg (u32v T).toArray) (results_cell_row Try.results22 _ _ (w.heap.size + 1) 50 _ (0, 0) _ rfl (setRow_heap _ _ _ _ _ _ hgZ6.out) Try.underlying50 rfl (by rw [HTS.out]; kernel_rfl)) rfl ⟨T, rfl, hTl, HRES, below_setRow hbw6 (by omega) _⟩
end Go.Proofs.Ytioodeiloepaaaa
