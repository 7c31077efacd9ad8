/-
  Contract of field's even. Conditions: none.
-/
import Derived.Test.YtpnodegmegpooaaDoorFdX
import Derived.Laws.BitsAllLaws
namespace Go.Proofs.YtpnodegmegpooaaDoor
open Go.RowKit

/-- The even one of a number and what it lacks of the prime. -/
def evenW (r : Nat) : List UInt8 := if r % FP % 2 = 1 then wo (subF 0 r) else wo r
theorem low8 (a : Nat) (ha : a < 256) : bits .and .u8 (a : Int) 1 = ((a % 2 : Nat) : Int) := by
  have h := u8_and_nat a 1 ha (by decide)
  rw [show ((1 : Nat) : Int) = 1 from rfl] at h
  rw [h, show (1 : Nat) = 2 ^ 1 - 1 by decide, Nat.and_two_pow_sub_one_eq_mod, show (2 : Nat) ^ 1 = 2 by decide]
theorem ln_even (b : UInt8) (r : List UInt8) : ln (b :: r) % 2 = b.toNat % 2 := by rw [ln]; omega
theorem first_byte (l : List UInt8) (h : l.length = 32) : ∃ c, c < 256 ∧ l[0]? = some (UInt8.ofNat c) ∧ c % 2 = ln l % 2 := by
  match l, h with
  | b :: r, _ => exact ⟨b.toNat, b.toNat_lt, by simp, (ln_even b r).symm⟩
set_option maxRecDepth 100000 in
set_option maxHeartbeats 1000000 in
theorem even_any (w : World) (a0 a1 a2 a3 : Nat) (ha0 : a0 < B64) (ha1 : a1 < B64) (ha2 : a2 < B64) (ha3 : a3 < B64) :
    Calls Tryd.prog 32 #[.agg (u64v [a0, a1, a2, a3]).toArray] w fun e w' => ∃ l : List UInt8, e = .returned (.agg (bv l).toArray) ∧ Vlt (l = evenW (n4 a0 a1 a2 a3)) ∧ Hid (l.length = 32) ∧ Below w.heap.size w w' := by
  have hzw := zero_word
  have hzn := zero_n4
  obtain ⟨W, hW, hgA, hgZ, hbW, hsW⟩ := pair_new w (u64v [a0, a1, a2, a3]).toArray (bv z32).toArray 35 24
  have HW := Lib.hid hW
  have hs1 : w.heap.size + 1 < W.heap.size := by have := hsW.out; omega
  clear hW
  go_enter Tryd.func32, Tryd.ntmps32
  go_upto_region 1 with fail
  rw [HW.out]
  go_wp2_with (with_reducible refine wpList_load_row rfl 35 (.tmp 1) rfl w.heap.size rfl 35 (u64v [a0, a1, a2, a3]).toArray (0, 0) _ hgA.out Tryd.underlying35 rfl (by kernel_rfl) ?_)
  refine (told_any W a0 a1 a2 a3 ha0 ha1 ha2 ha3).mono ?_
  rintro e w1 ⟨l, rfl, el, HL, hb1⟩
  have hbw1 := below_next hbW hbW.size hb1
  have hgA1 : Hid (w1.heap[w.heap.size]? = some (.cells (u64v [a0, a1, a2, a3]).toArray 35 (0, 0))) := (hb1.block _ (by omega)).trans hgA.out
  have hgZ1 : Hid (w1.heap[w.heap.size + 1]? = some (.cells (bv z32).toArray 24 (0, 0))) := (hb1.block _ (by omega)).trans hgZ.out
  have hs2 : w.heap.size + 1 < w1.heap.size := (Array.getElem?_eq_some_iff.1 hgZ1.out).1
  have HLS := Lib.hid (bv_size l HL.out)
  go_upto_region 2 with ((with_reducible refine wpList_store_row rfl 24 (.tmp 3) (.tmp 5) rfl w1.heap.size (bv l).toArray rfl rfl 24 _ (heap_alloc_new _ _) (by rw [HLS.out]; kernel_rfl) (by rw [HLS.out]; kernel_rfl) (all_oneCell_toArray (bv_one _)) ?_); rw [World.setRow_alloc_new])
  obtain ⟨X, hX⟩ : ∃ X, X = w1.alloc (.cells (bv l).toArray 24) := ⟨_, rfl⟩
  rw [← hX]
  have hgA2 : Hid (X.heap[w.heap.size]? = some (.cells (u64v [a0, a1, a2, a3]).toArray 35 (0, 0))) := by rw [hX]; exact (Below.heap_alloc _ _ _ (by omega)).trans hgA1.out
  have hgZ2 : Hid (X.heap[w.heap.size + 1]? = some (.cells (bv z32).toArray 24 (0, 0))) := by rw [hX]; exact (Below.heap_alloc _ _ _ (by omega)).trans hgZ1.out
  have hgL : Hid (X.heap[w1.heap.size]? = some (.cells (bv l).toArray 24 (0, 0))) := by rw [hX]; exact heap_alloc_new _ _
  have hbX : Below w.heap.size w X := by rw [hX]; exact hbw1.alloc hbw1.size _
  obtain ⟨G, hG⟩ : ∃ G, G = w1.heap.size := ⟨_, rfl⟩
  rw [← hG] at hgL hs2 ⊢
  clear hX hG hgA1 hgZ1 hbw1
  have hsX : w.heap.size + 1 < X.heap.size := (Array.getElem?_eq_some_iff.1 hgZ2.out).1
  obtain ⟨c, lc, hc0, hc2⟩ := first_byte l HL.out
  have hcell : X.cell? ⟨G, 0, none⟩ = some (.int .u8 (c : Int)) := by
    have := byte_cell hgL.out hc0
    rwa [UInt8.toNat_ofNat', show (2 : Nat) ^ 8 = 256 by decide, Nat.mod_eq_of_lt lc] at this
  have hb8 := low8 c lc
  have HC := vlt (show c % 2 = n4 a0 a1 a2 a3 % FP % 2 by rw [hc2, show l = wo (n4 a0 a1 a2 a3) by rw [wo]; exact el.out, ln_wo])
  clear hc0 hc2
  obtain ⟨t, ht⟩ : ∃ t, t = c % 2 := ⟨_, rfl⟩
  have lt : t < 2 := by omega
  rw [← ht] at hb8 HC
  clear ht
  by_cases h1 : t = 1
  · subst h1
    have HE := vlt (show evenW (n4 a0 a1 a2 a3) = wo (subF 0 (n4 a0 a1 a2 a3)) by rw [evenW, if_pos HC.out.symm])
    clear HC
    go_wp2_with (with_reducible refine wpList_load_row rfl 35 (.tmp 1) rfl w.heap.size rfl 35 (u64v [a0, a1, a2, a3]).toArray (0, 0) _ hgA2.out Tryd.underlying35 rfl (by kernel_rfl) ?_)
    refine (minus_any X 0 0 0 0 a0 a1 a2 a3 (by decide) (by decide) (by decide) (by decide) ha0 ha1 ha2 ha3).mono ?_
    rintro e w2 ⟨d0, d1, d2, d3, rfl, e2, ⟨ld0, ld1, ld2, ld3⟩, hb2⟩
    have hbw2 := below_next hbX hbX.size hb2
    have hz2 : Hid (w2.heap[w.heap.size + 1]? = some (.cells (bv z32).toArray 24 (0, 0))) := (hb2.block _ hsX).trans hgZ2.out
    have hs3 : w.heap.size + 1 < w2.heap.size := (Array.getElem?_eq_some_iff.1 hz2.out).1
    go_wp2_with fail
    refine (told_any w2 d0 d1 d2 d3 ld0 ld1 ld2 ld3).mono ?_
    rintro e w3 ⟨m, rfl, e3, HM, hb3⟩
    have HF := vlt (show m = evenW (n4 a0 a1 a2 a3) by
      have h4 := e2.out
      rw [zero_n4v] at h4
      rw [HE.out, e3.out, wo, ← subF_of h4])
    have hbw3 := below_next hbw2 hbw2.size hb3
    have hz3 : Hid (w3.heap[w.heap.size + 1]? = some (.cells (bv z32).toArray 24 (0, 0))) := (hb3.block _ hs3).trans hz2.out
    have HMS := Lib.hid (bv_size m HM.out)
    go_wp2_with (with_reducible refine wpList_store_row rfl 24 (.tmp 2) (.tmp 13) rfl (w.heap.size + 1) (bv m).toArray rfl rfl 24 _ hz3.out (by rw [HMS.out]; kernel_rfl) (by rw [HMS.out]; kernel_rfl) (all_oneCell_toArray (bv_one _)) ?_)
    refine bodyPost_ret (v := .agg (bv m).toArray) (results_cell_row Tryd.results32 _ _ (w.heap.size + 1) 24 _ (0, 0) _ rfl (setRow_heap _ _ _ _ _ _ hz3.out) Tryd.underlying24 rfl (by rw [HMS.out]; kernel_rfl)) rfl ⟨m, rfl, HF, HM, below_setRow hbw3 (by omega) _⟩
  · obtain rfl : t = 0 := by omega
    have HF := vlt (show l = evenW (n4 a0 a1 a2 a3) by rw [evenW, if_neg (by rw [← HC.out]; decide), el.out, wo])
    clear HC
    go_wp2_with (first
      | (with_reducible refine wpList_load_row rfl 24 (.tmp 3) rfl G rfl 24 (bv l).toArray (0, 0) _ hgL.out Tryd.underlying24 rfl (by rw [HLS.out]; kernel_rfl) ?_)
      | (with_reducible refine wpList_store_row rfl 24 (.tmp 2) (.tmp 14) rfl (w.heap.size + 1) (bv l).toArray rfl rfl 24 _ hgZ2.out (by rw [HLS.out]; kernel_rfl) (by rw [HLS.out]; kernel_rfl) (all_oneCell_toArray (bv_one _)) ?_))
    refine bodyPost_ret (v := .agg (bv l).toArray) (results_cell_row Tryd.results32 _ _ (w.heap.size + 1) 24 _ (0, 0) _ rfl (setRow_heap _ _ _ _ _ _ hgZ2.out) Tryd.underlying24 rfl (by rw [HLS.out]; kernel_rfl)) rfl ⟨l, rfl, HF, HL, below_setRow hbX (by omega) _⟩
end Go.Proofs.YtpnodegmegpooaaDoor
