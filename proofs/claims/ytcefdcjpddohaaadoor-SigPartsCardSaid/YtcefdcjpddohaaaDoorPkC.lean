/-
  Words and contracts that other texts share, several in one text. No statement of the seat is proved here. Conditions: as each contract says.
  Contract of field's times. Conditions: none.
  Contract of field's power. Conditions: none.
  Two arrays of the same bytes are equal: a law for the walks of this seat. Conditions: none.
  A range of bytes that is known whole: a word for regions that draw their order. No statement is proved here. Conditions: none.
  Contracts of field's Norm, Add, Sub, Mul, Power, Inv: each answer is the word of its number modulo the prime. Conditions: none.
  Two arrays of bytes, held against each other: a law for the walks of this seat. Conditions: none.
  Contracts of field's Inv, Of, Good. Conditions: Of's number has 64 bits.
  Constant words, an array built in a region that draws its order, powers by squaring: words that the laws of this seat share. No statement is proved here. Conditions: none.
-/
import Derived.Test.YtcefdcjpddohaaaDoorPkB
import Derived.Test.YtcefdcjpddohaaaDoorPkA
import Derived.Laws.StructEq
import Derived.Deep.RegionHeld3
namespace Go.Proofs.YtcefdcjpddohaaaDoor
open Go.RowKit

section
variable {ops : Array Oper} {o : Oper} {a : Act} {w : World} {K : Act → World → Prop} {Q : Exit → Act → World → Prop} {E : Prop}
/-- A new number's variable, as a step of a region that draws its order. -/
theorem step_new (hw : Region.wanted o (yielded ops a.tmps) = true) (ho : o.op = .alloc 96)
    (h : ∀ p w', Hid (p = w.heap.size) → Hid (w'.heap[p]? = some (.cells (u64v z4).toArray 96 (0, 0))) → Below w.heap.size w w' → p < w'.heap.size → K (a.put o.dst (.pointer (some ⟨p, 0, none⟩))) w') : if Region.wanted o (yielded ops a.tmps) = true then Oper.wp Tryd.prog o a w K Q else E := by
  rw [if_pos hw]
  have hzn := zero_n4
  have h1 := h w.heap.size _ rfl (heap_alloc_new w (.cells (u64v z4).toArray 96)) ((Below.refl _ _).alloc (Nat.le_refl _) _) (by simp)
  unfold Oper.wp
  simp only [execOp, ho]
  clear h
  go_simp
  exact h1
end

theorem prod_rows (A a0 a1 a2 a3 : Nat) : A * n4 a0 a1 a2 a3 = a0 * A + 18446744073709551616 * (a1 * A) + 340282366920938463463374607431768211456 * (a2 * A) + 6277101735386680763835789423207666416102355444464034512896 * (a3 * A) := by
  simp only [n4]; grind
theorem times_sum (A b0 b1 b2 b3 r00 r01 r02 r03 o0 r10 r11 r12 r13 o1 r20 r21 r22 r23 o2 r30 r31 r32 r33 o3 F o4 C : Nat)
    (h0 : n4 r00 r01 r02 r03 + 115792089237316195423570985008687907853269984665640564039457584007913129639936 * o0 = b0 * A + n4 0 0 0 0)
    (h1 : n4 r10 r11 r12 r13 + 115792089237316195423570985008687907853269984665640564039457584007913129639936 * o1 = b1 * A + n4 r01 r02 r03 o0)
    (h2 : n4 r20 r21 r22 r23 + 115792089237316195423570985008687907853269984665640564039457584007913129639936 * o2 = b2 * A + n4 r11 r12 r13 o1)
    (h3 : n4 r30 r31 r32 r33 + 115792089237316195423570985008687907853269984665640564039457584007913129639936 * o3 = b3 * A + n4 r21 r22 r23 o2)
    (h4 : F + 115792089237316195423570985008687907853269984665640564039457584007913129639936 * o4 = 38 * n4 r31 r32 r33 o3 + n4 r00 r10 r20 r30)
    (h5 : C % FP = (F + 115792089237316195423570985008687907853269984665640564039457584007913129639936 * o4) % FP) :
    C % FP = (A * n4 b0 b1 b2 b3) % FP := by
  rw [h5, h4]
  refine (fp_mod (q := 2 * n4 r31 r32 r33 o3) ?_).symm
  rw [prod_rows, fp_eq]
  generalize b0 * A = p0 at *
  generalize b1 * A = p1 at *
  generalize b2 * A = p2 at *
  generalize b3 * A = p3 at *
  clear h5 h4
  simp only [n4] at *
  omega
theorem times_over (F o4 a b c d e f g h : Nat) (ha : a < B64) (hb : b < B64) (hc : c < B64) (hd : d < B64) (he : e < B64) (hf : f < B64) (hg : g < B64) (hh : h < B64)
    (h4 : F + 115792089237316195423570985008687907853269984665640564039457584007913129639936 * o4 = 38 * n4 a b c d + n4 e f g h) : o4 ≤ 38 := by
  simp only [n4, B64] at *
  omega

set_option maxRecDepth 100000 in
set_option maxHeartbeats 2000000 in
theorem times_any (w : World) (a0 a1 a2 a3 b0 b1 b2 b3 : Nat) (ha0 : a0 < B64) (ha1 : a1 < B64) (ha2 : a2 < B64) (ha3 : a3 < B64) (hb0 : b0 < B64) (hb1 : b1 < B64) (hb2 : b2 < B64) (hb3 : b3 < B64) :
    Calls Tryd.prog 66 #[.agg (u64v [a0, a1, a2, a3]).toArray, .agg (u64v [b0, b1, b2, b3]).toArray] w fun e w' => ∃ c0 c1 c2 c3 : Nat, e = .returned (.agg (u64v [c0, c1, c2, c3]).toArray) ∧
      Vlt (n4 c0 c1 c2 c3 % FP = (n4 a0 a1 a2 a3 * n4 b0 b1 b2 b3) % FP) ∧ (c0 < B64 ∧ c1 < B64 ∧ c2 < B64 ∧ c3 < B64) ∧ Below w.heap.size w w' := by
  have hzn := zero_n4
  obtain ⟨W, hW, hgA, hgB, hgZ, hbW, hsW⟩ := three_new w (u64v [a0, a1, a2, a3]).toArray (u64v [b0, b1, b2, b3]).toArray (u64v z4).toArray 96 96 96
  have HW := Lib.hid hW
  have hs0 : w.heap.size + 2 < W.heap.size := by have := hsW.out; omega
  clear hW hsW
  have cb : W.cell? ⟨w.heap.size + 1, 0, none⟩ = some (.int .u64 (b0 : Int)) := long_at hgB.out 0 (by simp)
  go_enter Tryd.func66, Tryd.ntmps66
  go_upto_region 1 with fail
  rw [HW.out]
  go_wp2_with (with_reducible refine wpList_load_row rfl 96 (.tmp 2) rfl w.heap.size rfl 96 (u64v [a0, a1, a2, a3]).toArray (0, 0) _ hgA.out Tryd.underlying96 rfl (by kernel_rfl) ?_)
  refine (row_any W b0 a0 a1 a2 a3 0 0 0 0 hb0 ha0 ha1 ha2 ha3 (by decide) (by decide) (by decide) (by decide)).mono ?_
  rintro e v0 ⟨r00, r01, r02, r03, o0, rfl, e0, ⟨l00, l01, l02, l03⟩, lo0, hv0⟩
  have hgAv0 : Hid (v0.heap[w.heap.size]? = some (.cells (u64v [a0, a1, a2, a3]).toArray 96 (0, 0))) := (hv0.block _ (by omega)).trans hgA.out
  have hgBv0 : Hid (v0.heap[w.heap.size + 1]? = some (.cells (u64v [b0, b1, b2, b3]).toArray 96 (0, 0))) := (hv0.block _ (by omega)).trans hgB.out
  have hgZv0 : Hid (v0.heap[w.heap.size + 2]? = some (.cells (u64v z4).toArray 96 (0, 0))) := (hv0.block _ (by omega)).trans hgZ.out
  have hbv0 := below_next hbW (by omega) hv0
  have hsv0 : w.heap.size + 2 < v0.heap.size := (Array.getElem?_eq_some_iff.1 hgZv0.out).1
  clear hgA hgB hgZ hbW hs0 cb hv0
  go_upto_region 2 with ((with_reducible refine wpList_store_row rfl 96 (.tmp 5) (.tmp 18) rfl v0.heap.size (u64v [r00, r01, r02, r03]).toArray rfl rfl 96 _ (heap_alloc_new _ _) (by kernel_rfl) (by kernel_rfl) (all_oneCell_toArray (u64v_one _)) ?_); rw [World.setRow_alloc_new])
  obtain ⟨u0, hu0⟩ : ∃ u0, u0 = v0.alloc (.cells (u64v [r00, r01, r02, r03]).toArray 96) := ⟨_, rfl⟩
  rw [← hu0]
  have hgAu0 : Hid (u0.heap[w.heap.size]? = some (.cells (u64v [a0, a1, a2, a3]).toArray 96 (0, 0))) := by rw [hu0]; exact (Below.heap_alloc _ _ _ (by omega)).trans hgAv0.out
  have hgBu0 : Hid (u0.heap[w.heap.size + 1]? = some (.cells (u64v [b0, b1, b2, b3]).toArray 96 (0, 0))) := by rw [hu0]; exact (Below.heap_alloc _ _ _ (by omega)).trans hgBv0.out
  have hgZu0 : Hid (u0.heap[w.heap.size + 2]? = some (.cells (u64v z4).toArray 96 (0, 0))) := by rw [hu0]; exact (Below.heap_alloc _ _ _ (by omega)).trans hgZv0.out
  have hgR0 : Hid (u0.heap[v0.heap.size]? = some (.cells (u64v [r00, r01, r02, r03]).toArray 96 (0, 0))) := by rw [hu0]; exact heap_alloc_new _ _
  have hbu0 : Below w.heap.size w u0 := by rw [hu0]; exact hbv0.alloc hbv0.size _
  obtain ⟨R, hR⟩ : ∃ R, R = v0.heap.size := ⟨_, rfl⟩
  rw [← hR] at hgR0 hsv0 ⊢
  have hsu0 : R < u0.heap.size := (Array.getElem?_eq_some_iff.1 hgR0.out).1
  clear hR hu0 hgAv0 hgBv0 hgZv0 hbv0
  have cr0 : u0.cell? ⟨R, 0, none⟩ = some (.int .u64 (r00 : Int)) := long_at hgR0.out 0 (by simp)
  go_upto_region 3 with fail
  clear cr0
  have cb : u0.cell? ⟨w.heap.size + 1, 1, none⟩ = some (.int .u64 (b1 : Int)) := long_at hgBu0.out 1 (by simp)
  have cr0 : u0.cell? ⟨R, 0, none⟩ = some (.int .u64 (r00 : Int)) := long_at hgR0.out 0 (by simp)
  have cr1 : u0.cell? ⟨R, 1, none⟩ = some (.int .u64 (r01 : Int)) := long_at hgR0.out 1 (by simp)
  have cr2 : u0.cell? ⟨R, 2, none⟩ = some (.int .u64 (r02 : Int)) := long_at hgR0.out 2 (by simp)
  have cr3 : u0.cell? ⟨R, 3, none⟩ = some (.int .u64 (r03 : Int)) := long_at hgR0.out 3 (by simp)
  go_wp2_with (with_reducible refine wpList_load_row rfl 96 (.tmp 2) rfl w.heap.size rfl 96 (u64v [a0, a1, a2, a3]).toArray (0, 0) _ hgAu0.out Tryd.underlying96 rfl (by kernel_rfl) ?_)
  refine (row_any u0 b1 a0 a1 a2 a3 r01 r02 r03 o0 hb1 ha0 ha1 ha2 ha3 l01 l02 l03 lo0).mono ?_
  rintro e v1 ⟨r10, r11, r12, r13, o1, rfl, e1, ⟨l10, l11, l12, l13⟩, lo1, hv1⟩
  have hgAv1 : Hid (v1.heap[w.heap.size]? = some (.cells (u64v [a0, a1, a2, a3]).toArray 96 (0, 0))) := (hv1.block _ (by omega)).trans hgAu0.out
  have hgBv1 : Hid (v1.heap[w.heap.size + 1]? = some (.cells (u64v [b0, b1, b2, b3]).toArray 96 (0, 0))) := (hv1.block _ (by omega)).trans hgBu0.out
  have hgZv1 : Hid (v1.heap[w.heap.size + 2]? = some (.cells (u64v z4).toArray 96 (0, 0))) := (hv1.block _ (by omega)).trans hgZu0.out
  have hgRv : Hid (v1.heap[R]? = some (.cells (u64v [r00, r01, r02, r03]).toArray 96 (0, 0))) := (hv1.block _ (by omega)).trans hgR0.out
  have hbv1 := below_next hbu0 (by omega) hv1
  clear hgAu0 hgBu0 hgZu0 hgR0 hbu0 cb cr0 cr1 cr2 cr3 hv1
  go_upto_region 4 with (with_reducible refine wpList_store_row rfl 96 (.tmp 5) (.tmp 35) rfl R (u64v [r10, r11, r12, r13]).toArray rfl rfl 96 _ hgRv.out (by kernel_rfl) (by kernel_rfl) (all_oneCell_toArray (u64v_one _)) ?_)
  obtain ⟨u1, hu1⟩ : ∃ u1, u1 = v1.setRow R (u64v [r10, r11, r12, r13]).toArray := ⟨_, rfl⟩
  rw [← hu1]
  have hgAu1 : Hid (u1.heap[w.heap.size]? = some (.cells (u64v [a0, a1, a2, a3]).toArray 96 (0, 0))) := by rw [hu1]; exact (setRow_other _ _ _ _ (by omega)).trans hgAv1.out
  have hgBu1 : Hid (u1.heap[w.heap.size + 1]? = some (.cells (u64v [b0, b1, b2, b3]).toArray 96 (0, 0))) := by rw [hu1]; exact (setRow_other _ _ _ _ (by omega)).trans hgBv1.out
  have hgZu1 : Hid (u1.heap[w.heap.size + 2]? = some (.cells (u64v z4).toArray 96 (0, 0))) := by rw [hu1]; exact (setRow_other _ _ _ _ (by omega)).trans hgZv1.out
  have hgR1 : Hid (u1.heap[R]? = some (.cells (u64v [r10, r11, r12, r13]).toArray 96 (0, 0))) := by rw [hu1]; exact setRow_heap _ _ _ _ _ _ hgRv.out
  have hbu1 : Below w.heap.size w u1 := by rw [hu1]; exact below_setRow hbv1 (by omega) _
  have hsu1 : R < u1.heap.size := (Array.getElem?_eq_some_iff.1 hgR1.out).1
  clear hu1 hgAv1 hgBv1 hgZv1 hgRv hbv1 hsu0
  have cr0 : u1.cell? ⟨R, 0, none⟩ = some (.int .u64 (r10 : Int)) := long_at hgR1.out 0 (by simp)
  go_upto_region 5 with fail
  clear cr0
  have cb : u1.cell? ⟨w.heap.size + 1, 2, none⟩ = some (.int .u64 (b2 : Int)) := long_at hgBu1.out 2 (by simp)
  have cr0 : u1.cell? ⟨R, 0, none⟩ = some (.int .u64 (r10 : Int)) := long_at hgR1.out 0 (by simp)
  have cr1 : u1.cell? ⟨R, 1, none⟩ = some (.int .u64 (r11 : Int)) := long_at hgR1.out 1 (by simp)
  have cr2 : u1.cell? ⟨R, 2, none⟩ = some (.int .u64 (r12 : Int)) := long_at hgR1.out 2 (by simp)
  have cr3 : u1.cell? ⟨R, 3, none⟩ = some (.int .u64 (r13 : Int)) := long_at hgR1.out 3 (by simp)
  go_wp2_with (with_reducible refine wpList_load_row rfl 96 (.tmp 2) rfl w.heap.size rfl 96 (u64v [a0, a1, a2, a3]).toArray (0, 0) _ hgAu1.out Tryd.underlying96 rfl (by kernel_rfl) ?_)
  refine (row_any u1 b2 a0 a1 a2 a3 r11 r12 r13 o1 hb2 ha0 ha1 ha2 ha3 l11 l12 l13 lo1).mono ?_
  rintro e v2 ⟨r20, r21, r22, r23, o2, rfl, e2, ⟨l20, l21, l22, l23⟩, lo2, hv2⟩
  have hgAv2 : Hid (v2.heap[w.heap.size]? = some (.cells (u64v [a0, a1, a2, a3]).toArray 96 (0, 0))) := (hv2.block _ (by omega)).trans hgAu1.out
  have hgBv2 : Hid (v2.heap[w.heap.size + 1]? = some (.cells (u64v [b0, b1, b2, b3]).toArray 96 (0, 0))) := (hv2.block _ (by omega)).trans hgBu1.out
  have hgZv2 : Hid (v2.heap[w.heap.size + 2]? = some (.cells (u64v z4).toArray 96 (0, 0))) := (hv2.block _ (by omega)).trans hgZu1.out
  have hgRv : Hid (v2.heap[R]? = some (.cells (u64v [r10, r11, r12, r13]).toArray 96 (0, 0))) := (hv2.block _ (by omega)).trans hgR1.out
  have hbv2 := below_next hbu1 (by omega) hv2
  clear hgAu1 hgBu1 hgZu1 hgR1 hbu1 cb cr0 cr1 cr2 cr3 hv2
  go_upto_region 6 with (with_reducible refine wpList_store_row rfl 96 (.tmp 5) (.tmp 52) rfl R (u64v [r20, r21, r22, r23]).toArray rfl rfl 96 _ hgRv.out (by kernel_rfl) (by kernel_rfl) (all_oneCell_toArray (u64v_one _)) ?_)
  obtain ⟨u2, hu2⟩ : ∃ u2, u2 = v2.setRow R (u64v [r20, r21, r22, r23]).toArray := ⟨_, rfl⟩
  rw [← hu2]
  have hgAu2 : Hid (u2.heap[w.heap.size]? = some (.cells (u64v [a0, a1, a2, a3]).toArray 96 (0, 0))) := by rw [hu2]; exact (setRow_other _ _ _ _ (by omega)).trans hgAv2.out
  have hgBu2 : Hid (u2.heap[w.heap.size + 1]? = some (.cells (u64v [b0, b1, b2, b3]).toArray 96 (0, 0))) := by rw [hu2]; exact (setRow_other _ _ _ _ (by omega)).trans hgBv2.out
  have hgZu2 : Hid (u2.heap[w.heap.size + 2]? = some (.cells (u64v z4).toArray 96 (0, 0))) := by rw [hu2]; exact (setRow_other _ _ _ _ (by omega)).trans hgZv2.out
  have hgR2 : Hid (u2.heap[R]? = some (.cells (u64v [r20, r21, r22, r23]).toArray 96 (0, 0))) := by rw [hu2]; exact setRow_heap _ _ _ _ _ _ hgRv.out
  have hbu2 : Below w.heap.size w u2 := by rw [hu2]; exact below_setRow hbv2 (by omega) _
  have hsu2 : R < u2.heap.size := (Array.getElem?_eq_some_iff.1 hgR2.out).1
  clear hu2 hgAv2 hgBv2 hgZv2 hgRv hbv2 hsu1
  have cr0 : u2.cell? ⟨R, 0, none⟩ = some (.int .u64 (r20 : Int)) := long_at hgR2.out 0 (by simp)
  go_upto_region 7 with fail
  clear cr0
  have cb : u2.cell? ⟨w.heap.size + 1, 3, none⟩ = some (.int .u64 (b3 : Int)) := long_at hgBu2.out 3 (by simp)
  have cr0 : u2.cell? ⟨R, 0, none⟩ = some (.int .u64 (r20 : Int)) := long_at hgR2.out 0 (by simp)
  have cr1 : u2.cell? ⟨R, 1, none⟩ = some (.int .u64 (r21 : Int)) := long_at hgR2.out 1 (by simp)
  have cr2 : u2.cell? ⟨R, 2, none⟩ = some (.int .u64 (r22 : Int)) := long_at hgR2.out 2 (by simp)
  have cr3 : u2.cell? ⟨R, 3, none⟩ = some (.int .u64 (r23 : Int)) := long_at hgR2.out 3 (by simp)
  go_wp2_with (with_reducible refine wpList_load_row rfl 96 (.tmp 2) rfl w.heap.size rfl 96 (u64v [a0, a1, a2, a3]).toArray (0, 0) _ hgAu2.out Tryd.underlying96 rfl (by kernel_rfl) ?_)
  refine (row_any u2 b3 a0 a1 a2 a3 r21 r22 r23 o2 hb3 ha0 ha1 ha2 ha3 l21 l22 l23 lo2).mono ?_
  rintro e v3 ⟨r30, r31, r32, r33, o3, rfl, e3, ⟨l30, l31, l32, l33⟩, lo3, hv3⟩
  have hgAv3 : Hid (v3.heap[w.heap.size]? = some (.cells (u64v [a0, a1, a2, a3]).toArray 96 (0, 0))) := (hv3.block _ (by omega)).trans hgAu2.out
  have hgBv3 : Hid (v3.heap[w.heap.size + 1]? = some (.cells (u64v [b0, b1, b2, b3]).toArray 96 (0, 0))) := (hv3.block _ (by omega)).trans hgBu2.out
  have hgZv3 : Hid (v3.heap[w.heap.size + 2]? = some (.cells (u64v z4).toArray 96 (0, 0))) := (hv3.block _ (by omega)).trans hgZu2.out
  have hgRv : Hid (v3.heap[R]? = some (.cells (u64v [r20, r21, r22, r23]).toArray 96 (0, 0))) := (hv3.block _ (by omega)).trans hgR2.out
  have hbv3 := below_next hbu2 (by omega) hv3
  clear hgAu2 hgBu2 hgZu2 hgR2 hbu2 cb cr0 cr1 cr2 cr3 hv3
  go_upto_region 8 with (with_reducible refine wpList_store_row rfl 96 (.tmp 5) (.tmp 69) rfl R (u64v [r30, r31, r32, r33]).toArray rfl rfl 96 _ hgRv.out (by kernel_rfl) (by kernel_rfl) (all_oneCell_toArray (u64v_one _)) ?_)
  obtain ⟨u3, hu3⟩ : ∃ u3, u3 = v3.setRow R (u64v [r30, r31, r32, r33]).toArray := ⟨_, rfl⟩
  rw [← hu3]
  have hgAu3 : Hid (u3.heap[w.heap.size]? = some (.cells (u64v [a0, a1, a2, a3]).toArray 96 (0, 0))) := by rw [hu3]; exact (setRow_other _ _ _ _ (by omega)).trans hgAv3.out
  have hgBu3 : Hid (u3.heap[w.heap.size + 1]? = some (.cells (u64v [b0, b1, b2, b3]).toArray 96 (0, 0))) := by rw [hu3]; exact (setRow_other _ _ _ _ (by omega)).trans hgBv3.out
  have hgZu3 : Hid (u3.heap[w.heap.size + 2]? = some (.cells (u64v z4).toArray 96 (0, 0))) := by rw [hu3]; exact (setRow_other _ _ _ _ (by omega)).trans hgZv3.out
  have hgR3 : Hid (u3.heap[R]? = some (.cells (u64v [r30, r31, r32, r33]).toArray 96 (0, 0))) := by rw [hu3]; exact setRow_heap _ _ _ _ _ _ hgRv.out
  have hbu3 : Below w.heap.size w u3 := by rw [hu3]; exact below_setRow hbv3 (by omega) _
  have hsu3 : R < u3.heap.size := (Array.getElem?_eq_some_iff.1 hgR3.out).1
  clear hu3 hgAv3 hgBv3 hgZv3 hgRv hbv3 hsu2
  have cr0 : u3.cell? ⟨R, 0, none⟩ = some (.int .u64 (r30 : Int)) := long_at hgR3.out 0 (by simp)
  have cr1 : u3.cell? ⟨R, 1, none⟩ = some (.int .u64 (r31 : Int)) := long_at hgR3.out 1 (by simp)
  have cr2 : u3.cell? ⟨R, 2, none⟩ = some (.int .u64 (r32 : Int)) := long_at hgR3.out 2 (by simp)
  have cr3 : u3.cell? ⟨R, 3, none⟩ = some (.int .u64 (r33 : Int)) := long_at hgR3.out 3 (by simp)
  have hold : ∀ W, Below u3.heap.size u3 W → (W.cell? ⟨R, 0, none⟩ = some (.int .u64 (r30 : Int)) ∧ W.cell? ⟨R, 1, none⟩ = some (.int .u64 (r31 : Int)) ∧ W.cell? ⟨R, 2, none⟩ = some (.int .u64 (r32 : Int)) ∧ W.cell? ⟨R, 3, none⟩ = some (.int .u64 (r33 : Int)) ∧ Below u3.heap.size u3 W) :=
    fun W h => ⟨(h.cell hsu3).trans cr0, (h.cell hsu3).trans cr1, (h.cell hsu3).trans cr2, (h.cell hsu3).trans cr3, h⟩
  refine wp_region_held_drew (S := (fun W => W.cell? ⟨R, 0, none⟩ = some (.int .u64 (r30 : Int)) ∧ W.cell? ⟨R, 1, none⟩ = some (.int .u64 (r31 : Int)) ∧ W.cell? ⟨R, 2, none⟩ = some (.int .u64 (r32 : Int)) ∧ W.cell? ⟨R, 3, none⟩ = some (.int .u64 (r33 : Int)) ∧ Below u3.heap.size u3 W)) (by kernel_rfl) (hold _ (Below.refl _ _).drew) (fun hHeld => ?_)
  refine wpAnyH_take (i := 0) (oi := ⟨(some 71), _, _, _, _, _⟩) (v := ?vq1_0) rfl (by kernel_rfl) (by kernel_rfl) (by kernel_rfl) (fun _ _ _ h => h) (Or.inl ⟨by rfl, ?yq1_0⟩) hHeld ?_
  case yq1_0 => (intro W0 hSw; go_simp; try with_reducible rfl)
  try simp only [Act.put, List.setIfInBounds_toArray, List.set_cons_zero, List.set_cons_succ]
  refine wpAnyH_take (i := 1) (oi := ⟨(some 72), _, _, _, _, _⟩) (v := ?vq1_1) rfl (by kernel_rfl) (by kernel_rfl) (by kernel_rfl) (fun _ _ _ h => h) (Or.inl ⟨by rfl, ?yq1_1⟩) hHeld ?_
  case yq1_1 => (intro W0 hSw; go_simp; try with_reducible rfl)
  try simp only [Act.put, List.setIfInBounds_toArray, List.set_cons_zero, List.set_cons_succ]
  refine wpAnyH_take (i := 2) (oi := ⟨(some 73), _, _, _, _, _⟩) (v := ?vq1_2) rfl (by kernel_rfl) (by kernel_rfl) (by kernel_rfl) (fun _ _ _ h => h) (Or.inl ⟨by rfl, ?yq1_2⟩) hHeld ?_
  case yq1_2 => (intro W0 hSw; go_simp; try with_reducible rfl)
  try simp only [Act.put, List.setIfInBounds_toArray, List.set_cons_zero, List.set_cons_succ]
  refine wpAnyH_take (i := 3) (oi := ⟨(some 74), _, _, _, _, _⟩) (v := ?vq1_3) rfl (by kernel_rfl) (by kernel_rfl) (by kernel_rfl) (fun _ _ _ h => h) (Or.inl ⟨by rfl, ?yq1_3⟩) hHeld ?_
  case yq1_3 => (intro W0 hSw; go_simp; try with_reducible rfl)
  try simp only [Act.put, List.setIfInBounds_toArray, List.set_cons_zero, List.set_cons_succ]
  refine wpAnyH_take (i := 4) (oi := ⟨(some 75), _, _, _, _, _⟩) (v := ?vq1_4) rfl (by kernel_rfl) (by kernel_rfl) (by kernel_rfl) (fun _ _ _ h => h) (Or.inl ⟨by rfl, ?yq1_4⟩) hHeld ?_
  case yq1_4 => (intro W0 hSw; go_simp; try with_reducible rfl)
  try simp only [Act.put, List.setIfInBounds_toArray, List.set_cons_zero, List.set_cons_succ]
  refine wpAnyH_take (i := 5) (oi := ⟨(some 76), _, _, _, _, _⟩) (v := ?vq1_5) rfl (by kernel_rfl) (by kernel_rfl) (by kernel_rfl) (fun _ _ _ h => h) (Or.inl ⟨by rfl, ?yq1_5⟩) hHeld ?_
  case yq1_5 => (intro W0 hSw; go_simp; try with_reducible rfl)
  try simp only [Act.put, List.setIfInBounds_toArray, List.set_cons_zero, List.set_cons_succ]
  refine wpAnyH_take (i := 6) (oi := ⟨(some 77), _, _, _, _, _⟩) (v := ?vq1_6) rfl (by kernel_rfl) (by kernel_rfl) (by kernel_rfl) (fun _ _ _ h => h) (Or.inl ⟨by rfl, ?yq1_6⟩) hHeld ?_
  case yq1_6 => (intro W0 hSw; go_simp; try with_reducible rfl)
  try simp only [Act.put, List.setIfInBounds_toArray, List.set_cons_zero, List.set_cons_succ]
  refine wpAnyH_take (i := 7) (oi := ⟨(some 78), _, _, _, _, _⟩) (v := ?vq1_7) rfl (by kernel_rfl) (by kernel_rfl) (by kernel_rfl) (fun _ _ _ h => h) (Or.inl ⟨by rfl, ?yq1_7⟩) hHeld ?_
  case yq1_7 => (intro W0 hSw; go_simp; try with_reducible rfl)
  try simp only [Act.put, List.setIfInBounds_toArray, List.set_cons_zero, List.set_cons_succ]
  refine wpAnyH_take (i := 8) (oi := ⟨(some 79), _, _, _, _, _⟩) (v := ?vq1_8) rfl (by kernel_rfl) (by kernel_rfl) (by kernel_rfl) (fun _ _ _ h => h) (Or.inl ⟨by rfl, ?yq1_8⟩) hHeld ?_
  case yq1_8 => (intro W0 hSw; go_simp; try with_reducible rfl)
  try simp only [Act.put, List.setIfInBounds_toArray, List.set_cons_zero, List.set_cons_succ]
  refine wpAnyH_take (i := 9) (oi := ⟨(some 80), _, _, _, _, _⟩) (v := ?vq1_9) rfl (by kernel_rfl) (by kernel_rfl) (by kernel_rfl) (fun _ _ _ h => h) (Or.inl ⟨by rfl, ?yq1_9⟩) hHeld ?_
  case yq1_9 => (intro W0 hSw; go_simp; try with_reducible rfl)
  try simp only [Act.put, List.setIfInBounds_toArray, List.set_cons_zero, List.set_cons_succ]
  refine wpAnyH_take (i := 10) (oi := ⟨(some 81), _, _, _, _, _⟩) (v := ?vq1_10) rfl (by kernel_rfl) (by kernel_rfl) (by kernel_rfl) (fun _ _ _ h => h) (Or.inl ⟨by rfl, ?yq1_10⟩) hHeld ?_
  case yq1_10 => (intro W0 hSw; go_simp; try with_reducible rfl)
  try simp only [Act.put, List.setIfInBounds_toArray, List.set_cons_zero, List.set_cons_succ]
  refine wpAnyH_take (i := 11) (oi := ⟨(some 82), _, _, _, _, _⟩) (v := ?vq1_11) rfl (by kernel_rfl) (by kernel_rfl) (by kernel_rfl) (fun _ _ _ h => h) (Or.inl ⟨by rfl, ?yq1_11⟩) hHeld ?_
  case yq1_11 => (intro W0 hSw; go_simp; try with_reducible rfl)
  try simp only [Act.put, List.setIfInBounds_toArray, List.set_cons_zero, List.set_cons_succ]
  refine wpAnyH_take (i := 12) (oi := ⟨(some 83), _, _, _, _, _⟩) (v := ?vq1_12) rfl (by kernel_rfl) (by kernel_rfl) (by kernel_rfl) (fun _ _ _ h => h) (Or.inl ⟨by rfl, ?yq1_12⟩) hHeld ?_
  case yq1_12 => (intro W0 hSw; go_simp; try with_reducible rfl)
  try simp only [Act.put, List.setIfInBounds_toArray, List.set_cons_zero, List.set_cons_succ]
  refine wpAnyH_take (i := 13) (oi := ⟨(some 84), _, _, _, _, _⟩) (v := ?vq1_13) rfl (by kernel_rfl) (by kernel_rfl) (by kernel_rfl) (fun _ _ _ h => h) (Or.inl ⟨by rfl, ?yq1_13⟩) hHeld ?_
  case yq1_13 => (intro W0 hSw; go_simp; try with_reducible rfl)
  try simp only [Act.put, List.setIfInBounds_toArray, List.set_cons_zero, List.set_cons_succ]
  refine wpAnyH_ready (rs := [14, 15]) (by kernel_rfl) (by simp) ?_
  refine AllReadyH.cons (i := 14) (o := ⟨(some 10), _, _, _, _, _⟩) rfl (fun K hK => ?_) (AllReadyH.cons (i := 15) (o := ⟨(some 11), _, _, _, _, _⟩) rfl (fun K hK => ?_) AllReadyH.nil)
  · refine step_new (by rfl) rfl ?_
    intro P14 W1 hP14 z14 g1 l14
    have lP14 : u3.heap.size ≤ P14 := by have := hHeld.2.2.2.2.size; have := hP14.out; omega
    have hB1 := below_next hHeld.2.2.2.2 hHeld.2.2.2.2.size g1
    refine hK.out _ _ (hold _ hB1) (fun hHeld => ?_)
    clear hK K
    try simp only [Act.put, List.setIfInBounds_toArray, List.set_cons_zero, List.set_cons_succ]
    refine wpAnyH_ready (rs := [15]) (by kernel_rfl) (by simp) ?_
    refine AllReadyH.cons (i := 15) (o := ⟨(some 11), _, _, _, _, _⟩) rfl (fun K hK => ?_) AllReadyH.nil
    refine step_new (by rfl) rfl ?_
    intro P15 W2 hP15 z15 g2 l15
    have lP15 : u3.heap.size ≤ P15 := by have := hHeld.2.2.2.2.size; have := hP15.out; omega
    have hB2 := below_next hHeld.2.2.2.2 hHeld.2.2.2.2.size g2
    refine hK.out _ _ (hold _ hB2) (fun hHeld => ?_)
    clear hK K
    try simp only [Act.put, List.setIfInBounds_toArray, List.set_cons_zero, List.set_cons_succ]
    refine wpAnyH_ready (rs := [16]) (by kernel_rfl) (by simp) ?_
    refine AllReadyH.cons (i := 16) (o := ⟨none, _, _, _, _, _⟩) rfl (fun K hK => ?_) AllReadyH.nil
    have hne : P14 ≠ P15 := by have := hP15.out; omega
    refine step_store_row rfl 96 (.tmp 10) (.tmp 76) rfl P14 (u64v [r00, r10, r20, r30]).toArray rfl rfl 96 _ ((row_next z14 g2)).out (by kernel_rfl) (by kernel_rfl) (all_oneCell_toArray (u64v_one _)) ?_
    have y14 : Hid ((W2.setRow P14 (u64v [r00, r10, r20, r30]).toArray).heap[P14]? = some (.cells (u64v [r00, r10, r20, r30]).toArray 96 (0, 0))) := setRow_heap _ _ _ _ _ _ ((row_next z14 g2)).out
    have y15 : Hid ((W2.setRow P14 (u64v [r00, r10, r20, r30]).toArray).heap[P15]? = some (.cells (u64v z4).toArray 96 (0, 0))) := (setRow_other _ _ _ _ (Ne.symm hne)).trans (z15).out
    have hB3 := below_setRow hHeld.2.2.2.2 lP14 (u64v [r00, r10, r20, r30]).toArray
    generalize W2.setRow P14 (u64v [r00, r10, r20, r30]).toArray = W3 at *
    refine hK.out _ _ (hold _ hB3) (fun hHeld => ?_)
    clear hK K
    try simp only [Act.put]
    refine wpAnyH_ready (rs := [17]) (by kernel_rfl) (by simp) ?_
    refine AllReadyH.cons (i := 17) (o := ⟨none, _, _, _, _, _⟩) rfl (fun K hK => ?_) AllReadyH.nil
    refine step_store_row rfl 96 (.tmp 11) (.tmp 84) rfl P15 (u64v [r31, r32, r33, o3]).toArray rfl rfl 96 _ y15.out (by kernel_rfl) (by kernel_rfl) (all_oneCell_toArray (u64v_one _)) ?_
    have x15 : Hid ((W3.setRow P15 (u64v [r31, r32, r33, o3]).toArray).heap[P15]? = some (.cells (u64v [r31, r32, r33, o3]).toArray 96 (0, 0))) := setRow_heap _ _ _ _ _ _ y15.out
    have x14 : Hid ((W3.setRow P15 (u64v [r31, r32, r33, o3]).toArray).heap[P14]? = some (.cells (u64v [r00, r10, r20, r30]).toArray 96 (0, 0))) := (setRow_other _ _ _ _ hne).trans y14.out
    have hB4 := below_setRow hHeld.2.2.2.2 lP15 (u64v [r31, r32, r33, o3]).toArray
    generalize W3.setRow P15 (u64v [r31, r32, r33, o3]).toArray = W4 at *
    refine hK.out _ _ (hold _ hB4) (fun hHeld => ?_)
    clear hK K
    try simp only [Act.put]
    refine wpAnyH_done (by kernel_rfl) ?_ _
    have hbW4 := below_next hbu3 hbu3.size hB4
    have hZ4 : Hid (W4.heap[w.heap.size + 2]? = some (.cells (u64v z4).toArray 96 (0, 0))) := (hB4.block _ (by omega)).trans hgZu3.out
    have hs4 : w.heap.size + 2 < W4.heap.size := (Array.getElem?_eq_some_iff.1 hZ4.out).1
    go_wp2_with (first
      | (with_reducible refine wpList_load_row rfl 96 (.tmp 11) rfl P15 rfl 96 (u64v [r31, r32, r33, o3]).toArray (0, 0) _ x15.out Tryd.underlying96 rfl (by kernel_rfl) ?_)
      | (with_reducible refine wpList_load_row rfl 96 (.tmp 10) rfl P14 rfl 96 (u64v [r00, r10, r20, r30]).toArray (0, 0) _ x14.out Tryd.underlying96 rfl (by kernel_rfl) ?_))
    refine (row_any W4 38 r31 r32 r33 o3 r00 r10 r20 r30 (by decide) l31 l32 l33 lo3 l00 l10 l20 l30).mono ?_
    rintro e W5 ⟨f0, f1, f2, f3, o4, rfl, e4, ⟨lf0, lf1, lf2, lf3⟩, lo4, hv4⟩
    have ho4 := times_over _ _ _ _ _ _ _ _ _ _ l31 l32 l33 lo3 l00 l10 l20 l30 e4.out
    have hbW5 := below_next hbW4 hbW4.size hv4
    have hZ5 : Hid (W5.heap[w.heap.size + 2]? = some (.cells (u64v z4).toArray 96 (0, 0))) := (hv4.block _ (by omega)).trans hZ4.out
    have hs5 : w.heap.size + 2 < W5.heap.size := (Array.getElem?_eq_some_iff.1 hZ5.out).1
    go_wp2_with fail
    refine (folded_any W5 f0 f1 f2 f3 o4 lf0 lf1 lf2 lf3 ho4).mono ?_
    rintro e W6 ⟨c0, c1, c2, c3, rfl, e5, lc, hv5⟩
    have HE := vlt (times_sum _ b0 b1 b2 b3 r00 r01 r02 r03 o0 r10 r11 r12 r13 o1 r20 r21 r22 r23 o2 r30 r31 r32 r33 o3 _ o4 _ e0.out e1.out e2.out e3.out e4.out e5.out)
    clear e0 e1 e2 e3 e4 e5
    have hbW6 := below_next hbW5 hbW5.size hv5
    have hZ6 : Hid (W6.heap[w.heap.size + 1 + 1]? = some (.cells (u64v z4).toArray 96 (0, 0))) := (hv5.block _ (by omega)).trans hZ5.out
    go_wp2_with (with_reducible refine wpList_store_row rfl 96 (.tmp 4) (.tmp 90) rfl (w.heap.size + 1 + 1) (u64v [c0, c1, c2, c3]).toArray rfl rfl 96 _ hZ6.out (by kernel_rfl) (by kernel_rfl) (all_oneCell_toArray (u64v_one _)) ?_)
    refine bodyPost_ret (v := .agg (u64v [c0, c1, c2, c3]).toArray) (results_cell_row Tryd.results66 _ _ (w.heap.size + 1 + 1) 96 _ (0, 0) _ rfl (setRow_heap _ _ _ _ _ _ hZ6.out) Tryd.underlying96 rfl (by kernel_rfl)) rfl ⟨c0, c1, c2, c3, rfl, HE, lc, below_setRow hbW6 (by omega) _⟩
  · refine step_new (by rfl) rfl ?_
    intro P15 W1 hP15 z15 g1 l15
    have lP15 : u3.heap.size ≤ P15 := by have := hHeld.2.2.2.2.size; have := hP15.out; omega
    have hB1 := below_next hHeld.2.2.2.2 hHeld.2.2.2.2.size g1
    refine hK.out _ _ (hold _ hB1) (fun hHeld => ?_)
    clear hK K
    try simp only [Act.put, List.setIfInBounds_toArray, List.set_cons_zero, List.set_cons_succ]
    refine wpAnyH_ready (rs := [14]) (by kernel_rfl) (by simp) ?_
    refine AllReadyH.cons (i := 14) (o := ⟨(some 10), _, _, _, _, _⟩) rfl (fun K hK => ?_) AllReadyH.nil
    refine step_new (by rfl) rfl ?_
    intro P14 W2 hP14 z14 g2 l14
    have lP14 : u3.heap.size ≤ P14 := by have := hHeld.2.2.2.2.size; have := hP14.out; omega
    have hB2 := below_next hHeld.2.2.2.2 hHeld.2.2.2.2.size g2
    refine hK.out _ _ (hold _ hB2) (fun hHeld => ?_)
    clear hK K
    try simp only [Act.put, List.setIfInBounds_toArray, List.set_cons_zero, List.set_cons_succ]
    refine wpAnyH_ready (rs := [16]) (by kernel_rfl) (by simp) ?_
    refine AllReadyH.cons (i := 16) (o := ⟨none, _, _, _, _, _⟩) rfl (fun K hK => ?_) AllReadyH.nil
    have hne : P14 ≠ P15 := by have := hP14.out; omega
    refine step_store_row rfl 96 (.tmp 10) (.tmp 76) rfl P14 (u64v [r00, r10, r20, r30]).toArray rfl rfl 96 _ (z14).out (by kernel_rfl) (by kernel_rfl) (all_oneCell_toArray (u64v_one _)) ?_
    have y14 : Hid ((W2.setRow P14 (u64v [r00, r10, r20, r30]).toArray).heap[P14]? = some (.cells (u64v [r00, r10, r20, r30]).toArray 96 (0, 0))) := setRow_heap _ _ _ _ _ _ (z14).out
    have y15 : Hid ((W2.setRow P14 (u64v [r00, r10, r20, r30]).toArray).heap[P15]? = some (.cells (u64v z4).toArray 96 (0, 0))) := (setRow_other _ _ _ _ (Ne.symm hne)).trans ((row_next z15 g2)).out
    have hB3 := below_setRow hHeld.2.2.2.2 lP14 (u64v [r00, r10, r20, r30]).toArray
    generalize W2.setRow P14 (u64v [r00, r10, r20, r30]).toArray = W3 at *
    refine hK.out _ _ (hold _ hB3) (fun hHeld => ?_)
    clear hK K
    try simp only [Act.put]
    refine wpAnyH_ready (rs := [17]) (by kernel_rfl) (by simp) ?_
    refine AllReadyH.cons (i := 17) (o := ⟨none, _, _, _, _, _⟩) rfl (fun K hK => ?_) AllReadyH.nil
    refine step_store_row rfl 96 (.tmp 11) (.tmp 84) rfl P15 (u64v [r31, r32, r33, o3]).toArray rfl rfl 96 _ y15.out (by kernel_rfl) (by kernel_rfl) (all_oneCell_toArray (u64v_one _)) ?_
    have x15 : Hid ((W3.setRow P15 (u64v [r31, r32, r33, o3]).toArray).heap[P15]? = some (.cells (u64v [r31, r32, r33, o3]).toArray 96 (0, 0))) := setRow_heap _ _ _ _ _ _ y15.out
    have x14 : Hid ((W3.setRow P15 (u64v [r31, r32, r33, o3]).toArray).heap[P14]? = some (.cells (u64v [r00, r10, r20, r30]).toArray 96 (0, 0))) := (setRow_other _ _ _ _ hne).trans y14.out
    have hB4 := below_setRow hHeld.2.2.2.2 lP15 (u64v [r31, r32, r33, o3]).toArray
    generalize W3.setRow P15 (u64v [r31, r32, r33, o3]).toArray = W4 at *
    refine hK.out _ _ (hold _ hB4) (fun hHeld => ?_)
    clear hK K
    try simp only [Act.put]
    refine wpAnyH_done (by kernel_rfl) ?_ _
    have hbW4 := below_next hbu3 hbu3.size hB4
    have hZ4 : Hid (W4.heap[w.heap.size + 2]? = some (.cells (u64v z4).toArray 96 (0, 0))) := (hB4.block _ (by omega)).trans hgZu3.out
    have hs4 : w.heap.size + 2 < W4.heap.size := (Array.getElem?_eq_some_iff.1 hZ4.out).1
    go_wp2_with (first
      | (with_reducible refine wpList_load_row rfl 96 (.tmp 11) rfl P15 rfl 96 (u64v [r31, r32, r33, o3]).toArray (0, 0) _ x15.out Tryd.underlying96 rfl (by kernel_rfl) ?_)
      | (with_reducible refine wpList_load_row rfl 96 (.tmp 10) rfl P14 rfl 96 (u64v [r00, r10, r20, r30]).toArray (0, 0) _ x14.out Tryd.underlying96 rfl (by kernel_rfl) ?_))
    refine (row_any W4 38 r31 r32 r33 o3 r00 r10 r20 r30 (by decide) l31 l32 l33 lo3 l00 l10 l20 l30).mono ?_
    rintro e W5 ⟨f0, f1, f2, f3, o4, rfl, e4, ⟨lf0, lf1, lf2, lf3⟩, lo4, hv4⟩
    have ho4 := times_over _ _ _ _ _ _ _ _ _ _ l31 l32 l33 lo3 l00 l10 l20 l30 e4.out
    have hbW5 := below_next hbW4 hbW4.size hv4
    have hZ5 : Hid (W5.heap[w.heap.size + 2]? = some (.cells (u64v z4).toArray 96 (0, 0))) := (hv4.block _ (by omega)).trans hZ4.out
    have hs5 : w.heap.size + 2 < W5.heap.size := (Array.getElem?_eq_some_iff.1 hZ5.out).1
    go_wp2_with fail
    refine (folded_any W5 f0 f1 f2 f3 o4 lf0 lf1 lf2 lf3 ho4).mono ?_
    rintro e W6 ⟨c0, c1, c2, c3, rfl, e5, lc, hv5⟩
    have HE := vlt (times_sum _ b0 b1 b2 b3 r00 r01 r02 r03 o0 r10 r11 r12 r13 o1 r20 r21 r22 r23 o2 r30 r31 r32 r33 o3 _ o4 _ e0.out e1.out e2.out e3.out e4.out e5.out)
    clear e0 e1 e2 e3 e4 e5
    have hbW6 := below_next hbW5 hbW5.size hv5
    have hZ6 : Hid (W6.heap[w.heap.size + 1 + 1]? = some (.cells (u64v z4).toArray 96 (0, 0))) := (hv5.block _ (by omega)).trans hZ5.out
    go_wp2_with (with_reducible refine wpList_store_row rfl 96 (.tmp 4) (.tmp 90) rfl (w.heap.size + 1 + 1) (u64v [c0, c1, c2, c3]).toArray rfl rfl 96 _ hZ6.out (by kernel_rfl) (by kernel_rfl) (all_oneCell_toArray (u64v_one _)) ?_)
    refine bodyPost_ret (v := .agg (u64v [c0, c1, c2, c3]).toArray) (results_cell_row Tryd.results66 _ _ (w.heap.size + 1 + 1) 96 _ (0, 0) _ rfl (setRow_heap _ _ _ _ _ _ hZ6.out) Tryd.underlying96 rfl (by kernel_rfl)) rfl ⟨c0, c1, c2, c3, rfl, HE, lc, below_setRow hbW6 (by omega) _⟩
end Go.Proofs.YtcefdcjpddohaaaDoor
namespace Go.Proofs.YtcefdcjpddohaaaDoor
open Go.RowKit

def topE (l : List Nat) : Nat → Nat
  | 0 => 0
  | j + 1 => topE l j * 18446744073709551616 + natAt l j
theorem topE_all (n0 n1 n2 n3 : Nat) : topE [n3, n2, n1, n0] 4 = n4 n0 n1 n2 n3 := by
  simp only [topE, natAt, n4, List.getD_cons_zero, List.getD_cons_succ]
  omega
/-- The exponent's first bits: d of a piece's bits are still to come. -/
def partE (T p d : Nat) : Nat := T * 2 ^ (64 - d) + p / 2 ^ d
theorem partE_start (T p : Nat) (hp : p < 18446744073709551616) : partE T p 64 = T := by
  rw [partE, Nat.sub_self, Nat.pow_zero, Nat.mul_one, Nat.div_eq_of_lt (by rw [show (2 : Nat) ^ 64 = 18446744073709551616 by decide]; exact hp), Nat.add_zero]
theorem partE_end (T p : Nat) : partE T p 0 = T * 18446744073709551616 + p := by
  rw [partE, Nat.pow_zero, Nat.div_one, show (2 : Nat) ^ (64 - 0) = 18446744073709551616 by decide]
theorem partE_next (T p i : Nat) (hi : i < 64) : partE T p i = partE T p (i + 1) + partE T p (i + 1) + p / 2 ^ i % 2 := by
  have h1 : (2 : Nat) ^ (64 - i) = 2 * 2 ^ (64 - (i + 1)) := by rw [show 64 - i = (64 - (i + 1)) + 1 by omega, Nat.pow_succ]; omega
  have h2 : p / 2 ^ (i + 1) = p / 2 ^ i / 2 := by rw [Nat.pow_succ, Nat.div_div_eq_div_mul]
  rw [partE, partE, h1, h2]
  generalize 2 ^ (64 - (i + 1)) = q
  generalize p / 2 ^ i = r
  have h3 : T * (2 * q) = T * q + T * q := by rw [Nat.mul_left_comm, Nat.two_mul]
  rw [h3]
  omega
theorem pow_sq {C D X e P : Nat} (h : D % P = (C * C) % P) (hc : C % P = X ^ e % P) : D % P = X ^ (e + e) % P := by
  rw [h, Nat.mul_mod, hc, ← Nat.mul_mod, ← Nat.pow_add]
theorem pow_one {C D X e P : Nat} (h : D % P = (C * X) % P) (hc : C % P = X ^ e % P) : D % P = X ^ (e + 1) % P := by
  rw [h, Nat.mul_mod, hc, ← Nat.mul_mod, ← Nat.pow_succ]
theorem long_agg {P : Program} {t e n : Nat} (hu : P.underlying t = some (.array n e)) (hs : (P.info? e).map (·.size) = some 1) (he : P.underlying e = some (.int .u64)) (l : List Nat) (hl : l.length = n) (j : Nat) (hj : j < n) (w : World) :
    (Instr.index t (.agg (u64v l).toArray) (.int .i64 (j : Int))).run P w = .ok (.int .u64 ((natAt l j : Nat) : Int)) w :=
  at_agg hu hs he (u64v l) j _ (j : Int) rfl hj (by rw [u64v_at, natAt, List.getD_eq_getElem?_getD, List.getElem?_eq_getElem (by omega)]; rfl) w
theorem low1 (a : Nat) (ha : a < 18446744073709551616) : bits .and .u64 (a : Int) 1 = ((a % 2 : Nat) : Int) := by
  have h := u64_and_nat a 1 ha (by decide)
  rw [show ((1 : Nat) : Int) = 1 from rfl] at h
  rw [h, show (1 : Nat) = 2 ^ 1 - 1 by decide, Nat.and_two_pow_sub_one_eq_mod, show (2 : Nat) ^ 1 = 2 by decide]
theorem Tryd.sizeU64 : (Tryd.prog.info? 52).map (·.size) = some 1 := by kernel_rfl

set_option maxRecDepth 100000 in
set_option maxHeartbeats 2000000 in
theorem power_any (w : World) (a0 a1 a2 a3 n0 n1 n2 n3 : Nat) (ha0 : a0 < B64) (ha1 : a1 < B64) (ha2 : a2 < B64) (ha3 : a3 < B64) (hn0 : n0 < B64) (hn1 : n1 < B64) (hn2 : n2 < B64) (hn3 : n3 < B64) :
    Calls Tryd.prog 68 #[.agg (u64v [a0, a1, a2, a3]).toArray, .agg (u64v [n0, n1, n2, n3]).toArray] w fun e w' => ∃ c0 c1 c2 c3 : Nat, e = .returned (.agg (u64v [c0, c1, c2, c3]).toArray) ∧
      Vlt (n4 c0 c1 c2 c3 % FP = n4 a0 a1 a2 a3 ^ n4 n0 n1 n2 n3 % FP) ∧ (c0 < B64 ∧ c1 < B64 ∧ c2 < B64 ∧ c3 < B64) ∧ Below w.heap.size w w' := by
  have hzn := zero_n4
  obtain ⟨W, hW, hgA, hgB, hgZ, hbW, hsW⟩ := three_new w (u64v [a0, a1, a2, a3]).toArray (u64v [n0, n1, n2, n3]).toArray (u64v z4).toArray 96 96 96
  have HW := Lib.hid hW
  have hs0 : w.heap.size + 2 < W.heap.size := by have := hsW.out; omega
  clear hW hsW
  go_enter Tryd.func68, Tryd.ntmps68
  go_upto_region 1 with fail
  rw [HW.out]
  go_upto_region 2 with ((with_reducible refine wpList_store_row rfl 96 (.tmp 5) (.tmp 9) rfl W.heap.size (u64v [1, 0, 0, 0]).toArray rfl rfl 96 _ (heap_alloc_new _ _) (by kernel_rfl) (by kernel_rfl) (all_oneCell_toArray (u64v_one _)) ?_); rw [World.setRow_alloc_new])
  obtain ⟨V, hV⟩ : ∃ V, V = W.alloc (.cells (u64v [1, 0, 0, 0]).toArray 96) := ⟨_, rfl⟩
  rw [← hV]
  have hA : Hid (V.heap[w.heap.size]? = some (.cells (u64v [a0, a1, a2, a3]).toArray 96 (0, 0))) := by rw [hV]; exact (Below.heap_alloc _ _ _ (by omega)).trans hgA.out
  have hB : Hid (V.heap[w.heap.size + 1]? = some (.cells (u64v [n0, n1, n2, n3]).toArray 96 (0, 0))) := by rw [hV]; exact (Below.heap_alloc _ _ _ (by omega)).trans hgB.out
  have hZ : Hid (V.heap[w.heap.size + 2]? = some (.cells (u64v z4).toArray 96 (0, 0))) := by rw [hV]; exact (Below.heap_alloc _ _ _ (by omega)).trans hgZ.out
  have hR : Hid (V.heap[W.heap.size]? = some (.cells (u64v [1, 0, 0, 0]).toArray 96 (0, 0))) := by rw [hV]; exact heap_alloc_new _ _
  have hbV : Below w.heap.size w V := by rw [hV]; exact hbW.alloc hbW.size _
  obtain ⟨R, hRe⟩ : ∃ R, R = W.heap.size := ⟨_, rfl⟩
  rw [← hRe] at hR hs0 ⊢
  clear hRe hV hgA hgB hgZ hbW
  have hsV : R < V.heap.size := (Array.getElem?_eq_some_iff.1 hR.out).1
  have cb0 : V.cell? ⟨w.heap.size + 1, 0, none⟩ = some (.int .u64 (n0 : Int)) := long_at hB.out 0 (by simp)
  have cb1 : V.cell? ⟨w.heap.size + 1, 1, none⟩ = some (.int .u64 (n1 : Int)) := long_at hB.out 1 (by simp)
  have cb2 : V.cell? ⟨w.heap.size + 1, 2, none⟩ = some (.int .u64 (n2 : Int)) := long_at hB.out 2 (by simp)
  have cb3 : V.cell? ⟨w.heap.size + 1, 3, none⟩ = some (.int .u64 (n3 : Int)) := long_at hB.out 3 (by simp)
  go_upto_region 3 with fail
  clear cb0 cb1 cb2 cb3 hB
  obtain ⟨PL, hPL⟩ : ∃ PL, PL = [n3, n2, n1, n0] := ⟨_, rfl⟩
  rw [show (#[Value.int .u64 (n3 : Int), Value.int .u64 (n2 : Int), Value.int .u64 (n1 : Int), Value.int .u64 (n0 : Int)] : Array Value) = (u64v PL).toArray by rw [hPL]; rfl]
  have HPL := Lib.hid (show PL.length = 4 by rw [hPL]; rfl)
  have HTE := vlt (show topE PL 4 = n4 n0 n1 n2 n3 by rw [hPL]; exact topE_all n0 n1 n2 n3)
  have HPB := Lib.hid (show ∀ j, natAt PL j < B64 from fun j => getD_lt (by rw [hPL]; intro x hx; simp only [List.mem_cons, List.not_mem_nil, or_false] at hx; rcases hx with rfl | rfl | rfl | rfl <;> assumption) (by decide) j)
  obtain ⟨X, hX⟩ : ∃ X, X = n4 a0 a1 a2 a3 := ⟨_, rfl⟩
  have HX := vlt hX
  clear hPL hX
  go_loopw [19] (fun s wr => ∃ j c0 c1 c2 c3 : Nat, j ≤ 4 ∧ s = .int .i64 (j : Int) ∧ Hid (wr.heap[R]? = some (.cells (u64v [c0, c1, c2, c3]).toArray 96 (0, 0))) ∧ (c0 < B64 ∧ c1 < B64 ∧ c2 < B64 ∧ c3 < B64) ∧ Vlt (n4 c0 c1 c2 c3 % FP = X ^ topE PL j % FP) ∧ But R V wr) (fun s _ => 4 - (intOf s).toNat)
  case atStart => exact ⟨0, 1, 0, 0, 0, by omega, rfl, hR, by decide, vlt (by rw [topE, Nat.pow_zero]; rfl), But.refl _ _⟩
  case round =>
    obtain ⟨j, d0, d1, d2, d3, hj, rfl, hRr, ld, hval, hbt⟩ := hrel
    by_cases hlt : j < 4
    · have hix := long_agg Tryd.underlying53 Tryd.sizeU64 Tryd.underlying52 PL HPL.out j hlt
      have HT1 := vlt (show topE PL (j + 1) = topE PL j * 18446744073709551616 + natAt PL j from rfl)
      obtain ⟨p, hp⟩ : ∃ p, p = natAt PL j := ⟨_, rfl⟩
      rw [← hp] at hix HT1
      have lp : p < B64 := by rw [hp]; exact HPB.out j
      obtain ⟨T, hT⟩ : ∃ T, T = topE PL j := ⟨_, rfl⟩
      rw [← hT] at hval HT1
      clear hp hT
      have hbj : decide ((j : Int) < 4) = true := by simp; omega
      go_upto_region 6 with fail
      obtain ⟨Y0, hY0⟩ : ∃ Y0, Y0 = wr := ⟨_, rfl⟩
      subst hY0
      clear hbj
      go_loopw [8] (fun s wi => ∃ d c0 c1 c2 c3 : Nat, d ≤ 64 ∧ s = .int .i64 ((d : Int) - 1) ∧ Hid (wi.heap[R]? = some (.cells (u64v [c0, c1, c2, c3]).toArray 96 (0, 0))) ∧ (c0 < B64 ∧ c1 < B64 ∧ c2 < B64 ∧ c3 < B64) ∧ Vlt (n4 c0 c1 c2 c3 % FP = X ^ partE T p d % FP) ∧ But R V wi) (fun s _ => (intOf s + 1).toNat)
      case atStart => exact ⟨64, d0, d1, d2, d3, by omega, rfl, hRr, ld, vlt (by rw [partE_start T p lp]; exact hval.out), hbt⟩
      case round =>
        obtain ⟨d, c0, c1, c2, c3, hd, rfl, hRi, ⟨lc0, lc1, lc2, lc3⟩, hvi, hbi⟩ := hrel
        by_cases hd0 : 0 < d
        · obtain ⟨i, rfl⟩ : ∃ i, d = i + 1 := ⟨d - 1, by omega⟩
          have ei : ((i + 1 : Nat) : Int) - 1 = (i : Int) := by omega
          rw [ei]
          clear ei
          have hsi : R < wr.heap.size := (Array.getElem?_eq_some_iff.1 hRi.out).1
          have hAi : Hid (wr.heap[w.heap.size]? = some (.cells (u64v [a0, a1, a2, a3]).toArray 96 (0, 0))) := (hbi.block _ (by omega) (by intro e; injection e; omega)).trans hA.out
          have hE1 := partE_next T p i (by omega)
          have hsh : (p : Int) / 2 ^ i = ((p / 2 ^ i : Nat) : Int) := by simp
          have lsh : p / 2 ^ i < 18446744073709551616 := Nat.lt_of_le_of_lt (Nat.div_le_self _ _) (by simp only [B64] at lp; exact lp)
          have hlow := low1 _ lsh
          rw [← hsh] at hlow
          clear hsh
          obtain ⟨bt, hbt1⟩ : ∃ bt, bt = p / 2 ^ i % 2 := ⟨_, rfl⟩
          rw [← hbt1] at hE1 hlow
          have hb2 : bt < 2 := by omega
          have HE1 := vlt hE1
          clear hE1 hbt1 lsh
          go_wp2_with (with_reducible refine wpList_load_row rfl 96 (.tmp 5) rfl R rfl 96 (u64v [c0, c1, c2, c3]).toArray (0, 0) _ hRi.out Tryd.underlying96 rfl (by kernel_rfl) ?_)
          refine (times_any _ c0 c1 c2 c3 c0 c1 c2 c3 lc0 lc1 lc2 lc3 lc0 lc1 lc2 lc3).mono ?_
          rintro e w3 ⟨q0, q1, q2, q3, rfl, e1, ⟨lq0, lq1, lq2, lq3⟩, hb3⟩
          have hv1 := vlt (pow_sq e1.out hvi.out)
          have hR3 : Hid (w3.heap[R]? = some (.cells (u64v [c0, c1, c2, c3]).toArray 96 (0, 0))) := (hb3.block _ (by omega)).trans hRi.out
          have hA3 : Hid (w3.heap[w.heap.size]? = some (.cells (u64v [a0, a1, a2, a3]).toArray 96 (0, 0))) := (hb3.block _ (by omega)).trans hAi.out
          have hbt3 := hbi.below_to hb3 (Nat.le_refl _)
          clear hRi hAi hbi e1 hvi
          go_upto_region 9 with (with_reducible refine wpList_store_row rfl 96 (.tmp 5) (.tmp 28) rfl R (u64v [q0, q1, q2, q3]).toArray rfl rfl 96 _ hR3.out (by kernel_rfl) (by kernel_rfl) (all_oneCell_toArray (u64v_one _)) ?_)
          obtain ⟨w4, hw4⟩ : ∃ w4, w4 = w3.setRow R (u64v [q0, q1, q2, q3]).toArray := ⟨_, rfl⟩
          rw [← hw4]
          have hR4 : Hid (w4.heap[R]? = some (.cells (u64v [q0, q1, q2, q3]).toArray 96 (0, 0))) := by rw [hw4]; exact setRow_heap _ _ _ _ _ _ hR3.out
          have hA4 : Hid (w4.heap[w.heap.size]? = some (.cells (u64v [a0, a1, a2, a3]).toArray 96 (0, 0))) := by rw [hw4]; exact (setRow_other _ _ _ _ (by omega)).trans hA3.out
          have hbt4 : But R V w4 := by rw [hw4]; exact hbt3.row _
          have hs4 : R < w4.heap.size := (Array.getElem?_eq_some_iff.1 hR4.out).1
          clear hw4 hR3 hA3 hbt3 hb3
          by_cases hone : bt = 1
          · subst hone
            go_wp2_with (first
              | (with_reducible refine wpList_load_row rfl 96 (.tmp 5) rfl R rfl 96 (u64v [q0, q1, q2, q3]).toArray (0, 0) _ hR4.out Tryd.underlying96 rfl (by kernel_rfl) ?_)
              | (with_reducible refine wpList_load_row rfl 96 (.tmp 2) rfl w.heap.size rfl 96 (u64v [a0, a1, a2, a3]).toArray (0, 0) _ hA4.out Tryd.underlying96 rfl (by kernel_rfl) ?_))
            refine (times_any w4 q0 q1 q2 q3 a0 a1 a2 a3 lq0 lq1 lq2 lq3 ha0 ha1 ha2 ha3).mono ?_
            rintro e w5 ⟨r0, r1, r2, r3, rfl, e2, ⟨lr0, lr1, lr2, lr3⟩, hb5⟩
            have hv2 := vlt (show n4 r0 r1 r2 r3 % FP = X ^ partE T p i % FP by have h2 := e2.out; rw [← HX.out] at h2; rw [HE1.out]; exact pow_one h2 hv1.out)
            have hR5 : Hid (w5.heap[R]? = some (.cells (u64v [q0, q1, q2, q3]).toArray 96 (0, 0))) := (hb5.block _ (by omega)).trans hR4.out
            have hbt5 := hbt4.below_to hb5 (Nat.le_refl _)
            go_upto_region 7 with (with_reducible refine wpList_store_row rfl 96 (.tmp 5) (.tmp 36) rfl R (u64v [r0, r1, r2, r3]).toArray rfl rfl 96 _ hR5.out (by kernel_rfl) (by kernel_rfl) (all_oneCell_toArray (u64v_one _)) ?_)
            have hR6 : Hid ((w5.setRow R (u64v [r0, r1, r2, r3]).toArray).heap[R]? = some (.cells (u64v [r0, r1, r2, r3]).toArray 96 (0, 0))) := setRow_heap _ _ _ _ _ _ hR5.out
            have hbt6 := hbt5.row (u64v [r0, r1, r2, r3]).toArray
            generalize w5.setRow R (u64v [r0, r1, r2, r3]).toArray = w6 at *
            go_wp2
            go_roundw
            case rel => exact ⟨i, r0, r1, r2, r3, by omega, rfl, hR6, ⟨lr0, lr1, lr2, lr3⟩, hv2, hbt6⟩
            case measure => simp [intOf]
          · obtain rfl : bt = 0 := by omega
            have hv2 := vlt (show n4 q0 q1 q2 q3 % FP = X ^ partE T p i % FP by rw [HE1.out, Nat.add_zero]; exact hv1.out)
            go_wp2
            go_roundw
            case rel => exact ⟨i, q0, q1, q2, q3, by omega, rfl, hR4, ⟨lq0, lq1, lq2, lq3⟩, hv2, hbt4⟩
            case measure => simp [intOf]
        · obtain rfl : d = 0 := by omega
          have hvE := vlt (show n4 c0 c1 c2 c3 % FP = X ^ topE PL (j + 1) % FP by rw [HT1.out, ← partE_end]; exact hvi.out)
          go_wp2
          go_roundw
          case rel => exact ⟨j + 1, c0, c1, c2, c3, by omega, by go_num, hRi, ⟨lc0, lc1, lc2, lc3⟩, hvE, hbi⟩
          case measure => simp [intOf]; omega
    · obtain rfl : j = 4 := by omega
      have hz : Hid (wr.heap[w.heap.size + 1 + 1]? = some (.cells (u64v z4).toArray 96 (0, 0))) := (hbt.block _ (by omega) (by intro e; injection e; omega)).trans hZ.out
      have hbw : Below w.heap.size w wr := But.below hbV hbt (by omega) (by omega)
      have HE := vlt (show n4 d0 d1 d2 d3 % FP = n4 a0 a1 a2 a3 ^ n4 n0 n1 n2 n3 % FP by rw [hval.out, HTE.out, HX.out])
      go_wp2_with (first
        | (with_reducible refine wpList_load_row rfl 96 (.tmp 5) rfl R rfl 96 (u64v [d0, d1, d2, d3]).toArray (0, 0) _ hRr.out Tryd.underlying96 rfl (by kernel_rfl) ?_)
        | (with_reducible refine wpList_store_row rfl 96 (.tmp 4) (.tmp 38) rfl (w.heap.size + 1 + 1) (u64v [d0, d1, d2, d3]).toArray rfl rfl 96 _ hz.out (by kernel_rfl) (by kernel_rfl) (all_oneCell_toArray (u64v_one _)) ?_))
      refine bodyPost_ret (v := .agg (u64v [d0, d1, d2, d3]).toArray) (results_cell_row Tryd.results68 _ _ (w.heap.size + 1 + 1) 96 _ (0, 0) _ rfl (setRow_heap _ _ _ _ _ _ hz.out) Tryd.underlying96 rfl (by kernel_rfl)) rfl ⟨d0, d1, d2, d3, rfl, HE, ld, below_setRow hbw (by omega) _⟩
end Go.Proofs.YtcefdcjpddohaaaDoor
namespace Go.Proofs.YtcefdcjpddohaaaDoor
open Go.RowKit

section
variable {P : Program} {t e n : Nat} (ht : P.underlying t = some (.array n e)) (he : P.underlying e = some (.int .u8)) (hs : (P.info? e).map (·.size) = some 1)
include ht he hs
theorem part_bytes (l : List UInt8) (k : Nat) (b : UInt8) (hb : l[k]? = some b) (w : World) : (part e (bv l).toArray (k * 1)).run P w = .ok (.int .u8 (b.toNat : Int)) w := by
  obtain ⟨i, hi', hi2⟩ := Option.map_eq_some_iff.1 hs
  have h1 : (bv l)[k]? = some (.int .u8 (b.toNat : Int)) := by rw [bv_at, hb]; rfl
  have _ := ht
  simp [part, isAgg, run_underlying he, h1]
theorem eq_bytes_same (l : List UInt8) (hl : l.length = n) (d : Nat) (w : World) : (Op.equalIn (d + 2) t (.agg (bv l).toArray) (.agg (bv l).toArray)).run P w = .ok true w := by
  obtain ⟨i, hi', hi2⟩ := Option.map_eq_some_iff.1 hs
  have hp := part_bytes ht he hs l
  have hfor : ∀ (is : List Nat), (∀ k ∈ is, k < l.length) → (forIn (m := Sem) is ((none : Option Bool), ()) fun i _ => do
      let a ← part e (bv l).toArray (i * 1)
      let b ← part e (bv l).toArray (i * 1)
      let r ← Op.equalIn (d + 1) e a b
      if (!r) = true then pure (ForInStep.done (some false, ())) else pure (ForInStep.yield (none, ()))).run P w = .ok (none, ()) w := by
    intro is
    induction is with
    | nil => intro _; simp
    | cons k ks ih =>
      intro hk
      have hk1 : k < l.length := hk k (by simp)
      have h1 := hp k l[k] (List.getElem?_eq_getElem hk1)
      have h2 := ih (fun j hj => hk j (by simp [hj]))
      rw [List.forIn_cons]
      simp only [Sem.run_bind, h1, Result.andThen_ok, run_equalIn_int w d e .u8 .u8 _ _ he]
      simpa using h2
  rw [Op.equalIn]
  have hsz : (sizeOf e).run P w = .ok 1 w := by simp [sizeOf, typeInfo, hi', hi2]
  simp only [Sem.run_bind, run_underlying ht, Result.andThen_ok, hsz]
  have hr := hfor (List.range' 0 n) (fun k hk => by rw [hl]; simpa using hk)
  simp only [Std.Legacy.Range.forIn_eq_forIn_range', Std.Legacy.Range.size, Nat.sub_zero, Nat.add_one_sub_one, Nat.div_one, hr]
  simp
theorem eql_bytes_same (l : List UInt8) (hl : l.length = n) (w : World) : (binOp .eql t (.agg (bv l).toArray) (.agg (bv l).toArray)).run P w = .ok (.bool true) w := by
  rw [run_eql_struct, eq_bytes_same ht he hs l hl 9998 w]
  rfl
end
/-- Operations with a guard that says yes: a whole row is read, an array is built, two arrays are held against each other. -/
theorem wpList_wanted {P : Program} {ops : Array Oper} {rest : List Oper} {o : Oper} {a : Act} {w : World} {Q : Exit → Act → World → Prop} (hw : Region.wanted o (yielded ops a.tmps) = true)
    (h : ∀ K : Act → World → Prop, (∀ a w, wpList P ops Q rest a w → K a w) → o.wp P a w K Q) : wpList P ops Q (o :: rest) a w :=
  wpList_step fun K hK => by rw [if_pos hw]; exact h K hK
theorem wpList_load_row_w {P : Program} {ops : Array Oper} {rest : List Oper} {o : Oper} {a : Act} {w : World} {Q : Exit → Act → World → Prop} (hw : Region.wanted o (yielded ops a.tmps) = true) (ty : TypeId) (x : Operand) (ho : o.op = .load ty x)
    (g : Nat) (hx : a.eval x = .pointer (some ⟨g, 0, none⟩)) (t : TypeId) (cs : Array Value) (fr : Nat × Nat) (d : TypeDesc) (hg : w.heap[g]? = some (.cells cs t fr))
    (hu : P.underlying ty = some d) (hd : (match d with | .struct _ | .array _ _ => true | _ => false) = true) (hi : (P.info? ty).map (·.size) = some cs.size)
    (h : wpList P ops Q rest (a.put o.dst (.agg cs)) w) : wpList P ops Q (o :: rest) a w :=
  wpList_wanted hw fun _ hK => wp_load_row ty x ho g hx t cs fr d hg hu hd hi (hK _ _ h)
theorem wpList_build_w {P : Program} {ops : Array Oper} {rest : List Oper} {o : Oper} {a : Act} {w : World} {Q : Exit → Act → World → Prop} (hw : Region.wanted o (yielded ops a.tmps) = true) (t : TypeId) (parts : Array (Nat × Operand)) (ho : o.op = .build t parts) (lst : List (Nat × Value)) (hp : (parts.map fun (i, x) => (i, a.eval x)).toList = lst) (cs : Array Value) (hf : P.built t lst = some cs)
    (h : wpList P ops Q rest (a.put o.dst (.agg cs)) w) : wpList P ops Q (o :: rest) a w :=
  wpList_wanted hw fun _ hK => wp_build t parts ho (by rw [hp, hf]; rfl) (by rw [hp, hf]; exact hK _ _ h)
theorem wpList_eql_w {P : Program} {ops : Array Oper} {rest : List Oper} {o : Oper} {a : Act} {w : World} {Q : Exit → Act → World → Prop} (hw : Region.wanted o (yielded ops a.tmps) = true) (t s : TypeId) (x y : Operand) (ho : o.op = .binOp .eql t x y s)
    (hm : P.eqGuardType P.depth t = false) (xs ys : Array Value) (hx : a.eval x = .agg xs) (hy : a.eval y = .agg ys) (b : Bool) (hr : (binOp .eql t (.agg xs) (.agg ys)).run P w = .ok (.bool b) w) (h : wpList P ops Q rest (a.put o.dst (.bool b)) w) : wpList P ops Q (o :: rest) a w :=
  wpList_wanted hw fun K hK => by
    have hg := run_eqGuard_agg (P := P) (w := w) .eql t x y xs ys hm
    unfold Oper.wp
    simp only [execOp, ho, hx, hy, Sem.run_bind, hg, hr, Result.andThen_ok]
    exact hK _ _ h
end Go.Proofs.YtcefdcjpddohaaaDoor
namespace Go.Proofs.YtcefdcjpddohaaaDoor
open Go.RowKit

theorem range_row {w : World} {g : Nat} {l : List Value} {t : TypeId} (hg : w.heap[g]? = some (.cells l.toArray t (0, 0))) : w.rangeAt g 0 l := by
  intro j v hj
  rw [Nat.zero_add, cell_of_row _ _ _ _ _ _ hg]
  simpa using hj
theorem bv_size (l : List UInt8) (h : l.length = 32) : (bv l).toArray.size = 32 := by simp [bv_len, h]
/-- An array built out of known parts, in a region that draws its order. -/
theorem yields_build {P : Program} {ops : Array Oper} {S : World → Prop} {op : Oper} {a : Act} (hw : Region.wanted op (yielded ops a.tmps) = true) (ty : TypeId) (parts : Array (Nat × Operand)) (ho : op.op = .build ty parts)
    (lst : List (Nat × Value)) (hp : (parts.toList.map fun (i, x) => (i, a.eval x)) = lst) (cs : Array Value) (hf : P.built ty lst = some cs) : YieldsIf P ops S op (.agg cs) a :=
  .inl ⟨hw, fun w _ => by
    have h := run_build (P := P) w ty (parts.map fun (i, x) => (i, a.eval x)) cs (by rw [Array.toList_map, hp]; exact hf)
    unfold execOp
    simp [ho, h, Result.andThen]⟩
end Go.Proofs.YtcefdcjpddohaaaDoor
namespace Go.Proofs.YtcefdcjpddohaaaDoor
open Go.RowKit

set_option maxRecDepth 100000 in
set_option maxHeartbeats 1000000 in
theorem norm_any (w : World) (a : List UInt8) (ha : a.length = 32) :
    Calls Tryd.prog 61 #[.agg (bv a).toArray] w fun e w' => ∃ l, e = .returned (.agg (bv l).toArray) ∧ Vlt (l = wo (ln a)) ∧ Hid (l.length = 32) ∧ Below w.heap.size w w' := by
  have hzw := zero_word
  obtain ⟨W, hW, hgA, hgZ, hbW, hsW⟩ := pair_new w (bv a).toArray (bv z32).toArray 23 23
  have HW := Lib.hid hW
  have HA := Lib.hid ha
  have HS := Lib.hid (bv_size a ha)
  have hs : w.heap.size + 1 < W.heap.size := by have := hsW.out; omega
  clear hW ha hsW
  go_enter Tryd.func61, Tryd.ntmps61
  go_upto_region 1 with fail
  rw [HW.out]
  go_wp2_with (with_reducible refine wpList_load_row rfl 23 (.tmp 1) rfl w.heap.size rfl 23 (bv a).toArray (0, 0) _ hgA.out Tryd.underlying23 rfl (by rw [HS.out]; kernel_rfl) ?_)
  refine (numberOf_any W a HA.out).mono ?_
  rintro e w1 ⟨a0, a1, a2, a3, rfl, e1, ⟨la0, la1, la2, la3⟩, hb1⟩
  have hbw1 := below_next hbW hbW.size hb1
  have hz1 : Hid (w1.heap[w.heap.size + 1]? = some (.cells (bv z32).toArray 23 (0, 0))) := (hb1.block _ (by omega)).trans hgZ.out
  have hs1 : w.heap.size + 1 < w1.heap.size := (Array.getElem?_eq_some_iff.1 hz1.out).1
  go_wp2_with fail
  refine (told_any w1 a0 a1 a2 a3 la0 la1 la2 la3).mono ?_
  rintro e w2 ⟨l, rfl, e2, HL, hb2⟩
  have HE := vlt (show l = wo (ln a) by rw [e2.out, e1.out, wo])
  clear e1 e2
  have hbw2 := below_next hbw1 hbw1.size hb2
  have hz2 : Hid (w2.heap[w.heap.size + 1]? = some (.cells (bv z32).toArray 23 (0, 0))) := (hb2.block _ (by omega)).trans hz1.out
  have HLS := Lib.hid (bv_size l HL.out)
  go_wp2_with (with_reducible refine wpList_store_row rfl 23 (.tmp 2) (.tmp 5) rfl (w.heap.size + 1) (bv l).toArray rfl rfl 23 _ hz2.out (by rw [HLS.out]; kernel_rfl) (by rw [HLS.out]; kernel_rfl) (all_oneCell_toArray (bv_one _)) ?_)
  refine bodyPost_ret (v := .agg (bv l).toArray) (results_cell_row Tryd.results61 _ _ (w.heap.size + 1) 23 _ (0, 0) _ rfl (setRow_heap _ _ _ _ _ _ hz2.out) Tryd.underlying23 rfl (by rw [HLS.out]; kernel_rfl)) rfl ⟨l, rfl, HE, HL, below_setRow hbw2 (by omega) _⟩

set_option maxRecDepth 100000 in
set_option maxHeartbeats 1000000 in
theorem add_any (w : World) (a b : List UInt8) (ha : a.length = 32) (hb : b.length = 32) :
    Calls Tryd.prog 54 #[.agg (bv a).toArray, .agg (bv b).toArray] w fun e w' => ∃ l, e = .returned (.agg (bv l).toArray) ∧ Vlt (l = wo (ln a + ln b)) ∧ Hid (l.length = 32) ∧ Below w.heap.size w w' := by
  have hzw := zero_word
  obtain ⟨W, hW, hgA, hgB, hgZ, hbW, hsW⟩ := three_new w (bv a).toArray (bv b).toArray (bv z32).toArray 23 23 23
  have HW := Lib.hid hW
  have HA := Lib.hid ha
  have HB := Lib.hid hb
  have HAS := Lib.hid (show (bv a).length = 32 by rw [bv_len, ha])
  have HBS := Lib.hid (show (bv b).length = 32 by rw [bv_len, hb])
  have hs : w.heap.size + 2 < W.heap.size := by have := hsW.out; omega
  clear hW ha hb hsW
  go_enter Tryd.func54, Tryd.ntmps54
  go_upto_region 1 with fail
  rw [HW.out]
  refine wp_region_held_drew (S := (fun W' => W'.heap[w.heap.size]? = some (.cells (bv a).toArray 23 (0, 0)) ∧ W'.heap[w.heap.size + 1]? = some (.cells (bv b).toArray 23 (0, 0)))) (by kernel_rfl) (⟨hgA.out, hgB.out⟩) (fun hHeld => ?_)
  refine wpAnyH_take (i := 0) (oi := ⟨(some 5), _, _, _, _, _⟩) (v := _) rfl (by kernel_rfl) (by kernel_rfl) (by kernel_rfl) (fun _ _ _ h => h) (yieldsIf_load_mid (by rfl) _ _ rfl w.heap.size 0 rfl (bv a) _ (fun W' hW' => range_row hW'.1) (Tryd.underlying23) (rfl) (by rw [HAS.out]; kernel_rfl)) hHeld ?_
  try simp only [Act.put, List.setIfInBounds_toArray, List.set_cons_zero, List.set_cons_succ]
  refine wpAnyH_take (i := 2) (oi := ⟨(some 7), _, _, _, _, _⟩) (v := _) rfl (by kernel_rfl) (by kernel_rfl) (by kernel_rfl) (fun _ _ _ h => h) (yieldsIf_load_mid (by rfl) _ _ rfl (w.heap.size + 1) 0 rfl (bv b) _ (fun W' hW' => range_row hW'.2) (Tryd.underlying23) (rfl) (by rw [HBS.out]; kernel_rfl)) hHeld ?_
  try simp only [Act.put, List.setIfInBounds_toArray, List.set_cons_zero, List.set_cons_succ]
  refine wpAnyH_ready (rs := [1]) (by kernel_rfl) (by simp) ?_
  refine AllReadyH.cons (i := 1) (o := ⟨(some 6), _, _, _, _, _⟩) rfl (fun K hK => ?_) AllReadyH.nil
  go_simp
  refine (numberOf_any _ a HA.out).mono ?_
  rintro e w1 ⟨a0, a1, a2, a3, rfl, e1, ⟨la0, la1, la2, la3⟩, hb1d⟩
  have hb1 : Below W.heap.size W w1 := below_undrew hb1d
  refine hK.out _ _ (⟨(hb1.block _ (by omega)).trans hHeld.1, (hb1.block _ (by omega)).trans hHeld.2⟩) (fun hHeld => ?_)
  clear hK K
  try simp only [Act.put, List.setIfInBounds_toArray, List.set_cons_zero, List.set_cons_succ]
  have hbw1 := below_next hbW hbW.size hb1
  have hz1 : Hid (w1.heap[w.heap.size + 2]? = some (.cells (bv z32).toArray 23 (0, 0))) := (hb1.block _ (by omega)).trans hgZ.out
  have hs1 : w.heap.size + 2 < w1.heap.size := (Array.getElem?_eq_some_iff.1 hz1.out).1
  refine wpAnyH_ready (rs := [3]) (by kernel_rfl) (by simp) ?_
  refine AllReadyH.cons (i := 3) (o := ⟨(some 8), _, _, _, _, _⟩) rfl (fun K hK => ?_) AllReadyH.nil
  go_simp
  refine (numberOf_any w1 b HB.out).mono ?_
  rintro e w2 ⟨b0, b1, b2, b3, rfl, e2, ⟨lb0, lb1, lb2, lb3⟩, hb2⟩
  refine hK.out _ _ (⟨(hb2.block _ (by omega)).trans hHeld.1, (hb2.block _ (by omega)).trans hHeld.2⟩) (fun hHeld => ?_)
  clear hK K
  try simp only [Act.put, List.setIfInBounds_toArray, List.set_cons_zero, List.set_cons_succ]
  have hbw2 := below_next hbw1 hbw1.size hb2
  have hz2 : Hid (w2.heap[w.heap.size + 2]? = some (.cells (bv z32).toArray 23 (0, 0))) := (hb2.block _ (by omega)).trans hz1.out
  have hs2 : w.heap.size + 2 < w2.heap.size := (Array.getElem?_eq_some_iff.1 hz2.out).1
  refine wpAnyH_ready (rs := [4]) (by kernel_rfl) (by simp) ?_
  refine AllReadyH.cons (i := 4) (o := ⟨(some 9), _, _, _, _, _⟩) rfl (fun K hK => ?_) AllReadyH.nil
  go_simp
  refine (plus_any w2 a0 a1 a2 a3 b0 b1 b2 b3 la0 la1 la2 la3 lb0 lb1 lb2 lb3).mono ?_
  rintro e w3 ⟨c0, c1, c2, c3, rfl, e3, ⟨lc0, lc1, lc2, lc3⟩, hb3⟩
  refine hK.out _ _ (⟨(hb3.block _ (by omega)).trans hHeld.1, (hb3.block _ (by omega)).trans hHeld.2⟩) (fun hHeld => ?_)
  clear hK K
  try simp only [Act.put, List.setIfInBounds_toArray, List.set_cons_zero, List.set_cons_succ]
  have hbw3 := below_next hbw2 hbw2.size hb3
  have hz3 : Hid (w3.heap[w.heap.size + 2]? = some (.cells (bv z32).toArray 23 (0, 0))) := (hb3.block _ (by omega)).trans hz2.out
  have hs3 : w.heap.size + 2 < w3.heap.size := (Array.getElem?_eq_some_iff.1 hz3.out).1
  refine wpAnyH_ready (rs := [5]) (by kernel_rfl) (by simp) ?_
  refine AllReadyH.cons (i := 5) (o := ⟨(some 10), _, _, _, _, _⟩) rfl (fun K hK => ?_) AllReadyH.nil
  go_simp
  refine (told_any w3 c0 c1 c2 c3 lc0 lc1 lc2 lc3).mono ?_
  rintro e w4 ⟨l, rfl, e4, HL, hb4⟩
  refine hK.out _ _ (⟨(hb4.block _ (by omega)).trans hHeld.1, (hb4.block _ (by omega)).trans hHeld.2⟩) (fun hHeld => ?_)
  clear hK K
  try simp only [Act.put, List.setIfInBounds_toArray, List.set_cons_zero, List.set_cons_succ]
  have hbw4 := below_next hbw3 hbw3.size hb4
  have hz4 : Hid (w4.heap[w.heap.size + 1 + 1]? = some (.cells (bv z32).toArray 23 (0, 0))) := (hb4.block _ (by omega)).trans hz3.out
  have HE := vlt (show l = wo (ln a + ln b) by rw [e4.out, wo, e3.out, e1.out, e2.out])
  clear e1 e2 e3 e4
  have HLS := Lib.hid (bv_size l HL.out)
  refine wpAnyH_ready (rs := [6]) (by kernel_rfl) (by simp) ?_
  refine AllReadyH.cons (i := 6) (o := ⟨none, _, _, _, _, _⟩) rfl (fun K hK => ?_) AllReadyH.nil
  refine step_store_row rfl 23 (.tmp 4) (.tmp 10) rfl (w.heap.size + 1 + 1) (bv l).toArray rfl rfl 23 _ hz4.out (by rw [HLS.out]; kernel_rfl) (by rw [HLS.out]; kernel_rfl) (all_oneCell_toArray (bv_one _)) ?_
  refine hK.out _ _ (⟨(setRow_other _ _ _ _ (by omega)).trans hHeld.1, (setRow_other _ _ _ _ (by omega)).trans hHeld.2⟩) (fun hHeld => ?_)
  clear hK K
  try simp only [Act.put]
  refine wpAnyH_done (by kernel_rfl) ?_ _
  go_wp2_with fail
  refine bodyPost_ret (v := .agg (bv l).toArray) (results_cell_row Tryd.results54 _ _ (w.heap.size + 1 + 1) 23 _ (0, 0) _ rfl (setRow_heap _ _ _ _ _ _ hz4.out) Tryd.underlying23 rfl (by rw [HLS.out]; kernel_rfl)) rfl ⟨l, rfl, HE, HL, below_setRow hbw4 (by omega) _⟩

set_option maxRecDepth 100000 in
set_option maxHeartbeats 1000000 in
theorem mul_any (w : World) (a b : List UInt8) (ha : a.length = 32) (hb : b.length = 32) :
    Calls Tryd.prog 48 #[.agg (bv a).toArray, .agg (bv b).toArray] w fun e w' => ∃ l, e = .returned (.agg (bv l).toArray) ∧ Vlt (l = wo (ln a * ln b)) ∧ Hid (l.length = 32) ∧ Below w.heap.size w w' := by
  have hzw := zero_word
  obtain ⟨W, hW, hgA, hgB, hgZ, hbW, hsW⟩ := three_new w (bv a).toArray (bv b).toArray (bv z32).toArray 23 23 23
  have HW := Lib.hid hW
  have HA := Lib.hid ha
  have HB := Lib.hid hb
  have HAS := Lib.hid (show (bv a).length = 32 by rw [bv_len, ha])
  have HBS := Lib.hid (show (bv b).length = 32 by rw [bv_len, hb])
  have hs : w.heap.size + 2 < W.heap.size := by have := hsW.out; omega
  clear hW ha hb hsW
  go_enter Tryd.func48, Tryd.ntmps48
  go_upto_region 1 with fail
  rw [HW.out]
  refine wp_region_held_drew (S := (fun W' => W'.heap[w.heap.size]? = some (.cells (bv a).toArray 23 (0, 0)) ∧ W'.heap[w.heap.size + 1]? = some (.cells (bv b).toArray 23 (0, 0)))) (by kernel_rfl) (⟨hgA.out, hgB.out⟩) (fun hHeld => ?_)
  refine wpAnyH_take (i := 0) (oi := ⟨(some 5), _, _, _, _, _⟩) (v := _) rfl (by kernel_rfl) (by kernel_rfl) (by kernel_rfl) (fun _ _ _ h => h) (yieldsIf_load_mid (by rfl) _ _ rfl w.heap.size 0 rfl (bv a) _ (fun W' hW' => range_row hW'.1) (Tryd.underlying23) (rfl) (by rw [HAS.out]; kernel_rfl)) hHeld ?_
  try simp only [Act.put, List.setIfInBounds_toArray, List.set_cons_zero, List.set_cons_succ]
  refine wpAnyH_take (i := 2) (oi := ⟨(some 7), _, _, _, _, _⟩) (v := _) rfl (by kernel_rfl) (by kernel_rfl) (by kernel_rfl) (fun _ _ _ h => h) (yieldsIf_load_mid (by rfl) _ _ rfl (w.heap.size + 1) 0 rfl (bv b) _ (fun W' hW' => range_row hW'.2) (Tryd.underlying23) (rfl) (by rw [HBS.out]; kernel_rfl)) hHeld ?_
  try simp only [Act.put, List.setIfInBounds_toArray, List.set_cons_zero, List.set_cons_succ]
  refine wpAnyH_ready (rs := [1]) (by kernel_rfl) (by simp) ?_
  refine AllReadyH.cons (i := 1) (o := ⟨(some 6), _, _, _, _, _⟩) rfl (fun K hK => ?_) AllReadyH.nil
  go_simp
  refine (numberOf_any _ a HA.out).mono ?_
  rintro e w1 ⟨a0, a1, a2, a3, rfl, e1, ⟨la0, la1, la2, la3⟩, hb1d⟩
  have hb1 : Below W.heap.size W w1 := below_undrew hb1d
  refine hK.out _ _ (⟨(hb1.block _ (by omega)).trans hHeld.1, (hb1.block _ (by omega)).trans hHeld.2⟩) (fun hHeld => ?_)
  clear hK K
  try simp only [Act.put, List.setIfInBounds_toArray, List.set_cons_zero, List.set_cons_succ]
  have hbw1 := below_next hbW hbW.size hb1
  have hz1 : Hid (w1.heap[w.heap.size + 2]? = some (.cells (bv z32).toArray 23 (0, 0))) := (hb1.block _ (by omega)).trans hgZ.out
  have hs1 : w.heap.size + 2 < w1.heap.size := (Array.getElem?_eq_some_iff.1 hz1.out).1
  refine wpAnyH_ready (rs := [3]) (by kernel_rfl) (by simp) ?_
  refine AllReadyH.cons (i := 3) (o := ⟨(some 8), _, _, _, _, _⟩) rfl (fun K hK => ?_) AllReadyH.nil
  go_simp
  refine (numberOf_any w1 b HB.out).mono ?_
  rintro e w2 ⟨b0, b1, b2, b3, rfl, e2, ⟨lb0, lb1, lb2, lb3⟩, hb2⟩
  refine hK.out _ _ (⟨(hb2.block _ (by omega)).trans hHeld.1, (hb2.block _ (by omega)).trans hHeld.2⟩) (fun hHeld => ?_)
  clear hK K
  try simp only [Act.put, List.setIfInBounds_toArray, List.set_cons_zero, List.set_cons_succ]
  have hbw2 := below_next hbw1 hbw1.size hb2
  have hz2 : Hid (w2.heap[w.heap.size + 2]? = some (.cells (bv z32).toArray 23 (0, 0))) := (hb2.block _ (by omega)).trans hz1.out
  have hs2 : w.heap.size + 2 < w2.heap.size := (Array.getElem?_eq_some_iff.1 hz2.out).1
  refine wpAnyH_ready (rs := [4]) (by kernel_rfl) (by simp) ?_
  refine AllReadyH.cons (i := 4) (o := ⟨(some 9), _, _, _, _, _⟩) rfl (fun K hK => ?_) AllReadyH.nil
  go_simp
  refine (times_any w2 a0 a1 a2 a3 b0 b1 b2 b3 la0 la1 la2 la3 lb0 lb1 lb2 lb3).mono ?_
  rintro e w3 ⟨c0, c1, c2, c3, rfl, e3, ⟨lc0, lc1, lc2, lc3⟩, hb3⟩
  refine hK.out _ _ (⟨(hb3.block _ (by omega)).trans hHeld.1, (hb3.block _ (by omega)).trans hHeld.2⟩) (fun hHeld => ?_)
  clear hK K
  try simp only [Act.put, List.setIfInBounds_toArray, List.set_cons_zero, List.set_cons_succ]
  have hbw3 := below_next hbw2 hbw2.size hb3
  have hz3 : Hid (w3.heap[w.heap.size + 2]? = some (.cells (bv z32).toArray 23 (0, 0))) := (hb3.block _ (by omega)).trans hz2.out
  have hs3 : w.heap.size + 2 < w3.heap.size := (Array.getElem?_eq_some_iff.1 hz3.out).1
  refine wpAnyH_ready (rs := [5]) (by kernel_rfl) (by simp) ?_
  refine AllReadyH.cons (i := 5) (o := ⟨(some 10), _, _, _, _, _⟩) rfl (fun K hK => ?_) AllReadyH.nil
  go_simp
  refine (told_any w3 c0 c1 c2 c3 lc0 lc1 lc2 lc3).mono ?_
  rintro e w4 ⟨l, rfl, e4, HL, hb4⟩
  refine hK.out _ _ (⟨(hb4.block _ (by omega)).trans hHeld.1, (hb4.block _ (by omega)).trans hHeld.2⟩) (fun hHeld => ?_)
  clear hK K
  try simp only [Act.put, List.setIfInBounds_toArray, List.set_cons_zero, List.set_cons_succ]
  have hbw4 := below_next hbw3 hbw3.size hb4
  have hz4 : Hid (w4.heap[w.heap.size + 1 + 1]? = some (.cells (bv z32).toArray 23 (0, 0))) := (hb4.block _ (by omega)).trans hz3.out
  have HE := vlt (show l = wo (ln a * ln b) by rw [e4.out, wo, e3.out, e1.out, e2.out])
  clear e1 e2 e3 e4
  have HLS := Lib.hid (bv_size l HL.out)
  refine wpAnyH_ready (rs := [6]) (by kernel_rfl) (by simp) ?_
  refine AllReadyH.cons (i := 6) (o := ⟨none, _, _, _, _, _⟩) rfl (fun K hK => ?_) AllReadyH.nil
  refine step_store_row rfl 23 (.tmp 4) (.tmp 10) rfl (w.heap.size + 1 + 1) (bv l).toArray rfl rfl 23 _ hz4.out (by rw [HLS.out]; kernel_rfl) (by rw [HLS.out]; kernel_rfl) (all_oneCell_toArray (bv_one _)) ?_
  refine hK.out _ _ (⟨(setRow_other _ _ _ _ (by omega)).trans hHeld.1, (setRow_other _ _ _ _ (by omega)).trans hHeld.2⟩) (fun hHeld => ?_)
  clear hK K
  try simp only [Act.put]
  refine wpAnyH_done (by kernel_rfl) ?_ _
  go_wp2_with fail
  refine bodyPost_ret (v := .agg (bv l).toArray) (results_cell_row Tryd.results48 _ _ (w.heap.size + 1 + 1) 23 _ (0, 0) _ rfl (setRow_heap _ _ _ _ _ _ hz4.out) Tryd.underlying23 rfl (by rw [HLS.out]; kernel_rfl)) rfl ⟨l, rfl, HE, HL, below_setRow hbw4 (by omega) _⟩

set_option maxRecDepth 100000 in
set_option maxHeartbeats 1000000 in
theorem sub_any (w : World) (a b : List UInt8) (ha : a.length = 32) (hb : b.length = 32) :
    Calls Tryd.prog 47 #[.agg (bv a).toArray, .agg (bv b).toArray] w fun e w' => ∃ l, e = .returned (.agg (bv l).toArray) ∧ Vlt (l = wo (subF (ln a) (ln b))) ∧ Hid (l.length = 32) ∧ Below w.heap.size w w' := by
  have hzw := zero_word
  obtain ⟨W, hW, hgA, hgB, hgZ, hbW, hsW⟩ := three_new w (bv a).toArray (bv b).toArray (bv z32).toArray 23 23 23
  have HW := Lib.hid hW
  have HA := Lib.hid ha
  have HB := Lib.hid hb
  have HAS := Lib.hid (show (bv a).length = 32 by rw [bv_len, ha])
  have HBS := Lib.hid (show (bv b).length = 32 by rw [bv_len, hb])
  have hs : w.heap.size + 2 < W.heap.size := by have := hsW.out; omega
  clear hW ha hb hsW
  go_enter Tryd.func47, Tryd.ntmps47
  go_upto_region 1 with fail
  rw [HW.out]
  refine wp_region_held_drew (S := (fun W' => W'.heap[w.heap.size]? = some (.cells (bv a).toArray 23 (0, 0)) ∧ W'.heap[w.heap.size + 1]? = some (.cells (bv b).toArray 23 (0, 0)))) (by kernel_rfl) (⟨hgA.out, hgB.out⟩) (fun hHeld => ?_)
  refine wpAnyH_take (i := 0) (oi := ⟨(some 5), _, _, _, _, _⟩) (v := _) rfl (by kernel_rfl) (by kernel_rfl) (by kernel_rfl) (fun _ _ _ h => h) (yieldsIf_load_mid (by rfl) _ _ rfl w.heap.size 0 rfl (bv a) _ (fun W' hW' => range_row hW'.1) (Tryd.underlying23) (rfl) (by rw [HAS.out]; kernel_rfl)) hHeld ?_
  try simp only [Act.put, List.setIfInBounds_toArray, List.set_cons_zero, List.set_cons_succ]
  refine wpAnyH_take (i := 2) (oi := ⟨(some 7), _, _, _, _, _⟩) (v := _) rfl (by kernel_rfl) (by kernel_rfl) (by kernel_rfl) (fun _ _ _ h => h) (yieldsIf_load_mid (by rfl) _ _ rfl (w.heap.size + 1) 0 rfl (bv b) _ (fun W' hW' => range_row hW'.2) (Tryd.underlying23) (rfl) (by rw [HBS.out]; kernel_rfl)) hHeld ?_
  try simp only [Act.put, List.setIfInBounds_toArray, List.set_cons_zero, List.set_cons_succ]
  refine wpAnyH_ready (rs := [1]) (by kernel_rfl) (by simp) ?_
  refine AllReadyH.cons (i := 1) (o := ⟨(some 6), _, _, _, _, _⟩) rfl (fun K hK => ?_) AllReadyH.nil
  go_simp
  refine (numberOf_any _ a HA.out).mono ?_
  rintro e w1 ⟨a0, a1, a2, a3, rfl, e1, ⟨la0, la1, la2, la3⟩, hb1d⟩
  have hb1 : Below W.heap.size W w1 := below_undrew hb1d
  refine hK.out _ _ (⟨(hb1.block _ (by omega)).trans hHeld.1, (hb1.block _ (by omega)).trans hHeld.2⟩) (fun hHeld => ?_)
  clear hK K
  try simp only [Act.put, List.setIfInBounds_toArray, List.set_cons_zero, List.set_cons_succ]
  have hbw1 := below_next hbW hbW.size hb1
  have hz1 : Hid (w1.heap[w.heap.size + 2]? = some (.cells (bv z32).toArray 23 (0, 0))) := (hb1.block _ (by omega)).trans hgZ.out
  have hs1 : w.heap.size + 2 < w1.heap.size := (Array.getElem?_eq_some_iff.1 hz1.out).1
  refine wpAnyH_ready (rs := [3]) (by kernel_rfl) (by simp) ?_
  refine AllReadyH.cons (i := 3) (o := ⟨(some 8), _, _, _, _, _⟩) rfl (fun K hK => ?_) AllReadyH.nil
  go_simp
  refine (numberOf_any w1 b HB.out).mono ?_
  rintro e w2 ⟨b0, b1, b2, b3, rfl, e2, ⟨lb0, lb1, lb2, lb3⟩, hb2⟩
  refine hK.out _ _ (⟨(hb2.block _ (by omega)).trans hHeld.1, (hb2.block _ (by omega)).trans hHeld.2⟩) (fun hHeld => ?_)
  clear hK K
  try simp only [Act.put, List.setIfInBounds_toArray, List.set_cons_zero, List.set_cons_succ]
  have hbw2 := below_next hbw1 hbw1.size hb2
  have hz2 : Hid (w2.heap[w.heap.size + 2]? = some (.cells (bv z32).toArray 23 (0, 0))) := (hb2.block _ (by omega)).trans hz1.out
  have hs2 : w.heap.size + 2 < w2.heap.size := (Array.getElem?_eq_some_iff.1 hz2.out).1
  refine wpAnyH_ready (rs := [4]) (by kernel_rfl) (by simp) ?_
  refine AllReadyH.cons (i := 4) (o := ⟨(some 9), _, _, _, _, _⟩) rfl (fun K hK => ?_) AllReadyH.nil
  go_simp
  refine (minus_any w2 a0 a1 a2 a3 b0 b1 b2 b3 la0 la1 la2 la3 lb0 lb1 lb2 lb3).mono ?_
  rintro e w3 ⟨c0, c1, c2, c3, rfl, e3, ⟨lc0, lc1, lc2, lc3⟩, hb3⟩
  refine hK.out _ _ (⟨(hb3.block _ (by omega)).trans hHeld.1, (hb3.block _ (by omega)).trans hHeld.2⟩) (fun hHeld => ?_)
  clear hK K
  try simp only [Act.put, List.setIfInBounds_toArray, List.set_cons_zero, List.set_cons_succ]
  have hbw3 := below_next hbw2 hbw2.size hb3
  have hz3 : Hid (w3.heap[w.heap.size + 2]? = some (.cells (bv z32).toArray 23 (0, 0))) := (hb3.block _ (by omega)).trans hz2.out
  have hs3 : w.heap.size + 2 < w3.heap.size := (Array.getElem?_eq_some_iff.1 hz3.out).1
  refine wpAnyH_ready (rs := [5]) (by kernel_rfl) (by simp) ?_
  refine AllReadyH.cons (i := 5) (o := ⟨(some 10), _, _, _, _, _⟩) rfl (fun K hK => ?_) AllReadyH.nil
  go_simp
  refine (told_any w3 c0 c1 c2 c3 lc0 lc1 lc2 lc3).mono ?_
  rintro e w4 ⟨l, rfl, e4, HL, hb4⟩
  refine hK.out _ _ (⟨(hb4.block _ (by omega)).trans hHeld.1, (hb4.block _ (by omega)).trans hHeld.2⟩) (fun hHeld => ?_)
  clear hK K
  try simp only [Act.put, List.setIfInBounds_toArray, List.set_cons_zero, List.set_cons_succ]
  have hbw4 := below_next hbw3 hbw3.size hb4
  have hz4 : Hid (w4.heap[w.heap.size + 1 + 1]? = some (.cells (bv z32).toArray 23 (0, 0))) := (hb4.block _ (by omega)).trans hz3.out
  have HE := vlt (show l = wo (subF (ln a) (ln b)) by rw [e4.out, wo, ← subF_of (show (n4 c0 c1 c2 c3 + ln b) % FP = ln a % FP by rw [← e1.out, ← e2.out]; exact e3.out)])
  clear e1 e2 e3 e4
  have HLS := Lib.hid (bv_size l HL.out)
  refine wpAnyH_ready (rs := [6]) (by kernel_rfl) (by simp) ?_
  refine AllReadyH.cons (i := 6) (o := ⟨none, _, _, _, _, _⟩) rfl (fun K hK => ?_) AllReadyH.nil
  refine step_store_row rfl 23 (.tmp 4) (.tmp 10) rfl (w.heap.size + 1 + 1) (bv l).toArray rfl rfl 23 _ hz4.out (by rw [HLS.out]; kernel_rfl) (by rw [HLS.out]; kernel_rfl) (all_oneCell_toArray (bv_one _)) ?_
  refine hK.out _ _ (⟨(setRow_other _ _ _ _ (by omega)).trans hHeld.1, (setRow_other _ _ _ _ (by omega)).trans hHeld.2⟩) (fun hHeld => ?_)
  clear hK K
  try simp only [Act.put]
  refine wpAnyH_done (by kernel_rfl) ?_ _
  go_wp2_with fail
  refine bodyPost_ret (v := .agg (bv l).toArray) (results_cell_row Tryd.results47 _ _ (w.heap.size + 1 + 1) 23 _ (0, 0) _ rfl (setRow_heap _ _ _ _ _ _ hz4.out) Tryd.underlying23 rfl (by rw [HLS.out]; kernel_rfl)) rfl ⟨l, rfl, HE, HL, below_setRow hbw4 (by omega) _⟩

end Go.Proofs.YtcefdcjpddohaaaDoor
namespace Go.Proofs.YtcefdcjpddohaaaDoor
open Go.RowKit

def byteAt (l : List UInt8) (k : Nat) : Nat := (l.getD k 0).toNat
section
variable {P : Program} {t e n : Nat} (ht : P.underlying t = some (.array n e)) (he : P.underlying e = some (.int .u8)) (hs : (P.info? e).map (·.size) = some 1)
include ht he hs
theorem part_byte (l : List UInt8) (k : Nat) (hk : k < l.length) (w : World) : (part e (bv l).toArray (k * 1)).run P w = .ok (.int .u8 ((byteAt l k : Nat) : Int)) w := by
  obtain ⟨i, hi', hi2⟩ := Option.map_eq_some_iff.1 hs
  have h1 : (bv l)[k]? = some (.int .u8 ((byteAt l k : Nat) : Int)) := by rw [bv_at, List.getElem?_eq_getElem hk]; simp [byteAt, List.getElem?_eq_getElem hk]
  have _ := ht
  simp [part, isAgg, run_underlying he, h1]
theorem eq_bytes (l m : List UInt8) (hl : l.length = n) (hm : m.length = n) (d : Nat) (w : World) : (Op.equalIn (d + 2) t (.agg (bv l).toArray) (.agg (bv m).toArray)).run P w = .ok (decide (l = m)) w := by
  obtain ⟨i, hi', hi2⟩ := Option.map_eq_some_iff.1 hs
  have hfor : ∀ (is : List Nat), (∀ k ∈ is, k < n) → (forIn (m := Sem) is ((none : Option Bool), ()) fun i _ => do
      let a ← part e (bv l).toArray (i * 1)
      let b ← part e (bv m).toArray (i * 1)
      let r ← Op.equalIn (d + 1) e a b
      if (!r) = true then pure (ForInStep.done (some false, ())) else pure (ForInStep.yield (none, ()))).run P w = .ok (if (∀ k ∈ is, byteAt l k = byteAt m k) then none else some false, ()) w := by
    intro is
    induction is with
    | nil => intro _; simp
    | cons k ks ih =>
      intro hk
      have hk1 : k < n := hk k (by simp)
      have h1 := part_byte ht he hs l k (by omega) w
      have h1' := part_byte ht he hs m k (by omega) w
      have h2 := ih (fun j hj => hk j (by simp [hj]))
      rw [List.forIn_cons]
      simp only [Sem.run_bind, h1, h1', Result.andThen_ok, run_equalIn_int w d e .u8 .u8 _ _ he]
      by_cases hkk : byteAt l k = byteAt m k
      · simp only [List.mem_cons, forall_eq_or_imp, hkk, true_and]
        simpa using h2
      · simp [hkk]
        intro h
        exact absurd (by omega : byteAt l k = byteAt m k) hkk
  rw [Op.equalIn]
  have hsz : (sizeOf e).run P w = .ok 1 w := by simp [sizeOf, typeInfo, hi', hi2]
  simp only [Sem.run_bind, run_underlying ht, Result.andThen_ok, hsz]
  have hr := hfor (List.range' 0 n) (fun k hk => by simpa using hk)
  simp only [Std.Legacy.Range.forIn_eq_forIn_range', Std.Legacy.Range.size, Nat.sub_zero, Nat.add_one_sub_one, Nat.div_one, hr]
  have hiff : (∀ k ∈ List.range' 0 n, byteAt l k = byteAt m k) ↔ l = m := by
    constructor
    · intro h
      apply List.ext_getElem (by omega)
      intro k h1 h2
      have := h k (by simp; omega)
      have h3 : (l[k].toNat : Nat) = m[k].toNat := by simpa [byteAt, h1, h2] using this
      exact UInt8.toNat_inj.1 h3
    · rintro rfl _ _; rfl
  by_cases hlm : l = m
  · simp [hlm]
  · rw [if_neg (fun h => hlm (hiff.1 h))]
    simp [hlm]
theorem eql_bytes (l m : List UInt8) (hl : l.length = n) (hm : m.length = n) (w : World) : (binOp .eql t (.agg (bv l).toArray) (.agg (bv m).toArray)).run P w = .ok (.bool (decide (l = m))) w := by
  rw [run_eql_struct, eq_bytes ht he hs l m hl hm 9998 w]
  rfl
theorem neq_bytes (l m : List UInt8) (hl : l.length = n) (hm : m.length = n) (w : World) : (binOp .neq t (.agg (bv l).toArray) (.agg (bv m).toArray)).run P w = .ok (.bool (!decide (l = m))) w := by
  rw [run_neq_struct, eq_bytes ht he hs l m hl hm 9998 w]
  rfl
theorem neq_bytes_same (l : List UInt8) (hl : l.length = n) (w : World) : (binOp .neq t (.agg (bv l).toArray) (.agg (bv l).toArray)).run P w = .ok (.bool false) w := by
  rw [neq_bytes ht he hs l l hl hl w]
  simp
end
end Go.Proofs.YtcefdcjpddohaaaDoor
namespace Go.Proofs.YtcefdcjpddohaaaDoor
open Go.RowKit

/-- The prime, less two. -/
def FP2 : Nat := 57896044618658097711785492504343953926634992332820282019728792003956564819947
theorem fp2_n4 : n4 18446744073709551595 18446744073709551615 18446744073709551615 9223372036854775807 = FP2 := by decide
set_option maxRecDepth 100000 in
set_option maxHeartbeats 1000000 in
theorem inv_any (w : World) (a : List UInt8) (ha : a.length = 32) :
    Calls Tryd.prog 52 #[.agg (bv a).toArray] w fun e w' => ∃ l, e = .returned (.agg (bv l).toArray) ∧ Vlt (l = wo (ln a ^ FP2)) ∧ Hid (l.length = 32) ∧ Below w.heap.size w w' := by
  have hzw := zero_word
  obtain ⟨W, hW, hgA, hgZ, hbW, hsW⟩ := pair_new w (bv a).toArray (bv z32).toArray 23 23
  have HW := Lib.hid hW
  have HA := Lib.hid ha
  have HS := Lib.hid (bv_size a ha)
  have hs : w.heap.size + 1 < W.heap.size := by have := hsW.out; omega
  clear hW ha hsW
  go_enter Tryd.func52, Tryd.ntmps52
  go_upto_region 1 with fail
  rw [HW.out]
  go_wp2_with (with_reducible refine wpList_load_row rfl 23 (.tmp 1) rfl w.heap.size rfl 23 (bv a).toArray (0, 0) _ hgA.out Tryd.underlying23 rfl (by rw [HS.out]; kernel_rfl) ?_)
  refine (numberOf_any W a HA.out).mono ?_
  rintro e w1 ⟨a0, a1, a2, a3, rfl, e1, ⟨la0, la1, la2, la3⟩, hb1⟩
  have hbw1 := below_next hbW hbW.size hb1
  have hz1 : Hid (w1.heap[w.heap.size + 1]? = some (.cells (bv z32).toArray 23 (0, 0))) := (hb1.block _ (by omega)).trans hgZ.out
  have hs1 : w.heap.size + 1 < w1.heap.size := (Array.getElem?_eq_some_iff.1 hz1.out).1
  go_wp2_with fail
  refine (beneath_255 w1).mono ?_
  rintro e w2 ⟨rfl, hb2⟩
  have hbw2 := below_next hbw1 hbw1.size hb2
  have hz2 : Hid (w2.heap[w.heap.size + 1]? = some (.cells (bv z32).toArray 23 (0, 0))) := (hb2.block _ (by omega)).trans hz1.out
  have hs2 : w.heap.size + 1 < w2.heap.size := (Array.getElem?_eq_some_iff.1 hz2.out).1
  go_wp2_with fail
  refine (power_any w2 a0 a1 a2 a3 18446744073709551595 18446744073709551615 18446744073709551615 9223372036854775807 la0 la1 la2 la3 (by decide) (by decide) (by decide) (by decide)).mono ?_
  rintro e w3 ⟨c0, c1, c2, c3, rfl, e2, ⟨lc0, lc1, lc2, lc3⟩, hb3⟩
  have hbw3 := below_next hbw2 hbw2.size hb3
  have hz3 : Hid (w3.heap[w.heap.size + 1]? = some (.cells (bv z32).toArray 23 (0, 0))) := (hb3.block _ (by omega)).trans hz2.out
  have hs3 : w.heap.size + 1 < w3.heap.size := (Array.getElem?_eq_some_iff.1 hz3.out).1
  go_wp2_with fail
  refine (told_any w3 c0 c1 c2 c3 lc0 lc1 lc2 lc3).mono ?_
  rintro e w4 ⟨l, rfl, e3, HL, hb4⟩
  have HE := vlt (show l = wo (ln a ^ FP2) by rw [e3.out, wo, e2.out, e1.out, fp2_n4])
  clear e1 e2 e3
  have hbw4 := below_next hbw3 hbw3.size hb4
  have hz4 : Hid (w4.heap[w.heap.size + 1]? = some (.cells (bv z32).toArray 23 (0, 0))) := (hb4.block _ (by omega)).trans hz3.out
  have HLS := Lib.hid (bv_size l HL.out)
  go_wp2_with (with_reducible refine wpList_store_row rfl 23 (.tmp 2) (.tmp 7) rfl (w.heap.size + 1) (bv l).toArray rfl rfl 23 _ hz4.out (by rw [HLS.out]; kernel_rfl) (by rw [HLS.out]; kernel_rfl) (all_oneCell_toArray (bv_one _)) ?_)
  refine bodyPost_ret (v := .agg (bv l).toArray) (results_cell_row Tryd.results52 _ _ (w.heap.size + 1) 23 _ (0, 0) _ rfl (setRow_heap _ _ _ _ _ _ hz4.out) Tryd.underlying23 rfl (by rw [HLS.out]; kernel_rfl)) rfl ⟨l, rfl, HE, HL, below_setRow hbw4 (by omega) _⟩

theorem neg64 (m : Nat) (hm : m < 18446744073709551616) : IntKind.u64.wrap (-IntKind.u64.wrap (-(m : Int))) = (m : Int) := by
  simp [IntKind.wrap, IntKind.bits, IntKind.signed]
  omega
theorem zero_n4v : n4 0 0 0 0 = 0 := by decide
theorem one_n4v (m : Nat) : n4 m 0 0 0 = m := by simp only [n4]; omega
set_option maxRecDepth 100000 in
set_option maxHeartbeats 1000000 in
theorem good_any (w : World) (a : List UInt8) (ha : a.length = 32) :
    Calls Tryd.prog 45 #[.agg (bv a).toArray] w fun e w' => ∃ b, e = .returned (.bool b) ∧ Vlt (b = decide (wo (ln a) = a)) ∧ Below w.heap.size w w' := by
  obtain ⟨W, hW, hgA, hbW, hsW⟩ := one_new w (bv a).toArray 23
  have HW := Lib.hid hW
  have HA := Lib.hid ha
  have HAS := Lib.hid (show (bv a).length = 32 by rw [bv_len, ha])
  have hs : w.heap.size < W.heap.size := by have := hsW.out; omega
  clear hW ha hsW
  go_enter Tryd.func45, Tryd.ntmps45
  go_upto_region 1 with fail
  rw [HW.out]
  refine wp_region_held_drew (S := (fun W' => W'.heap[w.heap.size]? = some (.cells (bv a).toArray 23 (0, 0)))) (by kernel_rfl) (hgA.out) (fun hHeld => ?_)
  refine wpAnyH_take (i := 0) (oi := ⟨(some 3), _, _, _, _, _⟩) (v := _) rfl (by kernel_rfl) (by kernel_rfl) (by kernel_rfl) (fun _ _ _ h => h) (yieldsIf_load_mid (by rfl) _ _ rfl w.heap.size 0 rfl (bv a) _ (fun W' hW' => range_row hW') (Tryd.underlying23) (rfl) (by rw [HAS.out]; kernel_rfl)) hHeld ?_
  try simp only [Act.put, List.setIfInBounds_toArray, List.set_cons_zero, List.set_cons_succ]
  refine wpAnyH_take (i := 2) (oi := ⟨(some 5), _, _, _, _, _⟩) (v := _) rfl (by kernel_rfl) (by kernel_rfl) (by kernel_rfl) (fun _ _ _ h => h) (yieldsIf_load_mid (by rfl) _ _ rfl w.heap.size 0 rfl (bv a) _ (fun W' hW' => range_row hW') (Tryd.underlying23) (rfl) (by rw [HAS.out]; kernel_rfl)) hHeld ?_
  try simp only [Act.put, List.setIfInBounds_toArray, List.set_cons_zero, List.set_cons_succ]
  refine wpAnyH_ready (rs := [1]) (by kernel_rfl) (by simp) ?_
  refine AllReadyH.cons (i := 1) (o := ⟨(some 4), _, _, _, _, _⟩) rfl (fun K hK => ?_) AllReadyH.nil
  go_simp
  refine (norm_any _ a HA.out).mono ?_
  rintro e w1 ⟨l, rfl, e1, HL, hb1d⟩
  have hb1 : Below W.heap.size W w1 := below_undrew hb1d
  refine hK.out _ _ ((hb1.block _ hs).trans hHeld) (fun hHeld => ?_)
  clear hK K
  try simp only [Act.put, List.setIfInBounds_toArray, List.set_cons_zero, List.set_cons_succ]
  have heq := eql_bytes (P := Tryd.prog) Tryd.underlying23 Tryd.underlying5 Tryd.sizeByte l a HL.out HA.out
  have HE := vlt (show decide (l = a) = decide (wo (ln a) = a) by rw [e1.out])
  generalize decide (l = a) = b at *
  refine wpAnyH_take (i := 3) (oi := ⟨(some 6), _, _, _, _, _⟩) (v := ?vq1_0) rfl (by kernel_rfl) (by kernel_rfl) (by kernel_rfl) (fun _ _ _ h => h) (Or.inl ⟨by rfl, ?yq1_0⟩) hHeld ?_
  case yq1_0 => (intro W0 hSw; go_simp; try with_reducible rfl)
  try simp only [Act.put, List.setIfInBounds_toArray, List.set_cons_zero, List.set_cons_succ]
  refine wpAnyH_take (i := 4) (oi := ⟨(some 2), _, _, _, _, _⟩) (v := ?vq1_1) rfl (by kernel_rfl) (by kernel_rfl) (by kernel_rfl) (fun _ _ _ h => h) (Or.inl ⟨by rfl, ?yq1_1⟩) hHeld ?_
  case yq1_1 => (intro W0 hSw; go_simp; try with_reducible rfl)
  try simp only [Act.put, List.setIfInBounds_toArray, List.set_cons_zero, List.set_cons_succ]
  refine wpAnyH_done (by kernel_rfl) ?_ _
  go_wp2
  go_ret
  exact ⟨b, rfl, HE, below_next hbW hbW.size hb1⟩
end Go.Proofs.YtcefdcjpddohaaaDoor
namespace Go.Proofs.YtcefdcjpddohaaaDoor
open Go.RowKit

theorem ln_wk (n : Nat) (h : n < FP) : ln (wk n) = n := by rw [wk, ln_le, Nat.mod_eq_of_lt (Nat.lt_trans h (by decide))]
theorem wk_wo (n : Nat) (h : n < FP) : wk n = wo n := by rw [wk, wo, Nat.mod_eq_of_lt h]
theorem const_word (n : Nat) (h : n < FP) : ∃ T, T = wk n ∧ Hid (T.length = 32) ∧ Vlt (ln T = n) ∧ Vlt (T = wo n) := ⟨_, rfl, wk_len n, vlt (ln_wk n h), vlt (wk_wo n h)⟩
/-- Powers modulo, by squaring. -/
def pmod (p x : Nat) : Nat → Nat → Nat
  | 0, _ => 1 % p
  | f + 1, e => if e % 2 = 1 then pmod p (x * x % p) f (e / 2) * x % p else pmod p (x * x % p) f (e / 2)
theorem pmod_ok (p : Nat) : ∀ (f x e : Nat), e < 2 ^ f → pmod p x f e = x ^ e % p
  | 0, x, e, h => by
    obtain rfl : e = 0 := by simpa using h
    rfl
  | f + 1, x, e, h => by
    have ih := pmod_ok p f (x * x % p) (e / 2) (by rw [Nat.pow_succ] at h; omega)
    have hs : (x * x % p) ^ (e / 2) % p = x ^ (2 * (e / 2)) % p := by rw [← Nat.pow_mod, Nat.pow_mul, Nat.pow_two]
    rw [pmod, ih, hs]
    by_cases h1 : e % 2 = 1
    · rw [if_pos h1, Nat.mod_mul_mod, ← Nat.pow_succ]
      congr 2
      omega
    · rw [if_neg h1]
      congr 2
      omega
theorem two_inv : (2 * (2 ^ FP2 % FP)) % FP = 1 % FP := by
  have h := pmod_ok FP 256 2 FP2 (by decide)
  rw [← h]
  decide +kernel
theorem z32_wo : z32 = wo 0 := by decide +kernel
theorem good_wo (N : Nat) : decide (wo (ln (wo N)) = wo N) = true := by rw [ln_wo, wo_of (Nat.mod_mod N FP)]; simp
theorem of_neg1 : (ofF (-1) + 1) % FP = 0 % FP := by decide +kernel
end Go.Proofs.YtcefdcjpddohaaaDoor
