/-
  Contract of field's times. Conditions: none.
-/
import Derived.Test.YtpnodegmegpooaaDoorFdC
import Derived.Test.YtpnodegmegpooaaDoorReg
namespace Go.Proofs.YtpnodegmegpooaaDoor
open Go.RowKit

theorem row_next {w w' : World} {g : Nat} {cs : Array Value} {t : TypeId} (h : Hid (w.heap[g]? = some (.cells cs t (0, 0)))) (hb : Below w.heap.size w w') : Hid (w'.heap[g]? = some (.cells cs t (0, 0))) :=
  (hb.block _ (Array.getElem?_eq_some_iff.1 h.out).1).trans h.out
section
variable {ops : Array Oper} {o : Oper} {a : Act} {w : World} {K : Act → World → Prop} {Q : Exit → Act → World → Prop} {E : Prop}
/-- A new number's variable, as a step of a region that draws its order. -/
theorem step_new (hw : Region.wanted o (yielded ops a.tmps) = true) (ho : o.op = .alloc 35)
    (h : ∀ p w', Hid (p = w.heap.size) → Hid (w'.heap[p]? = some (.cells (u64v z4).toArray 35 (0, 0))) → Below w.heap.size w w' → p < w'.heap.size → K (a.put o.dst (.pointer (some ⟨p, 0, none⟩))) w') : if Region.wanted o (yielded ops a.tmps) = true then Oper.wp Tryd.prog o a w K Q else E := by
  rw [if_pos hw]
  have hzn := zero_n4
  have h1 := h w.heap.size _ rfl (heap_alloc_new w (.cells (u64v z4).toArray 35)) ((Below.refl _ _).alloc (Nat.le_refl _) _) (by simp)
  unfold Oper.wp
  simp only [execOp, ho]
  clear h
  go_simp
  exact h1
end

theorem prod_rows (A a0 a1 a2 a3 : Nat) : A * n4 a0 a1 a2 a3 = a0 * A + 18446744073709551616 * (a1 * A) + 340282366920938463463374607431768211456 * (a2 * A) + 6277101735386680763835789423207666416102355444464034512896 * (a3 * A) := by
  simp only [n4]; grind
theorem times_sum (A b0 b1 b2 b3 r00 r01 r02 r03 o0 r10 r11 r12 r13 o1 r20 r21 r22 r23 o2 r30 r31 r32 r33 o3 F o4 C : Nat)
    (h0 : n4 r00 r01 r02 r03 + 115792089237316195423570985008687907853269984665640564039457584007913129639936 * o0 = b0 * A + n4 0 0 0 0)
    (h1 : n4 r10 r11 r12 r13 + 115792089237316195423570985008687907853269984665640564039457584007913129639936 * o1 = b1 * A + n4 r01 r02 r03 o0)
    (h2 : n4 r20 r21 r22 r23 + 115792089237316195423570985008687907853269984665640564039457584007913129639936 * o2 = b2 * A + n4 r11 r12 r13 o1)
    (h3 : n4 r30 r31 r32 r33 + 115792089237316195423570985008687907853269984665640564039457584007913129639936 * o3 = b3 * A + n4 r21 r22 r23 o2)
    (h4 : F + 115792089237316195423570985008687907853269984665640564039457584007913129639936 * o4 = 38 * n4 r31 r32 r33 o3 + n4 r00 r10 r20 r30)
    (h5 : C % FP = (F + 115792089237316195423570985008687907853269984665640564039457584007913129639936 * o4) % FP) :
    C % FP = (A * n4 b0 b1 b2 b3) % FP := by
  rw [h5, h4]
  refine (fp_mod (q := 2 * n4 r31 r32 r33 o3) ?_).symm
  rw [prod_rows, fp_eq]
  generalize b0 * A = p0 at *
  generalize b1 * A = p1 at *
  generalize b2 * A = p2 at *
  generalize b3 * A = p3 at *
  clear h5 h4
  simp only [n4] at *
  omega
theorem times_over (F o4 a b c d e f g h : Nat) (ha : a < B64) (hb : b < B64) (hc : c < B64) (hd : d < B64) (he : e < B64) (hf : f < B64) (hg : g < B64) (hh : h < B64)
    (h4 : F + 115792089237316195423570985008687907853269984665640564039457584007913129639936 * o4 = 38 * n4 a b c d + n4 e f g h) : o4 ≤ 38 := by
  simp only [n4, B64] at *
  omega

set_option maxRecDepth 100000 in
set_option maxHeartbeats 2000000 in
theorem times_any (w : World) (a0 a1 a2 a3 b0 b1 b2 b3 : Nat) (ha0 : a0 < B64) (ha1 : a1 < B64) (ha2 : a2 < B64) (ha3 : a3 < B64) (hb0 : b0 < B64) (hb1 : b1 < B64) (hb2 : b2 < B64) (hb3 : b3 < B64) :
    Calls Tryd.prog 30 #[.agg (u64v [a0, a1, a2, a3]).toArray, .agg (u64v [b0, b1, b2, b3]).toArray] w fun e w' => ∃ c0 c1 c2 c3 : Nat, e = .returned (.agg (u64v [c0, c1, c2, c3]).toArray) ∧
      Vlt (n4 c0 c1 c2 c3 % FP = (n4 a0 a1 a2 a3 * n4 b0 b1 b2 b3) % FP) ∧ (c0 < B64 ∧ c1 < B64 ∧ c2 < B64 ∧ c3 < B64) ∧ Below w.heap.size w w' := by
  have hzn := zero_n4
  obtain ⟨W, hW, hgA, hgB, hgZ, hbW, hsW⟩ := three_new w (u64v [a0, a1, a2, a3]).toArray (u64v [b0, b1, b2, b3]).toArray (u64v z4).toArray 35 35 35
  have HW := Lib.hid hW
  have hs0 : w.heap.size + 2 < W.heap.size := by have := hsW.out; omega
  clear hW hsW
  have cb : W.cell? ⟨w.heap.size + 1, 0, none⟩ = some (.int .u64 (b0 : Int)) := long_at hgB.out 0 (by simp)
  go_enter Tryd.func30, Tryd.ntmps30
  go_upto_region 1 with fail
  rw [HW.out]
  go_wp2_with (with_reducible refine wpList_load_row rfl 35 (.tmp 2) rfl w.heap.size rfl 35 (u64v [a0, a1, a2, a3]).toArray (0, 0) _ hgA.out Tryd.underlying35 rfl (by kernel_rfl) ?_)
  refine (row_any W b0 a0 a1 a2 a3 0 0 0 0 hb0 ha0 ha1 ha2 ha3 (by decide) (by decide) (by decide) (by decide)).mono ?_
  rintro e v0 ⟨r00, r01, r02, r03, o0, rfl, e0, ⟨l00, l01, l02, l03⟩, lo0, hv0⟩
  have hgAv0 : Hid (v0.heap[w.heap.size]? = some (.cells (u64v [a0, a1, a2, a3]).toArray 35 (0, 0))) := (hv0.block _ (by omega)).trans hgA.out
  have hgBv0 : Hid (v0.heap[w.heap.size + 1]? = some (.cells (u64v [b0, b1, b2, b3]).toArray 35 (0, 0))) := (hv0.block _ (by omega)).trans hgB.out
  have hgZv0 : Hid (v0.heap[w.heap.size + 2]? = some (.cells (u64v z4).toArray 35 (0, 0))) := (hv0.block _ (by omega)).trans hgZ.out
  have hbv0 := below_next hbW (by omega) hv0
  have hsv0 : w.heap.size + 2 < v0.heap.size := (Array.getElem?_eq_some_iff.1 hgZv0.out).1
  clear hgA hgB hgZ hbW hs0 cb hv0
  go_upto_region 2 with ((with_reducible refine wpList_store_row rfl 35 (.tmp 5) (.tmp 18) rfl v0.heap.size (u64v [r00, r01, r02, r03]).toArray rfl rfl 35 _ (heap_alloc_new _ _) (by kernel_rfl) (by kernel_rfl) (all_oneCell_toArray (u64v_one _)) ?_); rw [World.setRow_alloc_new])
  obtain ⟨u0, hu0⟩ : ∃ u0, u0 = v0.alloc (.cells (u64v [r00, r01, r02, r03]).toArray 35) := ⟨_, rfl⟩
  rw [← hu0]
  have hgAu0 : Hid (u0.heap[w.heap.size]? = some (.cells (u64v [a0, a1, a2, a3]).toArray 35 (0, 0))) := by rw [hu0]; exact (Below.heap_alloc _ _ _ (by omega)).trans hgAv0.out
  have hgBu0 : Hid (u0.heap[w.heap.size + 1]? = some (.cells (u64v [b0, b1, b2, b3]).toArray 35 (0, 0))) := by rw [hu0]; exact (Below.heap_alloc _ _ _ (by omega)).trans hgBv0.out
  have hgZu0 : Hid (u0.heap[w.heap.size + 2]? = some (.cells (u64v z4).toArray 35 (0, 0))) := by rw [hu0]; exact (Below.heap_alloc _ _ _ (by omega)).trans hgZv0.out
  have hgR0 : Hid (u0.heap[v0.heap.size]? = some (.cells (u64v [r00, r01, r02, r03]).toArray 35 (0, 0))) := by rw [hu0]; exact heap_alloc_new _ _
  have hbu0 : Below w.heap.size w u0 := by rw [hu0]; exact hbv0.alloc hbv0.size _
  obtain ⟨R, hR⟩ : ∃ R, R = v0.heap.size := ⟨_, rfl⟩
  rw [← hR] at hgR0 hsv0 ⊢
  have hsu0 : R < u0.heap.size := (Array.getElem?_eq_some_iff.1 hgR0.out).1
  clear hR hu0 hgAv0 hgBv0 hgZv0 hbv0
  have cr0 : u0.cell? ⟨R, 0, none⟩ = some (.int .u64 (r00 : Int)) := long_at hgR0.out 0 (by simp)
  go_upto_region 3 with fail
  clear cr0
  have cb : u0.cell? ⟨w.heap.size + 1, 1, none⟩ = some (.int .u64 (b1 : Int)) := long_at hgBu0.out 1 (by simp)
  have cr0 : u0.cell? ⟨R, 0, none⟩ = some (.int .u64 (r00 : Int)) := long_at hgR0.out 0 (by simp)
  have cr1 : u0.cell? ⟨R, 1, none⟩ = some (.int .u64 (r01 : Int)) := long_at hgR0.out 1 (by simp)
  have cr2 : u0.cell? ⟨R, 2, none⟩ = some (.int .u64 (r02 : Int)) := long_at hgR0.out 2 (by simp)
  have cr3 : u0.cell? ⟨R, 3, none⟩ = some (.int .u64 (r03 : Int)) := long_at hgR0.out 3 (by simp)
  go_wp2_with (with_reducible refine wpList_load_row rfl 35 (.tmp 2) rfl w.heap.size rfl 35 (u64v [a0, a1, a2, a3]).toArray (0, 0) _ hgAu0.out Tryd.underlying35 rfl (by kernel_rfl) ?_)
  refine (row_any u0 b1 a0 a1 a2 a3 r01 r02 r03 o0 hb1 ha0 ha1 ha2 ha3 l01 l02 l03 lo0).mono ?_
  rintro e v1 ⟨r10, r11, r12, r13, o1, rfl, e1, ⟨l10, l11, l12, l13⟩, lo1, hv1⟩
  have hgAv1 : Hid (v1.heap[w.heap.size]? = some (.cells (u64v [a0, a1, a2, a3]).toArray 35 (0, 0))) := (hv1.block _ (by omega)).trans hgAu0.out
  have hgBv1 : Hid (v1.heap[w.heap.size + 1]? = some (.cells (u64v [b0, b1, b2, b3]).toArray 35 (0, 0))) := (hv1.block _ (by omega)).trans hgBu0.out
  have hgZv1 : Hid (v1.heap[w.heap.size + 2]? = some (.cells (u64v z4).toArray 35 (0, 0))) := (hv1.block _ (by omega)).trans hgZu0.out
  have hgRv : Hid (v1.heap[R]? = some (.cells (u64v [r00, r01, r02, r03]).toArray 35 (0, 0))) := (hv1.block _ (by omega)).trans hgR0.out
  have hbv1 := below_next hbu0 (by omega) hv1
  clear hgAu0 hgBu0 hgZu0 hgR0 hbu0 cb cr0 cr1 cr2 cr3 hv1
  go_upto_region 4 with (with_reducible refine wpList_store_row rfl 35 (.tmp 5) (.tmp 35) rfl R (u64v [r10, r11, r12, r13]).toArray rfl rfl 35 _ hgRv.out (by kernel_rfl) (by kernel_rfl) (all_oneCell_toArray (u64v_one _)) ?_)
  obtain ⟨u1, hu1⟩ : ∃ u1, u1 = v1.setRow R (u64v [r10, r11, r12, r13]).toArray := ⟨_, rfl⟩
  rw [← hu1]
  have hgAu1 : Hid (u1.heap[w.heap.size]? = some (.cells (u64v [a0, a1, a2, a3]).toArray 35 (0, 0))) := by rw [hu1]; exact (setRow_other _ _ _ _ (by omega)).trans hgAv1.out
  have hgBu1 : Hid (u1.heap[w.heap.size + 1]? = some (.cells (u64v [b0, b1, b2, b3]).toArray 35 (0, 0))) := by rw [hu1]; exact (setRow_other _ _ _ _ (by omega)).trans hgBv1.out
  have hgZu1 : Hid (u1.heap[w.heap.size + 2]? = some (.cells (u64v z4).toArray 35 (0, 0))) := by rw [hu1]; exact (setRow_other _ _ _ _ (by omega)).trans hgZv1.out
  have hgR1 : Hid (u1.heap[R]? = some (.cells (u64v [r10, r11, r12, r13]).toArray 35 (0, 0))) := by rw [hu1]; exact setRow_heap _ _ _ _ _ _ hgRv.out
  have hbu1 : Below w.heap.size w u1 := by rw [hu1]; exact below_setRow hbv1 (by omega) _
  have hsu1 : R < u1.heap.size := (Array.getElem?_eq_some_iff.1 hgR1.out).1
  clear hu1 hgAv1 hgBv1 hgZv1 hgRv hbv1 hsu0
  have cr0 : u1.cell? ⟨R, 0, none⟩ = some (.int .u64 (r10 : Int)) := long_at hgR1.out 0 (by simp)
  go_upto_region 5 with fail
  clear cr0
  have cb : u1.cell? ⟨w.heap.size + 1, 2, none⟩ = some (.int .u64 (b2 : Int)) := long_at hgBu1.out 2 (by simp)
  have cr0 : u1.cell? ⟨R, 0, none⟩ = some (.int .u64 (r10 : Int)) := long_at hgR1.out 0 (by simp)
  have cr1 : u1.cell? ⟨R, 1, none⟩ = some (.int .u64 (r11 : Int)) := long_at hgR1.out 1 (by simp)
  have cr2 : u1.cell? ⟨R, 2, none⟩ = some (.int .u64 (r12 : Int)) := long_at hgR1.out 2 (by simp)
  have cr3 : u1.cell? ⟨R, 3, none⟩ = some (.int .u64 (r13 : Int)) := long_at hgR1.out 3 (by simp)
  go_wp2_with (with_reducible refine wpList_load_row rfl 35 (.tmp 2) rfl w.heap.size rfl 35 (u64v [a0, a1, a2, a3]).toArray (0, 0) _ hgAu1.out Tryd.underlying35 rfl (by kernel_rfl) ?_)
  refine (row_any u1 b2 a0 a1 a2 a3 r11 r12 r13 o1 hb2 ha0 ha1 ha2 ha3 l11 l12 l13 lo1).mono ?_
  rintro e v2 ⟨r20, r21, r22, r23, o2, rfl, e2, ⟨l20, l21, l22, l23⟩, lo2, hv2⟩
  have hgAv2 : Hid (v2.heap[w.heap.size]? = some (.cells (u64v [a0, a1, a2, a3]).toArray 35 (0, 0))) := (hv2.block _ (by omega)).trans hgAu1.out
  have hgBv2 : Hid (v2.heap[w.heap.size + 1]? = some (.cells (u64v [b0, b1, b2, b3]).toArray 35 (0, 0))) := (hv2.block _ (by omega)).trans hgBu1.out
  have hgZv2 : Hid (v2.heap[w.heap.size + 2]? = some (.cells (u64v z4).toArray 35 (0, 0))) := (hv2.block _ (by omega)).trans hgZu1.out
  have hgRv : Hid (v2.heap[R]? = some (.cells (u64v [r10, r11, r12, r13]).toArray 35 (0, 0))) := (hv2.block _ (by omega)).trans hgR1.out
  have hbv2 := below_next hbu1 (by omega) hv2
  clear hgAu1 hgBu1 hgZu1 hgR1 hbu1 cb cr0 cr1 cr2 cr3 hv2
  go_upto_region 6 with (with_reducible refine wpList_store_row rfl 35 (.tmp 5) (.tmp 52) rfl R (u64v [r20, r21, r22, r23]).toArray rfl rfl 35 _ hgRv.out (by kernel_rfl) (by kernel_rfl) (all_oneCell_toArray (u64v_one _)) ?_)
  obtain ⟨u2, hu2⟩ : ∃ u2, u2 = v2.setRow R (u64v [r20, r21, r22, r23]).toArray := ⟨_, rfl⟩
  rw [← hu2]
  have hgAu2 : Hid (u2.heap[w.heap.size]? = some (.cells (u64v [a0, a1, a2, a3]).toArray 35 (0, 0))) := by rw [hu2]; exact (setRow_other _ _ _ _ (by omega)).trans hgAv2.out
  have hgBu2 : Hid (u2.heap[w.heap.size + 1]? = some (.cells (u64v [b0, b1, b2, b3]).toArray 35 (0, 0))) := by rw [hu2]; exact (setRow_other _ _ _ _ (by omega)).trans hgBv2.out
  have hgZu2 : Hid (u2.heap[w.heap.size + 2]? = some (.cells (u64v z4).toArray 35 (0, 0))) := by rw [hu2]; exact (setRow_other _ _ _ _ (by omega)).trans hgZv2.out
  have hgR2 : Hid (u2.heap[R]? = some (.cells (u64v [r20, r21, r22, r23]).toArray 35 (0, 0))) := by rw [hu2]; exact setRow_heap _ _ _ _ _ _ hgRv.out
  have hbu2 : Below w.heap.size w u2 := by rw [hu2]; exact below_setRow hbv2 (by omega) _
  have hsu2 : R < u2.heap.size := (Array.getElem?_eq_some_iff.1 hgR2.out).1
  clear hu2 hgAv2 hgBv2 hgZv2 hgRv hbv2 hsu1
  have cr0 : u2.cell? ⟨R, 0, none⟩ = some (.int .u64 (r20 : Int)) := long_at hgR2.out 0 (by simp)
  go_upto_region 7 with fail
  clear cr0
  have cb : u2.cell? ⟨w.heap.size + 1, 3, none⟩ = some (.int .u64 (b3 : Int)) := long_at hgBu2.out 3 (by simp)
  have cr0 : u2.cell? ⟨R, 0, none⟩ = some (.int .u64 (r20 : Int)) := long_at hgR2.out 0 (by simp)
  have cr1 : u2.cell? ⟨R, 1, none⟩ = some (.int .u64 (r21 : Int)) := long_at hgR2.out 1 (by simp)
  have cr2 : u2.cell? ⟨R, 2, none⟩ = some (.int .u64 (r22 : Int)) := long_at hgR2.out 2 (by simp)
  have cr3 : u2.cell? ⟨R, 3, none⟩ = some (.int .u64 (r23 : Int)) := long_at hgR2.out 3 (by simp)
  go_wp2_with (with_reducible refine wpList_load_row rfl 35 (.tmp 2) rfl w.heap.size rfl 35 (u64v [a0, a1, a2, a3]).toArray (0, 0) _ hgAu2.out Tryd.underlying35 rfl (by kernel_rfl) ?_)
  refine (row_any u2 b3 a0 a1 a2 a3 r21 r22 r23 o2 hb3 ha0 ha1 ha2 ha3 l21 l22 l23 lo2).mono ?_
  rintro e v3 ⟨r30, r31, r32, r33, o3, rfl, e3, ⟨l30, l31, l32, l33⟩, lo3, hv3⟩
  have hgAv3 : Hid (v3.heap[w.heap.size]? = some (.cells (u64v [a0, a1, a2, a3]).toArray 35 (0, 0))) := (hv3.block _ (by omega)).trans hgAu2.out
  have hgBv3 : Hid (v3.heap[w.heap.size + 1]? = some (.cells (u64v [b0, b1, b2, b3]).toArray 35 (0, 0))) := (hv3.block _ (by omega)).trans hgBu2.out
  have hgZv3 : Hid (v3.heap[w.heap.size + 2]? = some (.cells (u64v z4).toArray 35 (0, 0))) := (hv3.block _ (by omega)).trans hgZu2.out
  have hgRv : Hid (v3.heap[R]? = some (.cells (u64v [r20, r21, r22, r23]).toArray 35 (0, 0))) := (hv3.block _ (by omega)).trans hgR2.out
  have hbv3 := below_next hbu2 (by omega) hv3
  clear hgAu2 hgBu2 hgZu2 hgR2 hbu2 cb cr0 cr1 cr2 cr3 hv3
  go_upto_region 8 with (with_reducible refine wpList_store_row rfl 35 (.tmp 5) (.tmp 69) rfl R (u64v [r30, r31, r32, r33]).toArray rfl rfl 35 _ hgRv.out (by kernel_rfl) (by kernel_rfl) (all_oneCell_toArray (u64v_one _)) ?_)
  obtain ⟨u3, hu3⟩ : ∃ u3, u3 = v3.setRow R (u64v [r30, r31, r32, r33]).toArray := ⟨_, rfl⟩
  rw [← hu3]
  have hgAu3 : Hid (u3.heap[w.heap.size]? = some (.cells (u64v [a0, a1, a2, a3]).toArray 35 (0, 0))) := by rw [hu3]; exact (setRow_other _ _ _ _ (by omega)).trans hgAv3.out
  have hgBu3 : Hid (u3.heap[w.heap.size + 1]? = some (.cells (u64v [b0, b1, b2, b3]).toArray 35 (0, 0))) := by rw [hu3]; exact (setRow_other _ _ _ _ (by omega)).trans hgBv3.out
  have hgZu3 : Hid (u3.heap[w.heap.size + 2]? = some (.cells (u64v z4).toArray 35 (0, 0))) := by rw [hu3]; exact (setRow_other _ _ _ _ (by omega)).trans hgZv3.out
  have hgR3 : Hid (u3.heap[R]? = some (.cells (u64v [r30, r31, r32, r33]).toArray 35 (0, 0))) := by rw [hu3]; exact setRow_heap _ _ _ _ _ _ hgRv.out
  have hbu3 : Below w.heap.size w u3 := by rw [hu3]; exact below_setRow hbv3 (by omega) _
  have hsu3 : R < u3.heap.size := (Array.getElem?_eq_some_iff.1 hgR3.out).1
  clear hu3 hgAv3 hgBv3 hgZv3 hgRv hbv3 hsu2
  have cr0 : u3.cell? ⟨R, 0, none⟩ = some (.int .u64 (r30 : Int)) := long_at hgR3.out 0 (by simp)
  have cr1 : u3.cell? ⟨R, 1, none⟩ = some (.int .u64 (r31 : Int)) := long_at hgR3.out 1 (by simp)
  have cr2 : u3.cell? ⟨R, 2, none⟩ = some (.int .u64 (r32 : Int)) := long_at hgR3.out 2 (by simp)
  have cr3 : u3.cell? ⟨R, 3, none⟩ = some (.int .u64 (r33 : Int)) := long_at hgR3.out 3 (by simp)
  have hold : ∀ W, Below u3.heap.size u3 W → (W.cell? ⟨R, 0, none⟩ = some (.int .u64 (r30 : Int)) ∧ W.cell? ⟨R, 1, none⟩ = some (.int .u64 (r31 : Int)) ∧ W.cell? ⟨R, 2, none⟩ = some (.int .u64 (r32 : Int)) ∧ W.cell? ⟨R, 3, none⟩ = some (.int .u64 (r33 : Int)) ∧ Below u3.heap.size u3 W) :=
    fun W h => ⟨(h.cell hsu3).trans cr0, (h.cell hsu3).trans cr1, (h.cell hsu3).trans cr2, (h.cell hsu3).trans cr3, h⟩
  refine wp_region_held_drew (S := (fun W => W.cell? ⟨R, 0, none⟩ = some (.int .u64 (r30 : Int)) ∧ W.cell? ⟨R, 1, none⟩ = some (.int .u64 (r31 : Int)) ∧ W.cell? ⟨R, 2, none⟩ = some (.int .u64 (r32 : Int)) ∧ W.cell? ⟨R, 3, none⟩ = some (.int .u64 (r33 : Int)) ∧ Below u3.heap.size u3 W)) (by kernel_rfl) (hold _ (Below.refl _ _).drew) (fun hHeld => ?_)
  refine wpAnyH_take (i := 0) (oi := ⟨(some 71), _, _, _, _, _⟩) (v := ?vq1_0) rfl (by kernel_rfl) (by kernel_rfl) (by kernel_rfl) (fun _ _ _ h => h) (Or.inl ⟨by rfl, ?yq1_0⟩) hHeld ?_
  case yq1_0 => (intro W0 hSw; go_simp; try with_reducible rfl)
  try simp only [Act.put, List.setIfInBounds_toArray, List.set_cons_zero, List.set_cons_succ]
  refine wpAnyH_take (i := 1) (oi := ⟨(some 72), _, _, _, _, _⟩) (v := ?vq1_1) rfl (by kernel_rfl) (by kernel_rfl) (by kernel_rfl) (fun _ _ _ h => h) (Or.inl ⟨by rfl, ?yq1_1⟩) hHeld ?_
  case yq1_1 => (intro W0 hSw; go_simp; try with_reducible rfl)
  try simp only [Act.put, List.setIfInBounds_toArray, List.set_cons_zero, List.set_cons_succ]
  refine wpAnyH_take (i := 2) (oi := ⟨(some 73), _, _, _, _, _⟩) (v := ?vq1_2) rfl (by kernel_rfl) (by kernel_rfl) (by kernel_rfl) (fun _ _ _ h => h) (Or.inl ⟨by rfl, ?yq1_2⟩) hHeld ?_
  case yq1_2 => (intro W0 hSw; go_simp; try with_reducible rfl)
  try simp only [Act.put, List.setIfInBounds_toArray, List.set_cons_zero, List.set_cons_succ]
  refine wpAnyH_take (i := 3) (oi := ⟨(some 74), _, _, _, _, _⟩) (v := ?vq1_3) rfl (by kernel_rfl) (by kernel_rfl) (by kernel_rfl) (fun _ _ _ h => h) (Or.inl ⟨by rfl, ?yq1_3⟩) hHeld ?_
  case yq1_3 => (intro W0 hSw; go_simp; try with_reducible rfl)
  try simp only [Act.put, List.setIfInBounds_toArray, List.set_cons_zero, List.set_cons_succ]
  refine wpAnyH_take (i := 4) (oi := ⟨(some 75), _, _, _, _, _⟩) (v := ?vq1_4) rfl (by kernel_rfl) (by kernel_rfl) (by kernel_rfl) (fun _ _ _ h => h) (Or.inl ⟨by rfl, ?yq1_4⟩) hHeld ?_
  case yq1_4 => (intro W0 hSw; go_simp; try with_reducible rfl)
  try simp only [Act.put, List.setIfInBounds_toArray, List.set_cons_zero, List.set_cons_succ]
  refine wpAnyH_take (i := 5) (oi := ⟨(some 76), _, _, _, _, _⟩) (v := ?vq1_5) rfl (by kernel_rfl) (by kernel_rfl) (by kernel_rfl) (fun _ _ _ h => h) (Or.inl ⟨by rfl, ?yq1_5⟩) hHeld ?_
  case yq1_5 => (intro W0 hSw; go_simp; try with_reducible rfl)
  try simp only [Act.put, List.setIfInBounds_toArray, List.set_cons_zero, List.set_cons_succ]
  refine wpAnyH_take (i := 6) (oi := ⟨(some 77), _, _, _, _, _⟩) (v := ?vq1_6) rfl (by kernel_rfl) (by kernel_rfl) (by kernel_rfl) (fun _ _ _ h => h) (Or.inl ⟨by rfl, ?yq1_6⟩) hHeld ?_
  case yq1_6 => (intro W0 hSw; go_simp; try with_reducible rfl)
  try simp only [Act.put, List.setIfInBounds_toArray, List.set_cons_zero, List.set_cons_succ]
  refine wpAnyH_take (i := 7) (oi := ⟨(some 78), _, _, _, _, _⟩) (v := ?vq1_7) rfl (by kernel_rfl) (by kernel_rfl) (by kernel_rfl) (fun _ _ _ h => h) (Or.inl ⟨by rfl, ?yq1_7⟩) hHeld ?_
  case yq1_7 => (intro W0 hSw; go_simp; try with_reducible rfl)
  try simp only [Act.put, List.setIfInBounds_toArray, List.set_cons_zero, List.set_cons_succ]
  refine wpAnyH_take (i := 8) (oi := ⟨(some 79), _, _, _, _, _⟩) (v := ?vq1_8) rfl (by kernel_rfl) (by kernel_rfl) (by kernel_rfl) (fun _ _ _ h => h) (Or.inl ⟨by rfl, ?yq1_8⟩) hHeld ?_
  case yq1_8 => (intro W0 hSw; go_simp; try with_reducible rfl)
  try simp only [Act.put, List.setIfInBounds_toArray, List.set_cons_zero, List.set_cons_succ]
  refine wpAnyH_take (i := 9) (oi := ⟨(some 80), _, _, _, _, _⟩) (v := ?vq1_9) rfl (by kernel_rfl) (by kernel_rfl) (by kernel_rfl) (fun _ _ _ h => h) (Or.inl ⟨by rfl, ?yq1_9⟩) hHeld ?_
  case yq1_9 => (intro W0 hSw; go_simp; try with_reducible rfl)
  try simp only [Act.put, List.setIfInBounds_toArray, List.set_cons_zero, List.set_cons_succ]
  refine wpAnyH_take (i := 10) (oi := ⟨(some 81), _, _, _, _, _⟩) (v := ?vq1_10) rfl (by kernel_rfl) (by kernel_rfl) (by kernel_rfl) (fun _ _ _ h => h) (Or.inl ⟨by rfl, ?yq1_10⟩) hHeld ?_
  case yq1_10 => (intro W0 hSw; go_simp; try with_reducible rfl)
  try simp only [Act.put, List.setIfInBounds_toArray, List.set_cons_zero, List.set_cons_succ]
  refine wpAnyH_take (i := 11) (oi := ⟨(some 82), _, _, _, _, _⟩) (v := ?vq1_11) rfl (by kernel_rfl) (by kernel_rfl) (by kernel_rfl) (fun _ _ _ h => h) (Or.inl ⟨by rfl, ?yq1_11⟩) hHeld ?_
  case yq1_11 => (intro W0 hSw; go_simp; try with_reducible rfl)
  try simp only [Act.put, List.setIfInBounds_toArray, List.set_cons_zero, List.set_cons_succ]
  refine wpAnyH_take (i := 12) (oi := ⟨(some 83), _, _, _, _, _⟩) (v := ?vq1_12) rfl (by kernel_rfl) (by kernel_rfl) (by kernel_rfl) (fun _ _ _ h => h) (Or.inl ⟨by rfl, ?yq1_12⟩) hHeld ?_
  case yq1_12 => (intro W0 hSw; go_simp; try with_reducible rfl)
  try simp only [Act.put, List.setIfInBounds_toArray, List.set_cons_zero, List.set_cons_succ]
  refine wpAnyH_take (i := 13) (oi := ⟨(some 84), _, _, _, _, _⟩) (v := ?vq1_13) rfl (by kernel_rfl) (by kernel_rfl) (by kernel_rfl) (fun _ _ _ h => h) (Or.inl ⟨by rfl, ?yq1_13⟩) hHeld ?_
  case yq1_13 => (intro W0 hSw; go_simp; try with_reducible rfl)
  try simp only [Act.put, List.setIfInBounds_toArray, List.set_cons_zero, List.set_cons_succ]
  refine wpAnyH_ready (rs := [14, 15]) (by kernel_rfl) (by simp) ?_
  refine AllReadyH.cons (i := 14) (o := ⟨(some 10), _, _, _, _, _⟩) rfl (fun K hK => ?_) (AllReadyH.cons (i := 15) (o := ⟨(some 11), _, _, _, _, _⟩) rfl (fun K hK => ?_) AllReadyH.nil)
  · refine step_new (by rfl) rfl ?_
    intro P14 W1 hP14 z14 g1 l14
    have lP14 : u3.heap.size ≤ P14 := by have := hHeld.2.2.2.2.size; have := hP14.out; omega
    have hB1 := below_next hHeld.2.2.2.2 hHeld.2.2.2.2.size g1
    refine hK.out _ _ (hold _ hB1) (fun hHeld => ?_)
    clear hK K
    try simp only [Act.put, List.setIfInBounds_toArray, List.set_cons_zero, List.set_cons_succ]
    refine wpAnyH_ready (rs := [15]) (by kernel_rfl) (by simp) ?_
    refine AllReadyH.cons (i := 15) (o := ⟨(some 11), _, _, _, _, _⟩) rfl (fun K hK => ?_) AllReadyH.nil
    refine step_new (by rfl) rfl ?_
    intro P15 W2 hP15 z15 g2 l15
    have lP15 : u3.heap.size ≤ P15 := by have := hHeld.2.2.2.2.size; have := hP15.out; omega
    have hB2 := below_next hHeld.2.2.2.2 hHeld.2.2.2.2.size g2
    refine hK.out _ _ (hold _ hB2) (fun hHeld => ?_)
    clear hK K
    try simp only [Act.put, List.setIfInBounds_toArray, List.set_cons_zero, List.set_cons_succ]
    refine wpAnyH_ready (rs := [16]) (by kernel_rfl) (by simp) ?_
    refine AllReadyH.cons (i := 16) (o := ⟨none, _, _, _, _, _⟩) rfl (fun K hK => ?_) AllReadyH.nil
    have hne : P14 ≠ P15 := by have := hP15.out; omega
    refine step_store_row rfl 35 (.tmp 10) (.tmp 76) rfl P14 (u64v [r00, r10, r20, r30]).toArray rfl rfl 35 _ ((row_next z14 g2)).out (by kernel_rfl) (by kernel_rfl) (all_oneCell_toArray (u64v_one _)) ?_
    have y14 : Hid ((W2.setRow P14 (u64v [r00, r10, r20, r30]).toArray).heap[P14]? = some (.cells (u64v [r00, r10, r20, r30]).toArray 35 (0, 0))) := setRow_heap _ _ _ _ _ _ ((row_next z14 g2)).out
    have y15 : Hid ((W2.setRow P14 (u64v [r00, r10, r20, r30]).toArray).heap[P15]? = some (.cells (u64v z4).toArray 35 (0, 0))) := (setRow_other _ _ _ _ (Ne.symm hne)).trans (z15).out
    have hB3 := below_setRow hHeld.2.2.2.2 lP14 (u64v [r00, r10, r20, r30]).toArray
    generalize W2.setRow P14 (u64v [r00, r10, r20, r30]).toArray = W3 at *
    refine hK.out _ _ (hold _ hB3) (fun hHeld => ?_)
    clear hK K
    try simp only [Act.put]
    refine wpAnyH_ready (rs := [17]) (by kernel_rfl) (by simp) ?_
    refine AllReadyH.cons (i := 17) (o := ⟨none, _, _, _, _, _⟩) rfl (fun K hK => ?_) AllReadyH.nil
    refine step_store_row rfl 35 (.tmp 11) (.tmp 84) rfl P15 (u64v [r31, r32, r33, o3]).toArray rfl rfl 35 _ y15.out (by kernel_rfl) (by kernel_rfl) (all_oneCell_toArray (u64v_one _)) ?_
    have x15 : Hid ((W3.setRow P15 (u64v [r31, r32, r33, o3]).toArray).heap[P15]? = some (.cells (u64v [r31, r32, r33, o3]).toArray 35 (0, 0))) := setRow_heap _ _ _ _ _ _ y15.out
    have x14 : Hid ((W3.setRow P15 (u64v [r31, r32, r33, o3]).toArray).heap[P14]? = some (.cells (u64v [r00, r10, r20, r30]).toArray 35 (0, 0))) := (setRow_other _ _ _ _ hne).trans y14.out
    have hB4 := below_setRow hHeld.2.2.2.2 lP15 (u64v [r31, r32, r33, o3]).toArray
    generalize W3.setRow P15 (u64v [r31, r32, r33, o3]).toArray = W4 at *
    refine hK.out _ _ (hold _ hB4) (fun hHeld => ?_)
    clear hK K
    try simp only [Act.put]
    refine wpAnyH_done (by kernel_rfl) ?_ _
    have hbW4 := below_next hbu3 hbu3.size hB4
    have hZ4 : Hid (W4.heap[w.heap.size + 2]? = some (.cells (u64v z4).toArray 35 (0, 0))) := (hB4.block _ (by omega)).trans hgZu3.out
    have hs4 : w.heap.size + 2 < W4.heap.size := (Array.getElem?_eq_some_iff.1 hZ4.out).1
    go_wp2_with (first
      | (with_reducible refine wpList_load_row rfl 35 (.tmp 11) rfl P15 rfl 35 (u64v [r31, r32, r33, o3]).toArray (0, 0) _ x15.out Tryd.underlying35 rfl (by kernel_rfl) ?_)
      | (with_reducible refine wpList_load_row rfl 35 (.tmp 10) rfl P14 rfl 35 (u64v [r00, r10, r20, r30]).toArray (0, 0) _ x14.out Tryd.underlying35 rfl (by kernel_rfl) ?_))
    refine (row_any W4 38 r31 r32 r33 o3 r00 r10 r20 r30 (by decide) l31 l32 l33 lo3 l00 l10 l20 l30).mono ?_
    rintro e W5 ⟨f0, f1, f2, f3, o4, rfl, e4, ⟨lf0, lf1, lf2, lf3⟩, lo4, hv4⟩
    have ho4 := times_over _ _ _ _ _ _ _ _ _ _ l31 l32 l33 lo3 l00 l10 l20 l30 e4.out
    have hbW5 := below_next hbW4 hbW4.size hv4
    have hZ5 : Hid (W5.heap[w.heap.size + 2]? = some (.cells (u64v z4).toArray 35 (0, 0))) := (hv4.block _ (by omega)).trans hZ4.out
    have hs5 : w.heap.size + 2 < W5.heap.size := (Array.getElem?_eq_some_iff.1 hZ5.out).1
    go_wp2_with fail
    refine (folded_any W5 f0 f1 f2 f3 o4 lf0 lf1 lf2 lf3 ho4).mono ?_
    rintro e W6 ⟨c0, c1, c2, c3, rfl, e5, lc, hv5⟩
    have HE := vlt (times_sum _ b0 b1 b2 b3 r00 r01 r02 r03 o0 r10 r11 r12 r13 o1 r20 r21 r22 r23 o2 r30 r31 r32 r33 o3 _ o4 _ e0.out e1.out e2.out e3.out e4.out e5.out)
    clear e0 e1 e2 e3 e4 e5
    have hbW6 := below_next hbW5 hbW5.size hv5
    have hZ6 : Hid (W6.heap[w.heap.size + 1 + 1]? = some (.cells (u64v z4).toArray 35 (0, 0))) := (hv5.block _ (by omega)).trans hZ5.out
    go_wp2_with (with_reducible refine wpList_store_row rfl 35 (.tmp 4) (.tmp 90) rfl (w.heap.size + 1 + 1) (u64v [c0, c1, c2, c3]).toArray rfl rfl 35 _ hZ6.out (by kernel_rfl) (by kernel_rfl) (all_oneCell_toArray (u64v_one _)) ?_)
    refine bodyPost_ret (v := .agg (u64v [c0, c1, c2, c3]).toArray) (results_cell_row Tryd.results30 _ _ (w.heap.size + 1 + 1) 35 _ (0, 0) _ rfl (setRow_heap _ _ _ _ _ _ hZ6.out) Tryd.underlying35 rfl (by kernel_rfl)) rfl ⟨c0, c1, c2, c3, rfl, HE, lc, below_setRow hbW6 (by omega) _⟩
  · refine step_new (by rfl) rfl ?_
    intro P15 W1 hP15 z15 g1 l15
    have lP15 : u3.heap.size ≤ P15 := by have := hHeld.2.2.2.2.size; have := hP15.out; omega
    have hB1 := below_next hHeld.2.2.2.2 hHeld.2.2.2.2.size g1
    refine hK.out _ _ (hold _ hB1) (fun hHeld => ?_)
    clear hK K
    try simp only [Act.put, List.setIfInBounds_toArray, List.set_cons_zero, List.set_cons_succ]
    refine wpAnyH_ready (rs := [14]) (by kernel_rfl) (by simp) ?_
    refine AllReadyH.cons (i := 14) (o := ⟨(some 10), _, _, _, _, _⟩) rfl (fun K hK => ?_) AllReadyH.nil
    refine step_new (by rfl) rfl ?_
    intro P14 W2 hP14 z14 g2 l14
    have lP14 : u3.heap.size ≤ P14 := by have := hHeld.2.2.2.2.size; have := hP14.out; omega
    have hB2 := below_next hHeld.2.2.2.2 hHeld.2.2.2.2.size g2
    refine hK.out _ _ (hold _ hB2) (fun hHeld => ?_)
    clear hK K
    try simp only [Act.put, List.setIfInBounds_toArray, List.set_cons_zero, List.set_cons_succ]
    refine wpAnyH_ready (rs := [16]) (by kernel_rfl) (by simp) ?_
    refine AllReadyH.cons (i := 16) (o := ⟨none, _, _, _, _, _⟩) rfl (fun K hK => ?_) AllReadyH.nil
    have hne : P14 ≠ P15 := by have := hP14.out; omega
    refine step_store_row rfl 35 (.tmp 10) (.tmp 76) rfl P14 (u64v [r00, r10, r20, r30]).toArray rfl rfl 35 _ (z14).out (by kernel_rfl) (by kernel_rfl) (all_oneCell_toArray (u64v_one _)) ?_
    have y14 : Hid ((W2.setRow P14 (u64v [r00, r10, r20, r30]).toArray).heap[P14]? = some (.cells (u64v [r00, r10, r20, r30]).toArray 35 (0, 0))) := setRow_heap _ _ _ _ _ _ (z14).out
    have y15 : Hid ((W2.setRow P14 (u64v [r00, r10, r20, r30]).toArray).heap[P15]? = some (.cells (u64v z4).toArray 35 (0, 0))) := (setRow_other _ _ _ _ (Ne.symm hne)).trans ((row_next z15 g2)).out
    have hB3 := below_setRow hHeld.2.2.2.2 lP14 (u64v [r00, r10, r20, r30]).toArray
    generalize W2.setRow P14 (u64v [r00, r10, r20, r30]).toArray = W3 at *
    refine hK.out _ _ (hold _ hB3) (fun hHeld => ?_)
    clear hK K
    try simp only [Act.put]
    refine wpAnyH_ready (rs := [17]) (by kernel_rfl) (by simp) ?_
    refine AllReadyH.cons (i := 17) (o := ⟨none, _, _, _, _, _⟩) rfl (fun K hK => ?_) AllReadyH.nil
    refine step_store_row rfl 35 (.tmp 11) (.tmp 84) rfl P15 (u64v [r31, r32, r33, o3]).toArray rfl rfl 35 _ y15.out (by kernel_rfl) (by kernel_rfl) (all_oneCell_toArray (u64v_one _)) ?_
    have x15 : Hid ((W3.setRow P15 (u64v [r31, r32, r33, o3]).toArray).heap[P15]? = some (.cells (u64v [r31, r32, r33, o3]).toArray 35 (0, 0))) := setRow_heap _ _ _ _ _ _ y15.out
    have x14 : Hid ((W3.setRow P15 (u64v [r31, r32, r33, o3]).toArray).heap[P14]? = some (.cells (u64v [r00, r10, r20, r30]).toArray 35 (0, 0))) := (setRow_other _ _ _ _ hne).trans y14.out
    have hB4 := below_setRow hHeld.2.2.2.2 lP15 (u64v [r31, r32, r33, o3]).toArray
    generalize W3.setRow P15 (u64v [r31, r32, r33, o3]).toArray = W4 at *
    refine hK.out _ _ (hold _ hB4) (fun hHeld => ?_)
    clear hK K
    try simp only [Act.put]
    refine wpAnyH_done (by kernel_rfl) ?_ _
    have hbW4 := below_next hbu3 hbu3.size hB4
    have hZ4 : Hid (W4.heap[w.heap.size + 2]? = some (.cells (u64v z4).toArray 35 (0, 0))) := (hB4.block _ (by omega)).trans hgZu3.out
    have hs4 : w.heap.size + 2 < W4.heap.size := (Array.getElem?_eq_some_iff.1 hZ4.out).1
    go_wp2_with (first
      | (with_reducible refine wpList_load_row rfl 35 (.tmp 11) rfl P15 rfl 35 (u64v [r31, r32, r33, o3]).toArray (0, 0) _ x15.out Tryd.underlying35 rfl (by kernel_rfl) ?_)
      | (with_reducible refine wpList_load_row rfl 35 (.tmp 10) rfl P14 rfl 35 (u64v [r00, r10, r20, r30]).toArray (0, 0) _ x14.out Tryd.underlying35 rfl (by kernel_rfl) ?_))
    refine (row_any W4 38 r31 r32 r33 o3 r00 r10 r20 r30 (by decide) l31 l32 l33 lo3 l00 l10 l20 l30).mono ?_
    rintro e W5 ⟨f0, f1, f2, f3, o4, rfl, e4, ⟨lf0, lf1, lf2, lf3⟩, lo4, hv4⟩
    have ho4 := times_over _ _ _ _ _ _ _ _ _ _ l31 l32 l33 lo3 l00 l10 l20 l30 e4.out
    have hbW5 := below_next hbW4 hbW4.size hv4
    have hZ5 : Hid (W5.heap[w.heap.size + 2]? = some (.cells (u64v z4).toArray 35 (0, 0))) := (hv4.block _ (by omega)).trans hZ4.out
    have hs5 : w.heap.size + 2 < W5.heap.size := (Array.getElem?_eq_some_iff.1 hZ5.out).1
    go_wp2_with fail
    refine (folded_any W5 f0 f1 f2 f3 o4 lf0 lf1 lf2 lf3 ho4).mono ?_
    rintro e W6 ⟨c0, c1, c2, c3, rfl, e5, lc, hv5⟩
    have HE := vlt (times_sum _ b0 b1 b2 b3 r00 r01 r02 r03 o0 r10 r11 r12 r13 o1 r20 r21 r22 r23 o2 r30 r31 r32 r33 o3 _ o4 _ e0.out e1.out e2.out e3.out e4.out e5.out)
    clear e0 e1 e2 e3 e4 e5
    have hbW6 := below_next hbW5 hbW5.size hv5
    have hZ6 : Hid (W6.heap[w.heap.size + 1 + 1]? = some (.cells (u64v z4).toArray 35 (0, 0))) := (hv5.block _ (by omega)).trans hZ5.out
    go_wp2_with (with_reducible refine wpList_store_row rfl 35 (.tmp 4) (.tmp 90) rfl (w.heap.size + 1 + 1) (u64v [c0, c1, c2, c3]).toArray rfl rfl 35 _ hZ6.out (by kernel_rfl) (by kernel_rfl) (all_oneCell_toArray (u64v_one _)) ?_)
    refine bodyPost_ret (v := .agg (u64v [c0, c1, c2, c3]).toArray) (results_cell_row Tryd.results30 _ _ (w.heap.size + 1 + 1) 35 _ (0, 0) _ rfl (setRow_heap _ _ _ _ _ _ hZ6.out) Tryd.underlying35 rfl (by kernel_rfl)) rfl ⟨c0, c1, c2, c3, rfl, HE, lc, below_setRow hbW6 (by omega) _⟩
end Go.Proofs.YtpnodegmegpooaaDoor
