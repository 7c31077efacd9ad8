/-
  Contract of field's told: the number modulo the prime, its 32 bytes. Conditions: none.
-/
import Derived.Test.YtpnodegmegpooaaDoorFdL
import Derived.Test.YtpnodegmegpooaaDoorOctBD
import Derived.Test.YtpnodegmegpooaaDoorOctDD
namespace Go.Proofs.YtpnodegmegpooaaDoor
open Go.RowKit

theorem zero_word (w : World) : (zeroValue 24).run Tryd.prog w = .ok (.agg (bv z32).toArray) w := by kernel_rfl
theorem low63 (a : Nat) (ha : a < B64) : bits .and .u64 (a : Int) 9223372036854775807 = ((a % 9223372036854775808 : Nat) : Int) := by
  have h := u64_and_nat a 9223372036854775807 ha (by decide)
  rw [show ((9223372036854775807 : Nat) : Int) = 9223372036854775807 from rfl] at h
  rw [h, show (9223372036854775807 : Nat) = 2 ^ 63 - 1 by decide, Nat.and_two_pow_sub_one_eq_mod, show (2 : Nat) ^ 63 = 9223372036854775808 by decide]
/-- The number, brought below the prime. -/
theorem fp_mod' {x r q : Nat} (h : x = r + FP * q) (hr : r < FP) : r = x % FP := by rw [h, Nat.add_mul_mod_self_left, Nat.mod_eq_of_lt hr]
theorem told_num (a0 a1 a2 a3 M o1 p0 p1 p2 p3 o2 x0 x1 x2 x3 o3 : Nat) (ha0 : a0 < B64) (ha1 : a1 < B64) (ha2 : a2 < B64) (ha3 : a3 < B64) (hp0 : p0 < B64) (hp1 : p1 < B64) (hp2 : p2 < B64) (hp3 : p3 < B64) (hx0 : x0 < B64) (hx1 : x1 < B64) (hx2 : x2 < B64) (hx3 : x3 < B64)
    (h1 : M + 115792089237316195423570985008687907853269984665640564039457584007913129639936 * o1 = n4 a0 a1 a2 (a3 % 9223372036854775808) + n4 (19 * (a3 / 9223372036854775808)) 0 0 0)
    (h2 : n4 p0 p1 p2 p3 + 115792089237316195423570985008687907853269984665640564039457584007913129639936 * o2 = M + n4 19 0 0 0)
    (h3 : n4 x0 x1 x2 x3 + 115792089237316195423570985008687907853269984665640564039457584007913129639936 * o3 = M + n4 (19 * (p3 / 9223372036854775808)) 0 0 0) :
    n4 x0 x1 x2 (x3 % 9223372036854775808) = n4 a0 a1 a2 a3 % FP := by
  obtain ⟨t, ht⟩ : ∃ t, t = a3 / 9223372036854775808 := ⟨_, rfl⟩
  obtain ⟨l, hl⟩ : ∃ l, l = a3 % 9223372036854775808 := ⟨_, rfl⟩
  obtain ⟨s, hs⟩ : ∃ s, s = p3 / 9223372036854775808 := ⟨_, rfl⟩
  obtain ⟨y, hy⟩ : ∃ y, y = x3 % 9223372036854775808 := ⟨_, rfl⟩
  rw [← ht, ← hl] at h1
  rw [← hs] at h3
  rw [← hy]
  have t1 : t ≤ 1 := by simp only [B64] at *; omega
  have s1 : s ≤ 1 := by simp only [B64] at *; omega
  simp only [n4, B64] at *
  have q1 : o1 = 0 := by omega
  subst q1
  have hM : M < 57896044618658097711785492504343953926634992332820282019728792003956564819988 := by omega
  have q2 : o2 = 0 := by omega
  subst q2
  have q3 : o3 = 0 := by omega
  subst q3

  obtain ⟨m, hm⟩ : ∃ m, m = x3 / 9223372036854775808 := ⟨_, rfl⟩
  have hx : x3 = 9223372036854775808 * m + y := by omega
  have hp : p3 = 9223372036854775808 * s + p3 % 9223372036854775808 := by omega
  have ha : a3 = 9223372036854775808 * t + l := by omega
  have ly : y < 9223372036854775808 := by omega
  have lp : p3 % 9223372036854775808 < 9223372036854775808 := by omega
  generalize p3 % 9223372036854775808 = r at *
  clear ht hl hs hy hm
  subst hx hp ha
  have s01 : s = 0 ∨ s = 1 := by omega
  refine fp_mod' (q := t + s) ?_ ?_
  · rw [fp_eq]
    rcases s01 with rfl | rfl
    · have hm0 : m = 0 := by omega
      subst hm0
      omega
    · have hm0 : m = 1 := by omega
      subst hm0
      omega
  · rw [fp_eq]
    rcases s01 with rfl | rfl
    · have hm0 : m = 0 := by omega
      subst hm0
      omega
    · have hm0 : m = 1 := by omega
      subst hm0
      omega

theorem quart_len (a b c d k : Nat) (h : k ≤ 8) : (quart a b c d k).length = 32 := by
  simp only [quart, List.length_append]
  rw [uptoB_len _ _ (by rw [le_len]; exact h), uptoB_len _ _ (by rw [le_len]; exact h), uptoB_len _ _ (by rw [le_len]; exact h), uptoB_len _ _ (by rw [le_len]; exact h)]
theorem quart_cells {w : World} {g : Nat} {t : TypeId} {a b c d k : Nat} (hg : w.heap[g]? = some (.cells (bv (quart a b c d k)).toArray t (0, 0))) (hk : k < 8) :
    (∃ u, w.cell? ⟨g, k, none⟩ = some u) ∧ (∃ u, w.cell? ⟨g, k + 8, none⟩ = some u) ∧ (∃ u, w.cell? ⟨g, k + 16, none⟩ = some u) ∧ (∃ u, w.cell? ⟨g, k + 24, none⟩ = some u) := by
  have hl := quart_len a b c d k (by omega)
  have h : ∀ j, j < 32 → ∃ u, w.cell? ⟨g, j, none⟩ = some u := by
    intro j hj
    rw [cell_of_row _ _ _ _ _ _ hg]
    exact ⟨_, List.getElem?_toArray .. ▸ List.getElem?_eq_getElem (by rw [bv_len, hl]; exact hj)⟩
  exact ⟨h _ (by omega), h _ (by omega), h _ (by omega), h _ (by omega)⟩
set_option maxRecDepth 100000 in
set_option maxHeartbeats 2000000 in
theorem told_any (w : World) (a0 a1 a2 a3 : Nat) (ha0 : a0 < B64) (ha1 : a1 < B64) (ha2 : a2 < B64) (ha3 : a3 < B64) :
    Calls Tryd.prog 31 #[.agg (u64v [a0, a1, a2, a3]).toArray] w fun e w' => ∃ l : List UInt8, e = .returned (.agg (bv l).toArray) ∧ Vlt (l = le (n4 a0 a1 a2 a3 % FP) 32) ∧ Hid (l.length = 32) ∧ Below w.heap.size w w' := by
  have hzn := zero_n4
  have hzw := zero_word
  obtain ⟨W, hW, hgA, hgZ, hbW, hsW⟩ := pair_new w (u64v [a0, a1, a2, a3]).toArray (bv z32).toArray 35 24
  have HW := Lib.hid hW
  have hs1 : w.heap.size + 1 < W.heap.size := by have := hsW.out; omega
  clear hW
  have ca3 : W.cell? ⟨w.heap.size, 3, none⟩ = some (.int .u64 (a3 : Int)) := long_at hgA.out 3 (by simp)
  have f3 : W.frozen? ⟨w.heap.size, 3, none⟩ = false := frozen_of_row _ _ _ _ _ hgA.out
  have HT := fun M o1 p0 p1 p2 p3 o2 x0 x1 x2 x3 o3 => told_num a0 a1 a2 a3 M o1 p0 p1 p2 p3 o2 x0 x1 x2 x3 o3 ha0 ha1 ha2 ha3
  have em := low63 a3 ha3
  have et : (a3 : Int) / 9223372036854775808 = ((a3 / 9223372036854775808 : Nat) : Int) := by omega
  have hr : Hid ((W.setCell ⟨w.heap.size, 3, none⟩ (.int .u64 ((a3 % 9223372036854775808 : Nat) : Int))).heap[w.heap.size]? = some (.cells (u64v [a0, a1, a2, a3 % 9223372036854775808]).toArray 35 (0, 0))) := by
    have h1 := (world_set_cell hgA.out 3 (.int .u64 ((a3 % 9223372036854775808 : Nat) : Int))).out
    rw [u64v_set] at h1
    exact h1
  have hr2 : Below w.heap.size w (W.setCell ⟨w.heap.size, 3, none⟩ (.int .u64 ((a3 % 9223372036854775808 : Nat) : Int))) := But.below hbW ((But.refl _ W).set _) (by omega) (by omega)
  have hr3 : Hid ((W.setCell ⟨w.heap.size, 3, none⟩ (.int .u64 ((a3 % 9223372036854775808 : Nat) : Int))).heap[w.heap.size + 1]? = some (.cells (bv z32).toArray 24 (0, 0))) := (((But.refl w.heap.size W).set _).block _ (by omega) (by intro e; injection e; omega)).trans hgZ.out
  have lt : a3 / 9223372036854775808 ≤ 1 := by simp only [B64] at *; omega
  have lm : a3 % 9223372036854775808 < B64 := by simp only [B64] at *; omega
  generalize a3 % 9223372036854775808 = m at *
  generalize a3 / 9223372036854775808 = t at *
  go_enter Tryd.func31, Tryd.ntmps31
  go_upto_region 1 with fail
  rw [HW.out]
  go_upto_region 3 with fail
  generalize W.setCell ⟨w.heap.size, 3, none⟩ (.int .u64 (m : Int)) = W1 at *
  have hs2 : w.heap.size + 1 < W1.heap.size := (Array.getElem?_eq_some_iff.1 hr3.out).1
  clear ca3 f3 hgA hgZ hbW hsW hs1 em et
  have et : (19 : Int) * (t : Int) = ((19 * t : Nat) : Int) := by omega
  have lt19 : 19 * t < B64 := by simp only [B64]; omega
  have hcall := sum_any W1 a0 a1 a2 m (19 * t) 0 0 0 ha0 ha1 ha2 lm lt19 (by decide) (by decide) (by decide)
  generalize 19 * t = t19 at *
  go_wp2_with (with_reducible refine wpList_load_row rfl 35 (.tmp 1) rfl w.heap.size rfl 35 (u64v [a0, a1, a2, m]).toArray (0, 0) _ hr.out Tryd.underlying35 rfl (by kernel_rfl) ?_)
  refine hcall.mono ?_
  rintro e w1 ⟨b0, b1, b2, b3, o1, rfl, e1, ⟨lb0, lb1, lb2, lb3⟩, _, hb1⟩
  clear hcall
  have hg1 : Hid (w1.heap[w.heap.size]? = some (.cells (u64v [a0, a1, a2, m]).toArray 35 (0, 0))) := (hb1.block _ (by omega)).trans hr.out
  have hz1 : Hid (w1.heap[w.heap.size + 1]? = some (.cells (bv z32).toArray 24 (0, 0))) := (hb1.block _ (by omega)).trans hr3.out
  have hbw := below_next hr2 (by omega) hb1
  have hs3 : w.heap.size + 1 < w1.heap.size := by have := hb1.size; omega
  clear hr hr2 hr3
  go_upto_region 4 with (with_reducible refine wpList_store_row rfl 35 (.tmp 1) (.tmp 21) rfl w.heap.size (u64v [b0, b1, b2, b3]).toArray rfl rfl 35 _ hg1.out (by kernel_rfl) (by kernel_rfl) (all_oneCell_toArray (u64v_one _)) ?_)
  obtain ⟨w2, hw2⟩ : ∃ w2, w2 = w1.setRow w.heap.size (u64v [b0, b1, b2, b3]).toArray := ⟨_, rfl⟩
  rw [← hw2]
  have hg2 : Hid (w2.heap[w.heap.size]? = some (.cells (u64v [b0, b1, b2, b3]).toArray 35 (0, 0))) := by rw [hw2]; exact setRow_heap _ _ _ _ _ _ hg1.out
  have hb2 : Below w.heap.size w w2 := by rw [hw2]; exact below_setRow hbw (by omega) _
  have hz2 : Hid (w2.heap[w.heap.size + 1]? = some (.cells (bv z32).toArray 24 (0, 0))) := by rw [hw2]; exact (setRow_other _ _ _ _ (by omega)).trans hz1.out
  have hs4 : w.heap.size + 1 < w2.heap.size := (Array.getElem?_eq_some_iff.1 hz2.out).1
  clear hw2 hg1 hz1 hbw hb1 hs3 hs2
  go_wp2_with (with_reducible refine wpList_load_row rfl 35 (.tmp 1) rfl w.heap.size rfl 35 (u64v [b0, b1, b2, b3]).toArray (0, 0) _ hg2.out Tryd.underlying35 rfl (by kernel_rfl) ?_)
  refine (sum_any w2 b0 b1 b2 b3 19 0 0 0 lb0 lb1 lb2 lb3 (by decide) (by decide) (by decide) (by decide)).mono ?_
  rintro e w3 ⟨p0, p1, p2, p3, o2, rfl, e2, ⟨lp0, lp1, lp2, lp3⟩, _, hb3⟩
  have hg3 : Hid (w3.heap[w.heap.size]? = some (.cells (u64v [b0, b1, b2, b3]).toArray 35 (0, 0))) := (hb3.block _ (by omega)).trans hg2.out
  have hz3 : Hid (w3.heap[w.heap.size + 1]? = some (.cells (bv z32).toArray 24 (0, 0))) := (hb3.block _ (by omega)).trans hz2.out
  have hbw3 := below_next hb2 (by omega) hb3
  have hs5 : w.heap.size + 1 < w3.heap.size := (Array.getElem?_eq_some_iff.1 hz3.out).1
  clear hg2 hz2 hb2 hb3 hs4
  go_upto_region 5 with ((with_reducible refine wpList_store_row rfl 35 (.tmp 4) (.tmp 27) rfl w3.heap.size (u64v [p0, p1, p2, p3]).toArray rfl rfl 35 _ (heap_alloc_new _ _) (by kernel_rfl) (by kernel_rfl) (all_oneCell_toArray (u64v_one _)) ?_); rw [World.setRow_alloc_new])
  obtain ⟨w4, hw4⟩ : ∃ w4, w4 = w3.alloc (.cells (u64v [p0, p1, p2, p3]).toArray 35) := ⟨_, rfl⟩
  rw [← hw4]
  have hg4 : Hid (w4.heap[w.heap.size]? = some (.cells (u64v [b0, b1, b2, b3]).toArray 35 (0, 0))) := by rw [hw4]; exact (Below.heap_alloc _ _ _ (by omega)).trans hg3.out
  have hz4 : Hid (w4.heap[w.heap.size + 1]? = some (.cells (bv z32).toArray 24 (0, 0))) := by rw [hw4]; exact (Below.heap_alloc _ _ _ (by omega)).trans hz3.out
  have hp4 : Hid (w4.heap[w3.heap.size]? = some (.cells (u64v [p0, p1, p2, p3]).toArray 35 (0, 0))) := by rw [hw4]; exact heap_alloc_new _ _
  have hb4 : Below w.heap.size w w4 := by rw [hw4]; exact hbw3.alloc hbw3.size _
  have hs6 : w.heap.size + 1 < w4.heap.size := (Array.getElem?_eq_some_iff.1 hz4.out).1
  obtain ⟨G, hG⟩ : ∃ G, G = w3.heap.size := ⟨_, rfl⟩
  rw [← hG] at hp4 ⊢
  clear hG hw4 hg3 hz3 hbw3 hs5
  have cp3 : w4.cell? ⟨G, 3, none⟩ = some (.int .u64 (p3 : Int)) := long_at hp4.out 3 (by simp)
  have ep : (p3 : Int) / 9223372036854775808 = ((p3 / 9223372036854775808 : Nat) : Int) := by omega
  have ls : p3 / 9223372036854775808 ≤ 1 := by simp only [B64] at *; omega
  have HT2 := fun o1 o2 x0 x1 x2 x3 o3 => HT (n4 b0 b1 b2 b3) o1 p0 p1 p2 p3 o2 x0 x1 x2 x3 o3
  clear HT
  generalize p3 / 9223372036854775808 = s at *
  have es : (19 : Int) * (s : Int) = ((19 * s : Nat) : Int) := by omega
  have ls19 : 19 * s < B64 := by simp only [B64]; omega
  have hcall := sum_any w4 b0 b1 b2 b3 (19 * s) 0 0 0 lb0 lb1 lb2 lb3 ls19 (by decide) (by decide) (by decide)
  generalize 19 * s = s19 at *
  go_wp2_with (with_reducible refine wpList_load_row rfl 35 (.tmp 1) rfl w.heap.size rfl 35 (u64v [b0, b1, b2, b3]).toArray (0, 0) _ hg4.out Tryd.underlying35 rfl (by kernel_rfl) ?_)
  refine hcall.mono ?_
  rintro e w5 ⟨x0, x1, x2, x3, o3, rfl, e3, ⟨lx0, lx1, lx2, lx3⟩, _, hb5⟩
  clear hcall
  have HR := vlt (HT2 o1 o2 x0 x1 x2 x3 o3 lp0 lp1 lp2 lp3 lx0 lx1 lx2 lx3 e1.out e2.out e3.out)
  clear e1 e2 e3 HT2
  have hg5 : Hid (w5.heap[w.heap.size]? = some (.cells (u64v [b0, b1, b2, b3]).toArray 35 (0, 0))) := (hb5.block _ (by omega)).trans hg4.out
  have hz5 : Hid (w5.heap[w.heap.size + 1]? = some (.cells (bv z32).toArray 24 (0, 0))) := (hb5.block _ (by omega)).trans hz4.out
  have hbw5 := below_next hb4 (by omega) hb5
  have hs7 : w.heap.size + 1 < w5.heap.size := (Array.getElem?_eq_some_iff.1 hz5.out).1
  clear hg4 hz4 hb4 hb5 hs6 hp4 cp3
  go_upto_region 6 with (with_reducible refine wpList_store_row rfl 35 (.tmp 1) (.tmp 37) rfl w.heap.size (u64v [x0, x1, x2, x3]).toArray rfl rfl 35 _ hg5.out (by kernel_rfl) (by kernel_rfl) (all_oneCell_toArray (u64v_one _)) ?_)
  obtain ⟨w6, hw6⟩ : ∃ w6, w6 = w5.setRow w.heap.size (u64v [x0, x1, x2, x3]).toArray := ⟨_, rfl⟩
  rw [← hw6]
  have hg6 : Hid (w6.heap[w.heap.size]? = some (.cells (u64v [x0, x1, x2, x3]).toArray 35 (0, 0))) := by rw [hw6]; exact setRow_heap _ _ _ _ _ _ hg5.out
  have hb6 : Below w.heap.size w w6 := by rw [hw6]; exact below_setRow hbw5 (by omega) _
  have hz6 : Hid (w6.heap[w.heap.size + 1]? = some (.cells (bv z32).toArray 24 (0, 0))) := by rw [hw6]; exact (setRow_other _ _ _ _ (by omega)).trans hz5.out
  have hs8 : w.heap.size + 1 < w6.heap.size := (Array.getElem?_eq_some_iff.1 hz6.out).1
  clear hw6 hg5 hz5 hbw5 hs7
  have cx3 : w6.cell? ⟨w.heap.size, 3, none⟩ = some (.int .u64 (x3 : Int)) := long_at hg6.out 3 (by simp)
  have fx3 : w6.frozen? ⟨w.heap.size, 3, none⟩ = false := frozen_of_row _ _ _ _ _ hg6.out
  have em := low63 x3 lx3
  have ln3 : x3 % 9223372036854775808 < B64 := by simp only [B64] at *; omega
  generalize x3 % 9223372036854775808 = n at *
  go_upto_region 7 with fail
  have hg7 : Hid ((w6.setCell ⟨w.heap.size, 3, none⟩ (.int .u64 (n : Int))).heap[w.heap.size]? = some (.cells (u64v [x0, x1, x2, n]).toArray 35 (0, 0))) := by
    have h1 := (world_set_cell hg6.out 3 (.int .u64 (n : Int))).out
    rw [u64v_set] at h1
    exact h1
  have hb7 : Below w.heap.size w (w6.setCell ⟨w.heap.size, 3, none⟩ (.int .u64 (n : Int))) := But.below hb6 ((But.refl _ w6).set _) (by omega) (by omega)
  have hz7 : Hid ((w6.setCell ⟨w.heap.size, 3, none⟩ (.int .u64 (n : Int))).heap[w.heap.size + 1]? = some (.cells (bv z32).toArray 24 (0, 0))) := (((But.refl w.heap.size w6).set _).block _ (by omega) (by intro e; injection e; omega)).trans hz6.out
  generalize w6.setCell ⟨w.heap.size, 3, none⟩ (.int .u64 (n : Int)) = w7 at *
  clear hg6 hb6 hz6 cx3 fx3 em hs8 lx3
  have hs9 : w.heap.size + 1 < w7.heap.size := (Array.getElem?_eq_some_iff.1 hz7.out).1
  go_upto_region 8 with fail
  obtain ⟨V, hV⟩ : ∃ V, V = w7.alloc (.cells (bv z32).toArray 24) := ⟨_, rfl⟩
  rw [← hV]
  obtain ⟨Gz, hGz⟩ : ∃ Gz, Gz = w7.heap.size := ⟨_, rfl⟩
  have hgV : Hid (V.heap[w.heap.size]? = some (.cells (u64v [x0, x1, x2, n]).toArray 35 (0, 0))) := by rw [hV]; exact (Below.heap_alloc _ _ _ (by omega)).trans hg7.out
  have hzV : Hid (V.heap[w.heap.size + 1]? = some (.cells (bv z32).toArray 24 (0, 0))) := by rw [hV]; exact (Below.heap_alloc _ _ _ (by omega)).trans hz7.out
  have hoV : Hid (V.heap[Gz]? = some (.cells (bv z32).toArray 24 (0, 0))) := by rw [hV, hGz]; exact heap_alloc_new _ _
  have hbV : Below w.heap.size w V := by rw [hV]; exact hb7.alloc hb7.size _
  have hGz2 : w.heap.size + 1 < Gz := by rw [hGz]; exact hs9
  have hsV : w.heap.size + 1 < V.heap.size := (Array.getElem?_eq_some_iff.1 hzV.out).1
  rw [← hGz]
  clear hGz hV hg7 hz7 hb7 hs9
  go_wp2_with fail
  go_loopw [43] (fun i wr => ∃ k : Nat, k ≤ 8 ∧ i = .int .i64 (k : Int) ∧ Hid (wr.heap[Gz]? = some (.cells (bv (quart x0 x1 x2 n k)).toArray 24 (0, 0))) ∧ But Gz V wr) (fun i _ => 8 - (intOf i).toNat)
  case atStart => exact ⟨0, by omega, rfl, hoV, But.refl _ _⟩
  case round =>
    obtain ⟨k, hk, rfl, hg, hbt⟩ := hrel
    have hgn : Hid (wr.heap[w.heap.size]? = some (.cells (u64v [x0, x1, x2, n]).toArray 35 (0, 0))) := (hbt.block _ (by omega) (by intro e; injection e; omega)).trans hgV.out
    by_cases hlt : k < 8
    · have c0 : wr.cell? ⟨w.heap.size, 0, none⟩ = some (.int .u64 (x0 : Int)) := long_at hgn.out 0 (by simp)
      have c1 : wr.cell? ⟨w.heap.size, 1, none⟩ = some (.int .u64 (x1 : Int)) := long_at hgn.out 1 (by simp)
      have c2 : wr.cell? ⟨w.heap.size, 2, none⟩ = some (.int .u64 (x2 : Int)) := long_at hgn.out 2 (by simp)
      have c3 : wr.cell? ⟨w.heap.size, 3, none⟩ = some (.int .u64 (n : Int)) := long_at hgn.out 3 (by simp)
      have f0 : wr.frozen? ⟨Gz, k, none⟩ = false := frozen_of_row _ _ _ _ _ hg.out
      have f1 : wr.frozen? ⟨Gz, k + 8, none⟩ = false := frozen_of_row _ _ _ _ _ hg.out
      have f2 : wr.frozen? ⟨Gz, k + 16, none⟩ = false := frozen_of_row _ _ _ _ _ hg.out
      have f3 : wr.frozen? ⟨Gz, k + 24, none⟩ = false := frozen_of_row _ _ _ _ _ hg.out
      obtain ⟨⟨u0, hu0⟩, ⟨u1, hu1⟩, ⟨u2, hu2⟩, ⟨u3, hu3⟩⟩ := quart_cells hg.out hlt
      have hset := (world_set_cell (world_set_cell (world_set_cell (world_set_cell hg.out k (.int .u8 ((x0 : Int) / 2 ^ (8 * k) % 256))).out (k + 8) (.int .u8 ((x1 : Int) / 2 ^ (8 * k) % 256))).out (k + 16) (.int .u8 ((x2 : Int) / 2 ^ (8 * k) % 256))).out (k + 24) (.int .u8 ((n : Int) / 2 ^ (8 * k) % 256))).out
      rw [byte_of x0 (8 * k), byte_of x1 (8 * k), byte_of x2 (8 * k), byte_of n (8 * k), bv_set, bv_set, bv_set, bv_set, quart_set _ _ _ _ _ hlt, ← byte_of x0 (8 * k), ← byte_of x1 (8 * k), ← byte_of x2 (8 * k), ← byte_of n (8 * k)] at hset
      have HSET := Lib.hid hset
      clear hset
      go_wp2_with fail
      go_region
      go_wp2
      go_roundw
      case rel => exact ⟨k + 1, by omega, by go_num, HSET.out, ((((hbt.set _).set _).set _).set _).drew⟩
      case measure => simp [intOf]; omega
    · obtain ⟨T, hT⟩ : ∃ T, T = quart x0 x1 x2 n k := ⟨_, rfl⟩
      have hk8 : k = 8 := by omega
      rw [← hT] at hg
      have HTL := Lib.hid (show T.length = 32 by rw [hT, quart_len _ _ _ _ _ hk])
      have HTE := vlt (show T = le (n4 a0 a1 a2 a3 % FP) 32 by rw [hT, hk8, quart_all _ _ _ _ lx0 lx1 lx2, HR.out])
      clear hT hk8
      have hsz := Lib.hid (show (bv T).toArray.size = 32 by simp [bv_len, HTL.out])
      have hz : Hid (wr.heap[w.heap.size + 1]? = some (.cells (bv z32).toArray 24 (0, 0))) := (hbt.block _ (by omega) (by intro e; injection e; omega)).trans hzV.out
      have hbw : Below w.heap.size w wr := But.below hbV hbt (by omega) (by omega)
      go_wp2_with (first
        | (with_reducible refine wpList_load_row rfl 24 (.tmp 6) rfl Gz rfl 24 (bv T).toArray (0, 0) _ hg.out Tryd.underlying24 rfl (by rw [hsz.out]; kernel_rfl) ?_)
        | (with_reducible refine wpList_store_row rfl 24 (.tmp 2) (.tmp 82) rfl (w.heap.size + 1) (bv T).toArray rfl rfl 24 _ hz.out (by rw [hsz.out]; kernel_rfl) (by rw [hsz.out]; kernel_rfl) (all_oneCell_toArray (bv_one _)) ?_))
      refine bodyPost_ret (v := .agg (bv T).toArray) (results_cell_row Tryd.results31 _ _ (w.heap.size + 1) 24 _ (0, 0) _ rfl (setRow_heap _ _ _ _ _ _ hz.out) Tryd.underlying24 rfl (by rw [hsz.out]; kernel_rfl)) rfl ⟨T, rfl, HTE, HTL, below_setRow hbw (by omega) _⟩
end Go.Proofs.YtpnodegmegpooaaDoor
