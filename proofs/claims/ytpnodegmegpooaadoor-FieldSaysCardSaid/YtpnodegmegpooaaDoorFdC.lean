/-
  Contracts of field's beneath, minus and numberOf. Conditions: a word has 32 bytes.
-/
import Derived.Test.YtpnodegmegpooaaDoorFdB
import Derived.Test.YtpnodegmegpooaaDoorOctCL
import Derived.Test.YtpnodegmegpooaaDoorCutH
namespace Go.Proofs.YtpnodegmegpooaaDoor
open Go.RowKit

theorem beneath_256 (w : World) :
    Calls Tryd.prog 29 #[.int .i64 256, .int .u64 75] w fun e w' => e = .returned (.agg (u64v [18446744073709551541, 18446744073709551615, 18446744073709551615, 18446744073709551615]).toArray) ∧ Below w.heap.size w w' := by
  have hzn := zero_n4
  obtain ⟨W, hW, hgZ, hbW, hsW⟩ := one_new w (u64v z4).toArray 35
  have HW := Lib.hid hW
  have hs1 : w.heap.size < W.heap.size := by have := hsW.out; omega
  clear hW
  go_enter Tryd.func29, Tryd.ntmps29
  go_upto_region 1 with fail
  rw [HW.out]
  go_wp2_with (with_reducible refine wpList_store_row rfl 35 (.tmp 4) (.tmp 10) rfl w.heap.size (u64v [18446744073709551541, 18446744073709551615, 18446744073709551615, 18446744073709551615]).toArray rfl rfl 35 _ hgZ.out (by kernel_rfl) (by kernel_rfl) (all_oneCell_toArray (u64v_one _)) ?_)
  refine bodyPost_ret (v := .agg (u64v [18446744073709551541, 18446744073709551615, 18446744073709551615, 18446744073709551615]).toArray) (results_cell_row Tryd.results29 _ _ w.heap.size 35 _ (0, 0) _ rfl (setRow_heap _ _ _ _ _ _ hgZ.out) Tryd.underlying35 rfl (by kernel_rfl)) rfl ⟨rfl, below_setRow hbW (by omega) _⟩
theorem beneath_255 (w : World) :
    Calls Tryd.prog 29 #[.int .i64 255, .int .u64 21] w fun e w' => e = .returned (.agg (u64v [18446744073709551595, 18446744073709551615, 18446744073709551615, 9223372036854775807]).toArray) ∧ Below w.heap.size w w' := by
  have hzn := zero_n4
  obtain ⟨W, hW, hgZ, hbW, hsW⟩ := one_new w (u64v z4).toArray 35
  have HW := Lib.hid hW
  have hs1 : w.heap.size < W.heap.size := by have := hsW.out; omega
  clear hW
  go_enter Tryd.func29, Tryd.ntmps29
  go_upto_region 1 with fail
  rw [HW.out]
  go_wp2_with (with_reducible refine wpList_store_row rfl 35 (.tmp 4) (.tmp 10) rfl w.heap.size (u64v [18446744073709551595, 18446744073709551615, 18446744073709551615, 9223372036854775807]).toArray rfl rfl 35 _ hgZ.out (by kernel_rfl) (by kernel_rfl) (all_oneCell_toArray (u64v_one _)) ?_)
  refine bodyPost_ret (v := .agg (u64v [18446744073709551595, 18446744073709551615, 18446744073709551615, 9223372036854775807]).toArray) (results_cell_row Tryd.results29 _ _ w.heap.size 35 _ (0, 0) _ rfl (setRow_heap _ _ _ _ _ _ hgZ.out) Tryd.underlying35 rfl (by kernel_rfl)) rfl ⟨rfl, below_setRow hbW (by omega) _⟩
theorem beneath_252 (w : World) :
    Calls Tryd.prog 29 #[.int .i64 252, .int .u64 2] w fun e w' => e = .returned (.agg (u64v [18446744073709551614, 18446744073709551615, 18446744073709551615, 1152921504606846975]).toArray) ∧ Below w.heap.size w w' := by
  have hzn := zero_n4
  obtain ⟨W, hW, hgZ, hbW, hsW⟩ := one_new w (u64v z4).toArray 35
  have HW := Lib.hid hW
  have hs1 : w.heap.size < W.heap.size := by have := hsW.out; omega
  clear hW
  go_enter Tryd.func29, Tryd.ntmps29
  go_upto_region 1 with fail
  rw [HW.out]
  go_wp2_with (with_reducible refine wpList_store_row rfl 35 (.tmp 4) (.tmp 10) rfl w.heap.size (u64v [18446744073709551614, 18446744073709551615, 18446744073709551615, 1152921504606846975]).toArray rfl rfl 35 _ hgZ.out (by kernel_rfl) (by kernel_rfl) (all_oneCell_toArray (u64v_one _)) ?_)
  refine bodyPost_ret (v := .agg (u64v [18446744073709551614, 18446744073709551615, 18446744073709551615, 1152921504606846975]).toArray) (results_cell_row Tryd.results29 _ _ w.heap.size 35 _ (0, 0) _ rfl (setRow_heap _ _ _ _ _ _ hgZ.out) Tryd.underlying35 rfl (by kernel_rfl)) rfl ⟨rfl, below_setRow hbW (by omega) _⟩

theorem not64 (b : Nat) (hb : b < 18446744073709551616) : 18446744073709551615 ^^^ b = 18446744073709551615 - b := by
  have h : (BitVec.allOnes 64 ^^^ BitVec.ofNat 64 b).toNat = (~~~ BitVec.ofNat 64 b).toNat := by rw [BitVec.allOnes_xor]
  rw [BitVec.toNat_xor, BitVec.toNat_not, BitVec.toNat_ofNat, BitVec.toNat_allOnes, Nat.mod_eq_of_lt (by omega)] at h
  simpa using h
theorem turn64 (b : Nat) (hb : b < B64) : bits .xor .u64 IntKind.u64.max (b : Int) = ((18446744073709551615 - b : Nat) : Int) := by
  have h := u64_xor 18446744073709551615 (b : Int) (by decide) (by decide) (by omega) (by simp only [B64] at hb; omega)
  rw [show IntKind.u64.max = 18446744073709551615 from rfl, h, show (18446744073709551615 : Int).toNat = 18446744073709551615 from rfl, Int.toNat_natCast, not64 b hb]
theorem minus_sum (a b0 b1 b2 b3 T C : Nat) (hb0 : b0 < B64) (hb1 : b1 < B64) (hb2 : b2 < B64) (hb3 : b3 < B64) (h1 : T % FP = (a + n4 (18446744073709551615 - b0) (18446744073709551615 - b1) (18446744073709551615 - b2) (18446744073709551615 - b3)) % FP)
    (h2 : C % FP = (T + n4 18446744073709551541 18446744073709551615 18446744073709551615 18446744073709551615) % FP) : (C + n4 b0 b1 b2 b3) % FP = a % FP := by
  rw [fp_eq] at *
  simp only [n4, B64] at *
  omega
set_option maxHeartbeats 1000000 in
theorem minus_any (w : World) (a0 a1 a2 a3 b0 b1 b2 b3 : Nat) (ha0 : a0 < B64) (ha1 : a1 < B64) (ha2 : a2 < B64) (ha3 : a3 < B64) (hb0 : b0 < B64) (hb1 : b1 < B64) (hb2 : b2 < B64) (hb3 : b3 < B64) :
    Calls Tryd.prog 33 #[.agg (u64v [a0, a1, a2, a3]).toArray, .agg (u64v [b0, b1, b2, b3]).toArray] w fun e w' => ∃ c0 c1 c2 c3 : Nat, e = .returned (.agg (u64v [c0, c1, c2, c3]).toArray) ∧
      Vlt ((n4 c0 c1 c2 c3 + n4 b0 b1 b2 b3) % FP = n4 a0 a1 a2 a3 % FP) ∧ (c0 < B64 ∧ c1 < B64 ∧ c2 < B64 ∧ c3 < B64) ∧ Below w.heap.size w w' := by
  have hzn := zero_n4
  obtain ⟨W, hW, hgA, hgB, hgZ, hbW, hsW⟩ := three_new w (u64v [a0, a1, a2, a3]).toArray (u64v [b0, b1, b2, b3]).toArray (u64v z4).toArray 35 35 35
  have HW := Lib.hid hW
  have hs1 : w.heap.size + 2 < W.heap.size := by have := hsW.out; omega
  clear hW
  have cb0 : W.cell? ⟨w.heap.size + 1, 0, none⟩ = some (.int .u64 (b0 : Int)) := long_at hgB.out 0 (by simp)
  have cb1 : W.cell? ⟨w.heap.size + 1, 1, none⟩ = some (.int .u64 (b1 : Int)) := long_at hgB.out 1 (by simp)
  have cb2 : W.cell? ⟨w.heap.size + 1, 2, none⟩ = some (.int .u64 (b2 : Int)) := long_at hgB.out 2 (by simp)
  have cb3 : W.cell? ⟨w.heap.size + 1, 3, none⟩ = some (.int .u64 (b3 : Int)) := long_at hgB.out 3 (by simp)
  go_enter Tryd.func33, Tryd.ntmps33
  go_upto_region 1 with fail
  rw [HW.out]
  go_wp2_with (first
    | (with_reducible refine wpList_load_row rfl 35 (.tmp 2) rfl w.heap.size rfl 35 (u64v [a0, a1, a2, a3]).toArray (0, 0) _ hgA.out Tryd.underlying35 rfl (by kernel_rfl) ?_))
  rw [turn64 b0 hb0, turn64 b1 hb1, turn64 b2 hb2, turn64 b3 hb3]
  have HM := fun T C => minus_sum (n4 a0 a1 a2 a3) b0 b1 b2 b3 T C hb0 hb1 hb2 hb3
  have l0 : 18446744073709551615 - b0 < B64 := by simp only [B64]; omega
  have l1 : 18446744073709551615 - b1 < B64 := by simp only [B64]; omega
  have l2 : 18446744073709551615 - b2 < B64 := by simp only [B64]; omega
  have l3 : 18446744073709551615 - b3 < B64 := by simp only [B64]; omega
  generalize 18446744073709551615 - b0 = d0 at *
  generalize 18446744073709551615 - b1 = d1 at *
  generalize 18446744073709551615 - b2 = d2 at *
  generalize 18446744073709551615 - b3 = d3 at *
  refine (plus_any W a0 a1 a2 a3 d0 d1 d2 d3 ha0 ha1 ha2 ha3 l0 l1 l2 l3).mono ?_
  rintro e w1 ⟨t0, t1, t2, t3, rfl, e1, ⟨lt0, lt1, lt2, lt3⟩, hb1'⟩
  have hz1 : Hid (w1.heap[w.heap.size + 1 + 1]? = some (.cells (u64v z4).toArray 35 (0, 0))) := (hb1'.block _ (by omega)).trans hgZ.out
  have hbw := below_next hbW hbW.size hb1'
  have hs2 : w.heap.size + 2 < w1.heap.size := by have := hb1'.size; omega
  go_wp2_with fail
  refine (beneath_256 w1).mono ?_
  rintro e w2 ⟨rfl, hb2'⟩
  have hz2 : Hid (w2.heap[w.heap.size + 1 + 1]? = some (.cells (u64v z4).toArray 35 (0, 0))) := (hb2'.block _ (by omega)).trans hz1.out
  have hbw2 := below_next hbw hbw.size hb2'
  have hs3 : w.heap.size + 2 < w2.heap.size := by have := hb2'.size; omega
  go_wp2_with fail
  refine (plus_any w2 t0 t1 t2 t3 18446744073709551541 18446744073709551615 18446744073709551615 18446744073709551615 lt0 lt1 lt2 lt3 (by decide) (by decide) (by decide) (by decide)).mono ?_
  rintro e w3 ⟨c0, c1, c2, c3, rfl, e2, lc, hb3'⟩
  have HE := vlt (HM _ _ e1.out e2.out)
  clear e1 e2 HM
  have hz3 : Hid (w3.heap[w.heap.size + 1 + 1]? = some (.cells (u64v z4).toArray 35 (0, 0))) := (hb3'.block _ (by omega)).trans hz2.out
  have hbw3 := below_next hbw2 hbw2.size hb3'
  go_wp2_with (with_reducible refine wpList_store_row rfl 35 (.tmp 4) (.tmp 21) rfl (w.heap.size + 1 + 1) (u64v [c0, c1, c2, c3]).toArray rfl rfl 35 _ hz3.out (by kernel_rfl) (by kernel_rfl) (all_oneCell_toArray (u64v_one _)) ?_)
  refine bodyPost_ret (v := .agg (u64v [c0, c1, c2, c3]).toArray) (results_cell_row Tryd.results33 _ _ (w.heap.size + 1 + 1) 35 _ (0, 0) _ rfl (setRow_heap _ _ _ _ _ _ hz3.out) Tryd.underlying35 rfl (by kernel_rfl)) rfl ⟨c0, c1, c2, c3, rfl, HE, lc, below_setRow hbw3 (by omega) _⟩

theorem ln_split (l : List UInt8) (k : Nat) (h : k ≤ l.length) : ln (l.take k) + 256 ^ k * ln (l.drop k) = ln l := by
  induction k generalizing l with
  | zero => simp [ln]
  | succ k ih =>
    cases l with
    | nil => simp at h
    | cons b r =>
      rw [List.take_succ_cons, List.drop_succ_cons, ln, ln, ← ih r (by simpa using h), Nat.pow_succ]
      grind
theorem ln_four (b : List UInt8) (h : b.length = 32) : n4 (ln ((b.drop 0).take 8)) (ln ((b.drop 8).take 8)) (ln ((b.drop 16).take 8)) (ln ((b.drop 24).take 8)) = ln b := by
  have h1 := ln_split b 8 (by omega)
  have h2 : ln ((b.drop 8).take 8) + 256 ^ 8 * ln (b.drop 16) = ln (b.drop 8) := by have := ln_split (b.drop 8) 8 (by simp; omega); rw [List.drop_drop] at this; exact this
  have h3 : ln ((b.drop 16).take 8) + 256 ^ 8 * ln (b.drop 24) = ln (b.drop 16) := by have := ln_split (b.drop 16) 8 (by simp; omega); rw [List.drop_drop] at this; exact this
  have h4 : (b.drop 24).take 8 = b.drop 24 := List.take_of_length_le (by simp; omega)
  rw [h4, List.drop_zero, ← h1, ← h2, ← h3]
  simp only [n4]
  omega
set_option maxRecDepth 100000 in
set_option maxHeartbeats 1000000 in
theorem numberOf_any (w : World) (b : List UInt8) (hb : b.length = 32) :
    Calls Tryd.prog 27 #[.agg (bv b).toArray] w fun e w' => ∃ a0 a1 a2 a3, e = .returned (.agg (u64v [a0, a1, a2, a3]).toArray) ∧ Vlt (n4 a0 a1 a2 a3 = ln b) ∧ (a0 < B64 ∧ a1 < B64 ∧ a2 < B64 ∧ a3 < B64) ∧ Below w.heap.size w w' := by
  have hzn := zero_n4
  obtain ⟨W, hW, hgA, hgZ, hbW, hsW⟩ := pair_new w (bv b).toArray (u64v z4).toArray 24 35
  have HW := Lib.hid hW
  have HB := Lib.hid hb
  have hs1 : w.heap.size + 1 < W.heap.size := by have := hsW.out; omega
  clear hW hb
  have hc1 := cut_h Tryd.underlying24 Tryd.sizeByte w.heap.size 0 8 8 rfl (by decide) (by decide)
  have hc2 := cut_lh Tryd.underlying24 Tryd.sizeByte w.heap.size 0 8 16 8 16 rfl rfl (by decide) (by decide) (by decide)
  have hc3 := cut_lh Tryd.underlying24 Tryd.sizeByte w.heap.size 0 16 24 16 24 rfl rfl (by decide) (by decide) (by decide)
  have hc4 := cut_l Tryd.underlying24 Tryd.sizeByte w.heap.size 0 24 24 rfl (by decide)
  go_enter Tryd.func27, Tryd.ntmps27
  go_upto_region 1 with fail
  rw [HW.out]
  have hb1 := byt_mid hgA.out 0 8
  have hb2 := byt_mid hgA.out 8 8
  have hb3 := byt_mid hgA.out 16 8
  have hb4 := byt_mid hgA.out 24 8
  have hl1 : ((b.drop 0).take 8).length = 8 := by simp [HB.out]
  have hl2 : ((b.drop 8).take 8).length = 8 := by simp [HB.out]
  have hl3 : ((b.drop 16).take 8).length = 8 := by simp [HB.out]
  have hl4 : ((b.drop 24).take 8).length = 8 := by simp [HB.out]
  have q1 := ln_lt 8 _ hl1
  have q2 := ln_lt 8 _ hl2
  have q3 := ln_lt 8 _ hl3
  have q4 := ln_lt 8 _ hl4
  have hsum := vlt (ln_four b HB.out)
  generalize (b.drop 0).take 8 = b1 at *
  generalize (b.drop 8).take 8 = b2 at *
  generalize (b.drop 16).take 8 = b3 at *
  generalize (b.drop 24).take 8 = b4 at *
  go_wp2_with fail
  refine (fromLittle_ok _ b1 8 32 W hb1 hl1 (by decide)).mono ?_
  rintro e w' ⟨rfl, rfl⟩
  go_wp2_with fail
  refine (fromLittle_ok _ b2 8 24 W hb2 hl2 (by decide)).mono ?_
  rintro e w' ⟨rfl, rfl⟩
  go_wp2_with fail
  refine (fromLittle_ok _ b3 8 16 W hb3 hl3 (by decide)).mono ?_
  rintro e w' ⟨rfl, rfl⟩
  go_wp2_with fail
  refine (fromLittle_ok _ b4 8 8 W hb4 hl4 (by decide)).mono ?_
  rintro e w' ⟨rfl, rfl⟩
  generalize ln b1 = x0 at *
  generalize ln b2 = x1 at *
  generalize ln b3 = x2 at *
  generalize ln b4 = x3 at *
  go_wp2_with (with_reducible refine wpList_store_row rfl 35 (.tmp 2) (.tmp 35) rfl (w.heap.size + 1) (u64v [x0, x1, x2, x3]).toArray rfl rfl 35 _ hgZ.out (by kernel_rfl) (by kernel_rfl) (all_oneCell_toArray (u64v_one _)) ?_)
  refine bodyPost_ret (v := .agg (u64v [x0, x1, x2, x3]).toArray) (results_cell_row Tryd.results27 _ _ (w.heap.size + 1) 35 _ (0, 0) _ rfl (setRow_heap _ _ _ _ _ _ hgZ.out) Tryd.underlying35 rfl (by kernel_rfl)) rfl ⟨x0, x1, x2, x3, rfl, hsum, ⟨q1, q2, q3, q4⟩, below_setRow hbW (by omega) _⟩
end Go.Proofs.YtpnodegmegpooaaDoor
