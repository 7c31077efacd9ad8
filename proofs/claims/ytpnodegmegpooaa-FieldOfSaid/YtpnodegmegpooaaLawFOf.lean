/-
  FieldOf: the law's Go text returns true, whatever the input. Conditions: none beyond the row's own.
-/
import Derived.Test.YtpnodegmegpooaaFdY
import Derived.IntWalk
namespace Go.Proofs.Ytpnodegmegpooaa
open Go.RowKit

set_option maxRecDepth 100000 in
set_option maxHeartbeats 4000000 in
theorem walk_FieldOf (w : World) (a : Int) (wa : (Lit.int .i32 a).wf = true) (b : Int) (wb : (Lit.int .i32 b).wf = true) :
    Calls Try.prog 6 #[.int .i32 a, .int .i32 b] w fun e w' => e = .returned (.bool true) ∧ Below w.heap.size w w' := by
  have hzw := zero_word
  obtain ⟨ha, ha2⟩ : -2147483648 ≤ a ∧ a ≤ 2147483647 := by simpa [Lit.wf, IntKind.min, IntKind.max, IntKind.signed, IntKind.bits] using wa
  obtain ⟨hb, hb2⟩ : -2147483648 ≤ b ∧ b ≤ 2147483647 := by simpa [Lit.wf, IntKind.min, IntKind.max, IntKind.signed, IntKind.bits] using wb
  obtain ⟨hp1, hp2⟩ := prod32 a b ha ha2 hb hb2
  have hpw : IntKind.i64.wrap (a * b) = a * b := IntWalk.i64_in _ (by omega)
  go_enter Try.func6, Try.ntmps6
  go_wp2_with fail
  refine (awake7_any w).mono ?_
  rintro e W ⟨rfl, hbW⟩
  go_wp2_with fail
  refine (of_any W a (by omega) (by omega)).mono ?_
  rintro e W1 ⟨X, rfl, eX, HX, hb1'⟩
  have hbw1' := below_next hbW hbW.size hb1'
  go_wp2_with fail
  refine (of_any W1 b (by omega) (by omega)).mono ?_
  rintro e W2 ⟨Y, rfl, eY, HY, hb2'⟩
  have hbw2' := below_next hbw1' hbw1'.size hb2'
  have HXY : decide (X = Y) = decide (a = b) := by
    have hxy : X = Y ↔ a = b := by
      constructor
      · intro h
        have h1 : wo (ofF a) = wo (ofF b) := eX.out.symm.trans (h.trans eY.out)
        have h2 := wo_inj h1
        rw [Nat.mod_eq_of_lt (ofF_lt a), Nat.mod_eq_of_lt (ofF_lt b)] at h2
        exact ofF_inj a b (by omega) (by omega) (by omega) (by omega) h2
      · rintro rfl
        exact eX.out.trans eY.out.symm
    simp [hxy]
  have qXY := eql_bytes (P := Try.prog) Try.underlying23 Try.underlying5 Try.sizeByte X Y HX.out HY.out
  have HXS := Lib.hid (bv_size X HX.out)
  have HYS := Lib.hid (bv_size Y HY.out)
  go_upto_region 4 with (first
    | (with_reducible refine wpList_store_row rfl 23 (.tmp 5) (.tmp 11) rfl W2.heap.size (bv X).toArray rfl rfl 23 _ (heap_alloc2_old _ _ _) (by rw [HXS.out]; kernel_rfl) (by rw [HXS.out]; kernel_rfl) (all_oneCell_toArray (bv_one _)) ?_)
    | (with_reducible refine wpList_store_row rfl 23 (.tmp 6) (.tmp 14) rfl (W2.heap.size + 1) (bv Y).toArray rfl rfl 23 _ ((setRow_other _ _ _ _ (by omega)).trans (heap_alloc2_new _ _ _)) (by rw [HYS.out]; kernel_rfl) (by rw [HYS.out]; kernel_rfl) (all_oneCell_toArray (bv_one _)) ?_))
  obtain ⟨u0, hu0⟩ : ∃ u0, u0 = (((W2.alloc (.cells (bv z32).toArray 23)).alloc (.cells (bv z32).toArray 23)).setRow W2.heap.size (bv X).toArray).setRow (W2.heap.size + 1) (bv Y).toArray := ⟨_, rfl⟩
  rw [← hu0]
  obtain ⟨G, hG⟩ : ∃ G, G = W2.heap.size := ⟨_, rfl⟩
  obtain ⟨H, hH⟩ : ∃ H, H = W2.heap.size + 1 := ⟨_, rfl⟩
  have gx0 : Hid (u0.heap[G]? = some (.cells (bv X).toArray 23 (0, 0))) := by rw [hu0, hG]; exact (setRow_other _ _ _ _ (by omega)).trans (setRow_heap _ _ _ _ _ _ (heap_alloc2_old _ _ _))
  have gy0 : Hid (u0.heap[H]? = some (.cells (bv Y).toArray 23 (0, 0))) := by rw [hu0, hH]; exact setRow_heap _ _ _ _ _ _ ((setRow_other _ _ _ _ (by omega)).trans (heap_alloc2_new _ _ _))
  have hbw0 : Below w.heap.size w u0 := by rw [hu0]; exact below_setRow (below_setRow ((hbw2'.alloc hbw2'.size _).alloc (by have := hbw2'.size; simp; omega) _) hbw2'.size _) (by have := hbw2'.size; omega) _
  rw [← hH, ← hG]
  clear hu0 hG hH
  have sgx0 : G < u0.heap.size := (Array.getElem?_eq_some_iff.1 gx0.out).1
  have sgy0 : H < u0.heap.size := (Array.getElem?_eq_some_iff.1 gy0.out).1
  go_wp2_with (first
    | (with_reducible refine wpList_load_row rfl 23 (.tmp 5) rfl G rfl 23 (bv X).toArray (0, 0) _ gx0.out Try.underlying23 rfl (by rw [bv_size X HX.out]; kernel_rfl) ?_)
    | (with_reducible refine wpList_load_row rfl 23 (.tmp 6) rfl H rfl 23 (bv Y).toArray (0, 0) _ gy0.out Try.underlying23 rfl (by rw [bv_size Y HY.out]; kernel_rfl) ?_))
  refine (add_any _ X Y (HX.out) (HY.out)).mono ?_
  rintro e u1 ⟨v17, rfl, e17, h17, hb1⟩
  have gx1 := Lib.hid ((hb1.block _ sgx0).trans gx0.out)
  have sgx1 := Nat.lt_of_lt_of_le sgx0 hb1.size
  have gy1 := Lib.hid ((hb1.block _ sgy0).trans gy0.out)
  have sgy1 := Nat.lt_of_lt_of_le sgy0 hb1.size
  have hbw1 := below_next hbw0 hbw0.size hb1
  go_wp2_with fail
  refine (of_any _ (a + b) (by omega) (by omega)).mono ?_
  rintro e u2 ⟨v23, rfl, e23, h23, hb2⟩
  have gx2 := Lib.hid ((hb2.block _ sgx1).trans gx1.out)
  have sgx2 := Nat.lt_of_lt_of_le sgx1 hb2.size
  have gy2 := Lib.hid ((hb2.block _ sgy1).trans gy1.out)
  have sgy2 := Nat.lt_of_lt_of_le sgy1 hb2.size
  have hbw2 := below_next hbw1 hbw1.size hb2
  obtain rfl : v17 = v23 := by rw [e17.out, e23.out]; refine wo_of ?_; rw [eX.out, eY.out, ln_wo, ln_wo, Nat.mod_add_mod, Nat.add_mod_mod]; exact ofF_add a b
  have q0 := eql_bytes_same (P := Try.prog) Try.underlying23 Try.underlying5 Try.sizeByte v17 (h17.out)
  go_wp2_with (first
    | (with_reducible refine wpList_load_row_w (by kernel_rfl) 23 (.tmp 5) rfl G rfl 23 (bv X).toArray (0, 0) _ gx2.out Try.underlying23 rfl (by rw [bv_size X HX.out]; kernel_rfl) ?_)
    | (with_reducible refine wpList_load_row_w (by kernel_rfl) 23 (.tmp 6) rfl H rfl 23 (bv Y).toArray (0, 0) _ gy2.out Try.underlying23 rfl (by rw [bv_size Y HY.out]; kernel_rfl) ?_))
  refine (sub_any _ X Y (HX.out) (HY.out)).mono ?_
  rintro e u3 ⟨v28, rfl, e28, h28, hb3⟩
  have gx3 := Lib.hid ((hb3.block _ sgx2).trans gx2.out)
  have sgx3 := Nat.lt_of_lt_of_le sgx2 hb3.size
  have gy3 := Lib.hid ((hb3.block _ sgy2).trans gy2.out)
  have sgy3 := Nat.lt_of_lt_of_le sgy2 hb3.size
  have hbw3 := below_next hbw2 hbw2.size hb3
  go_wp2_with fail
  refine (of_any _ (a - b) (by omega) (by omega)).mono ?_
  rintro e u4 ⟨v34, rfl, e34, h34, hb4⟩
  have gx4 := Lib.hid ((hb4.block _ sgx3).trans gx3.out)
  have sgx4 := Nat.lt_of_lt_of_le sgx3 hb4.size
  have gy4 := Lib.hid ((hb4.block _ sgy3).trans gy3.out)
  have sgy4 := Nat.lt_of_lt_of_le sgy3 hb4.size
  have hbw4 := below_next hbw3 hbw3.size hb4
  obtain rfl : v28 = v34 := by rw [e28.out, e34.out]; refine wo_of ?_; rw [eX.out, eY.out, ln_wo, ln_wo, subF_mod]; exact ofF_sub a b
  have q1 := eql_bytes_same (P := Try.prog) Try.underlying23 Try.underlying5 Try.sizeByte v28 (h28.out)
  go_wp2_with (first
    | (with_reducible refine wpList_eql_w (by kernel_rfl) 23 _ (.tmp 28) (.tmp 34) rfl (by kernel_rfl) (bv v28).toArray (bv v28).toArray rfl rfl true (q1 _) ?_)
    | (with_reducible refine wpList_load_row_w (by kernel_rfl) 23 (.tmp 5) rfl G rfl 23 (bv X).toArray (0, 0) _ gx4.out Try.underlying23 rfl (by rw [bv_size X HX.out]; kernel_rfl) ?_)
    | (with_reducible refine wpList_load_row_w (by kernel_rfl) 23 (.tmp 6) rfl H rfl 23 (bv Y).toArray (0, 0) _ gy4.out Try.underlying23 rfl (by rw [bv_size Y HY.out]; kernel_rfl) ?_))
  refine (mul_any _ X Y (HX.out) (HY.out)).mono ?_
  rintro e u5 ⟨v40, rfl, e40, h40, hb5⟩
  have gx5 := Lib.hid ((hb5.block _ sgx4).trans gx4.out)
  have sgx5 := Nat.lt_of_lt_of_le sgx4 hb5.size
  have gy5 := Lib.hid ((hb5.block _ sgy4).trans gy4.out)
  have sgy5 := Nat.lt_of_lt_of_le sgy4 hb5.size
  have hbw5 := below_next hbw4 hbw4.size hb5
  go_wp2_with fail
  refine (of_any _ (a * b) (by omega) (by omega)).mono ?_
  rintro e u6 ⟨v46, rfl, e46, h46, hb6⟩
  have gx6 := Lib.hid ((hb6.block _ sgx5).trans gx5.out)
  have sgx6 := Nat.lt_of_lt_of_le sgx5 hb6.size
  have gy6 := Lib.hid ((hb6.block _ sgy5).trans gy5.out)
  have sgy6 := Nat.lt_of_lt_of_le sgy5 hb6.size
  have hbw6 := below_next hbw5 hbw5.size hb6
  obtain rfl : v40 = v46 := by rw [e40.out, e46.out]; refine wo_of ?_; rw [eX.out, eY.out, ln_wo, ln_wo, Nat.mod_mul_mod, Nat.mul_mod_mod]; exact ofF_mul a b
  have q2 := eql_bytes_same (P := Try.prog) Try.underlying23 Try.underlying5 Try.sizeByte v40 (h40.out)
  go_wp2_with (first
    | (with_reducible refine wpList_eql_w (by kernel_rfl) 23 _ (.tmp 40) (.tmp 46) rfl (by kernel_rfl) (bv v40).toArray (bv v40).toArray rfl rfl true (q2 _) ?_)
    | (with_reducible refine wpList_load_row_w (by kernel_rfl) 23 (.tmp 5) rfl G rfl 23 (bv X).toArray (0, 0) _ gx6.out Try.underlying23 rfl (by rw [bv_size X HX.out]; kernel_rfl) ?_)
    | (with_reducible refine wpList_load_row_w (by kernel_rfl) 23 (.tmp 6) rfl H rfl 23 (bv Y).toArray (0, 0) _ gy6.out Try.underlying23 rfl (by rw [bv_size Y HY.out]; kernel_rfl) ?_)
    | (with_reducible refine wpList_eql_w (by kernel_rfl) 23 _ (.tmp 50) (.tmp 51) rfl (by kernel_rfl) (bv X).toArray (bv Y).toArray rfl rfl (decide (X = Y)) (qXY _) ?_))
  rw [show (decide (a = b) == (a == b)) = true by by_cases h : a = b <;> simp [h]]
  go_ret
  exact ⟨rfl, hbw6⟩
end Go.Proofs.Ytpnodegmegpooaa
