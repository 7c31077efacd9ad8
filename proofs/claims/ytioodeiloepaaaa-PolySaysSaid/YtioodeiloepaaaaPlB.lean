/-
  Contract of poly's carried. Conditions: pieces below 2^62.
-/
import Derived.Test.YtioodeiloepaaaaPlA
namespace Go.Proofs.Ytioodeiloepaaaa
open Go.RowKit

/-- The first k pieces carried, and what is over. -/
def cst (l : List Nat) : Nat → List Nat × Nat
  | 0 => (l, 0)
  | k + 1 => ((cst l k).1.set k ((natAt (cst l k).1 k + (cst l k).2) % 67108864), (natAt (cst l k).1 k + (cst l k).2) / 67108864)
theorem cst_len (l : List Nat) : ∀ k, (cst l k).1.length = l.length
  | 0 => rfl
  | k + 1 => by rw [cst, List.length_set, cst_len l k]
theorem cst_at (l : List Nat) (k : Nat) : ∀ j, j ≤ k → natAt (cst l j).1 k = natAt l k
  | 0, _ => rfl
  | j + 1, h => by
    have ih := cst_at l k j (by omega)
    simp only [natAt, cst] at *
    rw [List.getD_eq_getElem?_getD, List.getElem?_set_ne (by omega), ← List.getD_eq_getElem?_getD]; exact ih
theorem cst_over (l : List Nat) (bl : ∀ x ∈ l, x < 4611686018427387904) : ∀ k, (cst l k).2 < 137438953472
  | 0 => by show 0 < _; decide
  | k + 1 => by
    have ih := cst_over l bl k
    have h1 := cst_at l k k (Nat.le_refl _)
    have h2 : natAt l k < 4611686018427387904 := getD_lt bl (by decide) k
    show (natAt (cst l k).1 k + (cst l k).2) / 67108864 < _
    omega
def carOf (l : List Nat) : List Nat := (cst l 5).1.set 0 (natAt (cst l 5).1 0 + 5 * (cst l 5).2)
theorem carOf_len (l : List Nat) : (carOf l).length = l.length := by rw [carOf, List.length_set, cst_len]
theorem carOf_five (a0 a1 a2 a3 a4 : Nat) : ∃ v1 v2 v3 v4 o, carOf [a0, a1, a2, a3, a4] = [a0 % 67108864 + 5 * o, v1 % 67108864, v2 % 67108864, v3 % 67108864, v4 % 67108864] ∧ v1 = a1 + a0 / 67108864 ∧ v2 = a2 + v1 / 67108864 ∧ v3 = a3 + v2 / 67108864 ∧ v4 = a4 + v3 / 67108864 ∧ o = v4 / 67108864 :=
  ⟨_, _, _, _, _, rfl, rfl, rfl, rfl, rfl, rfl⟩
/-- Carried twice: the same number modulo the prime, in pieces that are small. -/
theorem car_twice (a0 a1 a2 a3 a4 : Nat) (h0 : a0 < 576460752303423488) (h1 : a1 < 576460752303423488) (h2 : a2 < 576460752303423488) (h3 : a3 < 576460752303423488) (h4 : a4 < 576460752303423488) :
    ∃ c0 c1 c2 c3 c4, carOf (carOf [a0, a1, a2, a3, a4]) = [c0, c1, c2, c3, c4] ∧ nv a0 a1 a2 a3 a4 % PP = nv c0 c1 c2 c3 c4 % PP ∧ c0 < 67108870 ∧ c1 < 67108864 ∧ c2 < 67108864 ∧ c3 < 67108864 ∧ c4 < 67108864 ∧
      (∀ x ∈ carOf [a0, a1, a2, a3, a4], x < 4611686018427387904) := by
  obtain ⟨v1, v2, v3, v4, o, e, e1, e2, e3, e4, e5⟩ := carOf_five a0 a1 a2 a3 a4
  rw [e]
  have hs := carry_sum a0 a1 a2 a3 a4 v1 v2 v3 v4 o e1 e2 e3 e4 e5
  have ho : o < 17179869184 := by omega
  generalize hb0 : a0 % 67108864 + 5 * o = b0 at *
  generalize hb1 : v1 % 67108864 = b1 at *
  generalize hb2 : v2 % 67108864 = b2 at *
  generalize hb3 : v3 % 67108864 = b3 at *
  generalize hb4 : v4 % 67108864 = b4 at *
  have l0 : b0 < 137438953472 := by omega
  have l1 : b1 < 67108864 := by omega
  have l2 : b2 < 67108864 := by omega
  have l3 : b3 < 67108864 := by omega
  have l4 : b4 < 67108864 := by omega
  clear hb0 hb1 hb2 hb3 hb4 e e1 e2 e3 e4 e5
  obtain ⟨u1, u2, u3, u4, q, k, k1, k2, k3, k4, k5⟩ := carOf_five b0 b1 b2 b3 b4
  have ht := carry_sum b0 b1 b2 b3 b4 u1 u2 u3 u4 q k1 k2 k3 k4 k5
  have hq : q ≤ 1 := by omega
  refine ⟨_, _, _, _, _, k, ?_, by omega, by omega, by omega, by omega, by omega, ?_⟩
  · rw [mod_of_eq hs, mod_of_eq ht]
  · intro x hx
    simp only [List.mem_cons, List.not_mem_nil, or_false] at hx
    omega

set_option maxRecDepth 100000 in
set_option maxHeartbeats 1000000 in
theorem carried_any (w : World) (l : List Nat) (hl : l.length = 5) (bl : ∀ x ∈ l, x < 4611686018427387904) :
    Calls Try.prog 30 #[.agg (u64v l).toArray] w fun e w' => e = .returned (.agg (u64v (carOf l)).toArray) ∧ Below w.heap.size w w' := by
  have hzn := zero_num
  obtain ⟨W, hW, hgA, hgZ, hbW, hsW⟩ := pair_new w (u64v l).toArray (u64v z5).toArray 41 41
  have HW := Lib.hid hW
  have HL := Lib.hid hl
  have BL := Lib.hid bl
  have hs1 : w.heap.size + 1 < W.heap.size := by have := hsW.out; omega
  clear hW hl bl
  go_enter Try.func30, Try.ntmps30
  go_upto_region 1 with fail
  rw [HW.out]
  go_wp2_with fail
  go_loopw [3, 5] (fun o i wr => ∃ k q : Nat, k ≤ 5 ∧ i = .int .i64 (k : Int) ∧ o = .int .u64 (q : Int) ∧ q < 137438953472 ∧ Hid (q = (cst l k).2) ∧ Hid (wr.heap[w.heap.size]? = some (.cells (u64v (cst l k).1).toArray 41 (0, 0))) ∧ But w.heap.size W wr) (fun _ i _ => 5 - (intOf i).toNat)
  case atStart => exact ⟨0, 0, by omega, rfl, rfl, by decide, rfl, hgA, But.refl _ _⟩
  case round =>
    obtain ⟨k, q, hk, rfl, rfl, lq, hq, hg, hbt⟩ := hrel
    by_cases hlt : k < 5
    · obtain ⟨X, hX⟩ : ∃ X, X = (cst l k).1 := ⟨_, rfl⟩
      rw [← hX] at hg
      have HXL := Lib.hid (show X.length = 5 by rw [hX, cst_len]; exact HL.out)
      have bx : natAt X k < 4611686018427387904 := by rw [hX, cst_at l k k (Nat.le_refl _)]; exact getD_lt BL.out (by decide) k
      have HX1 := vlt (show (cst l (k + 1)).1 = X.set k ((natAt X k + q) % 67108864) by rw [hX, hq.out]; rfl)
      have HX2 := vlt (show (cst l (k + 1)).2 = (natAt X k + q) / 67108864 by rw [hX, hq.out]; rfl)
      clear hX
      have c0 := long_at hg.out k (by rw [HXL.out]; exact hlt)
      have f0 : wr.frozen? ⟨w.heap.size, k, none⟩ = false := frozen_of_row _ _ _ _ _ hg.out
      generalize natAt X k = x0 at *
      have e1 := and26 (x0 + q) (by omega)
      rw [Int.natCast_add] at e1
      have e2 : ((x0 : Int) + (q : Int)) / 67108864 = (((x0 + q) / 67108864 : Nat) : Int) := by omega
      have lq2 : (x0 + q) / 67108864 < 137438953472 := by omega
      have hset : Hid (((wr.setCell ⟨w.heap.size, k, none⟩ (.int .u64 ((x0 : Int) + (q : Int)))).setCell ⟨w.heap.size, k, none⟩ (.int .u64 (((x0 + q) % 67108864 : Nat) : Int))).heap[w.heap.size]? = some (.cells (u64v (cst l (k + 1)).1).toArray 41 (0, 0))) := by
        have h1 := (world_set_cell (world_set_cell hg.out k (.int .u64 ((x0 : Int) + (q : Int)))).out k (.int .u64 (((x0 + q) % 67108864 : Nat) : Int))).out
        rw [List.set_set, u64v_set, ← HX1.out] at h1
        exact h1
      have hb2 := (hbt.set (i := k) (.int .u64 ((x0 : Int) + (q : Int)))).set (i := k) (.int .u64 (((x0 + q) % 67108864 : Nat) : Int))
      generalize (x0 + q) % 67108864 = m at *
      generalize (x0 + q) / 67108864 = d at *
      go_wp2
      exact ⟨⟨k + 1, d, by omega, by go_num, rfl, lq2, show _ = _ from HX2.out.symm, hset, hb2⟩, by simp [intOf]; omega⟩
    · obtain ⟨X, hX⟩ : ∃ X, X = (cst l k).1 := ⟨_, rfl⟩
      have hk5 : k = 5 := by omega
      rw [← hX] at hg
      have HXL := Lib.hid (show X.length = 5 by rw [hX, cst_len]; exact HL.out)
      have HC := Lib.hid (show carOf l = X.set 0 (natAt X 0 + 5 * q) by rw [hX, hq.out, hk5, carOf])
      have bx : natAt X 0 < 4611686018427387904 := by
        rw [hX, hk5]
        show (cst l 5).1.getD 0 0 < _
        have h0 := (cst_at l 0 0 (Nat.le_refl _))
        have h1 : natAt (cst l 5).1 0 < 67108864 := by
          obtain ⟨L0, L1, L2, L3, L4, hL⟩ : ∃ a b c d e, l = [a, b, c, d, e] := by
            match l, HL.out with
            | [a, b, c, d, e], _ => exact ⟨a, b, c, d, e, rfl⟩
          rw [hL]
          show L0 % 67108864 < _
          omega
        simp only [natAt] at h1
        omega
      clear hX hk5
      have c0 := long_at hg.out 0 (by rw [HXL.out]; decide)
      have f0 : wr.frozen? ⟨w.heap.size, 0, none⟩ = false := frozen_of_row _ _ _ _ _ hg.out
      have hset : Hid ((wr.setCell ⟨w.heap.size, 0, none⟩ (.int .u64 ((natAt X 0 : Int) + 5 * (q : Int)))).heap[w.heap.size]? = some (.cells (u64v (carOf l)).toArray 41 (0, 0))) := by
        have h1 := (world_set_cell hg.out 0 (.int .u64 ((natAt X 0 + 5 * q : Nat) : Int))).out
        rw [u64v_set, ← HC.out, Int.natCast_add, Int.natCast_mul] at h1
        exact h1
      have hb2 := hbt.set (i := 0) (.int .u64 ((natAt X 0 : Int) + 5 * (q : Int)))
      obtain ⟨Y, hY⟩ : ∃ Y, Y = carOf l := ⟨_, rfl⟩
      have hsY := Lib.hid (show (u64v Y).toArray.size = 5 by simp [u64v_len, hY, carOf_len, HL.out])
      rw [← hY] at hset
      have HY := Lib.hid hY
      clear hY hg hbt HC
      generalize natAt X 0 = x0 at *
      go_upto_region 10 with fail
      generalize wr.setCell ⟨w.heap.size, 0, none⟩ (.int .u64 ((x0 : Int) + 5 * (q : Int))) = w3 at *
      have hz : Hid (w3.heap[w.heap.size + 1]? = some (.cells (u64v z5).toArray 41 (0, 0))) := (hb2.block _ (by omega) (by intro e; injection e; omega)).trans hgZ.out
      have hbw : Below w.heap.size w w3 := But.below hbW hb2 (by omega) (by omega)
      go_wp2_with (first
        | (with_reducible refine wpList_load_row rfl 41 (.tmp 1) rfl w.heap.size rfl 41 (u64v Y).toArray (0, 0) _ hset.out Try.underlying41 rfl (by rw [hsY.out]; kernel_rfl) ?_)
        | (with_reducible refine wpList_store_row rfl 41 (.tmp 2) (.tmp 30) rfl (w.heap.size + 1) (u64v Y).toArray rfl rfl 41 _ hz.out (by rw [hsY.out]; kernel_rfl) (by rw [hsY.out]; kernel_rfl) (all_oneCell_toArray (u64v_one _)) ?_))
      refine bodyPost_ret (v := .agg (u64v Y).toArray) (results_cell_row Try.results30 _ _ (w.heap.size + 1) 41 _ (0, 0) _ rfl (setRow_heap _ _ _ _ _ _ hz.out) Try.underlying41 rfl (by rw [hsY.out]; kernel_rfl)) rfl ⟨by rw [HY.out], below_setRow hbw (by omega) _⟩
end Go.Proofs.Ytioodeiloepaaaa
