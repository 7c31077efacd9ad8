/-
  Contract of field's power. Conditions: none.
-/
import Derived.Test.YtpnodegmegpooaaDoorFdM
namespace Go.Proofs.YtpnodegmegpooaaDoor
open Go.RowKit

def topE (l : List Nat) : Nat → Nat
  | 0 => 0
  | j + 1 => topE l j * 18446744073709551616 + natAt l j
theorem topE_all (n0 n1 n2 n3 : Nat) : topE [n3, n2, n1, n0] 4 = n4 n0 n1 n2 n3 := by
  simp only [topE, natAt, n4, List.getD_cons_zero, List.getD_cons_succ]
  omega
/-- The exponent's first bits: d of a piece's bits are still to come. -/
def partE (T p d : Nat) : Nat := T * 2 ^ (64 - d) + p / 2 ^ d
theorem partE_start (T p : Nat) (hp : p < 18446744073709551616) : partE T p 64 = T := by
  rw [partE, Nat.sub_self, Nat.pow_zero, Nat.mul_one, Nat.div_eq_of_lt (by rw [show (2 : Nat) ^ 64 = 18446744073709551616 by decide]; exact hp), Nat.add_zero]
theorem partE_end (T p : Nat) : partE T p 0 = T * 18446744073709551616 + p := by
  rw [partE, Nat.pow_zero, Nat.div_one, show (2 : Nat) ^ (64 - 0) = 18446744073709551616 by decide]
theorem partE_next (T p i : Nat) (hi : i < 64) : partE T p i = partE T p (i + 1) + partE T p (i + 1) + p / 2 ^ i % 2 := by
  have h1 : (2 : Nat) ^ (64 - i) = 2 * 2 ^ (64 - (i + 1)) := by rw [show 64 - i = (64 - (i + 1)) + 1 by omega, Nat.pow_succ]; omega
  have h2 : p / 2 ^ (i + 1) = p / 2 ^ i / 2 := by rw [Nat.pow_succ, Nat.div_div_eq_div_mul]
  rw [partE, partE, h1, h2]
  generalize 2 ^ (64 - (i + 1)) = q
  generalize p / 2 ^ i = r
  have h3 : T * (2 * q) = T * q + T * q := by rw [Nat.mul_left_comm, Nat.two_mul]
  rw [h3]
  omega
theorem pow_sq {C D X e P : Nat} (h : D % P = (C * C) % P) (hc : C % P = X ^ e % P) : D % P = X ^ (e + e) % P := by
  rw [h, Nat.mul_mod, hc, ← Nat.mul_mod, ← Nat.pow_add]
theorem pow_one {C D X e P : Nat} (h : D % P = (C * X) % P) (hc : C % P = X ^ e % P) : D % P = X ^ (e + 1) % P := by
  rw [h, Nat.mul_mod, hc, ← Nat.mul_mod, ← Nat.pow_succ]
theorem long_agg {P : Program} {t e n : Nat} (hu : P.underlying t = some (.array n e)) (hs : (P.info? e).map (·.size) = some 1) (he : P.underlying e = some (.int .u64)) (l : List Nat) (hl : l.length = n) (j : Nat) (hj : j < n) (w : World) :
    (Instr.index t (.agg (u64v l).toArray) (.int .i64 (j : Int))).run P w = .ok (.int .u64 ((natAt l j : Nat) : Int)) w :=
  at_agg hu hs he (u64v l) j _ (j : Int) rfl hj (by rw [u64v_at, natAt, List.getD_eq_getElem?_getD, List.getElem?_eq_getElem (by omega)]; rfl) w
theorem low1 (a : Nat) (ha : a < 18446744073709551616) : bits .and .u64 (a : Int) 1 = ((a % 2 : Nat) : Int) := by
  have h := u64_and_nat a 1 ha (by decide)
  rw [show ((1 : Nat) : Int) = 1 from rfl] at h
  rw [h, show (1 : Nat) = 2 ^ 1 - 1 by decide, Nat.and_two_pow_sub_one_eq_mod, show (2 : Nat) ^ 1 = 2 by decide]
theorem Tryd.sizeU64 : (Tryd.prog.info? 33).map (·.size) = some 1 := by kernel_rfl

set_option maxRecDepth 100000 in
set_option maxHeartbeats 2000000 in
theorem power_any (w : World) (a0 a1 a2 a3 n0 n1 n2 n3 : Nat) (ha0 : a0 < B64) (ha1 : a1 < B64) (ha2 : a2 < B64) (ha3 : a3 < B64) (hn0 : n0 < B64) (hn1 : n1 < B64) (hn2 : n2 < B64) (hn3 : n3 < B64) :
    Calls Tryd.prog 28 #[.agg (u64v [a0, a1, a2, a3]).toArray, .agg (u64v [n0, n1, n2, n3]).toArray] w fun e w' => ∃ c0 c1 c2 c3 : Nat, e = .returned (.agg (u64v [c0, c1, c2, c3]).toArray) ∧
      Vlt (n4 c0 c1 c2 c3 % FP = n4 a0 a1 a2 a3 ^ n4 n0 n1 n2 n3 % FP) ∧ (c0 < B64 ∧ c1 < B64 ∧ c2 < B64 ∧ c3 < B64) ∧ Below w.heap.size w w' := by
  have hzn := zero_n4
  obtain ⟨W, hW, hgA, hgB, hgZ, hbW, hsW⟩ := three_new w (u64v [a0, a1, a2, a3]).toArray (u64v [n0, n1, n2, n3]).toArray (u64v z4).toArray 35 35 35
  have HW := Lib.hid hW
  have hs0 : w.heap.size + 2 < W.heap.size := by have := hsW.out; omega
  clear hW hsW
  go_enter Tryd.func28, Tryd.ntmps28
  go_upto_region 1 with fail
  rw [HW.out]
  go_upto_region 2 with ((with_reducible refine wpList_store_row rfl 35 (.tmp 5) (.tmp 9) rfl W.heap.size (u64v [1, 0, 0, 0]).toArray rfl rfl 35 _ (heap_alloc_new _ _) (by kernel_rfl) (by kernel_rfl) (all_oneCell_toArray (u64v_one _)) ?_); rw [World.setRow_alloc_new])
  obtain ⟨V, hV⟩ : ∃ V, V = W.alloc (.cells (u64v [1, 0, 0, 0]).toArray 35) := ⟨_, rfl⟩
  rw [← hV]
  have hA : Hid (V.heap[w.heap.size]? = some (.cells (u64v [a0, a1, a2, a3]).toArray 35 (0, 0))) := by rw [hV]; exact (Below.heap_alloc _ _ _ (by omega)).trans hgA.out
  have hB : Hid (V.heap[w.heap.size + 1]? = some (.cells (u64v [n0, n1, n2, n3]).toArray 35 (0, 0))) := by rw [hV]; exact (Below.heap_alloc _ _ _ (by omega)).trans hgB.out
  have hZ : Hid (V.heap[w.heap.size + 2]? = some (.cells (u64v z4).toArray 35 (0, 0))) := by rw [hV]; exact (Below.heap_alloc _ _ _ (by omega)).trans hgZ.out
  have hR : Hid (V.heap[W.heap.size]? = some (.cells (u64v [1, 0, 0, 0]).toArray 35 (0, 0))) := by rw [hV]; exact heap_alloc_new _ _
  have hbV : Below w.heap.size w V := by rw [hV]; exact hbW.alloc hbW.size _
  obtain ⟨R, hRe⟩ : ∃ R, R = W.heap.size := ⟨_, rfl⟩
  rw [← hRe] at hR hs0 ⊢
  clear hRe hV hgA hgB hgZ hbW
  have hsV : R < V.heap.size := (Array.getElem?_eq_some_iff.1 hR.out).1
  have cb0 : V.cell? ⟨w.heap.size + 1, 0, none⟩ = some (.int .u64 (n0 : Int)) := long_at hB.out 0 (by simp)
  have cb1 : V.cell? ⟨w.heap.size + 1, 1, none⟩ = some (.int .u64 (n1 : Int)) := long_at hB.out 1 (by simp)
  have cb2 : V.cell? ⟨w.heap.size + 1, 2, none⟩ = some (.int .u64 (n2 : Int)) := long_at hB.out 2 (by simp)
  have cb3 : V.cell? ⟨w.heap.size + 1, 3, none⟩ = some (.int .u64 (n3 : Int)) := long_at hB.out 3 (by simp)
  go_upto_region 3 with fail
  clear cb0 cb1 cb2 cb3 hB
  obtain ⟨PL, hPL⟩ : ∃ PL, PL = [n3, n2, n1, n0] := ⟨_, rfl⟩
  rw [show (#[Value.int .u64 (n3 : Int), Value.int .u64 (n2 : Int), Value.int .u64 (n1 : Int), Value.int .u64 (n0 : Int)] : Array Value) = (u64v PL).toArray by rw [hPL]; rfl]
  have HPL := Lib.hid (show PL.length = 4 by rw [hPL]; rfl)
  have HTE := vlt (show topE PL 4 = n4 n0 n1 n2 n3 by rw [hPL]; exact topE_all n0 n1 n2 n3)
  have HPB := Lib.hid (show ∀ j, natAt PL j < B64 from fun j => getD_lt (by rw [hPL]; intro x hx; simp only [List.mem_cons, List.not_mem_nil, or_false] at hx; rcases hx with rfl | rfl | rfl | rfl <;> assumption) (by decide) j)
  obtain ⟨X, hX⟩ : ∃ X, X = n4 a0 a1 a2 a3 := ⟨_, rfl⟩
  have HX := vlt hX
  clear hPL hX
  go_loopw [19] (fun s wr => ∃ j c0 c1 c2 c3 : Nat, j ≤ 4 ∧ s = .int .i64 (j : Int) ∧ Hid (wr.heap[R]? = some (.cells (u64v [c0, c1, c2, c3]).toArray 35 (0, 0))) ∧ (c0 < B64 ∧ c1 < B64 ∧ c2 < B64 ∧ c3 < B64) ∧ Vlt (n4 c0 c1 c2 c3 % FP = X ^ topE PL j % FP) ∧ But R V wr) (fun s _ => 4 - (intOf s).toNat)
  case atStart => exact ⟨0, 1, 0, 0, 0, by omega, rfl, hR, by decide, vlt (by rw [topE, Nat.pow_zero]; rfl), But.refl _ _⟩
  case round =>
    obtain ⟨j, d0, d1, d2, d3, hj, rfl, hRr, ld, hval, hbt⟩ := hrel
    by_cases hlt : j < 4
    · have hix := long_agg Tryd.underlying52 Tryd.sizeU64 Tryd.underlying33 PL HPL.out j hlt
      have HT1 := vlt (show topE PL (j + 1) = topE PL j * 18446744073709551616 + natAt PL j from rfl)
      obtain ⟨p, hp⟩ : ∃ p, p = natAt PL j := ⟨_, rfl⟩
      rw [← hp] at hix HT1
      have lp : p < B64 := by rw [hp]; exact HPB.out j
      obtain ⟨T, hT⟩ : ∃ T, T = topE PL j := ⟨_, rfl⟩
      rw [← hT] at hval HT1
      clear hp hT
      have hbj : decide ((j : Int) < 4) = true := by simp; omega
      go_upto_region 6 with fail
      obtain ⟨Y0, hY0⟩ : ∃ Y0, Y0 = wr := ⟨_, rfl⟩
      subst hY0
      clear hbj
      go_loopw [8] (fun s wi => ∃ d c0 c1 c2 c3 : Nat, d ≤ 64 ∧ s = .int .i64 ((d : Int) - 1) ∧ Hid (wi.heap[R]? = some (.cells (u64v [c0, c1, c2, c3]).toArray 35 (0, 0))) ∧ (c0 < B64 ∧ c1 < B64 ∧ c2 < B64 ∧ c3 < B64) ∧ Vlt (n4 c0 c1 c2 c3 % FP = X ^ partE T p d % FP) ∧ But R V wi) (fun s _ => (intOf s + 1).toNat)
      case atStart => exact ⟨64, d0, d1, d2, d3, by omega, rfl, hRr, ld, vlt (by rw [partE_start T p lp]; exact hval.out), hbt⟩
      case round =>
        obtain ⟨d, c0, c1, c2, c3, hd, rfl, hRi, ⟨lc0, lc1, lc2, lc3⟩, hvi, hbi⟩ := hrel
        by_cases hd0 : 0 < d
        · obtain ⟨i, rfl⟩ : ∃ i, d = i + 1 := ⟨d - 1, by omega⟩
          have ei : ((i + 1 : Nat) : Int) - 1 = (i : Int) := by omega
          rw [ei]
          clear ei
          have hsi : R < wr.heap.size := (Array.getElem?_eq_some_iff.1 hRi.out).1
          have hAi : Hid (wr.heap[w.heap.size]? = some (.cells (u64v [a0, a1, a2, a3]).toArray 35 (0, 0))) := (hbi.block _ (by omega) (by intro e; injection e; omega)).trans hA.out
          have hE1 := partE_next T p i (by omega)
          have hsh : (p : Int) / 2 ^ i = ((p / 2 ^ i : Nat) : Int) := by simp
          have lsh : p / 2 ^ i < 18446744073709551616 := Nat.lt_of_le_of_lt (Nat.div_le_self _ _) (by simp only [B64] at lp; exact lp)
          have hlow := low1 _ lsh
          rw [← hsh] at hlow
          clear hsh
          obtain ⟨bt, hbt1⟩ : ∃ bt, bt = p / 2 ^ i % 2 := ⟨_, rfl⟩
          rw [← hbt1] at hE1 hlow
          have hb2 : bt < 2 := by omega
          have HE1 := vlt hE1
          clear hE1 hbt1 lsh
          go_wp2_with (with_reducible refine wpList_load_row rfl 35 (.tmp 5) rfl R rfl 35 (u64v [c0, c1, c2, c3]).toArray (0, 0) _ hRi.out Tryd.underlying35 rfl (by kernel_rfl) ?_)
          refine (times_any _ c0 c1 c2 c3 c0 c1 c2 c3 lc0 lc1 lc2 lc3 lc0 lc1 lc2 lc3).mono ?_
          rintro e w3 ⟨q0, q1, q2, q3, rfl, e1, ⟨lq0, lq1, lq2, lq3⟩, hb3⟩
          have hv1 := vlt (pow_sq e1.out hvi.out)
          have hR3 : Hid (w3.heap[R]? = some (.cells (u64v [c0, c1, c2, c3]).toArray 35 (0, 0))) := (hb3.block _ (by omega)).trans hRi.out
          have hA3 : Hid (w3.heap[w.heap.size]? = some (.cells (u64v [a0, a1, a2, a3]).toArray 35 (0, 0))) := (hb3.block _ (by omega)).trans hAi.out
          have hbt3 := hbi.below_to hb3 (Nat.le_refl _)
          clear hRi hAi hbi e1 hvi
          go_upto_region 9 with (with_reducible refine wpList_store_row rfl 35 (.tmp 5) (.tmp 28) rfl R (u64v [q0, q1, q2, q3]).toArray rfl rfl 35 _ hR3.out (by kernel_rfl) (by kernel_rfl) (all_oneCell_toArray (u64v_one _)) ?_)
          obtain ⟨w4, hw4⟩ : ∃ w4, w4 = w3.setRow R (u64v [q0, q1, q2, q3]).toArray := ⟨_, rfl⟩
          rw [← hw4]
          have hR4 : Hid (w4.heap[R]? = some (.cells (u64v [q0, q1, q2, q3]).toArray 35 (0, 0))) := by rw [hw4]; exact setRow_heap _ _ _ _ _ _ hR3.out
          have hA4 : Hid (w4.heap[w.heap.size]? = some (.cells (u64v [a0, a1, a2, a3]).toArray 35 (0, 0))) := by rw [hw4]; exact (setRow_other _ _ _ _ (by omega)).trans hA3.out
          have hbt4 : But R V w4 := by rw [hw4]; exact hbt3.row _
          have hs4 : R < w4.heap.size := (Array.getElem?_eq_some_iff.1 hR4.out).1
          clear hw4 hR3 hA3 hbt3 hb3
          by_cases hone : bt = 1
          · subst hone
            go_wp2_with (first
              | (with_reducible refine wpList_load_row rfl 35 (.tmp 5) rfl R rfl 35 (u64v [q0, q1, q2, q3]).toArray (0, 0) _ hR4.out Tryd.underlying35 rfl (by kernel_rfl) ?_)
              | (with_reducible refine wpList_load_row rfl 35 (.tmp 2) rfl w.heap.size rfl 35 (u64v [a0, a1, a2, a3]).toArray (0, 0) _ hA4.out Tryd.underlying35 rfl (by kernel_rfl) ?_))
            refine (times_any w4 q0 q1 q2 q3 a0 a1 a2 a3 lq0 lq1 lq2 lq3 ha0 ha1 ha2 ha3).mono ?_
            rintro e w5 ⟨r0, r1, r2, r3, rfl, e2, ⟨lr0, lr1, lr2, lr3⟩, hb5⟩
            have hv2 := vlt (show n4 r0 r1 r2 r3 % FP = X ^ partE T p i % FP by have h2 := e2.out; rw [← HX.out] at h2; rw [HE1.out]; exact pow_one h2 hv1.out)
            have hR5 : Hid (w5.heap[R]? = some (.cells (u64v [q0, q1, q2, q3]).toArray 35 (0, 0))) := (hb5.block _ (by omega)).trans hR4.out
            have hbt5 := hbt4.below_to hb5 (Nat.le_refl _)
            go_upto_region 7 with (with_reducible refine wpList_store_row rfl 35 (.tmp 5) (.tmp 36) rfl R (u64v [r0, r1, r2, r3]).toArray rfl rfl 35 _ hR5.out (by kernel_rfl) (by kernel_rfl) (all_oneCell_toArray (u64v_one _)) ?_)
            have hR6 : Hid ((w5.setRow R (u64v [r0, r1, r2, r3]).toArray).heap[R]? = some (.cells (u64v [r0, r1, r2, r3]).toArray 35 (0, 0))) := setRow_heap _ _ _ _ _ _ hR5.out
            have hbt6 := hbt5.row (u64v [r0, r1, r2, r3]).toArray
            generalize w5.setRow R (u64v [r0, r1, r2, r3]).toArray = w6 at *
            go_wp2
            go_roundw
            case rel => exact ⟨i, r0, r1, r2, r3, by omega, rfl, hR6, ⟨lr0, lr1, lr2, lr3⟩, hv2, hbt6⟩
            case measure => simp [intOf]
          · obtain rfl : bt = 0 := by omega
            have hv2 := vlt (show n4 q0 q1 q2 q3 % FP = X ^ partE T p i % FP by rw [HE1.out, Nat.add_zero]; exact hv1.out)
            go_wp2
            go_roundw
            case rel => exact ⟨i, q0, q1, q2, q3, by omega, rfl, hR4, ⟨lq0, lq1, lq2, lq3⟩, hv2, hbt4⟩
            case measure => simp [intOf]
        · obtain rfl : d = 0 := by omega
          have hvE := vlt (show n4 c0 c1 c2 c3 % FP = X ^ topE PL (j + 1) % FP by rw [HT1.out, ← partE_end]; exact hvi.out)
          go_wp2
          go_roundw
          case rel => exact ⟨j + 1, c0, c1, c2, c3, by omega, by go_num, hRi, ⟨lc0, lc1, lc2, lc3⟩, hvE, hbi⟩
          case measure => simp [intOf]; omega
    · obtain rfl : j = 4 := by omega
      have hz : Hid (wr.heap[w.heap.size + 1 + 1]? = some (.cells (u64v z4).toArray 35 (0, 0))) := (hbt.block _ (by omega) (by intro e; injection e; omega)).trans hZ.out
      have hbw : Below w.heap.size w wr := But.below hbV hbt (by omega) (by omega)
      have HE := vlt (show n4 d0 d1 d2 d3 % FP = n4 a0 a1 a2 a3 ^ n4 n0 n1 n2 n3 % FP by rw [hval.out, HTE.out, HX.out])
      go_wp2_with (first
        | (with_reducible refine wpList_load_row rfl 35 (.tmp 5) rfl R rfl 35 (u64v [d0, d1, d2, d3]).toArray (0, 0) _ hRr.out Tryd.underlying35 rfl (by kernel_rfl) ?_)
        | (with_reducible refine wpList_store_row rfl 35 (.tmp 4) (.tmp 38) rfl (w.heap.size + 1 + 1) (u64v [d0, d1, d2, d3]).toArray rfl rfl 35 _ hz.out (by kernel_rfl) (by kernel_rfl) (all_oneCell_toArray (u64v_one _)) ?_))
      refine bodyPost_ret (v := .agg (u64v [d0, d1, d2, d3]).toArray) (results_cell_row Tryd.results28 _ _ (w.heap.size + 1 + 1) 35 _ (0, 0) _ rfl (setRow_heap _ _ _ _ _ _ hz.out) Tryd.underlying35 rfl (by kernel_rfl)) rfl ⟨d0, d1, d2, d3, rfl, HE, ld, below_setRow hbw (by omega) _⟩
end Go.Proofs.YtpnodegmegpooaaDoor
