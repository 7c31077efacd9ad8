/-
  Contract of poly's told. Conditions: the one below twice the prime in small pieces, the other in pieces below 2^26.
-/
import Derived.Test.YtioodeiloepaaaaPlB
import Derived.Test.YtioodeiloepaaaaOctBL
namespace Go.Proofs.Ytioodeiloepaaaa
open Go.RowKit

/-- What is over, five ahead. -/
def ovK (l : List Nat) : Nat → Nat
  | 0 => 5
  | k + 1 => (natAt l k + ovK l k) / 67108864
/-- The first k pieces of a sum. -/
def tsK (l m : List Nat) (o : Nat) : Nat → List Nat × Nat
  | 0 => (l, o)
  | k + 1 => ((tsK l m o k).1.set k (((tsK l m o k).2 + (natAt (tsK l m o k).1 k + natAt m k)) % 67108864), ((tsK l m o k).2 + (natAt (tsK l m o k).1 k + natAt m k)) / 67108864)
theorem tsK_len (l m : List Nat) (o : Nat) : ∀ k, (tsK l m o k).1.length = l.length
  | 0 => rfl
  | k + 1 => by rw [tsK, List.length_set, tsK_len l m o k]
theorem tsK_at (l m : List Nat) (o k : Nat) : ∀ j, j ≤ k → natAt (tsK l m o j).1 k = natAt l k
  | 0, _ => rfl
  | j + 1, h => by
    have ih := tsK_at l m o k j (by omega)
    simp only [natAt, tsK] at *
    rw [List.getD_eq_getElem?_getD, List.getElem?_set_ne (by omega), ← List.getD_eq_getElem?_getD]; exact ih
theorem tsK_over (l m : List Nat) (o : Nat) (bl : ∀ x ∈ l, x < 268435456) (bm : ∀ x ∈ m, x < 268435456) (ho : o < 268435456) : ∀ k, (tsK l m o k).2 < 268435456
  | 0 => ho
  | k + 1 => by
    have ih := tsK_over l m o bl bm ho k
    have h1 := tsK_at l m o k k (Nat.le_refl _)
    have h2 : natAt l k < 268435456 := getD_lt bl (by decide) k
    have h3 : natAt m k < 268435456 := getD_lt bm (by decide) k
    show ((tsK l m o k).2 + (natAt (tsK l m o k).1 k + natAt m k)) / 67108864 < _
    omega
theorem ovK_lt (l : List Nat) (bl : ∀ x ∈ l, x < 268435456) : ∀ k, ovK l k < 268435456
  | 0 => by show 5 < _; decide
  | k + 1 => by
    have ih := ovK_lt l bl k
    have h2 : natAt l k < 268435456 := getD_lt bl (by decide) k
    show (natAt l k + ovK l k) / 67108864 < _
    omega
theorem tsK_five (a0 a1 a2 a3 a4 b0 b1 b2 b3 b4 o : Nat) : ∃ e0 e1 e2 e3 e4, (tsK [a0, a1, a2, a3, a4] [b0, b1, b2, b3, b4] (o * 5) 5).1 = [e0 % 67108864, e1 % 67108864, e2 % 67108864, e3 % 67108864, e4 % 67108864] ∧
    e0 = o * 5 + (a0 + b0) ∧ e1 = e0 / 67108864 + (a1 + b1) ∧ e2 = e1 / 67108864 + (a2 + b2) ∧ e3 = e2 / 67108864 + (a3 + b3) ∧ e4 = e3 / 67108864 + (a4 + b4) :=
  ⟨_, _, _, _, _, rfl, rfl, rfl, rfl, rfl, rfl⟩
theorem le_split (v a b : Nat) : le v (a + b) = le v a ++ le (v / 2 ^ (8 * a)) b := by
  induction b with
  | zero => simp [le]
  | succ b ih => rw [← Nat.add_assoc, le, ih, le, List.append_assoc, Nat.div_div_eq_div_mul, ← Nat.pow_add, Nat.mul_add]
theorem le_mod (v n : Nat) : le (v % 2 ^ (8 * n)) n = le v n := by
  have h : ∀ k, k ≤ n → le (v % 2 ^ (8 * n)) k = le v k := by
    intro k
    induction k with
    | zero => intro _; rfl
    | succ k ih =>
      intro hk
      rw [le, le, ih (by omega)]
      congr 2
      apply UInt8.toNat_inj.1
      rw [UInt8.toNat_ofNat', UInt8.toNat_ofNat']
      have e : 8 * n = 8 * k + (8 * (n - k - 1) + 8) := by omega
      rw [e, Nat.pow_add, Nat.mod_mul_right_div_self, Nat.pow_add, Nat.mod_mul_left_mod]
  exact h n (Nat.le_refl _)
set_option maxRecDepth 100000 in
set_option maxHeartbeats 2000000 in
theorem told_any (w : World) (a0 a1 a2 a3 a4 b0 b1 b2 b3 b4 : Nat) (ha : a0 < 67108870 ∧ a1 < 67108864 ∧ a2 < 67108864 ∧ a3 < 67108864 ∧ a4 < 67108864) (hb : b0 < 67108864 ∧ b1 < 67108864 ∧ b2 < 67108864 ∧ b3 < 67108864 ∧ b4 < 67108864) :
    Calls Try.prog 25 #[.agg (u64v [a0, a1, a2, a3, a4]).toArray, .agg (u64v [b0, b1, b2, b3, b4]).toArray] w fun e w' =>
      e = .returned (.agg (bv (le ((nv a0 a1 a2 a3 a4 % PP + nv b0 b1 b2 b3 b4) % 340282366920938463463374607431768211456) 16)).toArray) ∧ Below w.heap.size w w' := by
  have hz16 := zero_b16
  obtain ⟨l, hl⟩ : ∃ l, l = [a0, a1, a2, a3, a4] := ⟨_, rfl⟩
  obtain ⟨m, hm⟩ : ∃ m, m = [b0, b1, b2, b3, b4] := ⟨_, rfl⟩
  have bl : ∀ x ∈ l, x < 268435456 := by intro x hx; rw [hl] at hx; simp only [List.mem_cons, List.not_mem_nil, or_false] at hx; omega
  have bm : ∀ x ∈ m, x < 268435456 := by intro x hx; rw [hm] at hx; simp only [List.mem_cons, List.not_mem_nil, or_false] at hx; omega
  rw [← hl, ← hm]
  have BL := Lib.hid bl
  have BM := Lib.hid bm
  have HLL := Lib.hid (show l.length = 5 by rw [hl]; rfl)
  have HML := Lib.hid (show m.length = 5 by rw [hm]; rfl)
  have HLS := Lib.hid (show (u64v l).toArray.size = 5 by rw [hl]; rfl)
  obtain ⟨out, hout⟩ : ∃ out, out = le ((nv a0 a1 a2 a3 a4 % PP + nv b0 b1 b2 b3 b4) % 340282366920938463463374607431768211456) 16 := ⟨_, rfl⟩
  rw [← hout]
  have HB := Lib.hid hb
  have HA := Lib.hid ha
  have HL := vlt hl
  have HM := vlt hm
  have HOUT := vlt hout
  clear hl hm bl bm hout ha hb
  obtain ⟨W, hW, hgA, hgB, hgZ, hbW, hsW⟩ := three_new w (u64v l).toArray (u64v m).toArray (bv z16).toArray 41 41 23
  have HW := Lib.hid hW
  have hs1 : w.heap.size + 2 < W.heap.size := by have := hsW.out; omega
  clear hW
  go_enter Try.func25, Try.ntmps25
  go_upto_region 1 with fail
  rw [HW.out]
  go_wp2_with (with_reducible refine wpList_load_row rfl 41 (.tmp 2) rfl w.heap.size rfl 41 (u64v l).toArray (0, 0) _ hgA.out Try.underlying41 rfl (by rw [HLS.out]; kernel_rfl) ?_)
  go_loopw [5, 11] (fun o i wr => ∃ k q : Nat, k ≤ 5 ∧ i = .int .i64 (k : Int) ∧ o = .int .u64 (q : Int) ∧ q < 268435456 ∧ Hid (q = ovK l k) ∧ W = wr) (fun _ i _ => 5 - (intOf i).toNat)
  case atStart => exact ⟨0, 5, by omega, rfl, rfl, by decide, rfl, rfl⟩
  case round =>
    obtain ⟨k, q, hk, rfl, rfl, lq, hq, rfl⟩ := hrel
    by_cases hlt : k < 5
    · have hix := at_agg Try.underlying41 Try.sizeU64 Try.underlying39 (u64v l) k (.int .u64 ((natAt l k : Nat) : Int)) (k : Int) rfl hlt (by simp [u64v_at, natAt, List.getElem?_eq_getElem (show k < l.length by rw [HLL.out]; exact hlt)])
      have bx : natAt l k < 268435456 := getD_lt BL.out (by decide) k
      have HQ := vlt (show ovK l (k + 1) = (natAt l k + q) / 67108864 by rw [hq.out]; rfl)
      have e2 : ((natAt l k : Int) + (q : Int)) / 67108864 = (((natAt l k + q) / 67108864 : Nat) : Int) := by omega
      have lq2 : (natAt l k + q) / 67108864 < 268435456 := by omega
      generalize natAt l k = x0 at *
      generalize (x0 + q) / 67108864 = d at *
      go_wp2
      exact ⟨⟨k + 1, d, by omega, by go_num, rfl, lq2, show _ = _ from HQ.out.symm, trivial⟩, by simp [intOf]; omega⟩
    · obtain ⟨o5, e5, ho5, lo5⟩ : ∃ o5 : Nat, (q : Int) * 5 = (o5 : Int) ∧ Vlt (o5 = ovK l 5 * 5) ∧ o5 < 268435456 := by
        refine ⟨q * 5, by omega, vlt (by rw [hq.out, show k = 5 by omega]), ?_⟩
        have h1 : k = 5 := by omega
        have h2 := hq.out
        rw [h1, HL.out] at h2
        have h3 := over_is a0 a1 a2 a3 a4 _ _ _ _ _ rfl rfl rfl rfl rfl (by simp only [nv, PP]; have := HA.out; omega)
        have h4 : q ≤ 1 := by rw [h2]; exact h3.2
        omega
      clear hq
      go_wp2
      clear e5
      go_loopw [5, 21] (fun o i wr => ∃ k q : Nat, k ≤ 5 ∧ i = .int .i64 (k : Int) ∧ o = .int .u64 (q : Int) ∧ q < 268435456 ∧ Hid (q = (tsK l m o5 k).2) ∧ Hid (wr.heap[w.heap.size]? = some (.cells (u64v (tsK l m o5 k).1).toArray 41 (0, 0))) ∧ But w.heap.size W wr) (fun _ i _ => 5 - (intOf i).toNat)
      case atStart => exact ⟨0, o5, by omega, rfl, rfl, lo5, rfl, hgA, But.refl _ _⟩
      case round =>
        obtain ⟨k, q, hk, rfl, rfl, lq, hq, hg, hbt⟩ := hrel
        by_cases hlt : k < 5
        · obtain ⟨X, hX⟩ : ∃ X, X = (tsK l m o5 k).1 := ⟨_, rfl⟩
          rw [← hX] at hg
          have HXL := Lib.hid (show X.length = 5 by rw [hX, tsK_len]; exact HLL.out)
          have bx : natAt X k < 268435456 := by rw [hX, tsK_at l m o5 k k (Nat.le_refl _)]; exact getD_lt BL.out (by decide) k
          have by_ : natAt m k < 268435456 := getD_lt BM.out (by decide) k
          have HX1 := vlt (show (tsK l m o5 (k + 1)).1 = X.set k ((q + (natAt X k + natAt m k)) % 67108864) by rw [hX, hq.out]; rfl)
          have HX2 := vlt (show (tsK l m o5 (k + 1)).2 = (q + (natAt X k + natAt m k)) / 67108864 by rw [hX, hq.out]; rfl)
          clear hX
          have hgB2 : Hid (wr.heap[w.heap.size + 1]? = some (.cells (u64v m).toArray 41 (0, 0))) := (hbt.block _ (by omega) (by intro e; injection e; omega)).trans hgB.out
          have c0 := long_at hg.out k (by rw [HXL.out]; exact hlt)
          have c1 := long_at hgB2.out k (by rw [HML.out]; exact hlt)
          generalize natAt X k = x0 at *
          generalize natAt m k = y0 at *
          have e1 := and26 (q + (x0 + y0)) (by omega)
          rw [Int.natCast_add, Int.natCast_add] at e1
          have e2 : ((q : Int) + ((x0 : Int) + (y0 : Int))) / 67108864 = (((q + (x0 + y0)) / 67108864 : Nat) : Int) := by omega
          have lq2 : (q + (x0 + y0)) / 67108864 < 268435456 := by omega
          generalize (q + (x0 + y0)) % 67108864 = u at *
          generalize (q + (x0 + y0)) / 67108864 = d at *
          go_wp2_with fail
          go_quiet (fail)
          have hgq : Hid ((wr.drewN nq).heap[w.heap.size]? = some (.cells (u64v X).toArray 41 (0, 0))) := hg.out
          have hbq : But w.heap.size W (wr.drewN nq) := But.below_to hbt (below_drewN (Below.refl wr.heap.size wr) nq) (Nat.le_refl _)
          generalize wr.drewN nq = wq at *
          have hset : Hid ((wq.setCell ⟨w.heap.size, k, none⟩ (.int .u64 (u : Int))).heap[w.heap.size]? = some (.cells (u64v (tsK l m o5 (k + 1)).1).toArray 41 (0, 0))) := by
            have h1 := (world_set_cell hgq.out k (.int .u64 (u : Int))).out
            rw [u64v_set, ← HX1.out] at h1
            exact h1
          have hb2 := hbq.set (i := k) (.int .u64 (u : Int))
          have f0 : wq.frozen? ⟨w.heap.size, k, none⟩ = false := frozen_of_row _ _ _ _ _ hgq.out
          have cq := long_at hgq.out k (by rw [HXL.out]; exact hlt)
          go_wp2
          exact ⟨⟨k + 1, d, by omega, by go_num, rfl, lq2, show _ = _ from HX2.out.symm, hset, hb2⟩, by simp [intOf]; omega⟩
        · obtain ⟨e0, e1, e2, e3, e4, hfive, q0, q1, q2, q3, q4⟩ := tsK_five a0 a1 a2 a3 a4 b0 b1 b2 b3 b4 (ovK l 5)
          have hk5 : k = 5 := by omega
          have hgf : Hid (wr.heap[w.heap.size]? = some (.cells (u64v [e0 % 67108864, e1 % 67108864, e2 % 67108864, e3 % 67108864, e4 % 67108864]).toArray 41 (0, 0))) := by
            have h1 := hg.out
            rw [hk5, ho5.out, HL.out, HM.out] at h1
            rw [← HL.out, ← HM.out] at h1
            rw [← hfive, ← HL.out, ← HM.out]
            exact h1
          have hover := over_is a0 a1 a2 a3 a4 _ _ _ _ (ovK l 5) rfl rfl rfl rfl (by rw [HL.out]; rfl) (by simp only [nv, PP]; have := HA.out; omega)
          have hsum := told_sum a0 a1 a2 a3 a4 b0 b1 b2 b3 b4 (ovK l 5) e0 e1 e2 e3 e4 _ hover.1 (by rw [q0, Nat.mul_comm]) q1 q2 q3 q4
          have n0 : e0 % 67108864 < 67108864 := Nat.mod_lt _ (by decide)
          have n1 : e1 % 67108864 < 67108864 := Nat.mod_lt _ (by decide)
          have n2 : e2 % 67108864 < 67108864 := Nat.mod_lt _ (by decide)
          have n3 : e3 % 67108864 < 67108864 := Nat.mod_lt _ (by decide)
          have n4 : e4 % 67108864 < 67108864 := Nat.mod_lt _ (by decide)
          have HSUM := vlt hsum
          clear q0 q1 q2 q3 q4 hfive hover hsum hg hq
          generalize e0 % 67108864 = u0 at *
          generalize e1 % 67108864 = u1 at *
          generalize e2 % 67108864 = u2 at *
          generalize e3 % 67108864 = u3 at *
          generalize e4 % 67108864 = u4 at *
          have c0 : wr.cell? ⟨w.heap.size, 0, none⟩ = some (.int .u64 (u0 : Int)) := long_at hgf.out 0 (by simp)
          have c1 : wr.cell? ⟨w.heap.size, 1, none⟩ = some (.int .u64 (u1 : Int)) := long_at hgf.out 1 (by simp)
          have c2 : wr.cell? ⟨w.heap.size, 2, none⟩ = some (.int .u64 (u2 : Int)) := long_at hgf.out 2 (by simp)
          have c3 : wr.cell? ⟨w.heap.size, 3, none⟩ = some (.int .u64 (u3 : Int)) := long_at hgf.out 3 (by simp)
          have c4 : wr.cell? ⟨w.heap.size, 4, none⟩ = some (.int .u64 (u4 : Int)) := long_at hgf.out 4 (by simp)
          have hz3 : Hid (wr.heap[w.heap.size + 1 + 1]? = some (.cells (bv z16).toArray 23 (0, 0))) := (hbt.block _ (by omega) (by intro e; injection e; omega)).trans hgZ.out
          have hbw : Below w.heap.size w wr := But.below hbW hbt (by omega) (by omega)
          obtain ⟨lo, elo, hlo, llo⟩ : ∃ lo : Nat, bits .or .u64 (bits .or .u64 (u0 : Int) ((u1 : Int) * 67108864)) (IntKind.u64.wrap ((u2 : Int) * 4503599627370496)) = (lo : Int) ∧ Vlt (lo = nv u0 u1 u2 u3 u4 % 18446744073709551616) ∧ lo < 18446744073709551616 := by
            refine ⟨u0 + u1 * 67108864 + u2 * 4503599627370496 % 18446744073709551616, ?_, vlt (low_half u0 u1 u2 u3 u4 n0 n1).symm, by omega⟩
            rw [show (u1 : Int) * 67108864 = ((u1 * 67108864 : Nat) : Int) by omega, show (u2 : Int) * 4503599627370496 = ((u2 * 4503599627370496 : Nat) : Int) by omega, wrap64, u64_or_nat _ _ (by omega) (by omega), Nat.or_comm u0,
              nat_join 26 _ _ (by omega) (by omega), u64_or_nat _ _ (by omega) (by omega), Nat.or_comm, nat_join 52 _ _ (by omega) (by omega)]
            omega
          obtain ⟨hi, ehi, hhi, lhi⟩ : ∃ hi : Nat, bits .or .u64 (bits .or .u64 ((u2 : Int) / 4096) ((u3 : Int) * 16384)) (IntKind.u64.wrap ((u4 : Int) * 1099511627776)) = (hi : Int) ∧ Vlt (hi = nv u0 u1 u2 u3 u4 / 18446744073709551616 % 18446744073709551616) ∧ hi < 18446744073709551616 := by
            refine ⟨u2 / 4096 + u3 * 16384 + u4 * 1099511627776 % 18446744073709551616, ?_, vlt (high_half u0 u1 u2 u3 u4 n0 n1 n2 n3).symm, by omega⟩
            rw [show (u3 : Int) * 16384 = ((u3 * 16384 : Nat) : Int) by omega, show (u4 : Int) * 1099511627776 = ((u4 * 1099511627776 : Nat) : Int) by omega, show (u2 : Int) / 4096 = ((u2 / 4096 : Nat) : Int) by omega, wrap64, u64_or_nat _ _ (by omega) (by omega), Nat.or_comm (u2 / 4096),
              nat_join 14 _ _ (by omega) (by omega), u64_or_nat _ _ (by omega) (by omega), Nat.or_comm, nat_join 40 _ _ (by omega) (by omega)]
            omega
          have hsplit := vlt (show out = le lo 8 ++ le hi 8 by
            rw [HOUT.out, ← HSUM.out, hlo.out, hhi.out, show 16 = 8 + 8 from rfl, le_split, show (340282366920938463463374607431768211456 : Nat) = 2 ^ (8 * (8 + 8)) by decide, show (18446744073709551616 : Nat) = 2 ^ (8 * 8) by decide]
            rw [le_mod (nv u0 u1 u2 u3 u4) 8, ← le_mod (nv u0 u1 u2 u3 u4 % 2 ^ (8 * (8 + 8))) 8, Nat.mod_mod_of_dvd _ (by decide), le_mod]
            rw [show 2 ^ (8 * (8 + 8)) = 2 ^ (8 * 8) * 2 ^ (8 * 8) by decide, Nat.mod_mul_right_div_self])
          go_wp2_with fail
          refine (little_any none [] 0 0 lo 8 wr Byt.none_ rfl (by decide) llo).mono ?_
          rintro e w4 ⟨A4, c4', rfl, hr4, hb4⟩
          rw [wd_8] at hr4
          have k2 : w4.cell? ⟨w.heap.size, 2, none⟩ = some (.int .u64 (u2 : Int)) := (hb4.cell (p := ⟨w.heap.size, 2, none⟩) (show w.heap.size < wr.heap.size by have := hbt.size; omega)).trans c2
          have k3 : w4.cell? ⟨w.heap.size, 3, none⟩ = some (.int .u64 (u3 : Int)) := (hb4.cell (p := ⟨w.heap.size, 3, none⟩) (show w.heap.size < wr.heap.size by have := hbt.size; omega)).trans c3
          have k4 : w4.cell? ⟨w.heap.size, 4, none⟩ = some (.int .u64 (u4 : Int)) := (hb4.cell (p := ⟨w.heap.size, 4, none⟩) (show w.heap.size < wr.heap.size by have := hbt.size; omega)).trans c4
          clear c0 c1 c2 c3 c4 elo
          rw [wd_8]
          go_wp2_with fail
          refine (little_any A4 (le lo 8) 8 c4' hi 8 w4 hr4.byt (le_len _ _) (by decide) lhi).mono ?_
          rintro e w5 ⟨A5, c5, rfl, hr5, hb5⟩
          rw [wd_8] at hr5
          rw [← hsplit.out] at hr5
          obtain ⟨g5, rfl⟩ := hr5.some_ (by decide)
          have hat := fun w => run_arrayAt (P := Try.prog) w 23 5 16 (some ⟨g5, 0, none⟩) (8 + wd 8) c5 Try.underlying23 (by decide)
          have hrg := Lib.hid (range_byt hr5.byt)
          have hz5 : Hid (w5.heap[w.heap.size + 1 + 1]? = some (.cells (bv z16).toArray 23 (0, 0))) := (hb5.block _ (by have := hb4.size; have := hbt.size; omega)).trans ((hb4.block _ (by have := hbt.size; omega)).trans hz3.out)
          have hbw5 : Below w.heap.size w w5 := below_next (below_next hbw hbw.size hb4) (below_next hbw hbw.size hb4).size hb5
          have HOL := Lib.hid (show (bv out).length = 16 by rw [bv_len, HOUT.out, le_len])
          have HOS := Lib.hid (show (bv out).toArray.size = 16 by simp [HOL.out])
          have HZ16 := Lib.hid (show (bv z16).toArray.size = 16 from rfl)
          clear ehi k2 k3 k4 hr4 hr5
          go_wp2_with (first
            | (with_reducible refine wpList_load_mid rfl 23 (.tmp 64) rfl g5 0 rfl (bv out) _ hrg.out Try.underlying23 rfl (by rw [HOL.out]; kernel_rfl) ?_)
            | (with_reducible refine wpList_store_row rfl 23 (.tmp 4) (.tmp 65) rfl (w.heap.size + 1 + 1) (bv out).toArray rfl rfl 23 _ hz5.out (by rw [HOS.out]; kernel_rfl) (by rw [HOS.out]; exact HZ16.out) (all_oneCell_toArray (bv_one _)) ?_))
          refine bodyPost_ret (v := .agg (bv out).toArray) (results_cell_row Try.results25 _ _ (w.heap.size + 1 + 1) 23 _ (0, 0) _ rfl (setRow_heap _ _ _ _ _ _ hz5.out) Try.underlying23 rfl (by rw [HOS.out]; kernel_rfl)) rfl ⟨rfl, below_setRow hbw5 (by omega) _⟩
end Go.Proofs.Ytioodeiloepaaaa
