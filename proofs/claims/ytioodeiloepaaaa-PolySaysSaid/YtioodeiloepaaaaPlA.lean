/-
  Contracts of poly's numberOf, plus and carried. Conditions: sixteen bytes, a top of at most one; pieces far below 2^64.
-/
import Derived.Test.YtioodeiloepaaaaPlS
import Derived.Test.YtioodeiloepaaaaNew
import Derived.Test.YtioodeiloepaaaaOctCL
import Derived.BigRegion
import Derived.RegionTactic
namespace Go.Proofs.Ytioodeiloepaaaa
open Go.RowKit

def z5 : List Nat := List.replicate 5 0
theorem zero_num (w : World) : (zeroValue 41).run Try.prog w = .ok (.agg (u64v z5).toArray) w := by kernel_rfl
theorem pieces_of (l h t : Nat) (hl : l < 18446744073709551616) :
    nv (l % 67108864) (l / 67108864 % 67108864) ((l / 4503599627370496 + h * 4096 % 18446744073709551616) % 67108864) (h / 16384 % 67108864) (h / 1099511627776 + t * 16777216) = l + 18446744073709551616 * h + 340282366920938463463374607431768211456 * t := by
  simp only [nv]; omega
theorem built_num (a b c d e : Nat) : Try.prog.built 41 [(0, .int .u64 (a : Int)), (1, .int .u64 (b : Int)), (2, .int .u64 (c : Int)), (3, .int .u64 (d : Int)), (4, .int .u64 (e : Int))] = some (u64v [a, b, c, d, e]).toArray := by kernel_rfl
theorem ln_split (l : List UInt8) (k : Nat) (h : k ≤ l.length) : ln (l.take k) + 256 ^ k * ln (l.drop k) = ln l := by
  induction k generalizing l with
  | zero => simp [ln]
  | succ k ih =>
    cases l with
    | nil => simp at h
    | cons b r =>
      rw [List.take_succ_cons, List.drop_succ_cons, ln, ln, ← ih r (by simpa using h), Nat.pow_succ]
      grind
set_option maxRecDepth 100000 in
set_option maxHeartbeats 1000000 in
theorem numberOf_any (w : World) (b : List UInt8) (t : Nat) (hb : b.length = 16) (ht : t ≤ 1) :
    Calls Try.prog 16 #[.agg (bv b).toArray, .int .u64 (t : Int)] w fun e w' => ∃ a0 a1 a2 a3 a4, e = .returned (.agg (u64v [a0, a1, a2, a3, a4]).toArray) ∧ Vlt (nv a0 a1 a2 a3 a4 = ln b + 340282366920938463463374607431768211456 * t) ∧ (a0 < 67108864 ∧ a1 < 67108864 ∧ a2 < 67108864 ∧ a3 < 67108864 ∧ a4 < 67108864) ∧ Below w.heap.size w w' := by
  have hzn := zero_num
  obtain ⟨W, hW, hgA, hgZ, hbW, hsW⟩ := pair_new w (bv b).toArray (u64v z5).toArray 23 41
  have HW := Lib.hid hW
  have HB := Lib.hid hb
  clear hW hb
  have hc1 := cut_lh Try.underlying23 Try.sizeByte w.heap.size 0 0 8 0 8 rfl rfl (by decide) (by decide) (by decide)
  have hc2 := cut_l Try.underlying23 Try.sizeByte w.heap.size 0 8 8 rfl (by decide)
  go_enter Try.func16, Try.ntmps16
  go_upto_region 1 with fail
  rw [HW.out]
  have hb1 := byt_mid hgA.out 0 8
  have hb2 := byt_mid hgA.out 8 8
  have hl1 : ((b.drop 0).take 8).length = 8 := by simp [HB.out]
  have hl2 : ((b.drop 8).take 8).length = 8 := by simp [HB.out]
  have hlow := ln_lt 8 _ hl1
  have hhigh := ln_lt 8 _ hl2
  have hsum : Vlt (ln b = ln ((b.drop 0).take 8) + 18446744073709551616 * ln ((b.drop 8).take 8)) := vlt (by
    rw [List.drop_zero, ← ln_split b 8 (by rw [HB.out]; decide), List.take_of_length_le (l := b.drop 8) (by simp [HB.out])])
  generalize (b.drop 0).take 8 = b1 at *
  generalize (b.drop 8).take 8 = b2 at *
  go_wp2_with fail
  refine (fromLittle_ok _ b1 8 16 W hb1 hl1 (by decide)).mono ?_
  rintro e w' ⟨rfl, rfl⟩
  go_wp2_with fail
  refine (fromLittle_ok _ b2 8 8 W hb2 hl2 (by decide)).mono ?_
  rintro e w' ⟨rfl, rfl⟩
  generalize hx : ln b1 = x at *
  generalize hy : ln b2 = y at *
  have hx2 : x < 18446744073709551616 := by omega
  have hy2 : y < 18446744073709551616 := by omega
  clear hlow hhigh hx hy hb1 hb2 hl1 hl2
  have e4 : bits .or .u64 ((y : Int) / 1099511627776) ((t : Int) * 16777216) = ((y / 1099511627776 + t * 16777216 : Nat) : Int) := by
    rw [show (y : Int) / 1099511627776 = ((y / 1099511627776 : Nat) : Int) by omega, show (t : Int) * 16777216 = ((t * 16777216 : Nat) : Int) by omega, u64_or_nat _ _ (by omega) (by omega), Nat.or_comm,
      nat_join 24 _ _ (by omega) (by omega), Nat.add_comm]
  have e2' : bits .or .u64 ((x : Int) / 4503599627370496) (IntKind.u64.wrap ((y : Int) * 4096)) = ((x / 4503599627370496 + y * 4096 % 18446744073709551616 : Nat) : Int) := by
    rw [show (x : Int) / 4503599627370496 = ((x / 4503599627370496 : Nat) : Int) by omega, show (y : Int) * 4096 = ((y * 4096 : Nat) : Int) by omega, wrap64, u64_or_nat _ _ (by omega) (by omega), Nat.or_comm,
      nat_join 12 _ _ (by omega) (by omega), Nat.add_comm]
  have e0 := and26 x hx2
  have e1 := and26 (x / 67108864) (by omega)
  rw [show ((x / 67108864 : Nat) : Int) = (x : Int) / 67108864 by omega] at e1
  have e2 := and26 (x / 4503599627370496 + y * 4096 % 18446744073709551616) (by omega)
  rw [← e2'] at e2
  have e3 := and26 (y / 16384) (by omega)
  rw [show ((y / 16384 : Nat) : Int) = (y : Int) / 16384 by omega] at e3
  have HP := vlt (pieces_of x y t hx2)
  have l0 : x % 67108864 < 67108864 := by omega
  have l1 : x / 67108864 % 67108864 < 67108864 := by omega
  have l2 : (x / 4503599627370496 + y * 4096 % 18446744073709551616) % 67108864 < 67108864 := by omega
  have l3 : y / 16384 % 67108864 < 67108864 := by omega
  have l4 : y / 1099511627776 + t * 16777216 < 67108864 := by omega
  generalize x % 67108864 = p0 at *
  generalize x / 67108864 % 67108864 = p1 at *
  generalize (x / 4503599627370496 + y * 4096 % 18446744073709551616) % 67108864 = p2 at *
  generalize y / 16384 % 67108864 = p3 at *
  generalize y / 1099511627776 + t * 16777216 = p4 at *
  clear e2'
  have HZ5 := Lib.hid (show (u64v z5).toArray.size = 5 from rfl)
  go_wp2_with (first
    | (with_reducible refine wpList_build_to rfl 41 _ rfl [(0, .int .u64 (p0 : Int)), (1, .int .u64 (p1 : Int)), (2, .int .u64 (p2 : Int)), (3, .int .u64 (p3 : Int)), (4, .int .u64 (p4 : Int))] (by rfl) _ (built_num p0 p1 p2 p3 p4) ?_)
    | (with_reducible refine wpList_store_row rfl 41 (.tmp 4) (.tmp 38) rfl (w.heap.size + 1) (u64v [p0, p1, p2, p3, p4]).toArray rfl rfl 41 _ hgZ.out (by kernel_rfl) (by kernel_rfl) (all_oneCell_toArray (u64v_one _)) ?_))
  refine bodyPost_ret (v := .agg (u64v [p0, p1, p2, p3, p4]).toArray) (results_cell_row Try.results16 _ _ (w.heap.size + 1) 41 _ (0, 0) _ rfl (setRow_heap _ _ _ _ _ _ hgZ.out) Try.underlying41 rfl (by kernel_rfl)) rfl ⟨p0, p1, p2, p3, p4, rfl, ?_, ⟨l0, l1, l2, l3, l4⟩, below_setRow hbW (by omega) _⟩
  exact vlt (by rw [HP.out, hsum.out])

/-- The first k pieces added. -/
def addK (l m : List Nat) : Nat → List Nat
  | 0 => l
  | k + 1 => (addK l m k).set k (natAt (addK l m k) k + natAt m k)
theorem addK_len (l m : List Nat) : ∀ k, (addK l m k).length = l.length
  | 0 => rfl
  | k + 1 => by rw [addK, List.length_set, addK_len l m k]
theorem addK_five (a0 a1 a2 a3 a4 b0 b1 b2 b3 b4 : Nat) : addK [a0, a1, a2, a3, a4] [b0, b1, b2, b3, b4] 5 = [a0 + b0, a1 + b1, a2 + b2, a3 + b3, a4 + b4] := rfl
theorem addK_at (l m : List Nat) (k : Nat) : ∀ j, j ≤ k → natAt (addK l m j) k = natAt l k
  | 0, _ => rfl
  | j + 1, h => by
    have ih := addK_at l m k j (by omega)
    simp only [natAt, addK] at *
    rw [List.getD_eq_getElem?_getD, List.getElem?_set_ne (by omega), ← List.getD_eq_getElem?_getD]; exact ih
set_option maxRecDepth 100000 in
set_option maxHeartbeats 1000000 in
theorem nplus_any (w : World) (l m : List Nat) (hl : l.length = 5) (hm : m.length = 5) (bl : ∀ x ∈ l, x < 4611686018427387904) (bm : ∀ x ∈ m, x < 4611686018427387904) :
    Calls Try.prog 27 #[.agg (u64v l).toArray, .agg (u64v m).toArray] w fun e w' => e = .returned (.agg (u64v (addK l m 5)).toArray) ∧ Below w.heap.size w w' := by
  have hzn := zero_num
  obtain ⟨W, hW, hgA, hgB, hgZ, hbW, hsW⟩ := three_new w (u64v l).toArray (u64v m).toArray (u64v z5).toArray 41 41 41
  have HW := Lib.hid hW
  have HL := Lib.hid hl
  have HM := Lib.hid hm
  have BL := Lib.hid bl
  have BM := Lib.hid bm
  have hs1 : w.heap.size + 2 < W.heap.size := by have := hsW.out; omega
  clear hW hl hm bl bm
  go_enter Try.func27, Try.ntmps27
  go_upto_region 1 with fail
  rw [HW.out]
  go_wp2_with fail
  go_loopw [6] (fun i wr => ∃ k : Nat, k ≤ 5 ∧ i = .int .i64 (k : Int) ∧ Hid (wr.heap[w.heap.size]? = some (.cells (u64v (addK l m k)).toArray 41 (0, 0))) ∧ But w.heap.size W wr) (fun i _ => 5 - (intOf i).toNat)
  case atStart => exact ⟨0, by omega, rfl, hgA, But.refl _ _⟩
  case round =>
    obtain ⟨k, hk, rfl, hg, hbt⟩ := hrel
    by_cases hlt : k < 5
    · obtain ⟨X, hX⟩ : ∃ X, X = addK l m k := ⟨_, rfl⟩
      rw [← hX] at hg
      have HXL := Lib.hid (show X.length = 5 by rw [hX, addK_len]; exact HL.out)
      have HX := vlt (show addK l m (k + 1) = X.set k (natAt X k + natAt m k) by rw [hX, addK])
      have bx : natAt X k < 4611686018427387904 := by rw [hX, addK_at l m k k (Nat.le_refl _)]; exact getD_lt BL.out (by decide) k
      have bm : natAt m k < 4611686018427387904 := getD_lt BM.out (by decide) k
      clear hX
      have hgB2 : Hid (wr.heap[w.heap.size + 1]? = some (.cells (u64v m).toArray 41 (0, 0))) := (hbt.block _ (by omega) (by intro e; injection e; omega)).trans hgB.out
      have c0 := long_at hg.out k (by rw [HXL.out]; exact hlt)
      have c1 := long_at hgB2.out k (by rw [HM.out]; exact hlt)
      have hset : Hid ((wr.setCell ⟨w.heap.size, k, none⟩ (.int .u64 ((natAt X k : Int) + (natAt m k : Int)))).heap[w.heap.size]? = some (.cells (u64v (addK l m (k + 1))).toArray 41 (0, 0))) := by
        have h1 := (world_set_cell hg.out k (.int .u64 ((natAt X k + natAt m k : Nat) : Int))).out
        rw [u64v_set, ← HX.out, Int.natCast_add] at h1
        exact h1
      have hb2 := hbt.set (i := k) (.int .u64 ((natAt X k : Int) + (natAt m k : Int)))
      have f0 : wr.frozen? ⟨w.heap.size, k, none⟩ = false := frozen_of_row _ _ _ _ _ hg.out
      generalize natAt X k = x0 at *
      generalize natAt m k = y0 at *
      go_wp2_with fail
      go_region
      generalize wr.setCell ⟨w.heap.size, k, none⟩ (.int .u64 ((x0 : Int) + (y0 : Int))) = w3 at *
      go_wp2
      go_roundw
      case rel => exact ⟨k + 1, by omega, by go_num, hset, hb2.drew⟩
      case measure => simp [intOf]; omega
    · obtain ⟨X, hX⟩ : ∃ X, X = addK l m 5 := ⟨_, rfl⟩
      have hgf : Hid (wr.heap[w.heap.size]? = some (.cells (u64v X).toArray 41 (0, 0))) := by
        have h1 := hg.out
        rw [show k = 5 by omega, ← hX] at h1
        exact h1
      have hsX := Lib.hid (show (u64v X).toArray.size = 5 by simp [u64v_len, hX, addK_len, HL.out])
      have hz : Hid (wr.heap[w.heap.size + 1 + 1]? = some (.cells (u64v z5).toArray 41 (0, 0))) := (hbt.block _ (by omega) (by intro e; injection e; omega)).trans hgZ.out
      have HX := Lib.hid hX
      have hbw : Below w.heap.size w wr := But.below hbW hbt (by omega) (by omega)
      clear hX hg
      go_wp2_with (first
        | (with_reducible refine wpList_load_row rfl 41 (.tmp 2) rfl w.heap.size rfl 41 (u64v X).toArray (0, 0) _ hgf.out Try.underlying41 rfl (by rw [hsX.out]; kernel_rfl) ?_)
        | (with_reducible refine wpList_store_row rfl 41 (.tmp 4) (.tmp 18) rfl (w.heap.size + 1 + 1) (u64v X).toArray rfl rfl 41 _ hz.out (by rw [hsX.out]; kernel_rfl) (by rw [hsX.out]; kernel_rfl) (all_oneCell_toArray (u64v_one _)) ?_))
      refine bodyPost_ret (v := .agg (u64v X).toArray) (results_cell_row Try.results27 _ _ (w.heap.size + 1 + 1) 41 _ (0, 0) _ rfl (setRow_heap _ _ _ _ _ _ hz.out) Try.underlying41 rfl (by rw [hsX.out]; kernel_rfl)) rfl ⟨by rw [HX.out], below_setRow hbw (by omega) _⟩
end Go.Proofs.Ytioodeiloepaaaa
