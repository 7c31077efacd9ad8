/-
  Contracts of scalar's next and below. Conditions: the package's own number lies as the program's text lays it.
-/
import Derived.Test.YtlobejnohkecdaaDoorScB
namespace Go.Proofs.YtlobejnohkecdaaDoor
open Go.RowKit

/-- L lies where the program's text lays it. -/
def LaidO (w : World) : Prop := (∀ k x : Nat, oL[k]? = some x → w.cell? ⟨0, k, none⟩ = some (.int .u64 (x : Int))) ∧ 0 < w.heap.size
theorem LaidO.below {w w' : World} {B : Nat} (h : LaidO w) (hB : 0 < B) (hb : Below B w w') : LaidO w' :=
  ⟨fun k x hx => (World.cell?_of_block (hb.block 0 hB)).trans (h.1 k x hx), Nat.lt_of_lt_of_le h.2 hb.size⟩
theorem LaidO.but {w w' : World} {g : Nat} (h : LaidO w) (hg : 0 < g) (hb : But g w w') : LaidO w' :=
  ⟨fun k x hx => (World.cell?_of_block (hb.block 0 h.2 (by intro e; injection e; omega))).trans (h.1 k x hx), Nat.lt_of_lt_of_le h.2 hb.size⟩
theorem oL_at (k : Nat) (h : k < 4) : oL[k]? = some (natAt oL k) := by
  match k, h with
  | 0, _ => rfl
  | 1, _ => rfl
  | 2, _ => rfl
  | 3, _ => rfl
theorem oL_lt : ∀ x ∈ oL, x < B64 := by decide
theorem four_of (X : List Nat) (h : X.length = 4) : X = [natAt X 0, natAt X 1, natAt X 2, natAt X 3] := by
  match X, h with
  | [a, b, c, d], _ => rfl
theorem often_val (x2 x3 : Nat) (h2 : x2 < B64) (h3 : x3 ≤ 1152921504606846976) :
    ∃ q : Nat, q < B64 ∧ bits .or .u64 (bits .or .u64 (IntKind.u64.wrap ((x3 : Int) * 16)) ((x2 : Int) / 1152921504606846976)) (IntKind.u64.wrap (-((x3 : Int) / 1152921504606846976))) = (q : Int) ∧
      ((x3 < 1152921504606846976 ∧ q = 16 * x3 + x2 / 1152921504606846976) ∨ (x3 = 1152921504606846976 ∧ q = 18446744073709551615)) := by
  have l2 : x2 / 1152921504606846976 < 16 := by simp only [B64] at h2; omega
  rw [show (x2 : Int) / 1152921504606846976 = ((x2 / 1152921504606846976 : Nat) : Int) by omega, show (x3 : Int) * 16 = ((x3 * 16 : Nat) : Int) by omega, wrap64]
  by_cases h : x3 < 1152921504606846976
  · refine ⟨16 * x3 + x2 / 1152921504606846976, by simp only [B64]; omega, ?_, .inl ⟨h, rfl⟩⟩
    rw [show IntKind.u64.wrap (-((x3 : Int) / 1152921504606846976)) = ((0 : Nat) : Int) by rw [show (x3 : Int) / 1152921504606846976 = 0 by omega]; decide]
    generalize x2 / 1152921504606846976 = t at *
    rw [u64_or_nat _ _ (by omega) (by omega), u64_or_nat _ _ (Nat.or_lt_two_pow (n := 64) (by omega) (by omega)) (by decide), Nat.or_zero]
    congr 1
    rw [Nat.mod_eq_of_lt (by omega), show x3 * 16 = x3 <<< 4 by rw [Nat.shiftLeft_eq], ← Nat.shiftLeft_add_eq_or_of_lt (by omega)]
    rw [Nat.shiftLeft_eq]; omega
  · have e : x3 = 1152921504606846976 := by omega
    subst e
    refine ⟨18446744073709551615, by decide, ?_, .inr ⟨rfl, rfl⟩⟩
    rw [show IntKind.u64.wrap (-(((1152921504606846976 : Nat) : Int) / 1152921504606846976)) = ((18446744073709551615 : Nat) : Int) by decide]
    generalize x2 / 1152921504606846976 = t at *
    rw [u64_or_nat _ _ (by omega) (by omega)]
    generalize hv : 1152921504606846976 * 16 % 18446744073709551616 ||| t = v
    have lv : v < 18446744073709551616 := by rw [← hv]; exact Nat.or_lt_two_pow (n := 64) (by omega) (by omega)
    rw [u64_or_nat _ _ lv (by decide)]
    congr 1
    rw [show (18446744073709551615 : Nat) = 2 ^ 64 - 1 by decide]
    apply Nat.eq_of_testBit_eq
    intro j
    rw [Nat.testBit_or, Nat.testBit_two_pow_sub_one]
    by_cases hj : j < 64
    · simp [hj]
    · simp only [hj, decide_false, Bool.or_false]
      exact Nat.testBit_lt_two_pow (Nat.lt_of_lt_of_le lv (by rw [show (18446744073709551616 : Nat) = 2 ^ 64 by decide]; exact Nat.pow_le_pow_right (by decide) (by omega)))
theorem under_val (y3 : Nat) (h3 : y3 < B64) : ∃ m : Nat, IntKind.u64.wrap (-((y3 : Int) / 9223372036854775808)) = (m : Int) ∧ m < B64 ∧ ∀ o : Nat, o < B64 → bits .and .u64 (o : Int) (m : Int) = ((y3 / 9223372036854775808 * o : Nat) : Int) ∧ y3 / 9223372036854775808 * o < B64 := by
  have h : y3 / 9223372036854775808 = 0 ∨ y3 / 9223372036854775808 = 1 := by simp only [B64] at h3; omega
  rw [show (y3 : Int) / 9223372036854775808 = ((y3 / 9223372036854775808 : Nat) : Int) by omega]
  rcases h with h | h
  · rw [h]
    refine ⟨0, by decide, by decide, fun o ho => ⟨?_, ?_⟩⟩
    · rw [u64_and_nat _ _ ho (by decide), Nat.and_zero, Nat.zero_mul]
    · rw [Nat.zero_mul]; decide
  · rw [h]
    refine ⟨18446744073709551615, by decide, by decide, fun o ho => ⟨?_, ?_⟩⟩
    · rw [u64_and_nat _ _ ho (by decide), show (18446744073709551615 : Nat) = 2 ^ 64 - 1 by decide, Nat.and_two_pow_sub_one_eq_mod, Nat.mod_eq_of_lt ho, Nat.one_mul]
    · rw [Nat.one_mul]; exact ho
theorem built_num (a b c d : Nat) : Tryd.prog.built 41 [(0, .int .u64 (a : Int)), (1, .int .u64 (b : Int)), (2, .int .u64 (c : Int)), (3, .int .u64 (d : Int))] = some (u64v [a, b, c, d]).toArray := by kernel_rfl
theorem natAt_set_same (l : List Nat) (k v : Nat) (h : k < l.length) : natAt (l.set k v) k = v := by rw [natAt_set _ _ _ _ h, if_pos rfl]
theorem nB_lt4 (X : List Nat) (h : X.length = 4) (hb : ∀ x ∈ X, x < B64) : nB X < 115792089237316195423570985008687907853269984665640564039457584007913129639936 := by
  match X, h with
  | [a, b, c, d], _ =>
    rw [nB_four]
    exact n4_lt a b c d (hb _ (by simp)) (hb _ (by simp)) (hb _ (by simp)) (hb _ (by simp))
theorem next_list (x0 x1 x2 x3 low q c c2 : Nat) (Y R : List Nat) (h0 : x0 < B64) (h1 : x1 < B64) (h2 : x2 < B64) (hlow : low < B64)
    (hN : n4 x0 x1 x2 x3 < FL) (hq : (x3 < 1152921504606846976 ∧ q = 16 * x3 + x2 / 1152921504606846976) ∨ (x3 = 1152921504606846976 ∧ q = 18446744073709551615))
    (hY : Nless q oL [low, x0, x1, x2] Y 4 c) (hR : Nmore (natAt Y 3 / 9223372036854775808) oL Y R 4 c2) : nB R = (low + 18446744073709551616 * n4 x0 x1 x2 x3) % FL := by
  have e : (18446744073709551616 : Nat) ^ 4 = 115792089237316195423570985008687907853269984665640564039457584007913129639936 := by decide
  have h4 := four_of Y hY.len
  have hv := hY.val
  have hv2 := hR.val
  rw [List.take_of_length_le (by decide), nB_oL, e] at hv hv2
  have b0 := natB_mem hY.bound 0
  have b1 := natB_mem hY.bound 1
  have b2 := natB_mem hY.bound 2
  have b3 := natB_mem hY.bound 3
  have hr := nB_lt4 R hR.len hR.bound
  generalize natAt Y 0 = y0 at *
  generalize natAt Y 1 = y1 at *
  generalize natAt Y 2 = y2 at *
  generalize natAt Y 3 = y3 at *
  rw [h4, nB_four, nB_four] at hv
  rw [h4, nB_four] at hv2
  exact next_num x0 x1 x2 x3 low q y0 y1 y2 y3 c (nB R) c2 h0 h1 h2 hlow b0 b1 b2 b3 hN hq hv hv2 hr
theorem x3_le (x0 x1 x2 x3 : Nat) (h : n4 x0 x1 x2 x3 < FL) : x3 ≤ 1152921504606846976 := by
  rw [fl_eq] at h
  simp only [n4] at h
  omega

set_option maxRecDepth 100000 in
set_option maxHeartbeats 2000000 in
theorem lnext_any (w : World) (hla : LaidO w) (x0 x1 x2 x3 low : Nat) (h0 : x0 < B64) (h1 : x1 < B64) (h2 : x2 < B64) (hlow : low < B64) (hN : n4 x0 x1 x2 x3 < FL) :
    Calls Tryd.prog 32 #[.agg (u64v [x0, x1, x2, x3]).toArray, .int .u64 (low : Int)] w fun e w' => ∃ X, e = .returned (.agg (u64v X).toArray) ∧ Vlt (nB X = (low + 18446744073709551616 * n4 x0 x1 x2 x3) % FL) ∧ Hid (X.length = 4) ∧ Vlt (∀ x ∈ X, x < B64) ∧ Below w.heap.size w w' := by
  have hzn := zero_num
  obtain ⟨W, hW, hgX, hgZ, hbW, hsW⟩ := pair_new w (u64v [x0, x1, x2, x3]).toArray (u64v (uptoW 4 [])).toArray 41 41
  have HW := Lib.hid hW
  have hlaW := hla.below hla.2 hbW
  have hs1 : w.heap.size + 1 < W.heap.size := by have := hsW.out; omega
  have hgl := hla.2
  clear hW hsW hla
  have c0 : W.cell? ⟨w.heap.size, 0, none⟩ = some (.int .u64 (x0 : Int)) := long_at hgX.out 0 (by simp)
  have c1 : W.cell? ⟨w.heap.size, 1, none⟩ = some (.int .u64 (x1 : Int)) := long_at hgX.out 1 (by simp)
  have c2 : W.cell? ⟨w.heap.size, 2, none⟩ = some (.int .u64 (x2 : Int)) := long_at hgX.out 2 (by simp)
  have c3 : W.cell? ⟨w.heap.size, 3, none⟩ = some (.int .u64 (x3 : Int)) := long_at hgX.out 3 (by simp)
  obtain ⟨q, lq, eq, hq⟩ := often_val x2 x3 h2 (x3_le x0 x1 x2 x3 hN)
  have HN := vlt hN
  have HQ := vlt hq
  clear hN hq
  go_enter Tryd.func32, Tryd.ntmps32
  go_upto_region 1 with fail
  rw [HW.out]
  go_upto_region 2 with fail
  go_upto_region 3 with (first
    | (with_reducible refine wpList_build_to rfl 41 _ rfl [(0, .int .u64 (low : Int)), (1, .int .u64 (x0 : Int)), (2, .int .u64 (x1 : Int)), (3, .int .u64 (x2 : Int))] (by rfl) _ (built_num low x0 x1 x2) ?_)
    | (with_reducible refine wpList_store_row rfl 41 (.tmp 2) (.tmp 29) rfl w.heap.size (u64v [low, x0, x1, x2]).toArray rfl rfl 41 _ hgX.out (by kernel_rfl) (by kernel_rfl) (all_oneCell_toArray (u64v_one _)) ?_))
  obtain ⟨V, hV⟩ : ∃ V, V = W.setRow w.heap.size (u64v [low, x0, x1, x2]).toArray := ⟨_, rfl⟩
  rw [← hV]
  have hgV : Hid (V.heap[w.heap.size]? = some (.cells (u64v [low, x0, x1, x2]).toArray 41 (0, 0))) := by rw [hV]; exact setRow_heap _ _ _ _ _ _ hgX.out
  have hbV : But w.heap.size W V := by rw [hV]; exact (But.refl _ W).row _
  have hgZV : Hid (V.heap[w.heap.size + 1]? = some (.cells (u64v (uptoW 4 [])).toArray 41 (0, 0))) := by rw [hV]; exact (setRow_other _ _ _ _ (by omega)).trans hgZ.out
  have hbwV : Below w.heap.size w V := by rw [hV]; exact below_setRow hbW (by omega) _
  have hlaV := hlaW.but hgl hbV
  have hsV : w.heap.size + 1 < V.heap.size := (Array.getElem?_eq_some_iff.1 hgZV.out).1
  have hX0 := vlt (show Nless q oL [low, x0, x1, x2] [low, x0, x1, x2] 0 0 from Nless.first rfl (by
    intro x hx
    simp only [List.mem_cons, List.not_mem_nil, or_false] at hx
    simp only [B64] at *
    omega))
  generalize hX0v : [low, x0, x1, x2] = X0 at *
  have HX0 := vlt hX0v
  clear hX0v hV c0 c1 c2 c3 hgX hgZ hlaW hbV eq hs1 hbW HW
  go_wp2_with fail
  go_loopw [6, 30] (fun cc s wr => ∃ (k c : Nat) (X : List Nat), k ≤ 4 ∧ s = .int .i64 (k : Int) ∧ cc = .int .u64 (c : Int) ∧ c < B64 ∧ Hid (wr.heap[w.heap.size]? = some (.cells (u64v X).toArray 41 (0, 0))) ∧ Vlt (Nless q oL X0 X k c) ∧ But w.heap.size V wr) (fun _ s _ => 4 - (intOf s).toNat)
  case atStart => exact ⟨0, 0, X0, by omega, rfl, rfl, by decide, hgV, hX0, But.refl _ _⟩
  case round =>
    clear hX0 hgV
    obtain ⟨k, c, X, hk, rfl, rfl, hc, hg, hL, hbt⟩ := hrel
    by_cases hkt : k < 4
    · have hlaR := hlaV.but hgl hbt
      have c0 := hlaR.1 k _ (oL_at k hkt)
      have c1 := long_at hg.out k (by rw [hL.out.len]; exact hkt)
      have lo := natB_mem oL_lt k
      have lx := natB_mem hL.out.bound k
      have et := turn64 _ lx
      have hN := vlt (fun low high e hl hh => hL.out.step rfl hkt low high e hl hh)
      have hlen := Lib.hid hL.out.len
      have ld : 18446744073709551615 - natAt X k < B64 := by simp only [B64]; omega
      generalize natAt oL k = o at *
      generalize natAt X k = x at *
      generalize 18446744073709551615 - x = d at *
      clear hL hlaR
      go_wp2_with fail
      refine c_start (S := (fun W' => W'.cell? ⟨0, k, none⟩ = some (.int .u64 (o : Int)) ∧ W'.cell? ⟨w.heap.size, k, none⟩ = some (.int .u64 (x : Int)))) 16 (by kernel_rfl) (⟨c0, c1⟩) (fun hHeld => ?_)
      refine c_take (i := 0) (oi := ⟨(some 34), _, _, _, _, _⟩) (v := ?vq1_0) rfl (by decide) (by kernel_rfl) (by kernel_rfl) (by kernel_rfl) (fun _ _ _ h => h) (Or.inl ⟨by rfl, ?yq1_0⟩) hHeld ?_
      case yq1_0 => (intro W0 hSw; go_simp; try with_reducible rfl)
      try simp only [Act.put, List.setIfInBounds_toArray, List.set_cons_zero, List.set_cons_succ]
      refine c_take (i := 1) (oi := ⟨(some 35), _, _, _, _, _⟩) (v := ?vq1_1) rfl (by decide) (by kernel_rfl) (by kernel_rfl) (by kernel_rfl) (fun _ _ _ h => h) (Or.inl ⟨by rfl, ?yq1_1⟩) hHeld ?_
      case yq1_1 => (intro W0 hSw; go_simp; try with_reducible rfl)
      try simp only [Act.put, List.setIfInBounds_toArray, List.set_cons_zero, List.set_cons_succ]
      refine c_take (i := 2) (oi := ⟨(some 36), _, _, _, _, _⟩) (v := ?vq1_2) rfl (by decide) (by kernel_rfl) (by kernel_rfl) (by kernel_rfl) (fun _ _ _ h => h) (Or.inl ⟨by rfl, ?yq1_2⟩) hHeld ?_
      case yq1_2 => (intro W0 hSw; go_simp; try with_reducible rfl)
      try simp only [Act.put, List.setIfInBounds_toArray, List.set_cons_zero, List.set_cons_succ]
      refine c_take (i := 3) (oi := ⟨(some 37), _, _, _, _, _⟩) (v := ?vq1_3) rfl (by decide) (by kernel_rfl) (by kernel_rfl) (by kernel_rfl) (fun _ _ _ h => h) (Or.inl ⟨by rfl, ?yq1_3⟩) hHeld ?_
      case yq1_3 => (intro W0 hSw; go_simp; try with_reducible rfl)
      try simp only [Act.put, List.setIfInBounds_toArray, List.set_cons_zero, List.set_cons_succ]
      refine c_read (i := 4) (oi := ⟨(some 38), _, _, _, _, _⟩) (v := ?vq1_4) rfl (by decide) (by kernel_rfl) (by kernel_rfl) (by kernel_rfl) (by kernel_rfl) (by kernel_rfl) (fun _ _ _ h => h) (Or.inl ⟨by rfl, ?yq1_4⟩) hHeld ?_
      case yq1_4 => (intro W0 hSw; go_simp; try with_reducible rfl)
      try simp only [Act.put, List.setIfInBounds_toArray, List.set_cons_zero, List.set_cons_succ]
      refine c_take (i := 5) (oi := ⟨(some 39), _, _, _, _, _⟩) (v := ?vq1_5) rfl (by decide) (by kernel_rfl) (by kernel_rfl) (by kernel_rfl) (fun _ _ _ h => h) (Or.inl ⟨by rfl, ?yq1_5⟩) hHeld ?_
      case yq1_5 => (intro W0 hSw; go_simp; try with_reducible rfl)
      try simp only [Act.put, List.setIfInBounds_toArray, List.set_cons_zero, List.set_cons_succ]
      refine c_take (i := 6) (oi := ⟨(some 40), _, _, _, _, _⟩) (v := ?vq1_6) rfl (by decide) (by kernel_rfl) (by kernel_rfl) (by kernel_rfl) (fun _ _ _ h => h) (Or.inl ⟨by rfl, ?yq1_6⟩) hHeld ?_
      case yq1_6 => (intro W0 hSw; go_simp; try with_reducible rfl)
      try simp only [Act.put, List.setIfInBounds_toArray, List.set_cons_zero, List.set_cons_succ]
      refine c_read (i := 7) (oi := ⟨(some 41), _, _, _, _, _⟩) (v := ?vq1_7) rfl (by decide) (by kernel_rfl) (by kernel_rfl) (by kernel_rfl) (by kernel_rfl) (by kernel_rfl) (fun _ _ _ h => h) (Or.inl ⟨by rfl, ?yq1_7⟩) hHeld ?_
      case yq1_7 => (intro W0 hSw; go_simp; try with_reducible rfl)
      try simp only [Act.put, List.setIfInBounds_toArray, List.set_cons_zero, List.set_cons_succ]
      refine c_take (i := 8) (oi := ⟨(some 42), _, _, _, _, _⟩) (v := ?vq1_8) rfl (by decide) (by kernel_rfl) (by kernel_rfl) (by kernel_rfl) (fun _ _ _ h => h) (Or.inl ⟨by rfl, ?yq1_8⟩) hHeld ?_
      case yq1_8 => (intro W0 hSw; go_simp; try with_reducible rfl)
      try simp only [Act.put, List.setIfInBounds_toArray, List.set_cons_zero, List.set_cons_succ]
      refine c_take (i := 9) (oi := ⟨(some 43), _, _, _, _, _⟩) (v := ?vq1_9) rfl (by decide) (by kernel_rfl) (by kernel_rfl) (by kernel_rfl) (fun _ _ _ h => h) (Or.inl ⟨by rfl, ?yq1_9⟩) hHeld ?_
      case yq1_9 => (intro W0 hSw; go_simp; try with_reducible rfl)
      try simp only [Act.put, List.setIfInBounds_toArray, List.set_cons_zero, List.set_cons_succ]
      refine c_step (i := 10) (o := ⟨(some 44), _, _, _, _, _⟩) (by kernel_rfl) rfl (fun K hK => ?_)
      go_simp
      rw [show (if IntKind.u64.signed = true then (-1 : Int) else IntKind.u64.max) = IntKind.u64.max from rfl, et]
      refine (lstep_any _ q o d c lq lo ld hc).mono ?_
      rintro e w3 ⟨h, l, rfl, he, lh, ll, rfl⟩
      refine hK.out _ _ (hHeld) (fun hHeld => ?_)
      clear hK K
      try simp only [Act.put, List.setIfInBounds_toArray, List.set_cons_zero, List.set_cons_succ]
      refine c_take (i := 11) (oi := ⟨(some 33), _, _, _, _, _⟩) (v := ?vq1_10) rfl (by decide) (by kernel_rfl) (by kernel_rfl) (by kernel_rfl) (fun _ _ _ h => h) (Or.inl ⟨by rfl, ?yq1_10⟩) hHeld ?_
      case yq1_10 => (intro W0 hSw; go_simp; try with_reducible rfl)
      try simp only [Act.put, List.setIfInBounds_toArray, List.set_cons_zero, List.set_cons_succ]
      refine c_take (i := 12) (oi := ⟨(some 45), _, _, _, _, _⟩) (v := ?vq1_11) rfl (by decide) (by kernel_rfl) (by kernel_rfl) (by kernel_rfl) (fun _ _ _ h => h) (Or.inl ⟨by rfl, ?yq1_11⟩) hHeld ?_
      case yq1_11 => (intro W0 hSw; go_simp; try with_reducible rfl)
      try simp only [Act.put, List.setIfInBounds_toArray, List.set_cons_zero, List.set_cons_succ]
      refine c_take (i := 13) (oi := ⟨(some 46), _, _, _, _, _⟩) (v := ?vq1_12) rfl (by decide) (by kernel_rfl) (by kernel_rfl) (by kernel_rfl) (fun _ _ _ h => h) (Or.inl ⟨by rfl, ?yq1_12⟩) hHeld ?_
      case yq1_12 => (intro W0 hSw; go_simp; try with_reducible rfl)
      try simp only [Act.put, List.setIfInBounds_toArray, List.set_cons_zero, List.set_cons_succ]
      refine c_take (i := 14) (oi := ⟨(some 6), _, _, _, _, _⟩) (v := ?vq1_13) rfl (by decide) (by kernel_rfl) (by kernel_rfl) (by kernel_rfl) (fun _ _ _ h => h) (Or.inl ⟨by rfl, ?yq1_13⟩) hHeld ?_
      case yq1_13 => (intro W0 hSw; go_simp; try with_reducible rfl)
      try simp only [Act.put, List.setIfInBounds_toArray, List.set_cons_zero, List.set_cons_succ]
      refine c_take (i := 15) (oi := ⟨(some 47), _, _, _, _, _⟩) (v := ?vq1_14) rfl (by decide) (by kernel_rfl) (by kernel_rfl) (by kernel_rfl) (fun _ _ _ h => h) (Or.inl ⟨by rfl, ?yq1_14⟩) hHeld ?_
      case yq1_14 => (intro W0 hSw; go_simp; try with_reducible rfl)
      try simp only [Act.put, List.setIfInBounds_toArray, List.set_cons_zero, List.set_cons_succ]
      refine c_call (S' := (fun _ => True)) (o := ⟨none, _, _, _, _, _⟩) (by kernel_rfl) (by kernel_rfl) rfl (fun K hK => ?_)
      clear hHeld
      refine step_set rfl 38 (.tmp 47) (.tmp 46) rfl Tryd.sizeU64 w.heap.size k (by rfl) .u64 (l : Int) (by rfl) (u64v X) 41 hg.out (by rw [u64v_len, hlen.out]; exact hkt) V hbt.drew ?_
      intro w4 hg4 hb4
      refine hK.out _ _ (trivial) (fun hHeld => ?_)
      clear hK K
      try simp only [Act.put]
      refine wpAnyH_done (by kernel_rfl) ?_ _
      rw [u64v_set] at hg4
      have hT2 := vlt (hN.out l h he.out ll lh)
      have c4 := long_at hg4.out k (by rw [List.length_set, hlen.out]; exact hkt)
      rw [natAt_set_same _ _ _ (by rw [hlen.out]; exact hkt)] at c4
      have f4 : w4.frozen? ⟨w.heap.size, k, none⟩ = false := frozen_of_row _ _ _ _ _ hg4.out
      have et4 := turn64 l ll
      have hset := world_set_cell hg4.out k (.int .u64 ((18446744073709551615 - l : Nat) : Int))
      rw [u64v_set, List.set_set] at hset
      have hb5 := hb4.set (i := k) (.int .u64 ((18446744073709551615 - l : Nat) : Int))
      generalize 18446744073709551615 - l = m at *
      have et5 : bits .xor .u64 (if IntKind.u64.signed = true then (-1 : Int) else IntKind.u64.max) (l : Int) = (m : Int) := et4
      clear he hN hg4
      go_wp2
      go_roundw
      case rel => exact ⟨k + 1, h, _, by omega, by go_num, rfl, lh, hset, hT2, hb5⟩
      case measure => simp [intOf]; omega
    · obtain rfl : k = 4 := by omega
      have hbwr : Below w.heap.size w wr := But.below hbwV hbt (by omega) (by omega)
      have hgZr : Hid (wr.heap[w.heap.size + 1]? = some (.cells (u64v (uptoW 4 [])).toArray 41 (0, 0))) := (hbt.block _ (by omega) (by intro e; injection e; omega)).trans hgZV.out
      have hlaR := hlaV.but hgl hbt
      have hsR : w.heap.size + 1 < wr.heap.size := (Array.getElem?_eq_some_iff.1 hgZr.out).1
      clear hlaV hbt hgZV hbwV hsV
      have c3 := long_at hg.out 3 (by rw [hL.out.len]; decide)
      have l3 := natB_mem hL.out.bound 3
      obtain ⟨m, em, lm, hm⟩ := under_val _ l3
      have HM := vlt hm
      have hR0 := vlt (show Nmore (natAt X 3 / 9223372036854775808) oL X X 0 0 from Nmore.first hL.out.len hL.out.bound)
      generalize natAt X 3 = y3 at c3 em
      go_upto_region 12 with fail
      obtain ⟨Y0, hY0⟩ : ∃ Y0, Y0 = wr := ⟨_, rfl⟩
      subst hY0
      clear c3 em hm
      go_wp2_with fail
      generalize (4 : Nat) = kk
      go_loopw [6, 59] (fun cc s wi => ∃ (k c : Nat) (R : List Nat), k ≤ 4 ∧ s = .int .i64 (k : Int) ∧ cc = .int .u64 (c : Int) ∧ c ≤ 1 ∧ Hid (wi.heap[w.heap.size]? = some (.cells (u64v R).toArray 41 (0, 0))) ∧ Vlt (Nmore (natAt X 3 / 9223372036854775808) oL X R k c) ∧ But w.heap.size Y0 wi) (fun _ s _ => 4 - (intOf s).toNat)
      case atStart => exact ⟨0, 0, X, by omega, rfl, rfl, by decide, hg, hR0, But.refl _ _⟩
      case round =>
        clear hg hR0
        obtain ⟨k, c2, R, hk, rfl, rfl, hc2, hg, hR, hbt⟩ := hrel
        by_cases hkt : k < 4
        · have hlaR2 := hlaR.but hgl hbt
          have c0 := hlaR2.1 k _ (oL_at k hkt)
          have c1 := long_at hg.out k (by rw [hR.out.len]; exact hkt)
          have lo := natB_mem oL_lt k
          have lx := natB_mem hR.out.bound k
          have hA := HM.out _ lo
          have hN := vlt (fun low high e hl hh => hR.out.step rfl hkt low high e hl hh)
          have hlen := Lib.hid hR.out.len
          generalize natAt oL k = o at *
          generalize natAt R k = x at *
          obtain ⟨p, hp⟩ : ∃ p, p = natAt X 3 / 9223372036854775808 * o := ⟨_, rfl⟩
          rw [← hp] at hA hN
          obtain ⟨ea, lp⟩ := hA
          obtain ⟨s1, o1, r1, e1, ls1, lo1⟩ := add64_ex add_run x p c2 lx lp hc2
          clear hR hlaR2 hp
          go_wp2_with fail
          refine c_start (S := (fun W' => W'.cell? ⟨0, k, none⟩ = some (.int .u64 (o : Int)) ∧ W'.cell? ⟨w.heap.size, k, none⟩ = some (.int .u64 (x : Int)))) 15 (by kernel_rfl) (⟨c0, c1⟩) (fun hHeld => ?_)
          refine c_take (i := 0) (oi := ⟨(some 63), _, _, _, _, _⟩) (v := ?vq2_0) rfl (by decide) (by kernel_rfl) (by kernel_rfl) (by kernel_rfl) (fun _ _ _ h => h) (Or.inl ⟨by rfl, ?yq2_0⟩) hHeld ?_
          case yq2_0 => (intro W0 hSw; go_simp; try with_reducible rfl)
          try simp only [Act.put, List.setIfInBounds_toArray, List.set_cons_zero, List.set_cons_succ]
          refine c_take (i := 1) (oi := ⟨(some 64), _, _, _, _, _⟩) (v := ?vq2_1) rfl (by decide) (by kernel_rfl) (by kernel_rfl) (by kernel_rfl) (fun _ _ _ h => h) (Or.inl ⟨by rfl, ?yq2_1⟩) hHeld ?_
          case yq2_1 => (intro W0 hSw; go_simp; try with_reducible rfl)
          try simp only [Act.put, List.setIfInBounds_toArray, List.set_cons_zero, List.set_cons_succ]
          refine c_take (i := 2) (oi := ⟨(some 65), _, _, _, _, _⟩) (v := ?vq2_2) rfl (by decide) (by kernel_rfl) (by kernel_rfl) (by kernel_rfl) (fun _ _ _ h => h) (Or.inl ⟨by rfl, ?yq2_2⟩) hHeld ?_
          case yq2_2 => (intro W0 hSw; go_simp; try with_reducible rfl)
          try simp only [Act.put, List.setIfInBounds_toArray, List.set_cons_zero, List.set_cons_succ]
          refine c_read (i := 3) (oi := ⟨(some 66), _, _, _, _, _⟩) (v := ?vq2_3) rfl (by decide) (by kernel_rfl) (by kernel_rfl) (by kernel_rfl) (by kernel_rfl) (by kernel_rfl) (fun _ _ _ h => h) (Or.inl ⟨by rfl, ?yq2_3⟩) hHeld ?_
          case yq2_3 => (intro W0 hSw; go_simp; try with_reducible rfl)
          try simp only [Act.put, List.setIfInBounds_toArray, List.set_cons_zero, List.set_cons_succ]
          refine c_take (i := 4) (oi := ⟨(some 67), _, _, _, _, _⟩) (v := ?vq2_4) rfl (by decide) (by kernel_rfl) (by kernel_rfl) (by kernel_rfl) (fun _ _ _ h => h) (Or.inl ⟨by rfl, ?yq2_4⟩) hHeld ?_
          case yq2_4 => (intro W0 hSw; go_simp; try with_reducible rfl)
          try simp only [Act.put, List.setIfInBounds_toArray, List.set_cons_zero, List.set_cons_succ]
          refine c_take (i := 5) (oi := ⟨(some 68), _, _, _, _, _⟩) (v := ?vq2_5) rfl (by decide) (by kernel_rfl) (by kernel_rfl) (by kernel_rfl) (fun _ _ _ h => h) (Or.inl ⟨by rfl, ?yq2_5⟩) hHeld ?_
          case yq2_5 => (intro W0 hSw; go_simp; try with_reducible rfl)
          try simp only [Act.put, List.setIfInBounds_toArray, List.set_cons_zero, List.set_cons_succ]
          refine c_read (i := 6) (oi := ⟨(some 69), _, _, _, _, _⟩) (v := ?vq2_6) rfl (by decide) (by kernel_rfl) (by kernel_rfl) (by kernel_rfl) (by kernel_rfl) (by kernel_rfl) (fun _ _ _ h => h) (Or.inl ⟨by rfl, ?yq2_6⟩) hHeld ?_
          case yq2_6 => (intro W0 hSw; go_simp; try with_reducible rfl)
          try simp only [Act.put, List.setIfInBounds_toArray, List.set_cons_zero, List.set_cons_succ]
          refine c_take (i := 7) (oi := ⟨(some 70), _, _, _, _, _⟩) (v := ?vq2_7) rfl (by decide) (by kernel_rfl) (by kernel_rfl) (by kernel_rfl) (fun _ _ _ h => h) (Or.inl ⟨by rfl, ?yq2_7⟩) hHeld ?_
          case yq2_7 => (intro W0 hSw; go_simp; try with_reducible rfl)
          try simp only [Act.put, List.setIfInBounds_toArray, List.set_cons_zero, List.set_cons_succ]
          refine c_take (i := 8) (oi := ⟨(some 71), _, _, _, _, _⟩) (v := ?vq2_8) rfl (by decide) (by kernel_rfl) (by kernel_rfl) (by kernel_rfl) (fun _ _ _ h => h) (Or.inl ⟨by rfl, ?yq2_8⟩) hHeld ?_
          case yq2_8 => (intro W0 hSw; go_simp; try with_reducible rfl)
          try simp only [Act.put, List.setIfInBounds_toArray, List.set_cons_zero, List.set_cons_succ]
          refine c_take (i := 9) (oi := ⟨(some 72), _, _, _, _, _⟩) (v := ?vq2_9) rfl (by decide) (by kernel_rfl) (by kernel_rfl) (by kernel_rfl) (fun _ _ _ h => h) (Or.inl ⟨by rfl, ?yq2_9⟩) hHeld ?_
          case yq2_9 => (intro W0 hSw; go_simp; try with_reducible rfl)
          try simp only [Act.put, List.setIfInBounds_toArray, List.set_cons_zero, List.set_cons_succ]
          refine c_take (i := 10) (oi := ⟨(some 73), _, _, _, _, _⟩) (v := ?vq2_10) rfl (by decide) (by kernel_rfl) (by kernel_rfl) (by kernel_rfl) (fun _ _ _ h => h) (Or.inl ⟨by rfl, ?yq2_10⟩) hHeld ?_
          case yq2_10 => (intro W0 hSw; go_simp; try with_reducible rfl)
          try simp only [Act.put, List.setIfInBounds_toArray, List.set_cons_zero, List.set_cons_succ]
          refine c_take (i := 11) (oi := ⟨(some 62), _, _, _, _, _⟩) (v := ?vq2_11) rfl (by decide) (by kernel_rfl) (by kernel_rfl) (by kernel_rfl) (fun _ _ _ h => h) (Or.inl ⟨by rfl, ?yq2_11⟩) hHeld ?_
          case yq2_11 => (intro W0 hSw; go_simp; try with_reducible rfl)
          try simp only [Act.put, List.setIfInBounds_toArray, List.set_cons_zero, List.set_cons_succ]
          refine c_take (i := 12) (oi := ⟨(some 74), _, _, _, _, _⟩) (v := ?vq2_12) rfl (by decide) (by kernel_rfl) (by kernel_rfl) (by kernel_rfl) (fun _ _ _ h => h) (Or.inl ⟨by rfl, ?yq2_12⟩) hHeld ?_
          case yq2_12 => (intro W0 hSw; go_simp; try with_reducible rfl)
          try simp only [Act.put, List.setIfInBounds_toArray, List.set_cons_zero, List.set_cons_succ]
          refine c_take (i := 13) (oi := ⟨(some 75), _, _, _, _, _⟩) (v := ?vq2_13) rfl (by decide) (by kernel_rfl) (by kernel_rfl) (by kernel_rfl) (fun _ _ _ h => h) (Or.inl ⟨by rfl, ?yq2_13⟩) hHeld ?_
          case yq2_13 => (intro W0 hSw; go_simp; try with_reducible rfl)
          try simp only [Act.put, List.setIfInBounds_toArray, List.set_cons_zero, List.set_cons_succ]
          refine c_take (i := 14) (oi := ⟨(some 76), _, _, _, _, _⟩) (v := ?vq2_14) rfl (by decide) (by kernel_rfl) (by kernel_rfl) (by kernel_rfl) (fun _ _ _ h => h) (Or.inl ⟨by rfl, ?yq2_14⟩) hHeld ?_
          case yq2_14 => (intro W0 hSw; go_simp; try with_reducible rfl)
          try simp only [Act.put, List.setIfInBounds_toArray, List.set_cons_zero, List.set_cons_succ]
          refine c_call (S' := (fun _ => True)) (o := ⟨none, _, _, _, _, _⟩) (by kernel_rfl) (by kernel_rfl) rfl (fun K hK => ?_)
          clear hHeld
          refine step_set rfl 38 (.tmp 76) (.tmp 74) rfl Tryd.sizeU64 w.heap.size k (by rfl) .u64 (s1 : Int) (by rfl) (u64v R) 41 hg.out (by rw [u64v_len, hlen.out]; exact hkt) Y0 hbt.drew ?_
          intro w4 hg4 hb4
          refine hK.out _ _ (trivial) (fun hHeld => ?_)
          clear hK K
          try simp only [Act.put]
          refine wpAnyH_take (i := 16) (oi := ⟨(some 6), _, _, _, _, _⟩) (v := ?vq2_15) rfl (by kernel_rfl) (by kernel_rfl) (by kernel_rfl) (fun _ _ _ h => h) (Or.inl ⟨by rfl, ?yq2_15⟩) hHeld ?_
          case yq2_15 => (intro W0 hSw; go_simp; try with_reducible rfl)
          try simp only [Act.put, List.setIfInBounds_toArray, List.set_cons_zero, List.set_cons_succ]
          refine wpAnyH_done (by kernel_rfl) ?_ _
          rw [u64v_set] at hg4
          have hT2 := vlt (hN.out s1 o1 e1.out ls1 lo1)
          clear e1 hN
          go_wp2
          go_roundw
          case rel => exact ⟨k + 1, o1, _, by omega, by go_num, rfl, lo1, hg4, hT2, hb4⟩
          case measure => simp [intOf]; omega
        · obtain rfl : k = 4 := by omega
          have HE := vlt (next_list x0 x1 x2 x3 low q c c2 X R h0 h1 h2 hlow HN.out HQ.out (by have h := hL.out; rwa [← HX0.out] at h) hR.out)
          have hRL := Lib.hid hR.out.len
          have hRB := vlt hR.out.bound
          have HUS := Lib.hid (show (u64v R).toArray.size = 4 by simp [u64v_len, hRL.out])
          have HZS := Lib.hid (show (u64v (uptoW 4 [])).toArray.size = 4 from rfl)
          have hz4 : Hid (wr.heap[w.heap.size + 1]? = some (.cells (u64v (uptoW 4 [])).toArray 41 (0, 0))) := (hbt.block _ (by omega) (by intro e; injection e; omega)).trans hgZr.out
          have hb4 : Below w.heap.size w wr := But.below hbwr hbt (by omega) (by omega)
          clear hR hL HM HX0
          go_wp2_with (first
            | (with_reducible refine wpList_load_row rfl 41 (.tmp 2) rfl w.heap.size rfl 41 (u64v R).toArray (0, 0) _ hg.out Tryd.underlying41 rfl (by rw [HUS.out]; kernel_rfl) ?_)
            | (with_reducible refine wpList_store_row rfl 41 (.tmp 4) (.tmp 78) rfl (w.heap.size + 1) (u64v R).toArray rfl rfl 41 _ hz4.out (by rw [HUS.out]; kernel_rfl) (by rw [HUS.out]; exact HZS.out) (all_oneCell_toArray (u64v_one _)) ?_))
          refine bodyPost_ret (v := .agg (u64v R).toArray) (results_cell_row Tryd.results32 _ _ (w.heap.size + 1) 41 _ (0, 0) _ rfl (setRow_heap _ _ _ _ _ _ hz4.out) Tryd.underlying41 rfl (by rw [HUS.out]; kernel_rfl)) rfl ⟨R, rfl, HE, hRL, hRB, below_setRow hb4 (by omega) _⟩
end Go.Proofs.YtlobejnohkecdaaDoor
