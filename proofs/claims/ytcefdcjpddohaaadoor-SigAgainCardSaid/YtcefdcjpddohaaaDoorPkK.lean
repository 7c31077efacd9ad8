/-
  Words and contracts that other texts share, several in one text. No statement of the seat is proved here. Conditions: as each contract says.
  Contracts of scalar's next and below. Conditions: the package's own number lies as the program's text lays it.
  Contract of scalar's below. Conditions: the package's own number lies as the program's text lays it.
  Contract of scalar's told: a number's 32 bytes. Conditions: pieces below 2^64.
  Contracts of scalar's Long, Norm, Good, Add, Sub, Mul: each answer is the word of its number modulo L. Conditions: the package's own number lies as the program's text lays it.
  The long sum of bytes (SHA-512) as numbers and lists, for the kernel to reckon: no statement is proved here. Conditions: none.
  Contracts of math/bits' RotateLeft64 and of sha's longTurned. Conditions: the word is below 2^64; the turns are from 1 to 63.
  The object of a long sum in memory, and the two tables: words that the contracts of sha share. No statement is proved here. Conditions: none.
-/
import Derived.Test.YtcefdcjpddohaaaDoorPkJ
import Derived.Test.YtcefdcjpddohaaaDoorPkC
import Derived.Test.YtcefdcjpddohaaaDoorPkB
import Derived.Test.YtcefdcjpddohaaaDoorPkA
import Derived.Laws.BitsAllLaws
namespace Go.Proofs.YtcefdcjpddohaaaDoor
open Go.RowKit

/-- L lies where the program's text lays it. -/
def LaidO (w : World) : Prop := (∀ k x : Nat, oL[k]? = some x → w.cell? ⟨2, k, none⟩ = some (.int .u64 (x : Int))) ∧ 2 < w.heap.size
theorem LaidO.below {w w' : World} {B : Nat} (h : LaidO w) (hB : 2 < B) (hb : Below B w w') : LaidO w' :=
  ⟨fun k x hx => (World.cell?_of_block (hb.block 2 hB)).trans (h.1 k x hx), Nat.lt_of_lt_of_le h.2 hb.size⟩
theorem LaidO.but {w w' : World} {g : Nat} (h : LaidO w) (hg : 2 < g) (hb : But g w w') : LaidO w' :=
  ⟨fun k x hx => (World.cell?_of_block (hb.block 2 h.2 (by intro e; injection e; omega))).trans (h.1 k x hx), Nat.lt_of_lt_of_le h.2 hb.size⟩
theorem oL_at (k : Nat) (h : k < 4) : oL[k]? = some (natAt oL k) := by
  match k, h with
  | 0, _ => rfl
  | 1, _ => rfl
  | 2, _ => rfl
  | 3, _ => rfl
theorem oL_lt : ∀ x ∈ oL, x < B64 := by decide
theorem four_of (X : List Nat) (h : X.length = 4) : X = [natAt X 0, natAt X 1, natAt X 2, natAt X 3] := by
  match X, h with
  | [a, b, c, d], _ => rfl
theorem often_val (x2 x3 : Nat) (h2 : x2 < B64) (h3 : x3 ≤ 1152921504606846976) :
    ∃ q : Nat, q < B64 ∧ bits .or .u64 (bits .or .u64 (IntKind.u64.wrap ((x3 : Int) * 16)) ((x2 : Int) / 1152921504606846976)) (IntKind.u64.wrap (-((x3 : Int) / 1152921504606846976))) = (q : Int) ∧
      ((x3 < 1152921504606846976 ∧ q = 16 * x3 + x2 / 1152921504606846976) ∨ (x3 = 1152921504606846976 ∧ q = 18446744073709551615)) := by
  have l2 : x2 / 1152921504606846976 < 16 := by simp only [B64] at h2; omega
  rw [show (x2 : Int) / 1152921504606846976 = ((x2 / 1152921504606846976 : Nat) : Int) by omega, show (x3 : Int) * 16 = ((x3 * 16 : Nat) : Int) by omega, wrap64]
  by_cases h : x3 < 1152921504606846976
  · refine ⟨16 * x3 + x2 / 1152921504606846976, by simp only [B64]; omega, ?_, .inl ⟨h, rfl⟩⟩
    rw [show IntKind.u64.wrap (-((x3 : Int) / 1152921504606846976)) = ((0 : Nat) : Int) by rw [show (x3 : Int) / 1152921504606846976 = 0 by omega]; decide]
    generalize x2 / 1152921504606846976 = t at *
    rw [u64_or_nat _ _ (by omega) (by omega), u64_or_nat _ _ (Nat.or_lt_two_pow (n := 64) (by omega) (by omega)) (by decide), Nat.or_zero]
    congr 1
    rw [Nat.mod_eq_of_lt (by omega), show x3 * 16 = x3 <<< 4 by rw [Nat.shiftLeft_eq], ← Nat.shiftLeft_add_eq_or_of_lt (by omega)]
    rw [Nat.shiftLeft_eq]; omega
  · have e : x3 = 1152921504606846976 := by omega
    subst e
    refine ⟨18446744073709551615, by decide, ?_, .inr ⟨rfl, rfl⟩⟩
    rw [show IntKind.u64.wrap (-(((1152921504606846976 : Nat) : Int) / 1152921504606846976)) = ((18446744073709551615 : Nat) : Int) by decide]
    generalize x2 / 1152921504606846976 = t at *
    rw [u64_or_nat _ _ (by omega) (by omega)]
    generalize hv : 1152921504606846976 * 16 % 18446744073709551616 ||| t = v
    have lv : v < 18446744073709551616 := by rw [← hv]; exact Nat.or_lt_two_pow (n := 64) (by omega) (by omega)
    rw [u64_or_nat _ _ lv (by decide)]
    congr 1
    rw [show (18446744073709551615 : Nat) = 2 ^ 64 - 1 by decide]
    apply Nat.eq_of_testBit_eq
    intro j
    rw [Nat.testBit_or, Nat.testBit_two_pow_sub_one]
    by_cases hj : j < 64
    · simp [hj]
    · simp only [hj, decide_false, Bool.or_false]
      exact Nat.testBit_lt_two_pow (Nat.lt_of_lt_of_le lv (by rw [show (18446744073709551616 : Nat) = 2 ^ 64 by decide]; exact Nat.pow_le_pow_right (by decide) (by omega)))
theorem under_val (y3 : Nat) (h3 : y3 < B64) : ∃ m : Nat, IntKind.u64.wrap (-((y3 : Int) / 9223372036854775808)) = (m : Int) ∧ m < B64 ∧ ∀ o : Nat, o < B64 → bits .and .u64 (o : Int) (m : Int) = ((y3 / 9223372036854775808 * o : Nat) : Int) ∧ y3 / 9223372036854775808 * o < B64 := by
  have h : y3 / 9223372036854775808 = 0 ∨ y3 / 9223372036854775808 = 1 := by simp only [B64] at h3; omega
  rw [show (y3 : Int) / 9223372036854775808 = ((y3 / 9223372036854775808 : Nat) : Int) by omega]
  rcases h with h | h
  · rw [h]
    refine ⟨0, by decide, by decide, fun o ho => ⟨?_, ?_⟩⟩
    · rw [u64_and_nat _ _ ho (by decide), Nat.and_zero, Nat.zero_mul]
    · rw [Nat.zero_mul]; decide
  · rw [h]
    refine ⟨18446744073709551615, by decide, by decide, fun o ho => ⟨?_, ?_⟩⟩
    · rw [u64_and_nat _ _ ho (by decide), show (18446744073709551615 : Nat) = 2 ^ 64 - 1 by decide, Nat.and_two_pow_sub_one_eq_mod, Nat.mod_eq_of_lt ho, Nat.one_mul]
    · rw [Nat.one_mul]; exact ho
theorem built_num (a b c d : Nat) : Tryd.prog.built 54 [(0, .int .u64 (a : Int)), (1, .int .u64 (b : Int)), (2, .int .u64 (c : Int)), (3, .int .u64 (d : Int))] = some (u64v [a, b, c, d]).toArray := by kernel_rfl
theorem natAt_set_same (l : List Nat) (k v : Nat) (h : k < l.length) : natAt (l.set k v) k = v := by rw [natAt_set _ _ _ _ h, if_pos rfl]
theorem nB_lt4 (X : List Nat) (h : X.length = 4) (hb : ∀ x ∈ X, x < B64) : nB X < 115792089237316195423570985008687907853269984665640564039457584007913129639936 := by
  match X, h with
  | [a, b, c, d], _ =>
    rw [nB_four]
    exact n4_lt a b c d (hb _ (by simp)) (hb _ (by simp)) (hb _ (by simp)) (hb _ (by simp))
theorem next_list (x0 x1 x2 x3 low q c c2 : Nat) (Y R : List Nat) (h0 : x0 < B64) (h1 : x1 < B64) (h2 : x2 < B64) (hlow : low < B64)
    (hN : n4 x0 x1 x2 x3 < FL) (hq : (x3 < 1152921504606846976 ∧ q = 16 * x3 + x2 / 1152921504606846976) ∨ (x3 = 1152921504606846976 ∧ q = 18446744073709551615))
    (hY : Nless q oL [low, x0, x1, x2] Y 4 c) (hR : Nmore (natAt Y 3 / 9223372036854775808) oL Y R 4 c2) : nB R = (low + 18446744073709551616 * n4 x0 x1 x2 x3) % FL := by
  have e : (18446744073709551616 : Nat) ^ 4 = 115792089237316195423570985008687907853269984665640564039457584007913129639936 := by decide
  have h4 := four_of Y hY.len
  have hv := hY.val
  have hv2 := hR.val
  rw [List.take_of_length_le (by decide), nB_oL, e] at hv hv2
  have b0 := natB_mem hY.bound 0
  have b1 := natB_mem hY.bound 1
  have b2 := natB_mem hY.bound 2
  have b3 := natB_mem hY.bound 3
  have hr := nB_lt4 R hR.len hR.bound
  generalize natAt Y 0 = y0 at *
  generalize natAt Y 1 = y1 at *
  generalize natAt Y 2 = y2 at *
  generalize natAt Y 3 = y3 at *
  rw [h4, nB_four, nB_four] at hv
  rw [h4, nB_four] at hv2
  exact next_num x0 x1 x2 x3 low q y0 y1 y2 y3 c (nB R) c2 h0 h1 h2 hlow b0 b1 b2 b3 hN hq hv hv2 hr
theorem x3_le (x0 x1 x2 x3 : Nat) (h : n4 x0 x1 x2 x3 < FL) : x3 ≤ 1152921504606846976 := by
  rw [fl_eq] at h
  simp only [n4] at h
  omega

set_option maxRecDepth 100000 in
set_option maxHeartbeats 2000000 in
theorem lnext_any (w : World) (hla : LaidO w) (x0 x1 x2 x3 low : Nat) (h0 : x0 < B64) (h1 : x1 < B64) (h2 : x2 < B64) (hlow : low < B64) (hN : n4 x0 x1 x2 x3 < FL) :
    Calls Tryd.prog 44 #[.agg (u64v [x0, x1, x2, x3]).toArray, .int .u64 (low : Int)] w fun e w' => ∃ X, e = .returned (.agg (u64v X).toArray) ∧ Vlt (nB X = (low + 18446744073709551616 * n4 x0 x1 x2 x3) % FL) ∧ Hid (X.length = 4) ∧ Vlt (∀ x ∈ X, x < B64) ∧ Below w.heap.size w w' := by
  have hzn := zero_num
  obtain ⟨W, hW, hgX, hgZ, hbW, hsW⟩ := pair_new w (u64v [x0, x1, x2, x3]).toArray (u64v (uptoW 4 [])).toArray 54 54
  have HW := Lib.hid hW
  have hlaW := hla.below hla.2 hbW
  have hs1 : w.heap.size + 1 < W.heap.size := by have := hsW.out; omega
  have hgl := hla.2
  clear hW hsW hla
  have c0 : W.cell? ⟨w.heap.size, 0, none⟩ = some (.int .u64 (x0 : Int)) := long_at hgX.out 0 (by simp)
  have c1 : W.cell? ⟨w.heap.size, 1, none⟩ = some (.int .u64 (x1 : Int)) := long_at hgX.out 1 (by simp)
  have c2 : W.cell? ⟨w.heap.size, 2, none⟩ = some (.int .u64 (x2 : Int)) := long_at hgX.out 2 (by simp)
  have c3 : W.cell? ⟨w.heap.size, 3, none⟩ = some (.int .u64 (x3 : Int)) := long_at hgX.out 3 (by simp)
  obtain ⟨q, lq, eq, hq⟩ := often_val x2 x3 h2 (x3_le x0 x1 x2 x3 hN)
  have HN := vlt hN
  have HQ := vlt hq
  clear hN hq
  go_enter Tryd.func44, Tryd.ntmps44
  go_upto_region 1 with fail
  rw [HW.out]
  go_upto_region 2 with fail
  go_upto_region 3 with (first
    | (with_reducible refine wpList_build_to rfl 54 _ rfl [(0, .int .u64 (low : Int)), (1, .int .u64 (x0 : Int)), (2, .int .u64 (x1 : Int)), (3, .int .u64 (x2 : Int))] (by rfl) _ (built_num low x0 x1 x2) ?_)
    | (with_reducible refine wpList_store_row rfl 54 (.tmp 2) (.tmp 29) rfl w.heap.size (u64v [low, x0, x1, x2]).toArray rfl rfl 54 _ hgX.out (by kernel_rfl) (by kernel_rfl) (all_oneCell_toArray (u64v_one _)) ?_))
  obtain ⟨V, hV⟩ : ∃ V, V = W.setRow w.heap.size (u64v [low, x0, x1, x2]).toArray := ⟨_, rfl⟩
  rw [← hV]
  have hgV : Hid (V.heap[w.heap.size]? = some (.cells (u64v [low, x0, x1, x2]).toArray 54 (0, 0))) := by rw [hV]; exact setRow_heap _ _ _ _ _ _ hgX.out
  have hbV : But w.heap.size W V := by rw [hV]; exact (But.refl _ W).row _
  have hgZV : Hid (V.heap[w.heap.size + 1]? = some (.cells (u64v (uptoW 4 [])).toArray 54 (0, 0))) := by rw [hV]; exact (setRow_other _ _ _ _ (by omega)).trans hgZ.out
  have hbwV : Below w.heap.size w V := by rw [hV]; exact below_setRow hbW (by omega) _
  have hlaV := hlaW.but hgl hbV
  have hsV : w.heap.size + 1 < V.heap.size := (Array.getElem?_eq_some_iff.1 hgZV.out).1
  have hX0 := vlt (show Nless q oL [low, x0, x1, x2] [low, x0, x1, x2] 0 0 from Nless.first rfl (by
    intro x hx
    simp only [List.mem_cons, List.not_mem_nil, or_false] at hx
    simp only [B64] at *
    omega))
  generalize hX0v : [low, x0, x1, x2] = X0 at *
  have HX0 := vlt hX0v
  clear hX0v hV c0 c1 c2 c3 hgX hgZ hlaW hbV eq hs1 hbW HW
  go_wp2_with fail
  go_loopw [6, 30] (fun cc s wr => ∃ (k c : Nat) (X : List Nat), k ≤ 4 ∧ s = .int .i64 (k : Int) ∧ cc = .int .u64 (c : Int) ∧ c < B64 ∧ Hid (wr.heap[w.heap.size]? = some (.cells (u64v X).toArray 54 (0, 0))) ∧ Vlt (Nless q oL X0 X k c) ∧ But w.heap.size V wr) (fun _ s _ => 4 - (intOf s).toNat)
  case atStart => exact ⟨0, 0, X0, by omega, rfl, rfl, by decide, hgV, hX0, But.refl _ _⟩
  case round =>
    clear hX0 hgV
    obtain ⟨k, c, X, hk, rfl, rfl, hc, hg, hL, hbt⟩ := hrel
    by_cases hkt : k < 4
    · have hlaR := hlaV.but hgl hbt
      have c0 := hlaR.1 k _ (oL_at k hkt)
      have c1 := long_at hg.out k (by rw [hL.out.len]; exact hkt)
      have lo := natB_mem oL_lt k
      have lx := natB_mem hL.out.bound k
      have et := turn64 _ lx
      have hN := vlt (fun low high e hl hh => hL.out.step rfl hkt low high e hl hh)
      have hlen := Lib.hid hL.out.len
      have ld : 18446744073709551615 - natAt X k < B64 := by simp only [B64]; omega
      generalize natAt oL k = o at *
      generalize natAt X k = x at *
      generalize 18446744073709551615 - x = d at *
      clear hL hlaR
      go_wp2_with fail
      refine c_start (S := (fun W' => W'.cell? ⟨2, k, none⟩ = some (.int .u64 (o : Int)) ∧ W'.cell? ⟨w.heap.size, k, none⟩ = some (.int .u64 (x : Int)))) 16 (by kernel_rfl) (⟨c0, c1⟩) (fun hHeld => ?_)
      refine c_take (i := 0) (oi := ⟨(some 34), _, _, _, _, _⟩) (v := ?vq1_0) rfl (by decide) (by kernel_rfl) (by kernel_rfl) (by kernel_rfl) (fun _ _ _ h => h) (Or.inl ⟨by rfl, ?yq1_0⟩) hHeld ?_
      case yq1_0 => (intro W0 hSw; go_simp; try with_reducible rfl)
      try simp only [Act.put, List.setIfInBounds_toArray, List.set_cons_zero, List.set_cons_succ]
      refine c_take (i := 1) (oi := ⟨(some 35), _, _, _, _, _⟩) (v := ?vq1_1) rfl (by decide) (by kernel_rfl) (by kernel_rfl) (by kernel_rfl) (fun _ _ _ h => h) (Or.inl ⟨by rfl, ?yq1_1⟩) hHeld ?_
      case yq1_1 => (intro W0 hSw; go_simp; try with_reducible rfl)
      try simp only [Act.put, List.setIfInBounds_toArray, List.set_cons_zero, List.set_cons_succ]
      refine c_take (i := 2) (oi := ⟨(some 36), _, _, _, _, _⟩) (v := ?vq1_2) rfl (by decide) (by kernel_rfl) (by kernel_rfl) (by kernel_rfl) (fun _ _ _ h => h) (Or.inl ⟨by rfl, ?yq1_2⟩) hHeld ?_
      case yq1_2 => (intro W0 hSw; go_simp; try with_reducible rfl)
      try simp only [Act.put, List.setIfInBounds_toArray, List.set_cons_zero, List.set_cons_succ]
      refine c_take (i := 3) (oi := ⟨(some 37), _, _, _, _, _⟩) (v := ?vq1_3) rfl (by decide) (by kernel_rfl) (by kernel_rfl) (by kernel_rfl) (fun _ _ _ h => h) (Or.inl ⟨by rfl, ?yq1_3⟩) hHeld ?_
      case yq1_3 => (intro W0 hSw; go_simp; try with_reducible rfl)
      try simp only [Act.put, List.setIfInBounds_toArray, List.set_cons_zero, List.set_cons_succ]
      refine c_read (i := 4) (oi := ⟨(some 38), _, _, _, _, _⟩) (v := ?vq1_4) rfl (by decide) (by kernel_rfl) (by kernel_rfl) (by kernel_rfl) (by kernel_rfl) (by kernel_rfl) (fun _ _ _ h => h) (Or.inl ⟨by rfl, ?yq1_4⟩) hHeld ?_
      case yq1_4 => (intro W0 hSw; go_simp; try with_reducible rfl)
      try simp only [Act.put, List.setIfInBounds_toArray, List.set_cons_zero, List.set_cons_succ]
      refine c_take (i := 5) (oi := ⟨(some 39), _, _, _, _, _⟩) (v := ?vq1_5) rfl (by decide) (by kernel_rfl) (by kernel_rfl) (by kernel_rfl) (fun _ _ _ h => h) (Or.inl ⟨by rfl, ?yq1_5⟩) hHeld ?_
      case yq1_5 => (intro W0 hSw; go_simp; try with_reducible rfl)
      try simp only [Act.put, List.setIfInBounds_toArray, List.set_cons_zero, List.set_cons_succ]
      refine c_take (i := 6) (oi := ⟨(some 40), _, _, _, _, _⟩) (v := ?vq1_6) rfl (by decide) (by kernel_rfl) (by kernel_rfl) (by kernel_rfl) (fun _ _ _ h => h) (Or.inl ⟨by rfl, ?yq1_6⟩) hHeld ?_
      case yq1_6 => (intro W0 hSw; go_simp; try with_reducible rfl)
      try simp only [Act.put, List.setIfInBounds_toArray, List.set_cons_zero, List.set_cons_succ]
      refine c_read (i := 7) (oi := ⟨(some 41), _, _, _, _, _⟩) (v := ?vq1_7) rfl (by decide) (by kernel_rfl) (by kernel_rfl) (by kernel_rfl) (by kernel_rfl) (by kernel_rfl) (fun _ _ _ h => h) (Or.inl ⟨by rfl, ?yq1_7⟩) hHeld ?_
      case yq1_7 => (intro W0 hSw; go_simp; try with_reducible rfl)
      try simp only [Act.put, List.setIfInBounds_toArray, List.set_cons_zero, List.set_cons_succ]
      refine c_take (i := 8) (oi := ⟨(some 42), _, _, _, _, _⟩) (v := ?vq1_8) rfl (by decide) (by kernel_rfl) (by kernel_rfl) (by kernel_rfl) (fun _ _ _ h => h) (Or.inl ⟨by rfl, ?yq1_8⟩) hHeld ?_
      case yq1_8 => (intro W0 hSw; go_simp; try with_reducible rfl)
      try simp only [Act.put, List.setIfInBounds_toArray, List.set_cons_zero, List.set_cons_succ]
      refine c_take (i := 9) (oi := ⟨(some 43), _, _, _, _, _⟩) (v := ?vq1_9) rfl (by decide) (by kernel_rfl) (by kernel_rfl) (by kernel_rfl) (fun _ _ _ h => h) (Or.inl ⟨by rfl, ?yq1_9⟩) hHeld ?_
      case yq1_9 => (intro W0 hSw; go_simp; try with_reducible rfl)
      try simp only [Act.put, List.setIfInBounds_toArray, List.set_cons_zero, List.set_cons_succ]
      refine c_step (i := 10) (o := ⟨(some 44), _, _, _, _, _⟩) (by kernel_rfl) rfl (fun K hK => ?_)
      go_simp
      rw [show (if IntKind.u64.signed = true then (-1 : Int) else IntKind.u64.max) = IntKind.u64.max from rfl, et]
      refine (lstep_any _ q o d c lq lo ld hc).mono ?_
      rintro e w3 ⟨h, l, rfl, he, lh, ll, rfl⟩
      refine hK.out _ _ (hHeld) (fun hHeld => ?_)
      clear hK K
      try simp only [Act.put, List.setIfInBounds_toArray, List.set_cons_zero, List.set_cons_succ]
      refine c_take (i := 11) (oi := ⟨(some 33), _, _, _, _, _⟩) (v := ?vq1_10) rfl (by decide) (by kernel_rfl) (by kernel_rfl) (by kernel_rfl) (fun _ _ _ h => h) (Or.inl ⟨by rfl, ?yq1_10⟩) hHeld ?_
      case yq1_10 => (intro W0 hSw; go_simp; try with_reducible rfl)
      try simp only [Act.put, List.setIfInBounds_toArray, List.set_cons_zero, List.set_cons_succ]
      refine c_take (i := 12) (oi := ⟨(some 45), _, _, _, _, _⟩) (v := ?vq1_11) rfl (by decide) (by kernel_rfl) (by kernel_rfl) (by kernel_rfl) (fun _ _ _ h => h) (Or.inl ⟨by rfl, ?yq1_11⟩) hHeld ?_
      case yq1_11 => (intro W0 hSw; go_simp; try with_reducible rfl)
      try simp only [Act.put, List.setIfInBounds_toArray, List.set_cons_zero, List.set_cons_succ]
      refine c_take (i := 13) (oi := ⟨(some 46), _, _, _, _, _⟩) (v := ?vq1_12) rfl (by decide) (by kernel_rfl) (by kernel_rfl) (by kernel_rfl) (fun _ _ _ h => h) (Or.inl ⟨by rfl, ?yq1_12⟩) hHeld ?_
      case yq1_12 => (intro W0 hSw; go_simp; try with_reducible rfl)
      try simp only [Act.put, List.setIfInBounds_toArray, List.set_cons_zero, List.set_cons_succ]
      refine c_take (i := 14) (oi := ⟨(some 6), _, _, _, _, _⟩) (v := ?vq1_13) rfl (by decide) (by kernel_rfl) (by kernel_rfl) (by kernel_rfl) (fun _ _ _ h => h) (Or.inl ⟨by rfl, ?yq1_13⟩) hHeld ?_
      case yq1_13 => (intro W0 hSw; go_simp; try with_reducible rfl)
      try simp only [Act.put, List.setIfInBounds_toArray, List.set_cons_zero, List.set_cons_succ]
      refine c_take (i := 15) (oi := ⟨(some 47), _, _, _, _, _⟩) (v := ?vq1_14) rfl (by decide) (by kernel_rfl) (by kernel_rfl) (by kernel_rfl) (fun _ _ _ h => h) (Or.inl ⟨by rfl, ?yq1_14⟩) hHeld ?_
      case yq1_14 => (intro W0 hSw; go_simp; try with_reducible rfl)
      try simp only [Act.put, List.setIfInBounds_toArray, List.set_cons_zero, List.set_cons_succ]
      refine c_call (S' := (fun _ => True)) (o := ⟨none, _, _, _, _, _⟩) (by kernel_rfl) (by kernel_rfl) rfl (fun K hK => ?_)
      clear hHeld
      refine step_set rfl 52 (.tmp 47) (.tmp 46) rfl Tryd.sizeU64s w.heap.size k (by rfl) .u64 (l : Int) (by rfl) (u64v X) 54 hg.out (by rw [u64v_len, hlen.out]; exact hkt) V hbt.drew ?_
      intro w4 hg4 hb4
      refine hK.out _ _ (trivial) (fun hHeld => ?_)
      clear hK K
      try simp only [Act.put]
      refine wpAnyH_done (by kernel_rfl) ?_ _
      rw [u64v_set] at hg4
      have hT2 := vlt (hN.out l h he.out ll lh)
      have c4 := long_at hg4.out k (by rw [List.length_set, hlen.out]; exact hkt)
      rw [natAt_set_same _ _ _ (by rw [hlen.out]; exact hkt)] at c4
      have f4 : w4.frozen? ⟨w.heap.size, k, none⟩ = false := frozen_of_row _ _ _ _ _ hg4.out
      have et4 := turn64 l ll
      have hset := world_set_cell hg4.out k (.int .u64 ((18446744073709551615 - l : Nat) : Int))
      rw [u64v_set, List.set_set] at hset
      have hb5 := hb4.set (i := k) (.int .u64 ((18446744073709551615 - l : Nat) : Int))
      generalize 18446744073709551615 - l = m at *
      have et5 : bits .xor .u64 (if IntKind.u64.signed = true then (-1 : Int) else IntKind.u64.max) (l : Int) = (m : Int) := et4
      clear he hN hg4
      go_wp2
      go_roundw
      case rel => exact ⟨k + 1, h, _, by omega, by go_num, rfl, lh, hset, hT2, hb5⟩
      case measure => simp [intOf]; omega
    · obtain rfl : k = 4 := by omega
      have hbwr : Below w.heap.size w wr := But.below hbwV hbt (by omega) (by omega)
      have hgZr : Hid (wr.heap[w.heap.size + 1]? = some (.cells (u64v (uptoW 4 [])).toArray 54 (0, 0))) := (hbt.block _ (by omega) (by intro e; injection e; omega)).trans hgZV.out
      have hlaR := hlaV.but hgl hbt
      have hsR : w.heap.size + 1 < wr.heap.size := (Array.getElem?_eq_some_iff.1 hgZr.out).1
      clear hlaV hbt hgZV hbwV hsV
      have c3 := long_at hg.out 3 (by rw [hL.out.len]; decide)
      have l3 := natB_mem hL.out.bound 3
      obtain ⟨m, em, lm, hm⟩ := under_val _ l3
      have HM := vlt hm
      have hR0 := vlt (show Nmore (natAt X 3 / 9223372036854775808) oL X X 0 0 from Nmore.first hL.out.len hL.out.bound)
      generalize natAt X 3 = y3 at c3 em
      go_upto_region 12 with fail
      obtain ⟨Y0, hY0⟩ : ∃ Y0, Y0 = wr := ⟨_, rfl⟩
      subst hY0
      clear c3 em hm
      go_wp2_with fail
      generalize (4 : Nat) = kk
      go_loopw [6, 59] (fun cc s wi => ∃ (k c : Nat) (R : List Nat), k ≤ 4 ∧ s = .int .i64 (k : Int) ∧ cc = .int .u64 (c : Int) ∧ c ≤ 1 ∧ Hid (wi.heap[w.heap.size]? = some (.cells (u64v R).toArray 54 (0, 0))) ∧ Vlt (Nmore (natAt X 3 / 9223372036854775808) oL X R k c) ∧ But w.heap.size Y0 wi) (fun _ s _ => 4 - (intOf s).toNat)
      case atStart => exact ⟨0, 0, X, by omega, rfl, rfl, by decide, hg, hR0, But.refl _ _⟩
      case round =>
        clear hg hR0
        obtain ⟨k, c2, R, hk, rfl, rfl, hc2, hg, hR, hbt⟩ := hrel
        by_cases hkt : k < 4
        · have hlaR2 := hlaR.but hgl hbt
          have c0 := hlaR2.1 k _ (oL_at k hkt)
          have c1 := long_at hg.out k (by rw [hR.out.len]; exact hkt)
          have lo := natB_mem oL_lt k
          have lx := natB_mem hR.out.bound k
          have hA := HM.out _ lo
          have hN := vlt (fun low high e hl hh => hR.out.step rfl hkt low high e hl hh)
          have hlen := Lib.hid hR.out.len
          generalize natAt oL k = o at *
          generalize natAt R k = x at *
          obtain ⟨p, hp⟩ : ∃ p, p = natAt X 3 / 9223372036854775808 * o := ⟨_, rfl⟩
          rw [← hp] at hA hN
          obtain ⟨ea, lp⟩ := hA
          obtain ⟨s1, o1, r1, e1, ls1, lo1⟩ := add64_ex add_run x p c2 lx lp hc2
          clear hR hlaR2 hp
          go_wp2_with fail
          refine c_start (S := (fun W' => W'.cell? ⟨2, k, none⟩ = some (.int .u64 (o : Int)) ∧ W'.cell? ⟨w.heap.size, k, none⟩ = some (.int .u64 (x : Int)))) 15 (by kernel_rfl) (⟨c0, c1⟩) (fun hHeld => ?_)
          refine c_take (i := 0) (oi := ⟨(some 63), _, _, _, _, _⟩) (v := ?vq2_0) rfl (by decide) (by kernel_rfl) (by kernel_rfl) (by kernel_rfl) (fun _ _ _ h => h) (Or.inl ⟨by rfl, ?yq2_0⟩) hHeld ?_
          case yq2_0 => (intro W0 hSw; go_simp; try with_reducible rfl)
          try simp only [Act.put, List.setIfInBounds_toArray, List.set_cons_zero, List.set_cons_succ]
          refine c_take (i := 1) (oi := ⟨(some 64), _, _, _, _, _⟩) (v := ?vq2_1) rfl (by decide) (by kernel_rfl) (by kernel_rfl) (by kernel_rfl) (fun _ _ _ h => h) (Or.inl ⟨by rfl, ?yq2_1⟩) hHeld ?_
          case yq2_1 => (intro W0 hSw; go_simp; try with_reducible rfl)
          try simp only [Act.put, List.setIfInBounds_toArray, List.set_cons_zero, List.set_cons_succ]
          refine c_take (i := 2) (oi := ⟨(some 65), _, _, _, _, _⟩) (v := ?vq2_2) rfl (by decide) (by kernel_rfl) (by kernel_rfl) (by kernel_rfl) (fun _ _ _ h => h) (Or.inl ⟨by rfl, ?yq2_2⟩) hHeld ?_
          case yq2_2 => (intro W0 hSw; go_simp; try with_reducible rfl)
          try simp only [Act.put, List.setIfInBounds_toArray, List.set_cons_zero, List.set_cons_succ]
          refine c_read (i := 3) (oi := ⟨(some 66), _, _, _, _, _⟩) (v := ?vq2_3) rfl (by decide) (by kernel_rfl) (by kernel_rfl) (by kernel_rfl) (by kernel_rfl) (by kernel_rfl) (fun _ _ _ h => h) (Or.inl ⟨by rfl, ?yq2_3⟩) hHeld ?_
          case yq2_3 => (intro W0 hSw; go_simp; try with_reducible rfl)
          try simp only [Act.put, List.setIfInBounds_toArray, List.set_cons_zero, List.set_cons_succ]
          refine c_take (i := 4) (oi := ⟨(some 67), _, _, _, _, _⟩) (v := ?vq2_4) rfl (by decide) (by kernel_rfl) (by kernel_rfl) (by kernel_rfl) (fun _ _ _ h => h) (Or.inl ⟨by rfl, ?yq2_4⟩) hHeld ?_
          case yq2_4 => (intro W0 hSw; go_simp; try with_reducible rfl)
          try simp only [Act.put, List.setIfInBounds_toArray, List.set_cons_zero, List.set_cons_succ]
          refine c_take (i := 5) (oi := ⟨(some 68), _, _, _, _, _⟩) (v := ?vq2_5) rfl (by decide) (by kernel_rfl) (by kernel_rfl) (by kernel_rfl) (fun _ _ _ h => h) (Or.inl ⟨by rfl, ?yq2_5⟩) hHeld ?_
          case yq2_5 => (intro W0 hSw; go_simp; try with_reducible rfl)
          try simp only [Act.put, List.setIfInBounds_toArray, List.set_cons_zero, List.set_cons_succ]
          refine c_read (i := 6) (oi := ⟨(some 69), _, _, _, _, _⟩) (v := ?vq2_6) rfl (by decide) (by kernel_rfl) (by kernel_rfl) (by kernel_rfl) (by kernel_rfl) (by kernel_rfl) (fun _ _ _ h => h) (Or.inl ⟨by rfl, ?yq2_6⟩) hHeld ?_
          case yq2_6 => (intro W0 hSw; go_simp; try with_reducible rfl)
          try simp only [Act.put, List.setIfInBounds_toArray, List.set_cons_zero, List.set_cons_succ]
          refine c_take (i := 7) (oi := ⟨(some 70), _, _, _, _, _⟩) (v := ?vq2_7) rfl (by decide) (by kernel_rfl) (by kernel_rfl) (by kernel_rfl) (fun _ _ _ h => h) (Or.inl ⟨by rfl, ?yq2_7⟩) hHeld ?_
          case yq2_7 => (intro W0 hSw; go_simp; try with_reducible rfl)
          try simp only [Act.put, List.setIfInBounds_toArray, List.set_cons_zero, List.set_cons_succ]
          refine c_take (i := 8) (oi := ⟨(some 71), _, _, _, _, _⟩) (v := ?vq2_8) rfl (by decide) (by kernel_rfl) (by kernel_rfl) (by kernel_rfl) (fun _ _ _ h => h) (Or.inl ⟨by rfl, ?yq2_8⟩) hHeld ?_
          case yq2_8 => (intro W0 hSw; go_simp; try with_reducible rfl)
          try simp only [Act.put, List.setIfInBounds_toArray, List.set_cons_zero, List.set_cons_succ]
          refine c_take (i := 9) (oi := ⟨(some 72), _, _, _, _, _⟩) (v := ?vq2_9) rfl (by decide) (by kernel_rfl) (by kernel_rfl) (by kernel_rfl) (fun _ _ _ h => h) (Or.inl ⟨by rfl, ?yq2_9⟩) hHeld ?_
          case yq2_9 => (intro W0 hSw; go_simp; try with_reducible rfl)
          try simp only [Act.put, List.setIfInBounds_toArray, List.set_cons_zero, List.set_cons_succ]
          refine c_take (i := 10) (oi := ⟨(some 73), _, _, _, _, _⟩) (v := ?vq2_10) rfl (by decide) (by kernel_rfl) (by kernel_rfl) (by kernel_rfl) (fun _ _ _ h => h) (Or.inl ⟨by rfl, ?yq2_10⟩) hHeld ?_
          case yq2_10 => (intro W0 hSw; go_simp; try with_reducible rfl)
          try simp only [Act.put, List.setIfInBounds_toArray, List.set_cons_zero, List.set_cons_succ]
          refine c_take (i := 11) (oi := ⟨(some 62), _, _, _, _, _⟩) (v := ?vq2_11) rfl (by decide) (by kernel_rfl) (by kernel_rfl) (by kernel_rfl) (fun _ _ _ h => h) (Or.inl ⟨by rfl, ?yq2_11⟩) hHeld ?_
          case yq2_11 => (intro W0 hSw; go_simp; try with_reducible rfl)
          try simp only [Act.put, List.setIfInBounds_toArray, List.set_cons_zero, List.set_cons_succ]
          refine c_take (i := 12) (oi := ⟨(some 74), _, _, _, _, _⟩) (v := ?vq2_12) rfl (by decide) (by kernel_rfl) (by kernel_rfl) (by kernel_rfl) (fun _ _ _ h => h) (Or.inl ⟨by rfl, ?yq2_12⟩) hHeld ?_
          case yq2_12 => (intro W0 hSw; go_simp; try with_reducible rfl)
          try simp only [Act.put, List.setIfInBounds_toArray, List.set_cons_zero, List.set_cons_succ]
          refine c_take (i := 13) (oi := ⟨(some 75), _, _, _, _, _⟩) (v := ?vq2_13) rfl (by decide) (by kernel_rfl) (by kernel_rfl) (by kernel_rfl) (fun _ _ _ h => h) (Or.inl ⟨by rfl, ?yq2_13⟩) hHeld ?_
          case yq2_13 => (intro W0 hSw; go_simp; try with_reducible rfl)
          try simp only [Act.put, List.setIfInBounds_toArray, List.set_cons_zero, List.set_cons_succ]
          refine c_take (i := 14) (oi := ⟨(some 76), _, _, _, _, _⟩) (v := ?vq2_14) rfl (by decide) (by kernel_rfl) (by kernel_rfl) (by kernel_rfl) (fun _ _ _ h => h) (Or.inl ⟨by rfl, ?yq2_14⟩) hHeld ?_
          case yq2_14 => (intro W0 hSw; go_simp; try with_reducible rfl)
          try simp only [Act.put, List.setIfInBounds_toArray, List.set_cons_zero, List.set_cons_succ]
          refine c_call (S' := (fun _ => True)) (o := ⟨none, _, _, _, _, _⟩) (by kernel_rfl) (by kernel_rfl) rfl (fun K hK => ?_)
          clear hHeld
          refine step_set rfl 52 (.tmp 76) (.tmp 74) rfl Tryd.sizeU64s w.heap.size k (by rfl) .u64 (s1 : Int) (by rfl) (u64v R) 54 hg.out (by rw [u64v_len, hlen.out]; exact hkt) Y0 hbt.drew ?_
          intro w4 hg4 hb4
          refine hK.out _ _ (trivial) (fun hHeld => ?_)
          clear hK K
          try simp only [Act.put]
          refine wpAnyH_take (i := 16) (oi := ⟨(some 6), _, _, _, _, _⟩) (v := ?vq2_15) rfl (by kernel_rfl) (by kernel_rfl) (by kernel_rfl) (fun _ _ _ h => h) (Or.inl ⟨by rfl, ?yq2_15⟩) hHeld ?_
          case yq2_15 => (intro W0 hSw; go_simp; try with_reducible rfl)
          try simp only [Act.put, List.setIfInBounds_toArray, List.set_cons_zero, List.set_cons_succ]
          refine wpAnyH_done (by kernel_rfl) ?_ _
          rw [u64v_set] at hg4
          have hT2 := vlt (hN.out s1 o1 e1.out ls1 lo1)
          clear e1 hN
          go_wp2
          go_roundw
          case rel => exact ⟨k + 1, o1, _, by omega, by go_num, rfl, lo1, hg4, hT2, hb4⟩
          case measure => simp [intOf]; omega
        · obtain rfl : k = 4 := by omega
          have HE := vlt (next_list x0 x1 x2 x3 low q c c2 X R h0 h1 h2 hlow HN.out HQ.out (by have h := hL.out; rwa [← HX0.out] at h) hR.out)
          have hRL := Lib.hid hR.out.len
          have hRB := vlt hR.out.bound
          have HUS := Lib.hid (show (u64v R).toArray.size = 4 by simp [u64v_len, hRL.out])
          have HZS := Lib.hid (show (u64v (uptoW 4 [])).toArray.size = 4 from rfl)
          have hz4 : Hid (wr.heap[w.heap.size + 1]? = some (.cells (u64v (uptoW 4 [])).toArray 54 (0, 0))) := (hbt.block _ (by omega) (by intro e; injection e; omega)).trans hgZr.out
          have hb4 : Below w.heap.size w wr := But.below hbwr hbt (by omega) (by omega)
          clear hR hL HM HX0
          go_wp2_with (first
            | (with_reducible refine wpList_load_row rfl 54 (.tmp 2) rfl w.heap.size rfl 54 (u64v R).toArray (0, 0) _ hg.out Tryd.underlying54 rfl (by rw [HUS.out]; kernel_rfl) ?_)
            | (with_reducible refine wpList_store_row rfl 54 (.tmp 4) (.tmp 78) rfl (w.heap.size + 1) (u64v R).toArray rfl rfl 54 _ hz4.out (by rw [HUS.out]; kernel_rfl) (by rw [HUS.out]; exact HZS.out) (all_oneCell_toArray (u64v_one _)) ?_))
          refine bodyPost_ret (v := .agg (u64v R).toArray) (results_cell_row Tryd.results44 _ _ (w.heap.size + 1) 54 _ (0, 0) _ rfl (setRow_heap _ _ _ _ _ _ hz4.out) Tryd.underlying54 rfl (by rw [HUS.out]; kernel_rfl)) rfl ⟨R, rfl, HE, hRL, hRB, below_setRow hb4 (by omega) _⟩
end Go.Proofs.YtcefdcjpddohaaaDoor
namespace Go.Proofs.YtcefdcjpddohaaaDoor
open Go.RowKit

theorem four_list (X : List Nat) (h : X.length = 4) (hb : ∀ x ∈ X, x < B64) : ∃ a b c d, X = [a, b, c, d] ∧ a < B64 ∧ b < B64 ∧ c < B64 ∧ d < B64 := by
  match X, h with
  | [a, b, c, d], _ => exact ⟨a, b, c, d, rfl, hb _ (by simp), hb _ (by simp), hb _ (by simp), hb _ (by simp)⟩
theorem u64v_size (l : List Nat) {n : Nat} (h : l.length = n) : (u64v l).toArray.size = n := by simp [u64v_len, h]
set_option maxRecDepth 100000 in
set_option maxHeartbeats 1000000 in
theorem lbelow_any (w : World) (hla : LaidO w) (A : List Nat) (hA : A.length = 8) (bA : ∀ x ∈ A, x < B64) :
    Calls Tryd.prog 29 #[.agg (u64v A).toArray] w fun e w' => ∃ X, e = .returned (.agg (u64v X).toArray) ∧ Vlt (nB X = nB A % FL) ∧ Hid (X.length = 4) ∧ Vlt (∀ x ∈ X, x < B64) ∧ Below w.heap.size w w' := by
  have hzn := zero_num
  obtain ⟨W, hW, hgA, hgZ, hbW, hsW⟩ := pair_new w (u64v A).toArray (u64v (uptoW 4 [])).toArray 56 54
  have HW := Lib.hid hW
  have HAL := Lib.hid hA
  have HBA := vlt bA
  have hlaW := hla.below hla.2 hbW
  have hgl := hla.2
  have hs1 : w.heap.size + 1 < W.heap.size := by have := hsW.out; omega
  clear hW hA bA hsW hla
  go_enter Tryd.func29, Tryd.ntmps29
  go_upto_region 1 with fail
  rw [HW.out]
  go_upto_region 2 with fail
  obtain ⟨V, hV, hgT, hbV, hsV⟩ := one_new W (u64v (uptoW 4 [])).toArray 54
  rw [hV]
  obtain ⟨T, hT⟩ : ∃ T, T = W.heap.size := ⟨_, rfl⟩
  rw [← hT] at hgT hs1 hbV ⊢
  have hgA1 : Hid (V.heap[w.heap.size]? = some (.cells (u64v A).toArray 56 (0, 0))) := (hbV.block _ (by omega)).trans hgA.out
  have hgZ1 : Hid (V.heap[w.heap.size + 1]? = some (.cells (u64v (uptoW 4 [])).toArray 54 (0, 0))) := (hbV.block _ (by omega)).trans hgZ.out
  have hbw1 := below_next hbW hbW.size (by rw [hT] at hbV; exact hbV)
  have hlaV := hlaW.below (by omega) hbV
  have hsT : T < V.heap.size := (Array.getElem?_eq_some_iff.1 hgT.out).1
  clear hV hbV hgA hgZ hbW hsV hT HW hlaW
  go_wp2_with fail
  go_loopw [4] (fun s wr => ∃ (k x0 x1 x2 x3 : Nat), k ≤ 8 ∧ s = .int .i64 ((k : Int) - 1) ∧ Hid (wr.heap[T]? = some (.cells (u64v [x0, x1, x2, x3]).toArray 54 (0, 0))) ∧ (x0 < B64 ∧ x1 < B64 ∧ x2 < B64 ∧ x3 < B64) ∧ Vlt (n4 x0 x1 x2 x3 = nB (A.drop k) % FL) ∧ Below T V wr) (fun s _ => ((intOf s) + 1).toNat)
  case atStart => exact ⟨8, 0, 0, 0, 0, by omega, rfl, hgT, by decide, vlt (by rw [List.drop_eq_nil_of_le (by rw [HAL.out]; decide)]; rfl), Below.refl _ _⟩
  case round =>
    clear hgT
    obtain ⟨k, x0, x1, x2, x3, hk, rfl, hg, ⟨l0, l1, l2, l3⟩, hv, hbt⟩ := hrel
    by_cases hkt : 0 < k
    · obtain ⟨j, rfl⟩ : ∃ j, k = j + 1 := ⟨k - 1, by omega⟩
      rw [show ((j + 1 : Nat) : Int) - 1 = (j : Int) by omega]
      have hj8 : (j : Int) < 8 := by omega
      have hgx : Hid (wr.heap[w.heap.size]? = some (.cells (u64v A).toArray 56 (0, 0))) := (hbt.block _ (by omega)).trans hgA1.out
      have c0 := long_at hgx.out j (by rw [HAL.out]; omega)
      have lx := natB_mem HBA.out j
      have hlaR := hlaV.below (by omega) hbt
      have hN : n4 x0 x1 x2 x3 < FL := by rw [hv.out]; exact Nat.mod_lt _ fl_pos
      have HN := vlt hN
      have HV := vlt (show (natAt A j + 18446744073709551616 * n4 x0 x1 x2 x3) % FL = nB (A.drop j) % FL by rw [hv.out, below_step, ← nB_drop A j (by rw [HAL.out]; omega)])
      have HX := vlt (show natAt A j = natAt A j from rfl)
      generalize natAt A j = x at *
      have hsr : T < wr.heap.size := (Array.getElem?_eq_some_iff.1 hg.out).1
      clear hv hN HX
      go_wp2_with fail
      refine c_start (S := (fun W' => W'.heap[T]? = some (.cells (u64v [x0, x1, x2, x3]).toArray 54 (0, 0)) ∧ W'.cell? ⟨w.heap.size, j, none⟩ = some (.int .u64 (x : Int)))) 5 (by kernel_rfl) (⟨hg.out, c0⟩) (fun hHeld => ?_)
      refine c_read (i := 0) (oi := ⟨(some 9), _, _, _, _, _⟩) (v := _) rfl (by decide) (by kernel_rfl) (by kernel_rfl) (by kernel_rfl) (by kernel_rfl) (by kernel_rfl) (fun _ _ _ h => h) (yieldsIf_load_mid (by rfl) _ _ rfl T 0 rfl (u64v [x0, x1, x2, x3]) _ (fun W' hW' => range_row hW'.1) (Tryd.underlying54) (rfl) (by kernel_rfl)) hHeld ?_
      try simp only [Act.put, List.setIfInBounds_toArray, List.set_cons_zero, List.set_cons_succ]
      refine c_take (i := 1) (oi := ⟨(some 10), _, _, _, _, _⟩) (v := ?vq1_0) rfl (by decide) (by kernel_rfl) (by kernel_rfl) (by kernel_rfl) (fun _ _ _ h => h) (Or.inl ⟨by rfl, ?yq1_0⟩) hHeld ?_
      case yq1_0 => (intro W0 hSw; go_simp; try with_reducible rfl)
      try simp only [Act.put, List.setIfInBounds_toArray, List.set_cons_zero, List.set_cons_succ]
      refine c_take (i := 2) (oi := ⟨(some 11), _, _, _, _, _⟩) (v := ?vq1_1) rfl (by decide) (by kernel_rfl) (by kernel_rfl) (by kernel_rfl) (fun _ _ _ h => h) (Or.inl ⟨by rfl, ?yq1_1⟩) hHeld ?_
      case yq1_1 => (intro W0 hSw; go_simp; try with_reducible rfl)
      try simp only [Act.put, List.setIfInBounds_toArray, List.set_cons_zero, List.set_cons_succ]
      refine c_read (i := 3) (oi := ⟨(some 12), _, _, _, _, _⟩) (v := ?vq1_2) rfl (by decide) (by kernel_rfl) (by kernel_rfl) (by kernel_rfl) (by kernel_rfl) (by kernel_rfl) (fun _ _ _ h => h) (Or.inl ⟨by rfl, ?yq1_2⟩) hHeld ?_
      case yq1_2 => (intro W0 hSw; go_simp; try with_reducible rfl)
      try simp only [Act.put, List.setIfInBounds_toArray, List.set_cons_zero, List.set_cons_succ]
      refine c_step (i := 4) (o := ⟨(some 13), _, _, _, _, _⟩) (by kernel_rfl) rfl (fun K hK => ?_)
      go_simp
      refine (lnext_any wr.drew ⟨hlaR.1, hlaR.2⟩ x0 x1 x2 x3 x l0 l1 l2 lx HN.out).mono ?_
      rintro e w3 ⟨R, rfl, e3, HRL, HRB, hb3d⟩
      have hb3 : Below wr.heap.size wr w3 := below_undrew hb3d
      refine hK.out _ _ (⟨(hb3.block _ hsr).trans hHeld.1, (World.cell?_of_block (hb3.block w.heap.size (by omega))).trans hHeld.2⟩) (fun hHeld => ?_)
      clear hK K
      try simp only [Act.put, List.setIfInBounds_toArray, List.set_cons_zero, List.set_cons_succ]
      have hg3 : Hid (w3.heap[T]? = some (.cells (u64v [x0, x1, x2, x3]).toArray 54 (0, 0))) := (hb3.block _ hsr).trans hg.out
      have HRS := Lib.hid (u64v_size R HRL.out)
      have hbt3 := below_next hbt (Nat.le_of_lt hsr) hb3
      refine c_call (S' := (fun _ => True)) (o := ⟨none, _, _, _, _, _⟩) (by kernel_rfl) (by kernel_rfl) rfl (fun K hK => ?_)
      clear hHeld
      refine step_store_row rfl 54 (.tmp 3) (.tmp 13) (by rfl) T (u64v R).toArray (by rfl) (by rfl) 54 _ hg3.out (by rw [HRS.out]; kernel_rfl) (by rw [HRS.out]; kernel_rfl) (all_oneCell_toArray (u64v_one _)) ?_
      refine hK.out _ _ (trivial) (fun hHeld => ?_)
      clear hK K
      try simp only [Act.put]
      refine wpAnyH_done (by kernel_rfl) ?_ _
      have hset : Hid ((w3.setRow T (u64v R).toArray).heap[T]? = some (.cells (u64v R).toArray 54 (0, 0))) := setRow_heap _ _ _ _ _ _ hg3.out
      have hb5 : Below T V (w3.setRow T (u64v R).toArray) := below_setRow hbt3 (Nat.le_refl _) _
      obtain ⟨a, b, c, d, hR, la, lb, lc, ld⟩ := four_list R HRL.out HRB.out
      have HV2 := vlt (show n4 a b c d = nB (A.drop j) % FL by rw [← nB_four, ← hR, e3.out, HV.out])
      generalize w3.setRow T (u64v R).toArray = w5 at *
      rw [hR] at hset
      clear e3 hg hg3 hbt3 HV hR
      go_wp2
      go_roundw
      case rel => exact ⟨j, a, b, c, d, by omega, by go_num, hset, ⟨la, lb, lc, ld⟩, HV2, hb5⟩
      case measure => simp [intOf]
    · obtain rfl : k = 0 := by omega
      have HV2 := vlt (show nB [x0, x1, x2, x3] = nB A % FL by rw [nB_four, hv.out, List.drop_zero])
      have hBD := vlt (show ∀ x ∈ [x0, x1, x2, x3], x < B64 by
        intro x hx
        simp only [List.mem_cons, List.not_mem_nil, or_false] at hx
        rcases hx with rfl | rfl | rfl | rfl <;> assumption)
      have hz4 : Hid (wr.heap[w.heap.size + 1]? = some (.cells (u64v (uptoW 4 [])).toArray 54 (0, 0))) := (hbt.block _ (by omega)).trans hgZ1.out
      have hb4 : Below w.heap.size w wr := ⟨hbt.os.trans hbw1.os, hbt.tape.trans hbw1.tape, hbt.output.trans hbw1.output, Nat.le_trans hbw1.size hbt.size, fun k hk => (hbt.block k (by omega)).trans (hbw1.block k hk)⟩
      clear hv
      go_wp2_with (first
        | (with_reducible refine wpList_load_row rfl 54 (.tmp 3) rfl T rfl 54 (u64v [x0, x1, x2, x3]).toArray (0, 0) _ hg.out Tryd.underlying54 rfl (by kernel_rfl) ?_)
        | (with_reducible refine wpList_store_row rfl 54 (.tmp 2) (.tmp 14) rfl (w.heap.size + 1) (u64v [x0, x1, x2, x3]).toArray rfl rfl 54 _ hz4.out (by kernel_rfl) (by kernel_rfl) (all_oneCell_toArray (u64v_one _)) ?_))
      refine bodyPost_ret (v := .agg (u64v [x0, x1, x2, x3]).toArray) (results_cell_row Tryd.results29 _ _ (w.heap.size + 1) 54 _ (0, 0) _ rfl (setRow_heap _ _ _ _ _ _ hz4.out) Tryd.underlying54 rfl (by kernel_rfl)) rfl ⟨_, rfl, HV2, rfl, hBD, below_setRow hb4 (by omega) _⟩
end Go.Proofs.YtcefdcjpddohaaaDoor
namespace Go.Proofs.YtcefdcjpddohaaaDoor
open Go.RowKit

theorem le_set (v k : Nat) (h : k < 32) : (uptoB 32 (le v k)).set k (UInt8.ofNat (v / 2 ^ (8 * k))) = uptoB 32 (le v (k + 1)) := by
  obtain ⟨m, hm⟩ : ∃ m, 32 - (le v k).length = m + 1 := ⟨31 - k, by rw [le_len]; omega⟩
  have e : uptoB 32 (le v (k + 1)) = le v k ++ (UInt8.ofNat (v / 2 ^ (8 * k)) :: List.replicate m 0) := by
    rw [uptoB, le, List.append_assoc, List.length_append, List.length_singleton]
    congr 2
    rw [show 32 - ((le v k).length + 1) = m by omega]; rfl
  have e2 : (uptoB 32 (le v k)).set (le v k).length (UInt8.ofNat (v / 2 ^ (8 * k))) = le v k ++ (UInt8.ofNat (v / 2 ^ (8 * k)) :: List.replicate m 0) := by
    rw [uptoB, List.set_append_right _ _ (Nat.le_refl _), Nat.sub_self, hm, List.replicate_succ, List.set_cons_zero]
  rw [le_len] at e2
  rw [e2, e]
set_option maxRecDepth 100000 in
set_option maxHeartbeats 1000000 in
theorem ltold_any (w : World) (X : List Nat) (hX : X.length = 4) (bX : ∀ x ∈ X, x < B64) :
    Calls Tryd.prog 30 #[.agg (u64v X).toArray] w fun e w' => ∃ l, e = .returned (.agg (bv l).toArray) ∧ Vlt (l = le (nB X) 32) ∧ Hid (l.length = 32) ∧ Below w.heap.size w w' := by
  have hzw : ∀ w : World, (zeroValue 23).run Tryd.prog w = .ok (.agg (bv (uptoB 32 [])).toArray) w := fun w => by kernel_rfl
  obtain ⟨W, hW, hgX, hgZ, hbW, hsW⟩ := pair_new w (u64v X).toArray (bv (uptoB 32 [])).toArray 54 23
  have HW := Lib.hid hW
  have HXL := Lib.hid hX
  have HBX := vlt bX
  have hs1 : w.heap.size + 1 < W.heap.size := by have := hsW.out; omega
  clear hW hX bX hsW
  go_enter Tryd.func30, Tryd.ntmps30
  go_upto_region 1 with fail
  rw [HW.out]
  go_upto_region 2 with fail
  obtain ⟨V, hV, hgT, hbV, hsV⟩ := one_new W (bv (uptoB 32 [])).toArray 23
  rw [hV]
  obtain ⟨T, hT⟩ : ∃ T, T = W.heap.size := ⟨_, rfl⟩
  rw [← hT] at hgT hs1 ⊢
  have hgX1 : Hid (V.heap[w.heap.size]? = some (.cells (u64v X).toArray 54 (0, 0))) := (hbV.block _ (by omega)).trans hgX.out
  have hgZ1 : Hid (V.heap[w.heap.size + 1]? = some (.cells (bv (uptoB 32 [])).toArray 23 (0, 0))) := (hbV.block _ (by omega)).trans hgZ.out
  have hbw1 := below_next hbW hbW.size hbV
  have hsT : w.heap.size + 1 < V.heap.size := (Array.getElem?_eq_some_iff.1 hgZ1.out).1
  clear hV hbV hgX hgZ hbW hsV hT HW
  go_wp2_with fail
  go_loopw [5] (fun i wr => ∃ k : Nat, k ≤ 32 ∧ i = .int .i64 (k : Int) ∧ Hid (wr.heap[T]? = some (.cells (bv (uptoB 32 (le (nB X) k))).toArray 23 (0, 0))) ∧ But T V wr) (fun i _ => 32 - (intOf i).toNat)
  case atStart => exact ⟨0, by omega, rfl, hgT, But.refl _ _⟩
  case round =>
    clear hgT
    obtain ⟨k, hk, rfl, hg, hbt⟩ := hrel
    by_cases hlt : k < 32
    · have hgx : Hid (wr.heap[w.heap.size]? = some (.cells (u64v X).toArray 54 (0, 0))) := (hbt.block _ (by omega) (by intro e; injection e; omega)).trans hgX1.out
      have c0 := long_at hgx.out (k / 8) (by rw [HXL.out]; omega)
      have hbp := vlt (byte_piece HBX.out k)
      have lx := natB_mem HBX.out (k / 8)
      have et : Int.tdiv (k : Int) 8 = ((k / 8 : Nat) : Int) := (Int.ofNat_tdiv k 8).symm
      have em : Int.tmod (k : Int) 8 = ((k % 8 : Nat) : Int) := (Int.ofNat_tmod k 8).symm
      have f0 : wr.frozen? ⟨T, k, none⟩ = false := frozen_of_row _ _ _ _ _ hg.out
      obtain ⟨u0, hu0⟩ : ∃ u, wr.cell? ⟨T, k, none⟩ = some u := by
        rw [cell_of_row _ _ _ _ _ _ hg.out]
        exact ⟨_, List.getElem?_toArray .. ▸ List.getElem?_eq_getElem (by rw [bv_len, uptoB_len _ _ (by rw [le_len]; exact hk)]; exact hlt)⟩
      generalize natAt X (k / 8) = x at *
      have hset := world_set_cell hg.out k (.int .u8 ((x : Int) / 2 ^ (k % 8 * 8) % 256))
      rw [byte_of x (k % 8 * 8), bv_set, hbp.out, le_set _ _ hlt, ← hbp.out, ← byte_of x (k % 8 * 8)] at hset
      have hb2 := hbt.set (i := k) (.int .u8 ((x : Int) / 2 ^ (k % 8 * 8) % 256))
      clear hbp
      go_wp2_with fail
      go_roundw
      case rel => exact ⟨k + 1, by omega, by go_num, hset, hb2⟩
      case measure => simp [intOf]; omega
    · have HK := Lib.hid (show k = 32 by omega)
      obtain ⟨l, hl⟩ : ∃ l, l = le (nB X) k := ⟨_, rfl⟩
      rw [← hl] at hg
      have HE := vlt (show l = le (nB X) 32 by rw [hl, HK.out])
      have HL := Lib.hid (show l.length = 32 by rw [hl, le_len]; exact HK.out)
      rw [uptoB_all _ _ HL.out] at hg
      have HLS := Lib.hid (bv_size l HL.out)
      have HZ := Lib.hid (show (bv (uptoB 32 [])).toArray.size = 32 from rfl)
      have hz4 : Hid (wr.heap[w.heap.size + 1]? = some (.cells (bv (uptoB 32 [])).toArray 23 (0, 0))) := (hbt.block _ (by omega) (by intro e; injection e; omega)).trans hgZ1.out
      have hb4 : Below w.heap.size w wr := But.below hbw1 hbt (by omega) (by omega)
      clear hl
      go_wp2_with (first
        | (with_reducible refine wpList_load_row rfl 23 (.tmp 3) rfl T rfl 23 (bv l).toArray (0, 0) _ hg.out Tryd.underlying23 rfl (by rw [HLS.out]; kernel_rfl) ?_)
        | (with_reducible refine wpList_store_row rfl 23 (.tmp 2) (.tmp 20) rfl (w.heap.size + 1) (bv l).toArray rfl rfl 23 _ hz4.out (by rw [HLS.out]; kernel_rfl) (by rw [HLS.out]; exact HZ.out) (all_oneCell_toArray (bv_one _)) ?_))
      refine bodyPost_ret (v := .agg (bv l).toArray) (results_cell_row Tryd.results30 _ _ (w.heap.size + 1) 23 _ (0, 0) _ rfl (setRow_heap _ _ _ _ _ _ hz4.out) Tryd.underlying23 rfl (by rw [HLS.out]; kernel_rfl)) rfl ⟨l, rfl, HE, HL, below_setRow hb4 (by omega) _⟩
end Go.Proofs.YtcefdcjpddohaaaDoor
namespace Go.Proofs.YtcefdcjpddohaaaDoor
open Go.RowKit

theorem bv_size64 (l : List UInt8) (h : l.length = 64) : (bv l).toArray.size = 64 := by simp [bv_len, h]
theorem zero_w64 (w : World) : (zeroValue 27).run Tryd.prog w = .ok (.agg (bv (List.replicate 64 0)).toArray) w := by kernel_rfl
theorem ln_zeros (n : Nat) : ln (List.replicate n 0) = 0 := by
  induction n with
  | zero => rfl
  | succ n ih => rw [List.replicate_succ, ln, ih]; rfl
theorem ln_join : ∀ (l m : List UInt8), ln (l ++ m) = ln l + 256 ^ l.length * ln m
  | [], m => by simp [ln]
  | a :: l, m => by
    rw [List.cons_append, ln, ln, ln_join l m, List.length_cons, Nat.pow_succ]
    grind
theorem nB_word (b : List UInt8) (h : b.length = 32) : nB (pcs b 4) = ln b := by rw [nB_pcs b 4 (by omega), List.take_of_length_le (by omega)]
theorem nB_long (b : List UInt8) (h : b.length = 64) : nB (pcs b 8) = ln b := by rw [nB_pcs b 8 (by omega), List.take_of_length_le (by omega)]
theorem le_mod (N : Nat) : le (N % FL) 32 = wl N := rfl
def oneN : List Nat := [1, 0, 0, 0]
def nilN : List Nat := [0, 0, 0, 0]
def lessN : List Nat := [6346243789798364140, 1503914060200516822, 0, 1152921504606846976]
theorem nB_oneN : nB oneN = 1 := by decide
theorem nB_nilN : nB nilN = 0 := by decide
theorem nB_lessN : nB lessN = FL - 1 := by decide +kernel
theorem built_oneN : Tryd.prog.built 54 [(0, .int .u64 1)] = some (u64v oneN).toArray := by kernel_rfl
theorem built_nilN : Tryd.prog.built 54 [] = some (u64v nilN).toArray := by kernel_rfl
theorem built_lessN : Tryd.prog.built 54 [(0, .int .u64 6346243789798364140), (1, .int .u64 1503914060200516822), (2, .int .u64 0), (3, .int .u64 1152921504606846976)] = some (u64v lessN).toArray := by kernel_rfl

set_option maxRecDepth 100000 in
set_option maxHeartbeats 1000000 in
theorem llong_any (w : World) (hla : LaidO w) (b : List UInt8) (hb : b.length = 64) :
    Calls Tryd.prog 18 #[.agg (bv b).toArray] w fun e w' => ∃ l, e = .returned (.agg (bv l).toArray) ∧ Vlt (l = wl (ln b)) ∧ Hid (l.length = 32) ∧ Below w.heap.size w w' := by
  have hzw := zero_word
  obtain ⟨W, hW, hgA, hgZ, hbW, hsW⟩ := pair_new w (bv b).toArray (bv z32).toArray 27 23
  have HW := Lib.hid hW
  have HA := Lib.hid hb
  have HS := Lib.hid (bv_size64 b hb)
  have hlaW := hla.below hla.2 hbW
  have hs : w.heap.size + 1 < W.heap.size := by have := hsW.out; omega
  clear hW hb hsW hla
  go_enter Tryd.func18, Tryd.ntmps18
  go_upto_region 1 with fail
  rw [HW.out]
  go_wp2_with (with_reducible refine wpList_load_row rfl 27 (.tmp 1) rfl w.heap.size rfl 27 (bv b).toArray (0, 0) _ hgA.out Tryd.underlying27 rfl (by rw [HS.out]; kernel_rfl) ?_)
  refine (longOf_any W b HA.out).mono ?_
  rintro e w1 ⟨X, rfl, e1, HXL, hb1⟩
  have hbw1 := below_next hbW hbW.size hb1
  have hz1 : Hid (w1.heap[w.heap.size + 1]? = some (.cells (bv z32).toArray 23 (0, 0))) := (hb1.block _ (by omega)).trans hgZ.out
  have hs1 : w.heap.size + 1 < w1.heap.size := (Array.getElem?_eq_some_iff.1 hz1.out).1
  have hla1 := hlaW.below hlaW.2 hb1
  have hbx : ∀ x ∈ X, x < B64 := by rw [e1.out]; exact pcs_lt b 8 (by rw [HA.out]; decide)
  go_wp2_with fail
  refine (lbelow_any w1 hla1 X HXL.out hbx).mono ?_
  rintro e w2 ⟨Y, rfl, e2, HYL, HYB, hb2⟩
  have hbw2 := below_next hbw1 hbw1.size hb2
  have hz2 : Hid (w2.heap[w.heap.size + 1]? = some (.cells (bv z32).toArray 23 (0, 0))) := (hb2.block _ (by omega)).trans hz1.out
  have hs2 : w.heap.size + 1 < w2.heap.size := (Array.getElem?_eq_some_iff.1 hz2.out).1
  go_wp2_with fail
  refine (ltold_any w2 Y HYL.out HYB.out).mono ?_
  rintro e w3 ⟨l, rfl, e3, HL, hb3⟩
  have HE := vlt (show l = wl (ln b) by rw [e3.out, e2.out, e1.out, nB_long b HA.out, le_mod])
  clear e1 e2 e3 hbx
  have hbw3 := below_next hbw2 hbw2.size hb3
  have hz3 : Hid (w3.heap[w.heap.size + 1]? = some (.cells (bv z32).toArray 23 (0, 0))) := (hb3.block _ (by omega)).trans hz2.out
  have HLS := Lib.hid (bv_size l HL.out)
  go_wp2_with (with_reducible refine wpList_store_row rfl 23 (.tmp 2) (.tmp 6) rfl (w.heap.size + 1) (bv l).toArray rfl rfl 23 _ hz3.out (by rw [HLS.out]; kernel_rfl) (by rw [HLS.out]; kernel_rfl) (all_oneCell_toArray (bv_one _)) ?_)
  refine bodyPost_ret (v := .agg (bv l).toArray) (results_cell_row Tryd.results18 _ _ (w.heap.size + 1) 23 _ (0, 0) _ rfl (setRow_heap _ _ _ _ _ _ hz3.out) Tryd.underlying23 rfl (by rw [HLS.out]; kernel_rfl)) rfl ⟨l, rfl, HE, HL, below_setRow hbw3 (by omega) _⟩

set_option maxRecDepth 100000 in
set_option maxHeartbeats 1000000 in
theorem lnorm_any (w : World) (hla : LaidO w) (a : List UInt8) (ha : a.length = 32) :
    Calls Tryd.prog 9 #[.agg (bv a).toArray] w fun e w' => ∃ l, e = .returned (.agg (bv l).toArray) ∧ Vlt (l = wl (ln a)) ∧ Hid (l.length = 32) ∧ Below w.heap.size w w' := by
  have hzw := zero_word
  have hz64 := zero_w64
  obtain ⟨W, hW, hgA, hgZ, hbW, hsW⟩ := pair_new w (bv a).toArray (bv z32).toArray 23 23
  have HW := Lib.hid hW
  have HA := Lib.hid ha
  have hlaW := hla.below hla.2 hbW
  have hs : w.heap.size + 1 < W.heap.size := by have := hsW.out; omega
  clear hW ha hsW hla
  obtain ⟨z, hz⟩ : ∃ z : List UInt8, z = List.replicate 64 0 := ⟨_, rfl⟩
  have HZ := vlt hz
  have HZL := Lib.hid (show z.length = 64 by rw [hz]; rfl)
  rw [← hz] at hz64
  clear hz
  go_enter Tryd.func9, Tryd.ntmps9
  go_upto_region 1 with fail
  rw [HW.out]
  go_upto_region 2 with fail
  obtain ⟨V, hV, hgT, hbV, hsV⟩ := one_new W (bv z).toArray 27
  rw [hV]
  obtain ⟨T, hT⟩ : ∃ T, T = W.heap.size := ⟨_, rfl⟩
  rw [← hT] at hgT hs hbV ⊢
  have hgA1 : Hid (V.heap[w.heap.size]? = some (.cells (bv a).toArray 23 (0, 0))) := (hbV.block _ (by omega)).trans hgA.out
  have hgZ1 : Hid (V.heap[w.heap.size + 1]? = some (.cells (bv z32).toArray 23 (0, 0))) := (hbV.block _ (by omega)).trans hgZ.out
  have hbw1 := below_next hbW hbW.size (by rw [hT] at hbV; exact hbV)
  have hlaV := hlaW.below (by have := hlaW.2; omega) hbV
  have hsZ1 : w.heap.size + 1 < V.heap.size := (Array.getElem?_eq_some_iff.1 hgZ1.out).1
  have hTg : 2 < T := by rw [hT]; exact hlaW.2
  clear hV hbV hgA hgZ hbW hsV hT HW hlaW
  have hc7 := cut_all Tryd.underlying27 Tryd.sizeByte T 0 (by decide)
  have hc5 := cut_all Tryd.underlying23 Tryd.sizeByte w.heap.size 0 (by decide)
  go_region_law ((refine step_copy_vals rfl (.tmp 4) (.tmp 5) 24 rfl 5 Tryd.underlying24 Tryd.sizeByte T 0 64 64 32 32 w.heap.size 0 (by rfl) (by rfl) (bv z) 27 hgT.out (bv a) (by rw [bv_len, HA.out]; rfl) (row_cells hgA1.out) (bv_one _) (by rw [bv_len, HZL.out]; decide) V (But.refl T V).drew ?_; intro w2 hg2' hb2))
  rw [splice_bv] at hg2'
  have HU := vlt (show ln (z.take 0 ++ (a ++ z.drop (0 + a.length))) = ln a by rw [HZ.out, List.take_zero, List.nil_append, List.drop_replicate, ln_join, ln_zeros, Nat.mul_zero, Nat.add_zero])
  have HUL := Lib.hid (show (z.take 0 ++ (a ++ z.drop (0 + a.length))).length = 64 by simp [HA.out, HZL.out])
  generalize z.take 0 ++ (a ++ z.drop (0 + a.length)) = u at *
  have HUS := Lib.hid (bv_size64 u HUL.out)
  have hgZ2 : Hid (w2.heap[w.heap.size + 1]? = some (.cells (bv z32).toArray 23 (0, 0))) := (hb2.block _ (by omega) (by intro e; injection e; omega)).trans hgZ1.out
  have hbw2 : Below w.heap.size w w2 := But.below hbw1 hb2 (by omega) (by omega)
  have hla2 := hlaV.but hTg hb2
  have hs2 : w.heap.size + 1 < w2.heap.size := (Array.getElem?_eq_some_iff.1 hgZ2.out).1
  clear hc7 hc5 hgT hlaV hb2 hgZ1 hgA1
  go_wp2_with (with_reducible refine wpList_load_row rfl 27 (.tmp 3) rfl T rfl 27 (bv u).toArray (0, 0) _ hg2'.out Tryd.underlying27 rfl (by rw [HUS.out]; kernel_rfl) ?_)
  refine (llong_any w2 hla2 u HUL.out).mono ?_
  rintro e w3 ⟨l, rfl, e3, HL, hb3⟩
  have HE := vlt (show l = wl (ln a) by rw [e3.out, HU.out])
  clear e3
  have hbw3 := below_next hbw2 hbw2.size hb3
  have hz3 : Hid (w3.heap[w.heap.size + 1]? = some (.cells (bv z32).toArray 23 (0, 0))) := (hb3.block _ (by omega)).trans hgZ2.out
  have HLS := Lib.hid (bv_size l HL.out)
  go_wp2_with (with_reducible refine wpList_store_row rfl 23 (.tmp 2) (.tmp 8) rfl (w.heap.size + 1) (bv l).toArray rfl rfl 23 _ hz3.out (by rw [HLS.out]; kernel_rfl) (by rw [HLS.out]; kernel_rfl) (all_oneCell_toArray (bv_one _)) ?_)
  refine bodyPost_ret (v := .agg (bv l).toArray) (results_cell_row Tryd.results9 _ _ (w.heap.size + 1) 23 _ (0, 0) _ rfl (setRow_heap _ _ _ _ _ _ hz3.out) Tryd.underlying23 rfl (by rw [HLS.out]; kernel_rfl)) rfl ⟨l, rfl, HE, HL, below_setRow hbw3 (by omega) _⟩

set_option maxRecDepth 100000 in
set_option maxHeartbeats 1000000 in
theorem ladd_any (w : World) (hla : LaidO w) (a b : List UInt8) (ha : a.length = 32) (hb : b.length = 32) :
    Calls Tryd.prog 16 #[.agg (bv a).toArray, .agg (bv b).toArray] w fun e w' => ∃ l, e = .returned (.agg (bv l).toArray) ∧ Vlt (l = wl (ln a + ln b)) ∧ Hid (l.length = 32) ∧ Below w.heap.size w w' := by
  have hzw := zero_word
  have hzn := zero_num
  obtain ⟨W, hW, hgA, hgB, hgZ, hbW, hsW⟩ := three_new w (bv a).toArray (bv b).toArray (bv z32).toArray 23 23 23
  have HW := Lib.hid hW
  have HA := Lib.hid ha
  have HB := Lib.hid hb
  have HAS := Lib.hid (show (bv a).length = 32 by rw [bv_len, ha])
  have HBS := Lib.hid (show (bv b).length = 32 by rw [bv_len, hb])
  have hlaW := hla.below hla.2 hbW
  have hs : w.heap.size + 2 < W.heap.size := by have := hsW.out; omega
  clear hW ha hb hsW hla
  go_enter Tryd.func16, Tryd.ntmps16
  go_upto_region 1 with fail
  rw [HW.out]
  refine wp_region_held_drew (S := (fun W' => W'.heap[w.heap.size]? = some (.cells (bv a).toArray 23 (0, 0)) ∧ W'.heap[w.heap.size + 1]? = some (.cells (bv b).toArray 23 (0, 0)))) (by kernel_rfl) (⟨hgA.out, hgB.out⟩) (fun hHeld => ?_)
  refine wpAnyH_take (i := 0) (oi := ⟨(some 5), _, _, _, _, _⟩) (v := _) rfl (by kernel_rfl) (by kernel_rfl) (by kernel_rfl) (fun _ _ _ h => h) (yieldsIf_load_mid (by rfl) _ _ rfl w.heap.size 0 rfl (bv a) _ (fun W' hW' => range_row hW'.1) (Tryd.underlying23) (rfl) (by rw [HAS.out]; kernel_rfl)) hHeld ?_
  try simp only [Act.put, List.setIfInBounds_toArray, List.set_cons_zero, List.set_cons_succ]
  refine wpAnyH_take (i := 2) (oi := ⟨(some 7), _, _, _, _, _⟩) (v := _) rfl (by kernel_rfl) (by kernel_rfl) (by kernel_rfl) (fun _ _ _ h => h) (yields_build (by rfl) _ _ rfl [(0, .int .u64 1)] (by rfl) _ (built_oneN)) hHeld ?_
  try simp only [Act.put, List.setIfInBounds_toArray, List.set_cons_zero, List.set_cons_succ]
  refine wpAnyH_take (i := 3) (oi := ⟨(some 8), _, _, _, _, _⟩) (v := _) rfl (by kernel_rfl) (by kernel_rfl) (by kernel_rfl) (fun _ _ _ h => h) (yieldsIf_load_mid (by rfl) _ _ rfl (w.heap.size + 1) 0 rfl (bv b) _ (fun W' hW' => range_row hW'.2) (Tryd.underlying23) (rfl) (by rw [HBS.out]; kernel_rfl)) hHeld ?_
  try simp only [Act.put, List.setIfInBounds_toArray, List.set_cons_zero, List.set_cons_succ]
  refine wpAnyH_ready (rs := [1]) (by kernel_rfl) (by simp) ?_
  refine AllReadyH.cons (i := 1) (o := ⟨(some 6), _, _, _, _, _⟩) rfl (fun K hK => ?_) AllReadyH.nil
  go_simp
  refine (lnumberOf_any _ a HA.out).mono ?_
  rintro e w1 ⟨A, rfl, eA, HAL, hb1d⟩
  have hb1 : Below W.heap.size W w1 := below_undrew hb1d
  refine hK.out _ _ (⟨(hb1.block _ (by omega)).trans hHeld.1, (hb1.block _ (by omega)).trans hHeld.2⟩) (fun hHeld => ?_)
  clear hK K
  try simp only [Act.put, List.setIfInBounds_toArray, List.set_cons_zero, List.set_cons_succ]
  have hbw1 := below_next hbW hbW.size hb1
  have hz1 : Hid (w1.heap[w.heap.size + 2]? = some (.cells (bv z32).toArray 23 (0, 0))) := (hb1.block _ (by omega)).trans hgZ.out
  have hs1 : w.heap.size + 2 < w1.heap.size := (Array.getElem?_eq_some_iff.1 hz1.out).1
  have hla1 := hlaW.below hlaW.2 hb1
  have HAB := vlt (show ∀ x ∈ A, x < B64 by rw [eA.out]; exact pcs_lt a 4 (by rw [HA.out]; decide))
  refine wpAnyH_ready (rs := [4]) (by kernel_rfl) (by simp) ?_
  refine AllReadyH.cons (i := 4) (o := ⟨(some 9), _, _, _, _, _⟩) rfl (fun K hK => ?_) AllReadyH.nil
  go_simp
  refine (lnumberOf_any w1 b HB.out).mono ?_
  rintro e w2 ⟨B, rfl, eB, HBL, hb2⟩
  refine hK.out _ _ (⟨(hb2.block _ (by omega)).trans hHeld.1, (hb2.block _ (by omega)).trans hHeld.2⟩) (fun hHeld => ?_)
  clear hK K
  try simp only [Act.put, List.setIfInBounds_toArray, List.set_cons_zero, List.set_cons_succ]
  have hbw2 := below_next hbw1 hbw1.size hb2
  have hz2 : Hid (w2.heap[w.heap.size + 2]? = some (.cells (bv z32).toArray 23 (0, 0))) := (hb2.block _ (by omega)).trans hz1.out
  have hs2 : w.heap.size + 2 < w2.heap.size := (Array.getElem?_eq_some_iff.1 hz2.out).1
  have hla2 := hla1.below hla1.2 hb2
  have HBB := vlt (show ∀ x ∈ B, x < B64 by rw [eB.out]; exact pcs_lt b 4 (by rw [HB.out]; decide))
  refine wpAnyH_ready (rs := [5]) (by kernel_rfl) (by simp) ?_
  refine AllReadyH.cons (i := 5) (o := ⟨(some 10), _, _, _, _, _⟩) rfl (fun K hK => ?_) AllReadyH.nil
  go_simp
  refine (ltimes_any w2 A oneN B HAL.out rfl HBL.out HAB.out (by decide) HBB.out).mono ?_
  rintro e w3 ⟨U, rfl, e3, HUL, HUB, hb3⟩
  refine hK.out _ _ (⟨(hb3.block _ (by omega)).trans hHeld.1, (hb3.block _ (by omega)).trans hHeld.2⟩) (fun hHeld => ?_)
  clear hK K
  try simp only [Act.put, List.setIfInBounds_toArray, List.set_cons_zero, List.set_cons_succ]
  have hbw3 := below_next hbw2 hbw2.size hb3
  have hz3 : Hid (w3.heap[w.heap.size + 2]? = some (.cells (bv z32).toArray 23 (0, 0))) := (hb3.block _ (by omega)).trans hz2.out
  have hs3 : w.heap.size + 2 < w3.heap.size := (Array.getElem?_eq_some_iff.1 hz3.out).1
  have hla3 := hla2.below hla2.2 hb3
  refine wpAnyH_ready (rs := [6]) (by kernel_rfl) (by simp) ?_
  refine AllReadyH.cons (i := 6) (o := ⟨(some 11), _, _, _, _, _⟩) rfl (fun K hK => ?_) AllReadyH.nil
  go_simp
  refine (lbelow_any w3 hla3 U HUL.out HUB.out).mono ?_
  rintro e w4 ⟨Y, rfl, e4, HYL, HYB, hb4⟩
  refine hK.out _ _ (⟨(hb4.block _ (by omega)).trans hHeld.1, (hb4.block _ (by omega)).trans hHeld.2⟩) (fun hHeld => ?_)
  clear hK K
  try simp only [Act.put, List.setIfInBounds_toArray, List.set_cons_zero, List.set_cons_succ]
  have hbw4 := below_next hbw3 hbw3.size hb4
  have hz4 : Hid (w4.heap[w.heap.size + 2]? = some (.cells (bv z32).toArray 23 (0, 0))) := (hb4.block _ (by omega)).trans hz3.out
  have hs4 : w.heap.size + 2 < w4.heap.size := (Array.getElem?_eq_some_iff.1 hz4.out).1
  refine wpAnyH_ready (rs := [7]) (by kernel_rfl) (by simp) ?_
  refine AllReadyH.cons (i := 7) (o := ⟨(some 12), _, _, _, _, _⟩) rfl (fun K hK => ?_) AllReadyH.nil
  go_simp
  refine (ltold_any w4 Y HYL.out HYB.out).mono ?_
  rintro e w5 ⟨l, rfl, e5, HL, hb5⟩
  refine hK.out _ _ (⟨(hb5.block _ (by omega)).trans hHeld.1, (hb5.block _ (by omega)).trans hHeld.2⟩) (fun hHeld => ?_)
  clear hK K
  try simp only [Act.put, List.setIfInBounds_toArray, List.set_cons_zero, List.set_cons_succ]
  have hbw5 := below_next hbw4 hbw4.size hb5
  have hz5 : Hid (w5.heap[w.heap.size + 1 + 1]? = some (.cells (bv z32).toArray 23 (0, 0))) := (hb5.block _ (by omega)).trans hz4.out
  have hs5 : w.heap.size + 2 < w5.heap.size := (Array.getElem?_eq_some_iff.1 hz5.out).1
  have HE := vlt (show l = wl (ln a + ln b) by rw [e5.out, e4.out, e3.out, eA.out, eB.out, nB_word a HA.out, nB_word b HB.out, nB_oneN, Nat.mul_one, Nat.add_comm, le_mod])
  clear e3 e4 e5 eA eB
  have HLS := Lib.hid (bv_size l HL.out)
  refine wpAnyH_ready (rs := [8]) (by kernel_rfl) (by simp) ?_
  refine AllReadyH.cons (i := 8) (o := ⟨none, _, _, _, _, _⟩) rfl (fun K hK => ?_) AllReadyH.nil
  refine step_store_row rfl 23 (.tmp 4) (.tmp 12) rfl (w.heap.size + 1 + 1) (bv l).toArray rfl rfl 23 _ hz5.out (by rw [HLS.out]; kernel_rfl) (by rw [HLS.out]; kernel_rfl) (all_oneCell_toArray (bv_one _)) ?_
  refine hK.out _ _ (⟨(setRow_other _ _ _ _ (by omega)).trans hHeld.1, (setRow_other _ _ _ _ (by omega)).trans hHeld.2⟩) (fun hHeld => ?_)
  clear hK K
  try simp only [Act.put]
  refine wpAnyH_done (by kernel_rfl) ?_ _
  go_wp2_with fail
  refine bodyPost_ret (v := .agg (bv l).toArray) (results_cell_row Tryd.results16 _ _ (w.heap.size + 1 + 1) 23 _ (0, 0) _ rfl (setRow_heap _ _ _ _ _ _ hz5.out) Tryd.underlying23 rfl (by rw [HLS.out]; kernel_rfl)) rfl ⟨l, rfl, HE, HL, below_setRow hbw5 (by omega) _⟩

set_option maxRecDepth 100000 in
set_option maxHeartbeats 1000000 in
theorem lmul_any (w : World) (hla : LaidO w) (a b : List UInt8) (ha : a.length = 32) (hb : b.length = 32) :
    Calls Tryd.prog 17 #[.agg (bv a).toArray, .agg (bv b).toArray] w fun e w' => ∃ l, e = .returned (.agg (bv l).toArray) ∧ Vlt (l = wl (ln a * ln b)) ∧ Hid (l.length = 32) ∧ Below w.heap.size w w' := by
  have hzw := zero_word
  have hzn := zero_num
  obtain ⟨W, hW, hgA, hgB, hgZ, hbW, hsW⟩ := three_new w (bv a).toArray (bv b).toArray (bv z32).toArray 23 23 23
  have HW := Lib.hid hW
  have HA := Lib.hid ha
  have HB := Lib.hid hb
  have HAS := Lib.hid (show (bv a).length = 32 by rw [bv_len, ha])
  have HBS := Lib.hid (show (bv b).length = 32 by rw [bv_len, hb])
  have hlaW := hla.below hla.2 hbW
  have hs : w.heap.size + 2 < W.heap.size := by have := hsW.out; omega
  clear hW ha hb hsW hla
  go_enter Tryd.func17, Tryd.ntmps17
  go_upto_region 1 with fail
  rw [HW.out]
  refine wp_region_held_drew (S := (fun W' => W'.heap[w.heap.size]? = some (.cells (bv a).toArray 23 (0, 0)) ∧ W'.heap[w.heap.size + 1]? = some (.cells (bv b).toArray 23 (0, 0)))) (by kernel_rfl) (⟨hgA.out, hgB.out⟩) (fun hHeld => ?_)
  refine wpAnyH_take (i := 0) (oi := ⟨(some 5), _, _, _, _, _⟩) (v := _) rfl (by kernel_rfl) (by kernel_rfl) (by kernel_rfl) (fun _ _ _ h => h) (yieldsIf_load_mid (by rfl) _ _ rfl w.heap.size 0 rfl (bv a) _ (fun W' hW' => range_row hW'.1) (Tryd.underlying23) (rfl) (by rw [HAS.out]; kernel_rfl)) hHeld ?_
  try simp only [Act.put, List.setIfInBounds_toArray, List.set_cons_zero, List.set_cons_succ]
  refine wpAnyH_take (i := 2) (oi := ⟨(some 7), _, _, _, _, _⟩) (v := _) rfl (by kernel_rfl) (by kernel_rfl) (by kernel_rfl) (fun _ _ _ h => h) (yieldsIf_load_mid (by rfl) _ _ rfl (w.heap.size + 1) 0 rfl (bv b) _ (fun W' hW' => range_row hW'.2) (Tryd.underlying23) (rfl) (by rw [HBS.out]; kernel_rfl)) hHeld ?_
  try simp only [Act.put, List.setIfInBounds_toArray, List.set_cons_zero, List.set_cons_succ]
  refine wpAnyH_take (i := 4) (oi := ⟨(some 9), _, _, _, _, _⟩) (v := _) rfl (by kernel_rfl) (by kernel_rfl) (by kernel_rfl) (fun _ _ _ h => h) (yields_build (by rfl) _ _ rfl [] (by rfl) _ (built_nilN)) hHeld ?_
  try simp only [Act.put, List.setIfInBounds_toArray, List.set_cons_zero, List.set_cons_succ]
  refine wpAnyH_ready (rs := [1]) (by kernel_rfl) (by simp) ?_
  refine AllReadyH.cons (i := 1) (o := ⟨(some 6), _, _, _, _, _⟩) rfl (fun K hK => ?_) AllReadyH.nil
  go_simp
  refine (lnumberOf_any _ a HA.out).mono ?_
  rintro e w1 ⟨A, rfl, eA, HAL, hb1d⟩
  have hb1 : Below W.heap.size W w1 := below_undrew hb1d
  refine hK.out _ _ (⟨(hb1.block _ (by omega)).trans hHeld.1, (hb1.block _ (by omega)).trans hHeld.2⟩) (fun hHeld => ?_)
  clear hK K
  try simp only [Act.put, List.setIfInBounds_toArray, List.set_cons_zero, List.set_cons_succ]
  have hbw1 := below_next hbW hbW.size hb1
  have hz1 : Hid (w1.heap[w.heap.size + 2]? = some (.cells (bv z32).toArray 23 (0, 0))) := (hb1.block _ (by omega)).trans hgZ.out
  have hs1 : w.heap.size + 2 < w1.heap.size := (Array.getElem?_eq_some_iff.1 hz1.out).1
  have hla1 := hlaW.below hlaW.2 hb1
  have HAB := vlt (show ∀ x ∈ A, x < B64 by rw [eA.out]; exact pcs_lt a 4 (by rw [HA.out]; decide))
  refine wpAnyH_ready (rs := [3]) (by kernel_rfl) (by simp) ?_
  refine AllReadyH.cons (i := 3) (o := ⟨(some 8), _, _, _, _, _⟩) rfl (fun K hK => ?_) AllReadyH.nil
  go_simp
  refine (lnumberOf_any w1 b HB.out).mono ?_
  rintro e w2 ⟨B, rfl, eB, HBL, hb2⟩
  refine hK.out _ _ (⟨(hb2.block _ (by omega)).trans hHeld.1, (hb2.block _ (by omega)).trans hHeld.2⟩) (fun hHeld => ?_)
  clear hK K
  try simp only [Act.put, List.setIfInBounds_toArray, List.set_cons_zero, List.set_cons_succ]
  have hbw2 := below_next hbw1 hbw1.size hb2
  have hz2 : Hid (w2.heap[w.heap.size + 2]? = some (.cells (bv z32).toArray 23 (0, 0))) := (hb2.block _ (by omega)).trans hz1.out
  have hs2 : w.heap.size + 2 < w2.heap.size := (Array.getElem?_eq_some_iff.1 hz2.out).1
  have hla2 := hla1.below hla1.2 hb2
  have HBB := vlt (show ∀ x ∈ B, x < B64 by rw [eB.out]; exact pcs_lt b 4 (by rw [HB.out]; decide))
  refine wpAnyH_ready (rs := [5]) (by kernel_rfl) (by simp) ?_
  refine AllReadyH.cons (i := 5) (o := ⟨(some 10), _, _, _, _, _⟩) rfl (fun K hK => ?_) AllReadyH.nil
  go_simp
  refine (ltimes_any w2 A B nilN HAL.out HBL.out rfl HAB.out HBB.out (by decide)).mono ?_
  rintro e w3 ⟨U, rfl, e3, HUL, HUB, hb3⟩
  refine hK.out _ _ (⟨(hb3.block _ (by omega)).trans hHeld.1, (hb3.block _ (by omega)).trans hHeld.2⟩) (fun hHeld => ?_)
  clear hK K
  try simp only [Act.put, List.setIfInBounds_toArray, List.set_cons_zero, List.set_cons_succ]
  have hbw3 := below_next hbw2 hbw2.size hb3
  have hz3 : Hid (w3.heap[w.heap.size + 2]? = some (.cells (bv z32).toArray 23 (0, 0))) := (hb3.block _ (by omega)).trans hz2.out
  have hs3 : w.heap.size + 2 < w3.heap.size := (Array.getElem?_eq_some_iff.1 hz3.out).1
  have hla3 := hla2.below hla2.2 hb3
  refine wpAnyH_ready (rs := [6]) (by kernel_rfl) (by simp) ?_
  refine AllReadyH.cons (i := 6) (o := ⟨(some 11), _, _, _, _, _⟩) rfl (fun K hK => ?_) AllReadyH.nil
  go_simp
  refine (lbelow_any w3 hla3 U HUL.out HUB.out).mono ?_
  rintro e w4 ⟨Y, rfl, e4, HYL, HYB, hb4⟩
  refine hK.out _ _ (⟨(hb4.block _ (by omega)).trans hHeld.1, (hb4.block _ (by omega)).trans hHeld.2⟩) (fun hHeld => ?_)
  clear hK K
  try simp only [Act.put, List.setIfInBounds_toArray, List.set_cons_zero, List.set_cons_succ]
  have hbw4 := below_next hbw3 hbw3.size hb4
  have hz4 : Hid (w4.heap[w.heap.size + 2]? = some (.cells (bv z32).toArray 23 (0, 0))) := (hb4.block _ (by omega)).trans hz3.out
  have hs4 : w.heap.size + 2 < w4.heap.size := (Array.getElem?_eq_some_iff.1 hz4.out).1
  refine wpAnyH_ready (rs := [7]) (by kernel_rfl) (by simp) ?_
  refine AllReadyH.cons (i := 7) (o := ⟨(some 12), _, _, _, _, _⟩) rfl (fun K hK => ?_) AllReadyH.nil
  go_simp
  refine (ltold_any w4 Y HYL.out HYB.out).mono ?_
  rintro e w5 ⟨l, rfl, e5, HL, hb5⟩
  refine hK.out _ _ (⟨(hb5.block _ (by omega)).trans hHeld.1, (hb5.block _ (by omega)).trans hHeld.2⟩) (fun hHeld => ?_)
  clear hK K
  try simp only [Act.put, List.setIfInBounds_toArray, List.set_cons_zero, List.set_cons_succ]
  have hbw5 := below_next hbw4 hbw4.size hb5
  have hz5 : Hid (w5.heap[w.heap.size + 1 + 1]? = some (.cells (bv z32).toArray 23 (0, 0))) := (hb5.block _ (by omega)).trans hz4.out
  have hs5 : w.heap.size + 2 < w5.heap.size := (Array.getElem?_eq_some_iff.1 hz5.out).1
  have HE := vlt (show l = wl (ln a * ln b) by rw [e5.out, e4.out, e3.out, eA.out, eB.out, nB_word a HA.out, nB_word b HB.out, nB_nilN, Nat.zero_add, le_mod])
  clear e3 e4 e5 eA eB
  have HLS := Lib.hid (bv_size l HL.out)
  refine wpAnyH_ready (rs := [8]) (by kernel_rfl) (by simp) ?_
  refine AllReadyH.cons (i := 8) (o := ⟨none, _, _, _, _, _⟩) rfl (fun K hK => ?_) AllReadyH.nil
  refine step_store_row rfl 23 (.tmp 4) (.tmp 12) rfl (w.heap.size + 1 + 1) (bv l).toArray rfl rfl 23 _ hz5.out (by rw [HLS.out]; kernel_rfl) (by rw [HLS.out]; kernel_rfl) (all_oneCell_toArray (bv_one _)) ?_
  refine hK.out _ _ (⟨(setRow_other _ _ _ _ (by omega)).trans hHeld.1, (setRow_other _ _ _ _ (by omega)).trans hHeld.2⟩) (fun hHeld => ?_)
  clear hK K
  try simp only [Act.put]
  refine wpAnyH_done (by kernel_rfl) ?_ _
  go_wp2_with fail
  refine bodyPost_ret (v := .agg (bv l).toArray) (results_cell_row Tryd.results17 _ _ (w.heap.size + 1 + 1) 23 _ (0, 0) _ rfl (setRow_heap _ _ _ _ _ _ hz5.out) Tryd.underlying23 rfl (by rw [HLS.out]; kernel_rfl)) rfl ⟨l, rfl, HE, HL, below_setRow hbw5 (by omega) _⟩

end Go.Proofs.YtcefdcjpddohaaaDoor
namespace Go.Proofs.YtcefdcjpddohaaaDoor

/-- Turned to the left, to the right; three ways at once; the two small mixers. -/
def rl6 (x s : Nat) : Nat := (x * 2 ^ s % 18446744073709551616) ||| (x / 2 ^ (64 - s))
def rr6 (x i : Nat) : Nat := rl6 x (64 - i)
def tri6 (v i j k : Nat) : Nat := (rr6 v i ^^^ rr6 v j) ^^^ rr6 v k
def sh0 (x : Nat) : Nat := (rr6 x 1 ^^^ rr6 x 8) ^^^ (x / 128)
def sh1 (x : Nat) : Nat := (rr6 x 19 ^^^ rr6 x 61) ^^^ (x / 64)
theorem or_64 {a b : Nat} (ha : a < 18446744073709551616) (hb : b < 18446744073709551616) : a ||| b < 18446744073709551616 := Nat.or_lt_two_pow (n := 64) ha hb
theorem xor_64 {a b : Nat} (ha : a < 18446744073709551616) (hb : b < 18446744073709551616) : a ^^^ b < 18446744073709551616 := Nat.xor_lt_two_pow (n := 64) ha hb
theorem rl6_lt (x s : Nat) (hx : x < 18446744073709551616) : rl6 x s < 18446744073709551616 := or_64 (Nat.mod_lt _ (by decide)) (Nat.lt_of_le_of_lt (Nat.div_le_self _ _) hx)
theorem rr6_lt (x i : Nat) (hx : x < 18446744073709551616) : rr6 x i < 18446744073709551616 := rl6_lt _ _ hx
theorem tri6_lt (v i j k : Nat) (hv : v < 18446744073709551616) : tri6 v i j k < 18446744073709551616 := xor_64 (xor_64 (rr6_lt _ _ hv) (rr6_lt _ _ hv)) (rr6_lt _ _ hv)
theorem sh0_lt (x : Nat) (hx : x < 18446744073709551616) : sh0 x < 18446744073709551616 := xor_64 (xor_64 (rr6_lt _ _ hx) (rr6_lt _ _ hx)) (by omega)
theorem sh1_lt (x : Nat) (hx : x < 18446744073709551616) : sh1 x < 18446744073709551616 := xor_64 (xor_64 (rr6_lt _ _ hx) (rr6_lt _ _ hx)) (by omega)
/-- The state: eight words. -/
structure Sl where
  a : Nat
  b : Nat
  c : Nat
  d : Nat
  e : Nat
  f : Nat
  g : Nat
  h : Nat
def Sl.ok (s : Sl) : Prop := s.a < 18446744073709551616 ∧ s.b < 18446744073709551616 ∧ s.c < 18446744073709551616 ∧ s.d < 18446744073709551616 ∧ s.e < 18446744073709551616 ∧ s.f < 18446744073709551616 ∧ s.g < 18446744073709551616 ∧ s.h < 18446744073709551616
/-- What a round adds; the round. -/
def rv6 (s : Sl) (k w : Nat) : Nat := (w + (k + s.h + tri6 s.e 14 18 41 + ((s.e &&& s.f) ^^^ ((18446744073709551615 ^^^ s.e) &&& s.g)))) % 18446744073709551616
def ru6 (s : Sl) : Nat := (tri6 s.a 28 34 39 + (((s.a &&& s.b) ^^^ (s.a &&& s.c)) ^^^ (s.b &&& s.c))) % 18446744073709551616
def rnd6 (s : Sl) (k w : Nat) : Sl := ⟨(rv6 s k w + ru6 s) % 18446744073709551616, s.a, s.b, s.c, (s.d + rv6 s k w) % 18446744073709551616, s.e, s.f, s.g⟩
theorem rnd6_ok (s : Sl) (k w : Nat) (h : s.ok) : (rnd6 s k w).ok := by
  obtain ⟨ha, hb, hc, hd, he, hf, hg, hh⟩ := h
  exact ⟨Nat.mod_lt _ (by decide), ha, hb, hc, Nat.mod_lt _ (by decide), he, hf, hg⟩
/-- The words of a block, and those that follow them. -/
def lget (w : List Nat) (k : Nat) : Nat := w.getD (w.length - k) 0
def lnextw (w : List Nat) : Nat := (lget w 16 + sh0 (lget w 15) + lget w 7 + sh1 (lget w 2)) % 18446744073709551616
def sched6 : Nat → List Nat → List Nat
  | 0, w => w
  | n + 1, w => sched6 n (w ++ [lnextw w])
theorem sched6_len : ∀ (n : Nat) (w : List Nat), (sched6 n w).length = w.length + n
  | 0, w => rfl
  | n + 1, w => by rw [sched6, sched6_len n]; simp; omega
def small6 (w : List Nat) : Prop := ∀ x ∈ w, x < 18446744073709551616
theorem small6_app {v w : List Nat} (hv : small6 v) (hw : small6 w) : small6 (v ++ w) := fun x hx => (List.mem_append.1 hx).elim (hv x) (hw x)
theorem lnextw_lt (w : List Nat) : lnextw w < 18446744073709551616 := Nat.mod_lt _ (by decide)
theorem small6_one {x : Nat} (h : x < 18446744073709551616) : small6 [x] := fun y hy => by simp at hy; omega
theorem sched6_small : ∀ (n : Nat) (w : List Nat), small6 w → small6 (sched6 n w)
  | 0, _, h => h
  | n + 1, w, h => sched6_small n _ (small6_app h (small6_one (lnextw_lt w)))
def words8 : Nat → List UInt8 → List Nat
  | 0, _ => []
  | n + 1, l => bn (l.take 8) :: words8 n (l.drop 8)
theorem words8_len : ∀ (n : Nat) (l : List UInt8), (words8 n l).length = n
  | 0, _ => rfl
  | n + 1, l => by simp [words8, words8_len n]
theorem words8_snoc : ∀ (n : Nat) (l : List UInt8), words8 (n + 1) l = words8 n l ++ [bn ((l.drop (8 * n)).take 8)]
  | 0, l => by simp [words8]
  | n + 1, l => by
    have e : 8 + 8 * n = 8 * (n + 1) := by omega
    rw [words8, words8_snoc n (l.drop 8), words8, List.cons_append, List.drop_drop, e]
theorem bn8_lt (l : List UInt8) : bn (l.take 8) < 18446744073709551616 := by
  have h := bn_lt _ (l.take 8) rfl
  have h2 : (l.take 8).length ≤ 8 := by simp; omega
  have h3 : 256 ^ (l.take 8).length ≤ 256 ^ 8 := Nat.pow_le_pow_right (by decide) h2
  have h4 : (256 : Nat) ^ 8 = 18446744073709551616 := by decide
  omega
theorem words8_small : ∀ (n : Nat) (l : List UInt8), small6 (words8 n l)
  | 0, _ => fun x hx => by cases hx
  | n + 1, l => by
    intro x hx
    rcases List.mem_cons.1 hx with rfl | hx
    · exact bn8_lt l
    · exact words8_small n _ x hx
/-- The rounds over words, with the table's. -/
def rnds6 (s : Sl) : List (Nat × Nat) → Sl
  | [] => s
  | x :: r => rnds6 (rnd6 s x.1 x.2) r
theorem rnds6_ok : ∀ (l : List (Nat × Nat)) (s : Sl), s.ok → (rnds6 s l).ok
  | [], _, h => h
  | _ :: r, s, h => rnds6_ok r _ (rnd6_ok s _ _ h)
/-- The two tables, whole. -/
def startsL : List Nat := [7640891576956012808, 13503953896175478587, 4354685564936845355, 11912009170470909681, 5840696475078001361, 11170449401992604703, 2270897969802886507, 6620516959819538809]
def tableL : List Nat := [4794697086780616226, 8158064640168781261, 13096744586834688815, 16840607885511220156, 4131703408338449720, 6480981068601479193, 10538285296894168987, 12329834152419229976, 15566598209576043074, 1334009975649890238, 2608012711638119052, 6128411473006802146, 8268148722764581231, 9286055187155687089, 11230858885718282805, 13951009754708518548, 16472876342353939154, 17275323862435702243, 1135362057144423861, 2597628984639134821, 3308224258029322869, 5365058923640841347, 6679025012923562964, 8573033837759648693, 10970295158949994411, 12119686244451234320, 12683024718118986047, 13788192230050041572, 14330467153632333762, 15395433587784984357, 489312712824947311, 1452737877330783856, 2861767655752347644, 3322285676063803686, 5560940570517711597, 5996557281743188959, 7280758554555802590, 8532644243296465576, 9350256976987008742, 10552545826968843579, 11727347734174303076, 12113106623233404929, 14000437183269869457, 14369950271660146224, 15101387698204529176, 15463397548674623760, 17586052441742319658, 1182934255886127544, 1847814050463011016, 2177327727835720531, 2830643537854262169, 3796741975233480872, 4115178125766777443, 5681478168544905931, 6601373596472566643, 7507060721942968483, 8399075790359081724, 8693463985226723168, 9568029438360202098, 10144078919501101548, 10430055236837252648, 11840083180663258601, 13761210420658862357, 14299343276471374635, 14566680578165727644, 15097957966210449927, 16922976911328602910, 17689382322260857208, 500013540394364858, 748580250866718886, 1242879168328830382, 1977374033974150939, 2944078676154940804, 3659926193048069267, 4368137639120453308, 4836135668995329356, 5532061633213252278, 6448918945643986474, 6902733635092675308, 7801388544844847127]
theorem tableL_len : tableL.length = 80 := by decide
theorem tableL_lt : ∀ x ∈ tableL, x < 18446744073709551616 := by decide
def add86 (s t : Sl) : Sl := ⟨(s.a + t.a) % 18446744073709551616, (s.b + t.b) % 18446744073709551616, (s.c + t.c) % 18446744073709551616, (s.d + t.d) % 18446744073709551616, (s.e + t.e) % 18446744073709551616, (s.f + t.f) % 18446744073709551616, (s.g + t.g) % 18446744073709551616, (s.h + t.h) % 18446744073709551616⟩
theorem add86_ok (s t : Sl) : (add86 s t).ok := ⟨Nat.mod_lt _ (by decide), Nat.mod_lt _ (by decide), Nat.mod_lt _ (by decide), Nat.mod_lt _ (by decide), Nat.mod_lt _ (by decide), Nat.mod_lt _ (by decide), Nat.mod_lt _ (by decide), Nat.mod_lt _ (by decide)⟩
def schedule6 (blk : List UInt8) : List Nat := sched6 64 (words8 16 blk)
theorem schedule6_len (blk : List UInt8) : (schedule6 blk).length = 80 := by simp [schedule6, sched6_len, words8_len]
theorem schedule6_small (blk : List UInt8) : small6 (schedule6 blk) := sched6_small _ _ (words8_small _ _)
def comp6 (s : Sl) (blk : List UInt8) : Sl := add86 s (rnds6 s (tableL.zip (schedule6 blk)))
def sl0 : Sl := ⟨7640891576956012808, 13503953896175478587, 4354685564936845355, 11912009170470909681, 5840696475078001361, 11170449401992604703, 2270897969802886507, 6620516959819538809⟩
/-- The state behind the first k blocks. -/
def blks6 (l : List UInt8) : Nat → Sl
  | 0 => sl0
  | k + 1 => comp6 (blks6 l k) ((l.drop (128 * k)).take 128)
theorem blks6_ok (l : List UInt8) : ∀ k, (blks6 l k).ok
  | 0 => by simp [blks6, Sl.ok, sl0]
  | _ + 1 => add86_ok _ _
theorem blks6_app (l m : List UInt8) : ∀ k, 128 * k ≤ l.length → blks6 (l ++ m) k = blks6 l k
  | 0, _ => rfl
  | k + 1, h => by
    rw [blks6, blks6, blks6_app l m k (by omega), List.drop_append_of_le_length (by omega), List.take_append_of_le_length (by simp; omega)]
/-- What stands behind n bytes (below 2^61); the sum. -/
def gap6 (n : Nat) : Nat := (if 128 - n % 128 < 17 then 256 - n % 128 else 128 - n % 128) - 16
def ending6 (n : Nat) : List UInt8 := (128 :: List.replicate (gap6 n - 1) 0) ++ be (n * 8) 16
def out6 (s : Sl) : List UInt8 := be s.a 8 ++ be s.b 8 ++ be s.c 8 ++ be s.d 8 ++ be s.e 8 ++ be s.f 8 ++ be s.g 8 ++ be s.h 8
theorem out6_len (s : Sl) : (out6 s).length = 64 := by simp [out6, be_len]
def padded6 (l : List UInt8) : List UInt8 := l ++ ending6 l.length
def longSum (l : List UInt8) : List UInt8 := out6 (blks6 (padded6 l) ((padded6 l).length / 128))
theorem longSum_len (l : List UInt8) : (longSum l).length = 64 := out6_len _
theorem gap6_pos (n : Nat) : 1 ≤ gap6 n ∧ gap6 n ≤ 240 := by unfold gap6; split <;> omega
theorem ending6_len (n : Nat) : (ending6 n).length = gap6 n + 16 := by
  have := gap6_pos n
  simp [ending6, be_len]; omega
theorem padded6_mod (l : List UInt8) : (padded6 l).length % 128 = 0 := by
  simp only [padded6, List.length_append, ending6_len, gap6]; split <;> omega
/-- The sums that RFC 8032's first case asks: of the seed, of what it puts ahead. -/
def rfcSeed : List UInt8 := [157, 97, 177, 157, 239, 253, 90, 96, 186, 132, 74, 244, 146, 236, 44, 196, 68, 73, 197, 105, 123, 50, 105, 25, 112, 59, 172, 3, 28, 174, 127, 96]
def rfcLong : List UInt8 := [53, 124, 131, 134, 79, 40, 51, 203, 66, 122, 46, 241, 192, 10, 1, 60, 253, 255, 39, 104, 217, 128, 192, 163, 165, 32, 240, 6, 144, 77, 233, 15, 155, 79, 10, 254, 40, 11, 116, 106, 119, 134, 132, 231, 84, 66, 80, 32, 87, 183, 71, 58, 3, 240, 143, 150, 245, 163, 142, 146, 135, 224, 31, 143]
def rfcNext : List UInt8 := [182, 177, 156, 216, 224, 66, 111, 89, 131, 250, 17, 45, 137, 161, 67, 170, 151, 218, 184, 188, 93, 235, 141, 91, 98, 83, 201, 40, 182, 82, 114, 244, 4, 64, 152, 194, 169, 144, 3, 156, 222, 91, 106, 72, 24, 223, 11, 251, 110, 64, 220, 93, 238, 84, 36, 128, 50, 150, 35, 35, 231, 1, 53, 45]
theorem rfc_long : longSum rfcSeed = rfcLong := by decide +kernel
theorem rfc_next : longSum (rfcLong.drop 32) = rfcNext := by decide +kernel
end Go.Proofs.YtcefdcjpddohaaaDoor
namespace Go.Proofs.YtcefdcjpddohaaaDoor
open Go.RowKit

theorem and_64 {a b : Nat} (ha : a < 18446744073709551616) : a &&& b < 18446744073709551616 := Nat.lt_of_le_of_lt Nat.and_le_left ha
theorem rl6_int (x s : Nat) (hx : x < 18446744073709551616) : bits .or .u64 ((x : Int) * 2 ^ s % 18446744073709551616) ((x : Int) / 2 ^ (64 - s)) = ((rl6 x s : Nat) : Int) := by
  have e1 : (x : Int) * 2 ^ s % 18446744073709551616 = ((x * 2 ^ s % 18446744073709551616 : Nat) : Int) := by
    rw [Int.natCast_emod, Int.natCast_mul, Int.natCast_pow]; rfl
  have e2 : (x : Int) / 2 ^ (64 - s) = ((x / 2 ^ (64 - s) : Nat) : Int) := by rw [Int.natCast_ediv, Int.natCast_pow]; rfl
  rw [e1, e2, u64_or_nat _ _ (Nat.mod_lt _ (by decide)) (Nat.lt_of_le_of_lt (Nat.div_le_self _ _) hx)]
  rfl
theorem ret_u64 {a b : Int} (h : a = b) : Ending.returned (.int .u64 a) = .returned (.int .u64 b) := by rw [h]

set_option maxRecDepth 100000 in
theorem rot6_any (x : Nat) (k : Int) (s : Nat) (w : World) (hx : x < 18446744073709551616) (hs : s ≤ 63) (hk : bits .and .u64 (IntKind.u64.wrap k) 63 = (s : Int)) :
    Calls Tryd.prog 78 #[.int .u64 (x : Int), .int .i64 k] w fun e w' => e = .returned (.int .u64 ((rl6 x s : Nat) : Int)) ∧ w = w' := by
  go_enter Tryd.func78, Tryd.ntmps78
  go_wp2
  go_ret
  exact ⟨ret_u64 (rl6_int x s hx), rfl⟩

theorem wrap_neg6 (i : Nat) (h1 : 1 ≤ i) (h2 : i ≤ 63) : IntKind.u64.wrap (-(i : Int)) = ((18446744073709551616 - i : Nat) : Int) := by
  simp [IntKind.wrap, IntKind.bits, IntKind.signed]; omega
theorem turn_of6 (i : Nat) (h1 : 1 ≤ i) (h2 : i ≤ 63) : bits .and .u64 (IntKind.u64.wrap (-(i : Int))) 63 = ((64 - i : Nat) : Int) := by
  rw [wrap_neg6 i h1 h2, show (63 : Int) = ((63 : Nat) : Int) from rfl, u64_and_nat _ _ (by omega) (by omega), nat_mask6]
  omega

set_option maxRecDepth 100000 in
theorem turned6_any (v i j k : Nat) (w : World) (hv : v < 18446744073709551616) (hi : 1 ≤ i ∧ i ≤ 63) (hj : 1 ≤ j ∧ j ≤ 63) (hk : 1 ≤ k ∧ k ≤ 63) :
    Calls Tryd.prog 72 #[.int .u64 (v : Int), .int .i64 (i : Int), .int .i64 (j : Int), .int .i64 (k : Int)] w fun e w' => e = .returned (.int .u64 ((tri6 v i j k : Nat) : Int)) ∧ w = w' := by
  obtain ⟨i1, i2⟩ := hi
  obtain ⟨j1, j2⟩ := hj
  obtain ⟨k1, k2⟩ := hk
  go_enter Tryd.func72, Tryd.ntmps72
  go_wp2_with fail
  refine (rot6_any v _ (64 - i) _ hv (by omega) (turn_of6 i i1 i2)).mono ?_
  rintro e w' ⟨rfl, rfl⟩
  go_wp2_with fail
  refine (rot6_any v _ (64 - j) _ hv (by omega) (turn_of6 j j1 j2)).mono ?_
  rintro e w' ⟨rfl, rfl⟩
  go_wp2_with fail
  refine (rot6_any v _ (64 - k) _ hv (by omega) (turn_of6 k k1 k2)).mono ?_
  rintro e w' ⟨rfl, rfl⟩
  go_wp2
  go_ret
  refine ⟨ret_u64 ?_, rfl⟩
  have h1 := rl6_lt v (64 - i) hv
  have h2 := rl6_lt v (64 - j) hv
  have h3 := rl6_lt v (64 - k) hv
  rw [u64_xor_nat _ _ h1 h2, u64_xor_nat _ _ (xor_64 h1 h2) h3]
  rfl
end Go.Proofs.YtcefdcjpddohaaaDoor
namespace Go.Proofs.YtcefdcjpddohaaaDoor
open Go.RowKit

/-- The tables lie in their blocks. -/
structure LaidL (w : World) : Prop where
  st : ∀ k x : Nat, startsL[k]? = some x → w.cell? ⟨0, k, none⟩ = some (.int .u64 (x : Int))
  tb : ∀ k x : Nat, tableL[k]? = some x → w.cell? ⟨3, k, none⟩ = some (.int .u64 (x : Int))
  s1 : 0 < w.heap.size
  s2 : 3 < w.heap.size
section
variable {w w' : World} {g n B : Nat}
theorem LaidL.keep (h : LaidL w) (hs : w.heap.size ≤ w'.heap.size) (hb : w'.heap[0]? = w.heap[0]?) (hb2 : w'.heap[3]? = w.heap[3]?) : LaidL w' := by
  refine ⟨fun k x hx => ?_, fun k x hx => ?_, Nat.lt_of_lt_of_le h.s1 hs, Nat.lt_of_lt_of_le h.s2 hs⟩
  · rw [World.cell?_of_block (w := w) hb]; exact h.st k x hx
  · rw [World.cell?_of_block (w := w) hb2]; exact h.tb k x hx
theorem LaidL.below (h : LaidL w) (h1 : 0 < B) (h2 : 3 < B) (hb : Below B w w') : LaidL w' := h.keep hb.size (hb.block _ h1) (hb.block _ h2)
theorem LaidL.next (h : LaidL w) (hb : Below w.heap.size w w') : LaidL w' := h.below h.s1 h.s2 hb
theorem LaidL.but (h : LaidL w) (h1 : 0 ≠ g) (h2 : 3 ≠ g) (hb : But g w w') : LaidL w' :=
  h.keep hb.size (hb.block _ h.s1 (fun e => h1 (by injection e))) (hb.block _ h.s2 (fun e => h2 (by injection e)))
/-- The object lies behind the tables. -/
def Hi (g : Nat) : Prop := 0 < g ∧ 3 < g
theorem LaidL.hi (h : LaidL w) (hg : w.heap.size ≤ g) : Hi g := ⟨Nat.lt_of_lt_of_le h.s1 hg, Nat.lt_of_lt_of_le h.s2 hg⟩
theorem LaidL.but' (h : LaidL w) (hg : Hi g) (hb : But g w w') : LaidL w' := h.but (Nat.ne_of_lt hg.1) (Nat.ne_of_lt hg.2) hb
def startOf (k : Nat) : Nat := startsL.getD k 0
def roundOf (k : Nat) : Nat := tableL.getD k 0
theorem startOf_lt (k : Nat) : startOf k < 18446744073709551616 := getD_lt (by decide) (by decide) k
theorem roundOf_lt (k : Nat) : roundOf k < 18446744073709551616 := getD_lt tableL_lt (by decide) k
theorem LaidL.start (h : LaidL w) (k : Nat) (hk : k < 8) : w.cell? ⟨0, k, none⟩ = some (.int .u64 ((startOf k : Nat) : Int)) := by
  have e : startsL[k]? = some (startOf k) := by
    have hl : k < startsL.length := hk
    simp [startOf, List.getElem?_eq_getElem hl]
  exact h.st k _ e
theorem LaidL.round (h : LaidL w) (k : Nat) (hk : k < 80) : w.cell? ⟨3, k, none⟩ = some (.int .u64 ((roundOf k : Nat) : Int)) := by
  have e : tableL[k]? = some (roundOf k) := by
    have hl : k < tableL.length := by rw [tableL_len]; exact hk
    simp [roundOf, List.getElem?_eq_getElem hl]
  exact h.tb k _ e
end
/-- The object: the state, the bytes that wait, how many there were. -/
def Sl.list (s : Sl) : List Nat := [s.a, s.b, s.c, s.d, s.e, s.f, s.g, s.h]
def Sl.at_ (s : Sl) (k : Nat) : Nat := s.list.getD k 0
def lc (ws : List Nat) (rest : List UInt8) (n : Nat) : List Value := u64v ws ++ (bv rest ++ [.int .i64 (n : Int)])
def LObj (w : World) (g : Nat) (s : Sl) (rest : List UInt8) (n : Nat) : Prop := w.heap[g]? = some (.cells (lc s.list rest n).toArray 73 (0, 0)) ∧ rest.length = 128
/-- It has taken the bytes l. -/
def LAt (w : World) (g : Nat) (l : List UInt8) : Prop := ∃ rest, LObj w g (blks6 l (l.length / 128)) rest l.length ∧ rest.take (l.length % 128) = l.drop (128 * (l.length / 128))
section
variable {w w' : World} {g n B : Nat} {s : Sl} {ws : List Nat} {rest l : List UInt8}
theorem LObj.lt (h : LObj w g s rest n) : g < w.heap.size := (Array.getElem?_eq_some_iff.1 h.1).1
theorem LObj.keep (h : LObj w g s rest n) (hb : w'.heap[g]? = w.heap[g]?) : LObj w' g s rest n := ⟨hb.trans h.1, h.2⟩
theorem LObj.below (h : LObj w g s rest n) (hB : g < B) (hb : Below B w w') : LObj w' g s rest n := h.keep (hb.block g hB)
theorem LObj.cell (h : LObj w g s rest n) (j : Nat) : w.cell? ⟨g, j, none⟩ = (lc s.list rest n)[j]? := by rw [cell_of_row w g j _ _ _ h.1]; simp
theorem LObj.frozen (h : LObj w g s rest n) (j : Nat) : w.frozen? ⟨g, j, none⟩ = false := frozen_of_row w g j _ _ h.1
theorem lc_n (hw : ws.length = 8) (h : rest.length = 128) : (lc ws rest n)[136]? = some (.int .i64 (n : Int)) := by
  rw [lc, List.getElem?_append_right (by rw [u64v_len]; omega), u64v_len, List.getElem?_append_right (by rw [bv_len]; omega), bv_len, hw, h]; rfl
theorem LObj.cnt (h : LObj w g s rest n) : w.cell? ⟨g, 136, none⟩ = some (.int .i64 (n : Int)) := by rw [h.cell, lc_n rfl h.2]
theorem lc_st (k : Nat) (hk : k < 8) : (lc s.list rest n)[k]? = some (.int .u64 ((s.at_ k : Nat) : Int)) := by
  have hl : k < s.list.length := hk
  simp [lc, u64v, Sl.at_, List.getElem?_append, hl]
theorem LObj.st (h : LObj w g s rest n) (k : Nat) (hk : k < 8) : w.cell? ⟨g, k, none⟩ = some (.int .u64 ((s.at_ k : Nat) : Int)) := by rw [h.cell, lc_st k hk]
theorem lc_rest (hr : rest.length = 128) (j : Nat) (hj : j < 128) : (lc s.list rest n)[8 + j]? = (bv rest)[j]? := by
  have e : (u64v s.list).length = 8 := rfl
  rw [lc, List.getElem?_append_right (by omega), e, Nat.add_sub_cancel_left, List.getElem?_append_left (by rw [bv_len]; omega)]
/-- The waiting bytes from k on, m of them. -/
theorem LObj.byt (h : LObj w g s rest n) (k m : Nat) (hB : g < B) (hk : k + m ≤ 128) : Byt w B (some ⟨g, 8 + k, none⟩) ((rest.drop k).take m) := by
  refine .inr ⟨g, 8 + k, rfl, hB, fun j b hj => ?_⟩
  have hj2 : j < m := by
    have := (List.getElem?_eq_some_iff.1 hj).1
    simp at this; omega
  rw [Nat.add_assoc, h.cell, lc_rest h.2 _ (by omega), bv_at]
  rw [List.getElem?_take_of_lt hj2, List.getElem?_drop] at hj
  rw [hj]; rfl
theorem LAt.lt (h : LAt w g l) : g < w.heap.size := by obtain ⟨r, h, _⟩ := h; exact h.lt
theorem LAt.keep (h : LAt w g l) (hb : w'.heap[g]? = w.heap[g]?) : LAt w' g l := by obtain ⟨r, h, h2⟩ := h; exact ⟨r, h.keep hb, h2⟩
theorem LAt.below (h : LAt w g l) (hB : g < B) (hb : Below B w w') : LAt w' g l := h.keep (hb.block g hB)
end
def zl128 : List UInt8 := List.replicate 128 0
def w80 : List Nat := List.replicate 80 0
theorem zero_w80 (w : World) : (zeroValue 101).run Tryd.prog w = .ok (.agg (u64v w80).toArray) w := by kernel_rfl
theorem zero_lsum (w : World) : (zeroValue 73).run Tryd.prog w = .ok (.agg (lc (List.replicate 8 0) zl128 0).toArray) w := by kernel_rfl
end Go.Proofs.YtcefdcjpddohaaaDoor
