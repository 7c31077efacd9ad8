/-
  WireBack: the law's Go text returns true, whatever the number, the bytes, the text and the word. Conditions: the slice is as the row reads it.
-/
import Derived.Test.YtomnjmjgmioiaaaWiA
import Derived.Test.YtomnjmjgmioiaaaWiW
import Derived.Test.YtomnjmjgmioiaaaEqB
import Derived.Test.YtomnjmjgmioiaaaRf11W
namespace Go.Proofs.Ytomnjmjgmioiaaa
open Go.RowKit

theorem i64_wf_lt {a : Int} (h : (Lit.int .i64 a).wf = true) : -9223372036854775808 ≤ a ∧ a < 9223372036854775808 := by
  have h2 : -9223372036854775808 ≤ a ∧ a ≤ 9223372036854775807 := by simpa [Lit.wf, IntKind.min, IntKind.max, IntKind.signed, IntKind.bits] using h
  omega
/-- What is written, and what each reading leaves. -/
theorem back_parts (p n m : Nat) (x y u : List UInt8) (hp : p < 9223372036854775808) (hn : x.length = n) (hm : y.length = m) (hn2 : n ≤ 200) (hm2 : m ≤ 200) (hu : u.length = 32) :
    ∃ T T1 T2 k0 k1 k2, Vlt (((([] ++ gr p) ++ (gr n ++ x)) ++ (gr m ++ y)) ++ u = T) ∧ Vlt (frontOf T = (p, k0)) ∧ 0 < k0 ∧ Vlt (T.drop k0 = T1) ∧
      Vlt (frontOf T1 = (n, k1)) ∧ 0 < k1 ∧ Vlt ((T1.drop k1).take n = x) ∧ Vlt ((T1.drop k1).drop n = T2) ∧ Vlt (n ≤ (T1.drop k1).length) ∧
      Vlt (frontOf T2 = (m, k2)) ∧ 0 < k2 ∧ Vlt ((T2.drop k2).take m = y) ∧ Vlt ((T2.drop k2).drop m = u) ∧ Vlt (m ≤ (T2.drop k2).length) ∧ T.length ≤ 500 := by
  have l0 := gr_le p
  have l1 := gr_le n
  have l2 := gr_le m
  refine ⟨gr p ++ (gr n ++ (x ++ (gr m ++ (y ++ u)))), gr n ++ (x ++ (gr m ++ (y ++ u))), gr m ++ (y ++ u), (gr p).length, (gr n).length, (gr m).length, vlt (by simp), vlt (front_gr p hp _), gr_pos p, vlt (List.drop_left ..), vlt (front_gr n (by omega) _), gr_pos n, vlt ?_, vlt ?_, vlt ?_, vlt (front_gr m (by omega) _), gr_pos m, vlt ?_, vlt ?_, vlt ?_, ?_⟩
  · rw [List.drop_left, ← hn, List.take_left]
  · rw [List.drop_left, ← hn, List.drop_left]
  · rw [List.drop_left, List.length_append]; omega
  · rw [List.drop_left, ← hm, List.take_left]
  · rw [List.drop_left, ← hm, List.drop_left]
  · rw [List.drop_left, List.length_append]; omega
  · simp only [List.length_append, hn, hm, hu]; omega
theorem rtext_is (w : World) (lo hi g : Nat) (l : List UInt8) (bad : Bool) (most : Int) (x s : Nat) (y : ByteArray) (r : List UInt8) (hr : RdIs w lo hi g l bad) (hf : Vlt (frontOf l = (x, s))) (hs : 0 < s) (hx : (x : Int) ≤ max most 0) (hx2 : Vlt (x ≤ (l.drop s).length)) (hy : Vlt ((l.drop s).take x = y.data.toList)) (hd : Vlt ((l.drop s).drop x = r)) :
    Calls Try.prog 20 #[.pointer (some ⟨g, 0, none⟩), .int .i64 most] w fun e w' => e = .returned (.string y) ∧ RdIs w' lo hi g r bad ∧ But g w w' := by
  have h := rtext_ok w lo hi g l bad most x s hr hf hs hx hx2.out
  rw [hy.out, hd.out] at h
  exact h
theorem rbytes_is (w : World) (lo hi g : Nat) (l : List UInt8) (bad : Bool) (most : Int) (x s : Nat) (y r : List UInt8) (hr : RdIs w lo hi g l bad) (hf : Vlt (frontOf l = (x, s))) (hs : 0 < s) (hx : (x : Int) ≤ max most 0) (hx2 : Vlt (x ≤ (l.drop s).length)) (hbig : x ≤ 70368744177664) (hy : Vlt ((l.drop s).take x = y)) (hd : Vlt ((l.drop s).drop x = r)) :
    Calls Try.prog 11 #[.pointer (some ⟨g, 0, none⟩), .int .i64 most] w fun e w' => ∃ A c, e = .returned (.slice A x c) ∧ Res w' w.heap.size 5 A x c y ∧ RdIs w' lo hi g r bad ∧ But g w w' := by
  have h := rbytes_ok w lo hi g l bad most x s hr hf hs hx hx2.out hbig
  rw [hy.out, hd.out] at h
  exact h
theorem num_is (w : World) (lo hi g : Nat) (l r : List UInt8) (bad : Bool) (most : Int) (x s : Nat) (hr : RdIs w lo hi g l bad) (hf : Vlt (frontOf l = (x, s))) (hs : 0 < s) (hx : (x : Int) ≤ max most 0) (hd : Vlt (l.drop s = r)) :
    Calls Try.prog 9 #[.pointer (some ⟨g, 0, none⟩), .int .i64 most] w fun e w' => e = .returned (.int .i64 (x : Int)) ∧ RdIs w' lo hi g r bad ∧ But g w w' := by
  have h := num_ok w lo hi g l bad most x s hr hf hs hx
  rw [hd.out] at h
  exact h
theorem rword_is (w : World) (lo hi g : Nat) (u : List UInt8) (bad : Bool) (hr : RdIs w lo hi g u bad) (hu : u.length = 32) :
    Calls Try.prog 13 #[.pointer (some ⟨g, 0, none⟩)] w fun e w' => e = .returned (.agg (bv u).toArray) ∧ RdIs w' lo hi g [] bad ∧ But g w w' := by
  refine (rword_ok w lo hi g u bad hr (by omega)).mono ?_
  rintro e w' ⟨X, rfl, hX, _, h1, h2⟩
  have e1 : X = u := by rw [hX.out, List.take_of_length_le (by omega)]
  subst e1
  exact ⟨rfl, h1.as (List.drop_eq_nil_of_le (by omega)), h2⟩

set_option maxRecDepth 100000 in
set_option maxHeartbeats 8000000 in
theorem walk_WireBack (w : World) (v : Int) (wv : (Lit.int .i64 v).wf = true) (A : Option Addr) (x : List UInt8) (n c : Nat) (ha : Byt w w.heap.size A x) (hl : x.length = n) (hc : n ≤ c) (s : ByteArray) (_ : s.size ≤ maxLen) (u : List UInt8) (hu : u.length = 32) :
    Calls Try.prog 4 #[.int .i64 v, .slice A n c, .string s, .agg (bv u).toArray] w fun e w' => e = .returned (.bool true) ∧ Below w.heap.size w w' := by
  have rv := i64_wf_lt wv
  obtain ⟨W, hW, hgW, hbW, hsW⟩ := one_new w (bv u).toArray 30
  have HW := Lib.hid hW
  have HL := Lib.hid hl
  have HU := Lib.hid hu
  have HUS := Lib.hid (show (bv u).toArray.size = 32 by simp [bv_len, hu])
  clear hW hl hu wv
  go_enter Try.func4, Try.ntmps4
  go_upto_region 1 with fail
  rw [HW.out]
  go_wp2_with fail
  refine (awake11_any W).mono ?_
  rintro e w0 ⟨rfl, hb0⟩
  have hbw0 := below_next hbW hbW.size hb0
  have hg0 := row_next hgW hb0
  have hs0 := (Array.getElem?_eq_some_iff.1 hg0.out).1
  clear hgW hb0 hbW hsW HW
  by_cases h0 : v < 0
  · go_wp2
    go_ret
    exact ⟨rfl, hbw0⟩
  by_cases h1 : (200 : Int) < (n : Int)
  · go_wp2
    go_ret
    exact ⟨rfl, hbw0⟩
  by_cases h2 : (200 : Int) < (s.size : Int)
  · go_wp2
    go_ret
    exact ⟨rfl, hbw0⟩
  obtain ⟨p, rfl⟩ : ∃ p : Nat, v = (p : Int) := ⟨v.toNat, by omega⟩
  have hp : p < 9223372036854775808 := by omega
  have hn : n ≤ 200 := by omega
  have hm : s.size ≤ 200 := by omega
  have hsl : s.data.toList.length = s.size := by simp
  obtain ⟨T, T1, T2, k0, k1, k2, hT, F0, K0, D0, F1, K1, E1, D1, L1, F2, K2, E2, D2, L2, hTL⟩ := back_parts p n s.size x s.data.toList u hp HL.out hsl hn hm HU.out
  go_wp2_with fail
  clear h0 h1 h2
  have hp0 : max (p : Int) 0 = (p : Int) := by omega
  have hG1 := gr_le p
  have hG2 := gr_le n
  have hG3 := gr_le s.size
  refine wp_region_held_drew (S := (fun W' => Below w0.heap.size w0 W')) (by kernel_rfl) ((Below.refl _ _).drew) (fun hHeld => ?_)
  refine wpAnyH_take (i := 0) (oi := ⟨(some 25), _, _, _, _, _⟩) (v := ?vq1_0) rfl (by kernel_rfl) (by kernel_rfl) (by kernel_rfl) (fun _ _ _ h => h) (Or.inl ⟨by rfl, ?yq1_0⟩) hHeld ?_
  case yq1_0 => (intro W0 hSw; go_simp; try with_reducible rfl)
  try simp only [Act.put, List.setIfInBounds_toArray, List.set_cons_zero, List.set_cons_succ]
  refine wpAnyH_take (i := 2) (oi := ⟨(some 27), _, _, _, _, _⟩) (v := ?vq1_1) rfl (by kernel_rfl) (by kernel_rfl) (by kernel_rfl) (fun _ _ _ h => h) (Or.inl ⟨by rfl, ?yq1_1⟩) hHeld ?_
  case yq1_1 => (intro W0 hSw; go_simp; try with_reducible rfl)
  try simp only [Act.put, List.setIfInBounds_toArray, List.set_cons_zero, List.set_cons_succ]
  refine wpAnyH_take (i := 4) (oi := ⟨(some 29), _, _, _, _, _⟩) (v := ?vq1_2) rfl (by kernel_rfl) (by kernel_rfl) (by kernel_rfl) (fun _ _ _ h => h) (Or.inl ⟨by rfl, ?yq1_2⟩) hHeld ?_
  case yq1_2 => (intro W0 hSw; go_simp; try with_reducible rfl)
  try simp only [Act.put, List.setIfInBounds_toArray, List.set_cons_zero, List.set_cons_succ]
  refine wpAnyH_take (i := 6) (oi := ⟨(some 31), _, _, _, _, _⟩) (v := _) rfl (by kernel_rfl) (by kernel_rfl) (by kernel_rfl) (fun _ _ _ h => h) (yieldsIf_load_mid (by rfl) _ _ rfl w.heap.size 0 rfl (bv u) _ (fun W' hW' => range_row ((hW'.block _ hs0).trans hg0.out)) (Try.underlying30) (rfl) (by rw [bv_len, HU.out]; kernel_rfl)) hHeld ?_
  try simp only [Act.put, List.setIfInBounds_toArray, List.set_cons_zero, List.set_cons_succ]
  refine wpAnyH_ready (rs := [1]) (by kernel_rfl) (by simp) ?_
  refine AllReadyH.cons (i := 1) (o := ⟨(some 26), _, _, _, _, _⟩) rfl (fun K hK => ?_) AllReadyH.nil
  go_simp
  refine (wnum_any w0.drew none [] 0 0 (p : Int) p (.inl rfl) rfl (Nat.le_refl _) (by decide) hp hp0).mono ?_
  rintro e w1 ⟨A1, n1, c1, rfl, hr1, hb1⟩
  have hh1 : Below w0.heap.size w0 w1 := below_next hHeld (Nat.le_refl _) hb1
  refine hK.out _ _ (hh1) (fun hHeld => ?_)
  clear hK K
  try simp only [Act.put, List.setIfInBounds_toArray, List.set_cons_zero, List.set_cons_succ]
  have hn1 : n1 ≤ 9 := by have h := hr1.len; rw [List.length_append] at h; simp only [List.length_nil] at h; omega
  refine wpAnyH_ready (rs := [3]) (by kernel_rfl) (by simp) ?_
  refine AllReadyH.cons (i := 3) (o := ⟨(some 28), _, _, _, _, _⟩) rfl (fun K hK => ?_) AllReadyH.nil
  go_simp
  refine (wbytes_any w1 A1 _ n1 c1 A x n c hr1.byt hr1.len hr1.cap (by omega) (((ha.below hbw0).up hbw0.size).next hh1) HL.out hc (by omega)).mono ?_
  rintro e w2 ⟨A2, n2, c2, rfl, hr2, hb2⟩
  have hh2 : Below w0.heap.size w0 w2 := below_next hHeld hHeld.size hb2
  refine hK.out _ _ (hh2) (fun hHeld => ?_)
  clear hK K
  try simp only [Act.put, List.setIfInBounds_toArray, List.set_cons_zero, List.set_cons_succ]
  have hn2 : n2 ≤ 218 := by have h := hr2.len; simp only [List.length_append, List.length_nil, HL.out] at h; omega
  refine wpAnyH_ready (rs := [5]) (by kernel_rfl) (by simp) ?_
  refine AllReadyH.cons (i := 5) (o := ⟨(some 30), _, _, _, _, _⟩) rfl (fun K hK => ?_) AllReadyH.nil
  go_simp
  refine (wtext_any w2 A2 _ n2 c2 s hr2.byt hr2.len hr2.cap (by omega) (by omega)).mono ?_
  rintro e w3 ⟨A3, n3, c3, rfl, hr3, hb3⟩
  have hh3 : Below w0.heap.size w0 w3 := below_next hHeld hHeld.size hb3
  refine hK.out _ _ (hh3) (fun hHeld => ?_)
  clear hK K
  try simp only [Act.put, List.setIfInBounds_toArray, List.set_cons_zero, List.set_cons_succ]
  have hn3 : n3 ≤ 427 := by have h := hr3.len; simp only [List.length_append, List.length_nil, HL.out, hsl] at h; omega
  refine wpAnyH_ready (rs := [7]) (by kernel_rfl) (by simp) ?_
  refine AllReadyH.cons (i := 7) (o := ⟨(some 32), _, _, _, _, _⟩) rfl (fun K hK => ?_) AllReadyH.nil
  go_simp
  refine (wword_any w3 A3 _ n3 c3 u HU.out hr3.byt hr3.len hr3.cap (by omega)).mono ?_
  rintro e w4 ⟨A4, n4, c4, rfl, hr4, hb4⟩
  have hh4 : Below w0.heap.size w0 w4 := below_next hHeld hHeld.size hb4
  refine hK.out _ _ (hh4) (fun hHeld => ?_)
  clear hK K
  try simp only [Act.put, List.setIfInBounds_toArray, List.set_cons_zero, List.set_cons_succ]
  refine wpAnyH_take (i := 8) (oi := ⟨(some 9), _, _, _, _, _⟩) (v := ?vq1_3) rfl (by kernel_rfl) (by kernel_rfl) (by kernel_rfl) (fun _ _ _ h => h) (Or.inl ⟨by rfl, ?yq1_3⟩) hHeld ?_
  case yq1_3 => (intro W0 hSw; go_simp; try with_reducible rfl)
  try simp only [Act.put, List.setIfInBounds_toArray, List.set_cons_zero, List.set_cons_succ]
  refine wpAnyH_done (by kernel_rfl) ?_ _
  rw [hT.out] at hr4
  have hn4 : n4 ≤ 500 := by have h := hr4.len; omega
  have hbw4 := below_next hbw0 hbw0.size hh4
  have hg4 := row_next hg0 hh4
  have hs4 := (Array.getElem?_eq_some_iff.1 hg4.out).1
  have hrd := read_any w4 A4 T n4 c4 hr4.byt hr4.len (by omega)
  clear hr1 hr2 hr3 hb1 hb2 hb3 hb4 hh1 hh2 hh3 hh4 hn1 hn2 hn3 hg0 hs0 hbw0 hHeld
  go_wp2_with fail
  refine hrd.mono ?_
  rintro e w5 ⟨g, rfl, hr, hb5⟩
  have hbw5 := below_next hbw4 hbw4.size hb5
  have hg5 := row_next hg4 hb5
  have hs5 := (Array.getElem?_eq_some_iff.1 hg5.out).1
  have hby5 := hr4.byt.next hb5
  have hlen4 := Lib.hid hr4.len
  have hgw : w.heap.size < g := Nat.lt_of_lt_of_le hs4 hr.1.1
  have ha5 := Lib.hid ((ha.below hbw5).up hbw5.size)
  have hcb : ∀ W', Below w5.heap.size w5 W' → (convert 25 9 (.slice A4 n4 c4)).run Try.prog W' = .ok (.string ⟨T.toArray⟩) W' := fun W' h => conv_bytes Try.underlying25 Try.underlying5 Try.underlying9 (hby5.below h) n4 c4 hlen4.out
  clear hrd hr4 hb5 hg4 hs4 hbw4
  go_wp2_with fail
  refine wp_region_held_drew (S := fun W' => Below w5.heap.size w5 W') (by kernel_rfl) ((Below.refl _ _).drew) (fun hHeld => ?_)
  refine wpAnyH_take (i := 0) (oi := ⟨(some 35), _, _, _, _, _⟩) (v := ?vz7_1) rfl (by kernel_rfl) (by kernel_rfl) (by kernel_rfl) (fun _ _ _ h => h) (Or.inl ⟨by rfl, ?yz7_1⟩) hHeld ?_
  case yz7_1 => (intro W0 hSw; go_simp; try with_reducible rfl)
  try simp only [Act.put, List.setIfInBounds_toArray, List.set_cons_zero, List.set_cons_succ]
  refine wpAnyH_take (i := 1) (oi := ⟨(some 36), _, _, _, _, _⟩) (v := ?vz7_2) rfl (by kernel_rfl) (by kernel_rfl) (by kernel_rfl) (fun _ _ _ h => h) (Or.inl ⟨by rfl, ?yz7_2⟩) hHeld ?_
  case yz7_2 => (intro W0 hSw; go_simp; try with_reducible rfl)
  try simp only [Act.put, List.setIfInBounds_toArray, List.set_cons_zero, List.set_cons_succ]
  refine wpAnyH_take (i := 2) (oi := ⟨(some 37), _, _, _, _, _⟩) (v := ?vz7_3) rfl (by kernel_rfl) (by kernel_rfl) (by kernel_rfl) (fun _ _ _ h => h) (Or.inl ⟨by rfl, ?yz7_3⟩) hHeld ?_
  case yz7_3 => (intro W0 hSw; go_simp; try with_reducible rfl)
  try simp only [Act.put, List.setIfInBounds_toArray, List.set_cons_zero, List.set_cons_succ]
  refine wpAnyH_take (i := 3) (oi := ⟨(some 38), _, _, _, _, _⟩) (v := ?vz7_4) rfl (by kernel_rfl) (by kernel_rfl) (by kernel_rfl) (fun _ _ _ h => h) (Or.inl ⟨by rfl, ?yz7_4⟩) hHeld ?_
  case yz7_4 => (intro W0 hSw; go_simp; try with_reducible rfl)
  try simp only [Act.put, List.setIfInBounds_toArray, List.set_cons_zero, List.set_cons_succ]
  refine wpAnyH_take (i := 4) (oi := ⟨(some 39), _, _, _, _, _⟩) (v := ?vz7_5) rfl (by kernel_rfl) (by kernel_rfl) (by kernel_rfl) (fun _ _ _ h => h) (Or.inl ⟨by rfl, ?yz7_5⟩) hHeld ?_
  case yz7_5 => (intro W0 hSw; go_simp; try with_reducible rfl)
  try simp only [Act.put, List.setIfInBounds_toArray, List.set_cons_zero, List.set_cons_succ]
  refine wpAnyH_take (i := 5) (oi := ⟨(some 40), _, _, _, _, _⟩) (v := ?vz7_6) rfl (by kernel_rfl) (by kernel_rfl) (by kernel_rfl) (fun _ _ _ h => h) (Or.inl ⟨by rfl, ?yz7_6⟩) hHeld ?_
  case yz7_6 => (intro W0 hSw; go_simp; try with_reducible rfl)
  try simp only [Act.put, List.setIfInBounds_toArray, List.set_cons_zero, List.set_cons_succ]
  refine wpAnyH_take (i := 7) (oi := ⟨(some 42), _, _, _, _, _⟩) (v := ?vz7_7) rfl (by kernel_rfl) (by kernel_rfl) (by kernel_rfl) (fun _ _ _ h => h) (Or.inl ⟨by rfl, ?yz7_7⟩) hHeld ?_
  case yz7_7 => (intro W0 hSw; go_simp; try with_reducible rfl)
  try simp only [Act.put, List.setIfInBounds_toArray, List.set_cons_zero, List.set_cons_succ]
  refine wpAnyH_take (i := 9) (oi := ⟨(some 44), _, _, _, _, _⟩) (v := ?vz7_8) rfl (by kernel_rfl) (by kernel_rfl) (by kernel_rfl) (fun _ _ _ h => h) (Or.inl ⟨by rfl, ?yz7_8⟩) hHeld ?_
  case yz7_8 => (intro W0 hSw; go_simp; try with_reducible rfl)
  try simp only [Act.put, List.setIfInBounds_toArray, List.set_cons_zero, List.set_cons_succ]
  refine wpAnyH_take (i := 12) (oi := ⟨(some 47), _, _, _, _, _⟩) (v := _) rfl (by kernel_rfl) (by kernel_rfl) (by kernel_rfl) (fun _ _ _ h => h) (yieldsIf_load_mid (by rfl) _ _ rfl w.heap.size 0 rfl (bv u) _ (fun W' hW' => range_row ((hW'.block _ hs5).trans hg5.out)) (Try.underlying30) (rfl) (by rw [bv_len, HU.out]; kernel_rfl)) hHeld ?_
  try simp only [Act.put, List.setIfInBounds_toArray, List.set_cons_zero, List.set_cons_succ]
  refine wpAnyH_ready (rs := [6, 10]) (by kernel_rfl) (by simp) ?_
  refine AllReadyH.cons (i := 6) (o := ⟨(some 41), _, _, _, _, _⟩) rfl (fun K hK => ?_) (AllReadyH.cons (i := 10) (o := ⟨(some 45), _, _, _, _, _⟩) rfl (fun K hK => ?_) AllReadyH.nil)
  · go_simp
    refine (rfnum_any w5.drew none [] 0 0 p (.inl rfl) rfl (by decide) hp).mono ?_
    rintro e x1 ⟨B6, m6, f6, rfl, q6, d1⟩
    have hh1 : Below w5.heap.size w5 x1 := below_next hHeld (Nat.le_refl _) d1
    have mm6 : m6 ≤ 9 := by have h := q6.len; simp only [List.length_append, List.length_nil] at h; omega
    have y6 := q6.byt
    have z6 := Lib.hid q6.len
    refine hK.out _ _ (hh1) (fun hHeld => ?_)
    clear hK K
    try simp only [Act.put, List.setIfInBounds_toArray, List.set_cons_zero, List.set_cons_succ]
    refine wpAnyH_ready (rs := [8, 10]) (by kernel_rfl) (by simp) ?_
    refine AllReadyH.cons (i := 8) (o := ⟨(some 43), _, _, _, _, _⟩) rfl (fun K hK => ?_) (AllReadyH.cons (i := 10) (o := ⟨(some 45), _, _, _, _, _⟩) rfl (fun K hK => ?_) AllReadyH.nil)
    · go_simp
      refine (rfbytes_any x1 B6 _ m6 f6 A x n c (y6) z6.out (by omega) (ha5.out.next hHeld) HL.out (by omega)).mono ?_
      rintro e x2 ⟨B8, m8, f8, rfl, q8, d2⟩
      have hh2 : Below w5.heap.size w5 x2 := below_next hHeld hHeld.size d2
      have mm8 : m8 ≤ 218 := by have h := q8.len; simp only [List.length_append, List.length_nil, HL.out] at h; omega
      have y8 := q8.byt
      have z8 := Lib.hid q8.len
      refine hK.out _ _ (hh2) (fun hHeld => ?_)
      clear hK K
      try simp only [Act.put, List.setIfInBounds_toArray, List.set_cons_zero, List.set_cons_succ]
      refine wpAnyH_ready (rs := [10]) (by kernel_rfl) (by simp) ?_
      refine AllReadyH.cons (i := 10) (o := ⟨(some 45), _, _, _, _, _⟩) rfl (fun K hK => ?_) AllReadyH.nil
      refine step_conv (by rfl) 9 25 5 (.tmp 44) rfl Try.underlying9 Try.underlying25 Try.underlying5 s (by rfl) ?_
      intro B10 f10 x3 y10 _ d3
      have hh3 : Below w5.heap.size w5 x3 := below_next hHeld hHeld.size d3
      refine hK.out _ _ (hh3) (fun hHeld => ?_)
      clear hK K
      try simp only [Act.put, List.setIfInBounds_toArray, List.set_cons_zero, List.set_cons_succ]
      refine wpAnyH_ready (rs := [11]) (by kernel_rfl) (by simp) ?_
      refine AllReadyH.cons (i := 11) (o := ⟨(some 46), _, _, _, _, _⟩) rfl (fun K hK => ?_) AllReadyH.nil
      go_simp
      refine (rfbytes_any x3 B8 _ m8 f8 B10 s.data.toList s.size f10 ((y8).next d3) z8.out (by omega) (y10) hsl (by omega)).mono ?_
      rintro e x4 ⟨B11, m11, f11, rfl, q11, d4⟩
      have hh4 : Below w5.heap.size w5 x4 := below_next hHeld hHeld.size d4
      have mm11 : m11 ≤ 427 := by have h := q11.len; simp only [List.length_append, List.length_nil, HL.out, hsl] at h; omega
      have y11 := q11.byt
      have z11 := Lib.hid q11.len
      refine hK.out _ _ (hh4) (fun hHeld => ?_)
      clear hK K
      try simp only [Act.put, List.setIfInBounds_toArray, List.set_cons_zero, List.set_cons_succ]
      refine wpAnyH_ready (rs := [13]) (by kernel_rfl) (by simp) ?_
      refine AllReadyH.cons (i := 13) (o := ⟨(some 48), _, _, _, _, _⟩) rfl (fun K hK => ?_) AllReadyH.nil
      go_simp
      refine (rfword_any x4 B11 _ m11 f11 u HU.out y11 z11.out (by omega)).mono ?_
      rintro e x5 ⟨B13, m13, f13, rfl, q13, d5⟩
      have hh5 : Below w5.heap.size w5 x5 := below_next hHeld hHeld.size d5
      rw [hT.out] at q13
      have hcv := conv_bytes (P := Try.prog) Try.underlying25 Try.underlying5 Try.underlying9 q13.byt m13 f13 q13.len
      refine hK.out _ _ (hh5) (fun hHeld => ?_)
      clear hK K
      try simp only [Act.put, List.setIfInBounds_toArray, List.set_cons_zero, List.set_cons_succ]
      clear q6 q8 q11 y6 y8 y10 y11 z6 z8 z11 mm6 mm8 mm11 d1 d2 d3 d4 d5 hh1 hh2 hh3 hh4
      refine wpAnyH_ready (rs := [14]) (by kernel_rfl) (by simp) ?_
      refine AllReadyH.cons (i := 14) (o := ⟨(some 49), _, _, _, _, _⟩) rfl (fun K hK => ?_) AllReadyH.nil
      go_simp
      refine hK.out _ _ (hh5) (fun hHeld => ?_)
      clear hK K
      try simp only [Act.put, List.setIfInBounds_toArray, List.set_cons_zero, List.set_cons_succ]
      refine wpAnyH_take (i := 15) (oi := ⟨(some 50), _, _, _, _, _⟩) (v := ?vz7_9) rfl (by kernel_rfl) (by kernel_rfl) (by kernel_rfl) (fun _ _ _ h => h) (Or.inl ⟨by rfl, ?yz7_9⟩) hHeld ?_
      case yz7_9 => (intro W0 hSw; go_simp; try with_reducible rfl)
      try simp only [Act.put, List.setIfInBounds_toArray, List.set_cons_zero, List.set_cons_succ]
      refine wpAnyH_take (i := 16) (oi := ⟨(some 51), _, _, _, _, _⟩) (v := ?vz7_10) rfl (by kernel_rfl) (by kernel_rfl) (by kernel_rfl) (fun _ _ _ h => h) (Or.inl ⟨by rfl, ?yz7_10⟩) hHeld ?_
      case yz7_10 => (intro W0 hSw; go_simp; try with_reducible rfl)
      try simp only [Act.put, List.setIfInBounds_toArray, List.set_cons_zero, List.set_cons_succ]
      refine wpAnyH_done (by kernel_rfl) ?_ _
      have hbz := below_next hbw5 hbw5.size hh5
      have hgz := row_next hg5 hh5
      have hsz := (Array.getElem?_eq_some_iff.1 hgz.out).1
      have haz : Hid (Byt x5 w.heap.size A x) := ha.below hbz
      have hrz := hr.next hh5
      have hgz5 := hrz.lt
      have hcx : ∀ W', But g x5 W' → (convert 25 9 (.slice A n c)).run Try.prog W' = .ok (.string ⟨x.toArray⟩) W' := fun W' h => conv_bytes Try.underlying25 Try.underlying5 Try.underlying9 (haz.out.past h (Nat.le_of_lt hgw) hgz5) n c HL.out
      have q32 := fun w0 => eql_bytes_same (P := Try.prog) Try.underlying30 Try.underlying5 Try.sizeByte u HU.out w0
      clear q13 hcv hcb hHeld hh5 hr hg5 hs5 hbw5 hby5
      go_wp2_with fail
      refine wp_region_held_drew (S := (fun W' => But g x5 W')) (by kernel_rfl) ((But.refl _ _).drew) (fun hHeld => ?_)
      refine wpAnyH_take (i := 0) (oi := ⟨(some 52), _, _, _, _, _⟩) (v := ?vq2_0) rfl (by kernel_rfl) (by kernel_rfl) (by kernel_rfl) (fun _ _ _ h => h) (Or.inl ⟨by rfl, ?yq2_0⟩) hHeld ?_
      case yq2_0 => (intro W0 hSw; go_simp; try with_reducible rfl)
      try simp only [Act.put, List.setIfInBounds_toArray, List.set_cons_zero, List.set_cons_succ]
      refine wpAnyH_take (i := 2) (oi := ⟨(some 54), _, _, _, _, _⟩) (v := ?vq2_1) rfl (by kernel_rfl) (by kernel_rfl) (by kernel_rfl) (fun _ _ _ h => h) (Or.inl ⟨by rfl, ?yq2_1⟩) hHeld ?_
      case yq2_1 => (intro W0 hSw; go_simp; try with_reducible rfl)
      try simp only [Act.put, List.setIfInBounds_toArray, List.set_cons_zero, List.set_cons_succ]
      refine wpAnyH_ready (rs := [1]) (by kernel_rfl) (by simp) ?_
      refine AllReadyH.cons (i := 1) (o := ⟨(some 53), _, _, _, _, _⟩) rfl (fun K hK => ?_) AllReadyH.nil
      go_simp
      refine (num_is x5.drew _ _ g T T1 false 9223372036854775807 p k0 hrz.drew F0 K0 (by omega) D0).mono ?_
      rintro e z1 ⟨rfl, r1, b1⟩
      have t1 : But g x5 z1 := hHeld.trans b1
      refine hK.out _ _ (t1) (fun hHeld => ?_)
      clear hK K
      try simp only [Act.put, List.setIfInBounds_toArray, List.set_cons_zero, List.set_cons_succ]
      refine wpAnyH_take (i := 3) (oi := ⟨(some 55), _, _, _, _, _⟩) (v := ?vq2_2) rfl (by kernel_rfl) (by kernel_rfl) (by kernel_rfl) (fun _ _ _ h => h) (Or.inl ⟨by rfl, ?yq2_2⟩) hHeld ?_
      case yq2_2 => (intro W0 hSw; go_simp; try with_reducible rfl)
      try simp only [Act.put, List.setIfInBounds_toArray, List.set_cons_zero, List.set_cons_succ]
      refine wpAnyH_take (i := 4) (oi := ⟨(some 56), _, _, _, _, _⟩) (v := ?vq2_3) rfl (by kernel_rfl) (by kernel_rfl) (by kernel_rfl) (fun _ _ _ h => h) (Or.inl ⟨by rfl, ?yq2_3⟩) hHeld ?_
      case yq2_3 => (intro W0 hSw; go_simp; try with_reducible rfl)
      try simp only [Act.put, List.setIfInBounds_toArray, List.set_cons_zero, List.set_cons_succ]
      refine wpAnyH_take (i := 5) (oi := ⟨(some 57), _, _, _, _, _⟩) (v := ?vq2_4) rfl (by kernel_rfl) (by kernel_rfl) (by kernel_rfl) (fun _ _ _ h => h) (Or.inl ⟨by rfl, ?yq2_4⟩) hHeld ?_
      case yq2_4 => (intro W0 hSw; go_simp; try with_reducible rfl)
      try simp only [Act.put, List.setIfInBounds_toArray, List.set_cons_zero, List.set_cons_succ]
      refine wpAnyH_take (i := 8) (oi := ⟨(some 60), _, _, _, _, _⟩) (v := ?vq2_5) rfl (by kernel_rfl) (by kernel_rfl) (by kernel_rfl) (fun _ _ _ h => h) (Or.inl ⟨by rfl, ?yq2_5⟩) hHeld ?_
      case yq2_5 => (intro W0 hSw; go_simp; try with_reducible rfl)
      try simp only [Act.put, List.setIfInBounds_toArray, List.set_cons_zero, List.set_cons_succ]
      refine wpAnyH_take (i := 9) (oi := ⟨(some 61), _, _, _, _, _⟩) (v := ?vq2_6) rfl (by kernel_rfl) (by kernel_rfl) (by kernel_rfl) (fun _ _ _ h => h) (Or.inl ⟨by rfl, ?yq2_6⟩) hHeld ?_
      case yq2_6 => (intro W0 hSw; go_simp; try with_reducible rfl)
      try simp only [Act.put, List.setIfInBounds_toArray, List.set_cons_zero, List.set_cons_succ]
      refine wpAnyH_ready (rs := [6]) (by kernel_rfl) (by simp) ?_
      refine AllReadyH.cons (i := 6) (o := ⟨(some 58), _, _, _, _, _⟩) rfl (fun K hK => ?_) AllReadyH.nil
      go_simp
      refine (rbytes_is z1 _ _ g T1 false 200 n k1 x T2 r1 F1 K1 (by omega) L1 (by omega) E1 D1).mono ?_
      rintro e z2 ⟨B2, f2, rfl, q2, r2, b2⟩
      have t2 : But g x5 z2 := hHeld.trans b2
      have hcv2 := conv_bytes (P := Try.prog) Try.underlying25 Try.underlying5 Try.underlying9 q2.byt n f2 q2.len
      refine hK.out _ _ (t2) (fun hHeld => ?_)
      clear hK K
      try simp only [Act.put, List.setIfInBounds_toArray, List.set_cons_zero, List.set_cons_succ]
      refine wpAnyH_ready (rs := [7]) (by kernel_rfl) (by simp) ?_
      refine AllReadyH.cons (i := 7) (o := ⟨(some 59), _, _, _, _, _⟩) rfl (fun K hK => ?_) AllReadyH.nil
      go_simp
      refine hK.out _ _ (t2) (fun hHeld => ?_)
      clear hK K
      try simp only [Act.put, List.setIfInBounds_toArray, List.set_cons_zero, List.set_cons_succ]
      refine wpAnyH_take (i := 10) (oi := ⟨(some 62), _, _, _, _, _⟩) (v := ?vq2_7) rfl (by kernel_rfl) (by kernel_rfl) (by kernel_rfl) (fun _ _ _ h => h) (Or.inl ⟨by rfl, ?yq2_7⟩) hHeld ?_
      case yq2_7 => (intro W0 hSw; go_simp; try with_reducible rfl)
      try simp only [Act.put, List.setIfInBounds_toArray, List.set_cons_zero, List.set_cons_succ]
      refine wpAnyH_take (i := 11) (oi := ⟨(some 63), _, _, _, _, _⟩) (v := ?vq2_8) rfl (by kernel_rfl) (by kernel_rfl) (by kernel_rfl) (fun _ _ _ h => h) (Or.inl ⟨by rfl, ?yq2_8⟩) hHeld ?_
      case yq2_8 => (intro W0 hSw; go_simp; try with_reducible rfl)
      try simp only [Act.put, List.setIfInBounds_toArray, List.set_cons_zero, List.set_cons_succ]
      refine wpAnyH_take (i := 12) (oi := ⟨(some 64), _, _, _, _, _⟩) (v := ?vq2_9) rfl (by kernel_rfl) (by kernel_rfl) (by kernel_rfl) (fun _ _ _ h => h) (Or.inl ⟨by rfl, ?yq2_9⟩) hHeld ?_
      case yq2_9 => (intro W0 hSw; go_simp; try with_reducible rfl)
      try simp only [Act.put, List.setIfInBounds_toArray, List.set_cons_zero, List.set_cons_succ]
      refine wpAnyH_take (i := 13) (oi := ⟨(some 65), _, _, _, _, _⟩) (v := ?vq2_10) rfl (by kernel_rfl) (by kernel_rfl) (by kernel_rfl) (fun _ _ _ h => h) (Or.inl ⟨by rfl, ?yq2_10⟩) hHeld ?_
      case yq2_10 => (intro W0 hSw; go_simp; try with_reducible rfl)
      try simp only [Act.put, List.setIfInBounds_toArray, List.set_cons_zero, List.set_cons_succ]
      refine wpAnyH_take (i := 15) (oi := ⟨(some 67), _, _, _, _, _⟩) (v := ?vq2_11) rfl (by kernel_rfl) (by kernel_rfl) (by kernel_rfl) (fun _ _ _ h => h) (Or.inl ⟨by rfl, ?yq2_11⟩) hHeld ?_
      case yq2_11 => (intro W0 hSw; go_simp; try with_reducible rfl)
      try simp only [Act.put, List.setIfInBounds_toArray, List.set_cons_zero, List.set_cons_succ]
      refine wpAnyH_ready (rs := [14]) (by kernel_rfl) (by simp) ?_
      refine AllReadyH.cons (i := 14) (o := ⟨(some 66), _, _, _, _, _⟩) rfl (fun K hK => ?_) AllReadyH.nil
      go_simp
      refine (rtext_is z2 _ _ g T2 false 200 s.size k2 s u r2 F2 K2 (by omega) L2 E2 D2).mono ?_
      rintro e z3 ⟨rfl, r3, b3⟩
      have t3 : But g x5 z3 := hHeld.trans b3
      refine hK.out _ _ (t3) (fun hHeld => ?_)
      clear hK K
      try simp only [Act.put, List.setIfInBounds_toArray, List.set_cons_zero, List.set_cons_succ]
      refine wpAnyH_take (i := 16) (oi := ⟨(some 68), _, _, _, _, _⟩) (v := ?vq2_12) rfl (by kernel_rfl) (by kernel_rfl) (by kernel_rfl) (fun _ _ _ h => h) (Or.inl ⟨by rfl, ?yq2_12⟩) hHeld ?_
      case yq2_12 => (intro W0 hSw; go_simp; try with_reducible rfl)
      try simp only [Act.put, List.setIfInBounds_toArray, List.set_cons_zero, List.set_cons_succ]
      refine wpAnyH_take (i := 17) (oi := ⟨(some 69), _, _, _, _, _⟩) (v := ?vq2_13) rfl (by kernel_rfl) (by kernel_rfl) (by kernel_rfl) (fun _ _ _ h => h) (Or.inl ⟨by rfl, ?yq2_13⟩) hHeld ?_
      case yq2_13 => (intro W0 hSw; go_simp; try with_reducible rfl)
      try simp only [Act.put, List.setIfInBounds_toArray, List.set_cons_zero, List.set_cons_succ]
      refine wpAnyH_take (i := 18) (oi := ⟨(some 70), _, _, _, _, _⟩) (v := ?vq2_14) rfl (by kernel_rfl) (by kernel_rfl) (by kernel_rfl) (fun _ _ _ h => h) (Or.inl ⟨by rfl, ?yq2_14⟩) hHeld ?_
      case yq2_14 => (intro W0 hSw; go_simp; try with_reducible rfl)
      try simp only [Act.put, List.setIfInBounds_toArray, List.set_cons_zero, List.set_cons_succ]
      refine wpAnyH_take (i := 19) (oi := ⟨(some 71), _, _, _, _, _⟩) (v := ?vq2_15) rfl (by kernel_rfl) (by kernel_rfl) (by kernel_rfl) (fun _ _ _ h => h) (Or.inl ⟨by rfl, ?yq2_15⟩) hHeld ?_
      case yq2_15 => (intro W0 hSw; go_simp; try with_reducible rfl)
      try simp only [Act.put, List.setIfInBounds_toArray, List.set_cons_zero, List.set_cons_succ]
      refine wpAnyH_take (i := 21) (oi := ⟨(some 73), _, _, _, _, _⟩) (v := _) rfl (by kernel_rfl) (by kernel_rfl) (by kernel_rfl) (fun _ _ _ h => h) (yieldsIf_load_mid (by rfl) _ _ rfl w.heap.size 0 rfl (bv u) _ (fun W' hW' => range_row ((hW'.block _ hsz (fun e => by injection e; omega)).trans hgz.out)) (Try.underlying30) (rfl) (by rw [bv_len, HU.out]; kernel_rfl)) hHeld ?_
      try simp only [Act.put, List.setIfInBounds_toArray, List.set_cons_zero, List.set_cons_succ]
      refine wpAnyH_ready (rs := [20]) (by kernel_rfl) (by simp) ?_
      refine AllReadyH.cons (i := 20) (o := ⟨(some 72), _, _, _, _, _⟩) rfl (fun K hK => ?_) AllReadyH.nil
      go_simp
      refine (rword_is z3 _ _ g u false r3 HU.out).mono ?_
      rintro e z4 ⟨rfl, r4, b4⟩
      have t4 : But g x5 z4 := hHeld.trans b4
      refine hK.out _ _ (t4) (fun hHeld => ?_)
      clear hK K
      try simp only [Act.put, List.setIfInBounds_toArray, List.set_cons_zero, List.set_cons_succ]
      refine wpAnyH_take (i := 22) (oi := ⟨(some 74), _, _, _, _, _⟩) (v := ?vq2_16) rfl (by kernel_rfl) (by kernel_rfl) (by kernel_rfl) (fun _ _ _ h => h) (Or.inl ⟨by rfl, ?yq2_16⟩) hHeld ?_
      case yq2_16 => (intro W0 hSw; go_simp; try with_reducible rfl)
      try simp only [Act.put, List.setIfInBounds_toArray, List.set_cons_zero, List.set_cons_succ]
      refine wpAnyH_take (i := 23) (oi := ⟨(some 75), _, _, _, _, _⟩) (v := ?vq2_17) rfl (by kernel_rfl) (by kernel_rfl) (by kernel_rfl) (fun _ _ _ h => h) (Or.inl ⟨by rfl, ?yq2_17⟩) hHeld ?_
      case yq2_17 => (intro W0 hSw; go_simp; try with_reducible rfl)
      try simp only [Act.put, List.setIfInBounds_toArray, List.set_cons_zero, List.set_cons_succ]
      refine wpAnyH_take (i := 24) (oi := ⟨(some 76), _, _, _, _, _⟩) (v := ?vq2_18) rfl (by kernel_rfl) (by kernel_rfl) (by kernel_rfl) (fun _ _ _ h => h) (Or.inl ⟨by rfl, ?yq2_18⟩) hHeld ?_
      case yq2_18 => (intro W0 hSw; go_simp; try with_reducible rfl)
      try simp only [Act.put, List.setIfInBounds_toArray, List.set_cons_zero, List.set_cons_succ]
      refine wpAnyH_take (i := 25) (oi := ⟨(some 77), _, _, _, _, _⟩) (v := ?vq2_19) rfl (by kernel_rfl) (by kernel_rfl) (by kernel_rfl) (fun _ _ _ h => h) (Or.inl ⟨by rfl, ?yq2_19⟩) hHeld ?_
      case yq2_19 => (intro W0 hSw; go_simp; try with_reducible rfl)
      try simp only [Act.put, List.setIfInBounds_toArray, List.set_cons_zero, List.set_cons_succ]
      refine wpAnyH_ready (rs := [26]) (by kernel_rfl) (by simp) ?_
      refine AllReadyH.cons (i := 26) (o := ⟨(some 78), _, _, _, _, _⟩) rfl (fun K hK => ?_) AllReadyH.nil
      go_simp
      refine (end_any z4 _ _ g [] false r4).mono ?_
      rintro e z5 ⟨rfl, rfl⟩
      refine hK.out _ _ (t4) (fun hHeld => ?_)
      clear hK K
      try simp only [Act.put, List.setIfInBounds_toArray, List.set_cons_zero, List.set_cons_succ]
      refine wpAnyH_take (i := 27) (oi := ⟨(some 79), _, _, _, _, _⟩) (v := ?vq2_20) rfl (by kernel_rfl) (by kernel_rfl) (by kernel_rfl) (fun _ _ _ h => h) (Or.inl ⟨by rfl, ?yq2_20⟩) hHeld ?_
      case yq2_20 => (intro W0 hSw; go_simp; try with_reducible rfl)
      try simp only [Act.put, List.setIfInBounds_toArray, List.set_cons_zero, List.set_cons_succ]
      refine wpAnyH_take (i := 28) (oi := ⟨(some 8), _, _, _, _, _⟩) (v := ?vq2_21) rfl (by kernel_rfl) (by kernel_rfl) (by kernel_rfl) (fun _ _ _ h => h) (Or.inl ⟨by rfl, ?yq2_21⟩) hHeld ?_
      case yq2_21 => (intro W0 hSw; go_simp; try with_reducible rfl)
      try simp only [Act.put, List.setIfInBounds_toArray, List.set_cons_zero, List.set_cons_succ]
      refine wpAnyH_done (by kernel_rfl) ?_ _
      have hbz4 := But.below hbz t4 (Nat.le_of_lt hgw) hbz.size
      clear r1 r2 r3 r4 b1 b2 b3 b4 t1 t2 t3 q2 hcv2 hcx q32 hHeld
      go_wp2_with fail
      go_ret
      exact ⟨rfl, hbz4⟩
    · refine step_conv (by rfl) 9 25 5 (.tmp 44) rfl Try.underlying9 Try.underlying25 Try.underlying5 s (by rfl) ?_
      intro B10 f10 x2 y10 _ d2
      have hh2 : Below w5.heap.size w5 x2 := below_next hHeld hHeld.size d2
      refine hK.out _ _ (hh2) (fun hHeld => ?_)
      clear hK K
      try simp only [Act.put, List.setIfInBounds_toArray, List.set_cons_zero, List.set_cons_succ]
      refine wpAnyH_ready (rs := [8]) (by kernel_rfl) (by simp) ?_
      refine AllReadyH.cons (i := 8) (o := ⟨(some 43), _, _, _, _, _⟩) rfl (fun K hK => ?_) AllReadyH.nil
      go_simp
      refine (rfbytes_any x2 B6 _ m6 f6 A x n c ((y6).next d2) z6.out (by omega) (ha5.out.next hHeld) HL.out (by omega)).mono ?_
      rintro e x3 ⟨B8, m8, f8, rfl, q8, d3⟩
      have hh3 : Below w5.heap.size w5 x3 := below_next hHeld hHeld.size d3
      have mm8 : m8 ≤ 218 := by have h := q8.len; simp only [List.length_append, List.length_nil, HL.out] at h; omega
      have y8 := q8.byt
      have z8 := Lib.hid q8.len
      refine hK.out _ _ (hh3) (fun hHeld => ?_)
      clear hK K
      try simp only [Act.put, List.setIfInBounds_toArray, List.set_cons_zero, List.set_cons_succ]
      refine wpAnyH_ready (rs := [11]) (by kernel_rfl) (by simp) ?_
      refine AllReadyH.cons (i := 11) (o := ⟨(some 46), _, _, _, _, _⟩) rfl (fun K hK => ?_) AllReadyH.nil
      go_simp
      refine (rfbytes_any x3 B8 _ m8 f8 B10 s.data.toList s.size f10 (y8) z8.out (by omega) ((y10).next d3) hsl (by omega)).mono ?_
      rintro e x4 ⟨B11, m11, f11, rfl, q11, d4⟩
      have hh4 : Below w5.heap.size w5 x4 := below_next hHeld hHeld.size d4
      have mm11 : m11 ≤ 427 := by have h := q11.len; simp only [List.length_append, List.length_nil, HL.out, hsl] at h; omega
      have y11 := q11.byt
      have z11 := Lib.hid q11.len
      refine hK.out _ _ (hh4) (fun hHeld => ?_)
      clear hK K
      try simp only [Act.put, List.setIfInBounds_toArray, List.set_cons_zero, List.set_cons_succ]
      refine wpAnyH_ready (rs := [13]) (by kernel_rfl) (by simp) ?_
      refine AllReadyH.cons (i := 13) (o := ⟨(some 48), _, _, _, _, _⟩) rfl (fun K hK => ?_) AllReadyH.nil
      go_simp
      refine (rfword_any x4 B11 _ m11 f11 u HU.out y11 z11.out (by omega)).mono ?_
      rintro e x5 ⟨B13, m13, f13, rfl, q13, d5⟩
      have hh5 : Below w5.heap.size w5 x5 := below_next hHeld hHeld.size d5
      rw [hT.out] at q13
      have hcv := conv_bytes (P := Try.prog) Try.underlying25 Try.underlying5 Try.underlying9 q13.byt m13 f13 q13.len
      refine hK.out _ _ (hh5) (fun hHeld => ?_)
      clear hK K
      try simp only [Act.put, List.setIfInBounds_toArray, List.set_cons_zero, List.set_cons_succ]
      clear q6 q8 q11 y6 y8 y10 y11 z6 z8 z11 mm6 mm8 mm11 d1 d2 d3 d4 d5 hh1 hh2 hh3 hh4
      refine wpAnyH_ready (rs := [14]) (by kernel_rfl) (by simp) ?_
      refine AllReadyH.cons (i := 14) (o := ⟨(some 49), _, _, _, _, _⟩) rfl (fun K hK => ?_) AllReadyH.nil
      go_simp
      refine hK.out _ _ (hh5) (fun hHeld => ?_)
      clear hK K
      try simp only [Act.put, List.setIfInBounds_toArray, List.set_cons_zero, List.set_cons_succ]
      refine wpAnyH_take (i := 15) (oi := ⟨(some 50), _, _, _, _, _⟩) (v := ?vz7_11) rfl (by kernel_rfl) (by kernel_rfl) (by kernel_rfl) (fun _ _ _ h => h) (Or.inl ⟨by rfl, ?yz7_11⟩) hHeld ?_
      case yz7_11 => (intro W0 hSw; go_simp; try with_reducible rfl)
      try simp only [Act.put, List.setIfInBounds_toArray, List.set_cons_zero, List.set_cons_succ]
      refine wpAnyH_take (i := 16) (oi := ⟨(some 51), _, _, _, _, _⟩) (v := ?vz7_12) rfl (by kernel_rfl) (by kernel_rfl) (by kernel_rfl) (fun _ _ _ h => h) (Or.inl ⟨by rfl, ?yz7_12⟩) hHeld ?_
      case yz7_12 => (intro W0 hSw; go_simp; try with_reducible rfl)
      try simp only [Act.put, List.setIfInBounds_toArray, List.set_cons_zero, List.set_cons_succ]
      refine wpAnyH_done (by kernel_rfl) ?_ _
      have hbz := below_next hbw5 hbw5.size hh5
      have hgz := row_next hg5 hh5
      have hsz := (Array.getElem?_eq_some_iff.1 hgz.out).1
      have haz : Hid (Byt x5 w.heap.size A x) := ha.below hbz
      have hrz := hr.next hh5
      have hgz5 := hrz.lt
      have hcx : ∀ W', But g x5 W' → (convert 25 9 (.slice A n c)).run Try.prog W' = .ok (.string ⟨x.toArray⟩) W' := fun W' h => conv_bytes Try.underlying25 Try.underlying5 Try.underlying9 (haz.out.past h (Nat.le_of_lt hgw) hgz5) n c HL.out
      have q32 := fun w0 => eql_bytes_same (P := Try.prog) Try.underlying30 Try.underlying5 Try.sizeByte u HU.out w0
      clear q13 hcv hcb hHeld hh5 hr hg5 hs5 hbw5 hby5
      go_wp2_with fail
      refine wp_region_held_drew (S := (fun W' => But g x5 W')) (by kernel_rfl) ((But.refl _ _).drew) (fun hHeld => ?_)
      refine wpAnyH_take (i := 0) (oi := ⟨(some 52), _, _, _, _, _⟩) (v := ?vq3_0) rfl (by kernel_rfl) (by kernel_rfl) (by kernel_rfl) (fun _ _ _ h => h) (Or.inl ⟨by rfl, ?yq3_0⟩) hHeld ?_
      case yq3_0 => (intro W0 hSw; go_simp; try with_reducible rfl)
      try simp only [Act.put, List.setIfInBounds_toArray, List.set_cons_zero, List.set_cons_succ]
      refine wpAnyH_take (i := 2) (oi := ⟨(some 54), _, _, _, _, _⟩) (v := ?vq3_1) rfl (by kernel_rfl) (by kernel_rfl) (by kernel_rfl) (fun _ _ _ h => h) (Or.inl ⟨by rfl, ?yq3_1⟩) hHeld ?_
      case yq3_1 => (intro W0 hSw; go_simp; try with_reducible rfl)
      try simp only [Act.put, List.setIfInBounds_toArray, List.set_cons_zero, List.set_cons_succ]
      refine wpAnyH_ready (rs := [1]) (by kernel_rfl) (by simp) ?_
      refine AllReadyH.cons (i := 1) (o := ⟨(some 53), _, _, _, _, _⟩) rfl (fun K hK => ?_) AllReadyH.nil
      go_simp
      refine (num_is x5.drew _ _ g T T1 false 9223372036854775807 p k0 hrz.drew F0 K0 (by omega) D0).mono ?_
      rintro e z1 ⟨rfl, r1, b1⟩
      have t1 : But g x5 z1 := hHeld.trans b1
      refine hK.out _ _ (t1) (fun hHeld => ?_)
      clear hK K
      try simp only [Act.put, List.setIfInBounds_toArray, List.set_cons_zero, List.set_cons_succ]
      refine wpAnyH_take (i := 3) (oi := ⟨(some 55), _, _, _, _, _⟩) (v := ?vq3_2) rfl (by kernel_rfl) (by kernel_rfl) (by kernel_rfl) (fun _ _ _ h => h) (Or.inl ⟨by rfl, ?yq3_2⟩) hHeld ?_
      case yq3_2 => (intro W0 hSw; go_simp; try with_reducible rfl)
      try simp only [Act.put, List.setIfInBounds_toArray, List.set_cons_zero, List.set_cons_succ]
      refine wpAnyH_take (i := 4) (oi := ⟨(some 56), _, _, _, _, _⟩) (v := ?vq3_3) rfl (by kernel_rfl) (by kernel_rfl) (by kernel_rfl) (fun _ _ _ h => h) (Or.inl ⟨by rfl, ?yq3_3⟩) hHeld ?_
      case yq3_3 => (intro W0 hSw; go_simp; try with_reducible rfl)
      try simp only [Act.put, List.setIfInBounds_toArray, List.set_cons_zero, List.set_cons_succ]
      refine wpAnyH_take (i := 5) (oi := ⟨(some 57), _, _, _, _, _⟩) (v := ?vq3_4) rfl (by kernel_rfl) (by kernel_rfl) (by kernel_rfl) (fun _ _ _ h => h) (Or.inl ⟨by rfl, ?yq3_4⟩) hHeld ?_
      case yq3_4 => (intro W0 hSw; go_simp; try with_reducible rfl)
      try simp only [Act.put, List.setIfInBounds_toArray, List.set_cons_zero, List.set_cons_succ]
      refine wpAnyH_take (i := 8) (oi := ⟨(some 60), _, _, _, _, _⟩) (v := ?vq3_5) rfl (by kernel_rfl) (by kernel_rfl) (by kernel_rfl) (fun _ _ _ h => h) (Or.inl ⟨by rfl, ?yq3_5⟩) hHeld ?_
      case yq3_5 => (intro W0 hSw; go_simp; try with_reducible rfl)
      try simp only [Act.put, List.setIfInBounds_toArray, List.set_cons_zero, List.set_cons_succ]
      refine wpAnyH_take (i := 9) (oi := ⟨(some 61), _, _, _, _, _⟩) (v := ?vq3_6) rfl (by kernel_rfl) (by kernel_rfl) (by kernel_rfl) (fun _ _ _ h => h) (Or.inl ⟨by rfl, ?yq3_6⟩) hHeld ?_
      case yq3_6 => (intro W0 hSw; go_simp; try with_reducible rfl)
      try simp only [Act.put, List.setIfInBounds_toArray, List.set_cons_zero, List.set_cons_succ]
      refine wpAnyH_ready (rs := [6]) (by kernel_rfl) (by simp) ?_
      refine AllReadyH.cons (i := 6) (o := ⟨(some 58), _, _, _, _, _⟩) rfl (fun K hK => ?_) AllReadyH.nil
      go_simp
      refine (rbytes_is z1 _ _ g T1 false 200 n k1 x T2 r1 F1 K1 (by omega) L1 (by omega) E1 D1).mono ?_
      rintro e z2 ⟨B2, f2, rfl, q2, r2, b2⟩
      have t2 : But g x5 z2 := hHeld.trans b2
      have hcv2 := conv_bytes (P := Try.prog) Try.underlying25 Try.underlying5 Try.underlying9 q2.byt n f2 q2.len
      refine hK.out _ _ (t2) (fun hHeld => ?_)
      clear hK K
      try simp only [Act.put, List.setIfInBounds_toArray, List.set_cons_zero, List.set_cons_succ]
      refine wpAnyH_ready (rs := [7]) (by kernel_rfl) (by simp) ?_
      refine AllReadyH.cons (i := 7) (o := ⟨(some 59), _, _, _, _, _⟩) rfl (fun K hK => ?_) AllReadyH.nil
      go_simp
      refine hK.out _ _ (t2) (fun hHeld => ?_)
      clear hK K
      try simp only [Act.put, List.setIfInBounds_toArray, List.set_cons_zero, List.set_cons_succ]
      refine wpAnyH_take (i := 10) (oi := ⟨(some 62), _, _, _, _, _⟩) (v := ?vq3_7) rfl (by kernel_rfl) (by kernel_rfl) (by kernel_rfl) (fun _ _ _ h => h) (Or.inl ⟨by rfl, ?yq3_7⟩) hHeld ?_
      case yq3_7 => (intro W0 hSw; go_simp; try with_reducible rfl)
      try simp only [Act.put, List.setIfInBounds_toArray, List.set_cons_zero, List.set_cons_succ]
      refine wpAnyH_take (i := 11) (oi := ⟨(some 63), _, _, _, _, _⟩) (v := ?vq3_8) rfl (by kernel_rfl) (by kernel_rfl) (by kernel_rfl) (fun _ _ _ h => h) (Or.inl ⟨by rfl, ?yq3_8⟩) hHeld ?_
      case yq3_8 => (intro W0 hSw; go_simp; try with_reducible rfl)
      try simp only [Act.put, List.setIfInBounds_toArray, List.set_cons_zero, List.set_cons_succ]
      refine wpAnyH_take (i := 12) (oi := ⟨(some 64), _, _, _, _, _⟩) (v := ?vq3_9) rfl (by kernel_rfl) (by kernel_rfl) (by kernel_rfl) (fun _ _ _ h => h) (Or.inl ⟨by rfl, ?yq3_9⟩) hHeld ?_
      case yq3_9 => (intro W0 hSw; go_simp; try with_reducible rfl)
      try simp only [Act.put, List.setIfInBounds_toArray, List.set_cons_zero, List.set_cons_succ]
      refine wpAnyH_take (i := 13) (oi := ⟨(some 65), _, _, _, _, _⟩) (v := ?vq3_10) rfl (by kernel_rfl) (by kernel_rfl) (by kernel_rfl) (fun _ _ _ h => h) (Or.inl ⟨by rfl, ?yq3_10⟩) hHeld ?_
      case yq3_10 => (intro W0 hSw; go_simp; try with_reducible rfl)
      try simp only [Act.put, List.setIfInBounds_toArray, List.set_cons_zero, List.set_cons_succ]
      refine wpAnyH_take (i := 15) (oi := ⟨(some 67), _, _, _, _, _⟩) (v := ?vq3_11) rfl (by kernel_rfl) (by kernel_rfl) (by kernel_rfl) (fun _ _ _ h => h) (Or.inl ⟨by rfl, ?yq3_11⟩) hHeld ?_
      case yq3_11 => (intro W0 hSw; go_simp; try with_reducible rfl)
      try simp only [Act.put, List.setIfInBounds_toArray, List.set_cons_zero, List.set_cons_succ]
      refine wpAnyH_ready (rs := [14]) (by kernel_rfl) (by simp) ?_
      refine AllReadyH.cons (i := 14) (o := ⟨(some 66), _, _, _, _, _⟩) rfl (fun K hK => ?_) AllReadyH.nil
      go_simp
      refine (rtext_is z2 _ _ g T2 false 200 s.size k2 s u r2 F2 K2 (by omega) L2 E2 D2).mono ?_
      rintro e z3 ⟨rfl, r3, b3⟩
      have t3 : But g x5 z3 := hHeld.trans b3
      refine hK.out _ _ (t3) (fun hHeld => ?_)
      clear hK K
      try simp only [Act.put, List.setIfInBounds_toArray, List.set_cons_zero, List.set_cons_succ]
      refine wpAnyH_take (i := 16) (oi := ⟨(some 68), _, _, _, _, _⟩) (v := ?vq3_12) rfl (by kernel_rfl) (by kernel_rfl) (by kernel_rfl) (fun _ _ _ h => h) (Or.inl ⟨by rfl, ?yq3_12⟩) hHeld ?_
      case yq3_12 => (intro W0 hSw; go_simp; try with_reducible rfl)
      try simp only [Act.put, List.setIfInBounds_toArray, List.set_cons_zero, List.set_cons_succ]
      refine wpAnyH_take (i := 17) (oi := ⟨(some 69), _, _, _, _, _⟩) (v := ?vq3_13) rfl (by kernel_rfl) (by kernel_rfl) (by kernel_rfl) (fun _ _ _ h => h) (Or.inl ⟨by rfl, ?yq3_13⟩) hHeld ?_
      case yq3_13 => (intro W0 hSw; go_simp; try with_reducible rfl)
      try simp only [Act.put, List.setIfInBounds_toArray, List.set_cons_zero, List.set_cons_succ]
      refine wpAnyH_take (i := 18) (oi := ⟨(some 70), _, _, _, _, _⟩) (v := ?vq3_14) rfl (by kernel_rfl) (by kernel_rfl) (by kernel_rfl) (fun _ _ _ h => h) (Or.inl ⟨by rfl, ?yq3_14⟩) hHeld ?_
      case yq3_14 => (intro W0 hSw; go_simp; try with_reducible rfl)
      try simp only [Act.put, List.setIfInBounds_toArray, List.set_cons_zero, List.set_cons_succ]
      refine wpAnyH_take (i := 19) (oi := ⟨(some 71), _, _, _, _, _⟩) (v := ?vq3_15) rfl (by kernel_rfl) (by kernel_rfl) (by kernel_rfl) (fun _ _ _ h => h) (Or.inl ⟨by rfl, ?yq3_15⟩) hHeld ?_
      case yq3_15 => (intro W0 hSw; go_simp; try with_reducible rfl)
      try simp only [Act.put, List.setIfInBounds_toArray, List.set_cons_zero, List.set_cons_succ]
      refine wpAnyH_take (i := 21) (oi := ⟨(some 73), _, _, _, _, _⟩) (v := _) rfl (by kernel_rfl) (by kernel_rfl) (by kernel_rfl) (fun _ _ _ h => h) (yieldsIf_load_mid (by rfl) _ _ rfl w.heap.size 0 rfl (bv u) _ (fun W' hW' => range_row ((hW'.block _ hsz (fun e => by injection e; omega)).trans hgz.out)) (Try.underlying30) (rfl) (by rw [bv_len, HU.out]; kernel_rfl)) hHeld ?_
      try simp only [Act.put, List.setIfInBounds_toArray, List.set_cons_zero, List.set_cons_succ]
      refine wpAnyH_ready (rs := [20]) (by kernel_rfl) (by simp) ?_
      refine AllReadyH.cons (i := 20) (o := ⟨(some 72), _, _, _, _, _⟩) rfl (fun K hK => ?_) AllReadyH.nil
      go_simp
      refine (rword_is z3 _ _ g u false r3 HU.out).mono ?_
      rintro e z4 ⟨rfl, r4, b4⟩
      have t4 : But g x5 z4 := hHeld.trans b4
      refine hK.out _ _ (t4) (fun hHeld => ?_)
      clear hK K
      try simp only [Act.put, List.setIfInBounds_toArray, List.set_cons_zero, List.set_cons_succ]
      refine wpAnyH_take (i := 22) (oi := ⟨(some 74), _, _, _, _, _⟩) (v := ?vq3_16) rfl (by kernel_rfl) (by kernel_rfl) (by kernel_rfl) (fun _ _ _ h => h) (Or.inl ⟨by rfl, ?yq3_16⟩) hHeld ?_
      case yq3_16 => (intro W0 hSw; go_simp; try with_reducible rfl)
      try simp only [Act.put, List.setIfInBounds_toArray, List.set_cons_zero, List.set_cons_succ]
      refine wpAnyH_take (i := 23) (oi := ⟨(some 75), _, _, _, _, _⟩) (v := ?vq3_17) rfl (by kernel_rfl) (by kernel_rfl) (by kernel_rfl) (fun _ _ _ h => h) (Or.inl ⟨by rfl, ?yq3_17⟩) hHeld ?_
      case yq3_17 => (intro W0 hSw; go_simp; try with_reducible rfl)
      try simp only [Act.put, List.setIfInBounds_toArray, List.set_cons_zero, List.set_cons_succ]
      refine wpAnyH_take (i := 24) (oi := ⟨(some 76), _, _, _, _, _⟩) (v := ?vq3_18) rfl (by kernel_rfl) (by kernel_rfl) (by kernel_rfl) (fun _ _ _ h => h) (Or.inl ⟨by rfl, ?yq3_18⟩) hHeld ?_
      case yq3_18 => (intro W0 hSw; go_simp; try with_reducible rfl)
      try simp only [Act.put, List.setIfInBounds_toArray, List.set_cons_zero, List.set_cons_succ]
      refine wpAnyH_take (i := 25) (oi := ⟨(some 77), _, _, _, _, _⟩) (v := ?vq3_19) rfl (by kernel_rfl) (by kernel_rfl) (by kernel_rfl) (fun _ _ _ h => h) (Or.inl ⟨by rfl, ?yq3_19⟩) hHeld ?_
      case yq3_19 => (intro W0 hSw; go_simp; try with_reducible rfl)
      try simp only [Act.put, List.setIfInBounds_toArray, List.set_cons_zero, List.set_cons_succ]
      refine wpAnyH_ready (rs := [26]) (by kernel_rfl) (by simp) ?_
      refine AllReadyH.cons (i := 26) (o := ⟨(some 78), _, _, _, _, _⟩) rfl (fun K hK => ?_) AllReadyH.nil
      go_simp
      refine (end_any z4 _ _ g [] false r4).mono ?_
      rintro e z5 ⟨rfl, rfl⟩
      refine hK.out _ _ (t4) (fun hHeld => ?_)
      clear hK K
      try simp only [Act.put, List.setIfInBounds_toArray, List.set_cons_zero, List.set_cons_succ]
      refine wpAnyH_take (i := 27) (oi := ⟨(some 79), _, _, _, _, _⟩) (v := ?vq3_20) rfl (by kernel_rfl) (by kernel_rfl) (by kernel_rfl) (fun _ _ _ h => h) (Or.inl ⟨by rfl, ?yq3_20⟩) hHeld ?_
      case yq3_20 => (intro W0 hSw; go_simp; try with_reducible rfl)
      try simp only [Act.put, List.setIfInBounds_toArray, List.set_cons_zero, List.set_cons_succ]
      refine wpAnyH_take (i := 28) (oi := ⟨(some 8), _, _, _, _, _⟩) (v := ?vq3_21) rfl (by kernel_rfl) (by kernel_rfl) (by kernel_rfl) (fun _ _ _ h => h) (Or.inl ⟨by rfl, ?yq3_21⟩) hHeld ?_
      case yq3_21 => (intro W0 hSw; go_simp; try with_reducible rfl)
      try simp only [Act.put, List.setIfInBounds_toArray, List.set_cons_zero, List.set_cons_succ]
      refine wpAnyH_done (by kernel_rfl) ?_ _
      have hbz4 := But.below hbz t4 (Nat.le_of_lt hgw) hbz.size
      clear r1 r2 r3 r4 b1 b2 b3 b4 t1 t2 t3 q2 hcv2 hcx q32 hHeld
      go_wp2_with fail
      go_ret
      exact ⟨rfl, hbz4⟩
  · refine step_conv (by rfl) 9 25 5 (.tmp 44) rfl Try.underlying9 Try.underlying25 Try.underlying5 s (by rfl) ?_
    intro B10 f10 x1 y10 _ d1
    have hh1 : Below w5.heap.size w5 x1 := below_next hHeld (Nat.le_refl _) d1
    refine hK.out _ _ (hh1) (fun hHeld => ?_)
    clear hK K
    try simp only [Act.put, List.setIfInBounds_toArray, List.set_cons_zero, List.set_cons_succ]
    refine wpAnyH_ready (rs := [6]) (by kernel_rfl) (by simp) ?_
    refine AllReadyH.cons (i := 6) (o := ⟨(some 41), _, _, _, _, _⟩) rfl (fun K hK => ?_) AllReadyH.nil
    go_simp
    refine (rfnum_any x1 none [] 0 0 p (.inl rfl) rfl (by decide) hp).mono ?_
    rintro e x2 ⟨B6, m6, f6, rfl, q6, d2⟩
    have hh2 : Below w5.heap.size w5 x2 := below_next hHeld hHeld.size d2
    have mm6 : m6 ≤ 9 := by have h := q6.len; simp only [List.length_append, List.length_nil] at h; omega
    have y6 := q6.byt
    have z6 := Lib.hid q6.len
    refine hK.out _ _ (hh2) (fun hHeld => ?_)
    clear hK K
    try simp only [Act.put, List.setIfInBounds_toArray, List.set_cons_zero, List.set_cons_succ]
    refine wpAnyH_ready (rs := [8]) (by kernel_rfl) (by simp) ?_
    refine AllReadyH.cons (i := 8) (o := ⟨(some 43), _, _, _, _, _⟩) rfl (fun K hK => ?_) AllReadyH.nil
    go_simp
    refine (rfbytes_any x2 B6 _ m6 f6 A x n c (y6) z6.out (by omega) (ha5.out.next hHeld) HL.out (by omega)).mono ?_
    rintro e x3 ⟨B8, m8, f8, rfl, q8, d3⟩
    have hh3 : Below w5.heap.size w5 x3 := below_next hHeld hHeld.size d3
    have mm8 : m8 ≤ 218 := by have h := q8.len; simp only [List.length_append, List.length_nil, HL.out] at h; omega
    have y8 := q8.byt
    have z8 := Lib.hid q8.len
    refine hK.out _ _ (hh3) (fun hHeld => ?_)
    clear hK K
    try simp only [Act.put, List.setIfInBounds_toArray, List.set_cons_zero, List.set_cons_succ]
    refine wpAnyH_ready (rs := [11]) (by kernel_rfl) (by simp) ?_
    refine AllReadyH.cons (i := 11) (o := ⟨(some 46), _, _, _, _, _⟩) rfl (fun K hK => ?_) AllReadyH.nil
    go_simp
    refine (rfbytes_any x3 B8 _ m8 f8 B10 s.data.toList s.size f10 (y8) z8.out (by omega) (((y10).next d2).next d3) hsl (by omega)).mono ?_
    rintro e x4 ⟨B11, m11, f11, rfl, q11, d4⟩
    have hh4 : Below w5.heap.size w5 x4 := below_next hHeld hHeld.size d4
    have mm11 : m11 ≤ 427 := by have h := q11.len; simp only [List.length_append, List.length_nil, HL.out, hsl] at h; omega
    have y11 := q11.byt
    have z11 := Lib.hid q11.len
    refine hK.out _ _ (hh4) (fun hHeld => ?_)
    clear hK K
    try simp only [Act.put, List.setIfInBounds_toArray, List.set_cons_zero, List.set_cons_succ]
    refine wpAnyH_ready (rs := [13]) (by kernel_rfl) (by simp) ?_
    refine AllReadyH.cons (i := 13) (o := ⟨(some 48), _, _, _, _, _⟩) rfl (fun K hK => ?_) AllReadyH.nil
    go_simp
    refine (rfword_any x4 B11 _ m11 f11 u HU.out y11 z11.out (by omega)).mono ?_
    rintro e x5 ⟨B13, m13, f13, rfl, q13, d5⟩
    have hh5 : Below w5.heap.size w5 x5 := below_next hHeld hHeld.size d5
    rw [hT.out] at q13
    have hcv := conv_bytes (P := Try.prog) Try.underlying25 Try.underlying5 Try.underlying9 q13.byt m13 f13 q13.len
    refine hK.out _ _ (hh5) (fun hHeld => ?_)
    clear hK K
    try simp only [Act.put, List.setIfInBounds_toArray, List.set_cons_zero, List.set_cons_succ]
    clear q6 q8 q11 y6 y8 y10 y11 z6 z8 z11 mm6 mm8 mm11 d1 d2 d3 d4 d5 hh1 hh2 hh3 hh4
    refine wpAnyH_ready (rs := [14]) (by kernel_rfl) (by simp) ?_
    refine AllReadyH.cons (i := 14) (o := ⟨(some 49), _, _, _, _, _⟩) rfl (fun K hK => ?_) AllReadyH.nil
    go_simp
    refine hK.out _ _ (hh5) (fun hHeld => ?_)
    clear hK K
    try simp only [Act.put, List.setIfInBounds_toArray, List.set_cons_zero, List.set_cons_succ]
    refine wpAnyH_take (i := 15) (oi := ⟨(some 50), _, _, _, _, _⟩) (v := ?vz7_13) rfl (by kernel_rfl) (by kernel_rfl) (by kernel_rfl) (fun _ _ _ h => h) (Or.inl ⟨by rfl, ?yz7_13⟩) hHeld ?_
    case yz7_13 => (intro W0 hSw; go_simp; try with_reducible rfl)
    try simp only [Act.put, List.setIfInBounds_toArray, List.set_cons_zero, List.set_cons_succ]
    refine wpAnyH_take (i := 16) (oi := ⟨(some 51), _, _, _, _, _⟩) (v := ?vz7_14) rfl (by kernel_rfl) (by kernel_rfl) (by kernel_rfl) (fun _ _ _ h => h) (Or.inl ⟨by rfl, ?yz7_14⟩) hHeld ?_
    case yz7_14 => (intro W0 hSw; go_simp; try with_reducible rfl)
    try simp only [Act.put, List.setIfInBounds_toArray, List.set_cons_zero, List.set_cons_succ]
    refine wpAnyH_done (by kernel_rfl) ?_ _
    have hbz := below_next hbw5 hbw5.size hh5
    have hgz := row_next hg5 hh5
    have hsz := (Array.getElem?_eq_some_iff.1 hgz.out).1
    have haz : Hid (Byt x5 w.heap.size A x) := ha.below hbz
    have hrz := hr.next hh5
    have hgz5 := hrz.lt
    have hcx : ∀ W', But g x5 W' → (convert 25 9 (.slice A n c)).run Try.prog W' = .ok (.string ⟨x.toArray⟩) W' := fun W' h => conv_bytes Try.underlying25 Try.underlying5 Try.underlying9 (haz.out.past h (Nat.le_of_lt hgw) hgz5) n c HL.out
    have q32 := fun w0 => eql_bytes_same (P := Try.prog) Try.underlying30 Try.underlying5 Try.sizeByte u HU.out w0
    clear q13 hcv hcb hHeld hh5 hr hg5 hs5 hbw5 hby5
    go_wp2_with fail
    refine wp_region_held_drew (S := (fun W' => But g x5 W')) (by kernel_rfl) ((But.refl _ _).drew) (fun hHeld => ?_)
    refine wpAnyH_take (i := 0) (oi := ⟨(some 52), _, _, _, _, _⟩) (v := ?vq4_0) rfl (by kernel_rfl) (by kernel_rfl) (by kernel_rfl) (fun _ _ _ h => h) (Or.inl ⟨by rfl, ?yq4_0⟩) hHeld ?_
    case yq4_0 => (intro W0 hSw; go_simp; try with_reducible rfl)
    try simp only [Act.put, List.setIfInBounds_toArray, List.set_cons_zero, List.set_cons_succ]
    refine wpAnyH_take (i := 2) (oi := ⟨(some 54), _, _, _, _, _⟩) (v := ?vq4_1) rfl (by kernel_rfl) (by kernel_rfl) (by kernel_rfl) (fun _ _ _ h => h) (Or.inl ⟨by rfl, ?yq4_1⟩) hHeld ?_
    case yq4_1 => (intro W0 hSw; go_simp; try with_reducible rfl)
    try simp only [Act.put, List.setIfInBounds_toArray, List.set_cons_zero, List.set_cons_succ]
    refine wpAnyH_ready (rs := [1]) (by kernel_rfl) (by simp) ?_
    refine AllReadyH.cons (i := 1) (o := ⟨(some 53), _, _, _, _, _⟩) rfl (fun K hK => ?_) AllReadyH.nil
    go_simp
    refine (num_is x5.drew _ _ g T T1 false 9223372036854775807 p k0 hrz.drew F0 K0 (by omega) D0).mono ?_
    rintro e z1 ⟨rfl, r1, b1⟩
    have t1 : But g x5 z1 := hHeld.trans b1
    refine hK.out _ _ (t1) (fun hHeld => ?_)
    clear hK K
    try simp only [Act.put, List.setIfInBounds_toArray, List.set_cons_zero, List.set_cons_succ]
    refine wpAnyH_take (i := 3) (oi := ⟨(some 55), _, _, _, _, _⟩) (v := ?vq4_2) rfl (by kernel_rfl) (by kernel_rfl) (by kernel_rfl) (fun _ _ _ h => h) (Or.inl ⟨by rfl, ?yq4_2⟩) hHeld ?_
    case yq4_2 => (intro W0 hSw; go_simp; try with_reducible rfl)
    try simp only [Act.put, List.setIfInBounds_toArray, List.set_cons_zero, List.set_cons_succ]
    refine wpAnyH_take (i := 4) (oi := ⟨(some 56), _, _, _, _, _⟩) (v := ?vq4_3) rfl (by kernel_rfl) (by kernel_rfl) (by kernel_rfl) (fun _ _ _ h => h) (Or.inl ⟨by rfl, ?yq4_3⟩) hHeld ?_
    case yq4_3 => (intro W0 hSw; go_simp; try with_reducible rfl)
    try simp only [Act.put, List.setIfInBounds_toArray, List.set_cons_zero, List.set_cons_succ]
    refine wpAnyH_take (i := 5) (oi := ⟨(some 57), _, _, _, _, _⟩) (v := ?vq4_4) rfl (by kernel_rfl) (by kernel_rfl) (by kernel_rfl) (fun _ _ _ h => h) (Or.inl ⟨by rfl, ?yq4_4⟩) hHeld ?_
    case yq4_4 => (intro W0 hSw; go_simp; try with_reducible rfl)
    try simp only [Act.put, List.setIfInBounds_toArray, List.set_cons_zero, List.set_cons_succ]
    refine wpAnyH_take (i := 8) (oi := ⟨(some 60), _, _, _, _, _⟩) (v := ?vq4_5) rfl (by kernel_rfl) (by kernel_rfl) (by kernel_rfl) (fun _ _ _ h => h) (Or.inl ⟨by rfl, ?yq4_5⟩) hHeld ?_
    case yq4_5 => (intro W0 hSw; go_simp; try with_reducible rfl)
    try simp only [Act.put, List.setIfInBounds_toArray, List.set_cons_zero, List.set_cons_succ]
    refine wpAnyH_take (i := 9) (oi := ⟨(some 61), _, _, _, _, _⟩) (v := ?vq4_6) rfl (by kernel_rfl) (by kernel_rfl) (by kernel_rfl) (fun _ _ _ h => h) (Or.inl ⟨by rfl, ?yq4_6⟩) hHeld ?_
    case yq4_6 => (intro W0 hSw; go_simp; try with_reducible rfl)
    try simp only [Act.put, List.setIfInBounds_toArray, List.set_cons_zero, List.set_cons_succ]
    refine wpAnyH_ready (rs := [6]) (by kernel_rfl) (by simp) ?_
    refine AllReadyH.cons (i := 6) (o := ⟨(some 58), _, _, _, _, _⟩) rfl (fun K hK => ?_) AllReadyH.nil
    go_simp
    refine (rbytes_is z1 _ _ g T1 false 200 n k1 x T2 r1 F1 K1 (by omega) L1 (by omega) E1 D1).mono ?_
    rintro e z2 ⟨B2, f2, rfl, q2, r2, b2⟩
    have t2 : But g x5 z2 := hHeld.trans b2
    have hcv2 := conv_bytes (P := Try.prog) Try.underlying25 Try.underlying5 Try.underlying9 q2.byt n f2 q2.len
    refine hK.out _ _ (t2) (fun hHeld => ?_)
    clear hK K
    try simp only [Act.put, List.setIfInBounds_toArray, List.set_cons_zero, List.set_cons_succ]
    refine wpAnyH_ready (rs := [7]) (by kernel_rfl) (by simp) ?_
    refine AllReadyH.cons (i := 7) (o := ⟨(some 59), _, _, _, _, _⟩) rfl (fun K hK => ?_) AllReadyH.nil
    go_simp
    refine hK.out _ _ (t2) (fun hHeld => ?_)
    clear hK K
    try simp only [Act.put, List.setIfInBounds_toArray, List.set_cons_zero, List.set_cons_succ]
    refine wpAnyH_take (i := 10) (oi := ⟨(some 62), _, _, _, _, _⟩) (v := ?vq4_7) rfl (by kernel_rfl) (by kernel_rfl) (by kernel_rfl) (fun _ _ _ h => h) (Or.inl ⟨by rfl, ?yq4_7⟩) hHeld ?_
    case yq4_7 => (intro W0 hSw; go_simp; try with_reducible rfl)
    try simp only [Act.put, List.setIfInBounds_toArray, List.set_cons_zero, List.set_cons_succ]
    refine wpAnyH_take (i := 11) (oi := ⟨(some 63), _, _, _, _, _⟩) (v := ?vq4_8) rfl (by kernel_rfl) (by kernel_rfl) (by kernel_rfl) (fun _ _ _ h => h) (Or.inl ⟨by rfl, ?yq4_8⟩) hHeld ?_
    case yq4_8 => (intro W0 hSw; go_simp; try with_reducible rfl)
    try simp only [Act.put, List.setIfInBounds_toArray, List.set_cons_zero, List.set_cons_succ]
    refine wpAnyH_take (i := 12) (oi := ⟨(some 64), _, _, _, _, _⟩) (v := ?vq4_9) rfl (by kernel_rfl) (by kernel_rfl) (by kernel_rfl) (fun _ _ _ h => h) (Or.inl ⟨by rfl, ?yq4_9⟩) hHeld ?_
    case yq4_9 => (intro W0 hSw; go_simp; try with_reducible rfl)
    try simp only [Act.put, List.setIfInBounds_toArray, List.set_cons_zero, List.set_cons_succ]
    refine wpAnyH_take (i := 13) (oi := ⟨(some 65), _, _, _, _, _⟩) (v := ?vq4_10) rfl (by kernel_rfl) (by kernel_rfl) (by kernel_rfl) (fun _ _ _ h => h) (Or.inl ⟨by rfl, ?yq4_10⟩) hHeld ?_
    case yq4_10 => (intro W0 hSw; go_simp; try with_reducible rfl)
    try simp only [Act.put, List.setIfInBounds_toArray, List.set_cons_zero, List.set_cons_succ]
    refine wpAnyH_take (i := 15) (oi := ⟨(some 67), _, _, _, _, _⟩) (v := ?vq4_11) rfl (by kernel_rfl) (by kernel_rfl) (by kernel_rfl) (fun _ _ _ h => h) (Or.inl ⟨by rfl, ?yq4_11⟩) hHeld ?_
    case yq4_11 => (intro W0 hSw; go_simp; try with_reducible rfl)
    try simp only [Act.put, List.setIfInBounds_toArray, List.set_cons_zero, List.set_cons_succ]
    refine wpAnyH_ready (rs := [14]) (by kernel_rfl) (by simp) ?_
    refine AllReadyH.cons (i := 14) (o := ⟨(some 66), _, _, _, _, _⟩) rfl (fun K hK => ?_) AllReadyH.nil
    go_simp
    refine (rtext_is z2 _ _ g T2 false 200 s.size k2 s u r2 F2 K2 (by omega) L2 E2 D2).mono ?_
    rintro e z3 ⟨rfl, r3, b3⟩
    have t3 : But g x5 z3 := hHeld.trans b3
    refine hK.out _ _ (t3) (fun hHeld => ?_)
    clear hK K
    try simp only [Act.put, List.setIfInBounds_toArray, List.set_cons_zero, List.set_cons_succ]
    refine wpAnyH_take (i := 16) (oi := ⟨(some 68), _, _, _, _, _⟩) (v := ?vq4_12) rfl (by kernel_rfl) (by kernel_rfl) (by kernel_rfl) (fun _ _ _ h => h) (Or.inl ⟨by rfl, ?yq4_12⟩) hHeld ?_
    case yq4_12 => (intro W0 hSw; go_simp; try with_reducible rfl)
    try simp only [Act.put, List.setIfInBounds_toArray, List.set_cons_zero, List.set_cons_succ]
    refine wpAnyH_take (i := 17) (oi := ⟨(some 69), _, _, _, _, _⟩) (v := ?vq4_13) rfl (by kernel_rfl) (by kernel_rfl) (by kernel_rfl) (fun _ _ _ h => h) (Or.inl ⟨by rfl, ?yq4_13⟩) hHeld ?_
    case yq4_13 => (intro W0 hSw; go_simp; try with_reducible rfl)
    try simp only [Act.put, List.setIfInBounds_toArray, List.set_cons_zero, List.set_cons_succ]
    refine wpAnyH_take (i := 18) (oi := ⟨(some 70), _, _, _, _, _⟩) (v := ?vq4_14) rfl (by kernel_rfl) (by kernel_rfl) (by kernel_rfl) (fun _ _ _ h => h) (Or.inl ⟨by rfl, ?yq4_14⟩) hHeld ?_
    case yq4_14 => (intro W0 hSw; go_simp; try with_reducible rfl)
    try simp only [Act.put, List.setIfInBounds_toArray, List.set_cons_zero, List.set_cons_succ]
    refine wpAnyH_take (i := 19) (oi := ⟨(some 71), _, _, _, _, _⟩) (v := ?vq4_15) rfl (by kernel_rfl) (by kernel_rfl) (by kernel_rfl) (fun _ _ _ h => h) (Or.inl ⟨by rfl, ?yq4_15⟩) hHeld ?_
    case yq4_15 => (intro W0 hSw; go_simp; try with_reducible rfl)
    try simp only [Act.put, List.setIfInBounds_toArray, List.set_cons_zero, List.set_cons_succ]
    refine wpAnyH_take (i := 21) (oi := ⟨(some 73), _, _, _, _, _⟩) (v := _) rfl (by kernel_rfl) (by kernel_rfl) (by kernel_rfl) (fun _ _ _ h => h) (yieldsIf_load_mid (by rfl) _ _ rfl w.heap.size 0 rfl (bv u) _ (fun W' hW' => range_row ((hW'.block _ hsz (fun e => by injection e; omega)).trans hgz.out)) (Try.underlying30) (rfl) (by rw [bv_len, HU.out]; kernel_rfl)) hHeld ?_
    try simp only [Act.put, List.setIfInBounds_toArray, List.set_cons_zero, List.set_cons_succ]
    refine wpAnyH_ready (rs := [20]) (by kernel_rfl) (by simp) ?_
    refine AllReadyH.cons (i := 20) (o := ⟨(some 72), _, _, _, _, _⟩) rfl (fun K hK => ?_) AllReadyH.nil
    go_simp
    refine (rword_is z3 _ _ g u false r3 HU.out).mono ?_
    rintro e z4 ⟨rfl, r4, b4⟩
    have t4 : But g x5 z4 := hHeld.trans b4
    refine hK.out _ _ (t4) (fun hHeld => ?_)
    clear hK K
    try simp only [Act.put, List.setIfInBounds_toArray, List.set_cons_zero, List.set_cons_succ]
    refine wpAnyH_take (i := 22) (oi := ⟨(some 74), _, _, _, _, _⟩) (v := ?vq4_16) rfl (by kernel_rfl) (by kernel_rfl) (by kernel_rfl) (fun _ _ _ h => h) (Or.inl ⟨by rfl, ?yq4_16⟩) hHeld ?_
    case yq4_16 => (intro W0 hSw; go_simp; try with_reducible rfl)
    try simp only [Act.put, List.setIfInBounds_toArray, List.set_cons_zero, List.set_cons_succ]
    refine wpAnyH_take (i := 23) (oi := ⟨(some 75), _, _, _, _, _⟩) (v := ?vq4_17) rfl (by kernel_rfl) (by kernel_rfl) (by kernel_rfl) (fun _ _ _ h => h) (Or.inl ⟨by rfl, ?yq4_17⟩) hHeld ?_
    case yq4_17 => (intro W0 hSw; go_simp; try with_reducible rfl)
    try simp only [Act.put, List.setIfInBounds_toArray, List.set_cons_zero, List.set_cons_succ]
    refine wpAnyH_take (i := 24) (oi := ⟨(some 76), _, _, _, _, _⟩) (v := ?vq4_18) rfl (by kernel_rfl) (by kernel_rfl) (by kernel_rfl) (fun _ _ _ h => h) (Or.inl ⟨by rfl, ?yq4_18⟩) hHeld ?_
    case yq4_18 => (intro W0 hSw; go_simp; try with_reducible rfl)
    try simp only [Act.put, List.setIfInBounds_toArray, List.set_cons_zero, List.set_cons_succ]
    refine wpAnyH_take (i := 25) (oi := ⟨(some 77), _, _, _, _, _⟩) (v := ?vq4_19) rfl (by kernel_rfl) (by kernel_rfl) (by kernel_rfl) (fun _ _ _ h => h) (Or.inl ⟨by rfl, ?yq4_19⟩) hHeld ?_
    case yq4_19 => (intro W0 hSw; go_simp; try with_reducible rfl)
    try simp only [Act.put, List.setIfInBounds_toArray, List.set_cons_zero, List.set_cons_succ]
    refine wpAnyH_ready (rs := [26]) (by kernel_rfl) (by simp) ?_
    refine AllReadyH.cons (i := 26) (o := ⟨(some 78), _, _, _, _, _⟩) rfl (fun K hK => ?_) AllReadyH.nil
    go_simp
    refine (end_any z4 _ _ g [] false r4).mono ?_
    rintro e z5 ⟨rfl, rfl⟩
    refine hK.out _ _ (t4) (fun hHeld => ?_)
    clear hK K
    try simp only [Act.put, List.setIfInBounds_toArray, List.set_cons_zero, List.set_cons_succ]
    refine wpAnyH_take (i := 27) (oi := ⟨(some 79), _, _, _, _, _⟩) (v := ?vq4_20) rfl (by kernel_rfl) (by kernel_rfl) (by kernel_rfl) (fun _ _ _ h => h) (Or.inl ⟨by rfl, ?yq4_20⟩) hHeld ?_
    case yq4_20 => (intro W0 hSw; go_simp; try with_reducible rfl)
    try simp only [Act.put, List.setIfInBounds_toArray, List.set_cons_zero, List.set_cons_succ]
    refine wpAnyH_take (i := 28) (oi := ⟨(some 8), _, _, _, _, _⟩) (v := ?vq4_21) rfl (by kernel_rfl) (by kernel_rfl) (by kernel_rfl) (fun _ _ _ h => h) (Or.inl ⟨by rfl, ?yq4_21⟩) hHeld ?_
    case yq4_21 => (intro W0 hSw; go_simp; try with_reducible rfl)
    try simp only [Act.put, List.setIfInBounds_toArray, List.set_cons_zero, List.set_cons_succ]
    refine wpAnyH_done (by kernel_rfl) ?_ _
    have hbz4 := But.below hbz t4 (Nat.le_of_lt hgw) hbz.size
    clear r1 r2 r3 r4 b1 b2 b3 b4 t1 t2 t3 q2 hcv2 hcx q32 hHeld
    go_wp2_with fail
    go_ret
    exact ⟨rfl, hbz4⟩
end Go.Proofs.Ytomnjmjgmioiaaa
