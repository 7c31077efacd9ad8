/-
  VecSays: the law's Go text returns true, whatever the numbers, the edit and the bytes. Conditions: the slice is as the row reads it.
-/
import Derived.Test.YtkenldlhkmocjaaVcW
import Derived.Test.YtkenldlhkmocjaaVcE
import Derived.Test.YtkenldlhkmocjaaWiC
import Derived.Test.YtkenldlhkmocjaaReg
import Derived.Test.YtkenldlhkmocjaaRf15M
import Derived.Test.YtkenldlhkmocjaaRf15C
import Derived.Test.YtkenldlhkmocjaaRf15G
namespace Go.Proofs.Ytkenldlhkmocjaa
open Go.RowKit

theorem z8_len : z8.length = 8 := rfl
theorem eql_rvec (l m : List Int) (hl : l.length = 8) (hm : m.length = 8) (o : Bool) (ho : decide (l = m) = o) (w : World) : (binOp .eql 35 (.agg (i64v l).toArray) (.agg (i64v m).toArray)).run Try.prog w = .ok (.bool o) w := by
  rw [eql_ints (P := Try.prog) Try.underlying35 Try.underlying2 Try.sizeI64 l m hl hm, ho]
theorem neq_rvec (l : List Int) (hl : l.length = 8) (w : World) : (binOp .neq 35 (.agg (i64v l).toArray) (.agg (i64v l).toArray)).run Try.prog w = .ok (.bool false) w := by
  rw [neq_ints (P := Try.prog) Try.underlying35 Try.underlying2 Try.sizeI64 l l hl hl]; simp
theorem end_as (w : World) (lo hi g : Nat) (l : List UInt8) (bad o : Bool) (h : RdIs w lo hi g l bad) (ho : (!bad && decide (l.length = 0)) = o) :
    Calls Try.prog 17 #[.pointer (some ⟨g, 0, none⟩)] w fun e w' => e = .returned (.bool o) ∧ w = w' := by
  rw [← ho]; exact end_any w lo hi g l bad h
theorem rrend_as (w : World) (z g : Nat) (A : Option Addr) (n c : Nat) (B : List UInt8) (t : Nat) (bad o : Bool) (h : RrIs w z g A n c B t bad) (ho : (!bad && decide (t = n)) = o) :
    Calls Try.prog 18 #[.pointer (some ⟨g, 0, none⟩)] w fun e w' => e = .returned (.bool o) ∧ Below w.heap.size w w' := by
  rw [← ho]
  refine (rrend_any w z g A n c B t bad h).mono ?_
  rintro e w' ⟨rfl, k, rfl⟩
  exact ⟨rfl, Below.toN (Below.refl _ _) k⟩
/-- Both readers have read the same. -/
theorem both_read {l : List UInt8} {o o2 : List Int} {l' : List UInt8} {b1 b2 : Bool} {t' : Nat} (h1 : vrd (l, false) = (o, l', b1)) (h2 : vrdR l (0, false) = (o2, t', b2)) :
    o = o2 ∧ b1 = b2 ∧ (!b2 && decide (t' = l.length)) = (!b1 && decide (l'.length = 0)) := by
  have h := alike_vrd (B := l) (s := (l, false)) (t := (0, false)) ⟨rfl, Nat.zero_le _, rfl⟩
  rw [h1, h2] at h
  exact ⟨h.1, h.2.1, (alike_end h.2).symm⟩

set_option maxRecDepth 100000 in
set_option maxHeartbeats 8000000 in
theorem walk_VecSays (w : World) (a : List Int) (ha : a.length = 8) (hra : Hid (I64s a)) (b : List Int) (hb : b.length = 8) (_ : Hid (I64s b)) (x y : Int) (_ : -9223372036854775808 ≤ x ∧ x < 9223372036854775808) (_ : -9223372036854775808 ≤ y ∧ y < 9223372036854775808)
    (A : Option Addr) (l : List UInt8) (n c : Nat) (hA : Byt w w.heap.size A l) (hl : l.length = n) (hc : n ≤ c) :
    Calls Try.prog 4 #[.agg (i64v a).toArray, .agg (i64v b).toArray, .agg #[.int .i64 x, .int .i64 y], .slice A n c] w fun e w' => e = .returned (.bool true) ∧ Below w.heap.size w w' := by
  obtain ⟨W, hW, hgA, hgB, hgD, hbW, hsW⟩ := three_new w (i64v a).toArray (i64v b).toArray (i64v [x, y]).toArray 27 27 33
  have HW := Lib.hid (show ((w.alloc (.cells (i64v a).toArray 27)).alloc (.cells (i64v b).toArray 27)).alloc (.cells #[.int .i64 x, .int .i64 y] 33) = W from hW)
  have HA := Lib.hid ha
  have HB := Lib.hid hb
  have HL := Lib.hid hl
  have hzf := zero_rvec
  clear hW ha hb hl hsW
  go_enter Try.func4, Try.ntmps4
  go_upto_region 1 with fail
  rw [HW.out]
  clear HW
  go_wp2_with fail
  refine (awake15_any W).mono ?_
  rintro e V0 ⟨rfl, hb0⟩
  have gA_V0 := row_next2 hgA hb0
  have gB_V0 := row_next2 hgB hb0
  have gD_V0 := row_next2 hgD hb0
  have sA_V0 := row_size gA_V0
  have sB_V0 := row_size gB_V0
  have sD_V0 := row_size gD_V0
  have hb_V0 := below_next hbW hbW.size hb0
  clear hgA hgB hgD hbW hb0
  by_cases h100 : (100 : Int) < (n : Int)
  · go_wp2
    go_ret
    exact ⟨rfl, hb_V0⟩
  have hn : n ≤ 100 := by omega
  go_upto_region 5 with fail
  clear h100
  refine wp_region_held_drew (S := fun W' => Below V0.heap.size V0 W') (by kernel_rfl) ((Below.refl _ _).drew) (fun hHeld => ?_)
  refine wpAnyH_take (i := 0) (oi := ⟨(some 20), _, _, _, _, _⟩) (v := _) rfl (by kernel_rfl) (by kernel_rfl) (by kernel_rfl) (fun _ _ _ h => h) (yieldsIf_load_mid (by rfl) _ _ rfl (w.heap.size) 0 rfl (i64v a) _ (fun W' hW' => range_row ((hW'.block _ sA_V0).trans gA_V0.out)) (Try.underlying27) rfl (by rw [i64v_len, HA.out]; kernel_rfl)) hHeld ?_
  try simp only [pu]
  refine wpAnyH_take (i := 1) (oi := ⟨(some 21), _, _, _, _, _⟩) (v := _) rfl (by kernel_rfl) (by kernel_rfl) (by kernel_rfl) (fun _ _ _ h => h) (yieldsIf_load_mid (by rfl) _ _ rfl (w.heap.size + 1) 0 rfl (i64v b) _ (fun W' hW' => range_row ((hW'.block _ sB_V0).trans gB_V0.out)) (Try.underlying27) rfl (by rw [i64v_len, HB.out]; kernel_rfl)) hHeld ?_
  try simp only [pu]
  refine mix_start (B := V0.heap.size) (al := [⟨2, 9, 35, ((i64v z8)).toArray⟩, ⟨3, 10, 35, ((i64v z8)).toArray⟩]) (fuel := 2) rfl hHeld (hHeld.size) ?_
  clear hHeld
  refine mix_end (by kernel_rfl) (by kernel_rfl) (by simp) (by simp) (fun x hx => by simp only [List.mem_cons, List.not_mem_nil, or_false] at hx; rcases hx with rfl | rfl <;> first | exact makes_new rfl rfl rfl rfl zero_rvec) (fun W x _ h => h.alloc h.size _) (fun D hD W1 hHeld hBX hHo => ?_)
  obtain ⟨G9, G10, rfl⟩ := v_two hD
  have xG9 : Hid (W1.heap[G9]? = some (.cells ((i64v z8)).toArray 35 (0, 0))) := hHo.row (⟨2, 9, 35, ((i64v z8)).toArray⟩, G9) (by simp)
  have lG9 : V0.heap.size ≤ G9 := hHo.new (⟨2, 9, 35, ((i64v z8)).toArray⟩, G9) (by simp)
  have xG10 : Hid (W1.heap[G10]? = some (.cells ((i64v z8)).toArray 35 (0, 0))) := hHo.row (⟨3, 10, 35, ((i64v z8)).toArray⟩, G10) (by simp)
  have lG10 : V0.heap.size ≤ G10 := hHo.new (⟨3, 10, 35, ((i64v z8)).toArray⟩, G10) (by simp)
  have hnd := hHo.nodup
  simp only [List.map_cons, List.map_nil, List.nodup_cons, List.mem_cons, List.not_mem_nil, or_false, not_false_eq_true, List.nodup_nil, and_true] at hnd
  have nG9G10 := hnd
  clear hnd
  clear hHo hBX hD
  simp only [markD, putD, List.foldr_cons, List.foldr_nil, pu, List.setIfInBounds_toArray, List.set_cons_zero, List.set_cons_succ]
  refine wpAnyH_ready (rs := [4]) (by kernel_rfl) (by simp) ?_
  refine AllReadyH.cons (i := 4) (o := ⟨none, _, _, _, _, _⟩) rfl (fun K hK => ?_) AllReadyH.nil
  refine step_row (by rfl) 35 (.tmp 9) (.tmp 20) rfl G9 (i64v a) rfl rfl 35 _ xG9.out (by rw [i64v_len, HA.out]; kernel_rfl) (by rw [List.size_toArray, i64v_len, i64v_len, HA.out, z8_len]) (i64v_one _) ?_
  intro W2 yG9 kG9
  have zG10 := row_but xG10 kG9 (by omega)
  clear xG10
  have xG10 := zG10
  clear zG10
  refine hK.out _ _ (But.below hHeld kG9 lG9 hHeld.size) (fun hHeld => ?_)
  clear hK K kG9 xG9
  have xG9 := yG9
  clear yG9
  try simp only [pu]
  refine wpAnyH_ready (rs := [5]) (by kernel_rfl) (by simp) ?_
  refine AllReadyH.cons (i := 5) (o := ⟨none, _, _, _, _, _⟩) rfl (fun K hK => ?_) AllReadyH.nil
  refine step_row (by rfl) 35 (.tmp 10) (.tmp 21) rfl G10 (i64v b) rfl rfl 35 _ xG10.out (by rw [i64v_len, HB.out]; kernel_rfl) (by rw [List.size_toArray, i64v_len, i64v_len, HB.out, z8_len]) (i64v_one _) ?_
  intro W3 yG10 kG10
  have zG9 := row_but xG9 kG10 (by omega)
  clear xG9
  have xG9 := zG9
  clear zG9
  refine hK.out _ _ (But.below hHeld kG10 lG10 hHeld.size) (fun hHeld => ?_)
  clear hK K kG10 xG10
  have xG10 := yG10
  clear yG10
  try simp only [pu]
  refine wpAnyH_done (by kernel_rfl) ?_ _
  obtain ⟨V1, rV1⟩ : ∃ X, X = W3 := ⟨_, rfl⟩
  subst rV1
  have gA_V1 := row_next2 gA_V0 hHeld
  have sA_V1 := row_size gA_V1
  have gB_V1 := row_next2 gB_V0 hHeld
  have sB_V1 := row_size gB_V1
  have gD_V1 := row_next2 gD_V0 hHeld
  have sD_V1 := row_size gD_V1
  have hb_V1 := below_next hb_V0 hb_V0.size hHeld
  have gn9_V1 := xG9
  have sn9_V1 := row_size gn9_V1
  clear xG9
  have gn10_V1 := xG10
  have sn10_V1 := row_size gn10_V1
  clear xG10
  have wG9 : w.heap.size + 0 ≤ G9 := by omega
  have wG10 : w.heap.size + 0 ≤ G10 := by omega
  clear hHeld hb_V0 sA_V0 sB_V0 sD_V0
  clear gA_V0 gB_V0 gD_V0 lG9 lG10
  have hAV := (hA.below hb_V1).up hb_V1.size
  have hrd := read_any V1 A l n c hAV HL.out (by omega)
  clear hAV
  go_wp2_with fail
  refine hrd.mono ?_
  rintro e V2 ⟨g, rfl, hr2, hb2⟩
  clear hrd
  go_upto_region 7 with fail
  obtain ⟨V3, hV3⟩ : ∃ V, V = V2.alloc (.cells #[.slice A n c, .int .i64 0, .bool false] 38) := ⟨_, rfl⟩
  rw [← hV3]
  have hb3 : Below V2.heap.size V2 V3 := by rw [hV3]; exact (Below.refl _ _).alloc (Nat.le_refl _) _
  have hr3 := hr2.next hb3
  have hb23 := below_next hb2 hb2.size hb3
  have hbw3 := below_next hb_V1 hb_V1.size hb23
  have gh : Hid (V3.heap[V2.heap.size]? = some (.cells #[.slice A n c, .int .i64 0, .bool false] 38 (0, 0))) := by rw [hV3]; exact heap_alloc_new _ _
  have sh := row_size gh
  obtain ⟨h, hh⟩ : ∃ h, h = V2.heap.size := ⟨_, rfl⟩
  have hgh : g < h := by rw [hh]; exact hr2.lt
  have hz1 : V1.heap.size ≤ g := hr2.1.1
  have hzh : V1.heap.size ≤ h := by omega
  have hwz : w.heap.size ≤ V1.heap.size := hb_V1.size
  rw [← hh] at gh sh hr3 ⊢
  have hrr3 : RrIs V3 w.heap.size h A n c l 0 false := by
    refine ⟨⟨sh, hbw3.size⟩, gh.out, ?_⟩
    rcases hA with h0 | ⟨bk, o, hA1, hlt, hcell⟩
    · exact .inl h0
    · exact .inr ⟨bk, o, hA1, by omega, Nat.zero_le _, hlt, fun j x hj => (hbw3.cell (p := ⟨bk, o + j, none⟩) hlt).trans (hcell j x hj)⟩
  have hzV : V1.heap.size ≤ V3.heap.size := hb23.size
  clear hV3 hh hb2 hb3 hr2
  refine wp_region_held_drew (S := fun W' => Below V1.heap.size V3 W') (by kernel_rfl) ((Below.refl _ _).drew) (fun hHeld => ?_)
  refine wpAnyH_take (i := 0) (oi := ⟨(some 27), _, _, _, _, _⟩) (v := ?vyr7_0) rfl (by kernel_rfl) (by kernel_rfl) (by kernel_rfl) (fun _ _ _ h => h) (Or.inl ⟨by rfl, ?yr7_0⟩) hHeld ?_
  case yr7_0 => (intro W0 hSw; go_simp; try with_reducible rfl)
  try simp only [pu]
  refine wpAnyH_take (i := 1) (oi := ⟨(some 28), _, _, _, _, _⟩) (v := .bool false) rfl (by kernel_rfl) (by kernel_rfl) (by kernel_rfl) (fun _ _ _ h => h) (Or.inl ⟨by rfl, ?yr7_1⟩) hHeld ?_
  case yr7_1 => (intro W0 hSw; go_simp; try with_reducible rfl)
  try simp only [pu]
  refine wpAnyH_take (i := 2) (oi := ⟨(some 29), _, _, _, _, _⟩) (v := .bool false) rfl (by kernel_rfl) (by kernel_rfl) (by kernel_rfl) (fun _ _ _ h => h) (Or.inl ⟨by rfl, ?yr7_2⟩) hHeld ?_
  case yr7_2 => (intro W0 hSw; go_simp; try with_reducible rfl)
  try simp only [pu]
  refine wpAnyH_take (i := 3) (oi := ⟨(some 30), _, _, _, _, _⟩) (v := ?vyr7_3) rfl (by kernel_rfl) (by kernel_rfl) (by kernel_rfl) (fun _ _ _ h => h) (Or.inl ⟨by rfl, ?yr7_3⟩) hHeld ?_
  case yr7_3 => (intro W0 hSw; go_simp; try with_reducible rfl)
  try simp only [pu]
  refine wpAnyH_take (i := 5) (oi := ⟨(some 32), _, _, _, _, _⟩) (v := ?vyr7_5) rfl (by kernel_rfl) (by kernel_rfl) (by kernel_rfl) (fun _ _ _ h => h) (Or.inl ⟨by rfl, ?yr7_5⟩) hHeld ?_
  case yr7_5 => (intro W0 hSw; go_simp; try with_reducible rfl)
  try simp only [pu]
  refine wpAnyH_ready (rs := [4]) (by kernel_rfl) (by simp) ?_
  refine AllReadyH.cons (i := 4) (o := ⟨(some 31), _, _, _, _, _⟩) rfl (fun K hK => ?_) AllReadyH.nil
  go_simp
  refine (vget_any V3.drew V1.heap.size h g l false hr3.drew).mono ?_
  rintro e r7W1 ⟨o, l', b1, hv1, hol1, rfl, hrd1, r7h1⟩
  have hrr1 := (show RrIs V3.drew w.heap.size h A n c l 0 false from hrr3).far r7h1 (by omega) (by omega)
  refine hK.out _ _ (But.below hHeld r7h1 hz1 hzV) (fun hHeld => ?_)
  clear hK K r7h1
  try simp only [pu]
  refine wpAnyH_ready (rs := [6]) (by kernel_rfl) (by simp) ?_
  refine AllReadyH.cons (i := 6) (o := ⟨(some 33), _, _, _, _, _⟩) rfl (fun K hK => ?_) AllReadyH.nil
  go_simp
  refine (rvget_any _ w.heap.size h A n c l 0 false hrr1 HL.out (Nat.zero_le _) (by omega)).mono ?_
  rintro e r7W2 ⟨o2, t', b2, hv2, hol2, rfl, hrrW, ht', r7h2⟩
  have hbt2 := r7h2
  have hread := both_read hv1.out hv2.out
  obtain ⟨e1, e2, e3⟩ := hread
  subst e1 e2
  have q7 := neq_rvec _ hol1.out
  obtain ⟨oE, hoE⟩ : ∃ o, o = (!b1 && decide (l'.length = 0)) := ⟨_, rfl⟩
  have hE1 := Lib.hid hoE.symm
  have hE2 := Lib.hid (show (!b1 && decide (t' = n)) = oE by rw [hoE, ← e3, HL.out])
  clear hoE e3 hv1 hv2
  have hrdW := hrd1.far hbt2 (.inr (by omega))
  have cB : r7W2.cell? ⟨h, 2, none⟩ = some (.bool b1) := by rw [cell_of_row _ _ _ _ _ _ hrrW.2.1]; rfl
  refine hK.out _ _ (But.below hHeld hbt2 hzh (Nat.le_trans hzV hHeld.size)) (fun hHeld => ?_)
  clear hK K r7h2
  try simp only [pu]
  have hOld := hHeld
  refine held_more (S' := fun W' => Below r7W2.heap.size r7W2 W') (fun W h => hOld.trans (h.mono (Nat.le_trans hzV hOld.size))) _ _ _ _ ?_
  replace hHeld := Below.refl r7W2.heap.size r7W2
  have shW := hrrW.1.1
  refine wpAnyH_take (i := 7) (oi := ⟨(some 34), _, _, _, _, _⟩) (v := .bool false) rfl (by kernel_rfl) (by kernel_rfl) (by kernel_rfl) (fun _ _ _ h => h) (Or.inl ⟨by rfl, ?yr7_7⟩) hHeld ?_
  case yr7_7 => (intro W0 hSw; go_simp; try simp only [q7]; try with_reducible rfl)
  try simp only [pu]
  refine wpAnyH_take (i := 8) (oi := ⟨(some 35), _, _, _, _, _⟩) (v := .bool false) rfl (by kernel_rfl) (by kernel_rfl) (by kernel_rfl) (fun _ _ _ h => h) (Or.inl ⟨by rfl, ?yr7_8⟩) hHeld ?_
  case yr7_8 => (intro W0 hSw; go_simp; try with_reducible rfl)
  try simp only [pu]
  refine wpAnyH_take (i := 9) (oi := ⟨(some 36), _, _, _, _, _⟩) (v := .bool false) rfl (by kernel_rfl) (by kernel_rfl) (by kernel_rfl) (fun _ _ _ h => h) (Or.inl ⟨by rfl, ?yr7_9⟩) hHeld ?_
  case yr7_9 => (intro W0 hSw; go_simp; try with_reducible rfl)
  try simp only [pu]
  refine wpAnyH_take (i := 10) (oi := ⟨(some 37), _, _, _, _, _⟩) (v := ?vyr7_10) rfl (by kernel_rfl) (by kernel_rfl) (by kernel_rfl) (fun _ _ _ h => h) (Or.inl ⟨by rfl, ?yr7_10⟩) hHeld ?_
  case yr7_10 => (intro W0 hSw; go_simp; try with_reducible rfl)
  try simp only [pu]
  refine wpAnyH_take (i := 12) (oi := ⟨(some 39), _, _, _, _, _⟩) (v := ?vyr7_12) rfl (by kernel_rfl) (by kernel_rfl) (by kernel_rfl) (fun _ _ _ h => h) (Or.inl ⟨by rfl, ?yr7_12⟩) hHeld ?_
  case yr7_12 => (intro W0 hSw; go_simp; try with_reducible rfl)
  try simp only [pu]
  refine wpAnyH_take (i := 13) (oi := ⟨(some 40), _, _, _, _, _⟩) (v := ?vyr7_13) rfl (by kernel_rfl) (by kernel_rfl) (by kernel_rfl) (fun _ _ _ h => h) (Or.inl ⟨by rfl, ?yr7_13⟩) hHeld ?_
  case yr7_13 => (intro W0 hSw; go_simp; try with_reducible rfl)
  try simp only [pu]
  refine wpAnyH_take (i := 14) (oi := ⟨(some 41), _, _, _, _, _⟩) (v := ?vyr7_14) rfl (by kernel_rfl) (by kernel_rfl) (by kernel_rfl) (fun _ _ _ h => h) (Or.inl ⟨by rfl, ?yr7_14⟩) hHeld ?_
  case yr7_14 => (intro W0 hSw; go_simp; try with_reducible rfl)
  try simp only [pu]
  refine wpAnyH_take (i := 15) (oi := ⟨(some 42), _, _, _, _, _⟩) (v := .bool b1) rfl (by kernel_rfl) (by kernel_rfl) (by kernel_rfl) (fun _ _ _ h => h) (Or.inl ⟨by rfl, ?yr7_15⟩) hHeld ?_
  case yr7_15 => (intro W0 hSw; have cc := (hSw.cell (p := ⟨h, 2, none⟩) shW).trans cB; go_simp; try with_reducible rfl)
  try simp only [pu]
  refine wpAnyH_ready (rs := [11]) (by kernel_rfl) (by simp) ?_
  refine AllReadyH.cons (i := 11) (o := ⟨(some 38), _, _, _, _, _⟩) rfl (fun K hK => ?_) AllReadyH.nil
  go_simp
  refine (bad_any _ _ _ g _ _ (hrdW.next hHeld)).mono ?_
  rintro e r7W3 ⟨rfl, r7h3⟩
  refine hK.out _ _ (r7h3 ▸ hHeld) (fun hHeld => ?_)
  clear hK K r7h3
  try simp only [pu]
  refine wpAnyH_take (i := 16) (oi := ⟨(some 43), _, _, _, _, _⟩) (v := .bool false) rfl (by kernel_rfl) (by kernel_rfl) (by kernel_rfl) (fun _ _ _ h => h) (Or.inl ⟨by rfl, ?yr7_16⟩) hHeld ?_
  case yr7_16 => (intro W0 hSw; go_simp; try simp; try with_reducible rfl)
  try simp only [pu]
  refine wpAnyH_take (i := 17) (oi := ⟨(some 44), _, _, _, _, _⟩) (v := .bool false) rfl (by kernel_rfl) (by kernel_rfl) (by kernel_rfl) (fun _ _ _ h => h) (Or.inl ⟨by rfl, ?yr7_17⟩) hHeld ?_
  case yr7_17 => (intro W0 hSw; go_simp; try with_reducible rfl)
  try simp only [pu]
  refine wpAnyH_take (i := 18) (oi := ⟨(some 45), _, _, _, _, _⟩) (v := .bool false) rfl (by kernel_rfl) (by kernel_rfl) (by kernel_rfl) (fun _ _ _ h => h) (Or.inl ⟨by rfl, ?yr7_18⟩) hHeld ?_
  case yr7_18 => (intro W0 hSw; go_simp; try with_reducible rfl)
  try simp only [pu]
  refine wpAnyH_take (i := 19) (oi := ⟨(some 46), _, _, _, _, _⟩) (v := ?vyr7_19) rfl (by kernel_rfl) (by kernel_rfl) (by kernel_rfl) (fun _ _ _ h => h) (Or.inl ⟨by rfl, ?yr7_19⟩) hHeld ?_
  case yr7_19 => (intro W0 hSw; go_simp; try with_reducible rfl)
  try simp only [pu]
  refine wpAnyH_take (i := 21) (oi := ⟨(some 48), _, _, _, _, _⟩) (v := ?vyr7_21) rfl (by kernel_rfl) (by kernel_rfl) (by kernel_rfl) (fun _ _ _ h => h) (Or.inl ⟨by rfl, ?yr7_21⟩) hHeld ?_
  case yr7_21 => (intro W0 hSw; go_simp; try with_reducible rfl)
  try simp only [pu]
  refine wpAnyH_ready (rs := [20]) (by kernel_rfl) (by simp) ?_
  refine AllReadyH.cons (i := 20) (o := ⟨(some 47), _, _, _, _, _⟩) rfl (fun K hK => ?_) AllReadyH.nil
  go_simp
  refine (end_as _ _ _ g _ _ oE (hrdW.next hHeld) hE1.out).mono ?_
  rintro e r7W4 ⟨rfl, r7h4⟩
  refine hK.out _ _ (r7h4 ▸ hHeld) (fun hHeld => ?_)
  clear hK K r7h4
  try simp only [pu]
  refine wpAnyH_ready (rs := [22]) (by kernel_rfl) (by simp) ?_
  refine AllReadyH.cons (i := 22) (o := ⟨(some 49), _, _, _, _, _⟩) rfl (fun K hK => ?_) AllReadyH.nil
  go_simp
  refine (rrend_as _ _ h _ _ _ _ _ _ oE (hrrW.next hHeld) hE2.out).mono ?_
  rintro e r7W5 ⟨rfl, r7h5⟩
  refine hK.out _ _ (below_next hHeld hHeld.size r7h5) (fun hHeld => ?_)
  clear hK K r7h5
  try simp only [pu]
  refine wpAnyH_take (i := 23) (oi := ⟨(some 50), _, _, _, _, _⟩) (v := .bool false) rfl (by kernel_rfl) (by kernel_rfl) (by kernel_rfl) (fun _ _ _ h => h) (Or.inl ⟨by rfl, ?yr7_23⟩) hHeld ?_
  case yr7_23 => (intro W0 hSw; go_simp; try simp; try with_reducible rfl)
  try simp only [pu]
  refine wpAnyH_take (i := 24) (oi := ⟨(some 51), _, _, _, _, _⟩) (v := .bool false) rfl (by kernel_rfl) (by kernel_rfl) (by kernel_rfl) (fun _ _ _ h => h) (Or.inl ⟨by rfl, ?yr7_24⟩) hHeld ?_
  case yr7_24 => (intro W0 hSw; go_simp; try with_reducible rfl)
  try simp only [pu]
  refine wpAnyH_done (by kernel_rfl) ?_ _
  obtain ⟨V4, hV4⟩ : ∃ X, X = r7W5 := ⟨_, rfl⟩
  subst hV4
  have hb14 : Below V1.heap.size V1 V4 := hb23.trans (hOld.trans (hHeld.mono (Nat.le_trans hzV hOld.size)))
  have g4A := row_next2 gA_V1 hb14
  have g4B := row_next2 gB_V1 hb14
  have g4D := row_next2 gD_V1 hb14
  have g49 := row_next2 gn9_V1 hb14
  have g410 := row_next2 gn10_V1 hb14
  have hbw4 := below_next hb_V1 hb_V1.size hb14
  have hA4 := (hA.below hbw4).up hbw4.size
  clear hHeld hb23 hOld hb14 gA_V1 gB_V1 gD_V1 gn9_V1 gn10_V1 sA_V1 sB_V1 sD_V1 sn9_V1 sn10_V1 hb_V1 hr3 hrr3 hrdW hrrW hbt2 hE1 hE2 q7 cB hrr1 hrd1 gh sh hgh hz1 hzh hwz hzV hbw3 wG9 wG10 shW
  go_wp2_with (with_reducible refine wpList_load_row rfl 35 (.tmp 9) rfl G9 rfl 35 (i64v a).toArray (0, 0) _ (g49).out Try.underlying35 rfl (by rw [int8_size HA.out]; kernel_rfl) ?_)
  refine (rvgood_any V4 a HA.out).mono ?_
  rintro e V ⟨rfl, hb5⟩
  have gA := row_next2 g4A hb5
  have gB := row_next2 g4B hb5
  have gD := row_next2 g4D hb5
  have g9 := row_next2 g49 hb5
  have g10 := row_next2 g410 hb5
  have sA := row_size gA
  have sB := row_size gB
  have sD := row_size gD
  have s9 := row_size g9
  have s10 := row_size g10
  have hbV := below_next hbw4 hbw4.size hb5
  have hAV := hA4.next hb5
  clear hb5 g4A g4B g4D g49 g410 hbw4 hA4
  obtain ⟨gd, hgd⟩ : ∃ o, o = vgood a := ⟨_, rfl⟩
  obtain ⟨o1, ho1⟩ : ∃ o, o = vhas a x y := ⟨_, rfl⟩
  obtain ⟨m, hm⟩ : ∃ o, o = vmx a b := ⟨_, rfl⟩
  obtain ⟨o2, ho2⟩ : ∃ o, o = vle a b := ⟨_, rfl⟩
  obtain ⟨k, hk⟩ : ∃ o, o = vcmp a b := ⟨_, rfl⟩
  obtain ⟨T, hT⟩ : ∃ o, o = l ++ vput a := ⟨_, rfl⟩
  have HML := Lib.hid (show m.length = 8 by rw [hm]; exact vmx_len HA.out HB.out)
  have d1 := fun w => vgood_any w a HA.out
  have d2 := fun w => rvgood_any w a HA.out
  have d3 := fun w => vhas_any w a HA.out x y
  have d4 := fun w => rvhas_any w a HA.out x y
  have d5 := fun w => vmerge_any w a b HA.out HB.out
  have d6 := fun w => rvmerge_any w a b HA.out HB.out
  have d7 := fun w => vle_any w a b HA.out HB.out
  have d8 := fun w => rvle_any w a b HA.out HB.out
  have d9 := fun w => vcmp_any w a b HA.out HB.out
  have d10 := fun w => rvcmp_any w a b HA.out HB.out
  have d11 := fun w => vsum_any w a HA.out
  have d12 := fun w h => vput_any w A l n c a h HL.out hc (by omega) HA.out hra
  have d13 := fun w h => rvput_any w A l n c a h HL.out (by omega) HA.out hra
  have HG := vlt hgd
  simp only [← hgd] at d1 d2
  rw [← hgd]
  simp only [← ho1] at d3 d4
  simp only [← hm] at d5 d6
  simp only [← ho2] at d7 d8
  simp only [← hk] at d9 d10
  simp only [← hT] at d12 d13
  have q1 := eql_rvec m m HML.out HML.out true (by simp)
  clear hgd ho1 ho2 hm hk hT hA
  cases gd
  · have hs := vsum_no HG.out.symm
    simp only [hs] at d11
    clear HG hs
    go_upto_region 16 with fail
    refine wp_region_held_drew (S := fun W' => Below V.heap.size V W') (by kernel_rfl) ((Below.refl _ _).drew) (fun hHeld => ?_)
    refine wpAnyH_take (i := 0) (oi := ⟨(some 63), _, _, _, _, _⟩) (v := .agg (i64v a).toArray) rfl (by kernel_rfl) (by kernel_rfl) (by kernel_rfl) (fun _ _ _ h => h) (yieldsIf_load_mid (by rfl) _ _ rfl w.heap.size 0 rfl (i64v a) _ (fun W' hW' => range_row ((hW'.block _ sA).trans gA.out)) (Try.underlying27) rfl (by rw [i64v_len, HA.out]; kernel_rfl)) hHeld ?_
    try simp only [pu]
    refine wpAnyH_take (i := 2) (oi := ⟨(some 65), _, _, _, _, _⟩) (v := .agg (i64v a).toArray) rfl (by kernel_rfl) (by kernel_rfl) (by kernel_rfl) (fun _ _ _ h => h) (yieldsIf_load_mid (by rfl) _ _ rfl G9 0 rfl (i64v a) _ (fun W' hW' => range_row ((hW'.block _ s9).trans g9.out)) (Try.underlying35) rfl (by rw [i64v_len, HA.out]; kernel_rfl)) hHeld ?_
    try simp only [pu]
    refine wpAnyH_ready (rs := [1]) (by kernel_rfl) (by simp) ?_
    refine AllReadyH.cons (i := 1) (o := ⟨(some 64), _, _, _, _, _⟩) rfl (fun K hK => ?_) AllReadyH.nil
    go_simp
    refine (d1 _).mono ?_
    rintro e r16W1 ⟨rfl, r16h1⟩
    refine hK.out _ _ (below_next hHeld hHeld.size r16h1) (fun hHeld => ?_)
    clear hK K r16h1
    try simp only [pu]
    refine wpAnyH_ready (rs := [3]) (by kernel_rfl) (by simp) ?_
    refine AllReadyH.cons (i := 3) (o := ⟨(some 66), _, _, _, _, _⟩) rfl (fun K hK => ?_) AllReadyH.nil
    go_simp
    refine (d2 _).mono ?_
    rintro e r16W2 ⟨rfl, r16h2⟩
    refine hK.out _ _ (below_next hHeld hHeld.size r16h2) (fun hHeld => ?_)
    clear hK K r16h2
    try simp only [pu]
    refine wpAnyH_take (i := 4) (oi := ⟨(some 67), _, _, _, _, _⟩) (v := .bool true) rfl (by kernel_rfl) (by kernel_rfl) (by kernel_rfl) (fun _ _ _ h => h) (Or.inl ⟨by rfl, ?yr16_4⟩) hHeld ?_
    case yr16_4 => (intro W0 hSw; go_simp; try simp; try with_reducible rfl)
    try simp only [pu]
    refine wpAnyH_take (i := 5) (oi := ⟨(some 68), _, _, _, _, _⟩) (v := .bool true) rfl (by kernel_rfl) (by kernel_rfl) (by kernel_rfl) (fun _ _ _ h => h) (Or.inl ⟨by rfl, ?yr16_5⟩) hHeld ?_
    case yr16_5 => (intro W0 hSw; go_simp; try with_reducible rfl)
    try simp only [pu]
    refine wpAnyH_take (i := 6) (oi := ⟨(some 69), _, _, _, _, _⟩) (v := .agg (i64v a).toArray) rfl (by kernel_rfl) (by kernel_rfl) (by kernel_rfl) (fun _ _ _ h => h) (yieldsIf_load_mid (by rfl) _ _ rfl w.heap.size 0 rfl (i64v a) _ (fun W' hW' => range_row ((hW'.block _ sA).trans gA.out)) (Try.underlying27) rfl (by rw [i64v_len, HA.out]; kernel_rfl)) hHeld ?_
    try simp only [pu]
    refine wpAnyH_take (i := 7) (oi := ⟨(some 70), _, _, _, _, _⟩) (v := .agg (i64v [x, y]).toArray) rfl (by kernel_rfl) (by kernel_rfl) (by kernel_rfl) (fun _ _ _ h => h) (yieldsIf_load_mid (by rfl) _ _ rfl (w.heap.size + 2) 0 rfl (i64v [x, y]) _ (fun W' hW' => range_row ((hW'.block _ sD).trans gD.out)) (Try.underlying33) rfl (by kernel_rfl)) hHeld ?_
    try simp only [pu]
    refine wpAnyH_take (i := 9) (oi := ⟨(some 72), _, _, _, _, _⟩) (v := .agg (i64v a).toArray) rfl (by kernel_rfl) (by kernel_rfl) (by kernel_rfl) (fun _ _ _ h => h) (yieldsIf_load_mid (by rfl) _ _ rfl G9 0 rfl (i64v a) _ (fun W' hW' => range_row ((hW'.block _ s9).trans g9.out)) (Try.underlying35) rfl (by rw [i64v_len, HA.out]; kernel_rfl)) hHeld ?_
    try simp only [pu]
    refine wpAnyH_take (i := 10) (oi := ⟨(some 73), _, _, _, _, _⟩) (v := .agg (i64v [x, y]).toArray) rfl (by kernel_rfl) (by kernel_rfl) (by kernel_rfl) (fun _ _ _ h => h) (yieldsIf_load_mid (by rfl) _ _ rfl (w.heap.size + 2) 0 rfl (i64v [x, y]) _ (fun W' hW' => range_row ((hW'.block _ sD).trans gD.out)) (Try.underlying33) rfl (by kernel_rfl)) hHeld ?_
    try simp only [pu]
    refine wpAnyH_ready (rs := [8]) (by kernel_rfl) (by simp) ?_
    refine AllReadyH.cons (i := 8) (o := ⟨(some 71), _, _, _, _, _⟩) rfl (fun K hK => ?_) AllReadyH.nil
    go_simp
    refine (d3 _).mono ?_
    rintro e r16W3 ⟨rfl, r16h3⟩
    refine hK.out _ _ (below_next hHeld hHeld.size r16h3) (fun hHeld => ?_)
    clear hK K r16h3
    try simp only [pu]
    refine wpAnyH_ready (rs := [11]) (by kernel_rfl) (by simp) ?_
    refine AllReadyH.cons (i := 11) (o := ⟨(some 74), _, _, _, _, _⟩) rfl (fun K hK => ?_) AllReadyH.nil
    go_simp
    refine (d4 _).mono ?_
    rintro e r16W4 ⟨rfl, r16h4⟩
    refine hK.out _ _ (below_next hHeld hHeld.size r16h4) (fun hHeld => ?_)
    clear hK K r16h4
    try simp only [pu]
    refine wpAnyH_take (i := 12) (oi := ⟨(some 75), _, _, _, _, _⟩) (v := .bool true) rfl (by kernel_rfl) (by kernel_rfl) (by kernel_rfl) (fun _ _ _ h => h) (Or.inl ⟨by rfl, ?yr16_12⟩) hHeld ?_
    case yr16_12 => (intro W0 hSw; go_simp; try simp; try with_reducible rfl)
    try simp only [pu]
    refine wpAnyH_take (i := 13) (oi := ⟨(some 76), _, _, _, _, _⟩) (v := .bool true) rfl (by kernel_rfl) (by kernel_rfl) (by kernel_rfl) (fun _ _ _ h => h) (Or.inl ⟨by rfl, ?yr16_13⟩) hHeld ?_
    case yr16_13 => (intro W0 hSw; go_simp; try with_reducible rfl)
    try simp only [pu]
    refine wpAnyH_take (i := 14) (oi := ⟨(some 77), _, _, _, _, _⟩) (v := .bool true) rfl (by kernel_rfl) (by kernel_rfl) (by kernel_rfl) (fun _ _ _ h => h) (Or.inl ⟨by rfl, ?yr16_14⟩) hHeld ?_
    case yr16_14 => (intro W0 hSw; go_simp; try with_reducible rfl)
    try simp only [pu]
    refine wpAnyH_take (i := 15) (oi := ⟨(some 78), _, _, _, _, _⟩) (v := .agg (i64v a).toArray) rfl (by kernel_rfl) (by kernel_rfl) (by kernel_rfl) (fun _ _ _ h => h) (yieldsIf_load_mid (by rfl) _ _ rfl w.heap.size 0 rfl (i64v a) _ (fun W' hW' => range_row ((hW'.block _ sA).trans gA.out)) (Try.underlying27) rfl (by rw [i64v_len, HA.out]; kernel_rfl)) hHeld ?_
    try simp only [pu]
    refine wpAnyH_take (i := 16) (oi := ⟨(some 79), _, _, _, _, _⟩) (v := .agg (i64v b).toArray) rfl (by kernel_rfl) (by kernel_rfl) (by kernel_rfl) (fun _ _ _ h => h) (yieldsIf_load_mid (by rfl) _ _ rfl (w.heap.size + 1) 0 rfl (i64v b) _ (fun W' hW' => range_row ((hW'.block _ sB).trans gB.out)) (Try.underlying27) rfl (by rw [i64v_len, HB.out]; kernel_rfl)) hHeld ?_
    try simp only [pu]
    refine wpAnyH_take (i := 18) (oi := ⟨(some 81), _, _, _, _, _⟩) (v := .agg (i64v a).toArray) rfl (by kernel_rfl) (by kernel_rfl) (by kernel_rfl) (fun _ _ _ h => h) (yieldsIf_load_mid (by rfl) _ _ rfl G9 0 rfl (i64v a) _ (fun W' hW' => range_row ((hW'.block _ s9).trans g9.out)) (Try.underlying35) rfl (by rw [i64v_len, HA.out]; kernel_rfl)) hHeld ?_
    try simp only [pu]
    refine wpAnyH_take (i := 19) (oi := ⟨(some 82), _, _, _, _, _⟩) (v := .agg (i64v b).toArray) rfl (by kernel_rfl) (by kernel_rfl) (by kernel_rfl) (fun _ _ _ h => h) (yieldsIf_load_mid (by rfl) _ _ rfl G10 0 rfl (i64v b) _ (fun W' hW' => range_row ((hW'.block _ s10).trans g10.out)) (Try.underlying35) rfl (by rw [i64v_len, HB.out]; kernel_rfl)) hHeld ?_
    try simp only [pu]
    refine wpAnyH_ready (rs := [17]) (by kernel_rfl) (by simp) ?_
    refine AllReadyH.cons (i := 17) (o := ⟨(some 80), _, _, _, _, _⟩) rfl (fun K hK => ?_) AllReadyH.nil
    go_simp
    refine (d5 _).mono ?_
    rintro e r16W5 ⟨rfl, r16h5⟩
    refine hK.out _ _ (below_next hHeld hHeld.size r16h5) (fun hHeld => ?_)
    clear hK K r16h5
    try simp only [pu]
    refine wpAnyH_ready (rs := [20]) (by kernel_rfl) (by simp) ?_
    refine AllReadyH.cons (i := 20) (o := ⟨(some 83), _, _, _, _, _⟩) rfl (fun K hK => ?_) AllReadyH.nil
    go_simp
    refine (d6 _).mono ?_
    rintro e r16W6 ⟨rfl, r16h6⟩
    refine hK.out _ _ (below_next hHeld hHeld.size r16h6) (fun hHeld => ?_)
    clear hK K r16h6
    try simp only [pu]
    refine wpAnyH_take (i := 21) (oi := ⟨(some 84), _, _, _, _, _⟩) (v := .bool true) rfl (by kernel_rfl) (by kernel_rfl) (by kernel_rfl) (fun _ _ _ h => h) (Or.inl ⟨by rfl, ?yr16_21⟩) hHeld ?_
    case yr16_21 => (intro W0 hSw; go_simp; try simp only [q1]; try with_reducible rfl)
    try simp only [pu]
    refine wpAnyH_take (i := 22) (oi := ⟨(some 85), _, _, _, _, _⟩) (v := .bool true) rfl (by kernel_rfl) (by kernel_rfl) (by kernel_rfl) (fun _ _ _ h => h) (Or.inl ⟨by rfl, ?yr16_22⟩) hHeld ?_
    case yr16_22 => (intro W0 hSw; go_simp; try with_reducible rfl)
    try simp only [pu]
    refine wpAnyH_take (i := 23) (oi := ⟨(some 86), _, _, _, _, _⟩) (v := .bool true) rfl (by kernel_rfl) (by kernel_rfl) (by kernel_rfl) (fun _ _ _ h => h) (Or.inl ⟨by rfl, ?yr16_23⟩) hHeld ?_
    case yr16_23 => (intro W0 hSw; go_simp; try with_reducible rfl)
    try simp only [pu]
    refine wpAnyH_take (i := 24) (oi := ⟨(some 87), _, _, _, _, _⟩) (v := .agg (i64v a).toArray) rfl (by kernel_rfl) (by kernel_rfl) (by kernel_rfl) (fun _ _ _ h => h) (yieldsIf_load_mid (by rfl) _ _ rfl w.heap.size 0 rfl (i64v a) _ (fun W' hW' => range_row ((hW'.block _ sA).trans gA.out)) (Try.underlying27) rfl (by rw [i64v_len, HA.out]; kernel_rfl)) hHeld ?_
    try simp only [pu]
    refine wpAnyH_take (i := 25) (oi := ⟨(some 88), _, _, _, _, _⟩) (v := .agg (i64v b).toArray) rfl (by kernel_rfl) (by kernel_rfl) (by kernel_rfl) (fun _ _ _ h => h) (yieldsIf_load_mid (by rfl) _ _ rfl (w.heap.size + 1) 0 rfl (i64v b) _ (fun W' hW' => range_row ((hW'.block _ sB).trans gB.out)) (Try.underlying27) rfl (by rw [i64v_len, HB.out]; kernel_rfl)) hHeld ?_
    try simp only [pu]
    refine wpAnyH_take (i := 27) (oi := ⟨(some 90), _, _, _, _, _⟩) (v := .agg (i64v a).toArray) rfl (by kernel_rfl) (by kernel_rfl) (by kernel_rfl) (fun _ _ _ h => h) (yieldsIf_load_mid (by rfl) _ _ rfl G9 0 rfl (i64v a) _ (fun W' hW' => range_row ((hW'.block _ s9).trans g9.out)) (Try.underlying35) rfl (by rw [i64v_len, HA.out]; kernel_rfl)) hHeld ?_
    try simp only [pu]
    refine wpAnyH_take (i := 28) (oi := ⟨(some 91), _, _, _, _, _⟩) (v := .agg (i64v b).toArray) rfl (by kernel_rfl) (by kernel_rfl) (by kernel_rfl) (fun _ _ _ h => h) (yieldsIf_load_mid (by rfl) _ _ rfl G10 0 rfl (i64v b) _ (fun W' hW' => range_row ((hW'.block _ s10).trans g10.out)) (Try.underlying35) rfl (by rw [i64v_len, HB.out]; kernel_rfl)) hHeld ?_
    try simp only [pu]
    refine wpAnyH_ready (rs := [26]) (by kernel_rfl) (by simp) ?_
    refine AllReadyH.cons (i := 26) (o := ⟨(some 89), _, _, _, _, _⟩) rfl (fun K hK => ?_) AllReadyH.nil
    go_simp
    refine (d7 _).mono ?_
    rintro e r16W7 ⟨rfl, r16h7⟩
    refine hK.out _ _ (below_next hHeld hHeld.size r16h7) (fun hHeld => ?_)
    clear hK K r16h7
    try simp only [pu]
    refine wpAnyH_ready (rs := [29]) (by kernel_rfl) (by simp) ?_
    refine AllReadyH.cons (i := 29) (o := ⟨(some 92), _, _, _, _, _⟩) rfl (fun K hK => ?_) AllReadyH.nil
    go_simp
    refine (d8 _).mono ?_
    rintro e r16W8 ⟨rfl, r16h8⟩
    refine hK.out _ _ (below_next hHeld hHeld.size r16h8) (fun hHeld => ?_)
    clear hK K r16h8
    try simp only [pu]
    refine wpAnyH_take (i := 30) (oi := ⟨(some 93), _, _, _, _, _⟩) (v := .bool true) rfl (by kernel_rfl) (by kernel_rfl) (by kernel_rfl) (fun _ _ _ h => h) (Or.inl ⟨by rfl, ?yr16_30⟩) hHeld ?_
    case yr16_30 => (intro W0 hSw; go_simp; try simp; try with_reducible rfl)
    try simp only [pu]
    refine wpAnyH_take (i := 31) (oi := ⟨(some 94), _, _, _, _, _⟩) (v := .bool true) rfl (by kernel_rfl) (by kernel_rfl) (by kernel_rfl) (fun _ _ _ h => h) (Or.inl ⟨by rfl, ?yr16_31⟩) hHeld ?_
    case yr16_31 => (intro W0 hSw; go_simp; try with_reducible rfl)
    try simp only [pu]
    refine wpAnyH_take (i := 32) (oi := ⟨(some 95), _, _, _, _, _⟩) (v := .bool true) rfl (by kernel_rfl) (by kernel_rfl) (by kernel_rfl) (fun _ _ _ h => h) (Or.inl ⟨by rfl, ?yr16_32⟩) hHeld ?_
    case yr16_32 => (intro W0 hSw; go_simp; try with_reducible rfl)
    try simp only [pu]
    refine wpAnyH_take (i := 33) (oi := ⟨(some 96), _, _, _, _, _⟩) (v := .agg (i64v a).toArray) rfl (by kernel_rfl) (by kernel_rfl) (by kernel_rfl) (fun _ _ _ h => h) (yieldsIf_load_mid (by rfl) _ _ rfl w.heap.size 0 rfl (i64v a) _ (fun W' hW' => range_row ((hW'.block _ sA).trans gA.out)) (Try.underlying27) rfl (by rw [i64v_len, HA.out]; kernel_rfl)) hHeld ?_
    try simp only [pu]
    refine wpAnyH_take (i := 34) (oi := ⟨(some 97), _, _, _, _, _⟩) (v := .agg (i64v b).toArray) rfl (by kernel_rfl) (by kernel_rfl) (by kernel_rfl) (fun _ _ _ h => h) (yieldsIf_load_mid (by rfl) _ _ rfl (w.heap.size + 1) 0 rfl (i64v b) _ (fun W' hW' => range_row ((hW'.block _ sB).trans gB.out)) (Try.underlying27) rfl (by rw [i64v_len, HB.out]; kernel_rfl)) hHeld ?_
    try simp only [pu]
    refine wpAnyH_take (i := 36) (oi := ⟨(some 99), _, _, _, _, _⟩) (v := .agg (i64v a).toArray) rfl (by kernel_rfl) (by kernel_rfl) (by kernel_rfl) (fun _ _ _ h => h) (yieldsIf_load_mid (by rfl) _ _ rfl G9 0 rfl (i64v a) _ (fun W' hW' => range_row ((hW'.block _ s9).trans g9.out)) (Try.underlying35) rfl (by rw [i64v_len, HA.out]; kernel_rfl)) hHeld ?_
    try simp only [pu]
    refine wpAnyH_take (i := 37) (oi := ⟨(some 100), _, _, _, _, _⟩) (v := .agg (i64v b).toArray) rfl (by kernel_rfl) (by kernel_rfl) (by kernel_rfl) (fun _ _ _ h => h) (yieldsIf_load_mid (by rfl) _ _ rfl G10 0 rfl (i64v b) _ (fun W' hW' => range_row ((hW'.block _ s10).trans g10.out)) (Try.underlying35) rfl (by rw [i64v_len, HB.out]; kernel_rfl)) hHeld ?_
    try simp only [pu]
    refine wpAnyH_ready (rs := [35]) (by kernel_rfl) (by simp) ?_
    refine AllReadyH.cons (i := 35) (o := ⟨(some 98), _, _, _, _, _⟩) rfl (fun K hK => ?_) AllReadyH.nil
    go_simp
    refine (d9 _).mono ?_
    rintro e r16W9 ⟨rfl, r16h9⟩
    refine hK.out _ _ (below_next hHeld hHeld.size r16h9) (fun hHeld => ?_)
    clear hK K r16h9
    try simp only [pu]
    refine wpAnyH_ready (rs := [38]) (by kernel_rfl) (by simp) ?_
    refine AllReadyH.cons (i := 38) (o := ⟨(some 101), _, _, _, _, _⟩) rfl (fun K hK => ?_) AllReadyH.nil
    go_simp
    refine (d10 _).mono ?_
    rintro e r16W10 ⟨rfl, r16h10⟩
    refine hK.out _ _ (below_next hHeld hHeld.size r16h10) (fun hHeld => ?_)
    clear hK K r16h10
    try simp only [pu]
    refine wpAnyH_take (i := 39) (oi := ⟨(some 102), _, _, _, _, _⟩) (v := .bool true) rfl (by kernel_rfl) (by kernel_rfl) (by kernel_rfl) (fun _ _ _ h => h) (Or.inl ⟨by rfl, ?yr16_39⟩) hHeld ?_
    case yr16_39 => (intro W0 hSw; go_simp; try simp; try with_reducible rfl)
    try simp only [pu]
    refine wpAnyH_take (i := 40) (oi := ⟨(some 103), _, _, _, _, _⟩) (v := .bool true) rfl (by kernel_rfl) (by kernel_rfl) (by kernel_rfl) (fun _ _ _ h => h) (Or.inl ⟨by rfl, ?yr16_40⟩) hHeld ?_
    case yr16_40 => (intro W0 hSw; go_simp; try with_reducible rfl)
    try simp only [pu]
    refine wpAnyH_take (i := 41) (oi := ⟨(some 104), _, _, _, _, _⟩) (v := .bool true) rfl (by kernel_rfl) (by kernel_rfl) (by kernel_rfl) (fun _ _ _ h => h) (Or.inl ⟨by rfl, ?yr16_41⟩) hHeld ?_
    case yr16_41 => (intro W0 hSw; go_simp; try with_reducible rfl)
    try simp only [pu]
    refine wpAnyH_take (i := 42) (oi := ⟨(some 105), _, _, _, _, _⟩) (v := .agg (i64v a).toArray) rfl (by kernel_rfl) (by kernel_rfl) (by kernel_rfl) (fun _ _ _ h => h) (yieldsIf_load_mid (by rfl) _ _ rfl w.heap.size 0 rfl (i64v a) _ (fun W' hW' => range_row ((hW'.block _ sA).trans gA.out)) (Try.underlying27) rfl (by rw [i64v_len, HA.out]; kernel_rfl)) hHeld ?_
    try simp only [pu]
    refine wpAnyH_take (i := 44) (oi := ⟨(some 107), _, _, _, _, _⟩) (v := .int .i64 (-1)) rfl (by kernel_rfl) (by kernel_rfl) (by kernel_rfl) (fun _ _ _ h => h) (Or.inl ⟨by rfl, ?yr16_44⟩) hHeld ?_
    case yr16_44 => (intro W0 hSw; go_simp; try with_reducible rfl)
    try simp only [pu]
    refine wpAnyH_ready (rs := [43]) (by kernel_rfl) (by simp) ?_
    refine AllReadyH.cons (i := 43) (o := ⟨(some 106), _, _, _, _, _⟩) rfl (fun K hK => ?_) AllReadyH.nil
    go_simp
    refine (d11 _).mono ?_
    rintro e r16W11 ⟨rfl, r16h11⟩
    refine hK.out _ _ (below_next hHeld hHeld.size r16h11) (fun hHeld => ?_)
    clear hK K r16h11
    try simp only [pu]
    refine wpAnyH_take (i := 45) (oi := ⟨(some 108), _, _, _, _, _⟩) (v := .bool true) rfl (by kernel_rfl) (by kernel_rfl) (by kernel_rfl) (fun _ _ _ h => h) (Or.inl ⟨by rfl, ?yr16_45⟩) hHeld ?_
    case yr16_45 => (intro W0 hSw; go_simp; try simp; try with_reducible rfl)
    try simp only [pu]
    refine wpAnyH_take (i := 46) (oi := ⟨(some 109), _, _, _, _, _⟩) (v := .bool true) rfl (by kernel_rfl) (by kernel_rfl) (by kernel_rfl) (fun _ _ _ h => h) (Or.inl ⟨by rfl, ?yr16_46⟩) hHeld ?_
    case yr16_46 => (intro W0 hSw; go_simp; try with_reducible rfl)
    try simp only [pu]
    refine wpAnyH_take (i := 47) (oi := ⟨(some 110), _, _, _, _, _⟩) (v := .bool true) rfl (by kernel_rfl) (by kernel_rfl) (by kernel_rfl) (fun _ _ _ h => h) (Or.inl ⟨by rfl, ?yr16_47⟩) hHeld ?_
    case yr16_47 => (intro W0 hSw; go_simp; try with_reducible rfl)
    try simp only [pu]
    refine wpAnyH_take (i := 48) (oi := ⟨(some 111), _, _, _, _, _⟩) (v := .slice A n c) rfl (by kernel_rfl) (by kernel_rfl) (by kernel_rfl) (fun _ _ _ h => h) (Or.inl ⟨by rfl, ?yr16_48⟩) hHeld ?_
    case yr16_48 => (intro W0 hSw; go_simp; try with_reducible rfl)
    try simp only [pu]
    refine wpAnyH_take (i := 49) (oi := ⟨(some 112), _, _, _, _, _⟩) (v := .agg (i64v a).toArray) rfl (by kernel_rfl) (by kernel_rfl) (by kernel_rfl) (fun _ _ _ h => h) (yieldsIf_load_mid (by rfl) _ _ rfl w.heap.size 0 rfl (i64v a) _ (fun W' hW' => range_row ((hW'.block _ sA).trans gA.out)) (Try.underlying27) rfl (by rw [i64v_len, HA.out]; kernel_rfl)) hHeld ?_
    try simp only [pu]
    refine wpAnyH_take (i := 52) (oi := ⟨(some 115), _, _, _, _, _⟩) (v := .slice A n c) rfl (by kernel_rfl) (by kernel_rfl) (by kernel_rfl) (fun _ _ _ h => h) (Or.inl ⟨by rfl, ?yr16_52⟩) hHeld ?_
    case yr16_52 => (intro W0 hSw; go_simp; try with_reducible rfl)
    try simp only [pu]
    refine wpAnyH_take (i := 53) (oi := ⟨(some 116), _, _, _, _, _⟩) (v := .agg (i64v a).toArray) rfl (by kernel_rfl) (by kernel_rfl) (by kernel_rfl) (fun _ _ _ h => h) (yieldsIf_load_mid (by rfl) _ _ rfl G9 0 rfl (i64v a) _ (fun W' hW' => range_row ((hW'.block _ s9).trans g9.out)) (Try.underlying35) rfl (by rw [i64v_len, HA.out]; kernel_rfl)) hHeld ?_
    try simp only [pu]
    refine wpAnyH_ready (rs := [50]) (by kernel_rfl) (by simp) ?_
    refine AllReadyH.cons (i := 50) (o := ⟨(some 113), _, _, _, _, _⟩) rfl (fun K hK => ?_) AllReadyH.nil
    go_simp
    refine (d12 _ (hAV.next hHeld)).mono ?_
    rintro e r16W12 ⟨A5, n5, c5, rfl, hr5, r16h12⟩
    have hl5 := hr5.len
    refine hK.out _ _ (below_next hHeld hHeld.size r16h12) (fun hHeld => ?_)
    clear hK K r16h12
    try simp only [pu]
    have hOld := hHeld
    refine held_more (S' := fun W' => Below r16W12.heap.size r16W12 W') (fun W h => hOld.trans (h.mono hOld.size)) _ _ _ _ ?_
    replace hHeld := Below.refl r16W12.heap.size r16W12
    have g9' := row_next2 g9 hOld
    have s9' := row_size g9'
    have hAW := hAV.next hOld
    refine wpAnyH_take (i := 51) (oi := ⟨(some 114), _, _, _, _, _⟩) (v := .string ⟨T.toArray⟩) rfl (by kernel_rfl) (by kernel_rfl) (by kernel_rfl) (fun _ _ _ h => h) (Or.inl ⟨by rfl, ?yr16_51⟩) hHeld ?_
    case yr16_51 => (intro W0 hSw; have hcv := conv_now n5 c5 (hr5.byt.next hSw) hl5; go_simp; try with_reducible rfl)
    try simp only [pu]
    refine wpAnyH_ready (rs := [54]) (by kernel_rfl) (by simp) ?_
    refine AllReadyH.cons (i := 54) (o := ⟨(some 117), _, _, _, _, _⟩) rfl (fun K hK => ?_) AllReadyH.nil
    go_simp
    refine (d13 _ (hAW.next hHeld)).mono ?_
    rintro e r16W13 ⟨A6, n6, c6, rfl, hby6, hn6, r16h13⟩
    have hcv6 := conv_now n6 c6 hby6 hn6.out.symm
    refine hK.out _ _ (below_next hHeld hHeld.size r16h13) (fun hHeld => ?_)
    clear hK K r16h13
    try simp only [pu]
    refine wpAnyH_ready (rs := [55]) (by kernel_rfl) (by simp) ?_
    refine AllReadyH.cons (i := 55) (o := ⟨(some 118), _, _, _, _, _⟩) rfl (fun K hK => ?_) AllReadyH.nil
    go_simp
    refine hK.out _ _ hHeld (fun hHeld => ?_)
    clear hK K
    try simp only [pu]
    refine wpAnyH_take (i := 56) (oi := ⟨(some 119), _, _, _, _, _⟩) (v := .bool true) rfl (by kernel_rfl) (by kernel_rfl) (by kernel_rfl) (fun _ _ _ h => h) (Or.inl ⟨by rfl, ?yr16_56⟩) hHeld ?_
    case yr16_56 => (intro W0 hSw; go_simp; try simp; try with_reducible rfl)
    try simp only [pu]
    refine wpAnyH_take (i := 57) (oi := ⟨(some 120), _, _, _, _, _⟩) (v := .bool true) rfl (by kernel_rfl) (by kernel_rfl) (by kernel_rfl) (fun _ _ _ h => h) (Or.inl ⟨by rfl, ?yr16_57⟩) hHeld ?_
    case yr16_57 => (intro W0 hSw; go_simp; try with_reducible rfl)
    try simp only [pu]
    refine wpAnyH_take (i := 58) (oi := ⟨(some 8), _, _, _, _, _⟩) (v := .bool true) rfl (by kernel_rfl) (by kernel_rfl) (by kernel_rfl) (fun _ _ _ h => h) (Or.inl ⟨by rfl, ?yr16_58⟩) hHeld ?_
    case yr16_58 => (intro W0 hSw; go_simp; try with_reducible rfl)
    try simp only [pu]
    refine wpAnyH_done (by kernel_rfl) ?_ _
    go_wp2
    go_ret
    exact ⟨rfl, hbV.trans ((hOld.trans (hHeld.mono hOld.size)).mono hbV.size)⟩
  · go_wp2_with fail
    go_loopw [13, 14] (fun s i wr => ∃ (j : Nat) (z : Int), j ≤ 8 ∧ s = .int .i64 z ∧ i = .int .i64 (j : Int) ∧ Vlt (z = vup a j) ∧ wr = V) (fun _ i _ => 8 - (intOf i).toNat)
    case atStart => exact ⟨0, 0, by omega, rfl, rfl, vlt rfl, rfl⟩
    case round =>
      obtain ⟨j, z, hj, rfl, rfl, HX, rfl⟩ := hrel
      by_cases hlt : j < 8
      · have hn2 := vlt (vup_next (a := a) (k := j) (by rw [HA.out]; exact hlt))
        have hx1 := vup_small HG.out.symm HA.out (k := j) (by omega)
        have hx2 := vup_small HG.out.symm HA.out (k := j + 1) (by omega)
        have ck := int_at gA.out j (by rw [HA.out]; exact hlt)
        rw [← HX.out] at hn2 hx1
        rw [hn2.out] at hx2
        generalize iat a j = y2 at hn2 hx2 ck
        have HX2 := vlt hn2.out.symm
        clear hn2 HX
        go_wp2
        go_roundw
        case rel => exact ⟨j + 1, z + y2, by omega, rfl, by go_num, HX2, trivial⟩
        case measure => simp [intOf]; omega
      · obtain rfl : j = 8 := by omega
        have HE := vlt (HX.out.trans (vsum_yes HG.out.symm HA.out))
        simp only [← HE.out] at d11
        clear HX HG HE
        go_upto_region 16 with fail
        refine wp_region_held_drew (S := fun W' => Below wr.heap.size wr W') (by kernel_rfl) ((Below.refl _ _).drew) (fun hHeld => ?_)
        refine wpAnyH_take (i := 0) (oi := ⟨(some 63), _, _, _, _, _⟩) (v := .agg (i64v a).toArray) rfl (by kernel_rfl) (by kernel_rfl) (by kernel_rfl) (fun _ _ _ h => h) (yieldsIf_load_mid (by rfl) _ _ rfl w.heap.size 0 rfl (i64v a) _ (fun W' hW' => range_row ((hW'.block _ sA).trans gA.out)) (Try.underlying27) rfl (by rw [i64v_len, HA.out]; kernel_rfl)) hHeld ?_
        try simp only [pu]
        refine wpAnyH_take (i := 2) (oi := ⟨(some 65), _, _, _, _, _⟩) (v := .agg (i64v a).toArray) rfl (by kernel_rfl) (by kernel_rfl) (by kernel_rfl) (fun _ _ _ h => h) (yieldsIf_load_mid (by rfl) _ _ rfl G9 0 rfl (i64v a) _ (fun W' hW' => range_row ((hW'.block _ s9).trans g9.out)) (Try.underlying35) rfl (by rw [i64v_len, HA.out]; kernel_rfl)) hHeld ?_
        try simp only [pu]
        refine wpAnyH_ready (rs := [1]) (by kernel_rfl) (by simp) ?_
        refine AllReadyH.cons (i := 1) (o := ⟨(some 64), _, _, _, _, _⟩) rfl (fun K hK => ?_) AllReadyH.nil
        go_simp
        refine (d1 _).mono ?_
        rintro e r16W1 ⟨rfl, r16h1⟩
        refine hK.out _ _ (below_next hHeld hHeld.size r16h1) (fun hHeld => ?_)
        clear hK K r16h1
        try simp only [pu]
        refine wpAnyH_ready (rs := [3]) (by kernel_rfl) (by simp) ?_
        refine AllReadyH.cons (i := 3) (o := ⟨(some 66), _, _, _, _, _⟩) rfl (fun K hK => ?_) AllReadyH.nil
        go_simp
        refine (d2 _).mono ?_
        rintro e r16W2 ⟨rfl, r16h2⟩
        refine hK.out _ _ (below_next hHeld hHeld.size r16h2) (fun hHeld => ?_)
        clear hK K r16h2
        try simp only [pu]
        refine wpAnyH_take (i := 4) (oi := ⟨(some 67), _, _, _, _, _⟩) (v := .bool true) rfl (by kernel_rfl) (by kernel_rfl) (by kernel_rfl) (fun _ _ _ h => h) (Or.inl ⟨by rfl, ?yr16_4⟩) hHeld ?_
        case yr16_4 => (intro W0 hSw; go_simp; try simp; try with_reducible rfl)
        try simp only [pu]
        refine wpAnyH_take (i := 5) (oi := ⟨(some 68), _, _, _, _, _⟩) (v := .bool true) rfl (by kernel_rfl) (by kernel_rfl) (by kernel_rfl) (fun _ _ _ h => h) (Or.inl ⟨by rfl, ?yr16_5⟩) hHeld ?_
        case yr16_5 => (intro W0 hSw; go_simp; try with_reducible rfl)
        try simp only [pu]
        refine wpAnyH_take (i := 6) (oi := ⟨(some 69), _, _, _, _, _⟩) (v := .agg (i64v a).toArray) rfl (by kernel_rfl) (by kernel_rfl) (by kernel_rfl) (fun _ _ _ h => h) (yieldsIf_load_mid (by rfl) _ _ rfl w.heap.size 0 rfl (i64v a) _ (fun W' hW' => range_row ((hW'.block _ sA).trans gA.out)) (Try.underlying27) rfl (by rw [i64v_len, HA.out]; kernel_rfl)) hHeld ?_
        try simp only [pu]
        refine wpAnyH_take (i := 7) (oi := ⟨(some 70), _, _, _, _, _⟩) (v := .agg (i64v [x, y]).toArray) rfl (by kernel_rfl) (by kernel_rfl) (by kernel_rfl) (fun _ _ _ h => h) (yieldsIf_load_mid (by rfl) _ _ rfl (w.heap.size + 2) 0 rfl (i64v [x, y]) _ (fun W' hW' => range_row ((hW'.block _ sD).trans gD.out)) (Try.underlying33) rfl (by kernel_rfl)) hHeld ?_
        try simp only [pu]
        refine wpAnyH_take (i := 9) (oi := ⟨(some 72), _, _, _, _, _⟩) (v := .agg (i64v a).toArray) rfl (by kernel_rfl) (by kernel_rfl) (by kernel_rfl) (fun _ _ _ h => h) (yieldsIf_load_mid (by rfl) _ _ rfl G9 0 rfl (i64v a) _ (fun W' hW' => range_row ((hW'.block _ s9).trans g9.out)) (Try.underlying35) rfl (by rw [i64v_len, HA.out]; kernel_rfl)) hHeld ?_
        try simp only [pu]
        refine wpAnyH_take (i := 10) (oi := ⟨(some 73), _, _, _, _, _⟩) (v := .agg (i64v [x, y]).toArray) rfl (by kernel_rfl) (by kernel_rfl) (by kernel_rfl) (fun _ _ _ h => h) (yieldsIf_load_mid (by rfl) _ _ rfl (w.heap.size + 2) 0 rfl (i64v [x, y]) _ (fun W' hW' => range_row ((hW'.block _ sD).trans gD.out)) (Try.underlying33) rfl (by kernel_rfl)) hHeld ?_
        try simp only [pu]
        refine wpAnyH_ready (rs := [8]) (by kernel_rfl) (by simp) ?_
        refine AllReadyH.cons (i := 8) (o := ⟨(some 71), _, _, _, _, _⟩) rfl (fun K hK => ?_) AllReadyH.nil
        go_simp
        refine (d3 _).mono ?_
        rintro e r16W3 ⟨rfl, r16h3⟩
        refine hK.out _ _ (below_next hHeld hHeld.size r16h3) (fun hHeld => ?_)
        clear hK K r16h3
        try simp only [pu]
        refine wpAnyH_ready (rs := [11]) (by kernel_rfl) (by simp) ?_
        refine AllReadyH.cons (i := 11) (o := ⟨(some 74), _, _, _, _, _⟩) rfl (fun K hK => ?_) AllReadyH.nil
        go_simp
        refine (d4 _).mono ?_
        rintro e r16W4 ⟨rfl, r16h4⟩
        refine hK.out _ _ (below_next hHeld hHeld.size r16h4) (fun hHeld => ?_)
        clear hK K r16h4
        try simp only [pu]
        refine wpAnyH_take (i := 12) (oi := ⟨(some 75), _, _, _, _, _⟩) (v := .bool true) rfl (by kernel_rfl) (by kernel_rfl) (by kernel_rfl) (fun _ _ _ h => h) (Or.inl ⟨by rfl, ?yr16_12⟩) hHeld ?_
        case yr16_12 => (intro W0 hSw; go_simp; try simp; try with_reducible rfl)
        try simp only [pu]
        refine wpAnyH_take (i := 13) (oi := ⟨(some 76), _, _, _, _, _⟩) (v := .bool true) rfl (by kernel_rfl) (by kernel_rfl) (by kernel_rfl) (fun _ _ _ h => h) (Or.inl ⟨by rfl, ?yr16_13⟩) hHeld ?_
        case yr16_13 => (intro W0 hSw; go_simp; try with_reducible rfl)
        try simp only [pu]
        refine wpAnyH_take (i := 14) (oi := ⟨(some 77), _, _, _, _, _⟩) (v := .bool true) rfl (by kernel_rfl) (by kernel_rfl) (by kernel_rfl) (fun _ _ _ h => h) (Or.inl ⟨by rfl, ?yr16_14⟩) hHeld ?_
        case yr16_14 => (intro W0 hSw; go_simp; try with_reducible rfl)
        try simp only [pu]
        refine wpAnyH_take (i := 15) (oi := ⟨(some 78), _, _, _, _, _⟩) (v := .agg (i64v a).toArray) rfl (by kernel_rfl) (by kernel_rfl) (by kernel_rfl) (fun _ _ _ h => h) (yieldsIf_load_mid (by rfl) _ _ rfl w.heap.size 0 rfl (i64v a) _ (fun W' hW' => range_row ((hW'.block _ sA).trans gA.out)) (Try.underlying27) rfl (by rw [i64v_len, HA.out]; kernel_rfl)) hHeld ?_
        try simp only [pu]
        refine wpAnyH_take (i := 16) (oi := ⟨(some 79), _, _, _, _, _⟩) (v := .agg (i64v b).toArray) rfl (by kernel_rfl) (by kernel_rfl) (by kernel_rfl) (fun _ _ _ h => h) (yieldsIf_load_mid (by rfl) _ _ rfl (w.heap.size + 1) 0 rfl (i64v b) _ (fun W' hW' => range_row ((hW'.block _ sB).trans gB.out)) (Try.underlying27) rfl (by rw [i64v_len, HB.out]; kernel_rfl)) hHeld ?_
        try simp only [pu]
        refine wpAnyH_take (i := 18) (oi := ⟨(some 81), _, _, _, _, _⟩) (v := .agg (i64v a).toArray) rfl (by kernel_rfl) (by kernel_rfl) (by kernel_rfl) (fun _ _ _ h => h) (yieldsIf_load_mid (by rfl) _ _ rfl G9 0 rfl (i64v a) _ (fun W' hW' => range_row ((hW'.block _ s9).trans g9.out)) (Try.underlying35) rfl (by rw [i64v_len, HA.out]; kernel_rfl)) hHeld ?_
        try simp only [pu]
        refine wpAnyH_take (i := 19) (oi := ⟨(some 82), _, _, _, _, _⟩) (v := .agg (i64v b).toArray) rfl (by kernel_rfl) (by kernel_rfl) (by kernel_rfl) (fun _ _ _ h => h) (yieldsIf_load_mid (by rfl) _ _ rfl G10 0 rfl (i64v b) _ (fun W' hW' => range_row ((hW'.block _ s10).trans g10.out)) (Try.underlying35) rfl (by rw [i64v_len, HB.out]; kernel_rfl)) hHeld ?_
        try simp only [pu]
        refine wpAnyH_ready (rs := [17]) (by kernel_rfl) (by simp) ?_
        refine AllReadyH.cons (i := 17) (o := ⟨(some 80), _, _, _, _, _⟩) rfl (fun K hK => ?_) AllReadyH.nil
        go_simp
        refine (d5 _).mono ?_
        rintro e r16W5 ⟨rfl, r16h5⟩
        refine hK.out _ _ (below_next hHeld hHeld.size r16h5) (fun hHeld => ?_)
        clear hK K r16h5
        try simp only [pu]
        refine wpAnyH_ready (rs := [20]) (by kernel_rfl) (by simp) ?_
        refine AllReadyH.cons (i := 20) (o := ⟨(some 83), _, _, _, _, _⟩) rfl (fun K hK => ?_) AllReadyH.nil
        go_simp
        refine (d6 _).mono ?_
        rintro e r16W6 ⟨rfl, r16h6⟩
        refine hK.out _ _ (below_next hHeld hHeld.size r16h6) (fun hHeld => ?_)
        clear hK K r16h6
        try simp only [pu]
        refine wpAnyH_take (i := 21) (oi := ⟨(some 84), _, _, _, _, _⟩) (v := .bool true) rfl (by kernel_rfl) (by kernel_rfl) (by kernel_rfl) (fun _ _ _ h => h) (Or.inl ⟨by rfl, ?yr16_21⟩) hHeld ?_
        case yr16_21 => (intro W0 hSw; go_simp; try simp only [q1]; try with_reducible rfl)
        try simp only [pu]
        refine wpAnyH_take (i := 22) (oi := ⟨(some 85), _, _, _, _, _⟩) (v := .bool true) rfl (by kernel_rfl) (by kernel_rfl) (by kernel_rfl) (fun _ _ _ h => h) (Or.inl ⟨by rfl, ?yr16_22⟩) hHeld ?_
        case yr16_22 => (intro W0 hSw; go_simp; try with_reducible rfl)
        try simp only [pu]
        refine wpAnyH_take (i := 23) (oi := ⟨(some 86), _, _, _, _, _⟩) (v := .bool true) rfl (by kernel_rfl) (by kernel_rfl) (by kernel_rfl) (fun _ _ _ h => h) (Or.inl ⟨by rfl, ?yr16_23⟩) hHeld ?_
        case yr16_23 => (intro W0 hSw; go_simp; try with_reducible rfl)
        try simp only [pu]
        refine wpAnyH_take (i := 24) (oi := ⟨(some 87), _, _, _, _, _⟩) (v := .agg (i64v a).toArray) rfl (by kernel_rfl) (by kernel_rfl) (by kernel_rfl) (fun _ _ _ h => h) (yieldsIf_load_mid (by rfl) _ _ rfl w.heap.size 0 rfl (i64v a) _ (fun W' hW' => range_row ((hW'.block _ sA).trans gA.out)) (Try.underlying27) rfl (by rw [i64v_len, HA.out]; kernel_rfl)) hHeld ?_
        try simp only [pu]
        refine wpAnyH_take (i := 25) (oi := ⟨(some 88), _, _, _, _, _⟩) (v := .agg (i64v b).toArray) rfl (by kernel_rfl) (by kernel_rfl) (by kernel_rfl) (fun _ _ _ h => h) (yieldsIf_load_mid (by rfl) _ _ rfl (w.heap.size + 1) 0 rfl (i64v b) _ (fun W' hW' => range_row ((hW'.block _ sB).trans gB.out)) (Try.underlying27) rfl (by rw [i64v_len, HB.out]; kernel_rfl)) hHeld ?_
        try simp only [pu]
        refine wpAnyH_take (i := 27) (oi := ⟨(some 90), _, _, _, _, _⟩) (v := .agg (i64v a).toArray) rfl (by kernel_rfl) (by kernel_rfl) (by kernel_rfl) (fun _ _ _ h => h) (yieldsIf_load_mid (by rfl) _ _ rfl G9 0 rfl (i64v a) _ (fun W' hW' => range_row ((hW'.block _ s9).trans g9.out)) (Try.underlying35) rfl (by rw [i64v_len, HA.out]; kernel_rfl)) hHeld ?_
        try simp only [pu]
        refine wpAnyH_take (i := 28) (oi := ⟨(some 91), _, _, _, _, _⟩) (v := .agg (i64v b).toArray) rfl (by kernel_rfl) (by kernel_rfl) (by kernel_rfl) (fun _ _ _ h => h) (yieldsIf_load_mid (by rfl) _ _ rfl G10 0 rfl (i64v b) _ (fun W' hW' => range_row ((hW'.block _ s10).trans g10.out)) (Try.underlying35) rfl (by rw [i64v_len, HB.out]; kernel_rfl)) hHeld ?_
        try simp only [pu]
        refine wpAnyH_ready (rs := [26]) (by kernel_rfl) (by simp) ?_
        refine AllReadyH.cons (i := 26) (o := ⟨(some 89), _, _, _, _, _⟩) rfl (fun K hK => ?_) AllReadyH.nil
        go_simp
        refine (d7 _).mono ?_
        rintro e r16W7 ⟨rfl, r16h7⟩
        refine hK.out _ _ (below_next hHeld hHeld.size r16h7) (fun hHeld => ?_)
        clear hK K r16h7
        try simp only [pu]
        refine wpAnyH_ready (rs := [29]) (by kernel_rfl) (by simp) ?_
        refine AllReadyH.cons (i := 29) (o := ⟨(some 92), _, _, _, _, _⟩) rfl (fun K hK => ?_) AllReadyH.nil
        go_simp
        refine (d8 _).mono ?_
        rintro e r16W8 ⟨rfl, r16h8⟩
        refine hK.out _ _ (below_next hHeld hHeld.size r16h8) (fun hHeld => ?_)
        clear hK K r16h8
        try simp only [pu]
        refine wpAnyH_take (i := 30) (oi := ⟨(some 93), _, _, _, _, _⟩) (v := .bool true) rfl (by kernel_rfl) (by kernel_rfl) (by kernel_rfl) (fun _ _ _ h => h) (Or.inl ⟨by rfl, ?yr16_30⟩) hHeld ?_
        case yr16_30 => (intro W0 hSw; go_simp; try simp; try with_reducible rfl)
        try simp only [pu]
        refine wpAnyH_take (i := 31) (oi := ⟨(some 94), _, _, _, _, _⟩) (v := .bool true) rfl (by kernel_rfl) (by kernel_rfl) (by kernel_rfl) (fun _ _ _ h => h) (Or.inl ⟨by rfl, ?yr16_31⟩) hHeld ?_
        case yr16_31 => (intro W0 hSw; go_simp; try with_reducible rfl)
        try simp only [pu]
        refine wpAnyH_take (i := 32) (oi := ⟨(some 95), _, _, _, _, _⟩) (v := .bool true) rfl (by kernel_rfl) (by kernel_rfl) (by kernel_rfl) (fun _ _ _ h => h) (Or.inl ⟨by rfl, ?yr16_32⟩) hHeld ?_
        case yr16_32 => (intro W0 hSw; go_simp; try with_reducible rfl)
        try simp only [pu]
        refine wpAnyH_take (i := 33) (oi := ⟨(some 96), _, _, _, _, _⟩) (v := .agg (i64v a).toArray) rfl (by kernel_rfl) (by kernel_rfl) (by kernel_rfl) (fun _ _ _ h => h) (yieldsIf_load_mid (by rfl) _ _ rfl w.heap.size 0 rfl (i64v a) _ (fun W' hW' => range_row ((hW'.block _ sA).trans gA.out)) (Try.underlying27) rfl (by rw [i64v_len, HA.out]; kernel_rfl)) hHeld ?_
        try simp only [pu]
        refine wpAnyH_take (i := 34) (oi := ⟨(some 97), _, _, _, _, _⟩) (v := .agg (i64v b).toArray) rfl (by kernel_rfl) (by kernel_rfl) (by kernel_rfl) (fun _ _ _ h => h) (yieldsIf_load_mid (by rfl) _ _ rfl (w.heap.size + 1) 0 rfl (i64v b) _ (fun W' hW' => range_row ((hW'.block _ sB).trans gB.out)) (Try.underlying27) rfl (by rw [i64v_len, HB.out]; kernel_rfl)) hHeld ?_
        try simp only [pu]
        refine wpAnyH_take (i := 36) (oi := ⟨(some 99), _, _, _, _, _⟩) (v := .agg (i64v a).toArray) rfl (by kernel_rfl) (by kernel_rfl) (by kernel_rfl) (fun _ _ _ h => h) (yieldsIf_load_mid (by rfl) _ _ rfl G9 0 rfl (i64v a) _ (fun W' hW' => range_row ((hW'.block _ s9).trans g9.out)) (Try.underlying35) rfl (by rw [i64v_len, HA.out]; kernel_rfl)) hHeld ?_
        try simp only [pu]
        refine wpAnyH_take (i := 37) (oi := ⟨(some 100), _, _, _, _, _⟩) (v := .agg (i64v b).toArray) rfl (by kernel_rfl) (by kernel_rfl) (by kernel_rfl) (fun _ _ _ h => h) (yieldsIf_load_mid (by rfl) _ _ rfl G10 0 rfl (i64v b) _ (fun W' hW' => range_row ((hW'.block _ s10).trans g10.out)) (Try.underlying35) rfl (by rw [i64v_len, HB.out]; kernel_rfl)) hHeld ?_
        try simp only [pu]
        refine wpAnyH_ready (rs := [35]) (by kernel_rfl) (by simp) ?_
        refine AllReadyH.cons (i := 35) (o := ⟨(some 98), _, _, _, _, _⟩) rfl (fun K hK => ?_) AllReadyH.nil
        go_simp
        refine (d9 _).mono ?_
        rintro e r16W9 ⟨rfl, r16h9⟩
        refine hK.out _ _ (below_next hHeld hHeld.size r16h9) (fun hHeld => ?_)
        clear hK K r16h9
        try simp only [pu]
        refine wpAnyH_ready (rs := [38]) (by kernel_rfl) (by simp) ?_
        refine AllReadyH.cons (i := 38) (o := ⟨(some 101), _, _, _, _, _⟩) rfl (fun K hK => ?_) AllReadyH.nil
        go_simp
        refine (d10 _).mono ?_
        rintro e r16W10 ⟨rfl, r16h10⟩
        refine hK.out _ _ (below_next hHeld hHeld.size r16h10) (fun hHeld => ?_)
        clear hK K r16h10
        try simp only [pu]
        refine wpAnyH_take (i := 39) (oi := ⟨(some 102), _, _, _, _, _⟩) (v := .bool true) rfl (by kernel_rfl) (by kernel_rfl) (by kernel_rfl) (fun _ _ _ h => h) (Or.inl ⟨by rfl, ?yr16_39⟩) hHeld ?_
        case yr16_39 => (intro W0 hSw; go_simp; try simp; try with_reducible rfl)
        try simp only [pu]
        refine wpAnyH_take (i := 40) (oi := ⟨(some 103), _, _, _, _, _⟩) (v := .bool true) rfl (by kernel_rfl) (by kernel_rfl) (by kernel_rfl) (fun _ _ _ h => h) (Or.inl ⟨by rfl, ?yr16_40⟩) hHeld ?_
        case yr16_40 => (intro W0 hSw; go_simp; try with_reducible rfl)
        try simp only [pu]
        refine wpAnyH_take (i := 41) (oi := ⟨(some 104), _, _, _, _, _⟩) (v := .bool true) rfl (by kernel_rfl) (by kernel_rfl) (by kernel_rfl) (fun _ _ _ h => h) (Or.inl ⟨by rfl, ?yr16_41⟩) hHeld ?_
        case yr16_41 => (intro W0 hSw; go_simp; try with_reducible rfl)
        try simp only [pu]
        refine wpAnyH_take (i := 42) (oi := ⟨(some 105), _, _, _, _, _⟩) (v := .agg (i64v a).toArray) rfl (by kernel_rfl) (by kernel_rfl) (by kernel_rfl) (fun _ _ _ h => h) (yieldsIf_load_mid (by rfl) _ _ rfl w.heap.size 0 rfl (i64v a) _ (fun W' hW' => range_row ((hW'.block _ sA).trans gA.out)) (Try.underlying27) rfl (by rw [i64v_len, HA.out]; kernel_rfl)) hHeld ?_
        try simp only [pu]
        refine wpAnyH_take (i := 44) (oi := ⟨(some 107), _, _, _, _, _⟩) (v := .int .i64 z) rfl (by kernel_rfl) (by kernel_rfl) (by kernel_rfl) (fun _ _ _ h => h) (Or.inl ⟨by rfl, ?yr16_44⟩) hHeld ?_
        case yr16_44 => (intro W0 hSw; go_simp; try with_reducible rfl)
        try simp only [pu]
        refine wpAnyH_ready (rs := [43]) (by kernel_rfl) (by simp) ?_
        refine AllReadyH.cons (i := 43) (o := ⟨(some 106), _, _, _, _, _⟩) rfl (fun K hK => ?_) AllReadyH.nil
        go_simp
        refine (d11 _).mono ?_
        rintro e r16W11 ⟨rfl, r16h11⟩
        refine hK.out _ _ (below_next hHeld hHeld.size r16h11) (fun hHeld => ?_)
        clear hK K r16h11
        try simp only [pu]
        refine wpAnyH_take (i := 45) (oi := ⟨(some 108), _, _, _, _, _⟩) (v := .bool true) rfl (by kernel_rfl) (by kernel_rfl) (by kernel_rfl) (fun _ _ _ h => h) (Or.inl ⟨by rfl, ?yr16_45⟩) hHeld ?_
        case yr16_45 => (intro W0 hSw; go_simp; try simp; try with_reducible rfl)
        try simp only [pu]
        refine wpAnyH_take (i := 46) (oi := ⟨(some 109), _, _, _, _, _⟩) (v := .bool true) rfl (by kernel_rfl) (by kernel_rfl) (by kernel_rfl) (fun _ _ _ h => h) (Or.inl ⟨by rfl, ?yr16_46⟩) hHeld ?_
        case yr16_46 => (intro W0 hSw; go_simp; try with_reducible rfl)
        try simp only [pu]
        refine wpAnyH_take (i := 47) (oi := ⟨(some 110), _, _, _, _, _⟩) (v := .bool true) rfl (by kernel_rfl) (by kernel_rfl) (by kernel_rfl) (fun _ _ _ h => h) (Or.inl ⟨by rfl, ?yr16_47⟩) hHeld ?_
        case yr16_47 => (intro W0 hSw; go_simp; try with_reducible rfl)
        try simp only [pu]
        refine wpAnyH_take (i := 48) (oi := ⟨(some 111), _, _, _, _, _⟩) (v := .slice A n c) rfl (by kernel_rfl) (by kernel_rfl) (by kernel_rfl) (fun _ _ _ h => h) (Or.inl ⟨by rfl, ?yr16_48⟩) hHeld ?_
        case yr16_48 => (intro W0 hSw; go_simp; try with_reducible rfl)
        try simp only [pu]
        refine wpAnyH_take (i := 49) (oi := ⟨(some 112), _, _, _, _, _⟩) (v := .agg (i64v a).toArray) rfl (by kernel_rfl) (by kernel_rfl) (by kernel_rfl) (fun _ _ _ h => h) (yieldsIf_load_mid (by rfl) _ _ rfl w.heap.size 0 rfl (i64v a) _ (fun W' hW' => range_row ((hW'.block _ sA).trans gA.out)) (Try.underlying27) rfl (by rw [i64v_len, HA.out]; kernel_rfl)) hHeld ?_
        try simp only [pu]
        refine wpAnyH_take (i := 52) (oi := ⟨(some 115), _, _, _, _, _⟩) (v := .slice A n c) rfl (by kernel_rfl) (by kernel_rfl) (by kernel_rfl) (fun _ _ _ h => h) (Or.inl ⟨by rfl, ?yr16_52⟩) hHeld ?_
        case yr16_52 => (intro W0 hSw; go_simp; try with_reducible rfl)
        try simp only [pu]
        refine wpAnyH_take (i := 53) (oi := ⟨(some 116), _, _, _, _, _⟩) (v := .agg (i64v a).toArray) rfl (by kernel_rfl) (by kernel_rfl) (by kernel_rfl) (fun _ _ _ h => h) (yieldsIf_load_mid (by rfl) _ _ rfl G9 0 rfl (i64v a) _ (fun W' hW' => range_row ((hW'.block _ s9).trans g9.out)) (Try.underlying35) rfl (by rw [i64v_len, HA.out]; kernel_rfl)) hHeld ?_
        try simp only [pu]
        refine wpAnyH_ready (rs := [50]) (by kernel_rfl) (by simp) ?_
        refine AllReadyH.cons (i := 50) (o := ⟨(some 113), _, _, _, _, _⟩) rfl (fun K hK => ?_) AllReadyH.nil
        go_simp
        refine (d12 _ (hAV.next hHeld)).mono ?_
        rintro e r16W12 ⟨A5, n5, c5, rfl, hr5, r16h12⟩
        have hl5 := hr5.len
        refine hK.out _ _ (below_next hHeld hHeld.size r16h12) (fun hHeld => ?_)
        clear hK K r16h12
        try simp only [pu]
        have hOld := hHeld
        refine held_more (S' := fun W' => Below r16W12.heap.size r16W12 W') (fun W h => hOld.trans (h.mono hOld.size)) _ _ _ _ ?_
        replace hHeld := Below.refl r16W12.heap.size r16W12
        have g9' := row_next2 g9 hOld
        have s9' := row_size g9'
        have hAW := hAV.next hOld
        refine wpAnyH_take (i := 51) (oi := ⟨(some 114), _, _, _, _, _⟩) (v := .string ⟨T.toArray⟩) rfl (by kernel_rfl) (by kernel_rfl) (by kernel_rfl) (fun _ _ _ h => h) (Or.inl ⟨by rfl, ?yr16_51⟩) hHeld ?_
        case yr16_51 => (intro W0 hSw; have hcv := conv_now n5 c5 (hr5.byt.next hSw) hl5; go_simp; try with_reducible rfl)
        try simp only [pu]
        refine wpAnyH_ready (rs := [54]) (by kernel_rfl) (by simp) ?_
        refine AllReadyH.cons (i := 54) (o := ⟨(some 117), _, _, _, _, _⟩) rfl (fun K hK => ?_) AllReadyH.nil
        go_simp
        refine (d13 _ (hAW.next hHeld)).mono ?_
        rintro e r16W13 ⟨A6, n6, c6, rfl, hby6, hn6, r16h13⟩
        have hcv6 := conv_now n6 c6 hby6 hn6.out.symm
        refine hK.out _ _ (below_next hHeld hHeld.size r16h13) (fun hHeld => ?_)
        clear hK K r16h13
        try simp only [pu]
        refine wpAnyH_ready (rs := [55]) (by kernel_rfl) (by simp) ?_
        refine AllReadyH.cons (i := 55) (o := ⟨(some 118), _, _, _, _, _⟩) rfl (fun K hK => ?_) AllReadyH.nil
        go_simp
        refine hK.out _ _ hHeld (fun hHeld => ?_)
        clear hK K
        try simp only [pu]
        refine wpAnyH_take (i := 56) (oi := ⟨(some 119), _, _, _, _, _⟩) (v := .bool true) rfl (by kernel_rfl) (by kernel_rfl) (by kernel_rfl) (fun _ _ _ h => h) (Or.inl ⟨by rfl, ?yr16_56⟩) hHeld ?_
        case yr16_56 => (intro W0 hSw; go_simp; try simp; try with_reducible rfl)
        try simp only [pu]
        refine wpAnyH_take (i := 57) (oi := ⟨(some 120), _, _, _, _, _⟩) (v := .bool true) rfl (by kernel_rfl) (by kernel_rfl) (by kernel_rfl) (fun _ _ _ h => h) (Or.inl ⟨by rfl, ?yr16_57⟩) hHeld ?_
        case yr16_57 => (intro W0 hSw; go_simp; try with_reducible rfl)
        try simp only [pu]
        refine wpAnyH_take (i := 58) (oi := ⟨(some 8), _, _, _, _, _⟩) (v := .bool true) rfl (by kernel_rfl) (by kernel_rfl) (by kernel_rfl) (fun _ _ _ h => h) (Or.inl ⟨by rfl, ?yr16_58⟩) hHeld ?_
        case yr16_58 => (intro W0 hSw; go_simp; try with_reducible rfl)
        try simp only [pu]
        refine wpAnyH_done (by kernel_rfl) ?_ _
        go_wp2
        go_ret
        exact ⟨rfl, hbV.trans ((hOld.trans (hHeld.mono hOld.size)).mono hbV.size)⟩
end Go.Proofs.Ytkenldlhkmocjaa
