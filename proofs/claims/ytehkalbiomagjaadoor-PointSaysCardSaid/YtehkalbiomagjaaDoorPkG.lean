/-
  Words and contracts that other texts share, several in one text. No statement of the seat is proved here. Conditions: as each contract says.
  Contract of the document's own decode: the point of bytes, or none. Conditions: none.
  Contracts of the document's own PAdd, PNeg, PMul, At. Conditions: none.
-/
import Derived.Test.YtehkalbiomagjaaDoorPkF
import Derived.Test.YtehkalbiomagjaaDoorPkE
import Derived.Test.YtehkalbiomagjaaDoorPkC
import Derived.Test.YtehkalbiomagjaaDoorPkA
namespace Go.Proofs.YtehkalbiomagjaaDoor
open Go.RowKit

/-- What decode tells. -/
def DeIs (a : List UInt8) (q : List Int) (ok : Bool) : Prop := (ok = true → ∃ P, PoX q P ∧ FvE (subI q 0 16) P.1 ∧ FvE (subI q 16 16) P.2 ∧ PtIs a (some P)) ∧ (ok = false → PtIs a none)
theorem dec_ok {p x y o t : List Int} {X Y : Fin FP} (hp : p = x ++ (y ++ (o ++ t))) (hx : FvE x X) (hy : FvE y Y) (ho : FvE o 1) (ht : FvE t (X * Y)) (hon : OnP (X, Y)) : PoX p (X, Y) ∧ FvE (subI p 0 16) X ∧ FvE (subI p 16 16) Y := by
  refine ⟨poX_four hp hx hy ho ht (rep_one (X, Y)) hon, ?_, ?_⟩
  · rw [hp, (subI_four x y o t hx.len hy.len ho.len ht.len).1]; exact hx
  · rw [hp, (subI_four x y o t hx.len hy.len ho.len ht.len).2.1]; exact hy
theorem dec_same {a z x : List UInt8} {s : Nat} (ha : a.length = 32) (hy : yW a = ln z) (hs : sW a = s) (hz : ln z < FP) (hx : ln x < FP) (hu : cW x * cW x = uE (cW z)) (hp : ln x % 2 = s) : PtIs a (some (cW x, cW z)) :=
  ((read_yes ha hy hs hz hx hu hp).1 rfl).2.2
theorem dec_other {a z l x : List UInt8} {s d : Nat} (ha : a.length = 32) (hy : yW a = ln z) (hs : sW a = s) (hz : ln z < FP) (hl : ln l < FP) (hu : cW l * cW l = uE (cW z)) (hp : ln l % 2 = d) (hd : s ≠ d) (h0 : ln l ≠ 0) (hx : cW x = 0 - cW l) : PtIs a (some (cW x, cW z)) := by
  have h := dec_turn (w := a) ha (by rw [hy]; exact hz) (r := ln l) hl h0 (by rw [hy]; exact hu) (by rw [hs, hp]; exact hd)
  have h1 : cF (FP - ln l) = cW x := by
    have h2 : cF (FP - ln l) + cF (ln l) = 0 := by rw [← cF_add, cF_nz, show FP - ln l + ln l = FP by omega, Nat.mod_self]
    have h3 : cW x = 0 - cF (ln l) := hx
    rw [h3]; grind
  rw [h1, hy] at h
  exact h
theorem dec_z {a z l : List UInt8} (hy : yW a = ln z) (hs : sW a = 1) (hl : l = z32) (hu : cW l * cW l = uE (cW z)) : PtIs a none := by
  refine dec_nought ?_ hs
  rw [hy]
  show uE (cW z) = 0
  rw [← hu, hl, z32_is]; grind
theorem z32_odd : ln z32 % 2 = 0 := by decide +kernel
theorem not_z32 {l : List UInt8} (hl : l.length = 32) (h : ¬ l = z32) : ln l ≠ 0 := fun e => h (ln_inj _ _ (by rw [hl]; rfl) (by rw [e]; decide +kernel))
set_option maxRecDepth 100000 in
set_option maxHeartbeats 4000000 in
theorem rdecode_any (w : World) (a : List UInt8) (ha : a.length = 32) :
    Calls Tryd.prog 34 #[.agg (bv a).toArray] w fun e w' => ∃ q ok, e = .returned (.tuple #[.agg (i64v q).toArray, .bool ok]) ∧ Vlt (DeIs a q ok) ∧ Hid (q.length = 64) ∧ Below w.heap.size w w' := by
  have hzw := zero_word
  have hzf := zero_fe
  have hbz := built_z32
  have hbp := built_z64i
  obtain ⟨ONE, dO, HO⟩ := hidesI on16 on16_len
  have hb1 := built_on16
  rw [← dO] at hb1
  have FO := vlt (show FvE ONE 1 by rw [dO]; exact on16_is)
  clear dO
  obtain ⟨m, b, ham, hm, hb⟩ := last_apart a ha
  obtain ⟨r, hr⟩ : ∃ r, r = b % 128 := ⟨_, rfl⟩
  obtain ⟨s, hs⟩ : ∃ s, s = b / 128 := ⟨_, rfl⟩
  have e2 := and_low b r hb hr
  have e1 : (b : Int) / 128 = (s : Int) := by omega
  have hs2 : s < 2 := by omega
  have hr2 : r < 256 := by omega
  obtain ⟨z, hz⟩ : ∃ z, z = m ++ [UInt8.ofNat r] := ⟨_, rfl⟩
  have Hz := Lib.hid (show z.length = 32 by rw [hz]; simp [hm])
  obtain ⟨k1, k2⟩ := apart_is m b r s hm hb hr hs
  rw [← ham, ← hz] at k1
  rw [← ham] at k2
  have HY := vlt k1
  have HS := vlt k2
  have HA := vlt ha
  obtain ⟨V0, hW, gb0_V0, gb1_V0, hb_V0, hsW⟩ := pair_new w (bv a).toArray (i64v z64i).toArray 23 57
  have HW := Lib.hid hW
  have sb0_V0 := row_size gb0_V0
  have sb1_V0 := row_size gb1_V0
  have hzp := zero_point
  have c31 : V0.cell? ⟨w.heap.size, 31, none⟩ = some (.int .u8 (b : Int)) := by
    have h := byte_cell gb0_V0.out (show a[31]? = some (UInt8.ofNat b) by rw [ham]; exact at_last _ _ hm)
    rwa [UInt8.toNat_ofNat', show (2 : Nat) ^ 8 = 256 by decide, Nat.mod_eq_of_lt hb] at h
  have f31 : V0.frozen? ⟨w.heap.size, 31, none⟩ = false := frozen_of_row _ _ _ _ _ gb0_V0.out
  have hset : Hid ((V0.setCell ⟨w.heap.size, 31, none⟩ (.int .u8 (r : Int))).heap[w.heap.size]? = some (.cells (bv z).toArray 23 (0, 0))) := by
    have h := (world_set_cell gb0_V0.out 31 (.int .u8 (r : Int))).out
    rw [show (Value.int .u8 (r : Int)) = Value.int .u8 ((UInt8.ofNat r).toNat : Int) by rw [UInt8.toNat_ofNat', show (2 : Nat) ^ 8 = 256 by decide, Nat.mod_eq_of_lt hr2], bv_set, ham, set_last _ _ _ hm, ← hz] at h
    rwa [UInt8.toNat_ofNat', show (2 : Nat) ^ 8 = 256 by decide, Nat.mod_eq_of_lt hr2] at h
  clear hz hW hsW ham hm hr hs k1 k2 ha hr2
  go_enter Tryd.func34, Tryd.ntmps34
  go_upto_region 1 with fail
  rw [HW.out]
  go_upto_region 3 with fail
  have hbt : But w.heap.size V0 (V0.setCell ⟨w.heap.size, 31, none⟩ (.int .u8 (r : Int))) := (But.refl _ _).set _
  have gb1_V1 := row_but gb1_V0 hbt (by omega)
  generalize V0.setCell ⟨w.heap.size, 31, none⟩ (.int .u8 (r : Int)) = V1 at *
  have gb0_V1 := hset
  have hb_V1 := But.below hb_V0 hbt (by omega) hb_V0.size
  have sb0_V1 := row_size gb0_V1
  have sb1_V1 := row_size gb1_V1
  clear gb0_V0 gb1_V0 sb0_V0 sb1_V0 c31 f31 hbt hb_V0 hset
  refine plain_start (S := fun W' => Below V1.heap.size V1 W') (by kernel_rfl) (Below.refl _ _) (fun hHeld => ?_)
  refine wpAnyH_take (i := 0) (oi := ⟨(some 18), _, _, _, _, _⟩) (v := _) rfl (by kernel_rfl) (by kernel_rfl) (by kernel_rfl) (fun _ _ _ h => h) (yieldsIf_load_mid (by rfl) _ _ rfl (w.heap.size) 0 rfl (bv z) _ (fun W' hW' => range_row ((hW'.block _ sb0_V1).trans gb0_V1.out)) (Tryd.underlying23) rfl (by rw [bv_len, Hz.out]; kernel_rfl)) hHeld ?_
  try simp only [pu]
  refine wpAnyH_ready (rs := [1]) (by kernel_rfl) (by simp) ?_
  refine AllReadyH.cons (i := 1) (o := ⟨(some 19), _, _, _, _, _⟩) rfl (fun K hK => ?_) AllReadyH.nil
  go_simp
  refine (rgood_any _ z Hz.out).mono ?_
  rintro e W1 ⟨o19, rfl, e19, hb1⟩
  refine hK.out _ _ (below_next hHeld hHeld.size hb1) (fun hHeld => ?_)
  clear hK K hb1
  try simp only [pu]
  refine wpAnyH_take (i := 2) (oi := ⟨(some 20), _, _, _, _, _⟩) (v := ?vqV1_1_2) rfl (by kernel_rfl) (by kernel_rfl) (by kernel_rfl) (fun _ _ _ h => h) (Or.inl ⟨by rfl, ?yqV1_1_2⟩) hHeld ?_
  case yqV1_1_2 => (intro W0 hSw; go_simp; try with_reducible rfl)
  try simp only [pu]
  refine wpAnyH_done (by kernel_rfl) ?_ _
  obtain ⟨V2, rV2⟩ : ∃ X, X = W1 := ⟨_, rfl⟩
  subst rV2
  have gb0_V2 := row_next2 gb0_V1 hHeld
  have sb0_V2 := row_size gb0_V2
  have gb1_V2 := row_next2 gb1_V1 hHeld
  have sb1_V2 := row_size gb1_V2
  have hb_V2 := below_next hb_V1 hb_V1.size hHeld
  clear hHeld hb_V1 sb0_V1 sb1_V1
  clear gb0_V1 gb1_V1
  rcases o19 with _ | _
  · have HF := vlt (show DeIs a z64i false from ⟨fun h => (by cases h), fun _ => dec_big (by rw [HY.out]; intro h; have h2 := e19.out; rw [decide_eq_true ((good_iff z Hz.out).2 h)] at h2; cases h2)⟩)
    go_upto_region 4 with fail
    refine plain_start_c (S := fun W' => Below V2.heap.size V2 W') 1 (by kernel_rfl) (Below.refl _ _) (fun hHeld => ?_)
    refine c_take (i := 0) (oi := ⟨(some 21), _, _, _, _, _⟩) (v := _) rfl (by decide) (by kernel_rfl) (by kernel_rfl) (by kernel_rfl) (fun _ _ _ h => h) (yields_build (by rfl) _ _ rfl [] (by rfl) _ hbp) hHeld ?_
    try simp only [pu]
    refine c_call (S' := fun _ => True) (o := ⟨none, _, _, _, _, _⟩) (by kernel_rfl) (by kernel_rfl) rfl (fun K hK => ?_)
    have cb0_0 := row_next2 gb0_V2 hHeld
    have cb1_0 := row_next2 gb1_V2 hHeld
    have cb_0 := below_next hb_V2 hb_V2.size hHeld
    clear hHeld
    refine step_row (by rfl) 57 (.tmp 2) (.tmp 21) rfl (w.heap.size + 1) (i64v z64i) rfl rfl 57 _ cb1_0.out (by rw [i64v_len, z64i_len]; kernel_rfl) (by rw [List.size_toArray]) (i64v_one _) ?_
    intro W2 cb1_1 kR
    refine hK.out _ _ trivial (fun hHeld => ?_)
    have cb0_1 := row_but cb0_0 kR (by omega)
    have cb_1 := But.below cb_0 kR (by omega) cb_0.size
    clear hK K kR cb_0 cb0_0 cb1_0 
    try simp only [pu]
    refine wpAnyH_take (i := 2) (oi := ⟨(some 3), _, _, _, _, _⟩) (v := (Value.bool false)) rfl (by kernel_rfl) (by kernel_rfl) (by kernel_rfl) (fun _ _ _ h => h) (Or.inl ⟨by rfl, ?yqV2_2_2⟩) hHeld ?_
    case yqV2_2_2 => (intro W0 hSw; go_simp; try with_reducible rfl)
    try simp only [pu]
    refine wpAnyH_done (by kernel_rfl) ?_ _
    obtain ⟨V3, rV3⟩ : ∃ X, X = W2 := ⟨_, rfl⟩
    subst rV3
    have gb0_V3 := cb0_1
    have sb0_V3 := row_size gb0_V3
    have gb1_V3 := cb1_1
    have sb1_V3 := row_size gb1_V3
    have hb_V3 := cb_1
    clear hHeld cb_1 hb_V2  cb0_1 cb1_1 sb0_V2 sb1_V2 gb0_V2 gb1_V2
    go_wp2_with fail
    refine bodyPost_ret (v := .tuple #[.agg (i64v z64i).toArray, .bool false]) (results_row_tmp Tryd.results34 _ _ (w.heap.size + 1) 57 _ (0, 0) _ rfl gb1_V3.out Tryd.underlying57 rfl (by rw [List.size_toArray, i64v_len, z64i_len]; kernel_rfl) _ rfl) rfl ⟨z64i, false, rfl, HF, z64i_len, hb_V3⟩
  · have HG := vlt ((good_iff z Hz.out).1 (of_decide_eq_true e19.out.symm))
    clear e19 e1 e2 HW
    go_upto_region 5 with fail
    refine plain_start (S := fun W' => Below V2.heap.size V2 W') (by kernel_rfl) (Below.refl _ _) (fun hHeld => ?_)
    refine wpAnyH_take (i := 0) (oi := ⟨(some 22), _, _, _, _, _⟩) (v := _) rfl (by kernel_rfl) (by kernel_rfl) (by kernel_rfl) (fun _ _ _ h => h) (yieldsIf_load_mid (by rfl) _ _ rfl (w.heap.size) 0 rfl (bv z) _ (fun W' hW' => range_row ((hW'.block _ sb0_V2).trans gb0_V2.out)) (Tryd.underlying23) rfl (by rw [bv_len, Hz.out]; kernel_rfl)) hHeld ?_
    try simp only [pu]
    refine mix_start (B := V2.heap.size) (al := [⟨2, 5, 55, ((i64v z16)).toArray⟩]) (fuel := 2) rfl hHeld (hHeld.size) ?_
    clear hHeld
    refine mix_call (i := 1) (o := ⟨(some 23), _, _, _, _, _⟩) rfl (by kernel_rfl) (by kernel_rfl) (by kernel_rfl) (by kernel_rfl) (fun x hx => by simp only [List.mem_cons, List.not_mem_nil, or_false] at hx; rcases hx with rfl <;> first | exact makes_new rfl rfl rfl rfl zero_fe) (fun W x _ h => h.alloc h.size _) (fun _ _ _ _ _ h => h) (fun X2 hHeld hBX K hK => ?_)
    go_simp
    refine (rinE_any _ z (Hz.out)).mono ?_
    rintro e W2 ⟨v23, rfl, e23, h23, hb2⟩
    refine hK.out _ _ (below_next hHeld hHeld.size hb2) hb2 ?_
    clear hK K hHeld hBX hb2
    try simp only [pu]
    refine mix_end (by kernel_rfl) (by kernel_rfl) (by simp) (by simp) (fun x hx => by simp only [List.mem_cons, List.not_mem_nil, or_false] at hx; rcases hx with rfl <;> first | exact makes_new rfl rfl rfl rfl zero_fe) (fun W x _ h => h.alloc h.size _) (fun D hD W3 hHeld hBX hHo => ?_)
    obtain ⟨G5, rfl⟩ := v_one hD
    have xG5 : Hid (W3.heap[G5]? = some (.cells ((i64v z16)).toArray 55 (0, 0))) := hHo.row (⟨2, 5, 55, ((i64v z16)).toArray⟩, G5) (by simp)
    have lG5 : V2.heap.size ≤ G5 := hHo.new (⟨2, 5, 55, ((i64v z16)).toArray⟩, G5) (by simp)
    clear hHo hBX hD
    simp only [markD, putD, List.foldr_cons, List.foldr_nil, pu, List.setIfInBounds_toArray, List.set_cons_zero, List.set_cons_succ]
    refine wpAnyH_ready (rs := [3]) (by kernel_rfl) (by simp) ?_
    refine AllReadyH.cons (i := 3) (o := ⟨none, _, _, _, _, _⟩) rfl (fun K hK => ?_) AllReadyH.nil
    refine step_row (by rfl) 55 (.tmp 5) (.tmp 23) rfl G5 (i64v v23) rfl rfl 55 _ xG5.out (by rw [i64v_len, h23.out]; kernel_rfl) (by rw [List.size_toArray, i64v_len, i64v_len, h23.out, (show z16.length = 16 from rfl)]) (i64v_one _) ?_
    intro W4 yG5 kG5
    refine hK.out _ _ (But.below hHeld kG5 lG5 hHeld.size) (fun hHeld => ?_)
    clear hK K kG5 xG5
    have xG5 := yG5
    clear yG5
    try simp only [pu]
    refine wpAnyH_done (by kernel_rfl) ?_ _
    obtain ⟨V3, rV3⟩ : ∃ X, X = W4 := ⟨_, rfl⟩
    subst rV3
    have gb0_V3 := row_next2 gb0_V2 hHeld
    have sb0_V3 := row_size gb0_V3
    have gb1_V3 := row_next2 gb1_V2 hHeld
    have sb1_V3 := row_size gb1_V3
    have hb_V3 := below_next hb_V2 hb_V2.size hHeld
    have gn5_V3 := xG5
    have sn5_V3 := row_size gn5_V3
    clear xG5
    have wG5 : w.heap.size + 2 ≤ G5 := by omega
    clear hHeld hb_V2 sb0_V2 sb1_V2
    clear gb0_V2 gb1_V2 lG5
    go_upto_region 6 with fail
    refine plain_start (S := fun W' => Below V3.heap.size V3 W') (by kernel_rfl) (Below.refl _ _) (fun hHeld => ?_)
    refine wpAnyH_take (i := 0) (oi := ⟨(some 24), _, _, _, _, _⟩) (v := _) rfl (by kernel_rfl) (by kernel_rfl) (by kernel_rfl) (fun _ _ _ h => h) (yieldsIf_load_mid (by rfl) _ _ rfl G5 0 rfl (i64v v23) _ (fun W' hW' => range_row ((hW'.block _ sn5_V3).trans gn5_V3.out)) (Tryd.underlying55) rfl (by rw [i64v_len, h23.out]; kernel_rfl)) hHeld ?_
    try simp only [pu]
    refine wpAnyH_take (i := 1) (oi := ⟨(some 25), _, _, _, _, _⟩) (v := _) rfl (by kernel_rfl) (by kernel_rfl) (by kernel_rfl) (fun _ _ _ h => h) (yieldsIf_load_mid (by rfl) _ _ rfl G5 0 rfl (i64v v23) _ (fun W' hW' => range_row ((hW'.block _ sn5_V3).trans gn5_V3.out)) (Tryd.underlying55) rfl (by rw [i64v_len, h23.out]; kernel_rfl)) hHeld ?_
    try simp only [pu]
    refine mix_start (B := V3.heap.size) (al := [⟨3, 6, 55, ((i64v z16)).toArray⟩]) (fuel := 2) rfl hHeld (hHeld.size) ?_
    clear hHeld
    refine mix_call (i := 2) (o := ⟨(some 26), _, _, _, _, _⟩) rfl (by kernel_rfl) (by kernel_rfl) (by kernel_rfl) (by kernel_rfl) (fun x hx => by simp only [List.mem_cons, List.not_mem_nil, or_false] at hx; rcases hx with rfl <;> first | exact makes_new rfl rfl rfl rfl zero_fe) (fun W x _ h => h.alloc h.size _) (fun _ _ _ _ _ h => h) (fun X5 hHeld hBX K hK => ?_)
    go_simp
    refine (rtimesE_any _ v23 v23 (e23.out) (e23.out)).mono ?_
    rintro e W5 ⟨v26, rfl, e26, h26, hb5⟩
    refine hK.out _ _ (below_next hHeld hHeld.size hb5) hb5 ?_
    clear hK K hHeld hBX hb5
    try simp only [pu]
    refine mix_end (by kernel_rfl) (by kernel_rfl) (by simp) (by simp) (fun x hx => by simp only [List.mem_cons, List.not_mem_nil, or_false] at hx; rcases hx with rfl <;> first | exact makes_new rfl rfl rfl rfl zero_fe) (fun W x _ h => h.alloc h.size _) (fun D hD W6 hHeld hBX hHo => ?_)
    obtain ⟨G6, rfl⟩ := v_one hD
    have xG6 : Hid (W6.heap[G6]? = some (.cells ((i64v z16)).toArray 55 (0, 0))) := hHo.row (⟨3, 6, 55, ((i64v z16)).toArray⟩, G6) (by simp)
    have lG6 : V3.heap.size ≤ G6 := hHo.new (⟨3, 6, 55, ((i64v z16)).toArray⟩, G6) (by simp)
    clear hHo hBX hD
    simp only [markD, putD, List.foldr_cons, List.foldr_nil, pu, List.setIfInBounds_toArray, List.set_cons_zero, List.set_cons_succ]
    refine wpAnyH_ready (rs := [4]) (by kernel_rfl) (by simp) ?_
    refine AllReadyH.cons (i := 4) (o := ⟨none, _, _, _, _, _⟩) rfl (fun K hK => ?_) AllReadyH.nil
    refine step_row (by rfl) 55 (.tmp 6) (.tmp 26) rfl G6 (i64v v26) rfl rfl 55 _ xG6.out (by rw [i64v_len, h26.out]; kernel_rfl) (by rw [List.size_toArray, i64v_len, i64v_len, h26.out, (show z16.length = 16 from rfl)]) (i64v_one _) ?_
    intro W7 yG6 kG6
    refine hK.out _ _ (But.below hHeld kG6 lG6 hHeld.size) (fun hHeld => ?_)
    clear hK K kG6 xG6
    have xG6 := yG6
    clear yG6
    try simp only [pu]
    refine wpAnyH_done (by kernel_rfl) ?_ _
    obtain ⟨V4, rV4⟩ : ∃ X, X = W7 := ⟨_, rfl⟩
    subst rV4
    have gb0_V4 := row_next2 gb0_V3 hHeld
    have sb0_V4 := row_size gb0_V4
    have gb1_V4 := row_next2 gb1_V3 hHeld
    have sb1_V4 := row_size gb1_V4
    have gn5_V4 := row_next2 gn5_V3 hHeld
    have sn5_V4 := row_size gn5_V4
    have hb_V4 := below_next hb_V3 hb_V3.size hHeld
    have gn6_V4 := xG6
    have sn6_V4 := row_size gn6_V4
    clear xG6
    have wG6 : w.heap.size + 2 ≤ G6 := by omega
    have nG5G6 : G5 ≠ G6 := by omega
    clear hHeld hb_V3 sb0_V3 sb1_V3 sn5_V3
    clear gb0_V3 gb1_V3 gn5_V3 lG6
    go_upto_region 7 with fail
    refine wp_region_held_drew (S := fun W' => Below V4.heap.size V4 W') (by kernel_rfl) ((Below.refl _ _).drew) (fun hHeld => ?_)
    refine wpAnyH_take (i := 0) (oi := ⟨(some 27), _, _, _, _, _⟩) (v := _) rfl (by kernel_rfl) (by kernel_rfl) (by kernel_rfl) (fun _ _ _ h => h) (yieldsIf_load_mid (by rfl) _ _ rfl G6 0 rfl (i64v v26) _ (fun W' hW' => range_row ((hW'.block _ sn6_V4).trans gn6_V4.out)) (Tryd.underlying55) rfl (by rw [i64v_len, h26.out]; kernel_rfl)) hHeld ?_
    try simp only [pu]
    refine wpAnyH_take (i := 1) (oi := ⟨(some 28), _, _, _, _, _⟩) (v := _) rfl (by kernel_rfl) (by kernel_rfl) (by kernel_rfl) (fun _ _ _ h => h) (yields_build (by rfl) _ _ rfl [(0, .int .i64 1)] (by rfl) _ hb1) hHeld ?_
    try simp only [pu]
    refine wpAnyH_take (i := 4) (oi := ⟨(some 31), _, _, _, _, _⟩) (v := _) rfl (by kernel_rfl) (by kernel_rfl) (by kernel_rfl) (fun _ _ _ h => h) (yieldsIf_load_mid (by rfl) _ _ rfl G6 0 rfl (i64v v26) _ (fun W' hW' => range_row ((hW'.block _ sn6_V4).trans gn6_V4.out)) (Tryd.underlying55) rfl (by rw [i64v_len, h26.out]; kernel_rfl)) hHeld ?_
    try simp only [pu]
    refine wpAnyH_take (i := 6) (oi := ⟨(some 33), _, _, _, _, _⟩) (v := _) rfl (by kernel_rfl) (by kernel_rfl) (by kernel_rfl) (fun _ _ _ h => h) (yields_build (by rfl) _ _ rfl [(0, .int .i64 1)] (by rfl) _ hb1) hHeld ?_
    try simp only [pu]
    refine mix_start (B := V4.heap.size) (al := [⟨10, 7, 55, ((i64v z16)).toArray⟩]) (fuel := 7) rfl hHeld (hHeld.size) ?_
    clear hHeld
    refine mix_call (i := 2) (o := ⟨(some 29), _, _, _, _, _⟩) rfl (by kernel_rfl) (by kernel_rfl) (by kernel_rfl) (by kernel_rfl) (fun x hx => by simp only [List.mem_cons, List.not_mem_nil, or_false] at hx; rcases hx with rfl <;> first | exact makes_new rfl rfl rfl rfl zero_fe) (fun W x _ h => h.alloc h.size _) (fun _ _ _ _ _ h => h) (fun X8 hHeld hBX K hK => ?_)
    go_simp
    refine (rminusE_any _ v26 ONE (e26.out) (FO.out)).mono ?_
    rintro e W8 ⟨v29, rfl, e29, h29, hb8⟩
    refine hK.out _ _ (below_next hHeld hHeld.size hb8) hb8 ?_
    clear hK K hHeld hBX hb8
    try simp only [pu]
    refine mix_call (i := 3) (o := ⟨(some 30), _, _, _, _, _⟩) rfl (by kernel_rfl) (by kernel_rfl) (by kernel_rfl) (by kernel_rfl) (fun x hx => by simp only [List.mem_cons, List.not_mem_nil, or_false] at hx; rcases hx with rfl <;> first | exact makes_new rfl rfl rfl rfl zero_fe) (fun W x _ h => h.alloc h.size _) (fun _ _ _ _ _ h => h) (fun X9 hHeld hBX K hK => ?_)
    go_simp
    refine (rd_any _  ).mono ?_
    rintro e W9 ⟨v30, rfl, e30, h30, hb9⟩
    refine hK.out _ _ (below_next hHeld hHeld.size hb9) hb9 ?_
    clear hK K hHeld hBX hb9
    try simp only [pu]
    refine mix_call (i := 5) (o := ⟨(some 32), _, _, _, _, _⟩) rfl (by kernel_rfl) (by kernel_rfl) (by kernel_rfl) (by kernel_rfl) (fun x hx => by simp only [List.mem_cons, List.not_mem_nil, or_false] at hx; rcases hx with rfl <;> first | exact makes_new rfl rfl rfl rfl zero_fe) (fun W x _ h => h.alloc h.size _) (fun _ _ _ _ _ h => h) (fun X10 hHeld hBX K hK => ?_)
    go_simp
    refine (rtimesE_any _ v30 v26 (e30.out) (e26.out)).mono ?_
    rintro e W10 ⟨v32, rfl, e32, h32, hb10⟩
    refine hK.out _ _ (below_next hHeld hHeld.size hb10) hb10 ?_
    clear hK K hHeld hBX hb10
    try simp only [pu]
    refine mix_call (i := 7) (o := ⟨(some 34), _, _, _, _, _⟩) rfl (by kernel_rfl) (by kernel_rfl) (by kernel_rfl) (by kernel_rfl) (fun x hx => by simp only [List.mem_cons, List.not_mem_nil, or_false] at hx; rcases hx with rfl <;> first | exact makes_new rfl rfl rfl rfl zero_fe) (fun W x _ h => h.alloc h.size _) (fun _ _ _ _ _ h => h) (fun X11 hHeld hBX K hK => ?_)
    go_simp
    refine (rplusE_any _ v32 ONE (e32.out) (FO.out)).mono ?_
    rintro e W11 ⟨v34, rfl, e34, h34, hb11⟩
    refine hK.out _ _ (below_next hHeld hHeld.size hb11) hb11 ?_
    clear hK K hHeld hBX hb11
    try simp only [pu]
    refine mix_call (i := 8) (o := ⟨(some 35), _, _, _, _, _⟩) rfl (by kernel_rfl) (by kernel_rfl) (by kernel_rfl) (by kernel_rfl) (fun x hx => by simp only [List.mem_cons, List.not_mem_nil, or_false] at hx; rcases hx with rfl <;> first | exact makes_new rfl rfl rfl rfl zero_fe) (fun W x _ h => h.alloc h.size _) (fun _ _ _ _ _ h => h) (fun X12 hHeld hBX K hK => ?_)
    go_simp
    refine (rinvE_any _ v34 (e34.out)).mono ?_
    rintro e W12 ⟨v35, rfl, e35, h35, hb12⟩
    refine hK.out _ _ (below_next hHeld hHeld.size hb12) hb12 ?_
    clear hK K hHeld hBX hb12
    try simp only [pu]
    refine mix_call (i := 9) (o := ⟨(some 36), _, _, _, _, _⟩) rfl (by kernel_rfl) (by kernel_rfl) (by kernel_rfl) (by kernel_rfl) (fun x hx => by simp only [List.mem_cons, List.not_mem_nil, or_false] at hx; rcases hx with rfl <;> first | exact makes_new rfl rfl rfl rfl zero_fe) (fun W x _ h => h.alloc h.size _) (fun _ _ _ _ _ h => h) (fun X13 hHeld hBX K hK => ?_)
    go_simp
    refine (rtimesE_any _ v29 v35 (e29.out) (e35.out)).mono ?_
    rintro e W13 ⟨v36, rfl, e36, h36, hb13⟩
    refine hK.out _ _ (below_next hHeld hHeld.size hb13) hb13 ?_
    clear hK K hHeld hBX hb13
    try simp only [pu]
    refine mix_end (by kernel_rfl) (by kernel_rfl) (by simp) (by simp) (fun x hx => by simp only [List.mem_cons, List.not_mem_nil, or_false] at hx; rcases hx with rfl <;> first | exact makes_new rfl rfl rfl rfl zero_fe) (fun W x _ h => h.alloc h.size _) (fun D hD W14 hHeld hBX hHo => ?_)
    obtain ⟨G7, rfl⟩ := v_one hD
    have xG7 : Hid (W14.heap[G7]? = some (.cells ((i64v z16)).toArray 55 (0, 0))) := hHo.row (⟨10, 7, 55, ((i64v z16)).toArray⟩, G7) (by simp)
    have lG7 : V4.heap.size ≤ G7 := hHo.new (⟨10, 7, 55, ((i64v z16)).toArray⟩, G7) (by simp)
    clear hHo hBX hD
    simp only [markD, putD, List.foldr_cons, List.foldr_nil, pu, List.setIfInBounds_toArray, List.set_cons_zero, List.set_cons_succ]
    refine wpAnyH_ready (rs := [11]) (by kernel_rfl) (by simp) ?_
    refine AllReadyH.cons (i := 11) (o := ⟨none, _, _, _, _, _⟩) rfl (fun K hK => ?_) AllReadyH.nil
    refine step_row (by rfl) 55 (.tmp 7) (.tmp 36) rfl G7 (i64v v36) rfl rfl 55 _ xG7.out (by rw [i64v_len, h36.out]; kernel_rfl) (by rw [List.size_toArray, i64v_len, i64v_len, h36.out, (show z16.length = 16 from rfl)]) (i64v_one _) ?_
    intro W15 yG7 kG7
    refine hK.out _ _ (But.below hHeld kG7 lG7 hHeld.size) (fun hHeld => ?_)
    clear hK K kG7 xG7
    have xG7 := yG7
    clear yG7
    try simp only [pu]
    refine wpAnyH_done (by kernel_rfl) ?_ _
    obtain ⟨V5, rV5⟩ : ∃ X, X = W15 := ⟨_, rfl⟩
    subst rV5
    have gb0_V5 := row_next2 gb0_V4 hHeld
    have sb0_V5 := row_size gb0_V5
    have gb1_V5 := row_next2 gb1_V4 hHeld
    have sb1_V5 := row_size gb1_V5
    have gn5_V5 := row_next2 gn5_V4 hHeld
    have sn5_V5 := row_size gn5_V5
    have gn6_V5 := row_next2 gn6_V4 hHeld
    have sn6_V5 := row_size gn6_V5
    have hb_V5 := below_next hb_V4 hb_V4.size hHeld
    have gn7_V5 := xG7
    have sn7_V5 := row_size gn7_V5
    clear xG7
    have wG7 : w.heap.size + 2 ≤ G7 := by omega
    have nG5G7 : G5 ≠ G7 := by omega
    have nG6G7 : G6 ≠ G7 := by omega
    clear hHeld hb_V4 sb0_V4 sb1_V4 sn5_V4 sn6_V4
    clear gb0_V4 gb1_V4 gn5_V4 gn6_V4 lG7
    have HU := vlt (show FvE v36 (uE (cW z)) from e36.out)
    go_upto_region 8 with fail
    refine plain_start (S := fun W' => Below V5.heap.size V5 W') (by kernel_rfl) (Below.refl _ _) (fun hHeld => ?_)
    refine wpAnyH_take (i := 0) (oi := ⟨(some 38), _, _, _, _, _⟩) (v := _) rfl (by kernel_rfl) (by kernel_rfl) (by kernel_rfl) (fun _ _ _ h => h) (yieldsIf_load_mid (by rfl) _ _ rfl G7 0 rfl (i64v v36) _ (fun W' hW' => range_row ((hW'.block _ sn7_V5).trans gn7_V5.out)) (Tryd.underlying55) rfl (by rw [i64v_len, h36.out]; kernel_rfl)) hHeld ?_
    try simp only [pu]
    refine mix_start (B := V5.heap.size) (al := [⟨5, 8, 23, ((bv z32)).toArray⟩]) (fuel := 6) rfl hHeld (hHeld.size) ?_
    clear hHeld
    refine mix_call (i := 1) (o := ⟨(some 39), _, _, _, _, _⟩) rfl (by kernel_rfl) (by kernel_rfl) (by kernel_rfl) (by kernel_rfl) (fun x hx => by simp only [List.mem_cons, List.not_mem_nil, or_false] at hx; rcases hx with rfl <;> first | exact makes_new rfl rfl rfl rfl zero_word) (fun W x _ h => h.alloc h.size _) (fun _ _ _ _ _ h => h) (fun X16 hHeld hBX K hK => ?_)
    go_simp
    refine (rrootE_any _ v36 (HU.out)).mono ?_
    rintro e W16 ⟨v39, o39, rfl, e39, h39, hb16⟩
    refine hK.out _ _ (below_next hHeld hHeld.size hb16) hb16 ?_
    clear hK K hHeld hBX hb16
    try simp only [pu]
    refine mix_take (i := 2) (o := ⟨(some 37), _, _, _, _, _⟩) (v := ?vqV5_5_2) rfl (by kernel_rfl) (by kernel_rfl) (by kernel_rfl) (by kernel_rfl) (by kernel_rfl) (fun _ _ _ h => h) (Or.inl ⟨by rfl, ?yqV5_5_2⟩) ?_
    case yqV5_5_2 => (intro W0 hSw; go_simp; try with_reducible rfl)
    try simp only [pu]
    refine mix_take (i := 3) (o := ⟨(some 40), _, _, _, _, _⟩) (v := .agg (bv v39).toArray) rfl (by kernel_rfl) (by kernel_rfl) (by kernel_rfl) (by kernel_rfl) (by kernel_rfl) (fun _ _ _ h => h) (Or.inl ⟨by rfl, ?yqV5_5_3⟩) ?_
    case yqV5_5_3 => (intro W0 hSw; go_simp; try with_reducible rfl)
    try simp only [pu]
    refine mix_take (i := 4) (o := ⟨(some 41), _, _, _, _, _⟩) (v := .bool o39) rfl (by kernel_rfl) (by kernel_rfl) (by kernel_rfl) (by kernel_rfl) (by kernel_rfl) (fun _ _ _ h => h) (Or.inl ⟨by rfl, ?yqV5_5_4⟩) ?_
    case yqV5_5_4 => (intro W0 hSw; go_simp; try with_reducible rfl)
    try simp only [pu]
    refine mix_end (by kernel_rfl) (by kernel_rfl) (by simp) (by simp) (fun x hx => by simp only [List.mem_cons, List.not_mem_nil, or_false] at hx; rcases hx with rfl <;> first | exact makes_new rfl rfl rfl rfl zero_word) (fun W x _ h => h.alloc h.size _) (fun D hD W17 hHeld hBX hHo => ?_)
    obtain ⟨G8, rfl⟩ := v_one hD
    have xG8 : Hid (W17.heap[G8]? = some (.cells ((bv z32)).toArray 23 (0, 0))) := hHo.row (⟨5, 8, 23, ((bv z32)).toArray⟩, G8) (by simp)
    have lG8 : V5.heap.size ≤ G8 := hHo.new (⟨5, 8, 23, ((bv z32)).toArray⟩, G8) (by simp)
    clear hHo hBX hD
    simp only [markD, putD, List.foldr_cons, List.foldr_nil, pu, List.setIfInBounds_toArray, List.set_cons_zero, List.set_cons_succ]
    refine wpAnyH_ready (rs := [6]) (by kernel_rfl) (by simp) ?_
    refine AllReadyH.cons (i := 6) (o := ⟨none, _, _, _, _, _⟩) rfl (fun K hK => ?_) AllReadyH.nil
    refine step_row (by rfl) 23 (.tmp 8) (.tmp 40) rfl G8 (bv v39) rfl rfl 23 _ xG8.out (by rw [bv_len, h39.out]; kernel_rfl) (by rw [List.size_toArray, bv_len, bv_len, h39.out, z32_len]) (bv_one _) ?_
    intro W18 yG8 kG8
    refine hK.out _ _ (But.below hHeld kG8 lG8 hHeld.size) (fun hHeld => ?_)
    clear hK K kG8 xG8
    have xG8 := yG8
    clear yG8
    try simp only [pu]
    refine wpAnyH_take (i := 7) (oi := ⟨(some 9), _, _, _, _, _⟩) (v := ?vqV5_5_7) rfl (by kernel_rfl) (by kernel_rfl) (by kernel_rfl) (fun _ _ _ h => h) (Or.inl ⟨by rfl, ?yqV5_5_7⟩) hHeld ?_
    case yqV5_5_7 => (intro W0 hSw; go_simp; try with_reducible rfl)
    try simp only [pu]
    refine wpAnyH_done (by kernel_rfl) ?_ _
    obtain ⟨V6, rV6⟩ : ∃ X, X = W18 := ⟨_, rfl⟩
    subst rV6
    have gb0_V6 := row_next2 gb0_V5 hHeld
    have sb0_V6 := row_size gb0_V6
    have gb1_V6 := row_next2 gb1_V5 hHeld
    have sb1_V6 := row_size gb1_V6
    have gn5_V6 := row_next2 gn5_V5 hHeld
    have sn5_V6 := row_size gn5_V6
    have gn6_V6 := row_next2 gn6_V5 hHeld
    have sn6_V6 := row_size gn6_V6
    have gn7_V6 := row_next2 gn7_V5 hHeld
    have sn7_V6 := row_size gn7_V6
    have hb_V6 := below_next hb_V5 hb_V5.size hHeld
    have gn8_V6 := xG8
    have sn8_V6 := row_size gn8_V6
    clear xG8
    have wG8 : w.heap.size + 2 ≤ G8 := by omega
    have nG5G8 : G5 ≠ G8 := by omega
    have nG6G8 : G6 ≠ G8 := by omega
    have nG7G8 : G7 ≠ G8 := by omega
    clear hHeld hb_V5 sb0_V5 sb1_V5 sn5_V5 sn6_V5 sn7_V5
    clear gb0_V5 gb1_V5 gn5_V5 gn6_V5 gn7_V5 lG8
    rcases o39 with _ | _
    · have HN := vlt (dec_none (w := a) (by rw [HY.out]; exact e39.out.2 rfl))
      have HF := vlt (show DeIs a z64i false from ⟨fun h => (by cases h), fun _ => HN.out⟩)
      go_upto_region 10 with fail
      refine plain_start_c (S := fun W' => Below V6.heap.size V6 W') 1 (by kernel_rfl) (Below.refl _ _) (fun hHeld => ?_)
      refine c_take (i := 0) (oi := ⟨(some 53), _, _, _, _, _⟩) (v := _) rfl (by decide) (by kernel_rfl) (by kernel_rfl) (by kernel_rfl) (fun _ _ _ h => h) (yields_build (by rfl) _ _ rfl [] (by rfl) _ hbp) hHeld ?_
      try simp only [pu]
      refine c_call (S' := fun _ => True) (o := ⟨none, _, _, _, _, _⟩) (by kernel_rfl) (by kernel_rfl) rfl (fun K hK => ?_)
      have cb0_0 := row_next2 gb0_V6 hHeld
      have cb1_0 := row_next2 gb1_V6 hHeld
      have cn5_0 := row_next2 gn5_V6 hHeld
      have cn6_0 := row_next2 gn6_V6 hHeld
      have cn7_0 := row_next2 gn7_V6 hHeld
      have cn8_0 := row_next2 gn8_V6 hHeld
      have cb_0 := below_next hb_V6 hb_V6.size hHeld
      clear hHeld
      refine step_row (by rfl) 57 (.tmp 2) (.tmp 53) rfl (w.heap.size + 1) (i64v z64i) rfl rfl 57 _ cb1_0.out (by rw [i64v_len, z64i_len]; kernel_rfl) (by rw [List.size_toArray]) (i64v_one _) ?_
      intro W19 cb1_1 kR
      refine hK.out _ _ trivial (fun hHeld => ?_)
      have cb0_1 := row_but cb0_0 kR (by omega)
      have cn5_1 := row_but cn5_0 kR (by omega)
      have cn6_1 := row_but cn6_0 kR (by omega)
      have cn7_1 := row_but cn7_0 kR (by omega)
      have cn8_1 := row_but cn8_0 kR (by omega)
      have cb_1 := But.below cb_0 kR (by omega) cb_0.size
      clear hK K kR cb_0 cb0_0 cb1_0 cn5_0 cn6_0 cn7_0 cn8_0 
      try simp only [pu]
      refine wpAnyH_take (i := 2) (oi := ⟨(some 3), _, _, _, _, _⟩) (v := (Value.bool false)) rfl (by kernel_rfl) (by kernel_rfl) (by kernel_rfl) (fun _ _ _ h => h) (Or.inl ⟨by rfl, ?yqV6_6_2⟩) hHeld ?_
      case yqV6_6_2 => (intro W0 hSw; go_simp; try with_reducible rfl)
      try simp only [pu]
      refine wpAnyH_done (by kernel_rfl) ?_ _
      obtain ⟨V7, rV7⟩ : ∃ X, X = W19 := ⟨_, rfl⟩
      subst rV7
      have gb0_V7 := cb0_1
      have sb0_V7 := row_size gb0_V7
      have gb1_V7 := cb1_1
      have sb1_V7 := row_size gb1_V7
      have gn5_V7 := cn5_1
      have sn5_V7 := row_size gn5_V7
      have gn6_V7 := cn6_1
      have sn6_V7 := row_size gn6_V7
      have gn7_V7 := cn7_1
      have sn7_V7 := row_size gn7_V7
      have gn8_V7 := cn8_1
      have sn8_V7 := row_size gn8_V7
      have hb_V7 := cb_1
      clear hHeld cb_1 hb_V6  cb0_1 cb1_1 cn5_1 cn6_1 cn7_1 cn8_1 sb0_V6 sb1_V6 sn5_V6 sn6_V6 sn7_V6 sn8_V6 gb0_V6 gb1_V6 gn5_V6 gn6_V6 gn7_V6 gn8_V6
      go_wp2_with fail
      refine bodyPost_ret (v := .tuple #[.agg (i64v z64i).toArray, .bool false]) (results_row_tmp Tryd.results34 _ _ (w.heap.size + 1) 57 _ (0, 0) _ rfl gb1_V7.out Tryd.underlying57 rfl (by rw [List.size_toArray, i64v_len, z64i_len]; kernel_rfl) _ rfl) rfl ⟨z64i, Or.inl ⟨rfl, HF, z64i_len, hb_V7⟩⟩
    · have HR := vlt (e39.out.1 rfl)
      clear e39
      have sG := row_size gn8_V6
      obtain rfl | rfl : s = 0 ∨ s = 1 := by omega
      · by_cases hnz : v39 = z32
        · subst hnz
          have heq := eql_bytes_same (P := Tryd.prog) Tryd.underlying23 Tryd.underlying5 Tryd.sizeByte z32 z32_len
          go_upto_region 11 with (first
            | (with_reducible refine wpList_load_row_w (by kernel_rfl) 23 (.tmp 8) rfl G8 rfl 23 (bv z32).toArray (0, 0) _ gn8_V6.out Tryd.underlying23 rfl (by rw [bv_size z32 z32_len]; kernel_rfl) ?_)
            | (with_reducible refine wpList_build_w (by kernel_rfl) 23 #[] rfl [] (by kernel_rfl) (bv z32).toArray hbz ?_)
            | (with_reducible refine wpList_eql_w (by kernel_rfl) 23 _ (.tmp 45) (.tmp 46) rfl (by kernel_rfl) (bv z32).toArray (bv z32).toArray rfl rfl true (heq _) ?_))
          clear heq
          obtain ⟨c, hc, hx0, hcx⟩ := first_byte z32 z32_len
          have c0 : V6.cell? ⟨G8, 0, none⟩ = some (.int .u8 (c : Int)) := by
            have h := byte_cell gn8_V6.out hx0
            rwa [UInt8.toNat_ofNat', show (2 : Nat) ^ 8 = 256 by decide, Nat.mod_eq_of_lt hc] at h
          have el := low8 c hc
          obtain ⟨d, hd⟩ : ∃ d, d = c % 2 := ⟨_, rfl⟩
          have HD := vlt (show ln z32 % 2 = d by rw [hd, hcx])
          have hd2 : d < 2 := by omega
          rw [← hd] at el
          clear hd hcx hx0
          obtain rfl : d = 0 := by have := HD.out; have := z32_odd; omega
          have HP := vlt (dec_same HA.out HY.out HS.out HG.out HR.out.2 HR.out.1 HD.out)
          go_upto_region 13 with fail
          clear c0 el
          refine plain_start (S := fun W' => Below V6.heap.size V6 W') (by kernel_rfl) (Below.refl _ _) (fun hHeld => ?_)
          refine wpAnyH_take (i := 0) (oi := ⟨(some 62), _, _, _, _, _⟩) (v := _) rfl (by kernel_rfl) (by kernel_rfl) (by kernel_rfl) (fun _ _ _ h => h) (yieldsIf_load_mid (by rfl) _ _ rfl G8 0 rfl (bv z32) _ (fun W' hW' => range_row ((hW'.block _ sn8_V6).trans gn8_V6.out)) (Tryd.underlying23) rfl (by rw [bv_len, z32_len]; kernel_rfl)) hHeld ?_
          try simp only [pu]
          refine mix_start (B := V6.heap.size) (al := [⟨2, 10, 55, ((i64v z16)).toArray⟩]) (fuel := 2) rfl hHeld (hHeld.size) ?_
          clear hHeld
          refine mix_call (i := 1) (o := ⟨(some 63), _, _, _, _, _⟩) rfl (by kernel_rfl) (by kernel_rfl) (by kernel_rfl) (by kernel_rfl) (fun x hx => by simp only [List.mem_cons, List.not_mem_nil, or_false] at hx; rcases hx with rfl <;> first | exact makes_new rfl rfl rfl rfl zero_fe) (fun W x _ h => h.alloc h.size _) (fun _ _ _ _ _ h => h) (fun X19 hHeld hBX K hK => ?_)
          go_simp
          refine (rinE_any _ z32 (z32_len)).mono ?_
          rintro e W19 ⟨v63, rfl, e63, h63, hb19⟩
          refine hK.out _ _ (below_next hHeld hHeld.size hb19) hb19 ?_
          clear hK K hHeld hBX hb19
          try simp only [pu]
          refine mix_end (by kernel_rfl) (by kernel_rfl) (by simp) (by simp) (fun x hx => by simp only [List.mem_cons, List.not_mem_nil, or_false] at hx; rcases hx with rfl <;> first | exact makes_new rfl rfl rfl rfl zero_fe) (fun W x _ h => h.alloc h.size _) (fun D hD W20 hHeld hBX hHo => ?_)
          obtain ⟨G10, rfl⟩ := v_one hD
          have xG10 : Hid (W20.heap[G10]? = some (.cells ((i64v z16)).toArray 55 (0, 0))) := hHo.row (⟨2, 10, 55, ((i64v z16)).toArray⟩, G10) (by simp)
          have lG10 : V6.heap.size ≤ G10 := hHo.new (⟨2, 10, 55, ((i64v z16)).toArray⟩, G10) (by simp)
          clear hHo hBX hD
          simp only [markD, putD, List.foldr_cons, List.foldr_nil, pu, List.setIfInBounds_toArray, List.set_cons_zero, List.set_cons_succ]
          refine wpAnyH_ready (rs := [3]) (by kernel_rfl) (by simp) ?_
          refine AllReadyH.cons (i := 3) (o := ⟨none, _, _, _, _, _⟩) rfl (fun K hK => ?_) AllReadyH.nil
          refine step_row (by rfl) 55 (.tmp 10) (.tmp 63) rfl G10 (i64v v63) rfl rfl 55 _ xG10.out (by rw [i64v_len, h63.out]; kernel_rfl) (by rw [List.size_toArray, i64v_len, i64v_len, h63.out, (show z16.length = 16 from rfl)]) (i64v_one _) ?_
          intro W21 yG10 kG10
          refine hK.out _ _ (But.below hHeld kG10 lG10 hHeld.size) (fun hHeld => ?_)
          clear hK K kG10 xG10
          have xG10 := yG10
          clear yG10
          try simp only [pu]
          refine wpAnyH_done (by kernel_rfl) ?_ _
          obtain ⟨V7, rV7⟩ : ∃ X, X = W21 := ⟨_, rfl⟩
          subst rV7
          have gb0_V7 := row_next2 gb0_V6 hHeld
          have sb0_V7 := row_size gb0_V7
          have gb1_V7 := row_next2 gb1_V6 hHeld
          have sb1_V7 := row_size gb1_V7
          have gn5_V7 := row_next2 gn5_V6 hHeld
          have sn5_V7 := row_size gn5_V7
          have gn6_V7 := row_next2 gn6_V6 hHeld
          have sn6_V7 := row_size gn6_V7
          have gn7_V7 := row_next2 gn7_V6 hHeld
          have sn7_V7 := row_size gn7_V7
          have gn8_V7 := row_next2 gn8_V6 hHeld
          have sn8_V7 := row_size gn8_V7
          have hb_V7 := below_next hb_V6 hb_V6.size hHeld
          have gn10_V7 := xG10
          have sn10_V7 := row_size gn10_V7
          clear xG10
          have wG10 : w.heap.size + 2 ≤ G10 := by omega
          have nG5G10 : G5 ≠ G10 := by omega
          have nG6G10 : G6 ≠ G10 := by omega
          have nG7G10 : G7 ≠ G10 := by omega
          have nG8G10 : G8 ≠ G10 := by omega
          clear hHeld hb_V6 sb0_V6 sb1_V6 sn5_V6 sn6_V6 sn7_V6 sn8_V6
          clear gb0_V6 gb1_V6 gn5_V6 gn6_V6 gn7_V6 gn8_V6 lG10
          go_upto_region 14 with fail
          refine c_start (S := fun W' => Below V7.heap.size V7 W') 7 (by kernel_rfl) ((Below.refl _ _).drew) (fun hHeld => ?_)
          refine c_read (i := 0) (oi := ⟨(some 64), _, _, _, _, _⟩) (v := _) rfl (by decide) (by kernel_rfl) (by kernel_rfl) (by kernel_rfl) (by kernel_rfl) (by kernel_rfl) (fun _ _ _ h => h) (yieldsIf_load_mid (by rfl) _ _ rfl G10 0 rfl (i64v v63) _ (fun W' hW' => range_row ((hW'.block _ sn10_V7).trans gn10_V7.out)) (Tryd.underlying55) rfl (by rw [i64v_len, h63.out]; kernel_rfl)) hHeld ?_
          try simp only [pu]
          refine c_read (i := 1) (oi := ⟨(some 65), _, _, _, _, _⟩) (v := _) rfl (by decide) (by kernel_rfl) (by kernel_rfl) (by kernel_rfl) (by kernel_rfl) (by kernel_rfl) (fun _ _ _ h => h) (yieldsIf_load_mid (by rfl) _ _ rfl G5 0 rfl (i64v v23) _ (fun W' hW' => range_row ((hW'.block _ sn5_V7).trans gn5_V7.out)) (Tryd.underlying55) rfl (by rw [i64v_len, h23.out]; kernel_rfl)) hHeld ?_
          try simp only [pu]
          refine c_take (i := 2) (oi := ⟨(some 66), _, _, _, _, _⟩) (v := _) rfl (by decide) (by kernel_rfl) (by kernel_rfl) (by kernel_rfl) (fun _ _ _ h => h) (yields_build (by rfl) _ _ rfl [(0, .int .i64 1)] (by rfl) _ hb1) hHeld ?_
          try simp only [pu]
          refine c_read (i := 3) (oi := ⟨(some 67), _, _, _, _, _⟩) (v := _) rfl (by decide) (by kernel_rfl) (by kernel_rfl) (by kernel_rfl) (by kernel_rfl) (by kernel_rfl) (fun _ _ _ h => h) (yieldsIf_load_mid (by rfl) _ _ rfl G10 0 rfl (i64v v63) _ (fun W' hW' => range_row ((hW'.block _ sn10_V7).trans gn10_V7.out)) (Tryd.underlying55) rfl (by rw [i64v_len, h63.out]; kernel_rfl)) hHeld ?_
          try simp only [pu]
          refine c_read (i := 4) (oi := ⟨(some 68), _, _, _, _, _⟩) (v := _) rfl (by decide) (by kernel_rfl) (by kernel_rfl) (by kernel_rfl) (by kernel_rfl) (by kernel_rfl) (fun _ _ _ h => h) (yieldsIf_load_mid (by rfl) _ _ rfl G5 0 rfl (i64v v23) _ (fun W' hW' => range_row ((hW'.block _ sn5_V7).trans gn5_V7.out)) (Tryd.underlying55) rfl (by rw [i64v_len, h23.out]; kernel_rfl)) hHeld ?_
          try simp only [pu]
          refine c_step (i := 5) (o := ⟨(some 69), _, _, _, _, _⟩) (by kernel_rfl) rfl (fun K hK => ?_)
          go_simp
          refine (rtimesE_any _ v63 v23 (e63.out) (e23.out)).mono ?_
          rintro e W22 ⟨v69, rfl, e69, h69, hb22⟩
          refine hK.out _ _ (below_next hHeld hHeld.size hb22) (fun hHeld => ?_)
          clear hK K hb22
          try simp only [pu]
          obtain ⟨p6, ep6⟩ : ∃ p, p = v63 ++ (v23 ++ (ONE ++ (v69))) := ⟨_, rfl⟩
          have bp6 := built_point v63 v23 ONE v69 (h63.out) (h23.out) (HO.out) (h69.out)
          rw [← ep6] at bp6
          have hp6 := Lib.hid (show p6.length = 64 by rw [ep6]; simp [h63.out, h23.out, HO.out, h69.out])
          have vp6 := vlt ep6
          clear ep6
          refine c_take (i := 6) (oi := ⟨(some 70), _, _, _, _, _⟩) (v := _) rfl (by decide) (by kernel_rfl) (by kernel_rfl) (by kernel_rfl) (fun _ _ _ h => h) (yields_build (by rfl) _ _ rfl [(0, .agg (i64v v63).toArray), (1, .agg (i64v v23).toArray), (2, .agg (i64v ONE).toArray), (3, .agg (i64v v69).toArray)] (by rfl) _ bp6) hHeld ?_
          try simp only [pu]
          refine c_call (S' := fun _ => True) (o := ⟨none, _, _, _, _, _⟩) (by kernel_rfl) (by kernel_rfl) rfl (fun K hK => ?_)
          have cb0_0 := row_next2 gb0_V7 hHeld
          have cb1_0 := row_next2 gb1_V7 hHeld
          have cn5_0 := row_next2 gn5_V7 hHeld
          have cn6_0 := row_next2 gn6_V7 hHeld
          have cn7_0 := row_next2 gn7_V7 hHeld
          have cn8_0 := row_next2 gn8_V7 hHeld
          have cn10_0 := row_next2 gn10_V7 hHeld
          have cb_0 := below_next hb_V7 hb_V7.size hHeld
          clear hHeld
          refine step_row (by rfl) 57 (.tmp 2) (.tmp 70) rfl (w.heap.size + 1) (i64v p6) rfl rfl 57 _ cb1_0.out (by rw [i64v_len, hp6.out]; kernel_rfl) (by rw [List.size_toArray, i64v_len, z64i_len, i64v_len, hp6.out]) (i64v_one _) ?_
          intro W23 cb1_1 kR
          refine hK.out _ _ trivial (fun hHeld => ?_)
          have cb0_1 := row_but cb0_0 kR (by omega)
          have cn5_1 := row_but cn5_0 kR (by omega)
          have cn6_1 := row_but cn6_0 kR (by omega)
          have cn7_1 := row_but cn7_0 kR (by omega)
          have cn8_1 := row_but cn8_0 kR (by omega)
          have cn10_1 := row_but cn10_0 kR (by omega)
          have cb_1 := But.below cb_0 kR (by omega) cb_0.size
          clear hK K kR cb_0 cb0_0 cb1_0 cn5_0 cn6_0 cn7_0 cn8_0 cn10_0 
          try simp only [pu]
          refine wpAnyH_take (i := 8) (oi := ⟨(some 3), _, _, _, _, _⟩) (v := (Value.bool true)) rfl (by kernel_rfl) (by kernel_rfl) (by kernel_rfl) (fun _ _ _ h => h) (Or.inl ⟨by rfl, ?yqV7_7_8⟩) hHeld ?_
          case yqV7_7_8 => (intro W0 hSw; go_simp; try with_reducible rfl)
          try simp only [pu]
          refine wpAnyH_done (by kernel_rfl) ?_ _
          obtain ⟨V8, rV8⟩ : ∃ X, X = W23 := ⟨_, rfl⟩
          subst rV8
          have gb0_V8 := cb0_1
          have sb0_V8 := row_size gb0_V8
          have gb1_V8 := cb1_1
          have sb1_V8 := row_size gb1_V8
          have gn5_V8 := cn5_1
          have sn5_V8 := row_size gn5_V8
          have gn6_V8 := cn6_1
          have sn6_V8 := row_size gn6_V8
          have gn7_V8 := cn7_1
          have sn7_V8 := row_size gn7_V8
          have gn8_V8 := cn8_1
          have sn8_V8 := row_size gn8_V8
          have gn10_V8 := cn10_1
          have sn10_V8 := row_size gn10_V8
          have hb_V8 := cb_1
          clear hHeld cb_1 hb_V7  cb0_1 cb1_1 cn5_1 cn6_1 cn7_1 cn8_1 cn10_1 sb0_V7 sb1_V7 sn5_V7 sn6_V7 sn7_V7 sn8_V7 sn10_V7 gb0_V7 gb1_V7 gn5_V7 gn6_V7 gn7_V7 gn8_V7 gn10_V7
          have HF := vlt (show DeIs a p6 true by
            have hd := dec_ok vp6.out e63.out e23.out FO.out e69.out HP.out.1
            exact ⟨fun _ => ⟨(cW z32, cW z), hd.1, hd.2.1, hd.2.2, HP.out⟩, fun h => (by cases h)⟩)
          go_wp2_with fail
          refine bodyPost_ret (v := .tuple #[.agg (i64v p6).toArray, .bool true]) (results_row_tmp Tryd.results34 _ _ (w.heap.size + 1) 57 _ (0, 0) _ rfl gb1_V8.out Tryd.underlying57 rfl (by rw [List.size_toArray, i64v_len, hp6.out]; kernel_rfl) _ rfl) rfl ⟨p6, true, rfl, HF, hp6, hb_V8⟩
        · have heq := eql_bytes (P := Tryd.prog) Tryd.underlying23 Tryd.underlying5 Tryd.sizeByte v39 z32 h39.out z32_len
          rw [decide_eq_false hnz] at heq
          go_upto_region 11 with (first
            | (with_reducible refine wpList_load_row_w (by kernel_rfl) 23 (.tmp 8) rfl G8 rfl 23 (bv v39).toArray (0, 0) _ gn8_V6.out Tryd.underlying23 rfl (by rw [bv_size v39 h39.out]; kernel_rfl) ?_)
            | (with_reducible refine wpList_build_w (by kernel_rfl) 23 #[] rfl [] (by kernel_rfl) (bv z32).toArray hbz ?_)
            | (with_reducible refine wpList_eql_w (by kernel_rfl) 23 _ (.tmp 45) (.tmp 46) rfl (by kernel_rfl) (bv v39).toArray (bv z32).toArray rfl rfl false (heq _) ?_))
          clear heq
          obtain ⟨c, hc, hx0, hcx⟩ := first_byte v39 h39.out
          have c0 : V6.cell? ⟨G8, 0, none⟩ = some (.int .u8 (c : Int)) := by
            have h := byte_cell gn8_V6.out hx0
            rwa [UInt8.toNat_ofNat', show (2 : Nat) ^ 8 = 256 by decide, Nat.mod_eq_of_lt hc] at h
          have el := low8 c hc
          obtain ⟨d, hd⟩ : ∃ d, d = c % 2 := ⟨_, rfl⟩
          have HD := vlt (show ln v39 % 2 = d by rw [hd, hcx])
          have hd2 : d < 2 := by omega
          rw [← hd] at el
          clear hd hcx hx0
          obtain rfl | rfl : d = 0 ∨ d = 1 := by omega
          · have HP := vlt (dec_same HA.out HY.out HS.out HG.out HR.out.2 HR.out.1 HD.out)
            go_upto_region 13 with fail
            clear c0 el
            refine plain_start (S := fun W' => Below V6.heap.size V6 W') (by kernel_rfl) (Below.refl _ _) (fun hHeld => ?_)
            refine wpAnyH_take (i := 0) (oi := ⟨(some 62), _, _, _, _, _⟩) (v := _) rfl (by kernel_rfl) (by kernel_rfl) (by kernel_rfl) (fun _ _ _ h => h) (yieldsIf_load_mid (by rfl) _ _ rfl G8 0 rfl (bv v39) _ (fun W' hW' => range_row ((hW'.block _ sn8_V6).trans gn8_V6.out)) (Tryd.underlying23) rfl (by rw [bv_len, h39.out]; kernel_rfl)) hHeld ?_
            try simp only [pu]
            refine mix_start (B := V6.heap.size) (al := [⟨2, 10, 55, ((i64v z16)).toArray⟩]) (fuel := 2) rfl hHeld (hHeld.size) ?_
            clear hHeld
            refine mix_call (i := 1) (o := ⟨(some 63), _, _, _, _, _⟩) rfl (by kernel_rfl) (by kernel_rfl) (by kernel_rfl) (by kernel_rfl) (fun x hx => by simp only [List.mem_cons, List.not_mem_nil, or_false] at hx; rcases hx with rfl <;> first | exact makes_new rfl rfl rfl rfl zero_fe) (fun W x _ h => h.alloc h.size _) (fun _ _ _ _ _ h => h) (fun X19 hHeld hBX K hK => ?_)
            go_simp
            refine (rinE_any _ v39 (h39.out)).mono ?_
            rintro e W19 ⟨v63, rfl, e63, h63, hb19⟩
            refine hK.out _ _ (below_next hHeld hHeld.size hb19) hb19 ?_
            clear hK K hHeld hBX hb19
            try simp only [pu]
            refine mix_end (by kernel_rfl) (by kernel_rfl) (by simp) (by simp) (fun x hx => by simp only [List.mem_cons, List.not_mem_nil, or_false] at hx; rcases hx with rfl <;> first | exact makes_new rfl rfl rfl rfl zero_fe) (fun W x _ h => h.alloc h.size _) (fun D hD W20 hHeld hBX hHo => ?_)
            obtain ⟨G10, rfl⟩ := v_one hD
            have xG10 : Hid (W20.heap[G10]? = some (.cells ((i64v z16)).toArray 55 (0, 0))) := hHo.row (⟨2, 10, 55, ((i64v z16)).toArray⟩, G10) (by simp)
            have lG10 : V6.heap.size ≤ G10 := hHo.new (⟨2, 10, 55, ((i64v z16)).toArray⟩, G10) (by simp)
            clear hHo hBX hD
            simp only [markD, putD, List.foldr_cons, List.foldr_nil, pu, List.setIfInBounds_toArray, List.set_cons_zero, List.set_cons_succ]
            refine wpAnyH_ready (rs := [3]) (by kernel_rfl) (by simp) ?_
            refine AllReadyH.cons (i := 3) (o := ⟨none, _, _, _, _, _⟩) rfl (fun K hK => ?_) AllReadyH.nil
            refine step_row (by rfl) 55 (.tmp 10) (.tmp 63) rfl G10 (i64v v63) rfl rfl 55 _ xG10.out (by rw [i64v_len, h63.out]; kernel_rfl) (by rw [List.size_toArray, i64v_len, i64v_len, h63.out, (show z16.length = 16 from rfl)]) (i64v_one _) ?_
            intro W21 yG10 kG10
            refine hK.out _ _ (But.below hHeld kG10 lG10 hHeld.size) (fun hHeld => ?_)
            clear hK K kG10 xG10
            have xG10 := yG10
            clear yG10
            try simp only [pu]
            refine wpAnyH_done (by kernel_rfl) ?_ _
            obtain ⟨V7, rV7⟩ : ∃ X, X = W21 := ⟨_, rfl⟩
            subst rV7
            have gb0_V7 := row_next2 gb0_V6 hHeld
            have sb0_V7 := row_size gb0_V7
            have gb1_V7 := row_next2 gb1_V6 hHeld
            have sb1_V7 := row_size gb1_V7
            have gn5_V7 := row_next2 gn5_V6 hHeld
            have sn5_V7 := row_size gn5_V7
            have gn6_V7 := row_next2 gn6_V6 hHeld
            have sn6_V7 := row_size gn6_V7
            have gn7_V7 := row_next2 gn7_V6 hHeld
            have sn7_V7 := row_size gn7_V7
            have gn8_V7 := row_next2 gn8_V6 hHeld
            have sn8_V7 := row_size gn8_V7
            have hb_V7 := below_next hb_V6 hb_V6.size hHeld
            have gn10_V7 := xG10
            have sn10_V7 := row_size gn10_V7
            clear xG10
            have wG10 : w.heap.size + 2 ≤ G10 := by omega
            have nG5G10 : G5 ≠ G10 := by omega
            have nG6G10 : G6 ≠ G10 := by omega
            have nG7G10 : G7 ≠ G10 := by omega
            have nG8G10 : G8 ≠ G10 := by omega
            clear hHeld hb_V6 sb0_V6 sb1_V6 sn5_V6 sn6_V6 sn7_V6 sn8_V6
            clear gb0_V6 gb1_V6 gn5_V6 gn6_V6 gn7_V6 gn8_V6 lG10
            go_upto_region 14 with fail
            refine c_start (S := fun W' => Below V7.heap.size V7 W') 7 (by kernel_rfl) ((Below.refl _ _).drew) (fun hHeld => ?_)
            refine c_read (i := 0) (oi := ⟨(some 64), _, _, _, _, _⟩) (v := _) rfl (by decide) (by kernel_rfl) (by kernel_rfl) (by kernel_rfl) (by kernel_rfl) (by kernel_rfl) (fun _ _ _ h => h) (yieldsIf_load_mid (by rfl) _ _ rfl G10 0 rfl (i64v v63) _ (fun W' hW' => range_row ((hW'.block _ sn10_V7).trans gn10_V7.out)) (Tryd.underlying55) rfl (by rw [i64v_len, h63.out]; kernel_rfl)) hHeld ?_
            try simp only [pu]
            refine c_read (i := 1) (oi := ⟨(some 65), _, _, _, _, _⟩) (v := _) rfl (by decide) (by kernel_rfl) (by kernel_rfl) (by kernel_rfl) (by kernel_rfl) (by kernel_rfl) (fun _ _ _ h => h) (yieldsIf_load_mid (by rfl) _ _ rfl G5 0 rfl (i64v v23) _ (fun W' hW' => range_row ((hW'.block _ sn5_V7).trans gn5_V7.out)) (Tryd.underlying55) rfl (by rw [i64v_len, h23.out]; kernel_rfl)) hHeld ?_
            try simp only [pu]
            refine c_take (i := 2) (oi := ⟨(some 66), _, _, _, _, _⟩) (v := _) rfl (by decide) (by kernel_rfl) (by kernel_rfl) (by kernel_rfl) (fun _ _ _ h => h) (yields_build (by rfl) _ _ rfl [(0, .int .i64 1)] (by rfl) _ hb1) hHeld ?_
            try simp only [pu]
            refine c_read (i := 3) (oi := ⟨(some 67), _, _, _, _, _⟩) (v := _) rfl (by decide) (by kernel_rfl) (by kernel_rfl) (by kernel_rfl) (by kernel_rfl) (by kernel_rfl) (fun _ _ _ h => h) (yieldsIf_load_mid (by rfl) _ _ rfl G10 0 rfl (i64v v63) _ (fun W' hW' => range_row ((hW'.block _ sn10_V7).trans gn10_V7.out)) (Tryd.underlying55) rfl (by rw [i64v_len, h63.out]; kernel_rfl)) hHeld ?_
            try simp only [pu]
            refine c_read (i := 4) (oi := ⟨(some 68), _, _, _, _, _⟩) (v := _) rfl (by decide) (by kernel_rfl) (by kernel_rfl) (by kernel_rfl) (by kernel_rfl) (by kernel_rfl) (fun _ _ _ h => h) (yieldsIf_load_mid (by rfl) _ _ rfl G5 0 rfl (i64v v23) _ (fun W' hW' => range_row ((hW'.block _ sn5_V7).trans gn5_V7.out)) (Tryd.underlying55) rfl (by rw [i64v_len, h23.out]; kernel_rfl)) hHeld ?_
            try simp only [pu]
            refine c_step (i := 5) (o := ⟨(some 69), _, _, _, _, _⟩) (by kernel_rfl) rfl (fun K hK => ?_)
            go_simp
            refine (rtimesE_any _ v63 v23 (e63.out) (e23.out)).mono ?_
            rintro e W22 ⟨v69, rfl, e69, h69, hb22⟩
            refine hK.out _ _ (below_next hHeld hHeld.size hb22) (fun hHeld => ?_)
            clear hK K hb22
            try simp only [pu]
            obtain ⟨p6, ep6⟩ : ∃ p, p = v63 ++ (v23 ++ (ONE ++ (v69))) := ⟨_, rfl⟩
            have bp6 := built_point v63 v23 ONE v69 (h63.out) (h23.out) (HO.out) (h69.out)
            rw [← ep6] at bp6
            have hp6 := Lib.hid (show p6.length = 64 by rw [ep6]; simp [h63.out, h23.out, HO.out, h69.out])
            have vp6 := vlt ep6
            clear ep6
            refine c_take (i := 6) (oi := ⟨(some 70), _, _, _, _, _⟩) (v := _) rfl (by decide) (by kernel_rfl) (by kernel_rfl) (by kernel_rfl) (fun _ _ _ h => h) (yields_build (by rfl) _ _ rfl [(0, .agg (i64v v63).toArray), (1, .agg (i64v v23).toArray), (2, .agg (i64v ONE).toArray), (3, .agg (i64v v69).toArray)] (by rfl) _ bp6) hHeld ?_
            try simp only [pu]
            refine c_call (S' := fun _ => True) (o := ⟨none, _, _, _, _, _⟩) (by kernel_rfl) (by kernel_rfl) rfl (fun K hK => ?_)
            have cb0_0 := row_next2 gb0_V7 hHeld
            have cb1_0 := row_next2 gb1_V7 hHeld
            have cn5_0 := row_next2 gn5_V7 hHeld
            have cn6_0 := row_next2 gn6_V7 hHeld
            have cn7_0 := row_next2 gn7_V7 hHeld
            have cn8_0 := row_next2 gn8_V7 hHeld
            have cn10_0 := row_next2 gn10_V7 hHeld
            have cb_0 := below_next hb_V7 hb_V7.size hHeld
            clear hHeld
            refine step_row (by rfl) 57 (.tmp 2) (.tmp 70) rfl (w.heap.size + 1) (i64v p6) rfl rfl 57 _ cb1_0.out (by rw [i64v_len, hp6.out]; kernel_rfl) (by rw [List.size_toArray, i64v_len, z64i_len, i64v_len, hp6.out]) (i64v_one _) ?_
            intro W23 cb1_1 kR
            refine hK.out _ _ trivial (fun hHeld => ?_)
            have cb0_1 := row_but cb0_0 kR (by omega)
            have cn5_1 := row_but cn5_0 kR (by omega)
            have cn6_1 := row_but cn6_0 kR (by omega)
            have cn7_1 := row_but cn7_0 kR (by omega)
            have cn8_1 := row_but cn8_0 kR (by omega)
            have cn10_1 := row_but cn10_0 kR (by omega)
            have cb_1 := But.below cb_0 kR (by omega) cb_0.size
            clear hK K kR cb_0 cb0_0 cb1_0 cn5_0 cn6_0 cn7_0 cn8_0 cn10_0 
            try simp only [pu]
            refine wpAnyH_take (i := 8) (oi := ⟨(some 3), _, _, _, _, _⟩) (v := (Value.bool true)) rfl (by kernel_rfl) (by kernel_rfl) (by kernel_rfl) (fun _ _ _ h => h) (Or.inl ⟨by rfl, ?yqV7_7_8⟩) hHeld ?_
            case yqV7_7_8 => (intro W0 hSw; go_simp; try with_reducible rfl)
            try simp only [pu]
            refine wpAnyH_done (by kernel_rfl) ?_ _
            obtain ⟨V8, rV8⟩ : ∃ X, X = W23 := ⟨_, rfl⟩
            subst rV8
            have gb0_V8 := cb0_1
            have sb0_V8 := row_size gb0_V8
            have gb1_V8 := cb1_1
            have sb1_V8 := row_size gb1_V8
            have gn5_V8 := cn5_1
            have sn5_V8 := row_size gn5_V8
            have gn6_V8 := cn6_1
            have sn6_V8 := row_size gn6_V8
            have gn7_V8 := cn7_1
            have sn7_V8 := row_size gn7_V8
            have gn8_V8 := cn8_1
            have sn8_V8 := row_size gn8_V8
            have gn10_V8 := cn10_1
            have sn10_V8 := row_size gn10_V8
            have hb_V8 := cb_1
            clear hHeld cb_1 hb_V7  cb0_1 cb1_1 cn5_1 cn6_1 cn7_1 cn8_1 cn10_1 sb0_V7 sb1_V7 sn5_V7 sn6_V7 sn7_V7 sn8_V7 sn10_V7 gb0_V7 gb1_V7 gn5_V7 gn6_V7 gn7_V7 gn8_V7 gn10_V7
            have HF := vlt (show DeIs a p6 true by
              have hd := dec_ok vp6.out e63.out e23.out FO.out e69.out HP.out.1
              exact ⟨fun _ => ⟨(cW v39, cW z), hd.1, hd.2.1, hd.2.2, HP.out⟩, fun h => (by cases h)⟩)
            go_wp2_with fail
            refine bodyPost_ret (v := .tuple #[.agg (i64v p6).toArray, .bool true]) (results_row_tmp Tryd.results34 _ _ (w.heap.size + 1) 57 _ (0, 0) _ rfl gb1_V8.out Tryd.underlying57 rfl (by rw [List.size_toArray, i64v_len, hp6.out]; kernel_rfl) _ rfl) rfl ⟨p6, true, rfl, HF, hp6, hb_V8⟩
          · go_upto_region 12 with fail
            clear c0 el
            refine plain_start_c (S := fun W' => Below V6.heap.size V6 W') 3 (by kernel_rfl) (Below.refl _ _) (fun hHeld => ?_)
            refine c_take (i := 0) (oi := ⟨(some 59), _, _, _, _, _⟩) (v := _) rfl (by decide) (by kernel_rfl) (by kernel_rfl) (by kernel_rfl) (fun _ _ _ h => h) (yields_build (by rfl) _ _ rfl [] (by rfl) _ hbz) hHeld ?_
            try simp only [pu]
            refine c_read (i := 1) (oi := ⟨(some 60), _, _, _, _, _⟩) (v := _) rfl (by decide) (by kernel_rfl) (by kernel_rfl) (by kernel_rfl) (by kernel_rfl) (by kernel_rfl) (fun _ _ _ h => h) (yieldsIf_load_mid (by rfl) _ _ rfl G8 0 rfl (bv v39) _ (fun W' hW' => range_row ((hW'.block _ sn8_V6).trans gn8_V6.out)) (Tryd.underlying23) rfl (by rw [bv_len, h39.out]; kernel_rfl)) hHeld ?_
            try simp only [pu]
            refine c_step (i := 2) (o := ⟨(some 61), _, _, _, _, _⟩) (by kernel_rfl) rfl (fun K hK => ?_)
            go_simp
            refine (rsubW_any _ z32 v39 (z32_len) (h39.out)).mono ?_
            rintro e W19 ⟨v61, rfl, e61, h61, hb19⟩
            refine hK.out _ _ (below_next hHeld hHeld.size hb19) (fun hHeld => ?_)
            clear hK K hb19
            try simp only [pu]
            refine c_call (S' := fun _ => True) (o := ⟨none, _, _, _, _, _⟩) (by kernel_rfl) (by kernel_rfl) rfl (fun K hK => ?_)
            have cb0_0 := row_next2 gb0_V6 hHeld
            have cb1_0 := row_next2 gb1_V6 hHeld
            have cn5_0 := row_next2 gn5_V6 hHeld
            have cn6_0 := row_next2 gn6_V6 hHeld
            have cn7_0 := row_next2 gn7_V6 hHeld
            have cn8_0 := row_next2 gn8_V6 hHeld
            have cb_0 := below_next hb_V6 hb_V6.size hHeld
            clear hHeld
            refine step_row (by rfl) 23 (.tmp 8) (.tmp 61) rfl G8 (bv v61) rfl rfl 23 _ cn8_0.out (by rw [bv_len, h61.out]; kernel_rfl) (by rw [List.size_toArray, bv_len, h39.out, bv_len, h61.out]) (bv_one _) ?_
            intro W20 cn8_1 kR
            refine hK.out _ _ trivial (fun hHeld => ?_)
            have cb0_1 := row_but cb0_0 kR (by omega)
            have cb1_1 := row_but cb1_0 kR (by omega)
            have cn5_1 := row_but cn5_0 kR (by omega)
            have cn6_1 := row_but cn6_0 kR (by omega)
            have cn7_1 := row_but cn7_0 kR (by omega)
            have cb_1 := But.below cb_0 kR (by omega) cb_0.size
            clear hK K kR cb_0 cb0_0 cb1_0 cn5_0 cn6_0 cn7_0 cn8_0 
            try simp only [pu]
            refine wpAnyH_done (by kernel_rfl) ?_ _
            obtain ⟨V7, rV7⟩ : ∃ X, X = W20 := ⟨_, rfl⟩
            subst rV7
            have gb0_V7 := cb0_1
            have sb0_V7 := row_size gb0_V7
            have gb1_V7 := cb1_1
            have sb1_V7 := row_size gb1_V7
            have gn5_V7 := cn5_1
            have sn5_V7 := row_size gn5_V7
            have gn6_V7 := cn6_1
            have sn6_V7 := row_size gn6_V7
            have gn7_V7 := cn7_1
            have sn7_V7 := row_size gn7_V7
            have gn8_V7 := cn8_1
            have sn8_V7 := row_size gn8_V7
            have hb_V7 := cb_1
            clear hHeld cb_1 hb_V6  cb0_1 cb1_1 cn5_1 cn6_1 cn7_1 cn8_1 sb0_V6 sb1_V6 sn5_V6 sn6_V6 sn7_V6 sn8_V6 gb0_V6 gb1_V6 gn5_V6 gn6_V6 gn7_V6 gn8_V6
            have HP := vlt (dec_other HA.out HY.out HS.out HG.out HR.out.2 HR.out.1 HD.out (by decide) (not_z32 h39.out hnz) (show cW v61 = 0 - cW v39 by rw [e61.out.1, z32_is]))
            go_upto_region 13 with fail
            refine plain_start (S := fun W' => Below V7.heap.size V7 W') (by kernel_rfl) (Below.refl _ _) (fun hHeld => ?_)
            refine wpAnyH_take (i := 0) (oi := ⟨(some 62), _, _, _, _, _⟩) (v := _) rfl (by kernel_rfl) (by kernel_rfl) (by kernel_rfl) (fun _ _ _ h => h) (yieldsIf_load_mid (by rfl) _ _ rfl G8 0 rfl (bv v61) _ (fun W' hW' => range_row ((hW'.block _ sn8_V7).trans gn8_V7.out)) (Tryd.underlying23) rfl (by rw [bv_len, h61.out]; kernel_rfl)) hHeld ?_
            try simp only [pu]
            refine mix_start (B := V7.heap.size) (al := [⟨2, 10, 55, ((i64v z16)).toArray⟩]) (fuel := 2) rfl hHeld (hHeld.size) ?_
            clear hHeld
            refine mix_call (i := 1) (o := ⟨(some 63), _, _, _, _, _⟩) rfl (by kernel_rfl) (by kernel_rfl) (by kernel_rfl) (by kernel_rfl) (fun x hx => by simp only [List.mem_cons, List.not_mem_nil, or_false] at hx; rcases hx with rfl <;> first | exact makes_new rfl rfl rfl rfl zero_fe) (fun W x _ h => h.alloc h.size _) (fun _ _ _ _ _ h => h) (fun X21 hHeld hBX K hK => ?_)
            go_simp
            refine (rinE_any _ v61 (h61.out)).mono ?_
            rintro e W21 ⟨v63, rfl, e63, h63, hb21⟩
            refine hK.out _ _ (below_next hHeld hHeld.size hb21) hb21 ?_
            clear hK K hHeld hBX hb21
            try simp only [pu]
            refine mix_end (by kernel_rfl) (by kernel_rfl) (by simp) (by simp) (fun x hx => by simp only [List.mem_cons, List.not_mem_nil, or_false] at hx; rcases hx with rfl <;> first | exact makes_new rfl rfl rfl rfl zero_fe) (fun W x _ h => h.alloc h.size _) (fun D hD W22 hHeld hBX hHo => ?_)
            obtain ⟨G10, rfl⟩ := v_one hD
            have xG10 : Hid (W22.heap[G10]? = some (.cells ((i64v z16)).toArray 55 (0, 0))) := hHo.row (⟨2, 10, 55, ((i64v z16)).toArray⟩, G10) (by simp)
            have lG10 : V7.heap.size ≤ G10 := hHo.new (⟨2, 10, 55, ((i64v z16)).toArray⟩, G10) (by simp)
            clear hHo hBX hD
            simp only [markD, putD, List.foldr_cons, List.foldr_nil, pu, List.setIfInBounds_toArray, List.set_cons_zero, List.set_cons_succ]
            refine wpAnyH_ready (rs := [3]) (by kernel_rfl) (by simp) ?_
            refine AllReadyH.cons (i := 3) (o := ⟨none, _, _, _, _, _⟩) rfl (fun K hK => ?_) AllReadyH.nil
            refine step_row (by rfl) 55 (.tmp 10) (.tmp 63) rfl G10 (i64v v63) rfl rfl 55 _ xG10.out (by rw [i64v_len, h63.out]; kernel_rfl) (by rw [List.size_toArray, i64v_len, i64v_len, h63.out, (show z16.length = 16 from rfl)]) (i64v_one _) ?_
            intro W23 yG10 kG10
            refine hK.out _ _ (But.below hHeld kG10 lG10 hHeld.size) (fun hHeld => ?_)
            clear hK K kG10 xG10
            have xG10 := yG10
            clear yG10
            try simp only [pu]
            refine wpAnyH_done (by kernel_rfl) ?_ _
            obtain ⟨V8, rV8⟩ : ∃ X, X = W23 := ⟨_, rfl⟩
            subst rV8
            have gb0_V8 := row_next2 gb0_V7 hHeld
            have sb0_V8 := row_size gb0_V8
            have gb1_V8 := row_next2 gb1_V7 hHeld
            have sb1_V8 := row_size gb1_V8
            have gn5_V8 := row_next2 gn5_V7 hHeld
            have sn5_V8 := row_size gn5_V8
            have gn6_V8 := row_next2 gn6_V7 hHeld
            have sn6_V8 := row_size gn6_V8
            have gn7_V8 := row_next2 gn7_V7 hHeld
            have sn7_V8 := row_size gn7_V8
            have gn8_V8 := row_next2 gn8_V7 hHeld
            have sn8_V8 := row_size gn8_V8
            have hb_V8 := below_next hb_V7 hb_V7.size hHeld
            have gn10_V8 := xG10
            have sn10_V8 := row_size gn10_V8
            clear xG10
            have wG10 : w.heap.size + 2 ≤ G10 := by omega
            have nG5G10 : G5 ≠ G10 := by omega
            have nG6G10 : G6 ≠ G10 := by omega
            have nG7G10 : G7 ≠ G10 := by omega
            have nG8G10 : G8 ≠ G10 := by omega
            clear hHeld hb_V7 sb0_V7 sb1_V7 sn5_V7 sn6_V7 sn7_V7 sn8_V7
            clear gb0_V7 gb1_V7 gn5_V7 gn6_V7 gn7_V7 gn8_V7 lG10
            go_upto_region 14 with fail
            refine c_start (S := fun W' => Below V8.heap.size V8 W') 7 (by kernel_rfl) ((Below.refl _ _).drew) (fun hHeld => ?_)
            refine c_read (i := 0) (oi := ⟨(some 64), _, _, _, _, _⟩) (v := _) rfl (by decide) (by kernel_rfl) (by kernel_rfl) (by kernel_rfl) (by kernel_rfl) (by kernel_rfl) (fun _ _ _ h => h) (yieldsIf_load_mid (by rfl) _ _ rfl G10 0 rfl (i64v v63) _ (fun W' hW' => range_row ((hW'.block _ sn10_V8).trans gn10_V8.out)) (Tryd.underlying55) rfl (by rw [i64v_len, h63.out]; kernel_rfl)) hHeld ?_
            try simp only [pu]
            refine c_read (i := 1) (oi := ⟨(some 65), _, _, _, _, _⟩) (v := _) rfl (by decide) (by kernel_rfl) (by kernel_rfl) (by kernel_rfl) (by kernel_rfl) (by kernel_rfl) (fun _ _ _ h => h) (yieldsIf_load_mid (by rfl) _ _ rfl G5 0 rfl (i64v v23) _ (fun W' hW' => range_row ((hW'.block _ sn5_V8).trans gn5_V8.out)) (Tryd.underlying55) rfl (by rw [i64v_len, h23.out]; kernel_rfl)) hHeld ?_
            try simp only [pu]
            refine c_take (i := 2) (oi := ⟨(some 66), _, _, _, _, _⟩) (v := _) rfl (by decide) (by kernel_rfl) (by kernel_rfl) (by kernel_rfl) (fun _ _ _ h => h) (yields_build (by rfl) _ _ rfl [(0, .int .i64 1)] (by rfl) _ hb1) hHeld ?_
            try simp only [pu]
            refine c_read (i := 3) (oi := ⟨(some 67), _, _, _, _, _⟩) (v := _) rfl (by decide) (by kernel_rfl) (by kernel_rfl) (by kernel_rfl) (by kernel_rfl) (by kernel_rfl) (fun _ _ _ h => h) (yieldsIf_load_mid (by rfl) _ _ rfl G10 0 rfl (i64v v63) _ (fun W' hW' => range_row ((hW'.block _ sn10_V8).trans gn10_V8.out)) (Tryd.underlying55) rfl (by rw [i64v_len, h63.out]; kernel_rfl)) hHeld ?_
            try simp only [pu]
            refine c_read (i := 4) (oi := ⟨(some 68), _, _, _, _, _⟩) (v := _) rfl (by decide) (by kernel_rfl) (by kernel_rfl) (by kernel_rfl) (by kernel_rfl) (by kernel_rfl) (fun _ _ _ h => h) (yieldsIf_load_mid (by rfl) _ _ rfl G5 0 rfl (i64v v23) _ (fun W' hW' => range_row ((hW'.block _ sn5_V8).trans gn5_V8.out)) (Tryd.underlying55) rfl (by rw [i64v_len, h23.out]; kernel_rfl)) hHeld ?_
            try simp only [pu]
            refine c_step (i := 5) (o := ⟨(some 69), _, _, _, _, _⟩) (by kernel_rfl) rfl (fun K hK => ?_)
            go_simp
            refine (rtimesE_any _ v63 v23 (e63.out) (e23.out)).mono ?_
            rintro e W24 ⟨v69, rfl, e69, h69, hb24⟩
            refine hK.out _ _ (below_next hHeld hHeld.size hb24) (fun hHeld => ?_)
            clear hK K hb24
            try simp only [pu]
            obtain ⟨p6, ep6⟩ : ∃ p, p = v63 ++ (v23 ++ (ONE ++ (v69))) := ⟨_, rfl⟩
            have bp6 := built_point v63 v23 ONE v69 (h63.out) (h23.out) (HO.out) (h69.out)
            rw [← ep6] at bp6
            have hp6 := Lib.hid (show p6.length = 64 by rw [ep6]; simp [h63.out, h23.out, HO.out, h69.out])
            have vp6 := vlt ep6
            clear ep6
            refine c_take (i := 6) (oi := ⟨(some 70), _, _, _, _, _⟩) (v := _) rfl (by decide) (by kernel_rfl) (by kernel_rfl) (by kernel_rfl) (fun _ _ _ h => h) (yields_build (by rfl) _ _ rfl [(0, .agg (i64v v63).toArray), (1, .agg (i64v v23).toArray), (2, .agg (i64v ONE).toArray), (3, .agg (i64v v69).toArray)] (by rfl) _ bp6) hHeld ?_
            try simp only [pu]
            refine c_call (S' := fun _ => True) (o := ⟨none, _, _, _, _, _⟩) (by kernel_rfl) (by kernel_rfl) rfl (fun K hK => ?_)
            have cb0_0 := row_next2 gb0_V8 hHeld
            have cb1_0 := row_next2 gb1_V8 hHeld
            have cn5_0 := row_next2 gn5_V8 hHeld
            have cn6_0 := row_next2 gn6_V8 hHeld
            have cn7_0 := row_next2 gn7_V8 hHeld
            have cn8_0 := row_next2 gn8_V8 hHeld
            have cn10_0 := row_next2 gn10_V8 hHeld
            have cb_0 := below_next hb_V8 hb_V8.size hHeld
            clear hHeld
            refine step_row (by rfl) 57 (.tmp 2) (.tmp 70) rfl (w.heap.size + 1) (i64v p6) rfl rfl 57 _ cb1_0.out (by rw [i64v_len, hp6.out]; kernel_rfl) (by rw [List.size_toArray, i64v_len, z64i_len, i64v_len, hp6.out]) (i64v_one _) ?_
            intro W25 cb1_1 kR
            refine hK.out _ _ trivial (fun hHeld => ?_)
            have cb0_1 := row_but cb0_0 kR (by omega)
            have cn5_1 := row_but cn5_0 kR (by omega)
            have cn6_1 := row_but cn6_0 kR (by omega)
            have cn7_1 := row_but cn7_0 kR (by omega)
            have cn8_1 := row_but cn8_0 kR (by omega)
            have cn10_1 := row_but cn10_0 kR (by omega)
            have cb_1 := But.below cb_0 kR (by omega) cb_0.size
            clear hK K kR cb_0 cb0_0 cb1_0 cn5_0 cn6_0 cn7_0 cn8_0 cn10_0 
            try simp only [pu]
            refine wpAnyH_take (i := 8) (oi := ⟨(some 3), _, _, _, _, _⟩) (v := (Value.bool true)) rfl (by kernel_rfl) (by kernel_rfl) (by kernel_rfl) (fun _ _ _ h => h) (Or.inl ⟨by rfl, ?yqV8_8_8⟩) hHeld ?_
            case yqV8_8_8 => (intro W0 hSw; go_simp; try with_reducible rfl)
            try simp only [pu]
            refine wpAnyH_done (by kernel_rfl) ?_ _
            obtain ⟨V9, rV9⟩ : ∃ X, X = W25 := ⟨_, rfl⟩
            subst rV9
            have gb0_V9 := cb0_1
            have sb0_V9 := row_size gb0_V9
            have gb1_V9 := cb1_1
            have sb1_V9 := row_size gb1_V9
            have gn5_V9 := cn5_1
            have sn5_V9 := row_size gn5_V9
            have gn6_V9 := cn6_1
            have sn6_V9 := row_size gn6_V9
            have gn7_V9 := cn7_1
            have sn7_V9 := row_size gn7_V9
            have gn8_V9 := cn8_1
            have sn8_V9 := row_size gn8_V9
            have gn10_V9 := cn10_1
            have sn10_V9 := row_size gn10_V9
            have hb_V9 := cb_1
            clear hHeld cb_1 hb_V8  cb0_1 cb1_1 cn5_1 cn6_1 cn7_1 cn8_1 cn10_1 sb0_V8 sb1_V8 sn5_V8 sn6_V8 sn7_V8 sn8_V8 sn10_V8 gb0_V8 gb1_V8 gn5_V8 gn6_V8 gn7_V8 gn8_V8 gn10_V8
            have HF := vlt (show DeIs a p6 true by
              have hd := dec_ok vp6.out e63.out e23.out FO.out e69.out HP.out.1
              exact ⟨fun _ => ⟨(cW v61, cW z), hd.1, hd.2.1, hd.2.2, HP.out⟩, fun h => (by cases h)⟩)
            go_wp2_with fail
            refine bodyPost_ret (v := .tuple #[.agg (i64v p6).toArray, .bool true]) (results_row_tmp Tryd.results34 _ _ (w.heap.size + 1) 57 _ (0, 0) _ rfl gb1_V9.out Tryd.underlying57 rfl (by rw [List.size_toArray, i64v_len, hp6.out]; kernel_rfl) _ rfl) rfl ⟨p6, true, rfl, HF, hp6, hb_V9⟩
      · by_cases hnz : v39 = z32
        · subst hnz
          have heq := eql_bytes_same (P := Tryd.prog) Tryd.underlying23 Tryd.underlying5 Tryd.sizeByte z32 z32_len
          have HN := vlt (dec_z HY.out HS.out rfl HR.out.1)
          have HF := vlt (show DeIs a z64i false from ⟨fun h => (by cases h), fun _ => HN.out⟩)
          go_upto_region 10 with (first
            | (with_reducible refine wpList_load_row_w (by kernel_rfl) 23 (.tmp 8) rfl G8 rfl 23 (bv z32).toArray (0, 0) _ gn8_V6.out Tryd.underlying23 rfl (by rw [bv_size z32 z32_len]; kernel_rfl) ?_)
            | (with_reducible refine wpList_build_w (by kernel_rfl) 23 #[] rfl [] (by kernel_rfl) (bv z32).toArray hbz ?_)
            | (with_reducible refine wpList_eql_w (by kernel_rfl) 23 _ (.tmp 45) (.tmp 46) rfl (by kernel_rfl) (bv z32).toArray (bv z32).toArray rfl rfl true (heq _) ?_))
          clear heq
          refine plain_start_c (S := fun W' => Below V6.heap.size V6 W') 1 (by kernel_rfl) (Below.refl _ _) (fun hHeld => ?_)
          refine c_take (i := 0) (oi := ⟨(some 53), _, _, _, _, _⟩) (v := _) rfl (by decide) (by kernel_rfl) (by kernel_rfl) (by kernel_rfl) (fun _ _ _ h => h) (yields_build (by rfl) _ _ rfl [] (by rfl) _ hbp) hHeld ?_
          try simp only [pu]
          refine c_call (S' := fun _ => True) (o := ⟨none, _, _, _, _, _⟩) (by kernel_rfl) (by kernel_rfl) rfl (fun K hK => ?_)
          have cb0_0 := row_next2 gb0_V6 hHeld
          have cb1_0 := row_next2 gb1_V6 hHeld
          have cn5_0 := row_next2 gn5_V6 hHeld
          have cn6_0 := row_next2 gn6_V6 hHeld
          have cn7_0 := row_next2 gn7_V6 hHeld
          have cn8_0 := row_next2 gn8_V6 hHeld
          have cb_0 := below_next hb_V6 hb_V6.size hHeld
          clear hHeld
          refine step_row (by rfl) 57 (.tmp 2) (.tmp 53) rfl (w.heap.size + 1) (i64v z64i) rfl rfl 57 _ cb1_0.out (by rw [i64v_len, z64i_len]; kernel_rfl) (by rw [List.size_toArray]) (i64v_one _) ?_
          intro W19 cb1_1 kR
          refine hK.out _ _ trivial (fun hHeld => ?_)
          have cb0_1 := row_but cb0_0 kR (by omega)
          have cn5_1 := row_but cn5_0 kR (by omega)
          have cn6_1 := row_but cn6_0 kR (by omega)
          have cn7_1 := row_but cn7_0 kR (by omega)
          have cn8_1 := row_but cn8_0 kR (by omega)
          have cb_1 := But.below cb_0 kR (by omega) cb_0.size
          clear hK K kR cb_0 cb0_0 cb1_0 cn5_0 cn6_0 cn7_0 cn8_0 
          try simp only [pu]
          refine wpAnyH_take (i := 2) (oi := ⟨(some 3), _, _, _, _, _⟩) (v := (Value.bool false)) rfl (by kernel_rfl) (by kernel_rfl) (by kernel_rfl) (fun _ _ _ h => h) (Or.inl ⟨by rfl, ?yqV6_6_2⟩) hHeld ?_
          case yqV6_6_2 => (intro W0 hSw; go_simp; try with_reducible rfl)
          try simp only [pu]
          refine wpAnyH_done (by kernel_rfl) ?_ _
          obtain ⟨V7, rV7⟩ : ∃ X, X = W19 := ⟨_, rfl⟩
          subst rV7
          have gb0_V7 := cb0_1
          have sb0_V7 := row_size gb0_V7
          have gb1_V7 := cb1_1
          have sb1_V7 := row_size gb1_V7
          have gn5_V7 := cn5_1
          have sn5_V7 := row_size gn5_V7
          have gn6_V7 := cn6_1
          have sn6_V7 := row_size gn6_V7
          have gn7_V7 := cn7_1
          have sn7_V7 := row_size gn7_V7
          have gn8_V7 := cn8_1
          have sn8_V7 := row_size gn8_V7
          have hb_V7 := cb_1
          clear hHeld cb_1 hb_V6  cb0_1 cb1_1 cn5_1 cn6_1 cn7_1 cn8_1 sb0_V6 sb1_V6 sn5_V6 sn6_V6 sn7_V6 sn8_V6 gb0_V6 gb1_V6 gn5_V6 gn6_V6 gn7_V6 gn8_V6
          go_wp2_with fail
          refine bodyPost_ret (v := .tuple #[.agg (i64v z64i).toArray, .bool false]) (results_row_tmp Tryd.results34 _ _ (w.heap.size + 1) 57 _ (0, 0) _ rfl gb1_V7.out Tryd.underlying57 rfl (by rw [List.size_toArray, i64v_len, z64i_len]; kernel_rfl) _ rfl) rfl ⟨z64i, false, rfl, HF, z64i_len, hb_V7⟩
        · have heq := eql_bytes (P := Tryd.prog) Tryd.underlying23 Tryd.underlying5 Tryd.sizeByte v39 z32 h39.out z32_len
          rw [decide_eq_false hnz] at heq
          go_upto_region 11 with (first
            | (with_reducible refine wpList_load_row_w (by kernel_rfl) 23 (.tmp 8) rfl G8 rfl 23 (bv v39).toArray (0, 0) _ gn8_V6.out Tryd.underlying23 rfl (by rw [bv_size v39 h39.out]; kernel_rfl) ?_)
            | (with_reducible refine wpList_build_w (by kernel_rfl) 23 #[] rfl [] (by kernel_rfl) (bv z32).toArray hbz ?_)
            | (with_reducible refine wpList_eql_w (by kernel_rfl) 23 _ (.tmp 45) (.tmp 46) rfl (by kernel_rfl) (bv v39).toArray (bv z32).toArray rfl rfl false (heq _) ?_))
          clear heq
          obtain ⟨c, hc, hx0, hcx⟩ := first_byte v39 h39.out
          have c0 : V6.cell? ⟨G8, 0, none⟩ = some (.int .u8 (c : Int)) := by
            have h := byte_cell gn8_V6.out hx0
            rwa [UInt8.toNat_ofNat', show (2 : Nat) ^ 8 = 256 by decide, Nat.mod_eq_of_lt hc] at h
          have el := low8 c hc
          obtain ⟨d, hd⟩ : ∃ d, d = c % 2 := ⟨_, rfl⟩
          have HD := vlt (show ln v39 % 2 = d by rw [hd, hcx])
          have hd2 : d < 2 := by omega
          rw [← hd] at el
          clear hd hcx hx0
          obtain rfl | rfl : d = 0 ∨ d = 1 := by omega
          · go_upto_region 12 with fail
            clear c0 el
            refine plain_start_c (S := fun W' => Below V6.heap.size V6 W') 3 (by kernel_rfl) (Below.refl _ _) (fun hHeld => ?_)
            refine c_take (i := 0) (oi := ⟨(some 59), _, _, _, _, _⟩) (v := _) rfl (by decide) (by kernel_rfl) (by kernel_rfl) (by kernel_rfl) (fun _ _ _ h => h) (yields_build (by rfl) _ _ rfl [] (by rfl) _ hbz) hHeld ?_
            try simp only [pu]
            refine c_read (i := 1) (oi := ⟨(some 60), _, _, _, _, _⟩) (v := _) rfl (by decide) (by kernel_rfl) (by kernel_rfl) (by kernel_rfl) (by kernel_rfl) (by kernel_rfl) (fun _ _ _ h => h) (yieldsIf_load_mid (by rfl) _ _ rfl G8 0 rfl (bv v39) _ (fun W' hW' => range_row ((hW'.block _ sn8_V6).trans gn8_V6.out)) (Tryd.underlying23) rfl (by rw [bv_len, h39.out]; kernel_rfl)) hHeld ?_
            try simp only [pu]
            refine c_step (i := 2) (o := ⟨(some 61), _, _, _, _, _⟩) (by kernel_rfl) rfl (fun K hK => ?_)
            go_simp
            refine (rsubW_any _ z32 v39 (z32_len) (h39.out)).mono ?_
            rintro e W19 ⟨v61, rfl, e61, h61, hb19⟩
            refine hK.out _ _ (below_next hHeld hHeld.size hb19) (fun hHeld => ?_)
            clear hK K hb19
            try simp only [pu]
            refine c_call (S' := fun _ => True) (o := ⟨none, _, _, _, _, _⟩) (by kernel_rfl) (by kernel_rfl) rfl (fun K hK => ?_)
            have cb0_0 := row_next2 gb0_V6 hHeld
            have cb1_0 := row_next2 gb1_V6 hHeld
            have cn5_0 := row_next2 gn5_V6 hHeld
            have cn6_0 := row_next2 gn6_V6 hHeld
            have cn7_0 := row_next2 gn7_V6 hHeld
            have cn8_0 := row_next2 gn8_V6 hHeld
            have cb_0 := below_next hb_V6 hb_V6.size hHeld
            clear hHeld
            refine step_row (by rfl) 23 (.tmp 8) (.tmp 61) rfl G8 (bv v61) rfl rfl 23 _ cn8_0.out (by rw [bv_len, h61.out]; kernel_rfl) (by rw [List.size_toArray, bv_len, h39.out, bv_len, h61.out]) (bv_one _) ?_
            intro W20 cn8_1 kR
            refine hK.out _ _ trivial (fun hHeld => ?_)
            have cb0_1 := row_but cb0_0 kR (by omega)
            have cb1_1 := row_but cb1_0 kR (by omega)
            have cn5_1 := row_but cn5_0 kR (by omega)
            have cn6_1 := row_but cn6_0 kR (by omega)
            have cn7_1 := row_but cn7_0 kR (by omega)
            have cb_1 := But.below cb_0 kR (by omega) cb_0.size
            clear hK K kR cb_0 cb0_0 cb1_0 cn5_0 cn6_0 cn7_0 cn8_0 
            try simp only [pu]
            refine wpAnyH_done (by kernel_rfl) ?_ _
            obtain ⟨V7, rV7⟩ : ∃ X, X = W20 := ⟨_, rfl⟩
            subst rV7
            have gb0_V7 := cb0_1
            have sb0_V7 := row_size gb0_V7
            have gb1_V7 := cb1_1
            have sb1_V7 := row_size gb1_V7
            have gn5_V7 := cn5_1
            have sn5_V7 := row_size gn5_V7
            have gn6_V7 := cn6_1
            have sn6_V7 := row_size gn6_V7
            have gn7_V7 := cn7_1
            have sn7_V7 := row_size gn7_V7
            have gn8_V7 := cn8_1
            have sn8_V7 := row_size gn8_V7
            have hb_V7 := cb_1
            clear hHeld cb_1 hb_V6  cb0_1 cb1_1 cn5_1 cn6_1 cn7_1 cn8_1 sb0_V6 sb1_V6 sn5_V6 sn6_V6 sn7_V6 sn8_V6 gb0_V6 gb1_V6 gn5_V6 gn6_V6 gn7_V6 gn8_V6
            have HP := vlt (dec_other HA.out HY.out HS.out HG.out HR.out.2 HR.out.1 HD.out (by decide) (not_z32 h39.out hnz) (show cW v61 = 0 - cW v39 by rw [e61.out.1, z32_is]))
            go_upto_region 13 with fail
            refine plain_start (S := fun W' => Below V7.heap.size V7 W') (by kernel_rfl) (Below.refl _ _) (fun hHeld => ?_)
            refine wpAnyH_take (i := 0) (oi := ⟨(some 62), _, _, _, _, _⟩) (v := _) rfl (by kernel_rfl) (by kernel_rfl) (by kernel_rfl) (fun _ _ _ h => h) (yieldsIf_load_mid (by rfl) _ _ rfl G8 0 rfl (bv v61) _ (fun W' hW' => range_row ((hW'.block _ sn8_V7).trans gn8_V7.out)) (Tryd.underlying23) rfl (by rw [bv_len, h61.out]; kernel_rfl)) hHeld ?_
            try simp only [pu]
            refine mix_start (B := V7.heap.size) (al := [⟨2, 10, 55, ((i64v z16)).toArray⟩]) (fuel := 2) rfl hHeld (hHeld.size) ?_
            clear hHeld
            refine mix_call (i := 1) (o := ⟨(some 63), _, _, _, _, _⟩) rfl (by kernel_rfl) (by kernel_rfl) (by kernel_rfl) (by kernel_rfl) (fun x hx => by simp only [List.mem_cons, List.not_mem_nil, or_false] at hx; rcases hx with rfl <;> first | exact makes_new rfl rfl rfl rfl zero_fe) (fun W x _ h => h.alloc h.size _) (fun _ _ _ _ _ h => h) (fun X21 hHeld hBX K hK => ?_)
            go_simp
            refine (rinE_any _ v61 (h61.out)).mono ?_
            rintro e W21 ⟨v63, rfl, e63, h63, hb21⟩
            refine hK.out _ _ (below_next hHeld hHeld.size hb21) hb21 ?_
            clear hK K hHeld hBX hb21
            try simp only [pu]
            refine mix_end (by kernel_rfl) (by kernel_rfl) (by simp) (by simp) (fun x hx => by simp only [List.mem_cons, List.not_mem_nil, or_false] at hx; rcases hx with rfl <;> first | exact makes_new rfl rfl rfl rfl zero_fe) (fun W x _ h => h.alloc h.size _) (fun D hD W22 hHeld hBX hHo => ?_)
            obtain ⟨G10, rfl⟩ := v_one hD
            have xG10 : Hid (W22.heap[G10]? = some (.cells ((i64v z16)).toArray 55 (0, 0))) := hHo.row (⟨2, 10, 55, ((i64v z16)).toArray⟩, G10) (by simp)
            have lG10 : V7.heap.size ≤ G10 := hHo.new (⟨2, 10, 55, ((i64v z16)).toArray⟩, G10) (by simp)
            clear hHo hBX hD
            simp only [markD, putD, List.foldr_cons, List.foldr_nil, pu, List.setIfInBounds_toArray, List.set_cons_zero, List.set_cons_succ]
            refine wpAnyH_ready (rs := [3]) (by kernel_rfl) (by simp) ?_
            refine AllReadyH.cons (i := 3) (o := ⟨none, _, _, _, _, _⟩) rfl (fun K hK => ?_) AllReadyH.nil
            refine step_row (by rfl) 55 (.tmp 10) (.tmp 63) rfl G10 (i64v v63) rfl rfl 55 _ xG10.out (by rw [i64v_len, h63.out]; kernel_rfl) (by rw [List.size_toArray, i64v_len, i64v_len, h63.out, (show z16.length = 16 from rfl)]) (i64v_one _) ?_
            intro W23 yG10 kG10
            refine hK.out _ _ (But.below hHeld kG10 lG10 hHeld.size) (fun hHeld => ?_)
            clear hK K kG10 xG10
            have xG10 := yG10
            clear yG10
            try simp only [pu]
            refine wpAnyH_done (by kernel_rfl) ?_ _
            obtain ⟨V8, rV8⟩ : ∃ X, X = W23 := ⟨_, rfl⟩
            subst rV8
            have gb0_V8 := row_next2 gb0_V7 hHeld
            have sb0_V8 := row_size gb0_V8
            have gb1_V8 := row_next2 gb1_V7 hHeld
            have sb1_V8 := row_size gb1_V8
            have gn5_V8 := row_next2 gn5_V7 hHeld
            have sn5_V8 := row_size gn5_V8
            have gn6_V8 := row_next2 gn6_V7 hHeld
            have sn6_V8 := row_size gn6_V8
            have gn7_V8 := row_next2 gn7_V7 hHeld
            have sn7_V8 := row_size gn7_V8
            have gn8_V8 := row_next2 gn8_V7 hHeld
            have sn8_V8 := row_size gn8_V8
            have hb_V8 := below_next hb_V7 hb_V7.size hHeld
            have gn10_V8 := xG10
            have sn10_V8 := row_size gn10_V8
            clear xG10
            have wG10 : w.heap.size + 2 ≤ G10 := by omega
            have nG5G10 : G5 ≠ G10 := by omega
            have nG6G10 : G6 ≠ G10 := by omega
            have nG7G10 : G7 ≠ G10 := by omega
            have nG8G10 : G8 ≠ G10 := by omega
            clear hHeld hb_V7 sb0_V7 sb1_V7 sn5_V7 sn6_V7 sn7_V7 sn8_V7
            clear gb0_V7 gb1_V7 gn5_V7 gn6_V7 gn7_V7 gn8_V7 lG10
            go_upto_region 14 with fail
            refine c_start (S := fun W' => Below V8.heap.size V8 W') 7 (by kernel_rfl) ((Below.refl _ _).drew) (fun hHeld => ?_)
            refine c_read (i := 0) (oi := ⟨(some 64), _, _, _, _, _⟩) (v := _) rfl (by decide) (by kernel_rfl) (by kernel_rfl) (by kernel_rfl) (by kernel_rfl) (by kernel_rfl) (fun _ _ _ h => h) (yieldsIf_load_mid (by rfl) _ _ rfl G10 0 rfl (i64v v63) _ (fun W' hW' => range_row ((hW'.block _ sn10_V8).trans gn10_V8.out)) (Tryd.underlying55) rfl (by rw [i64v_len, h63.out]; kernel_rfl)) hHeld ?_
            try simp only [pu]
            refine c_read (i := 1) (oi := ⟨(some 65), _, _, _, _, _⟩) (v := _) rfl (by decide) (by kernel_rfl) (by kernel_rfl) (by kernel_rfl) (by kernel_rfl) (by kernel_rfl) (fun _ _ _ h => h) (yieldsIf_load_mid (by rfl) _ _ rfl G5 0 rfl (i64v v23) _ (fun W' hW' => range_row ((hW'.block _ sn5_V8).trans gn5_V8.out)) (Tryd.underlying55) rfl (by rw [i64v_len, h23.out]; kernel_rfl)) hHeld ?_
            try simp only [pu]
            refine c_take (i := 2) (oi := ⟨(some 66), _, _, _, _, _⟩) (v := _) rfl (by decide) (by kernel_rfl) (by kernel_rfl) (by kernel_rfl) (fun _ _ _ h => h) (yields_build (by rfl) _ _ rfl [(0, .int .i64 1)] (by rfl) _ hb1) hHeld ?_
            try simp only [pu]
            refine c_read (i := 3) (oi := ⟨(some 67), _, _, _, _, _⟩) (v := _) rfl (by decide) (by kernel_rfl) (by kernel_rfl) (by kernel_rfl) (by kernel_rfl) (by kernel_rfl) (fun _ _ _ h => h) (yieldsIf_load_mid (by rfl) _ _ rfl G10 0 rfl (i64v v63) _ (fun W' hW' => range_row ((hW'.block _ sn10_V8).trans gn10_V8.out)) (Tryd.underlying55) rfl (by rw [i64v_len, h63.out]; kernel_rfl)) hHeld ?_
            try simp only [pu]
            refine c_read (i := 4) (oi := ⟨(some 68), _, _, _, _, _⟩) (v := _) rfl (by decide) (by kernel_rfl) (by kernel_rfl) (by kernel_rfl) (by kernel_rfl) (by kernel_rfl) (fun _ _ _ h => h) (yieldsIf_load_mid (by rfl) _ _ rfl G5 0 rfl (i64v v23) _ (fun W' hW' => range_row ((hW'.block _ sn5_V8).trans gn5_V8.out)) (Tryd.underlying55) rfl (by rw [i64v_len, h23.out]; kernel_rfl)) hHeld ?_
            try simp only [pu]
            refine c_step (i := 5) (o := ⟨(some 69), _, _, _, _, _⟩) (by kernel_rfl) rfl (fun K hK => ?_)
            go_simp
            refine (rtimesE_any _ v63 v23 (e63.out) (e23.out)).mono ?_
            rintro e W24 ⟨v69, rfl, e69, h69, hb24⟩
            refine hK.out _ _ (below_next hHeld hHeld.size hb24) (fun hHeld => ?_)
            clear hK K hb24
            try simp only [pu]
            obtain ⟨p6, ep6⟩ : ∃ p, p = v63 ++ (v23 ++ (ONE ++ (v69))) := ⟨_, rfl⟩
            have bp6 := built_point v63 v23 ONE v69 (h63.out) (h23.out) (HO.out) (h69.out)
            rw [← ep6] at bp6
            have hp6 := Lib.hid (show p6.length = 64 by rw [ep6]; simp [h63.out, h23.out, HO.out, h69.out])
            have vp6 := vlt ep6
            clear ep6
            refine c_take (i := 6) (oi := ⟨(some 70), _, _, _, _, _⟩) (v := _) rfl (by decide) (by kernel_rfl) (by kernel_rfl) (by kernel_rfl) (fun _ _ _ h => h) (yields_build (by rfl) _ _ rfl [(0, .agg (i64v v63).toArray), (1, .agg (i64v v23).toArray), (2, .agg (i64v ONE).toArray), (3, .agg (i64v v69).toArray)] (by rfl) _ bp6) hHeld ?_
            try simp only [pu]
            refine c_call (S' := fun _ => True) (o := ⟨none, _, _, _, _, _⟩) (by kernel_rfl) (by kernel_rfl) rfl (fun K hK => ?_)
            have cb0_0 := row_next2 gb0_V8 hHeld
            have cb1_0 := row_next2 gb1_V8 hHeld
            have cn5_0 := row_next2 gn5_V8 hHeld
            have cn6_0 := row_next2 gn6_V8 hHeld
            have cn7_0 := row_next2 gn7_V8 hHeld
            have cn8_0 := row_next2 gn8_V8 hHeld
            have cn10_0 := row_next2 gn10_V8 hHeld
            have cb_0 := below_next hb_V8 hb_V8.size hHeld
            clear hHeld
            refine step_row (by rfl) 57 (.tmp 2) (.tmp 70) rfl (w.heap.size + 1) (i64v p6) rfl rfl 57 _ cb1_0.out (by rw [i64v_len, hp6.out]; kernel_rfl) (by rw [List.size_toArray, i64v_len, z64i_len, i64v_len, hp6.out]) (i64v_one _) ?_
            intro W25 cb1_1 kR
            refine hK.out _ _ trivial (fun hHeld => ?_)
            have cb0_1 := row_but cb0_0 kR (by omega)
            have cn5_1 := row_but cn5_0 kR (by omega)
            have cn6_1 := row_but cn6_0 kR (by omega)
            have cn7_1 := row_but cn7_0 kR (by omega)
            have cn8_1 := row_but cn8_0 kR (by omega)
            have cn10_1 := row_but cn10_0 kR (by omega)
            have cb_1 := But.below cb_0 kR (by omega) cb_0.size
            clear hK K kR cb_0 cb0_0 cb1_0 cn5_0 cn6_0 cn7_0 cn8_0 cn10_0 
            try simp only [pu]
            refine wpAnyH_take (i := 8) (oi := ⟨(some 3), _, _, _, _, _⟩) (v := (Value.bool true)) rfl (by kernel_rfl) (by kernel_rfl) (by kernel_rfl) (fun _ _ _ h => h) (Or.inl ⟨by rfl, ?yqV8_8_8⟩) hHeld ?_
            case yqV8_8_8 => (intro W0 hSw; go_simp; try with_reducible rfl)
            try simp only [pu]
            refine wpAnyH_done (by kernel_rfl) ?_ _
            obtain ⟨V9, rV9⟩ : ∃ X, X = W25 := ⟨_, rfl⟩
            subst rV9
            have gb0_V9 := cb0_1
            have sb0_V9 := row_size gb0_V9
            have gb1_V9 := cb1_1
            have sb1_V9 := row_size gb1_V9
            have gn5_V9 := cn5_1
            have sn5_V9 := row_size gn5_V9
            have gn6_V9 := cn6_1
            have sn6_V9 := row_size gn6_V9
            have gn7_V9 := cn7_1
            have sn7_V9 := row_size gn7_V9
            have gn8_V9 := cn8_1
            have sn8_V9 := row_size gn8_V9
            have gn10_V9 := cn10_1
            have sn10_V9 := row_size gn10_V9
            have hb_V9 := cb_1
            clear hHeld cb_1 hb_V8  cb0_1 cb1_1 cn5_1 cn6_1 cn7_1 cn8_1 cn10_1 sb0_V8 sb1_V8 sn5_V8 sn6_V8 sn7_V8 sn8_V8 sn10_V8 gb0_V8 gb1_V8 gn5_V8 gn6_V8 gn7_V8 gn8_V8 gn10_V8
            have HF := vlt (show DeIs a p6 true by
              have hd := dec_ok vp6.out e63.out e23.out FO.out e69.out HP.out.1
              exact ⟨fun _ => ⟨(cW v61, cW z), hd.1, hd.2.1, hd.2.2, HP.out⟩, fun h => (by cases h)⟩)
            go_wp2_with fail
            refine bodyPost_ret (v := .tuple #[.agg (i64v p6).toArray, .bool true]) (results_row_tmp Tryd.results34 _ _ (w.heap.size + 1) 57 _ (0, 0) _ rfl gb1_V9.out Tryd.underlying57 rfl (by rw [List.size_toArray, i64v_len, hp6.out]; kernel_rfl) _ rfl) rfl ⟨p6, true, rfl, HF, hp6, hb_V9⟩
          · have HP := vlt (dec_same HA.out HY.out HS.out HG.out HR.out.2 HR.out.1 HD.out)
            go_upto_region 13 with fail
            clear c0 el
            refine plain_start (S := fun W' => Below V6.heap.size V6 W') (by kernel_rfl) (Below.refl _ _) (fun hHeld => ?_)
            refine wpAnyH_take (i := 0) (oi := ⟨(some 62), _, _, _, _, _⟩) (v := _) rfl (by kernel_rfl) (by kernel_rfl) (by kernel_rfl) (fun _ _ _ h => h) (yieldsIf_load_mid (by rfl) _ _ rfl G8 0 rfl (bv v39) _ (fun W' hW' => range_row ((hW'.block _ sn8_V6).trans gn8_V6.out)) (Tryd.underlying23) rfl (by rw [bv_len, h39.out]; kernel_rfl)) hHeld ?_
            try simp only [pu]
            refine mix_start (B := V6.heap.size) (al := [⟨2, 10, 55, ((i64v z16)).toArray⟩]) (fuel := 2) rfl hHeld (hHeld.size) ?_
            clear hHeld
            refine mix_call (i := 1) (o := ⟨(some 63), _, _, _, _, _⟩) rfl (by kernel_rfl) (by kernel_rfl) (by kernel_rfl) (by kernel_rfl) (fun x hx => by simp only [List.mem_cons, List.not_mem_nil, or_false] at hx; rcases hx with rfl <;> first | exact makes_new rfl rfl rfl rfl zero_fe) (fun W x _ h => h.alloc h.size _) (fun _ _ _ _ _ h => h) (fun X19 hHeld hBX K hK => ?_)
            go_simp
            refine (rinE_any _ v39 (h39.out)).mono ?_
            rintro e W19 ⟨v63, rfl, e63, h63, hb19⟩
            refine hK.out _ _ (below_next hHeld hHeld.size hb19) hb19 ?_
            clear hK K hHeld hBX hb19
            try simp only [pu]
            refine mix_end (by kernel_rfl) (by kernel_rfl) (by simp) (by simp) (fun x hx => by simp only [List.mem_cons, List.not_mem_nil, or_false] at hx; rcases hx with rfl <;> first | exact makes_new rfl rfl rfl rfl zero_fe) (fun W x _ h => h.alloc h.size _) (fun D hD W20 hHeld hBX hHo => ?_)
            obtain ⟨G10, rfl⟩ := v_one hD
            have xG10 : Hid (W20.heap[G10]? = some (.cells ((i64v z16)).toArray 55 (0, 0))) := hHo.row (⟨2, 10, 55, ((i64v z16)).toArray⟩, G10) (by simp)
            have lG10 : V6.heap.size ≤ G10 := hHo.new (⟨2, 10, 55, ((i64v z16)).toArray⟩, G10) (by simp)
            clear hHo hBX hD
            simp only [markD, putD, List.foldr_cons, List.foldr_nil, pu, List.setIfInBounds_toArray, List.set_cons_zero, List.set_cons_succ]
            refine wpAnyH_ready (rs := [3]) (by kernel_rfl) (by simp) ?_
            refine AllReadyH.cons (i := 3) (o := ⟨none, _, _, _, _, _⟩) rfl (fun K hK => ?_) AllReadyH.nil
            refine step_row (by rfl) 55 (.tmp 10) (.tmp 63) rfl G10 (i64v v63) rfl rfl 55 _ xG10.out (by rw [i64v_len, h63.out]; kernel_rfl) (by rw [List.size_toArray, i64v_len, i64v_len, h63.out, (show z16.length = 16 from rfl)]) (i64v_one _) ?_
            intro W21 yG10 kG10
            refine hK.out _ _ (But.below hHeld kG10 lG10 hHeld.size) (fun hHeld => ?_)
            clear hK K kG10 xG10
            have xG10 := yG10
            clear yG10
            try simp only [pu]
            refine wpAnyH_done (by kernel_rfl) ?_ _
            obtain ⟨V7, rV7⟩ : ∃ X, X = W21 := ⟨_, rfl⟩
            subst rV7
            have gb0_V7 := row_next2 gb0_V6 hHeld
            have sb0_V7 := row_size gb0_V7
            have gb1_V7 := row_next2 gb1_V6 hHeld
            have sb1_V7 := row_size gb1_V7
            have gn5_V7 := row_next2 gn5_V6 hHeld
            have sn5_V7 := row_size gn5_V7
            have gn6_V7 := row_next2 gn6_V6 hHeld
            have sn6_V7 := row_size gn6_V7
            have gn7_V7 := row_next2 gn7_V6 hHeld
            have sn7_V7 := row_size gn7_V7
            have gn8_V7 := row_next2 gn8_V6 hHeld
            have sn8_V7 := row_size gn8_V7
            have hb_V7 := below_next hb_V6 hb_V6.size hHeld
            have gn10_V7 := xG10
            have sn10_V7 := row_size gn10_V7
            clear xG10
            have wG10 : w.heap.size + 2 ≤ G10 := by omega
            have nG5G10 : G5 ≠ G10 := by omega
            have nG6G10 : G6 ≠ G10 := by omega
            have nG7G10 : G7 ≠ G10 := by omega
            have nG8G10 : G8 ≠ G10 := by omega
            clear hHeld hb_V6 sb0_V6 sb1_V6 sn5_V6 sn6_V6 sn7_V6 sn8_V6
            clear gb0_V6 gb1_V6 gn5_V6 gn6_V6 gn7_V6 gn8_V6 lG10
            go_upto_region 14 with fail
            refine c_start (S := fun W' => Below V7.heap.size V7 W') 7 (by kernel_rfl) ((Below.refl _ _).drew) (fun hHeld => ?_)
            refine c_read (i := 0) (oi := ⟨(some 64), _, _, _, _, _⟩) (v := _) rfl (by decide) (by kernel_rfl) (by kernel_rfl) (by kernel_rfl) (by kernel_rfl) (by kernel_rfl) (fun _ _ _ h => h) (yieldsIf_load_mid (by rfl) _ _ rfl G10 0 rfl (i64v v63) _ (fun W' hW' => range_row ((hW'.block _ sn10_V7).trans gn10_V7.out)) (Tryd.underlying55) rfl (by rw [i64v_len, h63.out]; kernel_rfl)) hHeld ?_
            try simp only [pu]
            refine c_read (i := 1) (oi := ⟨(some 65), _, _, _, _, _⟩) (v := _) rfl (by decide) (by kernel_rfl) (by kernel_rfl) (by kernel_rfl) (by kernel_rfl) (by kernel_rfl) (fun _ _ _ h => h) (yieldsIf_load_mid (by rfl) _ _ rfl G5 0 rfl (i64v v23) _ (fun W' hW' => range_row ((hW'.block _ sn5_V7).trans gn5_V7.out)) (Tryd.underlying55) rfl (by rw [i64v_len, h23.out]; kernel_rfl)) hHeld ?_
            try simp only [pu]
            refine c_take (i := 2) (oi := ⟨(some 66), _, _, _, _, _⟩) (v := _) rfl (by decide) (by kernel_rfl) (by kernel_rfl) (by kernel_rfl) (fun _ _ _ h => h) (yields_build (by rfl) _ _ rfl [(0, .int .i64 1)] (by rfl) _ hb1) hHeld ?_
            try simp only [pu]
            refine c_read (i := 3) (oi := ⟨(some 67), _, _, _, _, _⟩) (v := _) rfl (by decide) (by kernel_rfl) (by kernel_rfl) (by kernel_rfl) (by kernel_rfl) (by kernel_rfl) (fun _ _ _ h => h) (yieldsIf_load_mid (by rfl) _ _ rfl G10 0 rfl (i64v v63) _ (fun W' hW' => range_row ((hW'.block _ sn10_V7).trans gn10_V7.out)) (Tryd.underlying55) rfl (by rw [i64v_len, h63.out]; kernel_rfl)) hHeld ?_
            try simp only [pu]
            refine c_read (i := 4) (oi := ⟨(some 68), _, _, _, _, _⟩) (v := _) rfl (by decide) (by kernel_rfl) (by kernel_rfl) (by kernel_rfl) (by kernel_rfl) (by kernel_rfl) (fun _ _ _ h => h) (yieldsIf_load_mid (by rfl) _ _ rfl G5 0 rfl (i64v v23) _ (fun W' hW' => range_row ((hW'.block _ sn5_V7).trans gn5_V7.out)) (Tryd.underlying55) rfl (by rw [i64v_len, h23.out]; kernel_rfl)) hHeld ?_
            try simp only [pu]
            refine c_step (i := 5) (o := ⟨(some 69), _, _, _, _, _⟩) (by kernel_rfl) rfl (fun K hK => ?_)
            go_simp
            refine (rtimesE_any _ v63 v23 (e63.out) (e23.out)).mono ?_
            rintro e W22 ⟨v69, rfl, e69, h69, hb22⟩
            refine hK.out _ _ (below_next hHeld hHeld.size hb22) (fun hHeld => ?_)
            clear hK K hb22
            try simp only [pu]
            obtain ⟨p6, ep6⟩ : ∃ p, p = v63 ++ (v23 ++ (ONE ++ (v69))) := ⟨_, rfl⟩
            have bp6 := built_point v63 v23 ONE v69 (h63.out) (h23.out) (HO.out) (h69.out)
            rw [← ep6] at bp6
            have hp6 := Lib.hid (show p6.length = 64 by rw [ep6]; simp [h63.out, h23.out, HO.out, h69.out])
            have vp6 := vlt ep6
            clear ep6
            refine c_take (i := 6) (oi := ⟨(some 70), _, _, _, _, _⟩) (v := _) rfl (by decide) (by kernel_rfl) (by kernel_rfl) (by kernel_rfl) (fun _ _ _ h => h) (yields_build (by rfl) _ _ rfl [(0, .agg (i64v v63).toArray), (1, .agg (i64v v23).toArray), (2, .agg (i64v ONE).toArray), (3, .agg (i64v v69).toArray)] (by rfl) _ bp6) hHeld ?_
            try simp only [pu]
            refine c_call (S' := fun _ => True) (o := ⟨none, _, _, _, _, _⟩) (by kernel_rfl) (by kernel_rfl) rfl (fun K hK => ?_)
            have cb0_0 := row_next2 gb0_V7 hHeld
            have cb1_0 := row_next2 gb1_V7 hHeld
            have cn5_0 := row_next2 gn5_V7 hHeld
            have cn6_0 := row_next2 gn6_V7 hHeld
            have cn7_0 := row_next2 gn7_V7 hHeld
            have cn8_0 := row_next2 gn8_V7 hHeld
            have cn10_0 := row_next2 gn10_V7 hHeld
            have cb_0 := below_next hb_V7 hb_V7.size hHeld
            clear hHeld
            refine step_row (by rfl) 57 (.tmp 2) (.tmp 70) rfl (w.heap.size + 1) (i64v p6) rfl rfl 57 _ cb1_0.out (by rw [i64v_len, hp6.out]; kernel_rfl) (by rw [List.size_toArray, i64v_len, z64i_len, i64v_len, hp6.out]) (i64v_one _) ?_
            intro W23 cb1_1 kR
            refine hK.out _ _ trivial (fun hHeld => ?_)
            have cb0_1 := row_but cb0_0 kR (by omega)
            have cn5_1 := row_but cn5_0 kR (by omega)
            have cn6_1 := row_but cn6_0 kR (by omega)
            have cn7_1 := row_but cn7_0 kR (by omega)
            have cn8_1 := row_but cn8_0 kR (by omega)
            have cn10_1 := row_but cn10_0 kR (by omega)
            have cb_1 := But.below cb_0 kR (by omega) cb_0.size
            clear hK K kR cb_0 cb0_0 cb1_0 cn5_0 cn6_0 cn7_0 cn8_0 cn10_0 
            try simp only [pu]
            refine wpAnyH_take (i := 8) (oi := ⟨(some 3), _, _, _, _, _⟩) (v := (Value.bool true)) rfl (by kernel_rfl) (by kernel_rfl) (by kernel_rfl) (fun _ _ _ h => h) (Or.inl ⟨by rfl, ?yqV7_7_8⟩) hHeld ?_
            case yqV7_7_8 => (intro W0 hSw; go_simp; try with_reducible rfl)
            try simp only [pu]
            refine wpAnyH_done (by kernel_rfl) ?_ _
            obtain ⟨V8, rV8⟩ : ∃ X, X = W23 := ⟨_, rfl⟩
            subst rV8
            have gb0_V8 := cb0_1
            have sb0_V8 := row_size gb0_V8
            have gb1_V8 := cb1_1
            have sb1_V8 := row_size gb1_V8
            have gn5_V8 := cn5_1
            have sn5_V8 := row_size gn5_V8
            have gn6_V8 := cn6_1
            have sn6_V8 := row_size gn6_V8
            have gn7_V8 := cn7_1
            have sn7_V8 := row_size gn7_V8
            have gn8_V8 := cn8_1
            have sn8_V8 := row_size gn8_V8
            have gn10_V8 := cn10_1
            have sn10_V8 := row_size gn10_V8
            have hb_V8 := cb_1
            clear hHeld cb_1 hb_V7  cb0_1 cb1_1 cn5_1 cn6_1 cn7_1 cn8_1 cn10_1 sb0_V7 sb1_V7 sn5_V7 sn6_V7 sn7_V7 sn8_V7 sn10_V7 gb0_V7 gb1_V7 gn5_V7 gn6_V7 gn7_V7 gn8_V7 gn10_V7
            have HF := vlt (show DeIs a p6 true by
              have hd := dec_ok vp6.out e63.out e23.out FO.out e69.out HP.out.1
              exact ⟨fun _ => ⟨(cW v39, cW z), hd.1, hd.2.1, hd.2.2, HP.out⟩, fun h => (by cases h)⟩)
            go_wp2_with fail
            refine bodyPost_ret (v := .tuple #[.agg (i64v p6).toArray, .bool true]) (results_row_tmp Tryd.results34 _ _ (w.heap.size + 1) 57 _ (0, 0) _ rfl gb1_V8.out Tryd.underlying57 rfl (by rw [List.size_toArray, i64v_len, hp6.out]; kernel_rfl) _ rfl) rfl ⟨p6, true, rfl, HF, hp6, hb_V8⟩
end Go.Proofs.YtehkalbiomagjaaDoor
namespace Go.Proofs.YtehkalbiomagjaaDoor
open Go.RowKit

/-- What the document's own calls answer, of points or none. -/
def RAd (a b l : List UInt8) (ok : Bool) : Prop := ∃ o p, PtIs a o ∧ PtIs b p ∧ l = add1 o p ∧ ok = (o.isSome && p.isSome)
def RNg (a l : List UInt8) (ok : Bool) : Prop := ∃ o, PtIs a o ∧ l = neg1 o ∧ ok = o.isSome
def RMu (n : Nat) (a l : List UInt8) (ok : Bool) : Prop := ∃ o, PtIs a o ∧ l = mul1 n o ∧ ok = o.isSome
def RAt (a x y : List UInt8) (ok : Bool) : Prop := ∃ o, PtIs a o ∧ x = x1 o ∧ y = y1 o ∧ ok = o.isSome
theorem le_fin (x : List UInt8) (X : Fin FP) (h : x.length = 32) (hx : cW x = X ∧ ln x < FP) : x = le X.val 32 := by
  rw [← hx.1]; exact (le_cW x h hx.2).symm
theorem four_parts (q : List Int) (h : q.length = 64) : q = subI q 0 16 ++ (subI q 16 16 ++ (subI q 32 16 ++ subI q 48 16)) := by
  have h1 : subI q 48 16 = q.drop 48 := by rw [subI]; exact List.take_of_length_le (by rw [List.length_drop, h]; decide)
  have h2 : ∀ o : Nat, q.drop o = subI q o 16 ++ q.drop (o + 16) := fun o => by
    rw [subI, ← List.drop_drop]; exact (List.take_append_drop 16 (q.drop o)).symm
  rw [h1, ← h2 32, ← h2 16]
  exact h2 0
theorem neg_rows (q x t : List Int) (h : q.length = 64) (hx : x.length = 16) (ht : t.length = 16) : splice (splice (i64v q) 0 (i64v x)) 48 (i64v t) = i64v (x ++ (subI q 16 16 ++ (subI q 32 16 ++ t))) := by
  have h0 := subI_len q 0 16 (by omega)
  have h1 := subI_len q 16 16 (by omega)
  have h2 := subI_len q 32 16 (by omega)
  have h3 := subI_len q 48 16 (by omega)
  have hq := four_parts q h
  generalize subI q 0 16 = a at *
  generalize subI q 16 16 = b at *
  generalize subI q 32 16 = c at *
  generalize subI q 48 16 = d at *
  subst hq
  have e : ∀ u v y z : List Int, i64v (u ++ (v ++ (y ++ z))) = i64v u ++ (i64v v ++ (i64v y ++ i64v z)) := fun u v y z => by simp [i64v]
  rw [e, e]
  rw [show splice (i64v a ++ (i64v b ++ (i64v c ++ i64v d))) 0 (i64v x) = i64v x ++ (i64v b ++ (i64v c ++ i64v d)) from splice_at [] (i64v a) _ (i64v x) (by rw [i64v_len, i64v_len, h0, hx])]
  have hh := splice_at (i64v x ++ (i64v b ++ i64v c)) (i64v d) [] (i64v t) (by rw [i64v_len, i64v_len, h3, ht])
  simp only [List.append_nil, List.append_assoc, List.length_append, i64v_len, hx, h1, h2] at hh
  exact hh
set_option maxRecDepth 100000 in
set_option maxHeartbeats 4000000 in
theorem rpadd_any (w : World) (a b : List UInt8) (ha : a.length = 32) (hb : b.length = 32) :
    Calls Tryd.prog 10 #[.agg (bv a).toArray, .agg (bv b).toArray] w fun e w' => ∃ l ok, e = .returned (.tuple #[.agg (bv l).toArray, .bool ok]) ∧ Vlt (RAd a b l ok) ∧ Hid (l.length = 32) ∧ Below w.heap.size w w' := by
  have hzw := zero_word
  have hzp := zero_point
  have hbz := built_z32
  obtain ⟨V0, hW, gb0_V0, gb1_V0, gb2_V0, hb_V0, hsW⟩ := three_new w (bv a).toArray (bv b).toArray (bv z32).toArray 23 23 23
  have HW := Lib.hid hW
  have Hha := Lib.hid ha
  have Hhb := Lib.hid hb
  have sb0_V0 := row_size gb0_V0
  have sb1_V0 := row_size gb1_V0
  have sb2_V0 := row_size gb2_V0
  clear hW hsW ha hb
  go_enter Tryd.func10, Tryd.ntmps10
  go_upto_region 1 with fail
  rw [HW.out]
  refine plain_start (S := fun W' => Below V0.heap.size V0 W') (by kernel_rfl) (Below.refl _ _) (fun hHeld => ?_)
  refine wpAnyH_take (i := 0) (oi := ⟨(some 11), _, _, _, _, _⟩) (v := _) rfl (by kernel_rfl) (by kernel_rfl) (by kernel_rfl) (fun _ _ _ h => h) (yieldsIf_load_mid (by rfl) _ _ rfl (w.heap.size) 0 rfl (bv a) _ (fun W' hW' => range_row ((hW'.block _ sb0_V0).trans gb0_V0.out)) (Tryd.underlying23) rfl (by rw [bv_len, Hha.out]; kernel_rfl)) hHeld ?_
  try simp only [pu]
  refine mix_start (B := V0.heap.size) (al := [⟨5, 6, 57, ((i64v z64i)).toArray⟩]) (fuel := 6) rfl hHeld (hHeld.size) ?_
  clear hHeld
  refine mix_call (i := 1) (o := ⟨(some 12), _, _, _, _, _⟩) rfl (by kernel_rfl) (by kernel_rfl) (by kernel_rfl) (by kernel_rfl) (fun x hx => by simp only [List.mem_cons, List.not_mem_nil, or_false] at hx; rcases hx with rfl <;> first | exact makes_new rfl rfl rfl rfl zero_point) (fun W x _ h => h.alloc h.size _) (fun _ _ _ _ _ h => h) (fun X1 hHeld hBX K hK => ?_)
  go_simp
  refine (rdecode_any _ a (Hha.out)).mono ?_
  rintro e W1 ⟨v12, o12, rfl, e12, h12, hb1⟩
  refine hK.out _ _ (below_next hHeld hHeld.size hb1) hb1 ?_
  clear hK K hHeld hBX hb1
  try simp only [pu]
  refine mix_take (i := 2) (o := ⟨(some 10), _, _, _, _, _⟩) (v := ?vqV0_1_2) rfl (by kernel_rfl) (by kernel_rfl) (by kernel_rfl) (by kernel_rfl) (by kernel_rfl) (fun _ _ _ h => h) (Or.inl ⟨by rfl, ?yqV0_1_2⟩) ?_
  case yqV0_1_2 => (intro W0 hSw; go_simp; try with_reducible rfl)
  try simp only [pu]
  refine mix_take (i := 3) (o := ⟨(some 13), _, _, _, _, _⟩) (v := .agg (i64v v12).toArray) rfl (by kernel_rfl) (by kernel_rfl) (by kernel_rfl) (by kernel_rfl) (by kernel_rfl) (fun _ _ _ h => h) (Or.inl ⟨by rfl, ?yqV0_1_3⟩) ?_
  case yqV0_1_3 => (intro W0 hSw; go_simp; try with_reducible rfl)
  try simp only [pu]
  refine mix_take (i := 4) (o := ⟨(some 14), _, _, _, _, _⟩) (v := .bool o12) rfl (by kernel_rfl) (by kernel_rfl) (by kernel_rfl) (by kernel_rfl) (by kernel_rfl) (fun _ _ _ h => h) (Or.inl ⟨by rfl, ?yqV0_1_4⟩) ?_
  case yqV0_1_4 => (intro W0 hSw; go_simp; try with_reducible rfl)
  try simp only [pu]
  refine mix_end (by kernel_rfl) (by kernel_rfl) (by simp) (by simp) (fun x hx => by simp only [List.mem_cons, List.not_mem_nil, or_false] at hx; rcases hx with rfl <;> first | exact makes_new rfl rfl rfl rfl zero_point) (fun W x _ h => h.alloc h.size _) (fun D hD W2 hHeld hBX hHo => ?_)
  obtain ⟨G6, rfl⟩ := v_one hD
  have xG6 : Hid (W2.heap[G6]? = some (.cells ((i64v z64i)).toArray 57 (0, 0))) := hHo.row (⟨5, 6, 57, ((i64v z64i)).toArray⟩, G6) (by simp)
  have lG6 : V0.heap.size ≤ G6 := hHo.new (⟨5, 6, 57, ((i64v z64i)).toArray⟩, G6) (by simp)
  clear hHo hBX hD
  simp only [markD, putD, List.foldr_cons, List.foldr_nil, pu, List.setIfInBounds_toArray, List.set_cons_zero, List.set_cons_succ]
  refine wpAnyH_ready (rs := [6]) (by kernel_rfl) (by simp) ?_
  refine AllReadyH.cons (i := 6) (o := ⟨none, _, _, _, _, _⟩) rfl (fun K hK => ?_) AllReadyH.nil
  refine step_row (by rfl) 57 (.tmp 6) (.tmp 13) rfl G6 (i64v v12) rfl rfl 57 _ xG6.out (by rw [i64v_len, h12.out]; kernel_rfl) (by rw [List.size_toArray, i64v_len, i64v_len, h12.out, z64i_len]) (i64v_one _) ?_
  intro W3 yG6 kG6
  refine hK.out _ _ (But.below hHeld kG6 lG6 hHeld.size) (fun hHeld => ?_)
  clear hK K kG6 xG6
  have xG6 := yG6
  clear yG6
  try simp only [pu]
  refine wpAnyH_take (i := 7) (oi := ⟨(some 7), _, _, _, _, _⟩) (v := ?vqV0_1_7) rfl (by kernel_rfl) (by kernel_rfl) (by kernel_rfl) (fun _ _ _ h => h) (Or.inl ⟨by rfl, ?yqV0_1_7⟩) hHeld ?_
  case yqV0_1_7 => (intro W0 hSw; go_simp; try with_reducible rfl)
  try simp only [pu]
  refine wpAnyH_done (by kernel_rfl) ?_ _
  obtain ⟨V1, rV1⟩ : ∃ X, X = W3 := ⟨_, rfl⟩
  subst rV1
  have gb0_V1 := row_next2 gb0_V0 hHeld
  have sb0_V1 := row_size gb0_V1
  have gb1_V1 := row_next2 gb1_V0 hHeld
  have sb1_V1 := row_size gb1_V1
  have gb2_V1 := row_next2 gb2_V0 hHeld
  have sb2_V1 := row_size gb2_V1
  have hb_V1 := below_next hb_V0 hb_V0.size hHeld
  have gn6_V1 := xG6
  have sn6_V1 := row_size gn6_V1
  clear xG6
  have wG6 : w.heap.size + 3 ≤ G6 := by omega
  clear hHeld hb_V0 sb0_V0 sb1_V0 sb2_V0
  clear gb0_V0 gb1_V0 gb2_V0 lG6
  go_upto_region 2 with fail
  refine plain_start (S := fun W' => Below V1.heap.size V1 W') (by kernel_rfl) (Below.refl _ _) (fun hHeld => ?_)
  refine wpAnyH_take (i := 0) (oi := ⟨(some 16), _, _, _, _, _⟩) (v := _) rfl (by kernel_rfl) (by kernel_rfl) (by kernel_rfl) (fun _ _ _ h => h) (yieldsIf_load_mid (by rfl) _ _ rfl (w.heap.size + 1) 0 rfl (bv b) _ (fun W' hW' => range_row ((hW'.block _ sb1_V1).trans gb1_V1.out)) (Tryd.underlying23) rfl (by rw [bv_len, Hhb.out]; kernel_rfl)) hHeld ?_
  try simp only [pu]
  refine mix_start (B := V1.heap.size) (al := [⟨5, 8, 57, ((i64v z64i)).toArray⟩]) (fuel := 6) rfl hHeld (hHeld.size) ?_
  clear hHeld
  refine mix_call (i := 1) (o := ⟨(some 17), _, _, _, _, _⟩) rfl (by kernel_rfl) (by kernel_rfl) (by kernel_rfl) (by kernel_rfl) (fun x hx => by simp only [List.mem_cons, List.not_mem_nil, or_false] at hx; rcases hx with rfl <;> first | exact makes_new rfl rfl rfl rfl zero_point) (fun W x _ h => h.alloc h.size _) (fun _ _ _ _ _ h => h) (fun X4 hHeld hBX K hK => ?_)
  go_simp
  refine (rdecode_any _ b (Hhb.out)).mono ?_
  rintro e W4 ⟨v17, o17, rfl, e17, h17, hb4⟩
  refine hK.out _ _ (below_next hHeld hHeld.size hb4) hb4 ?_
  clear hK K hHeld hBX hb4
  try simp only [pu]
  refine mix_take (i := 2) (o := ⟨(some 15), _, _, _, _, _⟩) (v := ?vqV1_2_2) rfl (by kernel_rfl) (by kernel_rfl) (by kernel_rfl) (by kernel_rfl) (by kernel_rfl) (fun _ _ _ h => h) (Or.inl ⟨by rfl, ?yqV1_2_2⟩) ?_
  case yqV1_2_2 => (intro W0 hSw; go_simp; try with_reducible rfl)
  try simp only [pu]
  refine mix_take (i := 3) (o := ⟨(some 18), _, _, _, _, _⟩) (v := .agg (i64v v17).toArray) rfl (by kernel_rfl) (by kernel_rfl) (by kernel_rfl) (by kernel_rfl) (by kernel_rfl) (fun _ _ _ h => h) (Or.inl ⟨by rfl, ?yqV1_2_3⟩) ?_
  case yqV1_2_3 => (intro W0 hSw; go_simp; try with_reducible rfl)
  try simp only [pu]
  refine mix_take (i := 4) (o := ⟨(some 19), _, _, _, _, _⟩) (v := .bool o17) rfl (by kernel_rfl) (by kernel_rfl) (by kernel_rfl) (by kernel_rfl) (by kernel_rfl) (fun _ _ _ h => h) (Or.inl ⟨by rfl, ?yqV1_2_4⟩) ?_
  case yqV1_2_4 => (intro W0 hSw; go_simp; try with_reducible rfl)
  try simp only [pu]
  refine mix_end (by kernel_rfl) (by kernel_rfl) (by simp) (by simp) (fun x hx => by simp only [List.mem_cons, List.not_mem_nil, or_false] at hx; rcases hx with rfl <;> first | exact makes_new rfl rfl rfl rfl zero_point) (fun W x _ h => h.alloc h.size _) (fun D hD W5 hHeld hBX hHo => ?_)
  obtain ⟨G8, rfl⟩ := v_one hD
  have xG8 : Hid (W5.heap[G8]? = some (.cells ((i64v z64i)).toArray 57 (0, 0))) := hHo.row (⟨5, 8, 57, ((i64v z64i)).toArray⟩, G8) (by simp)
  have lG8 : V1.heap.size ≤ G8 := hHo.new (⟨5, 8, 57, ((i64v z64i)).toArray⟩, G8) (by simp)
  clear hHo hBX hD
  simp only [markD, putD, List.foldr_cons, List.foldr_nil, pu, List.setIfInBounds_toArray, List.set_cons_zero, List.set_cons_succ]
  refine wpAnyH_ready (rs := [6]) (by kernel_rfl) (by simp) ?_
  refine AllReadyH.cons (i := 6) (o := ⟨none, _, _, _, _, _⟩) rfl (fun K hK => ?_) AllReadyH.nil
  refine step_row (by rfl) 57 (.tmp 8) (.tmp 18) rfl G8 (i64v v17) rfl rfl 57 _ xG8.out (by rw [i64v_len, h17.out]; kernel_rfl) (by rw [List.size_toArray, i64v_len, i64v_len, h17.out, z64i_len]) (i64v_one _) ?_
  intro W6 yG8 kG8
  refine hK.out _ _ (But.below hHeld kG8 lG8 hHeld.size) (fun hHeld => ?_)
  clear hK K kG8 xG8
  have xG8 := yG8
  clear yG8
  try simp only [pu]
  refine wpAnyH_take (i := 7) (oi := ⟨(some 9), _, _, _, _, _⟩) (v := ?vqV1_2_7) rfl (by kernel_rfl) (by kernel_rfl) (by kernel_rfl) (fun _ _ _ h => h) (Or.inl ⟨by rfl, ?yqV1_2_7⟩) hHeld ?_
  case yqV1_2_7 => (intro W0 hSw; go_simp; try with_reducible rfl)
  try simp only [pu]
  refine wpAnyH_done (by kernel_rfl) ?_ _
  obtain ⟨V2, rV2⟩ : ∃ X, X = W6 := ⟨_, rfl⟩
  subst rV2
  have gb0_V2 := row_next2 gb0_V1 hHeld
  have sb0_V2 := row_size gb0_V2
  have gb1_V2 := row_next2 gb1_V1 hHeld
  have sb1_V2 := row_size gb1_V2
  have gb2_V2 := row_next2 gb2_V1 hHeld
  have sb2_V2 := row_size gb2_V2
  have gn6_V2 := row_next2 gn6_V1 hHeld
  have sn6_V2 := row_size gn6_V2
  have hb_V2 := below_next hb_V1 hb_V1.size hHeld
  have gn8_V2 := xG8
  have sn8_V2 := row_size gn8_V2
  clear xG8
  have wG8 : w.heap.size + 3 ≤ G8 := by omega
  have nG6G8 : G6 ≠ G8 := by omega
  clear hHeld hb_V1 sb0_V1 sb1_V1 sb2_V1 sn6_V1
  clear gb0_V1 gb1_V1 gb2_V1 gn6_V1 lG8
  rcases o12 with _ | _
  · have HB : Vlt (∃ p, PtIs b p) := vlt (by rcases o17 with _ | _; exact ⟨none, e17.out.2 rfl⟩; obtain ⟨Q, _, _, _, h⟩ := e17.out.1 rfl; exact ⟨some Q, h⟩)
    have HF := vlt (show RAd a b z32 false by
      obtain ⟨p, hp⟩ := HB.out
      exact ⟨none, p, e12.out.2 rfl, hp, rfl, rfl⟩)
    go_upto_region 4 with fail
    refine plain_start_c (S := fun W' => Below V2.heap.size V2 W') 1 (by kernel_rfl) (Below.refl _ _) (fun hHeld => ?_)
    refine c_take (i := 0) (oi := ⟨(some 26), _, _, _, _, _⟩) (v := _) rfl (by decide) (by kernel_rfl) (by kernel_rfl) (by kernel_rfl) (fun _ _ _ h => h) (yields_build (by rfl) _ _ rfl [] (by rfl) _ hbz) hHeld ?_
    try simp only [pu]
    refine c_call (S' := fun _ => True) (o := ⟨none, _, _, _, _, _⟩) (by kernel_rfl) (by kernel_rfl) rfl (fun K hK => ?_)
    have cb0_0 := row_next2 gb0_V2 hHeld
    have cb1_0 := row_next2 gb1_V2 hHeld
    have cb2_0 := row_next2 gb2_V2 hHeld
    have cn6_0 := row_next2 gn6_V2 hHeld
    have cn8_0 := row_next2 gn8_V2 hHeld
    have cb_0 := below_next hb_V2 hb_V2.size hHeld
    clear hHeld
    refine step_row (by rfl) 23 (.tmp 4) (.tmp 26) rfl (w.heap.size + 2) (bv z32) rfl rfl 23 _ cb2_0.out (by rw [bv_len, z32_len]; kernel_rfl) (by rw [List.size_toArray]) (bv_one _) ?_
    intro W7 cb2_1 kR
    refine hK.out _ _ trivial (fun hHeld => ?_)
    have cb0_1 := row_but cb0_0 kR (by omega)
    have cb1_1 := row_but cb1_0 kR (by omega)
    have cn6_1 := row_but cn6_0 kR (by omega)
    have cn8_1 := row_but cn8_0 kR (by omega)
    have cb_1 := But.below cb_0 kR (by omega) cb_0.size
    clear hK K kR cb_0 cb0_0 cb1_0 cb2_0 cn6_0 cn8_0 
    try simp only [pu]
    refine wpAnyH_take (i := 2) (oi := ⟨(some 5), _, _, _, _, _⟩) (v := (Value.bool false)) rfl (by kernel_rfl) (by kernel_rfl) (by kernel_rfl) (fun _ _ _ h => h) (Or.inl ⟨by rfl, ?yqV2_3_2⟩) hHeld ?_
    case yqV2_3_2 => (intro W0 hSw; go_simp; try with_reducible rfl)
    try simp only [pu]
    refine wpAnyH_done (by kernel_rfl) ?_ _
    obtain ⟨V3, rV3⟩ : ∃ X, X = W7 := ⟨_, rfl⟩
    subst rV3
    have gb0_V3 := cb0_1
    have sb0_V3 := row_size gb0_V3
    have gb1_V3 := cb1_1
    have sb1_V3 := row_size gb1_V3
    have gb2_V3 := cb2_1
    have sb2_V3 := row_size gb2_V3
    have gn6_V3 := cn6_1
    have sn6_V3 := row_size gn6_V3
    have gn8_V3 := cn8_1
    have sn8_V3 := row_size gn8_V3
    have hb_V3 := cb_1
    clear hHeld cb_1 hb_V2  cb0_1 cb1_1 cb2_1 cn6_1 cn8_1 sb0_V2 sb1_V2 sb2_V2 sn6_V2 sn8_V2 gb0_V2 gb1_V2 gb2_V2 gn6_V2 gn8_V2
    go_wp2_with fail
    refine bodyPost_ret (v := .tuple #[.agg (bv z32).toArray, .bool false]) (results_row_tmp Tryd.results10 _ _ (w.heap.size + 2) 23 _ (0, 0) _ rfl gb2_V3.out Tryd.underlying23 rfl (by rw [List.size_toArray, bv_len, z32_len]; kernel_rfl) _ rfl) rfl ⟨z32, false, rfl, HF, z32_len, hb_V3⟩
  · rcases o17 with _ | _
    · have HF := vlt (show RAd a b z32 false by
        obtain ⟨P, _, _, _, h⟩ := e12.out.1 rfl
        exact ⟨some P, none, h, e17.out.2 rfl, rfl, rfl⟩)
      go_upto_region 4 with fail
      refine plain_start_c (S := fun W' => Below V2.heap.size V2 W') 1 (by kernel_rfl) (Below.refl _ _) (fun hHeld => ?_)
      refine c_take (i := 0) (oi := ⟨(some 26), _, _, _, _, _⟩) (v := _) rfl (by decide) (by kernel_rfl) (by kernel_rfl) (by kernel_rfl) (fun _ _ _ h => h) (yields_build (by rfl) _ _ rfl [] (by rfl) _ hbz) hHeld ?_
      try simp only [pu]
      refine c_call (S' := fun _ => True) (o := ⟨none, _, _, _, _, _⟩) (by kernel_rfl) (by kernel_rfl) rfl (fun K hK => ?_)
      have cb0_0 := row_next2 gb0_V2 hHeld
      have cb1_0 := row_next2 gb1_V2 hHeld
      have cb2_0 := row_next2 gb2_V2 hHeld
      have cn6_0 := row_next2 gn6_V2 hHeld
      have cn8_0 := row_next2 gn8_V2 hHeld
      have cb_0 := below_next hb_V2 hb_V2.size hHeld
      clear hHeld
      refine step_row (by rfl) 23 (.tmp 4) (.tmp 26) rfl (w.heap.size + 2) (bv z32) rfl rfl 23 _ cb2_0.out (by rw [bv_len, z32_len]; kernel_rfl) (by rw [List.size_toArray]) (bv_one _) ?_
      intro W7 cb2_1 kR
      refine hK.out _ _ trivial (fun hHeld => ?_)
      have cb0_1 := row_but cb0_0 kR (by omega)
      have cb1_1 := row_but cb1_0 kR (by omega)
      have cn6_1 := row_but cn6_0 kR (by omega)
      have cn8_1 := row_but cn8_0 kR (by omega)
      have cb_1 := But.below cb_0 kR (by omega) cb_0.size
      clear hK K kR cb_0 cb0_0 cb1_0 cb2_0 cn6_0 cn8_0 
      try simp only [pu]
      refine wpAnyH_take (i := 2) (oi := ⟨(some 5), _, _, _, _, _⟩) (v := (Value.bool false)) rfl (by kernel_rfl) (by kernel_rfl) (by kernel_rfl) (fun _ _ _ h => h) (Or.inl ⟨by rfl, ?yqV2_3_2⟩) hHeld ?_
      case yqV2_3_2 => (intro W0 hSw; go_simp; try with_reducible rfl)
      try simp only [pu]
      refine wpAnyH_done (by kernel_rfl) ?_ _
      obtain ⟨V3, rV3⟩ : ∃ X, X = W7 := ⟨_, rfl⟩
      subst rV3
      have gb0_V3 := cb0_1
      have sb0_V3 := row_size gb0_V3
      have gb1_V3 := cb1_1
      have sb1_V3 := row_size gb1_V3
      have gb2_V3 := cb2_1
      have sb2_V3 := row_size gb2_V3
      have gn6_V3 := cn6_1
      have sn6_V3 := row_size gn6_V3
      have gn8_V3 := cn8_1
      have sn8_V3 := row_size gn8_V3
      have hb_V3 := cb_1
      clear hHeld cb_1 hb_V2  cb0_1 cb1_1 cb2_1 cn6_1 cn8_1 sb0_V2 sb1_V2 sb2_V2 sn6_V2 sn8_V2 gb0_V2 gb1_V2 gb2_V2 gn6_V2 gn8_V2
      go_wp2_with fail
      refine bodyPost_ret (v := .tuple #[.agg (bv z32).toArray, .bool false]) (results_row_tmp Tryd.results10 _ _ (w.heap.size + 2) 23 _ (0, 0) _ rfl gb2_V3.out Tryd.underlying23 rfl (by rw [List.size_toArray, bv_len, z32_len]; kernel_rfl) _ rfl) rfl ⟨z32, false, rfl, HF, z32_len, hb_V3⟩
    · obtain ⟨P, hP, _, _, hPa⟩ := e12.out.1 rfl
      obtain ⟨R, hR, _, _, hRb⟩ := e17.out.1 rfl
      have HP := vlt hP
      have HR := vlt hR
      have HPa := vlt hPa
      have HRb := vlt hRb
      clear hP hR hPa hRb e12 e17
      go_upto_region 5 with fail
      refine c_start (S := fun W' => Below V2.heap.size V2 W') 5 (by kernel_rfl) ((Below.refl _ _).drew) (fun hHeld => ?_)
      refine c_read (i := 0) (oi := ⟨(some 27), _, _, _, _, _⟩) (v := _) rfl (by decide) (by kernel_rfl) (by kernel_rfl) (by kernel_rfl) (by kernel_rfl) (by kernel_rfl) (fun _ _ _ h => h) (yieldsIf_load_mid (by rfl) _ _ rfl G6 0 rfl (i64v v12) _ (fun W' hW' => range_row ((hW'.block _ sn6_V2).trans gn6_V2.out)) (Tryd.underlying57) rfl (by rw [i64v_len, h12.out]; kernel_rfl)) hHeld ?_
      try simp only [pu]
      refine c_read (i := 1) (oi := ⟨(some 28), _, _, _, _, _⟩) (v := _) rfl (by decide) (by kernel_rfl) (by kernel_rfl) (by kernel_rfl) (by kernel_rfl) (by kernel_rfl) (fun _ _ _ h => h) (yieldsIf_load_mid (by rfl) _ _ rfl G8 0 rfl (i64v v17) _ (fun W' hW' => range_row ((hW'.block _ sn8_V2).trans gn8_V2.out)) (Tryd.underlying57) rfl (by rw [i64v_len, h17.out]; kernel_rfl)) hHeld ?_
      try simp only [pu]
      refine c_step (i := 2) (o := ⟨(some 29), _, _, _, _, _⟩) (by kernel_rfl) rfl (fun K hK => ?_)
      go_simp
      refine (rd_any _  ).mono ?_
      rintro e W7 ⟨v29, rfl, e29, h29, hb7⟩
      refine hK.out _ _ (below_next hHeld hHeld.size hb7) (fun hHeld => ?_)
      clear hK K hb7
      try simp only [pu]
      refine c_step (i := 3) (o := ⟨(some 30), _, _, _, _, _⟩) (by kernel_rfl) rfl (fun K hK => ?_)
      go_simp
      refine (rptadd_any _ v12 v17 v29 (h12.out) (HP.out) (h17.out) (HR.out) (e29.out)).mono ?_
      rintro e W8 ⟨v30, rfl, e30, h30, hb8⟩
      refine hK.out _ _ (below_next hHeld hHeld.size hb8) (fun hHeld => ?_)
      clear hK K hb8
      try simp only [pu]
      refine c_step (i := 4) (o := ⟨(some 31), _, _, _, _, _⟩) (by kernel_rfl) rfl (fun K hK => ?_)
      go_simp
      refine (rencode_any _ v30 (h30.out) (e30.out)).mono ?_
      rintro e W9 ⟨v31, rfl, e31, h31, hb9⟩
      refine hK.out _ _ (below_next hHeld hHeld.size hb9) (fun hHeld => ?_)
      clear hK K hb9
      try simp only [pu]
      refine c_call (S' := fun _ => True) (o := ⟨none, _, _, _, _, _⟩) (by kernel_rfl) (by kernel_rfl) rfl (fun K hK => ?_)
      have cb0_0 := row_next2 gb0_V2 hHeld
      have cb1_0 := row_next2 gb1_V2 hHeld
      have cb2_0 := row_next2 gb2_V2 hHeld
      have cn6_0 := row_next2 gn6_V2 hHeld
      have cn8_0 := row_next2 gn8_V2 hHeld
      have cb_0 := below_next hb_V2 hb_V2.size hHeld
      clear hHeld
      refine step_row (by rfl) 23 (.tmp 4) (.tmp 31) rfl (w.heap.size + 2) (bv v31) rfl rfl 23 _ cb2_0.out (by rw [bv_len, h31.out]; kernel_rfl) (by rw [List.size_toArray, bv_len, z32_len, bv_len, h31.out]) (bv_one _) ?_
      intro W10 cb2_1 kR
      refine hK.out _ _ trivial (fun hHeld => ?_)
      have cb0_1 := row_but cb0_0 kR (by omega)
      have cb1_1 := row_but cb1_0 kR (by omega)
      have cn6_1 := row_but cn6_0 kR (by omega)
      have cn8_1 := row_but cn8_0 kR (by omega)
      have cb_1 := But.below cb_0 kR (by omega) cb_0.size
      clear hK K kR cb_0 cb0_0 cb1_0 cb2_0 cn6_0 cn8_0 
      try simp only [pu]
      refine wpAnyH_take (i := 6) (oi := ⟨(some 5), _, _, _, _, _⟩) (v := (Value.bool true)) rfl (by kernel_rfl) (by kernel_rfl) (by kernel_rfl) (fun _ _ _ h => h) (Or.inl ⟨by rfl, ?yqV2_3_6⟩) hHeld ?_
      case yqV2_3_6 => (intro W0 hSw; go_simp; try with_reducible rfl)
      try simp only [pu]
      refine wpAnyH_done (by kernel_rfl) ?_ _
      obtain ⟨V3, rV3⟩ : ∃ X, X = W10 := ⟨_, rfl⟩
      subst rV3
      have gb0_V3 := cb0_1
      have sb0_V3 := row_size gb0_V3
      have gb1_V3 := cb1_1
      have sb1_V3 := row_size gb1_V3
      have gb2_V3 := cb2_1
      have sb2_V3 := row_size gb2_V3
      have gn6_V3 := cn6_1
      have sn6_V3 := row_size gn6_V3
      have gn8_V3 := cn8_1
      have sn8_V3 := row_size gn8_V3
      have hb_V3 := cb_1
      clear hHeld cb_1 hb_V2  cb0_1 cb1_1 cb2_1 cn6_1 cn8_1 sb0_V2 sb1_V2 sb2_V2 sn6_V2 sn8_V2 gb0_V2 gb1_V2 gb2_V2 gn6_V2 gn8_V2
      have HF := vlt (show RAd a b v31 true from ⟨some P, some R, HPa.out, HRb.out, e31.out, rfl⟩)
      go_wp2_with fail
      refine bodyPost_ret (v := .tuple #[.agg (bv v31).toArray, .bool true]) (results_row_tmp Tryd.results10 _ _ (w.heap.size + 2) 23 _ (0, 0) _ rfl gb2_V3.out Tryd.underlying23 rfl (by rw [List.size_toArray, bv_len, h31.out]; kernel_rfl) _ rfl) rfl ⟨v31, true, rfl, HF, h31, hb_V3⟩
set_option maxRecDepth 100000 in
set_option maxHeartbeats 4000000 in
theorem rpmul_any (w : World) (n a : List UInt8) (hn : n.length = 32) (ha : a.length = 32) :
    Calls Tryd.prog 14 #[.agg (bv n).toArray, .agg (bv a).toArray] w fun e w' => ∃ l ok, e = .returned (.tuple #[.agg (bv l).toArray, .bool ok]) ∧ Vlt (RMu (ln n) a l ok) ∧ Hid (l.length = 32) ∧ Below w.heap.size w w' := by
  have hzw := zero_word
  have hzp := zero_point
  have hbz := built_z32
  obtain ⟨V0, hW, gb0_V0, gb1_V0, gb2_V0, hb_V0, hsW⟩ := three_new w (bv n).toArray (bv a).toArray (bv z32).toArray 23 23 23
  have HW := Lib.hid hW
  have Hhn := Lib.hid hn
  have Hha := Lib.hid ha
  have sb0_V0 := row_size gb0_V0
  have sb1_V0 := row_size gb1_V0
  have sb2_V0 := row_size gb2_V0
  clear hW hsW hn ha
  go_enter Tryd.func14, Tryd.ntmps14
  go_upto_region 1 with fail
  rw [HW.out]
  refine plain_start (S := fun W' => Below V0.heap.size V0 W') (by kernel_rfl) (Below.refl _ _) (fun hHeld => ?_)
  refine wpAnyH_take (i := 0) (oi := ⟨(some 9), _, _, _, _, _⟩) (v := _) rfl (by kernel_rfl) (by kernel_rfl) (by kernel_rfl) (fun _ _ _ h => h) (yieldsIf_load_mid (by rfl) _ _ rfl (w.heap.size + 1) 0 rfl (bv a) _ (fun W' hW' => range_row ((hW'.block _ sb1_V0).trans gb1_V0.out)) (Tryd.underlying23) rfl (by rw [bv_len, Hha.out]; kernel_rfl)) hHeld ?_
  try simp only [pu]
  refine mix_start (B := V0.heap.size) (al := [⟨5, 6, 57, ((i64v z64i)).toArray⟩]) (fuel := 6) rfl hHeld (hHeld.size) ?_
  clear hHeld
  refine mix_call (i := 1) (o := ⟨(some 10), _, _, _, _, _⟩) rfl (by kernel_rfl) (by kernel_rfl) (by kernel_rfl) (by kernel_rfl) (fun x hx => by simp only [List.mem_cons, List.not_mem_nil, or_false] at hx; rcases hx with rfl <;> first | exact makes_new rfl rfl rfl rfl zero_point) (fun W x _ h => h.alloc h.size _) (fun _ _ _ _ _ h => h) (fun X1 hHeld hBX K hK => ?_)
  go_simp
  refine (rdecode_any _ a (Hha.out)).mono ?_
  rintro e W1 ⟨v10, o10, rfl, e10, h10, hb1⟩
  refine hK.out _ _ (below_next hHeld hHeld.size hb1) hb1 ?_
  clear hK K hHeld hBX hb1
  try simp only [pu]
  refine mix_take (i := 2) (o := ⟨(some 8), _, _, _, _, _⟩) (v := ?vqV0_1_2) rfl (by kernel_rfl) (by kernel_rfl) (by kernel_rfl) (by kernel_rfl) (by kernel_rfl) (fun _ _ _ h => h) (Or.inl ⟨by rfl, ?yqV0_1_2⟩) ?_
  case yqV0_1_2 => (intro W0 hSw; go_simp; try with_reducible rfl)
  try simp only [pu]
  refine mix_take (i := 3) (o := ⟨(some 11), _, _, _, _, _⟩) (v := .agg (i64v v10).toArray) rfl (by kernel_rfl) (by kernel_rfl) (by kernel_rfl) (by kernel_rfl) (by kernel_rfl) (fun _ _ _ h => h) (Or.inl ⟨by rfl, ?yqV0_1_3⟩) ?_
  case yqV0_1_3 => (intro W0 hSw; go_simp; try with_reducible rfl)
  try simp only [pu]
  refine mix_take (i := 4) (o := ⟨(some 12), _, _, _, _, _⟩) (v := .bool o10) rfl (by kernel_rfl) (by kernel_rfl) (by kernel_rfl) (by kernel_rfl) (by kernel_rfl) (fun _ _ _ h => h) (Or.inl ⟨by rfl, ?yqV0_1_4⟩) ?_
  case yqV0_1_4 => (intro W0 hSw; go_simp; try with_reducible rfl)
  try simp only [pu]
  refine mix_end (by kernel_rfl) (by kernel_rfl) (by simp) (by simp) (fun x hx => by simp only [List.mem_cons, List.not_mem_nil, or_false] at hx; rcases hx with rfl <;> first | exact makes_new rfl rfl rfl rfl zero_point) (fun W x _ h => h.alloc h.size _) (fun D hD W2 hHeld hBX hHo => ?_)
  obtain ⟨G6, rfl⟩ := v_one hD
  have xG6 : Hid (W2.heap[G6]? = some (.cells ((i64v z64i)).toArray 57 (0, 0))) := hHo.row (⟨5, 6, 57, ((i64v z64i)).toArray⟩, G6) (by simp)
  have lG6 : V0.heap.size ≤ G6 := hHo.new (⟨5, 6, 57, ((i64v z64i)).toArray⟩, G6) (by simp)
  clear hHo hBX hD
  simp only [markD, putD, List.foldr_cons, List.foldr_nil, pu, List.setIfInBounds_toArray, List.set_cons_zero, List.set_cons_succ]
  refine wpAnyH_ready (rs := [6]) (by kernel_rfl) (by simp) ?_
  refine AllReadyH.cons (i := 6) (o := ⟨none, _, _, _, _, _⟩) rfl (fun K hK => ?_) AllReadyH.nil
  refine step_row (by rfl) 57 (.tmp 6) (.tmp 11) rfl G6 (i64v v10) rfl rfl 57 _ xG6.out (by rw [i64v_len, h10.out]; kernel_rfl) (by rw [List.size_toArray, i64v_len, i64v_len, h10.out, z64i_len]) (i64v_one _) ?_
  intro W3 yG6 kG6
  refine hK.out _ _ (But.below hHeld kG6 lG6 hHeld.size) (fun hHeld => ?_)
  clear hK K kG6 xG6
  have xG6 := yG6
  clear yG6
  try simp only [pu]
  refine wpAnyH_take (i := 7) (oi := ⟨(some 7), _, _, _, _, _⟩) (v := ?vqV0_1_7) rfl (by kernel_rfl) (by kernel_rfl) (by kernel_rfl) (fun _ _ _ h => h) (Or.inl ⟨by rfl, ?yqV0_1_7⟩) hHeld ?_
  case yqV0_1_7 => (intro W0 hSw; go_simp; try with_reducible rfl)
  try simp only [pu]
  refine wpAnyH_done (by kernel_rfl) ?_ _
  obtain ⟨V1, rV1⟩ : ∃ X, X = W3 := ⟨_, rfl⟩
  subst rV1
  have gb0_V1 := row_next2 gb0_V0 hHeld
  have sb0_V1 := row_size gb0_V1
  have gb1_V1 := row_next2 gb1_V0 hHeld
  have sb1_V1 := row_size gb1_V1
  have gb2_V1 := row_next2 gb2_V0 hHeld
  have sb2_V1 := row_size gb2_V1
  have hb_V1 := below_next hb_V0 hb_V0.size hHeld
  have gn6_V1 := xG6
  have sn6_V1 := row_size gn6_V1
  clear xG6
  have wG6 : w.heap.size + 3 ≤ G6 := by omega
  clear hHeld hb_V0 sb0_V0 sb1_V0 sb2_V0
  clear gb0_V0 gb1_V0 gb2_V0 lG6
  rcases o10 with _ | _
  · have HF := vlt (show RMu (ln n) a z32 false from ⟨none, e10.out.2 rfl, rfl, rfl⟩)
    go_upto_region 3 with fail
    refine plain_start_c (S := fun W' => Below V1.heap.size V1 W') 1 (by kernel_rfl) (Below.refl _ _) (fun hHeld => ?_)
    refine c_take (i := 0) (oi := ⟨(some 15), _, _, _, _, _⟩) (v := _) rfl (by decide) (by kernel_rfl) (by kernel_rfl) (by kernel_rfl) (fun _ _ _ h => h) (yields_build (by rfl) _ _ rfl [] (by rfl) _ hbz) hHeld ?_
    try simp only [pu]
    refine c_call (S' := fun _ => True) (o := ⟨none, _, _, _, _, _⟩) (by kernel_rfl) (by kernel_rfl) rfl (fun K hK => ?_)
    have cb0_0 := row_next2 gb0_V1 hHeld
    have cb1_0 := row_next2 gb1_V1 hHeld
    have cb2_0 := row_next2 gb2_V1 hHeld
    have cn6_0 := row_next2 gn6_V1 hHeld
    have cb_0 := below_next hb_V1 hb_V1.size hHeld
    clear hHeld
    refine step_row (by rfl) 23 (.tmp 4) (.tmp 15) rfl (w.heap.size + 2) (bv z32) rfl rfl 23 _ cb2_0.out (by rw [bv_len, z32_len]; kernel_rfl) (by rw [List.size_toArray]) (bv_one _) ?_
    intro W4 cb2_1 kR
    refine hK.out _ _ trivial (fun hHeld => ?_)
    have cb0_1 := row_but cb0_0 kR (by omega)
    have cb1_1 := row_but cb1_0 kR (by omega)
    have cn6_1 := row_but cn6_0 kR (by omega)
    have cb_1 := But.below cb_0 kR (by omega) cb_0.size
    clear hK K kR cb_0 cb0_0 cb1_0 cb2_0 cn6_0 
    try simp only [pu]
    refine wpAnyH_take (i := 2) (oi := ⟨(some 5), _, _, _, _, _⟩) (v := (Value.bool false)) rfl (by kernel_rfl) (by kernel_rfl) (by kernel_rfl) (fun _ _ _ h => h) (Or.inl ⟨by rfl, ?yqV1_2_2⟩) hHeld ?_
    case yqV1_2_2 => (intro W0 hSw; go_simp; try with_reducible rfl)
    try simp only [pu]
    refine wpAnyH_done (by kernel_rfl) ?_ _
    obtain ⟨V2, rV2⟩ : ∃ X, X = W4 := ⟨_, rfl⟩
    subst rV2
    have gb0_V2 := cb0_1
    have sb0_V2 := row_size gb0_V2
    have gb1_V2 := cb1_1
    have sb1_V2 := row_size gb1_V2
    have gb2_V2 := cb2_1
    have sb2_V2 := row_size gb2_V2
    have gn6_V2 := cn6_1
    have sn6_V2 := row_size gn6_V2
    have hb_V2 := cb_1
    clear hHeld cb_1 hb_V1  cb0_1 cb1_1 cb2_1 cn6_1 sb0_V1 sb1_V1 sb2_V1 sn6_V1 gb0_V1 gb1_V1 gb2_V1 gn6_V1
    go_wp2_with fail
    refine bodyPost_ret (v := .tuple #[.agg (bv z32).toArray, .bool false]) (results_row_tmp Tryd.results14 _ _ (w.heap.size + 2) 23 _ (0, 0) _ rfl gb2_V2.out Tryd.underlying23 rfl (by rw [List.size_toArray, bv_len, z32_len]; kernel_rfl) _ rfl) rfl ⟨z32, false, rfl, HF, z32_len, hb_V2⟩
  · obtain ⟨P, hP, _, _, hPa⟩ := e10.out.1 rfl
    have HP := vlt hP
    have HPa := vlt hPa
    clear hP hPa e10
    go_upto_region 4 with fail
    refine plain_start_c (S := fun W' => Below V1.heap.size V1 W') 4 (by kernel_rfl) (Below.refl _ _) (fun hHeld => ?_)
    refine c_read (i := 0) (oi := ⟨(some 16), _, _, _, _, _⟩) (v := _) rfl (by decide) (by kernel_rfl) (by kernel_rfl) (by kernel_rfl) (by kernel_rfl) (by kernel_rfl) (fun _ _ _ h => h) (yieldsIf_load_mid (by rfl) _ _ rfl (w.heap.size) 0 rfl (bv n) _ (fun W' hW' => range_row ((hW'.block _ sb0_V1).trans gb0_V1.out)) (Tryd.underlying23) rfl (by rw [bv_len, Hhn.out]; kernel_rfl)) hHeld ?_
    try simp only [pu]
    refine c_read (i := 1) (oi := ⟨(some 17), _, _, _, _, _⟩) (v := _) rfl (by decide) (by kernel_rfl) (by kernel_rfl) (by kernel_rfl) (by kernel_rfl) (by kernel_rfl) (fun _ _ _ h => h) (yieldsIf_load_mid (by rfl) _ _ rfl G6 0 rfl (i64v v10) _ (fun W' hW' => range_row ((hW'.block _ sn6_V1).trans gn6_V1.out)) (Tryd.underlying57) rfl (by rw [i64v_len, h10.out]; kernel_rfl)) hHeld ?_
    try simp only [pu]
    refine c_step (i := 2) (o := ⟨(some 18), _, _, _, _, _⟩) (by kernel_rfl) rfl (fun K hK => ?_)
    go_simp
    refine (rptmul_any _ n v10 (Hhn.out) (h10.out) (HP.out)).mono ?_
    rintro e W4 ⟨v18, rfl, e18, h18, hb4⟩
    refine hK.out _ _ (below_next hHeld hHeld.size hb4) (fun hHeld => ?_)
    clear hK K hb4
    try simp only [pu]
    refine c_step (i := 3) (o := ⟨(some 19), _, _, _, _, _⟩) (by kernel_rfl) rfl (fun K hK => ?_)
    go_simp
    refine (rencode_any _ v18 (h18.out) (e18.out)).mono ?_
    rintro e W5 ⟨v19, rfl, e19, h19, hb5⟩
    refine hK.out _ _ (below_next hHeld hHeld.size hb5) (fun hHeld => ?_)
    clear hK K hb5
    try simp only [pu]
    refine c_call (S' := fun _ => True) (o := ⟨none, _, _, _, _, _⟩) (by kernel_rfl) (by kernel_rfl) rfl (fun K hK => ?_)
    have cb0_0 := row_next2 gb0_V1 hHeld
    have cb1_0 := row_next2 gb1_V1 hHeld
    have cb2_0 := row_next2 gb2_V1 hHeld
    have cn6_0 := row_next2 gn6_V1 hHeld
    have cb_0 := below_next hb_V1 hb_V1.size hHeld
    clear hHeld
    refine step_row (by rfl) 23 (.tmp 4) (.tmp 19) rfl (w.heap.size + 2) (bv v19) rfl rfl 23 _ cb2_0.out (by rw [bv_len, h19.out]; kernel_rfl) (by rw [List.size_toArray, bv_len, z32_len, bv_len, h19.out]) (bv_one _) ?_
    intro W6 cb2_1 kR
    refine hK.out _ _ trivial (fun hHeld => ?_)
    have cb0_1 := row_but cb0_0 kR (by omega)
    have cb1_1 := row_but cb1_0 kR (by omega)
    have cn6_1 := row_but cn6_0 kR (by omega)
    have cb_1 := But.below cb_0 kR (by omega) cb_0.size
    clear hK K kR cb_0 cb0_0 cb1_0 cb2_0 cn6_0 
    try simp only [pu]
    refine wpAnyH_take (i := 5) (oi := ⟨(some 5), _, _, _, _, _⟩) (v := (Value.bool true)) rfl (by kernel_rfl) (by kernel_rfl) (by kernel_rfl) (fun _ _ _ h => h) (Or.inl ⟨by rfl, ?yqV1_2_5⟩) hHeld ?_
    case yqV1_2_5 => (intro W0 hSw; go_simp; try with_reducible rfl)
    try simp only [pu]
    refine wpAnyH_done (by kernel_rfl) ?_ _
    obtain ⟨V2, rV2⟩ : ∃ X, X = W6 := ⟨_, rfl⟩
    subst rV2
    have gb0_V2 := cb0_1
    have sb0_V2 := row_size gb0_V2
    have gb1_V2 := cb1_1
    have sb1_V2 := row_size gb1_V2
    have gb2_V2 := cb2_1
    have sb2_V2 := row_size gb2_V2
    have gn6_V2 := cn6_1
    have sn6_V2 := row_size gn6_V2
    have hb_V2 := cb_1
    clear hHeld cb_1 hb_V1  cb0_1 cb1_1 cb2_1 cn6_1 sb0_V1 sb1_V1 sb2_V1 sn6_V1 gb0_V1 gb1_V1 gb2_V1 gn6_V1
    have HF := vlt (show RMu (ln n) a v19 true from ⟨some P, HPa.out, e19.out, rfl⟩)
    go_wp2_with fail
    refine bodyPost_ret (v := .tuple #[.agg (bv v19).toArray, .bool true]) (results_row_tmp Tryd.results14 _ _ (w.heap.size + 2) 23 _ (0, 0) _ rfl gb2_V2.out Tryd.underlying23 rfl (by rw [List.size_toArray, bv_len, h19.out]; kernel_rfl) _ rfl) rfl ⟨v19, true, rfl, HF, h19, hb_V2⟩
set_option maxRecDepth 100000 in
set_option maxHeartbeats 4000000 in
theorem rpat_any (w : World) (a : List UInt8) (ha : a.length = 32) :
    Calls Tryd.prog 16 #[.agg (bv a).toArray] w fun e w' => ∃ x y ok, e = .returned (.tuple #[.agg (bv x).toArray, .agg (bv y).toArray, .bool ok]) ∧ Vlt (RAt a x y ok) ∧ Hid (x.length = 32) ∧ Hid (y.length = 32) ∧ Below w.heap.size w w' := by
  have hzw := zero_word
  have hzp := zero_point
  have hbz := built_z32
  obtain ⟨V0, hW, gb0_V0, gb1_V0, gb2_V0, hb_V0, hsW⟩ := three_new w (bv a).toArray (bv z32).toArray (bv z32).toArray 23 23 23
  have HW := Lib.hid hW
  have Hha := Lib.hid ha
  have sb0_V0 := row_size gb0_V0
  have sb1_V0 := row_size gb1_V0
  have sb2_V0 := row_size gb2_V0
  clear hW hsW ha
  go_enter Tryd.func16, Tryd.ntmps16
  go_upto_region 1 with fail
  rw [HW.out]
  refine plain_start (S := fun W' => Below V0.heap.size V0 W') (by kernel_rfl) (Below.refl _ _) (fun hHeld => ?_)
  refine wpAnyH_take (i := 0) (oi := ⟨(some 8), _, _, _, _, _⟩) (v := _) rfl (by kernel_rfl) (by kernel_rfl) (by kernel_rfl) (fun _ _ _ h => h) (yieldsIf_load_mid (by rfl) _ _ rfl (w.heap.size) 0 rfl (bv a) _ (fun W' hW' => range_row ((hW'.block _ sb0_V0).trans gb0_V0.out)) (Tryd.underlying23) rfl (by rw [bv_len, Hha.out]; kernel_rfl)) hHeld ?_
  try simp only [pu]
  refine mix_start (B := V0.heap.size) (al := [⟨5, 5, 57, ((i64v z64i)).toArray⟩]) (fuel := 6) rfl hHeld (hHeld.size) ?_
  clear hHeld
  refine mix_call (i := 1) (o := ⟨(some 9), _, _, _, _, _⟩) rfl (by kernel_rfl) (by kernel_rfl) (by kernel_rfl) (by kernel_rfl) (fun x hx => by simp only [List.mem_cons, List.not_mem_nil, or_false] at hx; rcases hx with rfl <;> first | exact makes_new rfl rfl rfl rfl zero_point) (fun W x _ h => h.alloc h.size _) (fun _ _ _ _ _ h => h) (fun X1 hHeld hBX K hK => ?_)
  go_simp
  refine (rdecode_any _ a (Hha.out)).mono ?_
  rintro e W1 ⟨v9, o9, rfl, e9, h9, hb1⟩
  refine hK.out _ _ (below_next hHeld hHeld.size hb1) hb1 ?_
  clear hK K hHeld hBX hb1
  try simp only [pu]
  refine mix_take (i := 2) (o := ⟨(some 7), _, _, _, _, _⟩) (v := ?vqV0_1_2) rfl (by kernel_rfl) (by kernel_rfl) (by kernel_rfl) (by kernel_rfl) (by kernel_rfl) (fun _ _ _ h => h) (Or.inl ⟨by rfl, ?yqV0_1_2⟩) ?_
  case yqV0_1_2 => (intro W0 hSw; go_simp; try with_reducible rfl)
  try simp only [pu]
  refine mix_take (i := 3) (o := ⟨(some 10), _, _, _, _, _⟩) (v := .agg (i64v v9).toArray) rfl (by kernel_rfl) (by kernel_rfl) (by kernel_rfl) (by kernel_rfl) (by kernel_rfl) (fun _ _ _ h => h) (Or.inl ⟨by rfl, ?yqV0_1_3⟩) ?_
  case yqV0_1_3 => (intro W0 hSw; go_simp; try with_reducible rfl)
  try simp only [pu]
  refine mix_take (i := 4) (o := ⟨(some 11), _, _, _, _, _⟩) (v := .bool o9) rfl (by kernel_rfl) (by kernel_rfl) (by kernel_rfl) (by kernel_rfl) (by kernel_rfl) (fun _ _ _ h => h) (Or.inl ⟨by rfl, ?yqV0_1_4⟩) ?_
  case yqV0_1_4 => (intro W0 hSw; go_simp; try with_reducible rfl)
  try simp only [pu]
  refine mix_end (by kernel_rfl) (by kernel_rfl) (by simp) (by simp) (fun x hx => by simp only [List.mem_cons, List.not_mem_nil, or_false] at hx; rcases hx with rfl <;> first | exact makes_new rfl rfl rfl rfl zero_point) (fun W x _ h => h.alloc h.size _) (fun D hD W2 hHeld hBX hHo => ?_)
  obtain ⟨G5, rfl⟩ := v_one hD
  have xG5 : Hid (W2.heap[G5]? = some (.cells ((i64v z64i)).toArray 57 (0, 0))) := hHo.row (⟨5, 5, 57, ((i64v z64i)).toArray⟩, G5) (by simp)
  have lG5 : V0.heap.size ≤ G5 := hHo.new (⟨5, 5, 57, ((i64v z64i)).toArray⟩, G5) (by simp)
  clear hHo hBX hD
  simp only [markD, putD, List.foldr_cons, List.foldr_nil, pu, List.setIfInBounds_toArray, List.set_cons_zero, List.set_cons_succ]
  refine wpAnyH_ready (rs := [6]) (by kernel_rfl) (by simp) ?_
  refine AllReadyH.cons (i := 6) (o := ⟨none, _, _, _, _, _⟩) rfl (fun K hK => ?_) AllReadyH.nil
  refine step_row (by rfl) 57 (.tmp 5) (.tmp 10) rfl G5 (i64v v9) rfl rfl 57 _ xG5.out (by rw [i64v_len, h9.out]; kernel_rfl) (by rw [List.size_toArray, i64v_len, i64v_len, h9.out, z64i_len]) (i64v_one _) ?_
  intro W3 yG5 kG5
  refine hK.out _ _ (But.below hHeld kG5 lG5 hHeld.size) (fun hHeld => ?_)
  clear hK K kG5 xG5
  have xG5 := yG5
  clear yG5
  try simp only [pu]
  refine wpAnyH_take (i := 7) (oi := ⟨(some 6), _, _, _, _, _⟩) (v := ?vqV0_1_7) rfl (by kernel_rfl) (by kernel_rfl) (by kernel_rfl) (fun _ _ _ h => h) (Or.inl ⟨by rfl, ?yqV0_1_7⟩) hHeld ?_
  case yqV0_1_7 => (intro W0 hSw; go_simp; try with_reducible rfl)
  try simp only [pu]
  refine wpAnyH_done (by kernel_rfl) ?_ _
  obtain ⟨V1, rV1⟩ : ∃ X, X = W3 := ⟨_, rfl⟩
  subst rV1
  have gb0_V1 := row_next2 gb0_V0 hHeld
  have sb0_V1 := row_size gb0_V1
  have gb1_V1 := row_next2 gb1_V0 hHeld
  have sb1_V1 := row_size gb1_V1
  have gb2_V1 := row_next2 gb2_V0 hHeld
  have sb2_V1 := row_size gb2_V1
  have hb_V1 := below_next hb_V0 hb_V0.size hHeld
  have gn5_V1 := xG5
  have sn5_V1 := row_size gn5_V1
  clear xG5
  have wG5 : w.heap.size + 3 ≤ G5 := by omega
  clear hHeld hb_V0 sb0_V0 sb1_V0 sb2_V0
  clear gb0_V0 gb1_V0 gb2_V0 lG5
  rcases o9 with _ | _
  · have HF := vlt (show RAt a z32 z32 false from ⟨none, e9.out.2 rfl, rfl, rfl, rfl⟩)
    go_upto_region 3 with fail
    refine plain_start_c (S := fun W' => Below V1.heap.size V1 W') 2 (by kernel_rfl) (Below.refl _ _) (fun hHeld => ?_)
    refine c_take (i := 0) (oi := ⟨(some 14), _, _, _, _, _⟩) (v := _) rfl (by decide) (by kernel_rfl) (by kernel_rfl) (by kernel_rfl) (fun _ _ _ h => h) (yields_build (by rfl) _ _ rfl [] (by rfl) _ hbz) hHeld ?_
    try simp only [pu]
    refine c_take (i := 1) (oi := ⟨(some 15), _, _, _, _, _⟩) (v := _) rfl (by decide) (by kernel_rfl) (by kernel_rfl) (by kernel_rfl) (fun _ _ _ h => h) (yields_build (by rfl) _ _ rfl [] (by rfl) _ hbz) hHeld ?_
    try simp only [pu]
    refine c_call (S' := fun _ => True) (o := ⟨none, _, _, _, _, _⟩) (by kernel_rfl) (by kernel_rfl) rfl (fun K hK => ?_)
    have cb0_0 := row_next2 gb0_V1 hHeld
    have cb1_0 := row_next2 gb1_V1 hHeld
    have cb2_0 := row_next2 gb2_V1 hHeld
    have cn5_0 := row_next2 gn5_V1 hHeld
    have cb_0 := below_next hb_V1 hb_V1.size hHeld
    clear hHeld
    refine step_row (by rfl) 23 (.tmp 2) (.tmp 14) rfl (w.heap.size + 1) (bv z32) rfl rfl 23 _ cb1_0.out (by rw [bv_len, z32_len]; kernel_rfl) (by rw [List.size_toArray]) (bv_one _) ?_
    intro W4 cb1_1 kR
    refine hK.out _ _ trivial (fun hHeld => ?_)
    have cb0_1 := row_but cb0_0 kR (by omega)
    have cb2_1 := row_but cb2_0 kR (by omega)
    have cn5_1 := row_but cn5_0 kR (by omega)
    have cb_1 := But.below cb_0 kR (by omega) cb_0.size
    clear hK K kR cb_0 cb0_0 cb1_0 cb2_0 cn5_0 
    try simp only [pu]
    refine wpAnyH_ready (rs := [3]) (by kernel_rfl) (by simp) ?_
    refine AllReadyH.cons (i := 3) (o := ⟨none, _, _, _, _, _⟩) rfl (fun K hK => ?_) AllReadyH.nil
    refine step_row (by rfl) 23 (.tmp 3) (.tmp 15) rfl (w.heap.size + 2) (bv z32) rfl rfl 23 _ cb2_1.out (by rw [bv_len, z32_len]; kernel_rfl) (by rw [List.size_toArray]) (bv_one _) ?_
    intro W5 cb2_2 kR
    refine hK.out _ _ trivial (fun hHeld => ?_)
    have cb0_2 := row_but cb0_1 kR (by omega)
    have cb1_2 := row_but cb1_1 kR (by omega)
    have cn5_2 := row_but cn5_1 kR (by omega)
    have cb_2 := But.below cb_1 kR (by omega) cb_1.size
    clear hK K kR cb_1 cb0_1 cb1_1 cb2_1 cn5_1 
    try simp only [pu]
    refine wpAnyH_take (i := 4) (oi := ⟨(some 4), _, _, _, _, _⟩) (v := (Value.bool false)) rfl (by kernel_rfl) (by kernel_rfl) (by kernel_rfl) (fun _ _ _ h => h) (Or.inl ⟨by rfl, ?yqV1_2_4⟩) hHeld ?_
    case yqV1_2_4 => (intro W0 hSw; go_simp; try with_reducible rfl)
    try simp only [pu]
    refine wpAnyH_done (by kernel_rfl) ?_ _
    obtain ⟨V2, rV2⟩ : ∃ X, X = W5 := ⟨_, rfl⟩
    subst rV2
    have gb0_V2 := cb0_2
    have sb0_V2 := row_size gb0_V2
    have gb1_V2 := cb1_2
    have sb1_V2 := row_size gb1_V2
    have gb2_V2 := cb2_2
    have sb2_V2 := row_size gb2_V2
    have gn5_V2 := cn5_2
    have sn5_V2 := row_size gn5_V2
    have hb_V2 := cb_2
    clear hHeld cb_2 hb_V1  cb0_2 cb1_2 cb2_2 cn5_2 sb0_V1 sb1_V1 sb2_V1 sn5_V1 gb0_V1 gb1_V1 gb2_V1 gn5_V1
    go_wp2_with fail
    refine bodyPost_ret (v := .tuple #[.agg (bv z32).toArray, .agg (bv z32).toArray, .bool false]) (results_rows_tmp Tryd.results16 _ _ (w.heap.size + 1) 23 _ (0, 0) _ rfl gb1_V2.out Tryd.underlying23 rfl (by rw [List.size_toArray, bv_len, z32_len]; kernel_rfl) (w.heap.size + 2) 23 _ (0, 0) _ rfl gb2_V2.out Tryd.underlying23 rfl (by rw [List.size_toArray, bv_len, z32_len]; kernel_rfl) _ rfl) rfl ⟨z32, z32, false, rfl, HF, z32_len, z32_len, hb_V2⟩
  · obtain ⟨P, hP, hX, hY, hPa⟩ := e9.out.1 rfl
    have HX := vlt hX
    have HY := vlt hY
    have HPa := vlt hPa
    have LX := Lib.hid hX.len
    have LY := Lib.hid hY.len
    clear hP hX hY hPa e9
    go_upto_region 4 with fail
    refine c_start (S := fun W' => Below V1.heap.size V1 W') 6 (by kernel_rfl) ((Below.refl _ _).drew) (fun hHeld => ?_)
    refine c_take (i := 0) (oi := ⟨(some 16), _, _, _, _, _⟩) (v := ?vqV1_2_0) rfl (by decide) (by kernel_rfl) (by kernel_rfl) (by kernel_rfl) (fun _ _ _ h => h) (Or.inl ⟨by rfl, ?yqV1_2_0⟩) hHeld ?_
    case yqV1_2_0 => (intro W0 hSw; go_simp; try with_reducible rfl)
    try simp only [pu]
    refine c_read (i := 1) (oi := ⟨(some 17), _, _, _, _, _⟩) (v := _) rfl (by decide) (by kernel_rfl) (by kernel_rfl) (by kernel_rfl) (by kernel_rfl) (by kernel_rfl) (fun _ _ _ h => h) (yieldsIf_load_mid (by rfl) _ _ rfl G5 0 rfl (i64v (subI v9 0 16)) _ (fun W' hW' => range_subI ((hW'.block _ sn5_V1).trans gn5_V1.out)) (Tryd.underlying55) rfl (by rw [i64v_len, LX.out]; kernel_rfl)) hHeld ?_
    try simp only [pu]
    refine c_take (i := 3) (oi := ⟨(some 19), _, _, _, _, _⟩) (v := ?vqV1_2_3) rfl (by decide) (by kernel_rfl) (by kernel_rfl) (by kernel_rfl) (fun _ _ _ h => h) (Or.inl ⟨by rfl, ?yqV1_2_3⟩) hHeld ?_
    case yqV1_2_3 => (intro W0 hSw; go_simp; try with_reducible rfl)
    try simp only [pu]
    refine c_read2 (i := 4) 5 (oi := ⟨(some 20), _, _, _, _, _⟩) (v := _) rfl (by decide) (by decide) (by kernel_rfl) (by kernel_rfl) (by kernel_rfl) (by kernel_rfl) (by kernel_rfl) (by kernel_rfl) (by kernel_rfl) (fun _ _ _ h => h) (yieldsIf_load_mid (by rfl) _ _ rfl G5 16 rfl (i64v (subI v9 16 16)) _ (fun W' hW' => range_subI ((hW'.block _ sn5_V1).trans gn5_V1.out)) (Tryd.underlying55) rfl (by rw [i64v_len, LY.out]; kernel_rfl)) hHeld ?_
    try simp only [pu]
    refine c_step (i := 2) (o := ⟨(some 18), _, _, _, _, _⟩) (by kernel_rfl) rfl (fun K hK => ?_)
    go_simp
    refine (routE_any _ (subI v9 0 16) (HX.out)).mono ?_
    rintro e W4 ⟨v18, rfl, e18, h18, hb4⟩
    refine hK.out _ _ (below_next hHeld hHeld.size hb4) (fun hHeld => ?_)
    clear hK K hb4
    try simp only [pu]
    refine c_step (i := 5) (o := ⟨(some 21), _, _, _, _, _⟩) (by kernel_rfl) rfl (fun K hK => ?_)
    go_simp
    refine (routE_any _ (subI v9 16 16) (HY.out)).mono ?_
    rintro e W5 ⟨v21, rfl, e21, h21, hb5⟩
    refine hK.out _ _ (below_next hHeld hHeld.size hb5) (fun hHeld => ?_)
    clear hK K hb5
    try simp only [pu]
    refine c_call (S' := fun _ => True) (o := ⟨none, _, _, _, _, _⟩) (by kernel_rfl) (by kernel_rfl) rfl (fun K hK => ?_)
    have cb0_0 := row_next2 gb0_V1 hHeld
    have cb1_0 := row_next2 gb1_V1 hHeld
    have cb2_0 := row_next2 gb2_V1 hHeld
    have cn5_0 := row_next2 gn5_V1 hHeld
    have cb_0 := below_next hb_V1 hb_V1.size hHeld
    clear hHeld
    refine step_row (by rfl) 23 (.tmp 2) (.tmp 18) rfl (w.heap.size + 1) (bv v18) rfl rfl 23 _ cb1_0.out (by rw [bv_len, h18.out]; kernel_rfl) (by rw [List.size_toArray, bv_len, z32_len, bv_len, h18.out]) (bv_one _) ?_
    intro W6 cb1_1 kR
    refine hK.out _ _ trivial (fun hHeld => ?_)
    have cb0_1 := row_but cb0_0 kR (by omega)
    have cb2_1 := row_but cb2_0 kR (by omega)
    have cn5_1 := row_but cn5_0 kR (by omega)
    have cb_1 := But.below cb_0 kR (by omega) cb_0.size
    clear hK K kR cb_0 cb0_0 cb1_0 cb2_0 cn5_0 
    try simp only [pu]
    refine wpAnyH_ready (rs := [7]) (by kernel_rfl) (by simp) ?_
    refine AllReadyH.cons (i := 7) (o := ⟨none, _, _, _, _, _⟩) rfl (fun K hK => ?_) AllReadyH.nil
    refine step_row (by rfl) 23 (.tmp 3) (.tmp 21) rfl (w.heap.size + 2) (bv v21) rfl rfl 23 _ cb2_1.out (by rw [bv_len, h21.out]; kernel_rfl) (by rw [List.size_toArray, bv_len, z32_len, bv_len, h21.out]) (bv_one _) ?_
    intro W7 cb2_2 kR
    refine hK.out _ _ trivial (fun hHeld => ?_)
    have cb0_2 := row_but cb0_1 kR (by omega)
    have cb1_2 := row_but cb1_1 kR (by omega)
    have cn5_2 := row_but cn5_1 kR (by omega)
    have cb_2 := But.below cb_1 kR (by omega) cb_1.size
    clear hK K kR cb_1 cb0_1 cb1_1 cb2_1 cn5_1 
    try simp only [pu]
    refine wpAnyH_take (i := 8) (oi := ⟨(some 4), _, _, _, _, _⟩) (v := (Value.bool true)) rfl (by kernel_rfl) (by kernel_rfl) (by kernel_rfl) (fun _ _ _ h => h) (Or.inl ⟨by rfl, ?yqV1_2_8⟩) hHeld ?_
    case yqV1_2_8 => (intro W0 hSw; go_simp; try with_reducible rfl)
    try simp only [pu]
    refine wpAnyH_done (by kernel_rfl) ?_ _
    obtain ⟨V2, rV2⟩ : ∃ X, X = W7 := ⟨_, rfl⟩
    subst rV2
    have gb0_V2 := cb0_2
    have sb0_V2 := row_size gb0_V2
    have gb1_V2 := cb1_2
    have sb1_V2 := row_size gb1_V2
    have gb2_V2 := cb2_2
    have sb2_V2 := row_size gb2_V2
    have gn5_V2 := cn5_2
    have sn5_V2 := row_size gn5_V2
    have hb_V2 := cb_2
    clear hHeld cb_2 hb_V1  cb0_2 cb1_2 cb2_2 cn5_2 sb0_V1 sb1_V1 sb2_V1 sn5_V1 gb0_V1 gb1_V1 gb2_V1 gn5_V1
    have HF := vlt (show RAt a v18 v21 true from ⟨some P, HPa.out, le_fin v18 P.1 h18.out e18.out, le_fin v21 P.2 h21.out e21.out, rfl⟩)
    go_wp2_with fail
    refine bodyPost_ret (v := .tuple #[.agg (bv v18).toArray, .agg (bv v21).toArray, .bool true]) (results_rows_tmp Tryd.results16 _ _ (w.heap.size + 1) 23 _ (0, 0) _ rfl gb1_V2.out Tryd.underlying23 rfl (by rw [List.size_toArray, bv_len, h18.out]; kernel_rfl) (w.heap.size + 2) 23 _ (0, 0) _ rfl gb2_V2.out Tryd.underlying23 rfl (by rw [List.size_toArray, bv_len, h21.out]; kernel_rfl) _ rfl) rfl ⟨v18, v21, true, rfl, HF, h18, h21, hb_V2⟩
set_option maxRecDepth 100000 in
set_option maxHeartbeats 4000000 in
theorem rpneg_any (w : World) (a : List UInt8) (ha : a.length = 32) :
    Calls Tryd.prog 12 #[.agg (bv a).toArray] w fun e w' => ∃ l ok, e = .returned (.tuple #[.agg (bv l).toArray, .bool ok]) ∧ Vlt (RNg a l ok) ∧ Hid (l.length = 32) ∧ Below w.heap.size w w' := by
  have hzw := zero_word
  have hzp := zero_point
  have hzf := zero_fe
  have hbz := built_z32
  have hbf := built_z16
  have Fz := vlt z16_is
  obtain ⟨V0, hW, gb0_V0, gb1_V0, hb_V0, hsW⟩ := pair_new w (bv a).toArray (bv z32).toArray 23 23
  have HW := Lib.hid hW
  have Hha := Lib.hid ha
  have sb0_V0 := row_size gb0_V0
  have sb1_V0 := row_size gb1_V0
  clear hW hsW ha
  go_enter Tryd.func12, Tryd.ntmps12
  go_upto_region 1 with fail
  rw [HW.out]
  refine plain_start (S := fun W' => Below V0.heap.size V0 W') (by kernel_rfl) (Below.refl _ _) (fun hHeld => ?_)
  refine wpAnyH_take (i := 0) (oi := ⟨(some 7), _, _, _, _, _⟩) (v := _) rfl (by kernel_rfl) (by kernel_rfl) (by kernel_rfl) (fun _ _ _ h => h) (yieldsIf_load_mid (by rfl) _ _ rfl (w.heap.size) 0 rfl (bv a) _ (fun W' hW' => range_row ((hW'.block _ sb0_V0).trans gb0_V0.out)) (Tryd.underlying23) rfl (by rw [bv_len, Hha.out]; kernel_rfl)) hHeld ?_
  try simp only [pu]
  refine mix_start (B := V0.heap.size) (al := [⟨5, 4, 57, ((i64v z64i)).toArray⟩]) (fuel := 6) rfl hHeld (hHeld.size) ?_
  clear hHeld
  refine mix_call (i := 1) (o := ⟨(some 8), _, _, _, _, _⟩) rfl (by kernel_rfl) (by kernel_rfl) (by kernel_rfl) (by kernel_rfl) (fun x hx => by simp only [List.mem_cons, List.not_mem_nil, or_false] at hx; rcases hx with rfl <;> first | exact makes_new rfl rfl rfl rfl zero_point) (fun W x _ h => h.alloc h.size _) (fun _ _ _ _ _ h => h) (fun X1 hHeld hBX K hK => ?_)
  go_simp
  refine (rdecode_any _ a (Hha.out)).mono ?_
  rintro e W1 ⟨v8, o8, rfl, e8, h8, hb1⟩
  refine hK.out _ _ (below_next hHeld hHeld.size hb1) hb1 ?_
  clear hK K hHeld hBX hb1
  try simp only [pu]
  refine mix_take (i := 2) (o := ⟨(some 6), _, _, _, _, _⟩) (v := ?vqV0_1_2) rfl (by kernel_rfl) (by kernel_rfl) (by kernel_rfl) (by kernel_rfl) (by kernel_rfl) (fun _ _ _ h => h) (Or.inl ⟨by rfl, ?yqV0_1_2⟩) ?_
  case yqV0_1_2 => (intro W0 hSw; go_simp; try with_reducible rfl)
  try simp only [pu]
  refine mix_take (i := 3) (o := ⟨(some 9), _, _, _, _, _⟩) (v := .agg (i64v v8).toArray) rfl (by kernel_rfl) (by kernel_rfl) (by kernel_rfl) (by kernel_rfl) (by kernel_rfl) (fun _ _ _ h => h) (Or.inl ⟨by rfl, ?yqV0_1_3⟩) ?_
  case yqV0_1_3 => (intro W0 hSw; go_simp; try with_reducible rfl)
  try simp only [pu]
  refine mix_take (i := 4) (o := ⟨(some 10), _, _, _, _, _⟩) (v := .bool o8) rfl (by kernel_rfl) (by kernel_rfl) (by kernel_rfl) (by kernel_rfl) (by kernel_rfl) (fun _ _ _ h => h) (Or.inl ⟨by rfl, ?yqV0_1_4⟩) ?_
  case yqV0_1_4 => (intro W0 hSw; go_simp; try with_reducible rfl)
  try simp only [pu]
  refine mix_end (by kernel_rfl) (by kernel_rfl) (by simp) (by simp) (fun x hx => by simp only [List.mem_cons, List.not_mem_nil, or_false] at hx; rcases hx with rfl <;> first | exact makes_new rfl rfl rfl rfl zero_point) (fun W x _ h => h.alloc h.size _) (fun D hD W2 hHeld hBX hHo => ?_)
  obtain ⟨G4, rfl⟩ := v_one hD
  have xG4 : Hid (W2.heap[G4]? = some (.cells ((i64v z64i)).toArray 57 (0, 0))) := hHo.row (⟨5, 4, 57, ((i64v z64i)).toArray⟩, G4) (by simp)
  have lG4 : V0.heap.size ≤ G4 := hHo.new (⟨5, 4, 57, ((i64v z64i)).toArray⟩, G4) (by simp)
  clear hHo hBX hD
  simp only [markD, putD, List.foldr_cons, List.foldr_nil, pu, List.setIfInBounds_toArray, List.set_cons_zero, List.set_cons_succ]
  refine wpAnyH_ready (rs := [6]) (by kernel_rfl) (by simp) ?_
  refine AllReadyH.cons (i := 6) (o := ⟨none, _, _, _, _, _⟩) rfl (fun K hK => ?_) AllReadyH.nil
  refine step_row (by rfl) 57 (.tmp 4) (.tmp 9) rfl G4 (i64v v8) rfl rfl 57 _ xG4.out (by rw [i64v_len, h8.out]; kernel_rfl) (by rw [List.size_toArray, i64v_len, i64v_len, h8.out, z64i_len]) (i64v_one _) ?_
  intro W3 yG4 kG4
  refine hK.out _ _ (But.below hHeld kG4 lG4 hHeld.size) (fun hHeld => ?_)
  clear hK K kG4 xG4
  have xG4 := yG4
  clear yG4
  try simp only [pu]
  refine wpAnyH_take (i := 7) (oi := ⟨(some 5), _, _, _, _, _⟩) (v := ?vqV0_1_7) rfl (by kernel_rfl) (by kernel_rfl) (by kernel_rfl) (fun _ _ _ h => h) (Or.inl ⟨by rfl, ?yqV0_1_7⟩) hHeld ?_
  case yqV0_1_7 => (intro W0 hSw; go_simp; try with_reducible rfl)
  try simp only [pu]
  refine wpAnyH_done (by kernel_rfl) ?_ _
  obtain ⟨V1, rV1⟩ : ∃ X, X = W3 := ⟨_, rfl⟩
  subst rV1
  have gb0_V1 := row_next2 gb0_V0 hHeld
  have sb0_V1 := row_size gb0_V1
  have gb1_V1 := row_next2 gb1_V0 hHeld
  have sb1_V1 := row_size gb1_V1
  have hb_V1 := below_next hb_V0 hb_V0.size hHeld
  have gn4_V1 := xG4
  have sn4_V1 := row_size gn4_V1
  clear xG4
  have wG4 : w.heap.size + 2 ≤ G4 := by omega
  clear hHeld hb_V0 sb0_V0 sb1_V0
  clear gb0_V0 gb1_V0 lG4
  rcases o8 with _ | _
  · have HF := vlt (show RNg a z32 false from ⟨none, e8.out.2 rfl, rfl, rfl⟩)
    go_upto_region 3 with fail
    refine plain_start_c (S := fun W' => Below V1.heap.size V1 W') 1 (by kernel_rfl) (Below.refl _ _) (fun hHeld => ?_)
    refine c_take (i := 0) (oi := ⟨(some 13), _, _, _, _, _⟩) (v := _) rfl (by decide) (by kernel_rfl) (by kernel_rfl) (by kernel_rfl) (fun _ _ _ h => h) (yields_build (by rfl) _ _ rfl [] (by rfl) _ hbz) hHeld ?_
    try simp only [pu]
    refine c_call (S' := fun _ => True) (o := ⟨none, _, _, _, _, _⟩) (by kernel_rfl) (by kernel_rfl) rfl (fun K hK => ?_)
    have cb0_0 := row_next2 gb0_V1 hHeld
    have cb1_0 := row_next2 gb1_V1 hHeld
    have cn4_0 := row_next2 gn4_V1 hHeld
    have cb_0 := below_next hb_V1 hb_V1.size hHeld
    clear hHeld
    refine step_row (by rfl) 23 (.tmp 2) (.tmp 13) rfl (w.heap.size + 1) (bv z32) rfl rfl 23 _ cb1_0.out (by rw [bv_len, z32_len]; kernel_rfl) (by rw [List.size_toArray]) (bv_one _) ?_
    intro W4 cb1_1 kR
    refine hK.out _ _ trivial (fun hHeld => ?_)
    have cb0_1 := row_but cb0_0 kR (by omega)
    have cn4_1 := row_but cn4_0 kR (by omega)
    have cb_1 := But.below cb_0 kR (by omega) cb_0.size
    clear hK K kR cb_0 cb0_0 cb1_0 cn4_0 
    try simp only [pu]
    refine wpAnyH_take (i := 2) (oi := ⟨(some 3), _, _, _, _, _⟩) (v := (Value.bool false)) rfl (by kernel_rfl) (by kernel_rfl) (by kernel_rfl) (fun _ _ _ h => h) (Or.inl ⟨by rfl, ?yqV1_2_2⟩) hHeld ?_
    case yqV1_2_2 => (intro W0 hSw; go_simp; try with_reducible rfl)
    try simp only [pu]
    refine wpAnyH_done (by kernel_rfl) ?_ _
    obtain ⟨V2, rV2⟩ : ∃ X, X = W4 := ⟨_, rfl⟩
    subst rV2
    have gb0_V2 := cb0_1
    have sb0_V2 := row_size gb0_V2
    have gb1_V2 := cb1_1
    have sb1_V2 := row_size gb1_V2
    have gn4_V2 := cn4_1
    have sn4_V2 := row_size gn4_V2
    have hb_V2 := cb_1
    clear hHeld cb_1 hb_V1  cb0_1 cb1_1 cn4_1 sb0_V1 sb1_V1 sn4_V1 gb0_V1 gb1_V1 gn4_V1
    go_wp2_with fail
    refine bodyPost_ret (v := .tuple #[.agg (bv z32).toArray, .bool false]) (results_row_tmp Tryd.results12 _ _ (w.heap.size + 1) 23 _ (0, 0) _ rfl gb1_V2.out Tryd.underlying23 rfl (by rw [List.size_toArray, bv_len, z32_len]; kernel_rfl) _ rfl) rfl ⟨z32, false, rfl, HF, z32_len, hb_V2⟩
  · obtain ⟨P, hv8, _, _, hPa⟩ := e8.out.1 rfl
    have HPa := vlt hPa
    clear hPa e8
    obtain ⟨Xv8, Yv8, Zv8, Tv8, kv8⟩ := hv8
    have Qv8 := vlt kv8
    have Fv80 := vlt kv8.x
    have Lv80 := Lib.hid kv8.x.len
    have Fv81 := vlt kv8.y
    have Lv81 := Lib.hid kv8.y.len
    have Fv82 := vlt kv8.z
    have Lv82 := Lib.hid kv8.z.len
    have Fv83 := vlt kv8.t
    have Lv83 := Lib.hid kv8.t.len
    clear kv8
    go_upto_region 4 with fail
    refine c_start (S := fun W' => Below V1.heap.size V1 W') 9 (by kernel_rfl) ((Below.refl _ _).drew) (fun hHeld => ?_)
    refine c_take (i := 0) (oi := ⟨(some 14), _, _, _, _, _⟩) (v := _) rfl (by decide) (by kernel_rfl) (by kernel_rfl) (by kernel_rfl) (fun _ _ _ h => h) (yields_build (by rfl) _ _ rfl [] (by rfl) _ hbf) hHeld ?_
    try simp only [pu]
    refine c_take (i := 1) (oi := ⟨(some 15), _, _, _, _, _⟩) (v := ?vh2_1) rfl (by decide) (by kernel_rfl) (by kernel_rfl) (by kernel_rfl) (fun _ _ _ h => h) (Or.inl ⟨by rfl, ?yh2_1⟩) hHeld ?_
    case yh2_1 => (intro W0 hSw; go_simp; try with_reducible rfl)
    try simp only [pu]
    refine c_read (i := 2) (oi := ⟨(some 16), _, _, _, _, _⟩) (v := _) rfl (by decide) (by kernel_rfl) (by kernel_rfl) (by kernel_rfl) (by kernel_rfl) (by kernel_rfl) (fun _ _ _ h => h) (yieldsIf_load_mid (by rfl) _ _ rfl G4 0 rfl (i64v (subI v8 0 16)) _ (fun W' hW' => range_subI ((hW'.block _ sn4_V1).trans gn4_V1.out)) (Tryd.underlying55) rfl (by rw [i64v_len, Lv80.out]; kernel_rfl)) hHeld ?_
    try simp only [pu]
    refine c_take (i := 4) (oi := ⟨(some 18), _, _, _, _, _⟩) (v := _) rfl (by decide) (by kernel_rfl) (by kernel_rfl) (by kernel_rfl) (fun _ _ _ h => h) (yields_build (by rfl) _ _ rfl [] (by rfl) _ hbf) hHeld ?_
    try simp only [pu]
    refine c_take (i := 5) (oi := ⟨(some 19), _, _, _, _, _⟩) (v := ?vh2_5) rfl (by decide) (by kernel_rfl) (by kernel_rfl) (by kernel_rfl) (fun _ _ _ h => h) (Or.inl ⟨by rfl, ?yh2_5⟩) hHeld ?_
    case yh2_5 => (intro W0 hSw; go_simp; try with_reducible rfl)
    try simp only [pu]
    refine c_read (i := 6) (oi := ⟨(some 20), _, _, _, _, _⟩) (v := _) rfl (by decide) (by kernel_rfl) (by kernel_rfl) (by kernel_rfl) (by kernel_rfl) (by kernel_rfl) (fun _ _ _ h => h) (yieldsIf_load_mid (by rfl) _ _ rfl G4 48 rfl (i64v (subI v8 48 16)) _ (fun W' hW' => range_subI ((hW'.block _ sn4_V1).trans gn4_V1.out)) (Tryd.underlying55) rfl (by rw [i64v_len, Lv83.out]; kernel_rfl)) hHeld ?_
    try simp only [pu]
    refine c_step (i := 3) (o := ⟨(some 17), _, _, _, _, _⟩) (by kernel_rfl) rfl (fun K hK => ?_)
    go_simp
    refine (rminusE_any _ z16 (subI v8 0 16) Fz.out Fv80.out).mono ?_
    rintro e W4 ⟨v17, rfl, e17, h17, hb17⟩
    refine hK.out _ _ (below_next hHeld hHeld.size hb17) (fun hHeld => ?_)
    clear hK K hb17
    try simp only [pu]
    refine c_take (i := 8) (oi := ⟨(some 22), _, _, _, _, _⟩) (v := ?vh2_8) rfl (by decide) (by kernel_rfl) (by kernel_rfl) (by kernel_rfl) (fun _ _ _ h => h) (Or.inl ⟨by rfl, ?yh2_8⟩) hHeld ?_
    case yh2_8 => (intro W0 hSw; go_simp; try with_reducible rfl)
    try simp only [pu]
    refine c_step (i := 7) (o := ⟨(some 21), _, _, _, _, _⟩) (by kernel_rfl) rfl (fun K hK => ?_)
    go_simp
    refine (rminusE_any _ z16 (subI v8 48 16) Fz.out Fv83.out).mono ?_
    rintro e W5 ⟨v21, rfl, e21, h21, hb21⟩
    refine hK.out _ _ (below_next hHeld hHeld.size hb21) (fun hHeld => ?_)
    clear hK K hb21
    try simp only [pu]
    refine c_call (S' := fun _ => True) (o := ⟨none, _, _, _, _, _⟩) (by kernel_rfl) (by kernel_rfl) rfl (fun K hK => ?_)
    have zg := row_next2 gn4_V1 hHeld
    have zo := But.of_below (g := G4) hHeld (Nat.le_refl _)
    clear hHeld
    refine step_store_mid (by rfl) 55 (.tmp 22) (.tmp 17) rfl G4 0 (i64v v17) rfl rfl (i64v v8) _ zg.out (by rw [i64v_len, i64v_len, h8.out, h17.out]; decide) (by rw [i64v_len, h17.out]; kernel_rfl) (i64v_one _) V1 zo ?_
    intro X1 y1 zo1
    refine hK.out _ _ trivial (fun hHeld => ?_)
    clear hK K zg zo
    try simp only [pu]
    refine wpAnyH_take (i := 10) (oi := ⟨(some 23), _, _, _, _, _⟩) (v := ?vt10) rfl (by kernel_rfl) (by kernel_rfl) (by kernel_rfl) (fun _ _ _ h => h) (Or.inl ⟨by rfl, ?yt10⟩) hHeld ?_
    case yt10 => (intro W0 hSw; go_simp; try with_reducible rfl)
    try simp only [pu]
    refine wpAnyH_ready (rs := [11]) (by kernel_rfl) (by simp) ?_
    refine AllReadyH.cons (i := 11) (o := ⟨none, _, _, _, _, _⟩) rfl (fun K hK => ?_) AllReadyH.nil
    refine step_store_mid (by rfl) 55 (.tmp 23) (.tmp 21) rfl G4 48 (i64v v21) rfl rfl (splice (i64v v8) 0 (i64v v17)) _ y1.out (by simp [splice, i64v_len, h8.out, h17.out, h21.out]) (by rw [i64v_len, h21.out]; kernel_rfl) (i64v_one _) V1 zo1 ?_
    intro X2 y2 zo2
    refine hK.out _ _ trivial (fun hHeld => ?_)
    clear hK K y1 zo1
    try simp only [pu]
    refine wpAnyH_done (by kernel_rfl) ?_ _
    rw [neg_rows v8 v17 v21 h8.out h17.out h21.out] at y2
    obtain ⟨q, hq⟩ : ∃ q, q = v17 ++ (subI v8 16 16 ++ (subI v8 32 16 ++ v21)) := ⟨_, rfl⟩
    rw [← hq] at y2
    have HQ := vlt (show PoX q (negE P) from poX_four hq e17.out Fv81.out Fv82.out e21.out (rep_neg Qv8.out.rep) (negE_on Qv8.out.on))
    have Hq := Lib.hid (show q.length = 64 by rw [hq]; simp [h17.out, h21.out, Lv81.out, Lv82.out])
    clear hq hHeld
    have gn4_X2 := y2
    have gb0_X2 := row_but gb0_V1 zo2 (by omega)
    have gb1_X2 := row_but gb1_V1 zo2 (by omega)
    have hb_X2 := But.below hb_V1 zo2 (by omega) hb_V1.size
    have sn4_X2 := row_size gn4_X2
    have sb0_X2 := row_size gb0_X2
    have sb1_X2 := row_size gb1_X2
    clear y2 zo2 gb0_V1 gb1_V1 gn4_V1 sb0_V1 sb1_V1 sn4_V1 hb_V1
    go_upto_region 5 with fail
    refine plain_start_c (S := fun W' => Below X2.heap.size X2 W') 2 (by kernel_rfl) (Below.refl _ _) (fun hHeld => ?_)
    refine c_read (i := 0) (oi := ⟨(some 24), _, _, _, _, _⟩) (v := _) rfl (by decide) (by kernel_rfl) (by kernel_rfl) (by kernel_rfl) (by kernel_rfl) (by kernel_rfl) (fun _ _ _ h => h) (yieldsIf_load_mid (by rfl) _ _ rfl G4 0 rfl (i64v q) _ (fun W' hW' => range_row ((hW'.block _ sn4_X2).trans gn4_X2.out)) (Tryd.underlying57) rfl (by rw [i64v_len, Hq.out]; kernel_rfl)) hHeld ?_
    try simp only [pu]
    refine c_step (i := 1) (o := ⟨(some 25), _, _, _, _, _⟩) (by kernel_rfl) rfl (fun K hK => ?_)
    go_simp
    refine (rencode_any _ q (Hq.out) (HQ.out)).mono ?_
    rintro e W6 ⟨v25, rfl, e25, h25, hb6⟩
    refine hK.out _ _ (below_next hHeld hHeld.size hb6) (fun hHeld => ?_)
    clear hK K hb6
    try simp only [pu]
    refine c_call (S' := fun _ => True) (o := ⟨none, _, _, _, _, _⟩) (by kernel_rfl) (by kernel_rfl) rfl (fun K hK => ?_)
    have cb0_0 := row_next2 gb0_X2 hHeld
    have cb1_0 := row_next2 gb1_X2 hHeld
    have cn4_0 := row_next2 gn4_X2 hHeld
    have cb_0 := below_next hb_X2 hb_X2.size hHeld
    clear hHeld
    refine step_row (by rfl) 23 (.tmp 2) (.tmp 25) rfl (w.heap.size + 1) (bv v25) rfl rfl 23 _ cb1_0.out (by rw [bv_len, h25.out]; kernel_rfl) (by rw [List.size_toArray, bv_len, z32_len, bv_len, h25.out]) (bv_one _) ?_
    intro W7 cb1_1 kR
    refine hK.out _ _ trivial (fun hHeld => ?_)
    have cb0_1 := row_but cb0_0 kR (by omega)
    have cn4_1 := row_but cn4_0 kR (by omega)
    have cb_1 := But.below cb_0 kR (by omega) cb_0.size
    clear hK K kR cb_0 cb0_0 cb1_0 cn4_0 
    try simp only [pu]
    refine wpAnyH_take (i := 3) (oi := ⟨(some 3), _, _, _, _, _⟩) (v := (Value.bool true)) rfl (by kernel_rfl) (by kernel_rfl) (by kernel_rfl) (fun _ _ _ h => h) (Or.inl ⟨by rfl, ?yqX2_3_3⟩) hHeld ?_
    case yqX2_3_3 => (intro W0 hSw; go_simp; try with_reducible rfl)
    try simp only [pu]
    refine wpAnyH_done (by kernel_rfl) ?_ _
    obtain ⟨V2, rV2⟩ : ∃ X, X = W7 := ⟨_, rfl⟩
    subst rV2
    have gb0_V2 := cb0_1
    have sb0_V2 := row_size gb0_V2
    have gb1_V2 := cb1_1
    have sb1_V2 := row_size gb1_V2
    have gn4_V2 := cn4_1
    have sn4_V2 := row_size gn4_V2
    have hb_V2 := cb_1
    clear hHeld cb_1 hb_X2  cb0_1 cb1_1 cn4_1 sb0_X2 sb1_X2 sn4_X2 gb0_X2 gb1_X2 gn4_X2
    have HF := vlt (show RNg a v25 true from ⟨some P, HPa.out, e25.out, rfl⟩)
    go_wp2_with fail
    refine bodyPost_ret (v := .tuple #[.agg (bv v25).toArray, .bool true]) (results_row_tmp Tryd.results12 _ _ (w.heap.size + 1) 23 _ (0, 0) _ rfl gb1_V2.out Tryd.underlying23 rfl (by rw [List.size_toArray, bv_len, h25.out]; kernel_rfl) _ rfl) rfl ⟨v25, true, rfl, HF, h25, hb_V2⟩
end Go.Proofs.YtehkalbiomagjaaDoor
