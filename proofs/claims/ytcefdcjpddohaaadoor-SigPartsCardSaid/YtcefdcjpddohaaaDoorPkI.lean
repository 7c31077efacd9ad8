/-
  Words and contracts that other texts share, several in one text. No statement of the seat is proved here. Conditions: as each contract says.
  Contract of point's read: the numbers of the point that bytes are, or none. Conditions: the packages' own numbers lie as the program's text lays them.
  Contracts of point's placeOf, Good, Neg, At, Add. Conditions: the packages' own numbers lie as the program's text lays them.
-/
import Derived.Test.YtcefdcjpddohaaaDoorPkH
import Derived.Test.YtcefdcjpddohaaaDoorPkG
namespace Go.Proofs.YtcefdcjpddohaaaDoor
open Go.RowKit

/-- What read tells. -/
def RdIs (a x y : List UInt8) (ok : Bool) : Prop := (ok = true → ln x < FP ∧ ln y < FP ∧ PtIs a (some (cW x, cW y))) ∧ (ok = false → x = z32 ∧ y = z32 ∧ PtIs a none)
theorem apart_is (m : List UInt8) (b r s : Nat) (h : m.length = 31) (hb : b < 256) (hr : r = b % 128) (hs : s = b / 128) :
    yW (m ++ [UInt8.ofNat b]) = ln (m ++ [UInt8.ofNat r]) ∧ sW (m ++ [UInt8.ofNat b]) = s := by
  have h1 := ln_31 m h
  rw [yW, sW, ln_last m b h hb, ln_last m r h (by omega)]
  rw [show (57896044618658097711785492504343953926634992332820282019728792003956564819968 : Nat) = 256 ^ 31 * 128 by decide]
  generalize 256 ^ 31 = M at *
  have e : ln m + M * b = (ln m + M * r) + M * 128 * s := by
    have : b = r + 128 * s := by omega
    rw [this, Nat.mul_add, Nat.mul_assoc]; omega
  have h2 : ln m + M * r < M * 128 := by
    have : M * r ≤ M * 127 := Nat.mul_le_mul_left M (by omega)
    omega
  rw [e, Nat.add_mul_mod_self_left, Nat.mod_eq_of_lt h2]
  refine ⟨rfl, ?_⟩
  have hM : 0 < M * 128 := by omega
  rw [Nat.add_mul_div_left _ _ hM, Nat.div_eq_of_lt h2, Nat.zero_add]
theorem good_iff (z : List UInt8) (h : z.length = 32) : wo (ln z) = z ↔ ln z < FP := by
  refine ⟨fun e => ?_, fun e => wo_ln z h e⟩
  rw [← e]; exact cW_lt _
/-- The number found, with the sign asked for, or not. -/
theorem read_yes {a z x : List UInt8} {s : Nat} (ha : a.length = 32) (hy : yW a = ln z) (hs : sW a = s) (hz : ln z < FP) (hx : ln x < FP) (hu : cW x * cW x = uE (cW z)) (hp : ln x % 2 = s) : RdIs a x z true := by
  refine ⟨fun _ => ⟨hx, hz, ?_⟩, fun h => by cases h⟩
  have h := dec_some (w := a) ha (by rw [hy]; exact hz) (r := ln x) hx (by rw [hy]; exact hu) (by rw [hs, hp])
  rw [hy] at h
  exact h
theorem read_no {a z l x : List UInt8} (hy : yW a = ln z) (hs : sW a = 1) (hl : ln l % 2 = 0) (hll : ln l < FP) (hu : cW l * cW l = uE (cW z)) (hx : cW x = 0 - cW l) (hxl : ln x < FP) (hp : ¬ ln x % 2 = 1) : RdIs a z32 z32 false := by
  refine ⟨fun h => (by cases h), fun _ => ⟨rfl, rfl, dec_nought ?_ hs⟩⟩
  rw [hy]
  show uE (cW z) = 0
  rw [← hu]
  have h0 : ln l = 0 := by
    by_cases h : ln l = 0
    · exact h
    · exfalso
      have h1 : ln x = FP - ln l := by
        have h2 : cF (ln x) = cF (FP - ln l) := by
          have h3 : cF (FP - ln l) + cF (ln l) = 0 := by rw [← cF_add, cF_nz, show FP - ln l + ln l = FP by omega, Nat.mod_self]
          have h4 : cF (ln x) = 0 - cF (ln l) := hx
          rw [h4]; grind
        rw [cF_eq, Nat.mod_eq_of_lt hxl, Nat.mod_eq_of_lt (by omega)] at h2
        exact h2
      have h2 : FP % 2 = 1 := by decide
      omega
  have : cW l = 0 := by rw [cW, h0]; rfl
  rw [this]; grind
theorem neg_root {l x z : List UInt8} (hu : cW l * cW l = uE (cW z)) (hx : cW x = 0 - cW l) : cW x * cW x = uE (cW z) := by rw [← hu, hx]; grind
theorem and_low (b r : Nat) (hb : b < 256) (hr : r = b % 128) : bits .and .u8 (b : Int) 127 = (r : Int) := by
  have h : ∀ b < 256, bits .and .u8 ((b : Nat) : Int) 127 = ((b % 128 : Nat) : Int) := by decide +kernel
  rw [hr]; exact h b hb
set_option maxRecDepth 100000 in
set_option maxHeartbeats 4000000 in
theorem read_any (w : World) (hla : LaidP w) (a : List UInt8) (ha : a.length = 32) :
    Calls Tryd.prog 32 #[.agg (bv a).toArray] w fun e w' => ∃ x y ok, e = .returned (.tuple #[.agg (bv x).toArray, .agg (bv y).toArray, .bool ok]) ∧ Vlt (RdIs a x y ok) ∧ Hid (x.length = 32) ∧ Hid (y.length = 32) ∧ Below w.heap.size w w' := by
  have hzw := zero_word
  have hbz := built_z32
  obtain ⟨m, b, ham, hm, hb⟩ := last_apart a ha
  obtain ⟨r, hr⟩ : ∃ r, r = b % 128 := ⟨_, rfl⟩
  obtain ⟨s, hs⟩ : ∃ s, s = b / 128 := ⟨_, rfl⟩
  have e2 := and_low b r hb hr
  have e1 : (b : Int) / 128 = (s : Int) := by omega
  have hs2 : s < 2 := by omega
  have hr2 : r < 256 := by omega
  obtain ⟨z, hz⟩ : ∃ z, z = m ++ [UInt8.ofNat r] := ⟨_, rfl⟩
  have Hz := Lib.hid (show z.length = 32 by rw [hz]; simp [hm])
  obtain ⟨k1, k2⟩ := apart_is m b r s hm hb hr hs
  rw [← ham, ← hz] at k1
  rw [← ham] at k2
  have HY := vlt k1
  have HS := vlt k2
  have HA := vlt ha
  obtain ⟨V0, hW, gb0_V0, gb1_V0, gb2_V0, hb_V0, hsW⟩ := three_new w (bv a).toArray (bv z32).toArray (bv z32).toArray 23 23 23
  have HW := Lib.hid hW
  have hlaV0 := hla.next hb_V0
  have gl1 := hla.size
  have gl2 := hla.turn.2
  have sb0_V0 := row_size gb0_V0
  have sb1_V0 := row_size gb1_V0
  have sb2_V0 := row_size gb2_V0
  have c31 : V0.cell? ⟨w.heap.size, 31, none⟩ = some (.int .u8 (b : Int)) := by
    have h := byte_cell gb0_V0.out (show a[31]? = some (UInt8.ofNat b) by rw [ham]; exact at_last _ _ hm)
    rwa [UInt8.toNat_ofNat', show (2 : Nat) ^ 8 = 256 by decide, Nat.mod_eq_of_lt hb] at h
  have f31 : V0.frozen? ⟨w.heap.size, 31, none⟩ = false := frozen_of_row _ _ _ _ _ gb0_V0.out
  have hset : Hid ((V0.setCell ⟨w.heap.size, 31, none⟩ (.int .u8 (r : Int))).heap[w.heap.size]? = some (.cells (bv z).toArray 23 (0, 0))) := by
    have h := (world_set_cell gb0_V0.out 31 (.int .u8 (r : Int))).out
    rw [show (Value.int .u8 (r : Int)) = Value.int .u8 ((UInt8.ofNat r).toNat : Int) by rw [UInt8.toNat_ofNat', show (2 : Nat) ^ 8 = 256 by decide, Nat.mod_eq_of_lt hr2], bv_set, ham, set_last _ _ _ hm, ← hz] at h
    rwa [UInt8.toNat_ofNat', show (2 : Nat) ^ 8 = 256 by decide, Nat.mod_eq_of_lt hr2] at h
  clear hz hW hsW ham hm hr hs k1 k2 hla ha hr2
  go_enter Tryd.func32, Tryd.ntmps32
  go_upto_region 1 with fail
  rw [HW.out]
  go_upto_region 3 with fail
  have hbt : But w.heap.size V0 (V0.setCell ⟨w.heap.size, 31, none⟩ (.int .u8 (r : Int))) := (But.refl _ _).set _
  have gb1_V1 := row_but gb1_V0 hbt (by omega)
  have gb2_V1 := row_but gb2_V0 hbt (by omega)
  have hlaV1 := hlaV0.but gl1 gl2 hbt
  generalize V0.setCell ⟨w.heap.size, 31, none⟩ (.int .u8 (r : Int)) = V1 at *
  have gb0_V1 := hset
  have hb_V1 := But.below hb_V0 hbt (by omega) hb_V0.size
  have sb0_V1 := row_size gb0_V1
  have sb1_V1 := row_size gb1_V1
  have sb2_V1 := row_size gb2_V1
  clear gb0_V0 gb1_V0 gb2_V0 sb0_V0 sb1_V0 sb2_V0 c31 f31 hbt hb_V0 hset hlaV0
  refine plain_start (S := fun W' => Below V1.heap.size V1 W') (by kernel_rfl) (Below.refl _ _) (fun hHeld => ?_)
  refine wpAnyH_take (i := 0) (oi := ⟨(some 13), _, _, _, _, _⟩) (v := _) rfl (by kernel_rfl) (by kernel_rfl) (by kernel_rfl) (fun _ _ _ h => h) (yieldsIf_load_mid (by rfl) _ _ rfl (w.heap.size) 0 rfl (bv z) _ (fun W' hW' => range_row ((hW'.block _ sb0_V1).trans gb0_V1.out)) (Tryd.underlying23) rfl (by rw [bv_len, Hz.out]; kernel_rfl)) hHeld ?_
  try simp only [pu]
  refine wpAnyH_ready (rs := [1]) (by kernel_rfl) (by simp) ?_
  refine AllReadyH.cons (i := 1) (o := ⟨(some 14), _, _, _, _, _⟩) rfl (fun K hK => ?_) AllReadyH.nil
  go_simp
  refine (good_any _ z Hz.out).mono ?_
  rintro e W1 ⟨o14, rfl, e14, hb1⟩
  refine hK.out _ _ (below_next hHeld hHeld.size hb1) (fun hHeld => ?_)
  clear hK K hb1
  try simp only [pu]
  refine wpAnyH_take (i := 2) (oi := ⟨(some 15), _, _, _, _, _⟩) (v := ?vqV1_1_2) rfl (by kernel_rfl) (by kernel_rfl) (by kernel_rfl) (fun _ _ _ h => h) (Or.inl ⟨by rfl, ?yqV1_1_2⟩) hHeld ?_
  case yqV1_1_2 => (intro W0 hSw; go_simp; try with_reducible rfl)
  try simp only [pu]
  refine wpAnyH_done (by kernel_rfl) ?_ _
  obtain ⟨V2, rV2⟩ : ∃ X, X = W1 := ⟨_, rfl⟩
  subst rV2
  have gb0_V2 := row_next2 gb0_V1 hHeld
  have sb0_V2 := row_size gb0_V2
  have gb1_V2 := row_next2 gb1_V1 hHeld
  have sb1_V2 := row_size gb1_V2
  have gb2_V2 := row_next2 gb2_V1 hHeld
  have sb2_V2 := row_size gb2_V2
  have hb_V2 := below_next hb_V1 hb_V1.size hHeld
  have hlaV2 := hlaV1.next hHeld
  clear hHeld hb_V1 sb0_V1 sb1_V1 sb2_V1
  clear gb0_V1 gb1_V1 gb2_V1 hlaV1
  rcases o14 with _ | _
  · have HF := vlt (show RdIs a z32 z32 false from ⟨fun h => (by cases h), fun _ => ⟨rfl, rfl, dec_big (by rw [HY.out]; intro h; have h2 := e14.out; rw [decide_eq_true ((good_iff z Hz.out).2 h)] at h2; cases h2)⟩⟩)
    go_upto_region 4 with fail
    refine plain_start_c (S := fun W' => Below V2.heap.size V2 W') 2 (by kernel_rfl) (Below.refl _ _) (fun hHeld => ?_)
    refine c_take (i := 0) (oi := ⟨(some 16), _, _, _, _, _⟩) (v := _) rfl (by decide) (by kernel_rfl) (by kernel_rfl) (by kernel_rfl) (fun _ _ _ h => h) (yields_build (by rfl) _ _ rfl [] (by rfl) _ hbz) hHeld ?_
    try simp only [pu]
    refine c_take (i := 1) (oi := ⟨(some 17), _, _, _, _, _⟩) (v := _) rfl (by decide) (by kernel_rfl) (by kernel_rfl) (by kernel_rfl) (fun _ _ _ h => h) (yields_build (by rfl) _ _ rfl [] (by rfl) _ hbz) hHeld ?_
    try simp only [pu]
    refine c_call (S' := fun _ => True) (o := ⟨none, _, _, _, _, _⟩) (by kernel_rfl) (by kernel_rfl) rfl (fun K hK => ?_)
    have cb0_0 := row_next2 gb0_V2 hHeld
    have cb1_0 := row_next2 gb1_V2 hHeld
    have cb2_0 := row_next2 gb2_V2 hHeld
    have cb_0 := below_next hb_V2 hb_V2.size hHeld
    have cl_0 := hlaV2.next hHeld
    clear hHeld
    refine step_row (by rfl) 23 (.tmp 2) (.tmp 16) rfl (w.heap.size + 1) (bv z32) rfl rfl 23 _ cb1_0.out (by rw [bv_len, z32_len]; kernel_rfl) (by rw [List.size_toArray]) (bv_one _) ?_
    intro W2 cb1_1 kR
    refine hK.out _ _ trivial (fun hHeld => ?_)
    have cb0_1 := row_but cb0_0 kR (by omega)
    have cb2_1 := row_but cb2_0 kR (by omega)
    have cb_1 := But.below cb_0 kR (by omega) cb_0.size
    have cl_1 := cl_0.but (by omega) (by omega) kR
    clear hK K kR cb_0 cb0_0 cb1_0 cb2_0 cl_0
    try simp only [pu]
    refine wpAnyH_ready (rs := [3]) (by kernel_rfl) (by simp) ?_
    refine AllReadyH.cons (i := 3) (o := ⟨none, _, _, _, _, _⟩) rfl (fun K hK => ?_) AllReadyH.nil
    refine step_row (by rfl) 23 (.tmp 3) (.tmp 17) rfl (w.heap.size + 2) (bv z32) rfl rfl 23 _ cb2_1.out (by rw [bv_len, z32_len]; kernel_rfl) (by rw [List.size_toArray]) (bv_one _) ?_
    intro W3 cb2_2 kR
    refine hK.out _ _ trivial (fun hHeld => ?_)
    have cb0_2 := row_but cb0_1 kR (by omega)
    have cb1_2 := row_but cb1_1 kR (by omega)
    have cb_2 := But.below cb_1 kR (by omega) cb_1.size
    have cl_2 := cl_1.but (by omega) (by omega) kR
    clear hK K kR cb_1 cb0_1 cb1_1 cb2_1 cl_1
    try simp only [pu]
    refine wpAnyH_take (i := 4) (oi := ⟨(some 4), _, _, _, _, _⟩) (v := (Value.bool false)) rfl (by kernel_rfl) (by kernel_rfl) (by kernel_rfl) (fun _ _ _ h => h) (Or.inl ⟨by rfl, ?yqV2_2_4⟩) hHeld ?_
    case yqV2_2_4 => (intro W0 hSw; go_simp; try with_reducible rfl)
    try simp only [pu]
    refine wpAnyH_done (by kernel_rfl) ?_ _
    obtain ⟨V3, rV3⟩ : ∃ X, X = W3 := ⟨_, rfl⟩
    subst rV3
    have gb0_V3 := cb0_2
    have sb0_V3 := row_size gb0_V3
    have gb1_V3 := cb1_2
    have sb1_V3 := row_size gb1_V3
    have gb2_V3 := cb2_2
    have sb2_V3 := row_size gb2_V3
    have hb_V3 := cb_2
    have hlaV3 := cl_2
    clear hHeld cb_2 hb_V2 cl_2 hlaV2 cb0_2 cb1_2 cb2_2 sb0_V2 sb1_V2 sb2_V2 gb0_V2 gb1_V2 gb2_V2
    go_wp2_with fail
    refine bodyPost_ret (v := .tuple #[.agg (bv z32).toArray, .agg (bv z32).toArray, .bool false]) (results_rows_tmp Tryd.results32 _ _ (w.heap.size + 1) 23 _ (0, 0) _ rfl gb1_V3.out Tryd.underlying23 rfl (by rw [List.size_toArray, bv_len, z32_len]; kernel_rfl) (w.heap.size + 2) 23 _ (0, 0) _ rfl gb2_V3.out Tryd.underlying23 rfl (by rw [List.size_toArray, bv_len, z32_len]; kernel_rfl) _ rfl) rfl ⟨z32, z32, false, rfl, HF, z32_len, z32_len, hb_V3⟩
  · have HG := vlt ((good_iff z Hz.out).1 (of_decide_eq_true e14.out.symm))
    clear e14
    go_upto_region 5 with fail
    refine plain_start_c (S := fun W' => Below V2.heap.size V2 W') 5 (by kernel_rfl) (Below.refl _ _) (fun hHeld => ?_)
    refine c_read (i := 0) (oi := ⟨(some 19), _, _, _, _, _⟩) (v := _) rfl (by decide) (by kernel_rfl) (by kernel_rfl) (by kernel_rfl) (by kernel_rfl) (by kernel_rfl) (fun _ _ _ h => h) (yieldsIf_load_mid (by rfl) _ _ rfl (w.heap.size) 0 rfl (bv z) _ (fun W' hW' => range_row ((hW'.block _ sb0_V2).trans gb0_V2.out)) (Tryd.underlying23) rfl (by rw [bv_len, Hz.out]; kernel_rfl)) hHeld ?_
    try simp only [pu]
    refine c_step (i := 1) (o := ⟨(some 20), _, _, _, _, _⟩) (by kernel_rfl) rfl (fun K hK => ?_)
    go_simp
    refine (across_any _ (hlaV2.next hHeld) z (Hz.out)).mono ?_
    rintro e W2 ⟨v20, o20, rfl, e20, h20, hb2⟩
    refine hK.out _ _ (below_next hHeld hHeld.size hb2) (fun hHeld => ?_)
    clear hK K hb2
    try simp only [pu]
    refine c_take (i := 2) (oi := ⟨(some 18), _, _, _, _, _⟩) (v := ?vqV2_2_2) rfl (by decide) (by kernel_rfl) (by kernel_rfl) (by kernel_rfl) (fun _ _ _ h => h) (Or.inl ⟨by rfl, ?yqV2_2_2⟩) hHeld ?_
    case yqV2_2_2 => (intro W0 hSw; go_simp; try with_reducible rfl)
    try simp only [pu]
    refine c_take (i := 3) (oi := ⟨(some 21), _, _, _, _, _⟩) (v := .agg (bv v20).toArray) rfl (by decide) (by kernel_rfl) (by kernel_rfl) (by kernel_rfl) (fun _ _ _ h => h) (Or.inl ⟨by rfl, ?yqV2_2_3⟩) hHeld ?_
    case yqV2_2_3 => (intro W0 hSw; go_simp; try with_reducible rfl)
    try simp only [pu]
    refine c_take (i := 4) (oi := ⟨(some 22), _, _, _, _, _⟩) (v := .bool o20) rfl (by decide) (by kernel_rfl) (by kernel_rfl) (by kernel_rfl) (fun _ _ _ h => h) (Or.inl ⟨by rfl, ?yqV2_2_4⟩) hHeld ?_
    case yqV2_2_4 => (intro W0 hSw; go_simp; try with_reducible rfl)
    try simp only [pu]
    refine c_call (S' := fun _ => True) (o := ⟨none, _, _, _, _, _⟩) (by kernel_rfl) (by kernel_rfl) rfl (fun K hK => ?_)
    have cb0_0 := row_next2 gb0_V2 hHeld
    have cb1_0 := row_next2 gb1_V2 hHeld
    have cb2_0 := row_next2 gb2_V2 hHeld
    have cb_0 := below_next hb_V2 hb_V2.size hHeld
    have cl_0 := hlaV2.next hHeld
    clear hHeld
    refine step_row (by rfl) 23 (.tmp 2) (.tmp 21) rfl (w.heap.size + 1) (bv v20) rfl rfl 23 _ cb1_0.out (by rw [bv_len, h20.out]; kernel_rfl) (by rw [List.size_toArray, bv_len, z32_len, bv_len, h20.out]) (bv_one _) ?_
    intro W3 cb1_1 kR
    refine hK.out _ _ trivial (fun hHeld => ?_)
    have cb0_1 := row_but cb0_0 kR (by omega)
    have cb2_1 := row_but cb2_0 kR (by omega)
    have cb_1 := But.below cb_0 kR (by omega) cb_0.size
    have cl_1 := cl_0.but (by omega) (by omega) kR
    clear hK K kR cb_0 cb0_0 cb1_0 cb2_0 cl_0
    try simp only [pu]
    refine wpAnyH_take (i := 6) (oi := ⟨(some 4), _, _, _, _, _⟩) (v := ?vqV2_2_6) rfl (by kernel_rfl) (by kernel_rfl) (by kernel_rfl) (fun _ _ _ h => h) (Or.inl ⟨by rfl, ?yqV2_2_6⟩) hHeld ?_
    case yqV2_2_6 => (intro W0 hSw; go_simp; try with_reducible rfl)
    try simp only [pu]
    refine wpAnyH_done (by kernel_rfl) ?_ _
    obtain ⟨V3, rV3⟩ : ∃ X, X = W3 := ⟨_, rfl⟩
    subst rV3
    have gb0_V3 := cb0_1
    have sb0_V3 := row_size gb0_V3
    have gb1_V3 := cb1_1
    have sb1_V3 := row_size gb1_V3
    have gb2_V3 := cb2_1
    have sb2_V3 := row_size gb2_V3
    have hb_V3 := cb_1
    have hlaV3 := cl_1
    clear hHeld cb_1 hb_V2 cl_1 hlaV2 cb0_1 cb1_1 cb2_1 sb0_V2 sb1_V2 sb2_V2 gb0_V2 gb1_V2 gb2_V2
    rcases o20 with _ | _
    · have HF := vlt (show RdIs a z32 z32 false from ⟨fun h => (by cases h), fun _ => ⟨rfl, rfl, dec_none (by rw [HY.out]; exact (e20.out.2 rfl).2)⟩⟩)
      clear e20
      obtain rfl | rfl : s = 0 ∨ s = 1 := by omega
      · go_upto_region 9 with fail
        refine plain_start_c (S := fun W' => Below V3.heap.size V3 W') 2 (by kernel_rfl) (Below.refl _ _) (fun hHeld => ?_)
        refine c_take (i := 0) (oi := ⟨(some 37), _, _, _, _, _⟩) (v := _) rfl (by decide) (by kernel_rfl) (by kernel_rfl) (by kernel_rfl) (fun _ _ _ h => h) (yields_build (by rfl) _ _ rfl [] (by rfl) _ hbz) hHeld ?_
        try simp only [pu]
        refine c_take (i := 1) (oi := ⟨(some 38), _, _, _, _, _⟩) (v := _) rfl (by decide) (by kernel_rfl) (by kernel_rfl) (by kernel_rfl) (fun _ _ _ h => h) (yields_build (by rfl) _ _ rfl [] (by rfl) _ hbz) hHeld ?_
        try simp only [pu]
        refine c_call (S' := fun _ => True) (o := ⟨none, _, _, _, _, _⟩) (by kernel_rfl) (by kernel_rfl) rfl (fun K hK => ?_)
        have cb0_0 := row_next2 gb0_V3 hHeld
        have cb1_0 := row_next2 gb1_V3 hHeld
        have cb2_0 := row_next2 gb2_V3 hHeld
        have cb_0 := below_next hb_V3 hb_V3.size hHeld
        have cl_0 := hlaV3.next hHeld
        clear hHeld
        refine step_row (by rfl) 23 (.tmp 2) (.tmp 37) rfl (w.heap.size + 1) (bv z32) rfl rfl 23 _ cb1_0.out (by rw [bv_len, z32_len]; kernel_rfl) (by rw [List.size_toArray, bv_len, h20.out, bv_len, z32_len]) (bv_one _) ?_
        intro W4 cb1_1 kR
        refine hK.out _ _ trivial (fun hHeld => ?_)
        have cb0_1 := row_but cb0_0 kR (by omega)
        have cb2_1 := row_but cb2_0 kR (by omega)
        have cb_1 := But.below cb_0 kR (by omega) cb_0.size
        have cl_1 := cl_0.but (by omega) (by omega) kR
        clear hK K kR cb_0 cb0_0 cb1_0 cb2_0 cl_0
        try simp only [pu]
        refine wpAnyH_ready (rs := [3]) (by kernel_rfl) (by simp) ?_
        refine AllReadyH.cons (i := 3) (o := ⟨none, _, _, _, _, _⟩) rfl (fun K hK => ?_) AllReadyH.nil
        refine step_row (by rfl) 23 (.tmp 3) (.tmp 38) rfl (w.heap.size + 2) (bv z32) rfl rfl 23 _ cb2_1.out (by rw [bv_len, z32_len]; kernel_rfl) (by rw [List.size_toArray]) (bv_one _) ?_
        intro W5 cb2_2 kR
        refine hK.out _ _ trivial (fun hHeld => ?_)
        have cb0_2 := row_but cb0_1 kR (by omega)
        have cb1_2 := row_but cb1_1 kR (by omega)
        have cb_2 := But.below cb_1 kR (by omega) cb_1.size
        have cl_2 := cl_1.but (by omega) (by omega) kR
        clear hK K kR cb_1 cb0_1 cb1_1 cb2_1 cl_1
        try simp only [pu]
        refine wpAnyH_take (i := 4) (oi := ⟨(some 4), _, _, _, _, _⟩) (v := (Value.bool false)) rfl (by kernel_rfl) (by kernel_rfl) (by kernel_rfl) (fun _ _ _ h => h) (Or.inl ⟨by rfl, ?yqV3_3_4⟩) hHeld ?_
        case yqV3_3_4 => (intro W0 hSw; go_simp; try with_reducible rfl)
        try simp only [pu]
        refine wpAnyH_done (by kernel_rfl) ?_ _
        obtain ⟨V4, rV4⟩ : ∃ X, X = W5 := ⟨_, rfl⟩
        subst rV4
        have gb0_V4 := cb0_2
        have sb0_V4 := row_size gb0_V4
        have gb1_V4 := cb1_2
        have sb1_V4 := row_size gb1_V4
        have gb2_V4 := cb2_2
        have sb2_V4 := row_size gb2_V4
        have hb_V4 := cb_2
        have hlaV4 := cl_2
        clear hHeld cb_2 hb_V3 cl_2 hlaV3 cb0_2 cb1_2 cb2_2 sb0_V3 sb1_V3 sb2_V3 gb0_V3 gb1_V3 gb2_V3
        go_wp2_with fail
        refine bodyPost_ret (v := .tuple #[.agg (bv z32).toArray, .agg (bv z32).toArray, .bool false]) (results_rows_tmp Tryd.results32 _ _ (w.heap.size + 1) 23 _ (0, 0) _ rfl gb1_V4.out Tryd.underlying23 rfl (by rw [List.size_toArray, bv_len, z32_len]; kernel_rfl) (w.heap.size + 2) 23 _ (0, 0) _ rfl gb2_V4.out Tryd.underlying23 rfl (by rw [List.size_toArray, bv_len, z32_len]; kernel_rfl) _ rfl) rfl ⟨z32, z32, false, rfl, HF, z32_len, z32_len, hb_V4⟩
      · go_upto_region 7 with fail
        refine plain_start_c (S := fun W' => Below V3.heap.size V3 W') 3 (by kernel_rfl) (Below.refl _ _) (fun hHeld => ?_)
        refine c_take (i := 0) (oi := ⟨(some 25), _, _, _, _, _⟩) (v := _) rfl (by decide) (by kernel_rfl) (by kernel_rfl) (by kernel_rfl) (fun _ _ _ h => h) (yields_build (by rfl) _ _ rfl [] (by rfl) _ hbz) hHeld ?_
        try simp only [pu]
        refine c_read (i := 1) (oi := ⟨(some 26), _, _, _, _, _⟩) (v := _) rfl (by decide) (by kernel_rfl) (by kernel_rfl) (by kernel_rfl) (by kernel_rfl) (by kernel_rfl) (fun _ _ _ h => h) (yieldsIf_load_mid (by rfl) _ _ rfl (w.heap.size + 1) 0 rfl (bv v20) _ (fun W' hW' => range_row ((hW'.block _ sb1_V3).trans gb1_V3.out)) (Tryd.underlying23) rfl (by rw [bv_len, h20.out]; kernel_rfl)) hHeld ?_
        try simp only [pu]
        refine c_step (i := 2) (o := ⟨(some 27), _, _, _, _, _⟩) (by kernel_rfl) rfl (fun K hK => ?_)
        go_simp
        refine (fsub_any _ z32 v20 (z32_len) (h20.out)).mono ?_
        rintro e W4 ⟨v27, rfl, e27, h27, hb4⟩
        refine hK.out _ _ (below_next hHeld hHeld.size hb4) (fun hHeld => ?_)
        clear hK K hb4
        try simp only [pu]
        refine c_call (S' := fun _ => True) (o := ⟨none, _, _, _, _, _⟩) (by kernel_rfl) (by kernel_rfl) rfl (fun K hK => ?_)
        have cb0_0 := row_next2 gb0_V3 hHeld
        have cb1_0 := row_next2 gb1_V3 hHeld
        have cb2_0 := row_next2 gb2_V3 hHeld
        have cb_0 := below_next hb_V3 hb_V3.size hHeld
        have cl_0 := hlaV3.next hHeld
        clear hHeld
        refine step_row (by rfl) 23 (.tmp 2) (.tmp 27) rfl (w.heap.size + 1) (bv v27) rfl rfl 23 _ cb1_0.out (by rw [bv_len, h27.out]; kernel_rfl) (by rw [List.size_toArray, bv_len, h20.out, bv_len, h27.out]) (bv_one _) ?_
        intro W5 cb1_1 kR
        refine hK.out _ _ trivial (fun hHeld => ?_)
        have cb0_1 := row_but cb0_0 kR (by omega)
        have cb2_1 := row_but cb2_0 kR (by omega)
        have cb_1 := But.below cb_0 kR (by omega) cb_0.size
        have cl_1 := cl_0.but (by omega) (by omega) kR
        clear hK K kR cb_0 cb0_0 cb1_0 cb2_0 cl_0
        try simp only [pu]
        refine wpAnyH_done (by kernel_rfl) ?_ _
        obtain ⟨V4, rV4⟩ : ∃ X, X = W5 := ⟨_, rfl⟩
        subst rV4
        have gb0_V4 := cb0_1
        have sb0_V4 := row_size gb0_V4
        have gb1_V4 := cb1_1
        have sb1_V4 := row_size gb1_V4
        have gb2_V4 := cb2_1
        have sb2_V4 := row_size gb2_V4
        have hb_V4 := cb_1
        have hlaV4 := cl_1
        clear hHeld cb_1 hb_V3 cl_1 hlaV3 cb0_1 cb1_1 cb2_1 sb0_V3 sb1_V3 sb2_V3 gb0_V3 gb1_V3 gb2_V3
        go_upto_region 9 with fail
        refine plain_start_c (S := fun W' => Below V4.heap.size V4 W') 2 (by kernel_rfl) (Below.refl _ _) (fun hHeld => ?_)
        refine c_take (i := 0) (oi := ⟨(some 37), _, _, _, _, _⟩) (v := _) rfl (by decide) (by kernel_rfl) (by kernel_rfl) (by kernel_rfl) (fun _ _ _ h => h) (yields_build (by rfl) _ _ rfl [] (by rfl) _ hbz) hHeld ?_
        try simp only [pu]
        refine c_take (i := 1) (oi := ⟨(some 38), _, _, _, _, _⟩) (v := _) rfl (by decide) (by kernel_rfl) (by kernel_rfl) (by kernel_rfl) (fun _ _ _ h => h) (yields_build (by rfl) _ _ rfl [] (by rfl) _ hbz) hHeld ?_
        try simp only [pu]
        refine c_call (S' := fun _ => True) (o := ⟨none, _, _, _, _, _⟩) (by kernel_rfl) (by kernel_rfl) rfl (fun K hK => ?_)
        have cb0_0 := row_next2 gb0_V4 hHeld
        have cb1_0 := row_next2 gb1_V4 hHeld
        have cb2_0 := row_next2 gb2_V4 hHeld
        have cb_0 := below_next hb_V4 hb_V4.size hHeld
        have cl_0 := hlaV4.next hHeld
        clear hHeld
        refine step_row (by rfl) 23 (.tmp 2) (.tmp 37) rfl (w.heap.size + 1) (bv z32) rfl rfl 23 _ cb1_0.out (by rw [bv_len, z32_len]; kernel_rfl) (by rw [List.size_toArray, bv_len, h27.out, bv_len, z32_len]) (bv_one _) ?_
        intro W6 cb1_1 kR
        refine hK.out _ _ trivial (fun hHeld => ?_)
        have cb0_1 := row_but cb0_0 kR (by omega)
        have cb2_1 := row_but cb2_0 kR (by omega)
        have cb_1 := But.below cb_0 kR (by omega) cb_0.size
        have cl_1 := cl_0.but (by omega) (by omega) kR
        clear hK K kR cb_0 cb0_0 cb1_0 cb2_0 cl_0
        try simp only [pu]
        refine wpAnyH_ready (rs := [3]) (by kernel_rfl) (by simp) ?_
        refine AllReadyH.cons (i := 3) (o := ⟨none, _, _, _, _, _⟩) rfl (fun K hK => ?_) AllReadyH.nil
        refine step_row (by rfl) 23 (.tmp 3) (.tmp 38) rfl (w.heap.size + 2) (bv z32) rfl rfl 23 _ cb2_1.out (by rw [bv_len, z32_len]; kernel_rfl) (by rw [List.size_toArray]) (bv_one _) ?_
        intro W7 cb2_2 kR
        refine hK.out _ _ trivial (fun hHeld => ?_)
        have cb0_2 := row_but cb0_1 kR (by omega)
        have cb1_2 := row_but cb1_1 kR (by omega)
        have cb_2 := But.below cb_1 kR (by omega) cb_1.size
        have cl_2 := cl_1.but (by omega) (by omega) kR
        clear hK K kR cb_1 cb0_1 cb1_1 cb2_1 cl_1
        try simp only [pu]
        refine wpAnyH_take (i := 4) (oi := ⟨(some 4), _, _, _, _, _⟩) (v := (Value.bool false)) rfl (by kernel_rfl) (by kernel_rfl) (by kernel_rfl) (fun _ _ _ h => h) (Or.inl ⟨by rfl, ?yqV4_4_4⟩) hHeld ?_
        case yqV4_4_4 => (intro W0 hSw; go_simp; try with_reducible rfl)
        try simp only [pu]
        refine wpAnyH_done (by kernel_rfl) ?_ _
        obtain ⟨V5, rV5⟩ : ∃ X, X = W7 := ⟨_, rfl⟩
        subst rV5
        have gb0_V5 := cb0_2
        have sb0_V5 := row_size gb0_V5
        have gb1_V5 := cb1_2
        have sb1_V5 := row_size gb1_V5
        have gb2_V5 := cb2_2
        have sb2_V5 := row_size gb2_V5
        have hb_V5 := cb_2
        have hlaV5 := cl_2
        clear hHeld cb_2 hb_V4 cl_2 hlaV4 cb0_2 cb1_2 cb2_2 sb0_V4 sb1_V4 sb2_V4 gb0_V4 gb1_V4 gb2_V4
        go_wp2_with fail
        refine bodyPost_ret (v := .tuple #[.agg (bv z32).toArray, .agg (bv z32).toArray, .bool false]) (results_rows_tmp Tryd.results32 _ _ (w.heap.size + 1) 23 _ (0, 0) _ rfl gb1_V5.out Tryd.underlying23 rfl (by rw [List.size_toArray, bv_len, z32_len]; kernel_rfl) (w.heap.size + 2) 23 _ (0, 0) _ rfl gb2_V5.out Tryd.underlying23 rfl (by rw [List.size_toArray, bv_len, z32_len]; kernel_rfl) _ rfl) rfl ⟨z32, z32, false, rfl, HF, z32_len, z32_len, hb_V5⟩
    · have HR := vlt (e20.out.1 rfl)
      clear e20
      obtain rfl | rfl : s = 0 ∨ s = 1 := by omega
      · obtain ⟨c, hc, hx0, hcx⟩ := first_byte v20 h20.out
        have c0 : V3.cell? ⟨w.heap.size + 1, 0, none⟩ = some (.int .u8 (c : Int)) := by
          have h := byte_cell gb1_V3.out hx0
          rwa [UInt8.toNat_ofNat', show (2 : Nat) ^ 8 = 256 by decide, Nat.mod_eq_of_lt hc] at h
        have el := low8 c hc
        obtain ⟨d, hd⟩ : ∃ d, d = c % 2 := ⟨_, rfl⟩
        have HD := vlt (show ln v20 % 2 = d by rw [hd, hcx])
        have hd2 : d < 2 := by omega
        rw [← hd] at el
        clear hd hcx hx0
        obtain rfl : d = 0 := by have := HD.out; have := HR.out.2.1; omega
        have HF := vlt (show RdIs a v20 z true from read_yes HA.out HY.out HS.out HG.out HR.out.2.2 HR.out.1 HD.out)
        go_upto_region 10 with fail
        clear c0 el
        refine c_start (S := fun W' => Below V3.heap.size V3 W') 3 (by kernel_rfl) ((Below.refl _ _).drew) (fun hHeld => ?_)
        refine c_read (i := 0) (oi := ⟨(some 39), _, _, _, _, _⟩) (v := _) rfl (by decide) (by kernel_rfl) (by kernel_rfl) (by kernel_rfl) (by kernel_rfl) (by kernel_rfl) (fun _ _ _ h => h) (yieldsIf_load_mid (by rfl) _ _ rfl (w.heap.size + 1) 0 rfl (bv v20) _ (fun W' hW' => range_row ((hW'.block _ sb1_V3).trans gb1_V3.out)) (Tryd.underlying23) rfl (by rw [bv_len, h20.out]; kernel_rfl)) hHeld ?_
        try simp only [pu]
        refine c_read (i := 1) (oi := ⟨(some 40), _, _, _, _, _⟩) (v := _) rfl (by decide) (by kernel_rfl) (by kernel_rfl) (by kernel_rfl) (by kernel_rfl) (by kernel_rfl) (fun _ _ _ h => h) (yieldsIf_load_mid (by rfl) _ _ rfl (w.heap.size) 0 rfl (bv z) _ (fun W' hW' => range_row ((hW'.block _ sb0_V3).trans gb0_V3.out)) (Tryd.underlying23) rfl (by rw [bv_len, Hz.out]; kernel_rfl)) hHeld ?_
        try simp only [pu]
        refine c_step (i := 2) (o := ⟨none, _, _, _, _, _⟩) (by kernel_rfl) rfl (fun K hK => ?_)
        refine step_same (by rfl) 23 (.tmp 2) (.tmp 39) rfl (w.heap.size + 1) (bv v20) rfl rfl 23 (row_next2 gb1_V3 hHeld).out (by rw [bv_len, h20.out]; kernel_rfl) (bv_one _) ?_
        intro W4 kR
        refine hK.out _ _ (below_next hHeld hHeld.size kR) (fun hHeld => ?_)
        clear hK K kR
        try simp only [pu]
        refine c_call (S' := fun _ => True) (o := ⟨none, _, _, _, _, _⟩) (by kernel_rfl) (by kernel_rfl) rfl (fun K hK => ?_)
        have cb0_0 := row_next2 gb0_V3 hHeld
        have cb1_0 := row_next2 gb1_V3 hHeld
        have cb2_0 := row_next2 gb2_V3 hHeld
        have cb_0 := below_next hb_V3 hb_V3.size hHeld
        have cl_0 := hlaV3.next hHeld
        clear hHeld
        refine step_row (by rfl) 23 (.tmp 3) (.tmp 40) rfl (w.heap.size + 2) (bv z) rfl rfl 23 _ cb2_0.out (by rw [bv_len, Hz.out]; kernel_rfl) (by rw [List.size_toArray, bv_len, z32_len, bv_len, Hz.out]) (bv_one _) ?_
        intro W5 cb2_1 kR
        refine hK.out _ _ trivial (fun hHeld => ?_)
        have cb0_1 := row_but cb0_0 kR (by omega)
        have cb1_1 := row_but cb1_0 kR (by omega)
        have cb_1 := But.below cb_0 kR (by omega) cb_0.size
        have cl_1 := cl_0.but (by omega) (by omega) kR
        clear hK K kR cb_0 cb0_0 cb1_0 cb2_0 cl_0
        try simp only [pu]
        refine wpAnyH_take (i := 4) (oi := ⟨(some 4), _, _, _, _, _⟩) (v := (Value.bool true)) rfl (by kernel_rfl) (by kernel_rfl) (by kernel_rfl) (fun _ _ _ h => h) (Or.inl ⟨by rfl, ?yqV3_3_4⟩) hHeld ?_
        case yqV3_3_4 => (intro W0 hSw; go_simp; try with_reducible rfl)
        try simp only [pu]
        refine wpAnyH_done (by kernel_rfl) ?_ _
        obtain ⟨V4, rV4⟩ : ∃ X, X = W5 := ⟨_, rfl⟩
        subst rV4
        have gb0_V4 := cb0_1
        have sb0_V4 := row_size gb0_V4
        have gb1_V4 := cb1_1
        have sb1_V4 := row_size gb1_V4
        have gb2_V4 := cb2_1
        have sb2_V4 := row_size gb2_V4
        have hb_V4 := cb_1
        have hlaV4 := cl_1
        clear hHeld cb_1 hb_V3 cl_1 hlaV3 cb0_1 cb1_1 cb2_1 sb0_V3 sb1_V3 sb2_V3 gb0_V3 gb1_V3 gb2_V3
        go_wp2_with fail
        refine bodyPost_ret (v := .tuple #[.agg (bv v20).toArray, .agg (bv z).toArray, .bool true]) (results_rows_tmp Tryd.results32 _ _ (w.heap.size + 1) 23 _ (0, 0) _ rfl gb1_V4.out Tryd.underlying23 rfl (by rw [List.size_toArray, bv_len, h20.out]; kernel_rfl) (w.heap.size + 2) 23 _ (0, 0) _ rfl gb2_V4.out Tryd.underlying23 rfl (by rw [List.size_toArray, bv_len, Hz.out]; kernel_rfl) _ rfl) rfl ⟨v20, z, true, rfl, HF, h20, Hz, hb_V4⟩
      · go_upto_region 7 with fail
        refine plain_start_c (S := fun W' => Below V3.heap.size V3 W') 3 (by kernel_rfl) (Below.refl _ _) (fun hHeld => ?_)
        refine c_take (i := 0) (oi := ⟨(some 25), _, _, _, _, _⟩) (v := _) rfl (by decide) (by kernel_rfl) (by kernel_rfl) (by kernel_rfl) (fun _ _ _ h => h) (yields_build (by rfl) _ _ rfl [] (by rfl) _ hbz) hHeld ?_
        try simp only [pu]
        refine c_read (i := 1) (oi := ⟨(some 26), _, _, _, _, _⟩) (v := _) rfl (by decide) (by kernel_rfl) (by kernel_rfl) (by kernel_rfl) (by kernel_rfl) (by kernel_rfl) (fun _ _ _ h => h) (yieldsIf_load_mid (by rfl) _ _ rfl (w.heap.size + 1) 0 rfl (bv v20) _ (fun W' hW' => range_row ((hW'.block _ sb1_V3).trans gb1_V3.out)) (Tryd.underlying23) rfl (by rw [bv_len, h20.out]; kernel_rfl)) hHeld ?_
        try simp only [pu]
        refine c_step (i := 2) (o := ⟨(some 27), _, _, _, _, _⟩) (by kernel_rfl) rfl (fun K hK => ?_)
        go_simp
        refine (fsub_any _ z32 v20 (z32_len) (h20.out)).mono ?_
        rintro e W4 ⟨v27, rfl, e27, h27, hb4⟩
        refine hK.out _ _ (below_next hHeld hHeld.size hb4) (fun hHeld => ?_)
        clear hK K hb4
        try simp only [pu]
        refine c_call (S' := fun _ => True) (o := ⟨none, _, _, _, _, _⟩) (by kernel_rfl) (by kernel_rfl) rfl (fun K hK => ?_)
        have cb0_0 := row_next2 gb0_V3 hHeld
        have cb1_0 := row_next2 gb1_V3 hHeld
        have cb2_0 := row_next2 gb2_V3 hHeld
        have cb_0 := below_next hb_V3 hb_V3.size hHeld
        have cl_0 := hlaV3.next hHeld
        clear hHeld
        refine step_row (by rfl) 23 (.tmp 2) (.tmp 27) rfl (w.heap.size + 1) (bv v27) rfl rfl 23 _ cb1_0.out (by rw [bv_len, h27.out]; kernel_rfl) (by rw [List.size_toArray, bv_len, h20.out, bv_len, h27.out]) (bv_one _) ?_
        intro W5 cb1_1 kR
        refine hK.out _ _ trivial (fun hHeld => ?_)
        have cb0_1 := row_but cb0_0 kR (by omega)
        have cb2_1 := row_but cb2_0 kR (by omega)
        have cb_1 := But.below cb_0 kR (by omega) cb_0.size
        have cl_1 := cl_0.but (by omega) (by omega) kR
        clear hK K kR cb_0 cb0_0 cb1_0 cb2_0 cl_0
        try simp only [pu]
        refine wpAnyH_done (by kernel_rfl) ?_ _
        obtain ⟨V4, rV4⟩ : ∃ X, X = W5 := ⟨_, rfl⟩
        subst rV4
        have gb0_V4 := cb0_1
        have sb0_V4 := row_size gb0_V4
        have gb1_V4 := cb1_1
        have sb1_V4 := row_size gb1_V4
        have gb2_V4 := cb2_1
        have sb2_V4 := row_size gb2_V4
        have hb_V4 := cb_1
        have hlaV4 := cl_1
        clear hHeld cb_1 hb_V3 cl_1 hlaV3 cb0_1 cb1_1 cb2_1 sb0_V3 sb1_V3 sb2_V3 gb0_V3 gb1_V3 gb2_V3
        obtain ⟨c, hc, hx0, hcx⟩ := first_byte v27 h27.out
        have c0 : V4.cell? ⟨w.heap.size + 1, 0, none⟩ = some (.int .u8 (c : Int)) := by
          have h := byte_cell gb1_V4.out hx0
          rwa [UInt8.toNat_ofNat', show (2 : Nat) ^ 8 = 256 by decide, Nat.mod_eq_of_lt hc] at h
        have el := low8 c hc
        obtain ⟨d, hd⟩ : ∃ d, d = c % 2 := ⟨_, rfl⟩
        have HD := vlt (show ln v27 % 2 = d by rw [hd, hcx])
        have hd2 : d < 2 := by omega
        rw [← hd] at el
        clear hd hcx hx0
        have HX := vlt (show cW v27 = 0 - cW v20 by rw [e27.out.1, z32_is])
        obtain rfl | rfl : d = 0 ∨ d = 1 := by omega
        · have HF := vlt (show RdIs a z32 z32 false from read_no HY.out HS.out HR.out.2.1 HR.out.2.2 HR.out.1 HX.out e27.out.2 (by rw [HD.out]; decide))
          go_upto_region 9 with fail
          clear c0 el
          refine plain_start_c (S := fun W' => Below V4.heap.size V4 W') 2 (by kernel_rfl) (Below.refl _ _) (fun hHeld => ?_)
          refine c_take (i := 0) (oi := ⟨(some 37), _, _, _, _, _⟩) (v := _) rfl (by decide) (by kernel_rfl) (by kernel_rfl) (by kernel_rfl) (fun _ _ _ h => h) (yields_build (by rfl) _ _ rfl [] (by rfl) _ hbz) hHeld ?_
          try simp only [pu]
          refine c_take (i := 1) (oi := ⟨(some 38), _, _, _, _, _⟩) (v := _) rfl (by decide) (by kernel_rfl) (by kernel_rfl) (by kernel_rfl) (fun _ _ _ h => h) (yields_build (by rfl) _ _ rfl [] (by rfl) _ hbz) hHeld ?_
          try simp only [pu]
          refine c_call (S' := fun _ => True) (o := ⟨none, _, _, _, _, _⟩) (by kernel_rfl) (by kernel_rfl) rfl (fun K hK => ?_)
          have cb0_0 := row_next2 gb0_V4 hHeld
          have cb1_0 := row_next2 gb1_V4 hHeld
          have cb2_0 := row_next2 gb2_V4 hHeld
          have cb_0 := below_next hb_V4 hb_V4.size hHeld
          have cl_0 := hlaV4.next hHeld
          clear hHeld
          refine step_row (by rfl) 23 (.tmp 2) (.tmp 37) rfl (w.heap.size + 1) (bv z32) rfl rfl 23 _ cb1_0.out (by rw [bv_len, z32_len]; kernel_rfl) (by rw [List.size_toArray, bv_len, h27.out, bv_len, z32_len]) (bv_one _) ?_
          intro W6 cb1_1 kR
          refine hK.out _ _ trivial (fun hHeld => ?_)
          have cb0_1 := row_but cb0_0 kR (by omega)
          have cb2_1 := row_but cb2_0 kR (by omega)
          have cb_1 := But.below cb_0 kR (by omega) cb_0.size
          have cl_1 := cl_0.but (by omega) (by omega) kR
          clear hK K kR cb_0 cb0_0 cb1_0 cb2_0 cl_0
          try simp only [pu]
          refine wpAnyH_ready (rs := [3]) (by kernel_rfl) (by simp) ?_
          refine AllReadyH.cons (i := 3) (o := ⟨none, _, _, _, _, _⟩) rfl (fun K hK => ?_) AllReadyH.nil
          refine step_row (by rfl) 23 (.tmp 3) (.tmp 38) rfl (w.heap.size + 2) (bv z32) rfl rfl 23 _ cb2_1.out (by rw [bv_len, z32_len]; kernel_rfl) (by rw [List.size_toArray]) (bv_one _) ?_
          intro W7 cb2_2 kR
          refine hK.out _ _ trivial (fun hHeld => ?_)
          have cb0_2 := row_but cb0_1 kR (by omega)
          have cb1_2 := row_but cb1_1 kR (by omega)
          have cb_2 := But.below cb_1 kR (by omega) cb_1.size
          have cl_2 := cl_1.but (by omega) (by omega) kR
          clear hK K kR cb_1 cb0_1 cb1_1 cb2_1 cl_1
          try simp only [pu]
          refine wpAnyH_take (i := 4) (oi := ⟨(some 4), _, _, _, _, _⟩) (v := (Value.bool false)) rfl (by kernel_rfl) (by kernel_rfl) (by kernel_rfl) (fun _ _ _ h => h) (Or.inl ⟨by rfl, ?yqV4_4_4⟩) hHeld ?_
          case yqV4_4_4 => (intro W0 hSw; go_simp; try with_reducible rfl)
          try simp only [pu]
          refine wpAnyH_done (by kernel_rfl) ?_ _
          obtain ⟨V5, rV5⟩ : ∃ X, X = W7 := ⟨_, rfl⟩
          subst rV5
          have gb0_V5 := cb0_2
          have sb0_V5 := row_size gb0_V5
          have gb1_V5 := cb1_2
          have sb1_V5 := row_size gb1_V5
          have gb2_V5 := cb2_2
          have sb2_V5 := row_size gb2_V5
          have hb_V5 := cb_2
          have hlaV5 := cl_2
          clear hHeld cb_2 hb_V4 cl_2 hlaV4 cb0_2 cb1_2 cb2_2 sb0_V4 sb1_V4 sb2_V4 gb0_V4 gb1_V4 gb2_V4
          go_wp2_with fail
          refine bodyPost_ret (v := .tuple #[.agg (bv z32).toArray, .agg (bv z32).toArray, .bool false]) (results_rows_tmp Tryd.results32 _ _ (w.heap.size + 1) 23 _ (0, 0) _ rfl gb1_V5.out Tryd.underlying23 rfl (by rw [List.size_toArray, bv_len, z32_len]; kernel_rfl) (w.heap.size + 2) 23 _ (0, 0) _ rfl gb2_V5.out Tryd.underlying23 rfl (by rw [List.size_toArray, bv_len, z32_len]; kernel_rfl) _ rfl) rfl ⟨z32, z32, false, rfl, HF, z32_len, z32_len, hb_V5⟩
        · have HF := vlt (show RdIs a v27 z true from read_yes HA.out HY.out HS.out HG.out e27.out.2 (neg_root HR.out.1 HX.out) HD.out)
          go_upto_region 10 with fail
          clear c0 el
          refine c_start (S := fun W' => Below V4.heap.size V4 W') 3 (by kernel_rfl) ((Below.refl _ _).drew) (fun hHeld => ?_)
          refine c_read (i := 0) (oi := ⟨(some 39), _, _, _, _, _⟩) (v := _) rfl (by decide) (by kernel_rfl) (by kernel_rfl) (by kernel_rfl) (by kernel_rfl) (by kernel_rfl) (fun _ _ _ h => h) (yieldsIf_load_mid (by rfl) _ _ rfl (w.heap.size + 1) 0 rfl (bv v27) _ (fun W' hW' => range_row ((hW'.block _ sb1_V4).trans gb1_V4.out)) (Tryd.underlying23) rfl (by rw [bv_len, h27.out]; kernel_rfl)) hHeld ?_
          try simp only [pu]
          refine c_read (i := 1) (oi := ⟨(some 40), _, _, _, _, _⟩) (v := _) rfl (by decide) (by kernel_rfl) (by kernel_rfl) (by kernel_rfl) (by kernel_rfl) (by kernel_rfl) (fun _ _ _ h => h) (yieldsIf_load_mid (by rfl) _ _ rfl (w.heap.size) 0 rfl (bv z) _ (fun W' hW' => range_row ((hW'.block _ sb0_V4).trans gb0_V4.out)) (Tryd.underlying23) rfl (by rw [bv_len, Hz.out]; kernel_rfl)) hHeld ?_
          try simp only [pu]
          refine c_step (i := 2) (o := ⟨none, _, _, _, _, _⟩) (by kernel_rfl) rfl (fun K hK => ?_)
          refine step_same (by rfl) 23 (.tmp 2) (.tmp 39) rfl (w.heap.size + 1) (bv v27) rfl rfl 23 (row_next2 gb1_V4 hHeld).out (by rw [bv_len, h27.out]; kernel_rfl) (bv_one _) ?_
          intro W6 kR
          refine hK.out _ _ (below_next hHeld hHeld.size kR) (fun hHeld => ?_)
          clear hK K kR
          try simp only [pu]
          refine c_call (S' := fun _ => True) (o := ⟨none, _, _, _, _, _⟩) (by kernel_rfl) (by kernel_rfl) rfl (fun K hK => ?_)
          have cb0_0 := row_next2 gb0_V4 hHeld
          have cb1_0 := row_next2 gb1_V4 hHeld
          have cb2_0 := row_next2 gb2_V4 hHeld
          have cb_0 := below_next hb_V4 hb_V4.size hHeld
          have cl_0 := hlaV4.next hHeld
          clear hHeld
          refine step_row (by rfl) 23 (.tmp 3) (.tmp 40) rfl (w.heap.size + 2) (bv z) rfl rfl 23 _ cb2_0.out (by rw [bv_len, Hz.out]; kernel_rfl) (by rw [List.size_toArray, bv_len, z32_len, bv_len, Hz.out]) (bv_one _) ?_
          intro W7 cb2_1 kR
          refine hK.out _ _ trivial (fun hHeld => ?_)
          have cb0_1 := row_but cb0_0 kR (by omega)
          have cb1_1 := row_but cb1_0 kR (by omega)
          have cb_1 := But.below cb_0 kR (by omega) cb_0.size
          have cl_1 := cl_0.but (by omega) (by omega) kR
          clear hK K kR cb_0 cb0_0 cb1_0 cb2_0 cl_0
          try simp only [pu]
          refine wpAnyH_take (i := 4) (oi := ⟨(some 4), _, _, _, _, _⟩) (v := (Value.bool true)) rfl (by kernel_rfl) (by kernel_rfl) (by kernel_rfl) (fun _ _ _ h => h) (Or.inl ⟨by rfl, ?yqV4_4_4⟩) hHeld ?_
          case yqV4_4_4 => (intro W0 hSw; go_simp; try with_reducible rfl)
          try simp only [pu]
          refine wpAnyH_done (by kernel_rfl) ?_ _
          obtain ⟨V5, rV5⟩ : ∃ X, X = W7 := ⟨_, rfl⟩
          subst rV5
          have gb0_V5 := cb0_1
          have sb0_V5 := row_size gb0_V5
          have gb1_V5 := cb1_1
          have sb1_V5 := row_size gb1_V5
          have gb2_V5 := cb2_1
          have sb2_V5 := row_size gb2_V5
          have hb_V5 := cb_1
          have hlaV5 := cl_1
          clear hHeld cb_1 hb_V4 cl_1 hlaV4 cb0_1 cb1_1 cb2_1 sb0_V4 sb1_V4 sb2_V4 gb0_V4 gb1_V4 gb2_V4
          go_wp2_with fail
          refine bodyPost_ret (v := .tuple #[.agg (bv v27).toArray, .agg (bv z).toArray, .bool true]) (results_rows_tmp Tryd.results32 _ _ (w.heap.size + 1) 23 _ (0, 0) _ rfl gb1_V5.out Tryd.underlying23 rfl (by rw [List.size_toArray, bv_len, h27.out]; kernel_rfl) (w.heap.size + 2) 23 _ (0, 0) _ rfl gb2_V5.out Tryd.underlying23 rfl (by rw [List.size_toArray, bv_len, Hz.out]; kernel_rfl) _ rfl) rfl ⟨v27, z, true, rfl, HF, h27, Hz, hb_V5⟩
end Go.Proofs.YtcefdcjpddohaaaDoor
namespace Go.Proofs.YtcefdcjpddohaaaDoor
open Go.RowKit

set_option maxRecDepth 100000 in
theorem built_z128 : Tryd.prog.built 64 [] = some (bv z128).toArray := by kernel_rfl
/-- What the package's calls answer, of points or none. -/
def add1 : Option PtE → Option PtE → List UInt8
  | some P, some Q => encE (addE P Q)
  | _, _ => z32
def neg1 : Option PtE → List UInt8
  | some P => encE (negE P)
  | none => z32
def mul1 (n : Nat) : Option PtE → List UInt8
  | some P => encE (mulE n P)
  | none => z32
def x1 : Option PtE → List UInt8
  | some P => le P.1.val 32
  | none => z32
def y1 : Option PtE → List UInt8
  | some P => le P.2.val 32
  | none => z32
def k1 (ok : Bool) : Int := if ok = true then 0 else 3
/-- What the calls tell of their points. -/
def PoIs (a p : List UInt8) (ok : Bool) : Prop := (ok = true → ∃ P, PlE p P ∧ PtIs a (some P)) ∧ (ok = false → PtIs a none)
def GdIs (a : List UInt8) (ok : Bool) : Prop := ∃ o, PtIs a o ∧ ok = o.isSome
def NgIs (a l : List UInt8) (k : Int) : Prop := ∃ o, PtIs a o ∧ l = neg1 o ∧ k = k1 o.isSome
def AtIs (a x y : List UInt8) (k : Int) : Prop := ∃ o, PtIs a o ∧ x = x1 o ∧ y = y1 o ∧ k = k1 o.isSome
def AdIs (a b l : List UInt8) (k : Int) : Prop := ∃ o p, PtIs a o ∧ PtIs b p ∧ l = add1 o p ∧ k = k1 (o.isSome && p.isSome)
def MuIs (n : Nat) (a l : List UInt8) (k : Int) : Prop := ∃ o, PtIs a o ∧ l = mul1 n o ∧ k = k1 o.isSome
theorem le_cW (x : List UInt8) (h : x.length = 32) (hx : ln x < FP) : le (cW x).val 32 = x := by
  rw [cW, cF_val]; exact wo_ln x h hx
theorem neg_is (x : List UInt8) (X : Fin FP) (h : cW x = 0 - X) : cW x = -X := by rw [h]; grind
set_option maxRecDepth 100000 in
set_option maxHeartbeats 4000000 in
theorem placeOf_any (w : World) (hla : LaidP w) (a : List UInt8) (ha : a.length = 32) :
    Calls Tryd.prog 33 #[.agg (bv a).toArray] w fun e w' => ∃ p ok, e = .returned (.tuple #[.agg (bv p).toArray, .bool ok]) ∧ Vlt (PoIs a p ok) ∧ Hid (p.length = 128) ∧ Below w.heap.size w w' := by
  have hzw := zero_word
  have hzp := zero_place
  have hbz := built_z128
  obtain ⟨ONE, dONE, HONE⟩ := hides one32 one32_len
  have hb1 := built_one32
  rw [← dONE] at hb1
  have H1 := vlt (show cW ONE = 1 by rw [dONE]; exact one32_is)
  clear dONE
  obtain ⟨V0, hW, gb0_V0, gb1_V0, hb_V0, hsW⟩ := pair_new w (bv a).toArray (bv z128).toArray 23 64
  have HW := Lib.hid hW
  have Hha := Lib.hid ha
  have sb0_V0 := row_size gb0_V0
  have sb1_V0 := row_size gb1_V0
  have hlaV0 := hla.next hb_V0
  have gl1 := hla.size
  have gl2 := hla.turn.2
  clear hla
  clear hW hsW ha
  go_enter Tryd.func33, Tryd.ntmps33
  go_upto_region 1 with fail
  rw [HW.out]
  refine plain_start (S := fun W' => Below V0.heap.size V0 W') (by kernel_rfl) (Below.refl _ _) (fun hHeld => ?_)
  refine wpAnyH_take (i := 0) (oi := ⟨(some 8), _, _, _, _, _⟩) (v := _) rfl (by kernel_rfl) (by kernel_rfl) (by kernel_rfl) (fun _ _ _ h => h) (yieldsIf_load_mid (by rfl) _ _ rfl (w.heap.size) 0 rfl (bv a) _ (fun W' hW' => range_row ((hW'.block _ sb0_V0).trans gb0_V0.out)) (Tryd.underlying23) rfl (by rw [bv_len, Hha.out]; kernel_rfl)) hHeld ?_
  try simp only [pu]
  refine mix_start (B := V0.heap.size) (al := [⟨6, 4, 23, ((bv z32)).toArray⟩, ⟨7, 5, 23, ((bv z32)).toArray⟩]) (fuel := 8) rfl hHeld (hHeld.size) ?_
  clear hHeld
  refine mix_call (i := 1) (o := ⟨(some 9), _, _, _, _, _⟩) rfl (by kernel_rfl) (by kernel_rfl) (by kernel_rfl) (by kernel_rfl) (fun x hx => by simp only [List.mem_cons, List.not_mem_nil, or_false] at hx; rcases hx with rfl | rfl <;> first | exact makes_new rfl rfl rfl rfl zero_word) (fun W x _ h => h.alloc h.size _) (fun _ _ _ _ _ h => h) (fun X1 hHeld hBX K hK => ?_)
  go_simp
  refine (read_any _ (hlaV0.next hHeld) a (Hha.out)).mono ?_
  rintro e W1 ⟨x9, y9, o9, rfl, e9, h9, j9, hb1⟩
  refine hK.out _ _ (below_next hHeld hHeld.size hb1) hb1 ?_
  clear hK K hHeld hBX hb1
  try simp only [pu]
  refine mix_take (i := 2) (o := ⟨(some 7), _, _, _, _, _⟩) (v := ?vqV0_1_2) rfl (by kernel_rfl) (by kernel_rfl) (by kernel_rfl) (by kernel_rfl) (by kernel_rfl) (fun _ _ _ h => h) (Or.inl ⟨by rfl, ?yqV0_1_2⟩) ?_
  case yqV0_1_2 => (intro W0 hSw; go_simp; try with_reducible rfl)
  try simp only [pu]
  refine mix_take (i := 3) (o := ⟨(some 10), _, _, _, _, _⟩) (v := .agg (bv x9).toArray) rfl (by kernel_rfl) (by kernel_rfl) (by kernel_rfl) (by kernel_rfl) (by kernel_rfl) (fun _ _ _ h => h) (Or.inl ⟨by rfl, ?yqV0_1_3⟩) ?_
  case yqV0_1_3 => (intro W0 hSw; go_simp; try with_reducible rfl)
  try simp only [pu]
  refine mix_take (i := 4) (o := ⟨(some 11), _, _, _, _, _⟩) (v := .agg (bv y9).toArray) rfl (by kernel_rfl) (by kernel_rfl) (by kernel_rfl) (by kernel_rfl) (by kernel_rfl) (fun _ _ _ h => h) (Or.inl ⟨by rfl, ?yqV0_1_4⟩) ?_
  case yqV0_1_4 => (intro W0 hSw; go_simp; try with_reducible rfl)
  try simp only [pu]
  refine mix_take (i := 5) (o := ⟨(some 12), _, _, _, _, _⟩) (v := .bool o9) rfl (by kernel_rfl) (by kernel_rfl) (by kernel_rfl) (by kernel_rfl) (by kernel_rfl) (fun _ _ _ h => h) (Or.inl ⟨by rfl, ?yqV0_1_5⟩) ?_
  case yqV0_1_5 => (intro W0 hSw; go_simp; try with_reducible rfl)
  try simp only [pu]
  refine mix_end (by kernel_rfl) (by kernel_rfl) (by simp) (by simp) (fun x hx => by simp only [List.mem_cons, List.not_mem_nil, or_false] at hx; rcases hx with rfl | rfl <;> first | exact makes_new rfl rfl rfl rfl zero_word) (fun W x _ h => h.alloc h.size _) (fun D hD W2 hHeld hBX hHo => ?_)
  obtain ⟨G4, G5, rfl⟩ := v_two hD
  have xG4 : Hid (W2.heap[G4]? = some (.cells ((bv z32)).toArray 23 (0, 0))) := hHo.row (⟨6, 4, 23, ((bv z32)).toArray⟩, G4) (by simp)
  have lG4 : V0.heap.size ≤ G4 := hHo.new (⟨6, 4, 23, ((bv z32)).toArray⟩, G4) (by simp)
  have xG5 : Hid (W2.heap[G5]? = some (.cells ((bv z32)).toArray 23 (0, 0))) := hHo.row (⟨7, 5, 23, ((bv z32)).toArray⟩, G5) (by simp)
  have lG5 : V0.heap.size ≤ G5 := hHo.new (⟨7, 5, 23, ((bv z32)).toArray⟩, G5) (by simp)
  have hnd := hHo.nodup
  simp only [List.map_cons, List.map_nil, List.nodup_cons, List.mem_cons, List.not_mem_nil, or_false, not_false_eq_true, List.nodup_nil, and_true] at hnd
  have nG4G5 := hnd
  clear hnd
  clear hHo hBX hD
  simp only [markD, putD, List.foldr_cons, List.foldr_nil, pu, List.setIfInBounds_toArray, List.set_cons_zero, List.set_cons_succ]
  refine wpAnyH_ready (rs := [8]) (by kernel_rfl) (by simp) ?_
  refine AllReadyH.cons (i := 8) (o := ⟨none, _, _, _, _, _⟩) rfl (fun K hK => ?_) AllReadyH.nil
  refine step_row (by rfl) 23 (.tmp 4) (.tmp 10) rfl G4 (bv x9) rfl rfl 23 _ xG4.out (by rw [bv_len, h9.out]; kernel_rfl) (by rw [List.size_toArray, bv_len, bv_len, h9.out, z32_len]) (bv_one _) ?_
  intro W3 yG4 kG4
  have zG5 := row_but xG5 kG4 (by omega)
  clear xG5
  have xG5 := zG5
  clear zG5
  refine hK.out _ _ (But.below hHeld kG4 lG4 hHeld.size) (fun hHeld => ?_)
  clear hK K kG4 xG4
  have xG4 := yG4
  clear yG4
  try simp only [pu]
  refine wpAnyH_ready (rs := [9]) (by kernel_rfl) (by simp) ?_
  refine AllReadyH.cons (i := 9) (o := ⟨none, _, _, _, _, _⟩) rfl (fun K hK => ?_) AllReadyH.nil
  refine step_row (by rfl) 23 (.tmp 5) (.tmp 11) rfl G5 (bv y9) rfl rfl 23 _ xG5.out (by rw [bv_len, j9.out]; kernel_rfl) (by rw [List.size_toArray, bv_len, bv_len, j9.out, z32_len]) (bv_one _) ?_
  intro W4 yG5 kG5
  have zG4 := row_but xG4 kG5 (by omega)
  clear xG4
  have xG4 := zG4
  clear zG4
  refine hK.out _ _ (But.below hHeld kG5 lG5 hHeld.size) (fun hHeld => ?_)
  clear hK K kG5 xG5
  have xG5 := yG5
  clear yG5
  try simp only [pu]
  refine wpAnyH_take (i := 10) (oi := ⟨(some 6), _, _, _, _, _⟩) (v := ?vqV0_1_10) rfl (by kernel_rfl) (by kernel_rfl) (by kernel_rfl) (fun _ _ _ h => h) (Or.inl ⟨by rfl, ?yqV0_1_10⟩) hHeld ?_
  case yqV0_1_10 => (intro W0 hSw; go_simp; try with_reducible rfl)
  try simp only [pu]
  refine wpAnyH_done (by kernel_rfl) ?_ _
  obtain ⟨V1, rV1⟩ : ∃ X, X = W4 := ⟨_, rfl⟩
  subst rV1
  have gb0_V1 := row_next2 gb0_V0 hHeld
  have sb0_V1 := row_size gb0_V1
  have gb1_V1 := row_next2 gb1_V0 hHeld
  have sb1_V1 := row_size gb1_V1
  have hb_V1 := below_next hb_V0 hb_V0.size hHeld
  have hlaV1 := hlaV0.next hHeld
  have gn4_V1 := xG4
  have sn4_V1 := row_size gn4_V1
  clear xG4
  have gn5_V1 := xG5
  have sn5_V1 := row_size gn5_V1
  clear xG5
  have wG4 : w.heap.size + 2 ≤ G4 := by omega
  have wG5 : w.heap.size + 2 ≤ G5 := by omega
  clear hHeld hb_V0 sb0_V0 sb1_V0
  clear gb0_V0 gb1_V0 hlaV0 lG4 lG5
  rcases o9 with _ | _
  · have HF := vlt (show PoIs a z128 false from ⟨fun h => (by cases h), fun _ => (e9.out.2 rfl).2.2⟩)
    go_upto_region 3 with fail
    refine plain_start_c (S := fun W' => Below V1.heap.size V1 W') 1 (by kernel_rfl) (Below.refl _ _) (fun hHeld => ?_)
    refine c_take (i := 0) (oi := ⟨(some 15), _, _, _, _, _⟩) (v := _) rfl (by decide) (by kernel_rfl) (by kernel_rfl) (by kernel_rfl) (fun _ _ _ h => h) (yields_build (by rfl) _ _ rfl [] (by rfl) _ hbz) hHeld ?_
    try simp only [pu]
    refine c_call (S' := fun _ => True) (o := ⟨none, _, _, _, _, _⟩) (by kernel_rfl) (by kernel_rfl) rfl (fun K hK => ?_)
    have cb0_0 := row_next2 gb0_V1 hHeld
    have cb1_0 := row_next2 gb1_V1 hHeld
    have cn4_0 := row_next2 gn4_V1 hHeld
    have cn5_0 := row_next2 gn5_V1 hHeld
    have cb_0 := below_next hb_V1 hb_V1.size hHeld
    have cl_0 := hlaV1.next hHeld
    clear hHeld
    refine step_row (by rfl) 64 (.tmp 2) (.tmp 15) rfl (w.heap.size + 1) (bv z128) rfl rfl 64 _ cb1_0.out (by rw [bv_len, z128_len]; kernel_rfl) (by rw [List.size_toArray]) (bv_one _) ?_
    intro W5 cb1_1 kR
    refine hK.out _ _ trivial (fun hHeld => ?_)
    have cb0_1 := row_but cb0_0 kR (by omega)
    have cn4_1 := row_but cn4_0 kR (by omega)
    have cn5_1 := row_but cn5_0 kR (by omega)
    have cb_1 := But.below cb_0 kR (by omega) cb_0.size
    have cl_1 := cl_0.but (by omega) (by omega) kR
    clear hK K kR cb_0 cb0_0 cb1_0 cn4_0 cn5_0 cl_0
    try simp only [pu]
    refine wpAnyH_take (i := 2) (oi := ⟨(some 3), _, _, _, _, _⟩) (v := (Value.bool false)) rfl (by kernel_rfl) (by kernel_rfl) (by kernel_rfl) (fun _ _ _ h => h) (Or.inl ⟨by rfl, ?yqV1_2_2⟩) hHeld ?_
    case yqV1_2_2 => (intro W0 hSw; go_simp; try with_reducible rfl)
    try simp only [pu]
    refine wpAnyH_done (by kernel_rfl) ?_ _
    obtain ⟨V2, rV2⟩ : ∃ X, X = W5 := ⟨_, rfl⟩
    subst rV2
    have gb0_V2 := cb0_1
    have sb0_V2 := row_size gb0_V2
    have gb1_V2 := cb1_1
    have sb1_V2 := row_size gb1_V2
    have gn4_V2 := cn4_1
    have sn4_V2 := row_size gn4_V2
    have gn5_V2 := cn5_1
    have sn5_V2 := row_size gn5_V2
    have hb_V2 := cb_1
    have hlaV2 := cl_1
    clear hHeld cb_1 hb_V1 cl_1 hlaV1 cb0_1 cb1_1 cn4_1 cn5_1 sb0_V1 sb1_V1 sn4_V1 sn5_V1 gb0_V1 gb1_V1 gn4_V1 gn5_V1
    go_wp2_with fail
    refine bodyPost_ret (v := .tuple #[.agg (bv z128).toArray, .bool false]) (results_row_tmp Tryd.results33 _ _ (w.heap.size + 1) 64 _ (0, 0) _ rfl gb1_V2.out Tryd.underlying64 rfl (by rw [List.size_toArray, bv_len, z128_len]; kernel_rfl) _ rfl) rfl ⟨z128, false, rfl, HF, z128_len, hb_V2⟩
  · go_upto_region 4 with fail
    refine c_start (S := fun W' => Below V1.heap.size V1 W') 7 (by kernel_rfl) ((Below.refl _ _).drew) (fun hHeld => ?_)
    refine c_read (i := 0) (oi := ⟨(some 16), _, _, _, _, _⟩) (v := _) rfl (by decide) (by kernel_rfl) (by kernel_rfl) (by kernel_rfl) (by kernel_rfl) (by kernel_rfl) (fun _ _ _ h => h) (yieldsIf_load_mid (by rfl) _ _ rfl G4 0 rfl (bv x9) _ (fun W' hW' => range_row ((hW'.block _ sn4_V1).trans gn4_V1.out)) (Tryd.underlying23) rfl (by rw [bv_len, h9.out]; kernel_rfl)) hHeld ?_
    try simp only [pu]
    refine c_read (i := 1) (oi := ⟨(some 17), _, _, _, _, _⟩) (v := _) rfl (by decide) (by kernel_rfl) (by kernel_rfl) (by kernel_rfl) (by kernel_rfl) (by kernel_rfl) (fun _ _ _ h => h) (yieldsIf_load_mid (by rfl) _ _ rfl G5 0 rfl (bv y9) _ (fun W' hW' => range_row ((hW'.block _ sn5_V1).trans gn5_V1.out)) (Tryd.underlying23) rfl (by rw [bv_len, j9.out]; kernel_rfl)) hHeld ?_
    try simp only [pu]
    refine c_take (i := 2) (oi := ⟨(some 18), _, _, _, _, _⟩) (v := _) rfl (by decide) (by kernel_rfl) (by kernel_rfl) (by kernel_rfl) (fun _ _ _ h => h) (yields_build (by rfl) _ _ rfl [(0, .int .u8 1)] (by rfl) _ hb1) hHeld ?_
    try simp only [pu]
    refine c_read (i := 3) (oi := ⟨(some 19), _, _, _, _, _⟩) (v := _) rfl (by decide) (by kernel_rfl) (by kernel_rfl) (by kernel_rfl) (by kernel_rfl) (by kernel_rfl) (fun _ _ _ h => h) (yieldsIf_load_mid (by rfl) _ _ rfl G4 0 rfl (bv x9) _ (fun W' hW' => range_row ((hW'.block _ sn4_V1).trans gn4_V1.out)) (Tryd.underlying23) rfl (by rw [bv_len, h9.out]; kernel_rfl)) hHeld ?_
    try simp only [pu]
    refine c_read (i := 4) (oi := ⟨(some 20), _, _, _, _, _⟩) (v := _) rfl (by decide) (by kernel_rfl) (by kernel_rfl) (by kernel_rfl) (by kernel_rfl) (by kernel_rfl) (fun _ _ _ h => h) (yieldsIf_load_mid (by rfl) _ _ rfl G5 0 rfl (bv y9) _ (fun W' hW' => range_row ((hW'.block _ sn5_V1).trans gn5_V1.out)) (Tryd.underlying23) rfl (by rw [bv_len, j9.out]; kernel_rfl)) hHeld ?_
    try simp only [pu]
    refine c_step (i := 5) (o := ⟨(some 21), _, _, _, _, _⟩) (by kernel_rfl) rfl (fun K hK => ?_)
    go_simp
    refine (fmul_any _ x9 y9 (h9.out) (j9.out)).mono ?_
    rintro e W5 ⟨v21, rfl, e21, h21, hb5⟩
    refine hK.out _ _ (below_next hHeld hHeld.size hb5) (fun hHeld => ?_)
    clear hK K hb5
    try simp only [pu]
    obtain ⟨p6, ep6⟩ : ∃ p, p = x9 ++ (y9 ++ (ONE ++ (v21))) := ⟨_, rfl⟩
    have bp6 := built_place x9 y9 ONE v21 (h9.out) (j9.out) (HONE.out) (h21.out)
    rw [← ep6] at bp6
    have hp6 := Lib.hid (show p6.length = 128 by rw [ep6]; simp [h9.out, j9.out, HONE.out, h21.out])
    have vp6 := vlt ep6
    clear ep6
    refine c_take (i := 6) (oi := ⟨(some 22), _, _, _, _, _⟩) (v := _) rfl (by decide) (by kernel_rfl) (by kernel_rfl) (by kernel_rfl) (fun _ _ _ h => h) (yields_build (by rfl) _ _ rfl [(0, .agg (bv x9).toArray), (1, .agg (bv y9).toArray), (2, .agg (bv ONE).toArray), (3, .agg (bv v21).toArray)] (by rfl) _ bp6) hHeld ?_
    try simp only [pu]
    refine c_call (S' := fun _ => True) (o := ⟨none, _, _, _, _, _⟩) (by kernel_rfl) (by kernel_rfl) rfl (fun K hK => ?_)
    have cb0_0 := row_next2 gb0_V1 hHeld
    have cb1_0 := row_next2 gb1_V1 hHeld
    have cn4_0 := row_next2 gn4_V1 hHeld
    have cn5_0 := row_next2 gn5_V1 hHeld
    have cb_0 := below_next hb_V1 hb_V1.size hHeld
    have cl_0 := hlaV1.next hHeld
    clear hHeld
    refine step_row (by rfl) 64 (.tmp 2) (.tmp 22) rfl (w.heap.size + 1) (bv p6) rfl rfl 64 _ cb1_0.out (by rw [bv_len, hp6.out]; kernel_rfl) (by rw [List.size_toArray, bv_len, z128_len, bv_len, hp6.out]) (bv_one _) ?_
    intro W6 cb1_1 kR
    refine hK.out _ _ trivial (fun hHeld => ?_)
    have cb0_1 := row_but cb0_0 kR (by omega)
    have cn4_1 := row_but cn4_0 kR (by omega)
    have cn5_1 := row_but cn5_0 kR (by omega)
    have cb_1 := But.below cb_0 kR (by omega) cb_0.size
    have cl_1 := cl_0.but (by omega) (by omega) kR
    clear hK K kR cb_0 cb0_0 cb1_0 cn4_0 cn5_0 cl_0
    try simp only [pu]
    refine wpAnyH_take (i := 8) (oi := ⟨(some 3), _, _, _, _, _⟩) (v := (Value.bool true)) rfl (by kernel_rfl) (by kernel_rfl) (by kernel_rfl) (fun _ _ _ h => h) (Or.inl ⟨by rfl, ?yqV1_2_8⟩) hHeld ?_
    case yqV1_2_8 => (intro W0 hSw; go_simp; try with_reducible rfl)
    try simp only [pu]
    refine wpAnyH_done (by kernel_rfl) ?_ _
    obtain ⟨V2, rV2⟩ : ∃ X, X = W6 := ⟨_, rfl⟩
    subst rV2
    have gb0_V2 := cb0_1
    have sb0_V2 := row_size gb0_V2
    have gb1_V2 := cb1_1
    have sb1_V2 := row_size gb1_V2
    have gn4_V2 := cn4_1
    have sn4_V2 := row_size gn4_V2
    have gn5_V2 := cn5_1
    have sn5_V2 := row_size gn5_V2
    have hb_V2 := cb_1
    have hlaV2 := cl_1
    clear hHeld cb_1 hb_V1 cl_1 hlaV1 cb0_1 cb1_1 cn4_1 cn5_1 sb0_V1 sb1_V1 sn4_V1 sn5_V1 gb0_V1 gb1_V1 gn4_V1 gn5_V1
    have HF := vlt (show PoIs a p6 true from ⟨fun _ => ⟨(cW x9, cW y9), plE_four vp6.out h9.out j9.out HONE.out h21.out (by rw [H1.out, e21.out.1]; exact rep_one (cW x9, cW y9)) (e9.out.1 rfl).2.2.1, (e9.out.1 rfl).2.2⟩, fun h => (by cases h)⟩)
    go_wp2_with fail
    refine bodyPost_ret (v := .tuple #[.agg (bv p6).toArray, .bool true]) (results_row_tmp Tryd.results33 _ _ (w.heap.size + 1) 64 _ (0, 0) _ rfl gb1_V2.out Tryd.underlying64 rfl (by rw [List.size_toArray, bv_len, hp6.out]; kernel_rfl) _ rfl) rfl ⟨p6, true, rfl, HF, hp6, hb_V2⟩
set_option maxRecDepth 100000 in
set_option maxHeartbeats 4000000 in
theorem pgood_any (w : World) (hla : LaidP w) (a : List UInt8) (ha : a.length = 32) :
    Calls Tryd.prog 19 #[.agg (bv a).toArray] w fun e w' => ∃ ok, e = .returned (.bool ok) ∧ Vlt (GdIs a ok) ∧ Below w.heap.size w w' := by
  have hzw := zero_word
  obtain ⟨V0, hW, gb0_V0, hb_V0, hsW⟩ := one_new w (bv a).toArray 23
  have HW := Lib.hid hW
  have Hha := Lib.hid ha
  have sb0_V0 := row_size gb0_V0
  have hlaV0 := hla.next hb_V0
  have gl1 := hla.size
  have gl2 := hla.turn.2
  clear hla
  clear hW hsW ha
  go_enter Tryd.func19, Tryd.ntmps19
  go_upto_region 1 with fail
  rw [HW.out]
  refine plain_start (S := fun W' => Below V0.heap.size V0 W') (by kernel_rfl) (Below.refl _ _) (fun hHeld => ?_)
  refine wpAnyH_take (i := 0) (oi := ⟨(some 7), _, _, _, _, _⟩) (v := _) rfl (by kernel_rfl) (by kernel_rfl) (by kernel_rfl) (fun _ _ _ h => h) (yieldsIf_load_mid (by rfl) _ _ rfl (w.heap.size) 0 rfl (bv a) _ (fun W' hW' => range_row ((hW'.block _ sb0_V0).trans gb0_V0.out)) (Tryd.underlying23) rfl (by rw [bv_len, Hha.out]; kernel_rfl)) hHeld ?_
  try simp only [pu]
  refine mix_start (B := V0.heap.size) (al := [⟨6, 3, 23, ((bv z32)).toArray⟩, ⟨7, 4, 23, ((bv z32)).toArray⟩]) (fuel := 8) rfl hHeld (hHeld.size) ?_
  clear hHeld
  refine mix_call (i := 1) (o := ⟨(some 8), _, _, _, _, _⟩) rfl (by kernel_rfl) (by kernel_rfl) (by kernel_rfl) (by kernel_rfl) (fun x hx => by simp only [List.mem_cons, List.not_mem_nil, or_false] at hx; rcases hx with rfl | rfl <;> first | exact makes_new rfl rfl rfl rfl zero_word) (fun W x _ h => h.alloc h.size _) (fun _ _ _ _ _ h => h) (fun X1 hHeld hBX K hK => ?_)
  go_simp
  refine (read_any _ (hlaV0.next hHeld) a (Hha.out)).mono ?_
  rintro e W1 ⟨x8, y8, o8, rfl, e8, h8, j8, hb1⟩
  refine hK.out _ _ (below_next hHeld hHeld.size hb1) hb1 ?_
  clear hK K hHeld hBX hb1
  try simp only [pu]
  refine mix_take (i := 2) (o := ⟨(some 6), _, _, _, _, _⟩) (v := ?vqV0_1_2) rfl (by kernel_rfl) (by kernel_rfl) (by kernel_rfl) (by kernel_rfl) (by kernel_rfl) (fun _ _ _ h => h) (Or.inl ⟨by rfl, ?yqV0_1_2⟩) ?_
  case yqV0_1_2 => (intro W0 hSw; go_simp; try with_reducible rfl)
  try simp only [pu]
  refine mix_take (i := 3) (o := ⟨(some 9), _, _, _, _, _⟩) (v := .agg (bv x8).toArray) rfl (by kernel_rfl) (by kernel_rfl) (by kernel_rfl) (by kernel_rfl) (by kernel_rfl) (fun _ _ _ h => h) (Or.inl ⟨by rfl, ?yqV0_1_3⟩) ?_
  case yqV0_1_3 => (intro W0 hSw; go_simp; try with_reducible rfl)
  try simp only [pu]
  refine mix_take (i := 4) (o := ⟨(some 10), _, _, _, _, _⟩) (v := .agg (bv y8).toArray) rfl (by kernel_rfl) (by kernel_rfl) (by kernel_rfl) (by kernel_rfl) (by kernel_rfl) (fun _ _ _ h => h) (Or.inl ⟨by rfl, ?yqV0_1_4⟩) ?_
  case yqV0_1_4 => (intro W0 hSw; go_simp; try with_reducible rfl)
  try simp only [pu]
  refine mix_take (i := 5) (o := ⟨(some 11), _, _, _, _, _⟩) (v := .bool o8) rfl (by kernel_rfl) (by kernel_rfl) (by kernel_rfl) (by kernel_rfl) (by kernel_rfl) (fun _ _ _ h => h) (Or.inl ⟨by rfl, ?yqV0_1_5⟩) ?_
  case yqV0_1_5 => (intro W0 hSw; go_simp; try with_reducible rfl)
  try simp only [pu]
  refine mix_end (by kernel_rfl) (by kernel_rfl) (by simp) (by simp) (fun x hx => by simp only [List.mem_cons, List.not_mem_nil, or_false] at hx; rcases hx with rfl | rfl <;> first | exact makes_new rfl rfl rfl rfl zero_word) (fun W x _ h => h.alloc h.size _) (fun D hD W2 hHeld hBX hHo => ?_)
  obtain ⟨G3, G4, rfl⟩ := v_two hD
  have xG3 : Hid (W2.heap[G3]? = some (.cells ((bv z32)).toArray 23 (0, 0))) := hHo.row (⟨6, 3, 23, ((bv z32)).toArray⟩, G3) (by simp)
  have lG3 : V0.heap.size ≤ G3 := hHo.new (⟨6, 3, 23, ((bv z32)).toArray⟩, G3) (by simp)
  have xG4 : Hid (W2.heap[G4]? = some (.cells ((bv z32)).toArray 23 (0, 0))) := hHo.row (⟨7, 4, 23, ((bv z32)).toArray⟩, G4) (by simp)
  have lG4 : V0.heap.size ≤ G4 := hHo.new (⟨7, 4, 23, ((bv z32)).toArray⟩, G4) (by simp)
  have hnd := hHo.nodup
  simp only [List.map_cons, List.map_nil, List.nodup_cons, List.mem_cons, List.not_mem_nil, or_false, not_false_eq_true, List.nodup_nil, and_true] at hnd
  have nG3G4 := hnd
  clear hnd
  clear hHo hBX hD
  simp only [markD, putD, List.foldr_cons, List.foldr_nil, pu, List.setIfInBounds_toArray, List.set_cons_zero, List.set_cons_succ]
  refine wpAnyH_ready (rs := [8]) (by kernel_rfl) (by simp) ?_
  refine AllReadyH.cons (i := 8) (o := ⟨none, _, _, _, _, _⟩) rfl (fun K hK => ?_) AllReadyH.nil
  refine step_row (by rfl) 23 (.tmp 3) (.tmp 9) rfl G3 (bv x8) rfl rfl 23 _ xG3.out (by rw [bv_len, h8.out]; kernel_rfl) (by rw [List.size_toArray, bv_len, bv_len, h8.out, z32_len]) (bv_one _) ?_
  intro W3 yG3 kG3
  have zG4 := row_but xG4 kG3 (by omega)
  clear xG4
  have xG4 := zG4
  clear zG4
  refine hK.out _ _ (But.below hHeld kG3 lG3 hHeld.size) (fun hHeld => ?_)
  clear hK K kG3 xG3
  have xG3 := yG3
  clear yG3
  try simp only [pu]
  refine wpAnyH_ready (rs := [9]) (by kernel_rfl) (by simp) ?_
  refine AllReadyH.cons (i := 9) (o := ⟨none, _, _, _, _, _⟩) rfl (fun K hK => ?_) AllReadyH.nil
  refine step_row (by rfl) 23 (.tmp 4) (.tmp 10) rfl G4 (bv y8) rfl rfl 23 _ xG4.out (by rw [bv_len, j8.out]; kernel_rfl) (by rw [List.size_toArray, bv_len, bv_len, j8.out, z32_len]) (bv_one _) ?_
  intro W4 yG4 kG4
  have zG3 := row_but xG3 kG4 (by omega)
  clear xG3
  have xG3 := zG3
  clear zG3
  refine hK.out _ _ (But.below hHeld kG4 lG4 hHeld.size) (fun hHeld => ?_)
  clear hK K kG4 xG4
  have xG4 := yG4
  clear yG4
  try simp only [pu]
  refine wpAnyH_take (i := 10) (oi := ⟨(some 5), _, _, _, _, _⟩) (v := ?vqV0_1_10) rfl (by kernel_rfl) (by kernel_rfl) (by kernel_rfl) (fun _ _ _ h => h) (Or.inl ⟨by rfl, ?yqV0_1_10⟩) hHeld ?_
  case yqV0_1_10 => (intro W0 hSw; go_simp; try with_reducible rfl)
  try simp only [pu]
  refine wpAnyH_done (by kernel_rfl) ?_ _
  obtain ⟨V1, rV1⟩ : ∃ X, X = W4 := ⟨_, rfl⟩
  subst rV1
  have gb0_V1 := row_next2 gb0_V0 hHeld
  have sb0_V1 := row_size gb0_V1
  have hb_V1 := below_next hb_V0 hb_V0.size hHeld
  have hlaV1 := hlaV0.next hHeld
  have gn3_V1 := xG3
  have sn3_V1 := row_size gn3_V1
  clear xG3
  have gn4_V1 := xG4
  have sn4_V1 := row_size gn4_V1
  clear xG4
  have wG3 : w.heap.size + 1 ≤ G3 := by omega
  have wG4 : w.heap.size + 1 ≤ G4 := by omega
  clear hHeld hb_V0 sb0_V0
  clear gb0_V0 hlaV0 lG3 lG4
  have HF := vlt (show GdIs a o8 by
    rcases o8 with _ | _
    · exact ⟨none, (e8.out.2 rfl).2.2, rfl⟩
    · exact ⟨some _, (e8.out.1 rfl).2.2, rfl⟩)
  go_wp2
  go_ret
  exact ⟨o8, rfl, HF, hb_V1⟩
set_option maxRecDepth 100000 in
set_option maxHeartbeats 4000000 in
theorem padd_any (w : World) (hla : LaidP w) (a b : List UInt8) (ha : a.length = 32) (hb : b.length = 32) :
    Calls Tryd.prog 22 #[.agg (bv a).toArray, .agg (bv b).toArray] w fun e w' => ∃ l k, e = .returned (.tuple #[.agg (bv l).toArray, .int .i64 k]) ∧ Vlt (AdIs a b l k) ∧ Hid (l.length = 32) ∧ Below w.heap.size w w' := by
  have hzw := zero_word
  have hzp := zero_place
  have hbz := built_z32
  obtain ⟨V0, hW, gb0_V0, gb1_V0, gb2_V0, hb_V0, hsW⟩ := three_new w (bv a).toArray (bv b).toArray (bv z32).toArray 23 23 23
  have HW := Lib.hid hW
  have Hha := Lib.hid ha
  have Hhb := Lib.hid hb
  have sb0_V0 := row_size gb0_V0
  have sb1_V0 := row_size gb1_V0
  have sb2_V0 := row_size gb2_V0
  have hlaV0 := hla.next hb_V0
  have gl1 := hla.size
  have gl2 := hla.turn.2
  clear hla
  clear hW hsW ha hb
  go_enter Tryd.func22, Tryd.ntmps22
  go_upto_region 1 with fail
  rw [HW.out]
  refine plain_start (S := fun W' => Below V0.heap.size V0 W') (by kernel_rfl) (Below.refl _ _) (fun hHeld => ?_)
  refine wpAnyH_take (i := 0) (oi := ⟨(some 11), _, _, _, _, _⟩) (v := _) rfl (by kernel_rfl) (by kernel_rfl) (by kernel_rfl) (fun _ _ _ h => h) (yieldsIf_load_mid (by rfl) _ _ rfl (w.heap.size) 0 rfl (bv a) _ (fun W' hW' => range_row ((hW'.block _ sb0_V0).trans gb0_V0.out)) (Tryd.underlying23) rfl (by rw [bv_len, Hha.out]; kernel_rfl)) hHeld ?_
  try simp only [pu]
  refine mix_start (B := V0.heap.size) (al := [⟨5, 6, 64, ((bv z128)).toArray⟩]) (fuel := 6) rfl hHeld (hHeld.size) ?_
  clear hHeld
  refine mix_call (i := 1) (o := ⟨(some 12), _, _, _, _, _⟩) rfl (by kernel_rfl) (by kernel_rfl) (by kernel_rfl) (by kernel_rfl) (fun x hx => by simp only [List.mem_cons, List.not_mem_nil, or_false] at hx; rcases hx with rfl <;> first | exact makes_new rfl rfl rfl rfl zero_place) (fun W x _ h => h.alloc h.size _) (fun _ _ _ _ _ h => h) (fun X1 hHeld hBX K hK => ?_)
  go_simp
  refine (placeOf_any _ (hlaV0.next hHeld) a (Hha.out)).mono ?_
  rintro e W1 ⟨v12, o12, rfl, e12, h12, hb1⟩
  refine hK.out _ _ (below_next hHeld hHeld.size hb1) hb1 ?_
  clear hK K hHeld hBX hb1
  try simp only [pu]
  refine mix_take (i := 2) (o := ⟨(some 10), _, _, _, _, _⟩) (v := ?vqV0_1_2) rfl (by kernel_rfl) (by kernel_rfl) (by kernel_rfl) (by kernel_rfl) (by kernel_rfl) (fun _ _ _ h => h) (Or.inl ⟨by rfl, ?yqV0_1_2⟩) ?_
  case yqV0_1_2 => (intro W0 hSw; go_simp; try with_reducible rfl)
  try simp only [pu]
  refine mix_take (i := 3) (o := ⟨(some 13), _, _, _, _, _⟩) (v := .agg (bv v12).toArray) rfl (by kernel_rfl) (by kernel_rfl) (by kernel_rfl) (by kernel_rfl) (by kernel_rfl) (fun _ _ _ h => h) (Or.inl ⟨by rfl, ?yqV0_1_3⟩) ?_
  case yqV0_1_3 => (intro W0 hSw; go_simp; try with_reducible rfl)
  try simp only [pu]
  refine mix_take (i := 4) (o := ⟨(some 14), _, _, _, _, _⟩) (v := .bool o12) rfl (by kernel_rfl) (by kernel_rfl) (by kernel_rfl) (by kernel_rfl) (by kernel_rfl) (fun _ _ _ h => h) (Or.inl ⟨by rfl, ?yqV0_1_4⟩) ?_
  case yqV0_1_4 => (intro W0 hSw; go_simp; try with_reducible rfl)
  try simp only [pu]
  refine mix_end (by kernel_rfl) (by kernel_rfl) (by simp) (by simp) (fun x hx => by simp only [List.mem_cons, List.not_mem_nil, or_false] at hx; rcases hx with rfl <;> first | exact makes_new rfl rfl rfl rfl zero_place) (fun W x _ h => h.alloc h.size _) (fun D hD W2 hHeld hBX hHo => ?_)
  obtain ⟨G6, rfl⟩ := v_one hD
  have xG6 : Hid (W2.heap[G6]? = some (.cells ((bv z128)).toArray 64 (0, 0))) := hHo.row (⟨5, 6, 64, ((bv z128)).toArray⟩, G6) (by simp)
  have lG6 : V0.heap.size ≤ G6 := hHo.new (⟨5, 6, 64, ((bv z128)).toArray⟩, G6) (by simp)
  clear hHo hBX hD
  simp only [markD, putD, List.foldr_cons, List.foldr_nil, pu, List.setIfInBounds_toArray, List.set_cons_zero, List.set_cons_succ]
  refine wpAnyH_ready (rs := [6]) (by kernel_rfl) (by simp) ?_
  refine AllReadyH.cons (i := 6) (o := ⟨none, _, _, _, _, _⟩) rfl (fun K hK => ?_) AllReadyH.nil
  refine step_row (by rfl) 64 (.tmp 6) (.tmp 13) rfl G6 (bv v12) rfl rfl 64 _ xG6.out (by rw [bv_len, h12.out]; kernel_rfl) (by rw [List.size_toArray, bv_len, bv_len, h12.out, z128_len]) (bv_one _) ?_
  intro W3 yG6 kG6
  refine hK.out _ _ (But.below hHeld kG6 lG6 hHeld.size) (fun hHeld => ?_)
  clear hK K kG6 xG6
  have xG6 := yG6
  clear yG6
  try simp only [pu]
  refine wpAnyH_take (i := 7) (oi := ⟨(some 7), _, _, _, _, _⟩) (v := ?vqV0_1_7) rfl (by kernel_rfl) (by kernel_rfl) (by kernel_rfl) (fun _ _ _ h => h) (Or.inl ⟨by rfl, ?yqV0_1_7⟩) hHeld ?_
  case yqV0_1_7 => (intro W0 hSw; go_simp; try with_reducible rfl)
  try simp only [pu]
  refine wpAnyH_done (by kernel_rfl) ?_ _
  obtain ⟨V1, rV1⟩ : ∃ X, X = W3 := ⟨_, rfl⟩
  subst rV1
  have gb0_V1 := row_next2 gb0_V0 hHeld
  have sb0_V1 := row_size gb0_V1
  have gb1_V1 := row_next2 gb1_V0 hHeld
  have sb1_V1 := row_size gb1_V1
  have gb2_V1 := row_next2 gb2_V0 hHeld
  have sb2_V1 := row_size gb2_V1
  have hb_V1 := below_next hb_V0 hb_V0.size hHeld
  have hlaV1 := hlaV0.next hHeld
  have gn6_V1 := xG6
  have sn6_V1 := row_size gn6_V1
  clear xG6
  have wG6 : w.heap.size + 3 ≤ G6 := by omega
  clear hHeld hb_V0 sb0_V0 sb1_V0 sb2_V0
  clear gb0_V0 gb1_V0 gb2_V0 hlaV0 lG6
  go_upto_region 2 with fail
  refine plain_start (S := fun W' => Below V1.heap.size V1 W') (by kernel_rfl) (Below.refl _ _) (fun hHeld => ?_)
  refine wpAnyH_take (i := 0) (oi := ⟨(some 16), _, _, _, _, _⟩) (v := _) rfl (by kernel_rfl) (by kernel_rfl) (by kernel_rfl) (fun _ _ _ h => h) (yieldsIf_load_mid (by rfl) _ _ rfl (w.heap.size + 1) 0 rfl (bv b) _ (fun W' hW' => range_row ((hW'.block _ sb1_V1).trans gb1_V1.out)) (Tryd.underlying23) rfl (by rw [bv_len, Hhb.out]; kernel_rfl)) hHeld ?_
  try simp only [pu]
  refine mix_start (B := V1.heap.size) (al := [⟨5, 8, 64, ((bv z128)).toArray⟩]) (fuel := 6) rfl hHeld (hHeld.size) ?_
  clear hHeld
  refine mix_call (i := 1) (o := ⟨(some 17), _, _, _, _, _⟩) rfl (by kernel_rfl) (by kernel_rfl) (by kernel_rfl) (by kernel_rfl) (fun x hx => by simp only [List.mem_cons, List.not_mem_nil, or_false] at hx; rcases hx with rfl <;> first | exact makes_new rfl rfl rfl rfl zero_place) (fun W x _ h => h.alloc h.size _) (fun _ _ _ _ _ h => h) (fun X4 hHeld hBX K hK => ?_)
  go_simp
  refine (placeOf_any _ (hlaV1.next hHeld) b (Hhb.out)).mono ?_
  rintro e W4 ⟨v17, o17, rfl, e17, h17, hb4⟩
  refine hK.out _ _ (below_next hHeld hHeld.size hb4) hb4 ?_
  clear hK K hHeld hBX hb4
  try simp only [pu]
  refine mix_take (i := 2) (o := ⟨(some 15), _, _, _, _, _⟩) (v := ?vqV1_2_2) rfl (by kernel_rfl) (by kernel_rfl) (by kernel_rfl) (by kernel_rfl) (by kernel_rfl) (fun _ _ _ h => h) (Or.inl ⟨by rfl, ?yqV1_2_2⟩) ?_
  case yqV1_2_2 => (intro W0 hSw; go_simp; try with_reducible rfl)
  try simp only [pu]
  refine mix_take (i := 3) (o := ⟨(some 18), _, _, _, _, _⟩) (v := .agg (bv v17).toArray) rfl (by kernel_rfl) (by kernel_rfl) (by kernel_rfl) (by kernel_rfl) (by kernel_rfl) (fun _ _ _ h => h) (Or.inl ⟨by rfl, ?yqV1_2_3⟩) ?_
  case yqV1_2_3 => (intro W0 hSw; go_simp; try with_reducible rfl)
  try simp only [pu]
  refine mix_take (i := 4) (o := ⟨(some 19), _, _, _, _, _⟩) (v := .bool o17) rfl (by kernel_rfl) (by kernel_rfl) (by kernel_rfl) (by kernel_rfl) (by kernel_rfl) (fun _ _ _ h => h) (Or.inl ⟨by rfl, ?yqV1_2_4⟩) ?_
  case yqV1_2_4 => (intro W0 hSw; go_simp; try with_reducible rfl)
  try simp only [pu]
  refine mix_end (by kernel_rfl) (by kernel_rfl) (by simp) (by simp) (fun x hx => by simp only [List.mem_cons, List.not_mem_nil, or_false] at hx; rcases hx with rfl <;> first | exact makes_new rfl rfl rfl rfl zero_place) (fun W x _ h => h.alloc h.size _) (fun D hD W5 hHeld hBX hHo => ?_)
  obtain ⟨G8, rfl⟩ := v_one hD
  have xG8 : Hid (W5.heap[G8]? = some (.cells ((bv z128)).toArray 64 (0, 0))) := hHo.row (⟨5, 8, 64, ((bv z128)).toArray⟩, G8) (by simp)
  have lG8 : V1.heap.size ≤ G8 := hHo.new (⟨5, 8, 64, ((bv z128)).toArray⟩, G8) (by simp)
  clear hHo hBX hD
  simp only [markD, putD, List.foldr_cons, List.foldr_nil, pu, List.setIfInBounds_toArray, List.set_cons_zero, List.set_cons_succ]
  refine wpAnyH_ready (rs := [6]) (by kernel_rfl) (by simp) ?_
  refine AllReadyH.cons (i := 6) (o := ⟨none, _, _, _, _, _⟩) rfl (fun K hK => ?_) AllReadyH.nil
  refine step_row (by rfl) 64 (.tmp 8) (.tmp 18) rfl G8 (bv v17) rfl rfl 64 _ xG8.out (by rw [bv_len, h17.out]; kernel_rfl) (by rw [List.size_toArray, bv_len, bv_len, h17.out, z128_len]) (bv_one _) ?_
  intro W6 yG8 kG8
  refine hK.out _ _ (But.below hHeld kG8 lG8 hHeld.size) (fun hHeld => ?_)
  clear hK K kG8 xG8
  have xG8 := yG8
  clear yG8
  try simp only [pu]
  refine wpAnyH_take (i := 7) (oi := ⟨(some 9), _, _, _, _, _⟩) (v := ?vqV1_2_7) rfl (by kernel_rfl) (by kernel_rfl) (by kernel_rfl) (fun _ _ _ h => h) (Or.inl ⟨by rfl, ?yqV1_2_7⟩) hHeld ?_
  case yqV1_2_7 => (intro W0 hSw; go_simp; try with_reducible rfl)
  try simp only [pu]
  refine wpAnyH_done (by kernel_rfl) ?_ _
  obtain ⟨V2, rV2⟩ : ∃ X, X = W6 := ⟨_, rfl⟩
  subst rV2
  have gb0_V2 := row_next2 gb0_V1 hHeld
  have sb0_V2 := row_size gb0_V2
  have gb1_V2 := row_next2 gb1_V1 hHeld
  have sb1_V2 := row_size gb1_V2
  have gb2_V2 := row_next2 gb2_V1 hHeld
  have sb2_V2 := row_size gb2_V2
  have gn6_V2 := row_next2 gn6_V1 hHeld
  have sn6_V2 := row_size gn6_V2
  have hb_V2 := below_next hb_V1 hb_V1.size hHeld
  have hlaV2 := hlaV1.next hHeld
  have gn8_V2 := xG8
  have sn8_V2 := row_size gn8_V2
  clear xG8
  have wG8 : w.heap.size + 3 ≤ G8 := by omega
  have nG6G8 : G6 ≠ G8 := by omega
  clear hHeld hb_V1 sb0_V1 sb1_V1 sb2_V1 sn6_V1
  clear gb0_V1 gb1_V1 gb2_V1 gn6_V1 hlaV1 lG8
  rcases o12 with _ | _
  · have HB : Vlt (∃ p, PtIs b p) := vlt (by rcases o17 with _ | _; exact ⟨none, e17.out.2 rfl⟩; obtain ⟨Q, _, h⟩ := e17.out.1 rfl; exact ⟨some Q, h⟩)
    have HF := vlt (show AdIs a b z32 3 by
      obtain ⟨p, hp⟩ := HB.out
      exact ⟨none, p, e12.out.2 rfl, hp, rfl, rfl⟩)
    go_upto_region 4 with fail
    refine plain_start_c (S := fun W' => Below V2.heap.size V2 W') 1 (by kernel_rfl) (Below.refl _ _) (fun hHeld => ?_)
    refine c_take (i := 0) (oi := ⟨(some 26), _, _, _, _, _⟩) (v := _) rfl (by decide) (by kernel_rfl) (by kernel_rfl) (by kernel_rfl) (fun _ _ _ h => h) (yields_build (by rfl) _ _ rfl [] (by rfl) _ hbz) hHeld ?_
    try simp only [pu]
    refine c_call (S' := fun _ => True) (o := ⟨none, _, _, _, _, _⟩) (by kernel_rfl) (by kernel_rfl) rfl (fun K hK => ?_)
    have cb0_0 := row_next2 gb0_V2 hHeld
    have cb1_0 := row_next2 gb1_V2 hHeld
    have cb2_0 := row_next2 gb2_V2 hHeld
    have cn6_0 := row_next2 gn6_V2 hHeld
    have cn8_0 := row_next2 gn8_V2 hHeld
    have cb_0 := below_next hb_V2 hb_V2.size hHeld
    have cl_0 := hlaV2.next hHeld
    clear hHeld
    refine step_row (by rfl) 23 (.tmp 4) (.tmp 26) rfl (w.heap.size + 2) (bv z32) rfl rfl 23 _ cb2_0.out (by rw [bv_len, z32_len]; kernel_rfl) (by rw [List.size_toArray]) (bv_one _) ?_
    intro W7 cb2_1 kR
    refine hK.out _ _ trivial (fun hHeld => ?_)
    have cb0_1 := row_but cb0_0 kR (by omega)
    have cb1_1 := row_but cb1_0 kR (by omega)
    have cn6_1 := row_but cn6_0 kR (by omega)
    have cn8_1 := row_but cn8_0 kR (by omega)
    have cb_1 := But.below cb_0 kR (by omega) cb_0.size
    have cl_1 := cl_0.but (by omega) (by omega) kR
    clear hK K kR cb_0 cb0_0 cb1_0 cb2_0 cn6_0 cn8_0 cl_0
    try simp only [pu]
    refine wpAnyH_take (i := 2) (oi := ⟨(some 5), _, _, _, _, _⟩) (v := (Value.int IntKind.i64 3)) rfl (by kernel_rfl) (by kernel_rfl) (by kernel_rfl) (fun _ _ _ h => h) (Or.inl ⟨by rfl, ?yqV2_3_2⟩) hHeld ?_
    case yqV2_3_2 => (intro W0 hSw; go_simp; try with_reducible rfl)
    try simp only [pu]
    refine wpAnyH_done (by kernel_rfl) ?_ _
    obtain ⟨V3, rV3⟩ : ∃ X, X = W7 := ⟨_, rfl⟩
    subst rV3
    have gb0_V3 := cb0_1
    have sb0_V3 := row_size gb0_V3
    have gb1_V3 := cb1_1
    have sb1_V3 := row_size gb1_V3
    have gb2_V3 := cb2_1
    have sb2_V3 := row_size gb2_V3
    have gn6_V3 := cn6_1
    have sn6_V3 := row_size gn6_V3
    have gn8_V3 := cn8_1
    have sn8_V3 := row_size gn8_V3
    have hb_V3 := cb_1
    have hlaV3 := cl_1
    clear hHeld cb_1 hb_V2 cl_1 hlaV2 cb0_1 cb1_1 cb2_1 cn6_1 cn8_1 sb0_V2 sb1_V2 sb2_V2 sn6_V2 sn8_V2 gb0_V2 gb1_V2 gb2_V2 gn6_V2 gn8_V2
    go_wp2_with fail
    refine bodyPost_ret (v := .tuple #[.agg (bv z32).toArray, .int .i64 3]) (results_row_tmp Tryd.results22 _ _ (w.heap.size + 2) 23 _ (0, 0) _ rfl gb2_V3.out Tryd.underlying23 rfl (by rw [List.size_toArray, bv_len, z32_len]; kernel_rfl) _ rfl) rfl ⟨z32, 3, rfl, HF, z32_len, hb_V3⟩
  · rcases o17 with _ | _
    · have HF := vlt (show AdIs a b z32 3 by
        obtain ⟨P, _, h⟩ := e12.out.1 rfl
        exact ⟨some P, none, h, e17.out.2 rfl, rfl, rfl⟩)
      go_upto_region 4 with fail
      refine plain_start_c (S := fun W' => Below V2.heap.size V2 W') 1 (by kernel_rfl) (Below.refl _ _) (fun hHeld => ?_)
      refine c_take (i := 0) (oi := ⟨(some 26), _, _, _, _, _⟩) (v := _) rfl (by decide) (by kernel_rfl) (by kernel_rfl) (by kernel_rfl) (fun _ _ _ h => h) (yields_build (by rfl) _ _ rfl [] (by rfl) _ hbz) hHeld ?_
      try simp only [pu]
      refine c_call (S' := fun _ => True) (o := ⟨none, _, _, _, _, _⟩) (by kernel_rfl) (by kernel_rfl) rfl (fun K hK => ?_)
      have cb0_0 := row_next2 gb0_V2 hHeld
      have cb1_0 := row_next2 gb1_V2 hHeld
      have cb2_0 := row_next2 gb2_V2 hHeld
      have cn6_0 := row_next2 gn6_V2 hHeld
      have cn8_0 := row_next2 gn8_V2 hHeld
      have cb_0 := below_next hb_V2 hb_V2.size hHeld
      have cl_0 := hlaV2.next hHeld
      clear hHeld
      refine step_row (by rfl) 23 (.tmp 4) (.tmp 26) rfl (w.heap.size + 2) (bv z32) rfl rfl 23 _ cb2_0.out (by rw [bv_len, z32_len]; kernel_rfl) (by rw [List.size_toArray]) (bv_one _) ?_
      intro W7 cb2_1 kR
      refine hK.out _ _ trivial (fun hHeld => ?_)
      have cb0_1 := row_but cb0_0 kR (by omega)
      have cb1_1 := row_but cb1_0 kR (by omega)
      have cn6_1 := row_but cn6_0 kR (by omega)
      have cn8_1 := row_but cn8_0 kR (by omega)
      have cb_1 := But.below cb_0 kR (by omega) cb_0.size
      have cl_1 := cl_0.but (by omega) (by omega) kR
      clear hK K kR cb_0 cb0_0 cb1_0 cb2_0 cn6_0 cn8_0 cl_0
      try simp only [pu]
      refine wpAnyH_take (i := 2) (oi := ⟨(some 5), _, _, _, _, _⟩) (v := (Value.int IntKind.i64 3)) rfl (by kernel_rfl) (by kernel_rfl) (by kernel_rfl) (fun _ _ _ h => h) (Or.inl ⟨by rfl, ?yqV2_3_2⟩) hHeld ?_
      case yqV2_3_2 => (intro W0 hSw; go_simp; try with_reducible rfl)
      try simp only [pu]
      refine wpAnyH_done (by kernel_rfl) ?_ _
      obtain ⟨V3, rV3⟩ : ∃ X, X = W7 := ⟨_, rfl⟩
      subst rV3
      have gb0_V3 := cb0_1
      have sb0_V3 := row_size gb0_V3
      have gb1_V3 := cb1_1
      have sb1_V3 := row_size gb1_V3
      have gb2_V3 := cb2_1
      have sb2_V3 := row_size gb2_V3
      have gn6_V3 := cn6_1
      have sn6_V3 := row_size gn6_V3
      have gn8_V3 := cn8_1
      have sn8_V3 := row_size gn8_V3
      have hb_V3 := cb_1
      have hlaV3 := cl_1
      clear hHeld cb_1 hb_V2 cl_1 hlaV2 cb0_1 cb1_1 cb2_1 cn6_1 cn8_1 sb0_V2 sb1_V2 sb2_V2 sn6_V2 sn8_V2 gb0_V2 gb1_V2 gb2_V2 gn6_V2 gn8_V2
      go_wp2_with fail
      refine bodyPost_ret (v := .tuple #[.agg (bv z32).toArray, .int .i64 3]) (results_row_tmp Tryd.results22 _ _ (w.heap.size + 2) 23 _ (0, 0) _ rfl gb2_V3.out Tryd.underlying23 rfl (by rw [List.size_toArray, bv_len, z32_len]; kernel_rfl) _ rfl) rfl ⟨z32, 3, rfl, HF, z32_len, hb_V3⟩
    · obtain ⟨P, hP, hPa⟩ := e12.out.1 rfl
      obtain ⟨R, hR, hRb⟩ := e17.out.1 rfl
      have HP := vlt hP
      have HR := vlt hR
      have HPa := vlt hPa
      have HRb := vlt hRb
      clear hP hR hPa hRb e12 e17
      go_upto_region 5 with fail
      refine plain_start_c (S := fun W' => Below V2.heap.size V2 W') 4 (by kernel_rfl) (Below.refl _ _) (fun hHeld => ?_)
      refine c_read (i := 0) (oi := ⟨(some 27), _, _, _, _, _⟩) (v := _) rfl (by decide) (by kernel_rfl) (by kernel_rfl) (by kernel_rfl) (by kernel_rfl) (by kernel_rfl) (fun _ _ _ h => h) (yieldsIf_load_mid (by rfl) _ _ rfl G6 0 rfl (bv v12) _ (fun W' hW' => range_row ((hW'.block _ sn6_V2).trans gn6_V2.out)) (Tryd.underlying64) rfl (by rw [bv_len, h12.out]; kernel_rfl)) hHeld ?_
      try simp only [pu]
      refine c_read (i := 1) (oi := ⟨(some 28), _, _, _, _, _⟩) (v := _) rfl (by decide) (by kernel_rfl) (by kernel_rfl) (by kernel_rfl) (by kernel_rfl) (by kernel_rfl) (fun _ _ _ h => h) (yieldsIf_load_mid (by rfl) _ _ rfl G8 0 rfl (bv v17) _ (fun W' hW' => range_row ((hW'.block _ sn8_V2).trans gn8_V2.out)) (Tryd.underlying64) rfl (by rw [bv_len, h17.out]; kernel_rfl)) hHeld ?_
      try simp only [pu]
      refine c_step (i := 2) (o := ⟨(some 29), _, _, _, _, _⟩) (by kernel_rfl) rfl (fun K hK => ?_)
      go_simp
      refine (pplus_any _ (hlaV2.next hHeld) v12 v17 (h12.out) (HP.out) (h17.out) (HR.out)).mono ?_
      rintro e W7 ⟨v29, rfl, e29, h29, hb7⟩
      refine hK.out _ _ (below_next hHeld hHeld.size hb7) (fun hHeld => ?_)
      clear hK K hb7
      try simp only [pu]
      refine c_step (i := 3) (o := ⟨(some 30), _, _, _, _, _⟩) (by kernel_rfl) rfl (fun K hK => ?_)
      go_simp
      refine (ptold_any _ v29 (h29.out) (e29.out)).mono ?_
      rintro e W8 ⟨v30, rfl, e30, h30, hb8⟩
      refine hK.out _ _ (below_next hHeld hHeld.size hb8) (fun hHeld => ?_)
      clear hK K hb8
      try simp only [pu]
      refine c_call (S' := fun _ => True) (o := ⟨none, _, _, _, _, _⟩) (by kernel_rfl) (by kernel_rfl) rfl (fun K hK => ?_)
      have cb0_0 := row_next2 gb0_V2 hHeld
      have cb1_0 := row_next2 gb1_V2 hHeld
      have cb2_0 := row_next2 gb2_V2 hHeld
      have cn6_0 := row_next2 gn6_V2 hHeld
      have cn8_0 := row_next2 gn8_V2 hHeld
      have cb_0 := below_next hb_V2 hb_V2.size hHeld
      have cl_0 := hlaV2.next hHeld
      clear hHeld
      refine step_row (by rfl) 23 (.tmp 4) (.tmp 30) rfl (w.heap.size + 2) (bv v30) rfl rfl 23 _ cb2_0.out (by rw [bv_len, h30.out]; kernel_rfl) (by rw [List.size_toArray, bv_len, z32_len, bv_len, h30.out]) (bv_one _) ?_
      intro W9 cb2_1 kR
      refine hK.out _ _ trivial (fun hHeld => ?_)
      have cb0_1 := row_but cb0_0 kR (by omega)
      have cb1_1 := row_but cb1_0 kR (by omega)
      have cn6_1 := row_but cn6_0 kR (by omega)
      have cn8_1 := row_but cn8_0 kR (by omega)
      have cb_1 := But.below cb_0 kR (by omega) cb_0.size
      have cl_1 := cl_0.but (by omega) (by omega) kR
      clear hK K kR cb_0 cb0_0 cb1_0 cb2_0 cn6_0 cn8_0 cl_0
      try simp only [pu]
      refine wpAnyH_take (i := 5) (oi := ⟨(some 5), _, _, _, _, _⟩) (v := (Value.int IntKind.i64 0)) rfl (by kernel_rfl) (by kernel_rfl) (by kernel_rfl) (fun _ _ _ h => h) (Or.inl ⟨by rfl, ?yqV2_3_5⟩) hHeld ?_
      case yqV2_3_5 => (intro W0 hSw; go_simp; try with_reducible rfl)
      try simp only [pu]
      refine wpAnyH_done (by kernel_rfl) ?_ _
      obtain ⟨V3, rV3⟩ : ∃ X, X = W9 := ⟨_, rfl⟩
      subst rV3
      have gb0_V3 := cb0_1
      have sb0_V3 := row_size gb0_V3
      have gb1_V3 := cb1_1
      have sb1_V3 := row_size gb1_V3
      have gb2_V3 := cb2_1
      have sb2_V3 := row_size gb2_V3
      have gn6_V3 := cn6_1
      have sn6_V3 := row_size gn6_V3
      have gn8_V3 := cn8_1
      have sn8_V3 := row_size gn8_V3
      have hb_V3 := cb_1
      have hlaV3 := cl_1
      clear hHeld cb_1 hb_V2 cl_1 hlaV2 cb0_1 cb1_1 cb2_1 cn6_1 cn8_1 sb0_V2 sb1_V2 sb2_V2 sn6_V2 sn8_V2 gb0_V2 gb1_V2 gb2_V2 gn6_V2 gn8_V2
      have HF := vlt (show AdIs a b v30 0 from ⟨some P, some R, HPa.out, HRb.out, e30.out, rfl⟩)
      go_wp2_with fail
      refine bodyPost_ret (v := .tuple #[.agg (bv v30).toArray, .int .i64 0]) (results_row_tmp Tryd.results22 _ _ (w.heap.size + 2) 23 _ (0, 0) _ rfl gb2_V3.out Tryd.underlying23 rfl (by rw [List.size_toArray, bv_len, h30.out]; kernel_rfl) _ rfl) rfl ⟨v30, 0, rfl, HF, h30, hb_V3⟩
end Go.Proofs.YtcefdcjpddohaaaDoor
