/-
  Words and contracts that other texts share, several in one text. No statement of the seat is proved here. Conditions: as each contract says.
  Contracts of point's times, Mul. Conditions: the packages' own numbers lie as the program's text lays them.
  Contracts of point's Mul, Zero, Base. Conditions: Mul's: the packages' own numbers lie as the program's text lays them.
  Contracts of scalar's step, numberOf and longOf. Conditions: words of 32 and of 64 bytes.
  Contract of scalar's times. Conditions: pieces below 2^64.
-/
import Derived.Test.YtcefdcjpddohaaaDoorPkG
import Derived.Test.YtcefdcjpddohaaaDoorPkH
import Derived.Test.YtcefdcjpddohaaaDoorPkI
import Derived.Test.YtcefdcjpddohaaaDoorPkD
import Derived.Test.YtcefdcjpddohaaaDoorPkB
import Derived.Test.YtcefdcjpddohaaaDoorPkF
namespace Go.Proofs.YtcefdcjpddohaaaDoor
open Go.RowKit

theorem low_15 (c d : Nat) (hc : c < 256) (hd : d = c % 16) : bits .and .u8 (c : Int) 15 = (d : Int) := by
  have h : ∀ c < 256, bits .and .u8 ((c : Nat) : Int) 15 = ((c % 16 : Nat) : Int) := by decide +kernel
  rw [hd]; exact h c hc
theorem times_step {P : PtE} (h : OnP P) (m j : Nat) : addE (mulE 16 (mulE m P)) (mulE j P) = mulE (m * 16 + j) P := by
  rw [← mulE_mul h, ← mulE_add h]
theorem ln_drop (n : List UInt8) (j : Nat) (b : UInt8) (h : n[j]? = some b) : ln (n.drop j) = b.toNat + 256 * ln (n.drop (j + 1)) := by
  obtain ⟨hj, he⟩ := List.getElem?_eq_some_iff.1 h
  rw [List.drop_eq_getElem_cons hj, he, ln]
set_option maxRecDepth 100000 in
set_option maxHeartbeats 4000000 in
theorem ptimes_any (w : World) (hla : LaidP w) (p n : List UInt8) {P : PtE} (hp : p.length = 128) (hPl : PlE p P) (hn : n.length = 32) :
    Calls Tryd.prog 34 #[.agg (bv p).toArray, .agg (bv n).toArray] w fun e w' => ∃ p, e = .returned (.agg (bv p).toArray) ∧ Vlt (PlE p (mulE (ln n) P)) ∧ Hid (p.length = 128) ∧ Below w.heap.size w w' := by
  have hzp := zero_place
  have hzr := zero_rows
  have HP := vlt hPl
  obtain ⟨ZR, dZ⟩ : ∃ r, r = z2048 := ⟨_, rfl⟩
  have HZR := Lib.hid (show ZR.length = 2048 by rw [dZ]; exact z2048_len)
  rw [← dZ] at hzr
  clear hPl dZ
  obtain ⟨V0, hW, gb0_V0, gb1_V0, gb2_V0, hb_V0, hsW⟩ := three_new w (bv p).toArray (bv n).toArray (bv z128).toArray 64 23 64
  have HW := Lib.hid hW
  have Hhp := Lib.hid hp
  have Hhn := Lib.hid hn
  have sb0_V0 := row_size gb0_V0
  have sb1_V0 := row_size gb1_V0
  have sb2_V0 := row_size gb2_V0
  have hlaV0 := hla.next hb_V0
  have gl1 := hla.size
  have gl2 := hla.turn.2
  clear hla
  clear hW hsW hp hn
  go_enter Tryd.func34, Tryd.ntmps34
  go_upto_region 1 with fail
  rw [HW.out]
  refine plain_start (S := fun W' => Below V0.heap.size V0 W') (by kernel_rfl) (Below.refl _ _) (fun hHeld => ?_)
  refine wpAnyH_take (i := 0) (oi := ⟨(some 8), _, _, _, _, _⟩) (v := _) rfl (by kernel_rfl) (by kernel_rfl) (by kernel_rfl) (fun _ _ _ h => h) (yieldsIf_load_mid (by rfl) _ _ rfl (w.heap.size) 0 rfl (bv p) _ (fun W' hW' => range_row ((hW'.block _ sb0_V0).trans gb0_V0.out)) (Tryd.underlying64) rfl (by rw [bv_len, Hhp.out]; kernel_rfl)) hHeld ?_
  try simp only [pu]
  refine mix_start (B := V0.heap.size) (al := [⟨2, 5, 87, ((bv ZR)).toArray⟩]) (fuel := 2) rfl hHeld (hHeld.size) ?_
  clear hHeld
  refine mix_call (i := 1) (o := ⟨(some 9), _, _, _, _, _⟩) rfl (by kernel_rfl) (by kernel_rfl) (by kernel_rfl) (by kernel_rfl) (fun x hx => by simp only [List.mem_cons, List.not_mem_nil, or_false] at hx; rcases hx with rfl <;> first | exact makes_new rfl rfl rfl rfl hzr) (fun W x _ h => h.alloc h.size _) (fun _ _ _ _ _ h => h) (fun X1 hHeld hBX K hK => ?_)
  go_simp
  refine (multiples_any _ (hlaV0.next hHeld) p (Hhp.out) (HP.out)).mono ?_
  rintro e W1 ⟨v9, rfl, e9, h9, hb1⟩
  refine hK.out _ _ (below_next hHeld hHeld.size hb1) hb1 ?_
  clear hK K hHeld hBX hb1
  try simp only [pu]
  refine mix_end (by kernel_rfl) (by kernel_rfl) (by simp) (by simp) (fun x hx => by simp only [List.mem_cons, List.not_mem_nil, or_false] at hx; rcases hx with rfl <;> first | exact makes_new rfl rfl rfl rfl hzr) (fun W x _ h => h.alloc h.size _) (fun D hD W2 hHeld hBX hHo => ?_)
  obtain ⟨G5, rfl⟩ := v_one hD
  have xG5 : Hid (W2.heap[G5]? = some (.cells ((bv ZR)).toArray 87 (0, 0))) := hHo.row (⟨2, 5, 87, ((bv ZR)).toArray⟩, G5) (by simp)
  have lG5 : V0.heap.size ≤ G5 := hHo.new (⟨2, 5, 87, ((bv ZR)).toArray⟩, G5) (by simp)
  clear hHo hBX hD
  simp only [markD, putD, List.foldr_cons, List.foldr_nil, pu, List.setIfInBounds_toArray, List.set_cons_zero, List.set_cons_succ]
  refine wpAnyH_ready (rs := [3]) (by kernel_rfl) (by simp) ?_
  refine AllReadyH.cons (i := 3) (o := ⟨none, _, _, _, _, _⟩) rfl (fun K hK => ?_) AllReadyH.nil
  refine step_row (by rfl) 87 (.tmp 5) (.tmp 9) rfl G5 (bv v9) rfl rfl 87 _ xG5.out (by rw [bv_len, h9.out]; kernel_rfl) (by rw [List.size_toArray, bv_len, bv_len, h9.out, HZR.out]) (bv_one _) ?_
  intro W3 yG5 kG5
  refine hK.out _ _ (But.below hHeld kG5 lG5 hHeld.size) (fun hHeld => ?_)
  clear hK K kG5 xG5
  have xG5 := yG5
  clear yG5
  try simp only [pu]
  refine wpAnyH_done (by kernel_rfl) ?_ _
  obtain ⟨V1, rV1⟩ : ∃ X, X = W3 := ⟨_, rfl⟩
  subst rV1
  have gb0_V1 := row_next2 gb0_V0 hHeld
  have sb0_V1 := row_size gb0_V1
  have gb1_V1 := row_next2 gb1_V0 hHeld
  have sb1_V1 := row_size gb1_V1
  have gb2_V1 := row_next2 gb2_V0 hHeld
  have sb2_V1 := row_size gb2_V1
  have hb_V1 := below_next hb_V0 hb_V0.size hHeld
  have hlaV1 := hlaV0.next hHeld
  have gn5_V1 := xG5
  have sn5_V1 := row_size gn5_V1
  clear xG5
  have wG5 : w.heap.size + 3 ≤ G5 := by omega
  clear hHeld hb_V0 sb0_V0 sb1_V0 sb2_V0
  clear gb0_V0 gb1_V0 gb2_V0 hlaV0 lG5
  go_upto_region 2 with fail
  refine plain_start (S := fun W' => Below V1.heap.size V1 W') (by kernel_rfl) (Below.refl _ _) (fun hHeld => ?_)
  refine mix_start (B := V1.heap.size) (al := [⟨1, 6, 64, ((bv z128)).toArray⟩]) (fuel := 2) rfl hHeld (hHeld.size) ?_
  clear hHeld
  refine mix_call (i := 0) (o := ⟨(some 10), _, _, _, _, _⟩) rfl (by kernel_rfl) (by kernel_rfl) (by kernel_rfl) (by kernel_rfl) (fun x hx => by simp only [List.mem_cons, List.not_mem_nil, or_false] at hx; rcases hx with rfl <;> first | exact makes_new rfl rfl rfl rfl zero_place) (fun W x _ h => h.alloc h.size _) (fun _ _ _ _ _ h => h) (fun X4 hHeld hBX K hK => ?_)
  go_simp
  refine (zeroPlace_any _  ).mono ?_
  rintro e W4 ⟨v10, rfl, e10, h10, hb4⟩
  refine hK.out _ _ (below_next hHeld hHeld.size hb4) hb4 ?_
  clear hK K hHeld hBX hb4
  try simp only [pu]
  refine mix_end (by kernel_rfl) (by kernel_rfl) (by simp) (by simp) (fun x hx => by simp only [List.mem_cons, List.not_mem_nil, or_false] at hx; rcases hx with rfl <;> first | exact makes_new rfl rfl rfl rfl zero_place) (fun W x _ h => h.alloc h.size _) (fun D hD W5 hHeld hBX hHo => ?_)
  obtain ⟨G6, rfl⟩ := v_one hD
  have xG6 : Hid (W5.heap[G6]? = some (.cells ((bv z128)).toArray 64 (0, 0))) := hHo.row (⟨1, 6, 64, ((bv z128)).toArray⟩, G6) (by simp)
  have lG6 : V1.heap.size ≤ G6 := hHo.new (⟨1, 6, 64, ((bv z128)).toArray⟩, G6) (by simp)
  clear hHo hBX hD
  simp only [markD, putD, List.foldr_cons, List.foldr_nil, pu, List.setIfInBounds_toArray, List.set_cons_zero, List.set_cons_succ]
  refine wpAnyH_ready (rs := [2]) (by kernel_rfl) (by simp) ?_
  refine AllReadyH.cons (i := 2) (o := ⟨none, _, _, _, _, _⟩) rfl (fun K hK => ?_) AllReadyH.nil
  refine step_row (by rfl) 64 (.tmp 6) (.tmp 10) rfl G6 (bv v10) rfl rfl 64 _ xG6.out (by rw [bv_len, h10.out]; kernel_rfl) (by rw [List.size_toArray, bv_len, bv_len, h10.out, z128_len]) (bv_one _) ?_
  intro W6 yG6 kG6
  refine hK.out _ _ (But.below hHeld kG6 lG6 hHeld.size) (fun hHeld => ?_)
  clear hK K kG6 xG6
  have xG6 := yG6
  clear yG6
  try simp only [pu]
  refine wpAnyH_done (by kernel_rfl) ?_ _
  obtain ⟨V2, rV2⟩ : ∃ X, X = W6 := ⟨_, rfl⟩
  subst rV2
  have gb0_V2 := row_next2 gb0_V1 hHeld
  have sb0_V2 := row_size gb0_V2
  have gb1_V2 := row_next2 gb1_V1 hHeld
  have sb1_V2 := row_size gb1_V2
  have gb2_V2 := row_next2 gb2_V1 hHeld
  have sb2_V2 := row_size gb2_V2
  have gn5_V2 := row_next2 gn5_V1 hHeld
  have sn5_V2 := row_size gn5_V2
  have hb_V2 := below_next hb_V1 hb_V1.size hHeld
  have hlaV2 := hlaV1.next hHeld
  have gn6_V2 := xG6
  have sn6_V2 := row_size gn6_V2
  clear xG6
  have wG6 : w.heap.size + 3 ≤ G6 := by omega
  have nG5G6 : G5 ≠ G6 := by omega
  clear hHeld hb_V1 sb0_V1 sb1_V1 sb2_V1 sn5_V1
  clear gb0_V1 gb1_V1 gb2_V1 gn5_V1 hlaV1 lG6
  have HO := vlt HP.out.on
  have HM : Vlt (MuRow v9 P 15) := e9
  have HZ := vlt (show PlE v10 (mulE (ln (n.drop 32)) P) by rw [e10.out, List.drop_eq_nil_of_le (by rw [Hhn.out]; exact Nat.le_refl _)]; exact zP_is)
  clear HW e9 e10
  go_wp2_with fail
  go_loopw [7] (fun s wr => ∃ (k : Nat) (q : List UInt8), k ≤ 32 ∧ s = .int .i64 ((k : Int) - 1) ∧ Hid (wr.heap[G6]? = some (.cells (bv q).toArray 64 (0, 0))) ∧ Hid (q.length = 128) ∧ Vlt (PlE q (mulE (ln (n.drop k)) P)) ∧ But G6 V2 wr) (fun s _ => ((intOf s) + 1).toNat)
  case atStart => exact ⟨32, v10, by omega, rfl, gn6_V2, h10, HZ, But.refl _ _⟩
  case round =>
    obtain ⟨k, q, hk, rfl, hg, hl, hM, hbt⟩ := hrel
    by_cases hk0 : 0 < k
    · obtain ⟨j, rfl⟩ : ∃ j, k = j + 1 := ⟨k - 1, by omega⟩
      have ej : ((j + 1 : Nat) : Int) - 1 = (j : Int) := by omega
      rw [ej]
      obtain ⟨c, hc, hcn⟩ : ∃ c, c < 256 ∧ n[j]? = some (UInt8.ofNat c) := by
        have hj : j < n.length := by rw [Hhn.out]; omega
        exact ⟨(n[j]).toNat, UInt8.toNat_lt _, by rw [UInt8.ofNat_toNat]; exact List.getElem?_eq_getElem hj⟩
      have hln := ln_drop n j _ hcn
      rw [UInt8.toNat_ofNat', show (2 : Nat) ^ 8 = 256 by decide, Nat.mod_eq_of_lt hc] at hln
      have HLN := vlt hln
      have sG := row_size hg
      have gN := row_but gb1_V2 hbt (by omega)
      have gR := row_but gn5_V2 hbt (by omega)
      have sN := row_size gN
      have sR := row_size gR
      have hla1 := hlaV2.but (by omega) (by omega) hbt
      have cN : wr.cell? ⟨w.heap.size + 1, j, none⟩ = some (.int .u8 (c : Int)) := by
        have h := byte_cell gN.out hcn
        rwa [UInt8.toNat_ofNat', show (2 : Nat) ^ 8 = 256 by decide, Nat.mod_eq_of_lt hc] at h
      obtain ⟨d, hd⟩ : ∃ d, d = c / 16 := ⟨_, rfl⟩
      obtain ⟨f, hf⟩ : ∃ f, f = c % 16 := ⟨_, rfl⟩
      have ed : (c : Int) / 16 = (d : Int) := by omega
      have ef := low_15 c f hc hf
      have hcd := vlt (show c = d * 16 + f by omega)
      have qd : (d : Int) < 16 := by omega
      have qf : (f : Int) < 16 := by omega
      have qj : (j : Int) < 32 := by omega
      have q0 : (0 : Int) ≤ (j : Int) := by omega
      have HD := vlt (HM.out d (by omega))
      have HF := vlt (HM.out f (by omega))
      have HLD := Lib.hid (sub_len v9 (d * 128) 128 (by rw [h9.out]; omega))
      have HLF := Lib.hid (sub_len v9 (f * 128) 128 (by rw [h9.out]; omega))
      clear hcn hln hd hf ej
      generalize HMM : ln (n.drop (j + 1)) = m at hM HLN
      clear HMM
      go_upto_region 6 with fail
      refine c_start (S := fun W' => Below wr.heap.size wr W') 9 (by kernel_rfl) ((Below.refl _ _).drew) (fun hHeld => ?_)
      refine c_read (i := 0) (oi := ⟨(some 15), _, _, _, _, _⟩) (v := _) rfl (by decide) (by kernel_rfl) (by kernel_rfl) (by kernel_rfl) (by kernel_rfl) (by kernel_rfl) (fun _ _ _ h => h) (yieldsIf_load_mid (by rfl) _ _ rfl G6 0 rfl (bv q) _ (fun W' hW' => range_row ((hW'.block _ sG).trans hg.out)) (Tryd.underlying64) rfl (by rw [bv_len, hl.out]; kernel_rfl)) hHeld ?_
      try simp only [pu]
      refine c_take (i := 2) (oi := ⟨(some 17), _, _, _, _, _⟩) (v := ?vh3_2) rfl (by decide) (by kernel_rfl) (by kernel_rfl) (by kernel_rfl) (fun _ _ _ h => h) (Or.inl ⟨by rfl, ?yh3_2⟩) hHeld ?_
      case yh3_2 => (intro W0 hSw; go_simp; try with_reducible rfl)
      try simp only [pu]
      refine c_take (i := 3) (oi := ⟨(some 18), _, _, _, _, _⟩) (v := .pointer (some ⟨w.heap.size + 1, j, none⟩)) rfl (by decide) (by kernel_rfl) (by kernel_rfl) (by kernel_rfl) (fun _ _ _ h => h) (Or.inl ⟨by rfl, ?yh3_3⟩) hHeld ?_
      case yh3_3 => (intro W0 hSw; go_simp; try with_reducible rfl)
      try simp only [pu]
      refine c_read (i := 4) (oi := ⟨(some 19), _, _, _, _, _⟩) (v := .int .u8 (c : Int)) rfl (by decide) (by kernel_rfl) (by kernel_rfl) (by kernel_rfl) (by kernel_rfl) (by kernel_rfl) (fun _ _ _ h => h) (Or.inl ⟨by rfl, ?yc15⟩) hHeld ?_
      case yc15 => (intro W0 hSw; have hcc := (World.cell?_of_block (hSw.block _ sN)).trans cN; go_simp; try with_reducible rfl)
      try simp only [pu]
      refine c_take (i := 5) (oi := ⟨(some 20), _, _, _, _, _⟩) (v := .int .u8 (d : Int)) rfl (by decide) (by kernel_rfl) (by kernel_rfl) (by kernel_rfl) (fun _ _ _ h => h) (Or.inl ⟨by rfl, ?yh3_5⟩) hHeld ?_
      case yh3_5 => (intro W0 hSw; go_simp; try with_reducible rfl)
      try simp only [pu]
      refine c_take (i := 6) (oi := ⟨(some 21), _, _, _, _, _⟩) (v := .pointer (some ⟨G5, d * 128, none⟩)) rfl (by decide) (by kernel_rfl) (by kernel_rfl) (by kernel_rfl) (fun _ _ _ h => h) (Or.inl ⟨by rfl, ?yh3_6⟩) hHeld ?_
      case yh3_6 => (intro W0 hSw; go_simp; try with_reducible rfl)
      try simp only [pu]
      refine c_read (i := 7) (oi := ⟨(some 22), _, _, _, _, _⟩) (v := _) rfl (by decide) (by kernel_rfl) (by kernel_rfl) (by kernel_rfl) (by kernel_rfl) (by kernel_rfl) (fun _ _ _ h => h) (yieldsIf_load_mid (by rfl) _ _ rfl G5 (d * 128) rfl (bv (sub v9 (d * 128) 128)) _ (fun W' hW' => range_sub ((hW'.block _ sR).trans gR.out)) (Tryd.underlying64) rfl (by rw [bv_len, HLD.out]; kernel_rfl)) hHeld ?_
      try simp only [pu]
      refine c_step (i := 1) (o := ⟨(some 16), _, _, _, _, _⟩) (by kernel_rfl) rfl (fun K hK => ?_)
      go_simp
      refine (sixteen_any _ q hl.out hM.out).mono ?_
      rintro e W7 ⟨v16, rfl, e16, h16, hb16⟩
      refine hK.out _ _ (below_next hHeld hHeld.size hb16) (fun hHeld => ?_)
      clear hK K hb16
      try simp only [pu]
      refine c_step (i := 8) (o := ⟨(some 23), _, _, _, _, _⟩) (by kernel_rfl) rfl (fun K hK => ?_)
      go_simp
      refine (pplus_any _ (hla1.next hHeld) v16 (sub v9 (d * 128) 128) h16.out e16.out HLD.out HD.out).mono ?_
      rintro e W8 ⟨v23, rfl, e23, h23, hb23⟩
      refine hK.out _ _ (below_next hHeld hHeld.size hb23) (fun hHeld => ?_)
      clear hK K hb23
      try simp only [pu]
      refine c_call (S' := fun _ => True) (o := ⟨none, _, _, _, _, _⟩) (by kernel_rfl) (by kernel_rfl) rfl (fun K hK => ?_)
      have zg := row_next2 hg hHeld
      have zo := But.of_below (g := G6) hHeld (Nat.le_refl _)
      clear hHeld
      refine step_row (by rfl) 64 (.tmp 6) (.tmp 23) rfl G6 (bv v23) rfl rfl 64 _ zg.out (by rw [bv_len, h23.out]; kernel_rfl) (by rw [List.size_toArray, bv_len, bv_len, h23.out, hl.out]) (bv_one _) ?_
      intro X6 hg15 kR
      have hB15 := zo.trans kR
      refine hK.out _ _ trivial (fun _ => ?_)
      clear hK K zg zo kR
      try simp only [pu]
      refine wpAnyH_done (by kernel_rfl) ?_ _
      have hP15 := vlt (show PlE v23 (mulE (m * 16 + d) P) by rw [← times_step HO.out]; exact e23.out)
      clear e16 e23 hM
      have sG6 := row_size hg15
      have gN6 := row_but gN hB15 (by omega)
      have gR6 := row_but gR hB15 (by omega)
      have sN6 := row_size gN6
      have sR6 := row_size gR6
      have hla6 := hla1.but (by omega) (by omega) hB15
      have cN6 : X6.cell? ⟨w.heap.size + 1, j, none⟩ = some (.int .u8 (c : Int)) := (World.cell?_of_block (hB15.block _ sN (fun e => by injection e with e; have e2 : w.heap.size + 1 = G6 := e; omega))).trans cN
      go_upto_region 7 with fail
      refine c_start (S := fun W' => Below X6.heap.size X6 W') 9 (by kernel_rfl) ((Below.refl _ _).drew) (fun hHeld => ?_)
      refine c_read (i := 0) (oi := ⟨(some 24), _, _, _, _, _⟩) (v := _) rfl (by decide) (by kernel_rfl) (by kernel_rfl) (by kernel_rfl) (by kernel_rfl) (by kernel_rfl) (fun _ _ _ h => h) (yieldsIf_load_mid (by rfl) _ _ rfl G6 0 rfl (bv v23) _ (fun W' hW' => range_row ((hW'.block _ sG6).trans hg15.out)) (Tryd.underlying64) rfl (by rw [bv_len, h23.out]; kernel_rfl)) hHeld ?_
      try simp only [pu]
      refine c_take (i := 2) (oi := ⟨(some 26), _, _, _, _, _⟩) (v := ?vh4_2) rfl (by decide) (by kernel_rfl) (by kernel_rfl) (by kernel_rfl) (fun _ _ _ h => h) (Or.inl ⟨by rfl, ?yh4_2⟩) hHeld ?_
      case yh4_2 => (intro W0 hSw; go_simp; try with_reducible rfl)
      try simp only [pu]
      refine c_take (i := 3) (oi := ⟨(some 27), _, _, _, _, _⟩) (v := .pointer (some ⟨w.heap.size + 1, j, none⟩)) rfl (by decide) (by kernel_rfl) (by kernel_rfl) (by kernel_rfl) (fun _ _ _ h => h) (Or.inl ⟨by rfl, ?yh4_3⟩) hHeld ?_
      case yh4_3 => (intro W0 hSw; go_simp; try with_reducible rfl)
      try simp only [pu]
      refine c_read (i := 4) (oi := ⟨(some 28), _, _, _, _, _⟩) (v := .int .u8 (c : Int)) rfl (by decide) (by kernel_rfl) (by kernel_rfl) (by kernel_rfl) (by kernel_rfl) (by kernel_rfl) (fun _ _ _ h => h) (Or.inl ⟨by rfl, ?yc24⟩) hHeld ?_
      case yc24 => (intro W0 hSw; have hcc := (World.cell?_of_block (hSw.block _ sN6)).trans cN6; go_simp; try with_reducible rfl)
      try simp only [pu]
      refine c_take (i := 5) (oi := ⟨(some 29), _, _, _, _, _⟩) (v := .int .u8 (f : Int)) rfl (by decide) (by kernel_rfl) (by kernel_rfl) (by kernel_rfl) (fun _ _ _ h => h) (Or.inl ⟨by rfl, ?yh4_5⟩) hHeld ?_
      case yh4_5 => (intro W0 hSw; go_simp; try with_reducible rfl)
      try simp only [pu]
      refine c_take (i := 6) (oi := ⟨(some 30), _, _, _, _, _⟩) (v := .pointer (some ⟨G5, f * 128, none⟩)) rfl (by decide) (by kernel_rfl) (by kernel_rfl) (by kernel_rfl) (fun _ _ _ h => h) (Or.inl ⟨by rfl, ?yh4_6⟩) hHeld ?_
      case yh4_6 => (intro W0 hSw; go_simp; try with_reducible rfl)
      try simp only [pu]
      refine c_read (i := 7) (oi := ⟨(some 31), _, _, _, _, _⟩) (v := _) rfl (by decide) (by kernel_rfl) (by kernel_rfl) (by kernel_rfl) (by kernel_rfl) (by kernel_rfl) (fun _ _ _ h => h) (yieldsIf_load_mid (by rfl) _ _ rfl G5 (f * 128) rfl (bv (sub v9 (f * 128) 128)) _ (fun W' hW' => range_sub ((hW'.block _ sR6).trans gR6.out)) (Tryd.underlying64) rfl (by rw [bv_len, HLF.out]; kernel_rfl)) hHeld ?_
      try simp only [pu]
      refine c_step (i := 1) (o := ⟨(some 25), _, _, _, _, _⟩) (by kernel_rfl) rfl (fun K hK => ?_)
      go_simp
      refine (sixteen_any _ v23 h23.out hP15.out).mono ?_
      rintro e W9 ⟨v25, rfl, e25, h25, hb25⟩
      refine hK.out _ _ (below_next hHeld hHeld.size hb25) (fun hHeld => ?_)
      clear hK K hb25
      try simp only [pu]
      refine c_step (i := 8) (o := ⟨(some 32), _, _, _, _, _⟩) (by kernel_rfl) rfl (fun K hK => ?_)
      go_simp
      refine (pplus_any _ (hla6.next hHeld) v25 (sub v9 (f * 128) 128) h25.out e25.out HLF.out HF.out).mono ?_
      rintro e W10 ⟨v32, rfl, e32, h32, hb32⟩
      refine hK.out _ _ (below_next hHeld hHeld.size hb32) (fun hHeld => ?_)
      clear hK K hb32
      try simp only [pu]
      refine c_call (S' := fun _ => True) (o := ⟨none, _, _, _, _, _⟩) (by kernel_rfl) (by kernel_rfl) rfl (fun K hK => ?_)
      have zg := row_next2 hg15 hHeld
      have zo := But.of_below (g := G6) hHeld (Nat.le_refl _)
      clear hHeld
      refine step_row (by rfl) 64 (.tmp 6) (.tmp 32) rfl G6 (bv v32) rfl rfl 64 _ zg.out (by rw [bv_len, h32.out]; kernel_rfl) (by rw [List.size_toArray, bv_len, bv_len, h32.out, h23.out]) (bv_one _) ?_
      intro X7 hg24 kR
      have hB24 := zo.trans kR
      refine hK.out _ _ trivial (fun _ => ?_)
      clear hK K zg zo kR
      try simp only [pu]
      refine wpAnyH_done (by kernel_rfl) ?_ _
      have hP24 := vlt (show PlE v32 (mulE (ln (n.drop j)) P) by rw [HLN.out, hcd.out, show d * 16 + f + 256 * m = (m * 16 + d) * 16 + f by omega, ← times_step HO.out]; exact e32.out)
      have hBt := (hbt.trans hB15).trans hB24
      clear cN cN6 ed ef
      go_wp2
      go_roundw
      case rel => exact ⟨j, v32, by omega, by go_num, hg24, h32, hP24, hBt⟩
      case measure => simp [intOf]
    · obtain rfl : k = 0 := by omega
      have g1 := row_but gb2_V2 hbt (by omega)
      have hbw := But.below hb_V2 hbt (by omega) hb_V2.size
      rw [List.drop_zero] at hM
      go_wp2_with (first
        | (with_reducible refine wpList_load_row rfl 64 (.tmp 6) rfl G6 rfl 64 (bv q).toArray (0, 0) _ hg.out Tryd.underlying64 rfl (by rw [List.size_toArray, bv_len, hl.out]; kernel_rfl) ?_)
        | (with_reducible refine wpList_store_row rfl 64 (.tmp 4) (.tmp 33) rfl (w.heap.size + 2) (bv q).toArray rfl rfl 64 _ g1.out (by rw [List.size_toArray, bv_len, hl.out]; kernel_rfl) (by rw [List.size_toArray, List.size_toArray, bv_len, bv_len, hl.out, z128_len]) (all_oneCell_toArray (bv_one _)) ?_))
      refine bodyPost_ret (v := .agg (bv q).toArray) (results_cell_row Tryd.results34 _ _ (w.heap.size + 2) 64 _ (0, 0) _ rfl (setRow_heap _ _ _ _ _ _ g1.out) Tryd.underlying64 rfl (by rw [List.size_toArray, bv_len, hl.out]; kernel_rfl)) rfl ⟨q, rfl, hM, hl, below_setRow hbw (by omega) _⟩
end Go.Proofs.YtcefdcjpddohaaaDoor
namespace Go.Proofs.YtcefdcjpddohaaaDoor
open Go.RowKit

set_option maxRecDepth 100000 in
set_option maxHeartbeats 4000000 in
theorem pmul_any (w : World) (hla : LaidP w) (n a : List UInt8) (hn : n.length = 32) (ha : a.length = 32) :
    Calls Tryd.prog 21 #[.agg (bv n).toArray, .agg (bv a).toArray] w fun e w' => ∃ l k, e = .returned (.tuple #[.agg (bv l).toArray, .int .i64 k]) ∧ Vlt (MuIs (ln n) a l k) ∧ Hid (l.length = 32) ∧ Below w.heap.size w w' := by
  have hzw := zero_word
  have hzp := zero_place
  have hbz := built_z32
  obtain ⟨V0, hW, gb0_V0, gb1_V0, gb2_V0, hb_V0, hsW⟩ := three_new w (bv n).toArray (bv a).toArray (bv z32).toArray 23 23 23
  have HW := Lib.hid hW
  have Hhn := Lib.hid hn
  have Hha := Lib.hid ha
  have sb0_V0 := row_size gb0_V0
  have sb1_V0 := row_size gb1_V0
  have sb2_V0 := row_size gb2_V0
  have hlaV0 := hla.next hb_V0
  have gl1 := hla.size
  have gl2 := hla.turn.2
  clear hla
  clear hW hsW hn ha
  go_enter Tryd.func21, Tryd.ntmps21
  go_upto_region 1 with fail
  rw [HW.out]
  refine plain_start (S := fun W' => Below V0.heap.size V0 W') (by kernel_rfl) (Below.refl _ _) (fun hHeld => ?_)
  refine wpAnyH_take (i := 0) (oi := ⟨(some 9), _, _, _, _, _⟩) (v := _) rfl (by kernel_rfl) (by kernel_rfl) (by kernel_rfl) (fun _ _ _ h => h) (yieldsIf_load_mid (by rfl) _ _ rfl (w.heap.size + 1) 0 rfl (bv a) _ (fun W' hW' => range_row ((hW'.block _ sb1_V0).trans gb1_V0.out)) (Tryd.underlying23) rfl (by rw [bv_len, Hha.out]; kernel_rfl)) hHeld ?_
  try simp only [pu]
  refine mix_start (B := V0.heap.size) (al := [⟨5, 6, 64, ((bv z128)).toArray⟩]) (fuel := 6) rfl hHeld (hHeld.size) ?_
  clear hHeld
  refine mix_call (i := 1) (o := ⟨(some 10), _, _, _, _, _⟩) rfl (by kernel_rfl) (by kernel_rfl) (by kernel_rfl) (by kernel_rfl) (fun x hx => by simp only [List.mem_cons, List.not_mem_nil, or_false] at hx; rcases hx with rfl <;> first | exact makes_new rfl rfl rfl rfl zero_place) (fun W x _ h => h.alloc h.size _) (fun _ _ _ _ _ h => h) (fun X1 hHeld hBX K hK => ?_)
  go_simp
  refine (placeOf_any _ (hlaV0.next hHeld) a (Hha.out)).mono ?_
  rintro e W1 ⟨v10, o10, rfl, e10, h10, hb1⟩
  refine hK.out _ _ (below_next hHeld hHeld.size hb1) hb1 ?_
  clear hK K hHeld hBX hb1
  try simp only [pu]
  refine mix_take (i := 2) (o := ⟨(some 8), _, _, _, _, _⟩) (v := ?vqV0_1_2) rfl (by kernel_rfl) (by kernel_rfl) (by kernel_rfl) (by kernel_rfl) (by kernel_rfl) (fun _ _ _ h => h) (Or.inl ⟨by rfl, ?yqV0_1_2⟩) ?_
  case yqV0_1_2 => (intro W0 hSw; go_simp; try with_reducible rfl)
  try simp only [pu]
  refine mix_take (i := 3) (o := ⟨(some 11), _, _, _, _, _⟩) (v := .agg (bv v10).toArray) rfl (by kernel_rfl) (by kernel_rfl) (by kernel_rfl) (by kernel_rfl) (by kernel_rfl) (fun _ _ _ h => h) (Or.inl ⟨by rfl, ?yqV0_1_3⟩) ?_
  case yqV0_1_3 => (intro W0 hSw; go_simp; try with_reducible rfl)
  try simp only [pu]
  refine mix_take (i := 4) (o := ⟨(some 12), _, _, _, _, _⟩) (v := .bool o10) rfl (by kernel_rfl) (by kernel_rfl) (by kernel_rfl) (by kernel_rfl) (by kernel_rfl) (fun _ _ _ h => h) (Or.inl ⟨by rfl, ?yqV0_1_4⟩) ?_
  case yqV0_1_4 => (intro W0 hSw; go_simp; try with_reducible rfl)
  try simp only [pu]
  refine mix_end (by kernel_rfl) (by kernel_rfl) (by simp) (by simp) (fun x hx => by simp only [List.mem_cons, List.not_mem_nil, or_false] at hx; rcases hx with rfl <;> first | exact makes_new rfl rfl rfl rfl zero_place) (fun W x _ h => h.alloc h.size _) (fun D hD W2 hHeld hBX hHo => ?_)
  obtain ⟨G6, rfl⟩ := v_one hD
  have xG6 : Hid (W2.heap[G6]? = some (.cells ((bv z128)).toArray 64 (0, 0))) := hHo.row (⟨5, 6, 64, ((bv z128)).toArray⟩, G6) (by simp)
  have lG6 : V0.heap.size ≤ G6 := hHo.new (⟨5, 6, 64, ((bv z128)).toArray⟩, G6) (by simp)
  clear hHo hBX hD
  simp only [markD, putD, List.foldr_cons, List.foldr_nil, pu, List.setIfInBounds_toArray, List.set_cons_zero, List.set_cons_succ]
  refine wpAnyH_ready (rs := [6]) (by kernel_rfl) (by simp) ?_
  refine AllReadyH.cons (i := 6) (o := ⟨none, _, _, _, _, _⟩) rfl (fun K hK => ?_) AllReadyH.nil
  refine step_row (by rfl) 64 (.tmp 6) (.tmp 11) rfl G6 (bv v10) rfl rfl 64 _ xG6.out (by rw [bv_len, h10.out]; kernel_rfl) (by rw [List.size_toArray, bv_len, bv_len, h10.out, z128_len]) (bv_one _) ?_
  intro W3 yG6 kG6
  refine hK.out _ _ (But.below hHeld kG6 lG6 hHeld.size) (fun hHeld => ?_)
  clear hK K kG6 xG6
  have xG6 := yG6
  clear yG6
  try simp only [pu]
  refine wpAnyH_take (i := 7) (oi := ⟨(some 7), _, _, _, _, _⟩) (v := ?vqV0_1_7) rfl (by kernel_rfl) (by kernel_rfl) (by kernel_rfl) (fun _ _ _ h => h) (Or.inl ⟨by rfl, ?yqV0_1_7⟩) hHeld ?_
  case yqV0_1_7 => (intro W0 hSw; go_simp; try with_reducible rfl)
  try simp only [pu]
  refine wpAnyH_done (by kernel_rfl) ?_ _
  obtain ⟨V1, rV1⟩ : ∃ X, X = W3 := ⟨_, rfl⟩
  subst rV1
  have gb0_V1 := row_next2 gb0_V0 hHeld
  have sb0_V1 := row_size gb0_V1
  have gb1_V1 := row_next2 gb1_V0 hHeld
  have sb1_V1 := row_size gb1_V1
  have gb2_V1 := row_next2 gb2_V0 hHeld
  have sb2_V1 := row_size gb2_V1
  have hb_V1 := below_next hb_V0 hb_V0.size hHeld
  have hlaV1 := hlaV0.next hHeld
  have gn6_V1 := xG6
  have sn6_V1 := row_size gn6_V1
  clear xG6
  have wG6 : w.heap.size + 3 ≤ G6 := by omega
  clear hHeld hb_V0 sb0_V0 sb1_V0 sb2_V0
  clear gb0_V0 gb1_V0 gb2_V0 hlaV0 lG6
  rcases o10 with _ | _
  · have HF := vlt (show MuIs (ln n) a z32 3 from ⟨none, e10.out.2 rfl, rfl, rfl⟩)
    go_upto_region 3 with fail
    refine plain_start_c (S := fun W' => Below V1.heap.size V1 W') 1 (by kernel_rfl) (Below.refl _ _) (fun hHeld => ?_)
    refine c_take (i := 0) (oi := ⟨(some 15), _, _, _, _, _⟩) (v := _) rfl (by decide) (by kernel_rfl) (by kernel_rfl) (by kernel_rfl) (fun _ _ _ h => h) (yields_build (by rfl) _ _ rfl [] (by rfl) _ hbz) hHeld ?_
    try simp only [pu]
    refine c_call (S' := fun _ => True) (o := ⟨none, _, _, _, _, _⟩) (by kernel_rfl) (by kernel_rfl) rfl (fun K hK => ?_)
    have cb0_0 := row_next2 gb0_V1 hHeld
    have cb1_0 := row_next2 gb1_V1 hHeld
    have cb2_0 := row_next2 gb2_V1 hHeld
    have cn6_0 := row_next2 gn6_V1 hHeld
    have cb_0 := below_next hb_V1 hb_V1.size hHeld
    have cl_0 := hlaV1.next hHeld
    clear hHeld
    refine step_row (by rfl) 23 (.tmp 4) (.tmp 15) rfl (w.heap.size + 2) (bv z32) rfl rfl 23 _ cb2_0.out (by rw [bv_len, z32_len]; kernel_rfl) (by rw [List.size_toArray]) (bv_one _) ?_
    intro W4 cb2_1 kR
    refine hK.out _ _ trivial (fun hHeld => ?_)
    have cb0_1 := row_but cb0_0 kR (by omega)
    have cb1_1 := row_but cb1_0 kR (by omega)
    have cn6_1 := row_but cn6_0 kR (by omega)
    have cb_1 := But.below cb_0 kR (by omega) cb_0.size
    have cl_1 := cl_0.but (by omega) (by omega) kR
    clear hK K kR cb_0 cb0_0 cb1_0 cb2_0 cn6_0 cl_0
    try simp only [pu]
    refine wpAnyH_take (i := 2) (oi := ⟨(some 5), _, _, _, _, _⟩) (v := (Value.int IntKind.i64 3)) rfl (by kernel_rfl) (by kernel_rfl) (by kernel_rfl) (fun _ _ _ h => h) (Or.inl ⟨by rfl, ?yqV1_2_2⟩) hHeld ?_
    case yqV1_2_2 => (intro W0 hSw; go_simp; try with_reducible rfl)
    try simp only [pu]
    refine wpAnyH_done (by kernel_rfl) ?_ _
    obtain ⟨V2, rV2⟩ : ∃ X, X = W4 := ⟨_, rfl⟩
    subst rV2
    have gb0_V2 := cb0_1
    have sb0_V2 := row_size gb0_V2
    have gb1_V2 := cb1_1
    have sb1_V2 := row_size gb1_V2
    have gb2_V2 := cb2_1
    have sb2_V2 := row_size gb2_V2
    have gn6_V2 := cn6_1
    have sn6_V2 := row_size gn6_V2
    have hb_V2 := cb_1
    have hlaV2 := cl_1
    clear hHeld cb_1 hb_V1 cl_1 hlaV1 cb0_1 cb1_1 cb2_1 cn6_1 sb0_V1 sb1_V1 sb2_V1 sn6_V1 gb0_V1 gb1_V1 gb2_V1 gn6_V1
    go_wp2_with fail
    refine bodyPost_ret (v := .tuple #[.agg (bv z32).toArray, .int .i64 3]) (results_row_tmp Tryd.results21 _ _ (w.heap.size + 2) 23 _ (0, 0) _ rfl gb2_V2.out Tryd.underlying23 rfl (by rw [List.size_toArray, bv_len, z32_len]; kernel_rfl) _ rfl) rfl ⟨z32, 3, rfl, HF, z32_len, hb_V2⟩
  · obtain ⟨P, hP, hPa⟩ := e10.out.1 rfl
    have HP := vlt hP
    have HPa := vlt hPa
    clear hP hPa e10
    go_upto_region 4 with fail
    refine plain_start_c (S := fun W' => Below V1.heap.size V1 W') 4 (by kernel_rfl) (Below.refl _ _) (fun hHeld => ?_)
    refine c_read (i := 0) (oi := ⟨(some 16), _, _, _, _, _⟩) (v := _) rfl (by decide) (by kernel_rfl) (by kernel_rfl) (by kernel_rfl) (by kernel_rfl) (by kernel_rfl) (fun _ _ _ h => h) (yieldsIf_load_mid (by rfl) _ _ rfl G6 0 rfl (bv v10) _ (fun W' hW' => range_row ((hW'.block _ sn6_V1).trans gn6_V1.out)) (Tryd.underlying64) rfl (by rw [bv_len, h10.out]; kernel_rfl)) hHeld ?_
    try simp only [pu]
    refine c_read (i := 1) (oi := ⟨(some 17), _, _, _, _, _⟩) (v := _) rfl (by decide) (by kernel_rfl) (by kernel_rfl) (by kernel_rfl) (by kernel_rfl) (by kernel_rfl) (fun _ _ _ h => h) (yieldsIf_load_mid (by rfl) _ _ rfl (w.heap.size) 0 rfl (bv n) _ (fun W' hW' => range_row ((hW'.block _ sb0_V1).trans gb0_V1.out)) (Tryd.underlying23) rfl (by rw [bv_len, Hhn.out]; kernel_rfl)) hHeld ?_
    try simp only [pu]
    refine c_step (i := 2) (o := ⟨(some 18), _, _, _, _, _⟩) (by kernel_rfl) rfl (fun K hK => ?_)
    go_simp
    refine (ptimes_any _ (hlaV1.next hHeld) v10 n h10.out HP.out Hhn.out).mono ?_
    rintro e W4 ⟨v18, rfl, e18, h18, hb4⟩
    refine hK.out _ _ (below_next hHeld hHeld.size hb4) (fun hHeld => ?_)
    clear hK K hb4
    try simp only [pu]
    refine c_step (i := 3) (o := ⟨(some 19), _, _, _, _, _⟩) (by kernel_rfl) rfl (fun K hK => ?_)
    go_simp
    refine (ptold_any _ v18 (h18.out) (e18.out)).mono ?_
    rintro e W5 ⟨v19, rfl, e19, h19, hb5⟩
    refine hK.out _ _ (below_next hHeld hHeld.size hb5) (fun hHeld => ?_)
    clear hK K hb5
    try simp only [pu]
    refine c_call (S' := fun _ => True) (o := ⟨none, _, _, _, _, _⟩) (by kernel_rfl) (by kernel_rfl) rfl (fun K hK => ?_)
    have cb0_0 := row_next2 gb0_V1 hHeld
    have cb1_0 := row_next2 gb1_V1 hHeld
    have cb2_0 := row_next2 gb2_V1 hHeld
    have cn6_0 := row_next2 gn6_V1 hHeld
    have cb_0 := below_next hb_V1 hb_V1.size hHeld
    have cl_0 := hlaV1.next hHeld
    clear hHeld
    refine step_row (by rfl) 23 (.tmp 4) (.tmp 19) rfl (w.heap.size + 2) (bv v19) rfl rfl 23 _ cb2_0.out (by rw [bv_len, h19.out]; kernel_rfl) (by rw [List.size_toArray, bv_len, z32_len, bv_len, h19.out]) (bv_one _) ?_
    intro W6 cb2_1 kR
    refine hK.out _ _ trivial (fun hHeld => ?_)
    have cb0_1 := row_but cb0_0 kR (by omega)
    have cb1_1 := row_but cb1_0 kR (by omega)
    have cn6_1 := row_but cn6_0 kR (by omega)
    have cb_1 := But.below cb_0 kR (by omega) cb_0.size
    have cl_1 := cl_0.but (by omega) (by omega) kR
    clear hK K kR cb_0 cb0_0 cb1_0 cb2_0 cn6_0 cl_0
    try simp only [pu]
    refine wpAnyH_take (i := 5) (oi := ⟨(some 5), _, _, _, _, _⟩) (v := (Value.int IntKind.i64 0)) rfl (by kernel_rfl) (by kernel_rfl) (by kernel_rfl) (fun _ _ _ h => h) (Or.inl ⟨by rfl, ?yqV1_2_5⟩) hHeld ?_
    case yqV1_2_5 => (intro W0 hSw; go_simp; try with_reducible rfl)
    try simp only [pu]
    refine wpAnyH_done (by kernel_rfl) ?_ _
    obtain ⟨V2, rV2⟩ : ∃ X, X = W6 := ⟨_, rfl⟩
    subst rV2
    have gb0_V2 := cb0_1
    have sb0_V2 := row_size gb0_V2
    have gb1_V2 := cb1_1
    have sb1_V2 := row_size gb1_V2
    have gb2_V2 := cb2_1
    have sb2_V2 := row_size gb2_V2
    have gn6_V2 := cn6_1
    have sn6_V2 := row_size gn6_V2
    have hb_V2 := cb_1
    have hlaV2 := cl_1
    clear hHeld cb_1 hb_V1 cl_1 hlaV1 cb0_1 cb1_1 cb2_1 cn6_1 sb0_V1 sb1_V1 sb2_V1 sn6_V1 gb0_V1 gb1_V1 gb2_V1 gn6_V1
    have HF := vlt (show MuIs (ln n) a v19 0 from ⟨some P, HPa.out, e19.out, rfl⟩)
    go_wp2_with fail
    refine bodyPost_ret (v := .tuple #[.agg (bv v19).toArray, .int .i64 0]) (results_row_tmp Tryd.results21 _ _ (w.heap.size + 2) 23 _ (0, 0) _ rfl gb2_V2.out Tryd.underlying23 rfl (by rw [List.size_toArray, bv_len, h19.out]; kernel_rfl) _ rfl) rfl ⟨v19, 0, rfl, HF, h19, hb_V2⟩
/-- The base's bytes, so far. -/
def bsr : Nat → List UInt8
  | 0 => 0x58 :: List.replicate 31 0
  | k + 1 => (bsr k).set (k + 1) 0x66
theorem bsr_len : ∀ k, (bsr k).length = 32
  | 0 => rfl
  | k + 1 => by rw [bsr, List.length_set, bsr_len k]
theorem bsr_enc : bsr 31 = encE bE := by rw [bE_enc]; decide +kernel
theorem built_bsr : Tryd.prog.built 23 [(0, .int .u8 88)] = some (bv (bsr 0)).toArray := by kernel_rfl
set_option maxRecDepth 100000 in
set_option maxHeartbeats 4000000 in
theorem pbase_any (w : World) :
    Calls Tryd.prog 25 #[] w fun e w' => ∃ l, e = .returned (.agg (bv l).toArray) ∧ Vlt (l = encE bE) ∧ Hid (l.length = 32) ∧ Below w.heap.size w w' := by
  have hzw := zero_word
  obtain ⟨B0, dB0⟩ : ∃ l, l = bsr 0 := ⟨_, rfl⟩
  have HB0 := Lib.hid (show B0.length = 32 by rw [dB0]; exact bsr_len 0)
  have hb1 := built_bsr
  rw [← dB0] at hb1
  have HD := vlt dB0
  clear dB0
  obtain ⟨V0, hW, gb0_V0, hb_V0, hsW⟩ := one_new w (bv z32).toArray 23
  have HW := Lib.hid hW
  have sb0_V0 := row_size gb0_V0
  clear hW hsW 
  go_enter Tryd.func25, Tryd.ntmps25
  go_upto_region 1 with fail
  rw [HW.out]
  refine plain_start (S := fun W' => Below V0.heap.size V0 W') (by kernel_rfl) (Below.refl _ _) (fun hHeld => ?_)
  refine wpAnyH_take (i := 0) (oi := ⟨(some 3), _, _, _, _, _⟩) (v := _) rfl (by kernel_rfl) (by kernel_rfl) (by kernel_rfl) (fun _ _ _ h => h) (yields_build (by rfl) _ _ rfl [(0, .int .u8 88)] (by rfl) _ hb1) hHeld ?_
  try simp only [pu]
  refine mix_start (B := V0.heap.size) (al := [⟨1, 1, 23, ((bv z32)).toArray⟩]) (fuel := 1) rfl hHeld (hHeld.size) ?_
  clear hHeld
  refine mix_end (by kernel_rfl) (by kernel_rfl) (by simp) (by simp) (fun x hx => by simp only [List.mem_cons, List.not_mem_nil, or_false] at hx; rcases hx with rfl <;> first | exact makes_new rfl rfl rfl rfl zero_word) (fun W x _ h => h.alloc h.size _) (fun D hD W1 hHeld hBX hHo => ?_)
  obtain ⟨G1, rfl⟩ := v_one hD
  have xG1 : Hid (W1.heap[G1]? = some (.cells ((bv z32)).toArray 23 (0, 0))) := hHo.row (⟨1, 1, 23, ((bv z32)).toArray⟩, G1) (by simp)
  have lG1 : V0.heap.size ≤ G1 := hHo.new (⟨1, 1, 23, ((bv z32)).toArray⟩, G1) (by simp)
  clear hHo hBX hD
  simp only [markD, putD, List.foldr_cons, List.foldr_nil, pu, List.setIfInBounds_toArray, List.set_cons_zero, List.set_cons_succ]
  refine wpAnyH_ready (rs := [2]) (by kernel_rfl) (by simp) ?_
  refine AllReadyH.cons (i := 2) (o := ⟨none, _, _, _, _, _⟩) rfl (fun K hK => ?_) AllReadyH.nil
  refine step_row (by rfl) 23 (.tmp 1) (.tmp 3) rfl G1 (bv B0) rfl rfl 23 _ xG1.out (by rw [bv_len, HB0.out]; kernel_rfl) (by rw [List.size_toArray, bv_len, bv_len, HB0.out, z32_len]) (bv_one _) ?_
  intro W2 yG1 kG1
  refine hK.out _ _ (But.below hHeld kG1 lG1 hHeld.size) (fun hHeld => ?_)
  clear hK K kG1 xG1
  have xG1 := yG1
  clear yG1
  try simp only [pu]
  refine wpAnyH_done (by kernel_rfl) ?_ _
  obtain ⟨V1, rV1⟩ : ∃ X, X = W2 := ⟨_, rfl⟩
  subst rV1
  have gb0_V1 := row_next2 gb0_V0 hHeld
  have sb0_V1 := row_size gb0_V1
  have hb_V1 := below_next hb_V0 hb_V0.size hHeld
  have gn1_V1 := xG1
  have sn1_V1 := row_size gn1_V1
  clear xG1
  have wG1 : w.heap.size + 1 ≤ G1 := by omega
  clear hHeld hb_V0 sb0_V0
  clear gb0_V0 lG1
  clear HW hb1
  have gs : Hid (V1.heap[G1]? = some (.cells (bv (bsr 0)).toArray 23 (0, 0))) := by rw [← HD.out]; exact gn1_V1.out
  clear gn1_V1
  go_wp2_with fail
  go_loopw [2, 6] (fun u s wr => ∃ k : Nat, k ≤ 31 ∧ s = .int .i64 (k : Int) ∧ Hid (wr.heap[G1]? = some (.cells (bv (bsr k)).toArray 23 (0, 0))) ∧ But G1 V1 wr) (fun u s _ => 32 - (intOf s).toNat)
  case atStart => exact ⟨0, by omega, rfl, gs, But.refl _ _⟩
  case round =>
    obtain ⟨k, hk, rfl, hg, hbt⟩ := hrel
    by_cases hlt : k < 31
    · have f0 : wr.frozen? ⟨G1, k + 1, none⟩ = false := frozen_of_row _ _ _ _ _ hg.out
      obtain ⟨u0, c0⟩ : ∃ u, wr.cell? ⟨G1, k + 1, none⟩ = some u := by
        rw [cell_of_row _ _ _ _ _ _ hg.out]
        exact ⟨_, List.getElem?_toArray .. ▸ List.getElem?_eq_getElem (by rw [bv_len, bsr_len]; omega)⟩
      have hset : Hid ((wr.setCell ⟨G1, k + 1, none⟩ (.int .u8 102)).heap[G1]? = some (.cells (bv (bsr (k + 1))).toArray 23 (0, 0))) := by
        have h1 := (world_set_cell hg.out (k + 1) (.int .u8 102)).out
        rw [show (102 : Int) = ((0x66 : UInt8).toNat : Int) from rfl, bv_set] at h1
        exact h1
      have hb2 := hbt.set (i := k + 1) (.int .u8 102)
      go_wp2
      go_roundw
      case rel => exact ⟨k + 1, by omega, by go_num, hset, hb2⟩
      case measure => simp [intOf]; omega
    · obtain rfl : k = 31 := by omega
      have HL := Lib.hid (bsr_len 31)
      have HF := vlt bsr_enc
      obtain ⟨B, hB⟩ : ∃ l, l = bsr 31 := ⟨_, rfl⟩
      rw [← hB] at hg HL HF
      clear hB
      have g1 := row_but gb0_V1 hbt (by omega)
      have hbw := But.below hb_V1 hbt (by omega) hb_V1.size
      go_wp2_with (first
        | (with_reducible refine wpList_load_row rfl 23 (.tmp 1) rfl G1 rfl 23 (bv B).toArray (0, 0) _ hg.out Tryd.underlying23 rfl (by rw [bv_size B HL.out]; kernel_rfl) ?_)
        | (with_reducible refine wpList_store_row rfl 23 (.tmp 0) (.tmp 13) rfl w.heap.size (bv B).toArray rfl rfl 23 _ g1.out (by rw [bv_size B HL.out]; kernel_rfl) (by rw [bv_size B HL.out]; kernel_rfl) (all_oneCell_toArray (bv_one _)) ?_))
      refine bodyPost_ret (v := .agg (bv B).toArray) (results_cell_row Tryd.results25 _ _ w.heap.size 23 _ (0, 0) _ rfl (setRow_heap _ _ _ _ _ _ g1.out) Tryd.underlying23 rfl (by rw [bv_size B HL.out]; kernel_rfl)) rfl ⟨B, rfl, HF, HL, below_setRow hbw (by omega) _⟩
end Go.Proofs.YtcefdcjpddohaaaDoor
namespace Go.Proofs.YtcefdcjpddohaaaDoor
open Go.RowKit

theorem zero_num (w : World) : (zeroValue 54).run Tryd.prog w = .ok (.agg (u64v (uptoW 4 [])).toArray) w := by kernel_rfl
theorem zero_long (w : World) : (zeroValue 56).run Tryd.prog w = .ok (.agg (u64v (uptoW 8 [])).toArray) w := by kernel_rfl
set_option maxRecDepth 100000 in
set_option maxHeartbeats 1000000 in
theorem lstep_any (w : World) (v x y z : Nat) (hv : v < B64) (hx : x < B64) (hy : y < B64) (hz : z < B64) :
    Calls Tryd.prog 43 #[.int .u64 (v : Int), .int .u64 (x : Int), .int .u64 (y : Int), .int .u64 (z : Int)] w fun e w' => ∃ h l : Nat, e = .returned (.tuple #[.int .u64 (h : Int), .int .u64 (l : Int)]) ∧ Vlt (l + 18446744073709551616 * h = v * x + y + z) ∧ h < B64 ∧ l < B64 ∧ w = w' := by
  go_enter Tryd.func43, Tryd.ntmps43
  go_wp2_with fail
  refine (mul64_any w v x hv hx).mono ?_
  rintro e w' ⟨h, l, rfl, he, lh, ll, rfl⟩
  obtain ⟨s1, o1, r1, e1, ls1, lo1⟩ := add64_ex0 add_run l y ll hy
  obtain ⟨s2, o2, r2, e2, ls2, lo2⟩ := add64_ex0 add_run s1 z ls1 hz
  have hb : h + o1 + o2 < 18446744073709551616 := by
    have h1 : v * x ≤ 18446744073709551615 * 18446744073709551615 := Nat.mul_le_mul (by simp only [B64] at *; omega) (by simp only [B64] at *; omega)
    have h2 := he.out
    have h3 := e1.out
    have h4 := e2.out
    simp only [B64] at *
    generalize v * x = p at *
    omega
  have HE := vlt (show s2 + 18446744073709551616 * (h + o1 + o2) = v * x + y + z by have h2 := he.out; have h3 := e1.out; have h4 := e2.out; generalize v * x = p at *; omega)
  have hb1 : h + o1 < 18446744073709551616 := by omega
  clear he e1 e2
  go_wp2
  rw [show (h : Int) + (o1 : Int) + (o2 : Int) = ((h + o1 + o2 : Nat) : Int) by omega]
  go_ret2
  exact ⟨_, s2, rfl, HE, hb, ls2, rfl⟩


set_option maxRecDepth 100000 in
set_option maxHeartbeats 1000000 in
theorem lnumberOf_any (w : World) (b : List UInt8) (hb : b.length = 32) :
    Calls Tryd.prog 27 #[.agg (bv b).toArray] w fun e w' => ∃ X, e = .returned (.agg (u64v X).toArray) ∧ Vlt (X = pcs b 4) ∧ Hid (X.length = 4) ∧ Below w.heap.size w w' := by
  have hzn := zero_num
  obtain ⟨W, hW, hgA, hgZ, hbW, hsW⟩ := pair_new w (bv b).toArray (u64v (uptoW 4 [])).toArray 23 54
  have HW := Lib.hid hW
  have HB := Lib.hid hb
  have hs1 : w.heap.size + 1 < W.heap.size := by have := hsW.out; omega
  clear hW hb hsW
  go_enter Tryd.func27, Tryd.ntmps27
  go_upto_region 1 with fail
  rw [HW.out]
  go_upto_region 2 with fail
  obtain ⟨V, hV, hgT, hbV, hsV⟩ := one_new W (u64v (uptoW 4 [])).toArray 54
  rw [hV]
  obtain ⟨T, hT⟩ : ∃ T, T = W.heap.size := ⟨_, rfl⟩
  rw [← hT] at hgT hs1 ⊢
  have hgAV : Hid (V.heap[w.heap.size]? = some (.cells (bv b).toArray 23 (0, 0))) := (hbV.block _ (by omega)).trans hgA.out
  have hgZV : Hid (V.heap[w.heap.size + 1]? = some (.cells (u64v (uptoW 4 [])).toArray 54 (0, 0))) := (hbV.block _ (by omega)).trans hgZ.out
  have hbwV := below_next hbW hbW.size hbV
  have hsz2 : w.heap.size + 1 < V.heap.size := (Array.getElem?_eq_some_iff.1 hgZV.out).1
  clear hV hbV hgA hgZ hbW hsV hT HW
  go_wp2_with fail
  go_loopw [5] (fun i wr => ∃ k : Nat, k ≤ 4 ∧ i = .int .i64 (k : Int) ∧ Hid (wr.heap[T]? = some (.cells (u64v (uptoW 4 (pcs b k))).toArray 54 (0, 0))) ∧ But T V wr) (fun i _ => 4 - (intOf i).toNat)
  case atStart => exact ⟨0, by omega, rfl, hgT, But.refl _ _⟩
  case round =>
    obtain ⟨k, hk, rfl, hg, hbt⟩ := hrel
    by_cases hlt : k < 4
    · have hgb : wr.heap[w.heap.size]? = some (.cells (bv b).toArray 23 (0, 0)) := (hbt.block _ (by omega) (by intro e; injection e; omega)).trans hgAV.out
      have hcut := cut_lh Tryd.underlying23 Tryd.sizeByte w.heap.size 0 (8 * k) (8 * k + 8) (8 * (k : Int)) (8 * (k : Int) + 8) (by omega) (by omega) (by omega) (by omega) (by omega)
      have hbm := byt_mid hgb (8 * k) 8
      rw [show 8 * k + 8 - 8 * k = 8 by omega, show 0 + 8 * k = 8 * k by omega] at hcut
      have hfl := fromLittle_ok (some ⟨w.heap.size, 8 * k, none⟩) _ 8 (32 - 8 * k) wr hbm (by simp only [List.length_take, List.length_drop]; rw [HB.out]; omega) (by decide)
      have hx : (uptoW 4 (pcs b k))[k]? = some 0 := by have := uptoW_at 4 (pcs b k) (by rw [pcs_len]; exact hlt); rwa [pcs_len] at this
      have hcl : wr.cell? ⟨T, k, none⟩ = some (.int .u64 0) := by rw [cell_of_row _ _ _ _ _ _ hg.out]; simp [u64v_at, hx]
      have hf : wr.frozen? ⟨T, k, none⟩ = false := frozen_of_row _ _ _ _ _ hg.out
      clear hx hbm hgb
      go_wp2_with fail
      refine hfl.mono ?_
      rintro e w' ⟨rfl, rfl⟩
      clear hcut hfl
      obtain ⟨v, hvv⟩ : ∃ v, v = ln ((b.drop (8 * k)).take 8) := ⟨_, rfl⟩
      rw [← hvv]
      have hset : Hid ((wr.setCell ⟨T, k, none⟩ (.int .u64 (v : Int))).heap[T]? = some (.cells (u64v (uptoW 4 (pcs b (k + 1)))).toArray 54 (0, 0))) := by
        have h1 := (world_set_cell hg.out k (.int .u64 (v : Int))).out
        have h2 := uptoW_set 4 (pcs b k) v (by rw [pcs_len]; exact hlt)
        rw [pcs_len, hvv] at h2
        rw [u64v_set, hvv, h2] at h1
        rw [hvv]; exact h1
      have hb2 := hbt.set (i := k) (.int .u64 (v : Int))
      clear hvv
      go_wp2
      go_roundw
      case rel => exact ⟨k + 1, by omega, by go_num, hset, hb2⟩
      case measure => simp [intOf]; omega
    · have HK := Lib.hid (show k = 4 by omega)
      obtain ⟨X, hX⟩ : ∃ X, X = pcs b k := ⟨_, rfl⟩
      have hUP : uptoW 4 (pcs b k) = X := by rw [hX]; exact uptoW_all 4 _ (by rw [pcs_len]; exact HK.out)
      rw [hUP] at hg
      have HX := vlt (show X = pcs b 4 by rw [hX, HK.out])
      have HXL := Lib.hid (show X.length = 4 by rw [hX, pcs_len]; exact HK.out)
      have HXS := Lib.hid (show (u64v X).toArray.size = 4 by simp [u64v_len, HXL.out])
      have HZ := Lib.hid (show (u64v (uptoW 4 [])).toArray.size = 4 from rfl)
      have hz4 : Hid (wr.heap[w.heap.size + 1]? = some (.cells (u64v (uptoW 4 [])).toArray 54 (0, 0))) := (hbt.block _ (by omega) (by intro e; injection e; omega)).trans hgZV.out
      have hb4 : Below w.heap.size w wr := But.below hbwV hbt (by omega) (by omega)
      clear hX hUP
      go_wp2_with (first
        | (with_reducible refine wpList_load_row rfl 54 (.tmp 3) rfl T rfl 54 (u64v X).toArray (0, 0) _ hg.out Tryd.underlying54 rfl (by rw [HXS.out]; kernel_rfl) ?_)
        | (with_reducible refine wpList_store_row rfl 54 (.tmp 2) (.tmp 21) rfl (w.heap.size + 1) (u64v X).toArray rfl rfl 54 _ hz4.out (by rw [HXS.out]; kernel_rfl) (by rw [HXS.out]; exact HZ.out) (all_oneCell_toArray (u64v_one _)) ?_))
      refine bodyPost_ret (v := .agg (u64v X).toArray) (results_cell_row Tryd.results27 _ _ (w.heap.size + 1) 54 _ (0, 0) _ rfl (setRow_heap _ _ _ _ _ _ hz4.out) Tryd.underlying54 rfl (by rw [HXS.out]; kernel_rfl)) rfl ⟨X, rfl, HX, HXL, below_setRow hb4 (by omega) _⟩

set_option maxRecDepth 100000 in
set_option maxHeartbeats 1000000 in
theorem longOf_any (w : World) (b : List UInt8) (hb : b.length = 64) :
    Calls Tryd.prog 31 #[.agg (bv b).toArray] w fun e w' => ∃ X, e = .returned (.agg (u64v X).toArray) ∧ Vlt (X = pcs b 8) ∧ Hid (X.length = 8) ∧ Below w.heap.size w w' := by
  have hzn := zero_long
  obtain ⟨W, hW, hgA, hgZ, hbW, hsW⟩ := pair_new w (bv b).toArray (u64v (uptoW 8 [])).toArray 27 56
  have HW := Lib.hid hW
  have HB := Lib.hid hb
  have hs1 : w.heap.size + 1 < W.heap.size := by have := hsW.out; omega
  clear hW hb hsW
  go_enter Tryd.func31, Tryd.ntmps31
  go_upto_region 1 with fail
  rw [HW.out]
  go_upto_region 2 with fail
  obtain ⟨V, hV, hgT, hbV, hsV⟩ := one_new W (u64v (uptoW 8 [])).toArray 56
  rw [hV]
  obtain ⟨T, hT⟩ : ∃ T, T = W.heap.size := ⟨_, rfl⟩
  rw [← hT] at hgT hs1 ⊢
  have hgAV : Hid (V.heap[w.heap.size]? = some (.cells (bv b).toArray 27 (0, 0))) := (hbV.block _ (by omega)).trans hgA.out
  have hgZV : Hid (V.heap[w.heap.size + 1]? = some (.cells (u64v (uptoW 8 [])).toArray 56 (0, 0))) := (hbV.block _ (by omega)).trans hgZ.out
  have hbwV := below_next hbW hbW.size hbV
  have hsz2 : w.heap.size + 1 < V.heap.size := (Array.getElem?_eq_some_iff.1 hgZV.out).1
  clear hV hbV hgA hgZ hbW hsV hT HW
  go_wp2_with fail
  go_loopw [5] (fun i wr => ∃ k : Nat, k ≤ 8 ∧ i = .int .i64 (k : Int) ∧ Hid (wr.heap[T]? = some (.cells (u64v (uptoW 8 (pcs b k))).toArray 56 (0, 0))) ∧ But T V wr) (fun i _ => 8 - (intOf i).toNat)
  case atStart => exact ⟨0, by omega, rfl, hgT, But.refl _ _⟩
  case round =>
    obtain ⟨k, hk, rfl, hg, hbt⟩ := hrel
    by_cases hlt : k < 8
    · have hgb : wr.heap[w.heap.size]? = some (.cells (bv b).toArray 27 (0, 0)) := (hbt.block _ (by omega) (by intro e; injection e; omega)).trans hgAV.out
      have hcut := cut_lh Tryd.underlying27 Tryd.sizeByte w.heap.size 0 (8 * k) (8 * k + 8) (8 * (k : Int)) (8 * (k : Int) + 8) (by omega) (by omega) (by omega) (by omega) (by omega)
      have hbm := byt_mid hgb (8 * k) 8
      rw [show 8 * k + 8 - 8 * k = 8 by omega, show 0 + 8 * k = 8 * k by omega] at hcut
      have hfl := fromLittle_ok (some ⟨w.heap.size, 8 * k, none⟩) _ 8 (64 - 8 * k) wr hbm (by simp only [List.length_take, List.length_drop]; rw [HB.out]; omega) (by decide)
      have hx : (uptoW 8 (pcs b k))[k]? = some 0 := by have := uptoW_at 8 (pcs b k) (by rw [pcs_len]; exact hlt); rwa [pcs_len] at this
      have hcl : wr.cell? ⟨T, k, none⟩ = some (.int .u64 0) := by rw [cell_of_row _ _ _ _ _ _ hg.out]; simp [u64v_at, hx]
      have hf : wr.frozen? ⟨T, k, none⟩ = false := frozen_of_row _ _ _ _ _ hg.out
      clear hx hbm hgb
      go_wp2_with fail
      refine hfl.mono ?_
      rintro e w' ⟨rfl, rfl⟩
      clear hcut hfl
      obtain ⟨v, hvv⟩ : ∃ v, v = ln ((b.drop (8 * k)).take 8) := ⟨_, rfl⟩
      rw [← hvv]
      have hset : Hid ((wr.setCell ⟨T, k, none⟩ (.int .u64 (v : Int))).heap[T]? = some (.cells (u64v (uptoW 8 (pcs b (k + 1)))).toArray 56 (0, 0))) := by
        have h1 := (world_set_cell hg.out k (.int .u64 (v : Int))).out
        have h2 := uptoW_set 8 (pcs b k) v (by rw [pcs_len]; exact hlt)
        rw [pcs_len, hvv] at h2
        rw [u64v_set, hvv, h2] at h1
        rw [hvv]; exact h1
      have hb2 := hbt.set (i := k) (.int .u64 (v : Int))
      clear hvv
      go_wp2
      go_roundw
      case rel => exact ⟨k + 1, by omega, by go_num, hset, hb2⟩
      case measure => simp [intOf]; omega
    · have HK := Lib.hid (show k = 8 by omega)
      obtain ⟨X, hX⟩ : ∃ X, X = pcs b k := ⟨_, rfl⟩
      have hUP : uptoW 8 (pcs b k) = X := by rw [hX]; exact uptoW_all 8 _ (by rw [pcs_len]; exact HK.out)
      rw [hUP] at hg
      have HX := vlt (show X = pcs b 8 by rw [hX, HK.out])
      have HXL := Lib.hid (show X.length = 8 by rw [hX, pcs_len]; exact HK.out)
      have HXS := Lib.hid (show (u64v X).toArray.size = 8 by simp [u64v_len, HXL.out])
      have HZ := Lib.hid (show (u64v (uptoW 8 [])).toArray.size = 8 from rfl)
      have hz4 : Hid (wr.heap[w.heap.size + 1]? = some (.cells (u64v (uptoW 8 [])).toArray 56 (0, 0))) := (hbt.block _ (by omega) (by intro e; injection e; omega)).trans hgZV.out
      have hb4 : Below w.heap.size w wr := But.below hbwV hbt (by omega) (by omega)
      clear hX hUP
      go_wp2_with (first
        | (with_reducible refine wpList_load_row rfl 56 (.tmp 3) rfl T rfl 56 (u64v X).toArray (0, 0) _ hg.out Tryd.underlying56 rfl (by rw [HXS.out]; kernel_rfl) ?_)
        | (with_reducible refine wpList_store_row rfl 56 (.tmp 2) (.tmp 21) rfl (w.heap.size + 1) (u64v X).toArray rfl rfl 56 _ hz4.out (by rw [HXS.out]; kernel_rfl) (by rw [HXS.out]; exact HZ.out) (all_oneCell_toArray (u64v_one _)) ?_))
      refine bodyPost_ret (v := .agg (u64v X).toArray) (results_cell_row Tryd.results31 _ _ (w.heap.size + 1) 56 _ (0, 0) _ rfl (setRow_heap _ _ _ _ _ _ hz4.out) Tryd.underlying56 rfl (by rw [HXS.out]; kernel_rfl)) rfl ⟨X, rfl, HX, HXL, below_setRow hb4 (by omega) _⟩
end Go.Proofs.YtcefdcjpddohaaaDoor
namespace Go.Proofs.YtcefdcjpddohaaaDoor
open Go.RowKit

theorem Tryd.sizeU64s : (Tryd.prog.info? 52).map (·.size) = some 1 := by kernel_rfl
/-- Four new blocks. -/
theorem four_new (w : World) (a b c d : Array Value) (s t u v : TypeId) :
    ∃ W, (((w.alloc (.cells a s)).alloc (.cells b t)).alloc (.cells c u)).alloc (.cells d v) = W ∧ Hid (W.heap[w.heap.size]? = some (.cells a s (0, 0))) ∧ Hid (W.heap[w.heap.size + 1]? = some (.cells b t (0, 0))) ∧ Hid (W.heap[w.heap.size + 2]? = some (.cells c u (0, 0))) ∧ Hid (W.heap[w.heap.size + 3]? = some (.cells d v (0, 0))) ∧ Below w.heap.size w W ∧ Hid (W.heap.size = w.heap.size + 4) := by
  obtain ⟨V, hV, g0, g1, g2, hb, hs⟩ := three_new w a b c s t u
  rw [hV]
  have h0 := hs.out
  refine ⟨_, rfl, (Below.heap_alloc _ _ _ (by omega)).trans g0.out, (Below.heap_alloc _ _ _ (by omega)).trans g1.out, (Below.heap_alloc _ _ _ (by omega)).trans g2.out, ?_, hb.alloc hb.size _, show _ = _ by simp [h0]⟩
  rw [← h0]
  exact heap_alloc_new _ _
/-- copy of numbers into a block that is known whole, as one step of a region that draws its order. -/
theorem step_copy_vals {P : Program} {ops : Array Oper} {o : Oper} {a : Act} {w : World} {K : Act → World → Prop} {Q : Exit → Act → World → Prop} {E : Prop} (hgd : o.guard = none) (d s : Operand) (T : TypeId)
    (ho : o.op = .call { callee := .builtin .copy, args := #[d, s], argTypes := #[T, T] }) (elem : TypeId) (hu : P.underlying T = some (.slice elem)) (hsz : (P.info? elem).map (·.size) = some 1)
    (g off dLen dCap sLen sCap b o' : Nat) (hd : a.eval d = .slice (some ⟨g, off, none⟩) dLen dCap) (hs : a.eval s = .slice (some ⟨b, o', none⟩) sLen sCap)
    (cur : List Value) (t : TypeId) (hg : w.heap[g]? = some (.cells cur.toArray t (0, 0))) (news : List Value) (hlen : news.length = min sLen dLen)
    (hsrc : ∀ j v, news[j]? = some v → w.cell? ⟨b, o' + j, none⟩ = some v) (hone : ∀ u ∈ news, u.oneCell' = true)
    (hfit : off + dLen ≤ cur.length) (w0 : World) (hb : But g w0 w)
    (h : ∀ w', Hid (w'.heap[g]? = some (.cells (splice cur off news).toArray t (0, 0))) → But g w0 w' → K (a.put o.dst (.int .i64 ((min sLen dLen : Nat) : Int))) w') :
    if Region.wanted o (yielded ops a.tmps) = true then Oper.wp P o a w K Q else E := by
  have hw : Region.wanted o (yielded ops a.tmps) = true := by simp [Region.wanted, hgd]
  rw [if_pos hw]
  have hsrc' : ∀ j v, news[j]? = some v → w.cell? ((⟨b, o', none⟩ : Addr).add j) = some v := by
    intro j v hj
    rw [addr_add]
    exact hsrc j v hj
  have hrun := run_copy_row (P := P) w T T o.type elem g off dLen dCap ⟨b, o', none⟩ sLen sCap cur.toArray t news hu hsz hg hlen hsrc' (by simp only [List.size_toArray]; omega) hone
  unfold Oper.wp
  simp [execOp, ho, resolve, invoke, builtin, hd, hs, hrun, Result.andThen]
  have h3 := h _ (show _ = _ by simpa [splice] using setRow_heap w g _ _ t _ hg) (hb.row _)
  rw [hlen] at h3 ⊢
  exact h3
theorem row_cells {w : World} {g : Nat} {cs : List Value} {t : TypeId} (hg : w.heap[g]? = some (.cells cs.toArray t (0, 0))) : ∀ j v, cs[j]? = some v → w.cell? ⟨g, 0 + j, none⟩ = some v := by
  intro j v hj
  rw [Nat.zero_add, cell_of_row _ _ _ _ _ _ hg]
  simpa using hj
theorem long_start (Z : List Nat) (hZ : Z.length = 4) : splice (u64v (uptoW 8 [])) 0 (u64v Z) = u64v (Z ++ [0, 0, 0, 0]) := by
  match Z, hZ with
  | [a, b, c, d], _ => rfl
theorem tout_first (A Y Z : List Nat) (hZ : Z.length = 4) (bZ : ∀ x ∈ Z, x < B64) : Tout A Y Z (Z ++ [0, 0, 0, 0]) 0 := by
  match Z, hZ with
  | [a, b, c, d], _ => exact Tout.first a b c d (bZ _ (by simp)) (bZ _ (by simp)) (bZ _ (by simp)) (bZ _ (by simp))

set_option maxRecDepth 100000 in
set_option maxHeartbeats 2000000 in
theorem ltimes_any (w : World) (X Y Z : List Nat) (hX : X.length = 4) (hY : Y.length = 4) (hZ : Z.length = 4) (bX : ∀ x ∈ X, x < B64) (bY : ∀ x ∈ Y, x < B64) (bZ : ∀ x ∈ Z, x < B64) :
    Calls Tryd.prog 28 #[.agg (u64v X).toArray, .agg (u64v Y).toArray, .agg (u64v Z).toArray] w fun e w' => ∃ U, e = .returned (.agg (u64v U).toArray) ∧ Vlt (nB U = nB Z + nB X * nB Y) ∧ Hid (U.length = 8) ∧ Vlt (∀ x ∈ U, x < B64) ∧ Below w.heap.size w w' := by
  have hzl := zero_long
  obtain ⟨W, hW, hgX, hgY, hgZ, hgR, hbW, hsW⟩ := four_new w (u64v X).toArray (u64v Y).toArray (u64v Z).toArray (u64v (uptoW 8 [])).toArray 54 54 54 56
  have HW := Lib.hid hW
  have HXL := Lib.hid hX
  have HYL := Lib.hid hY
  have HZL := Lib.hid hZ
  have HBX := vlt bX
  have HBY := vlt bY
  have HBZ := vlt bZ
  have hs1 : w.heap.size + 3 < W.heap.size := by have := hsW.out; omega
  clear hW hX hY hZ bX bY bZ hsW
  go_enter Tryd.func28, Tryd.ntmps28
  go_upto_region 1 with fail
  rw [HW.out]
  go_upto_region 2 with fail
  obtain ⟨V, hV, hgT, hbV, hsV⟩ := one_new W (u64v (uptoW 8 [])).toArray 56
  rw [hV]
  obtain ⟨T, hT⟩ : ∃ T, T = W.heap.size := ⟨_, rfl⟩
  rw [← hT] at hgT hs1 ⊢
  have hgX1 : Hid (V.heap[w.heap.size]? = some (.cells (u64v X).toArray 54 (0, 0))) := (hbV.block _ (by omega)).trans hgX.out
  have hgY1 : Hid (V.heap[w.heap.size + 1]? = some (.cells (u64v Y).toArray 54 (0, 0))) := (hbV.block _ (by omega)).trans hgY.out
  have hgZ1 : Hid (V.heap[w.heap.size + 2]? = some (.cells (u64v Z).toArray 54 (0, 0))) := (hbV.block _ (by omega)).trans hgZ.out
  have hgR1 : Hid (V.heap[w.heap.size + 3]? = some (.cells (u64v (uptoW 8 [])).toArray 56 (0, 0))) := (hbV.block _ (by omega)).trans hgR.out
  have hbw1 := below_next hbW hbW.size hbV
  have hsz1 : w.heap.size + 3 < V.heap.size := (Array.getElem?_eq_some_iff.1 hgR1.out).1
  clear hV hbV hgX hgY hgZ hgR hbW hsV hT HW
  have hc7 := cut_all Tryd.underlying56 Tryd.sizeU64s T 0 (by decide)
  have hc5 := cut_all Tryd.underlying54 Tryd.sizeU64s (w.heap.size + 2) 0 (by decide)
  go_region_law ((refine step_copy_vals rfl (.tmp 11) (.tmp 12) 81 rfl 52 Tryd.underlying81 Tryd.sizeU64s T 0 8 8 4 4 (w.heap.size + 2) 0 (by rfl) (by rfl) (u64v (uptoW 8 [])) 56 hgT.out (u64v Z) (by rw [u64v_len, HZL.out]; rfl) (row_cells hgZ1.out) (u64v_one _) (by decide) V (But.refl T V).drew ?_; intro w2 hg2' hb2))
  rw [long_start Z HZL.out] at hg2'
  have hTo := vlt (tout_first X Y Z HZL.out HBZ.out)
  generalize Z ++ [0, 0, 0, 0] = U0 at hg2' hTo
  clear hc7 hc5 hgT
  have hsT : T < w2.heap.size := (Array.getElem?_eq_some_iff.1 hg2'.out).1
  go_wp2_with fail
  go_loopw [14] (fun s wr => ∃ (i : Nat) (U : List Nat), i ≤ 4 ∧ s = .int .i64 (i : Int) ∧ Hid (wr.heap[T]? = some (.cells (u64v U).toArray 56 (0, 0))) ∧ Vlt (Tout X Y Z U i) ∧ But T V wr) (fun s _ => 4 - (intOf s).toNat)
  case atStart => exact ⟨0, U0, by omega, rfl, hg2', hTo, hb2⟩
  case round =>
    clear hg2' hTo hb2
    obtain ⟨i, U, hi, rfl, hg, hO, hbt⟩ := hrel
    by_cases hlt : i < 4
    · have lx := natB_mem HBX.out i
      have hRow := vlt hO.out.row
      obtain ⟨x, hx⟩ : ∃ x, x = natAt X i := ⟨_, rfl⟩
      rw [← hx] at lx hRow
      have HX := vlt hx
      clear hx
      go_upto_region 7 with fail
      obtain ⟨Y0, hY0⟩ : ∃ Y0, Y0 = wr := ⟨_, rfl⟩
      subst hY0
      go_wp2_with fail
      generalize decide ((i : Int) < 4) = b1
      go_loopw [9, 17] (fun cc kk wi => ∃ (k c : Nat) (U1 : List Nat), k ≤ 4 ∧ kk = .int .i64 (k : Int) ∧ cc = .int .u64 (c : Int) ∧ c < B64 ∧ Hid (wi.heap[T]? = some (.cells (u64v U1).toArray 56 (0, 0))) ∧ Vlt (Trow x Y U U1 i k c) ∧ But T V wi) (fun _ kk _ => 4 - (intOf kk).toNat)
      case atStart => exact ⟨0, 0, U, by omega, rfl, rfl, by decide, hg, hRow, hbt⟩
      case round =>
        clear hg hbt hRow
        obtain ⟨k, c, U1, hk, rfl, rfl, hc, hg, hR, hbt⟩ := hrel
        by_cases hkt : k < 4
        · have hgx : Hid (wr.heap[w.heap.size]? = some (.cells (u64v X).toArray 54 (0, 0))) := (hbt.block _ (by omega) (by intro e; injection e; omega)).trans hgX1.out
          have hgy : Hid (wr.heap[w.heap.size + 1]? = some (.cells (u64v Y).toArray 54 (0, 0))) := (hbt.block _ (by omega) (by intro e; injection e; omega)).trans hgY1.out
          have c0 := long_at hgx.out i (by rw [HXL.out]; exact hlt)
          rw [← HX.out] at c0
          have c1 := long_at hgy.out k (by rw [HYL.out]; exact hkt)
          have c2 := long_at hg.out (i + k) (by rw [hR.out.len]; omega)
          have ly := natB_mem HBY.out k
          have lz := natB_mem hR.out.bound (i + k)
          have hN := vlt (fun low high e hl hh => hR.out.step HYL.out hlt hkt low high e hl hh)
          have hlen := Lib.hid hR.out.len
          have hik : IntKind.i64.wrap ((i : Int) + (k : Int)) = (i : Int) + (k : Int) := IntWalk.i64_in _ (by omega)
          have hin1 : 0 ≤ (i : Int) + (k : Int) := by omega
          have hin2 : (i : Int) + (k : Int) < 8 := by omega
          have hin3 : ((i : Int) + (k : Int)).toNat = i + k := by omega
          generalize natAt Y k = y at *
          generalize natAt U1 (i + k) = z at *
          clear hR
          go_wp2_with fail
          refine c_start (S := (fun W' => W'.cell? ⟨w.heap.size, i, none⟩ = some (.int .u64 (x : Int)) ∧ W'.cell? ⟨w.heap.size + 1, k, none⟩ = some (.int .u64 (y : Int)) ∧ W'.cell? ⟨T, i + k, none⟩ = some (.int .u64 (z : Int)))) 21 (by kernel_rfl) (⟨c0, c1, c2⟩) (fun hHeld => ?_)
          refine c_take (i := 0) (oi := ⟨(some 21), _, _, _, _, _⟩) (v := ?vq1_0) rfl (by decide) (by kernel_rfl) (by kernel_rfl) (by kernel_rfl) (fun _ _ _ h => h) (Or.inl ⟨by rfl, ?yq1_0⟩) hHeld ?_
          case yq1_0 => (intro W0 hSw; go_simp; try with_reducible rfl)
          try simp only [Act.put, List.setIfInBounds_toArray, List.set_cons_zero, List.set_cons_succ]
          refine c_take (i := 1) (oi := ⟨(some 22), _, _, _, _, _⟩) (v := ?vq1_1) rfl (by decide) (by kernel_rfl) (by kernel_rfl) (by kernel_rfl) (fun _ _ _ h => h) (Or.inl ⟨by rfl, ?yq1_1⟩) hHeld ?_
          case yq1_1 => (intro W0 hSw; go_simp; try with_reducible rfl)
          try simp only [Act.put, List.setIfInBounds_toArray, List.set_cons_zero, List.set_cons_succ]
          refine c_take (i := 2) (oi := ⟨(some 23), _, _, _, _, _⟩) (v := ?vq1_2) rfl (by decide) (by kernel_rfl) (by kernel_rfl) (by kernel_rfl) (fun _ _ _ h => h) (Or.inl ⟨by rfl, ?yq1_2⟩) hHeld ?_
          case yq1_2 => (intro W0 hSw; go_simp; try with_reducible rfl)
          try simp only [Act.put, List.setIfInBounds_toArray, List.set_cons_zero, List.set_cons_succ]
          refine c_take (i := 3) (oi := ⟨(some 24), _, _, _, _, _⟩) (v := ?vq1_3) rfl (by decide) (by kernel_rfl) (by kernel_rfl) (by kernel_rfl) (fun _ _ _ h => h) (Or.inl ⟨by rfl, ?yq1_3⟩) hHeld ?_
          case yq1_3 => (intro W0 hSw; go_simp; try with_reducible rfl)
          try simp only [Act.put, List.setIfInBounds_toArray, List.set_cons_zero, List.set_cons_succ]
          refine c_take (i := 4) (oi := ⟨(some 25), _, _, _, _, _⟩) (v := ?vq1_4) rfl (by decide) (by kernel_rfl) (by kernel_rfl) (by kernel_rfl) (fun _ _ _ h => h) (Or.inl ⟨by rfl, ?yq1_4⟩) hHeld ?_
          case yq1_4 => (intro W0 hSw; go_simp; try with_reducible rfl)
          try simp only [Act.put, List.setIfInBounds_toArray, List.set_cons_zero, List.set_cons_succ]
          refine c_read (i := 5) (oi := ⟨(some 26), _, _, _, _, _⟩) (v := ?vq1_5) rfl (by decide) (by kernel_rfl) (by kernel_rfl) (by kernel_rfl) (by kernel_rfl) (by kernel_rfl) (fun _ _ _ h => h) (Or.inl ⟨by rfl, ?yq1_5⟩) hHeld ?_
          case yq1_5 => (intro W0 hSw; go_simp; try with_reducible rfl)
          try simp only [Act.put, List.setIfInBounds_toArray, List.set_cons_zero, List.set_cons_succ]
          refine c_take (i := 6) (oi := ⟨(some 27), _, _, _, _, _⟩) (v := ?vq1_6) rfl (by decide) (by kernel_rfl) (by kernel_rfl) (by kernel_rfl) (fun _ _ _ h => h) (Or.inl ⟨by rfl, ?yq1_6⟩) hHeld ?_
          case yq1_6 => (intro W0 hSw; go_simp; try with_reducible rfl)
          try simp only [Act.put, List.setIfInBounds_toArray, List.set_cons_zero, List.set_cons_succ]
          refine c_take (i := 7) (oi := ⟨(some 28), _, _, _, _, _⟩) (v := ?vq1_7) rfl (by decide) (by kernel_rfl) (by kernel_rfl) (by kernel_rfl) (fun _ _ _ h => h) (Or.inl ⟨by rfl, ?yq1_7⟩) hHeld ?_
          case yq1_7 => (intro W0 hSw; go_simp; try with_reducible rfl)
          try simp only [Act.put, List.setIfInBounds_toArray, List.set_cons_zero, List.set_cons_succ]
          refine c_read (i := 8) (oi := ⟨(some 29), _, _, _, _, _⟩) (v := ?vq1_8) rfl (by decide) (by kernel_rfl) (by kernel_rfl) (by kernel_rfl) (by kernel_rfl) (by kernel_rfl) (fun _ _ _ h => h) (Or.inl ⟨by rfl, ?yq1_8⟩) hHeld ?_
          case yq1_8 => (intro W0 hSw; go_simp; try with_reducible rfl)
          try simp only [Act.put, List.setIfInBounds_toArray, List.set_cons_zero, List.set_cons_succ]
          refine c_take (i := 9) (oi := ⟨(some 30), _, _, _, _, _⟩) (v := ?vq1_9) rfl (by decide) (by kernel_rfl) (by kernel_rfl) (by kernel_rfl) (fun _ _ _ h => h) (Or.inl ⟨by rfl, ?yq1_9⟩) hHeld ?_
          case yq1_9 => (intro W0 hSw; go_simp; try with_reducible rfl)
          try simp only [Act.put, List.setIfInBounds_toArray, List.set_cons_zero, List.set_cons_succ]
          refine c_take (i := 10) (oi := ⟨(some 31), _, _, _, _, _⟩) (v := ?vq1_10) rfl (by decide) (by kernel_rfl) (by kernel_rfl) (by kernel_rfl) (fun _ _ _ h => h) (Or.inl ⟨by rfl, ?yq1_10⟩) hHeld ?_
          case yq1_10 => (intro W0 hSw; go_simp; try with_reducible rfl)
          try simp only [Act.put, List.setIfInBounds_toArray, List.set_cons_zero, List.set_cons_succ]
          refine c_take (i := 11) (oi := ⟨(some 32), _, _, _, _, _⟩) (v := ?vq1_11) rfl (by decide) (by kernel_rfl) (by kernel_rfl) (by kernel_rfl) (fun _ _ _ h => h) (Or.inl ⟨by rfl, ?yq1_11⟩) hHeld ?_
          case yq1_11 => (intro W0 hSw; go_simp; try with_reducible rfl)
          try simp only [Act.put, List.setIfInBounds_toArray, List.set_cons_zero, List.set_cons_succ]
          refine c_take (i := 12) (oi := ⟨(some 33), _, _, _, _, _⟩) (v := ?vq1_12) rfl (by decide) (by kernel_rfl) (by kernel_rfl) (by kernel_rfl) (fun _ _ _ h => h) (Or.inl ⟨by rfl, ?yq1_12⟩) hHeld ?_
          case yq1_12 => (intro W0 hSw; go_simp; try with_reducible rfl)
          try simp only [Act.put, List.setIfInBounds_toArray, List.set_cons_zero, List.set_cons_succ]
          refine c_read (i := 13) (oi := ⟨(some 34), _, _, _, _, _⟩) (v := ?vq1_13) rfl (by decide) (by kernel_rfl) (by kernel_rfl) (by kernel_rfl) (by kernel_rfl) (by kernel_rfl) (fun _ _ _ h => h) (Or.inl ⟨by rfl, ?yq1_13⟩) hHeld ?_
          case yq1_13 => (intro W0 hSw; go_simp; try with_reducible rfl)
          try simp only [Act.put, List.setIfInBounds_toArray, List.set_cons_zero, List.set_cons_succ]
          refine c_take (i := 14) (oi := ⟨(some 35), _, _, _, _, _⟩) (v := ?vq1_14) rfl (by decide) (by kernel_rfl) (by kernel_rfl) (by kernel_rfl) (fun _ _ _ h => h) (Or.inl ⟨by rfl, ?yq1_14⟩) hHeld ?_
          case yq1_14 => (intro W0 hSw; go_simp; try with_reducible rfl)
          try simp only [Act.put, List.setIfInBounds_toArray, List.set_cons_zero, List.set_cons_succ]
          refine c_step (i := 15) (o := ⟨(some 36), _, _, _, _, _⟩) (by kernel_rfl) rfl (fun K hK => ?_)
          go_simp
          refine (lstep_any _ x y z c lx ly lz hc).mono ?_
          rintro e w3 ⟨h, l, rfl, he, lh, ll, rfl⟩
          refine hK.out _ _ (hHeld) (fun hHeld => ?_)
          clear hK K
          try simp only [Act.put, List.setIfInBounds_toArray, List.set_cons_zero, List.set_cons_succ]
          refine c_take (i := 16) (oi := ⟨(some 20), _, _, _, _, _⟩) (v := ?vq1_15) rfl (by decide) (by kernel_rfl) (by kernel_rfl) (by kernel_rfl) (fun _ _ _ h => h) (Or.inl ⟨by rfl, ?yq1_15⟩) hHeld ?_
          case yq1_15 => (intro W0 hSw; go_simp; try with_reducible rfl)
          try simp only [Act.put, List.setIfInBounds_toArray, List.set_cons_zero, List.set_cons_succ]
          refine c_take (i := 17) (oi := ⟨(some 37), _, _, _, _, _⟩) (v := ?vq1_16) rfl (by decide) (by kernel_rfl) (by kernel_rfl) (by kernel_rfl) (fun _ _ _ h => h) (Or.inl ⟨by rfl, ?yq1_16⟩) hHeld ?_
          case yq1_16 => (intro W0 hSw; go_simp; try with_reducible rfl)
          try simp only [Act.put, List.setIfInBounds_toArray, List.set_cons_zero, List.set_cons_succ]
          refine c_take (i := 18) (oi := ⟨(some 38), _, _, _, _, _⟩) (v := ?vq1_17) rfl (by decide) (by kernel_rfl) (by kernel_rfl) (by kernel_rfl) (fun _ _ _ h => h) (Or.inl ⟨by rfl, ?yq1_17⟩) hHeld ?_
          case yq1_17 => (intro W0 hSw; go_simp; try with_reducible rfl)
          try simp only [Act.put, List.setIfInBounds_toArray, List.set_cons_zero, List.set_cons_succ]
          refine c_take (i := 19) (oi := ⟨(some 9), _, _, _, _, _⟩) (v := ?vq1_18) rfl (by decide) (by kernel_rfl) (by kernel_rfl) (by kernel_rfl) (fun _ _ _ h => h) (Or.inl ⟨by rfl, ?yq1_18⟩) hHeld ?_
          case yq1_18 => (intro W0 hSw; go_simp; try with_reducible rfl)
          try simp only [Act.put, List.setIfInBounds_toArray, List.set_cons_zero, List.set_cons_succ]
          refine c_take (i := 20) (oi := ⟨(some 39), _, _, _, _, _⟩) (v := ?vq1_19) rfl (by decide) (by kernel_rfl) (by kernel_rfl) (by kernel_rfl) (fun _ _ _ h => h) (Or.inl ⟨by rfl, ?yq1_19⟩) hHeld ?_
          case yq1_19 => (intro W0 hSw; go_simp; try with_reducible rfl)
          try simp only [Act.put, List.setIfInBounds_toArray, List.set_cons_zero, List.set_cons_succ]
          refine c_call (S' := (fun _ => True)) (o := ⟨none, _, _, _, _, _⟩) (by kernel_rfl) (by kernel_rfl) rfl (fun K hK => ?_)
          clear hHeld
          refine step_set rfl 52 (.tmp 39) (.tmp 38) rfl Tryd.sizeU64s T (i + k) (by rfl) .u64 (l : Int) (by rfl) (u64v U1) 56 hg.out (by rw [u64v_len, hlen.out]; omega) V hbt.drew ?_
          intro w4 hg4 hb4
          refine hK.out _ _ (trivial) (fun hHeld => ?_)
          clear hK K
          try simp only [Act.put]
          refine wpAnyH_done (by kernel_rfl) ?_ _
          rw [u64v_set] at hg4
          have hT2 := vlt (hN.out l h he.out ll lh)
          clear he hN
          go_wp2
          go_roundw
          case rel => exact ⟨k + 1, h, _, by omega, by go_num, rfl, lh, hg4, hT2, hb4⟩
          case measure => simp [intOf]; omega
        · obtain rfl : k = 4 := by omega
          have hO2 := vlt (hO.out.next HXL.out HYL.out hlt (by have h := hR.out; rwa [HX.out] at h))
          have c2 := long_at hg.out (i + 4) (by rw [hR.out.len]; omega)
          have f2 : wr.frozen? ⟨T, i + 4, none⟩ = false := frozen_of_row _ _ _ _ _ hg.out
          have hset := world_set_cell hg.out (i + 4) (.int .u64 (c : Int))
          rw [u64v_set] at hset
          have hb3 := hbt.set (i := i + 4) (.int .u64 (c : Int))
          generalize natAt U1 (i + 4) = z at *
          clear hg hR hO hbt
          go_wp2
          go_roundw
          case rel => exact ⟨i + 1, _, by omega, by go_num, hset, hO2, hb3⟩
          case measure => simp [intOf]; omega
    · obtain rfl : i = 4 := by omega
      have hV := vlt (show nB U = nB Z + nB X * nB Y by have h := hO.out.val; rwa [List.take_of_length_le (by rw [HXL.out]; decide)] at h)
      have hUL := Lib.hid hO.out.len
      have hUB := vlt hO.out.bound
      have HUS := Lib.hid (show (u64v U).toArray.size = 8 by simp [u64v_len, hUL.out])
      have HZS := Lib.hid (show (u64v (uptoW 8 [])).toArray.size = 8 from rfl)
      have hz4 : Hid (wr.heap[w.heap.size + 3]? = some (.cells (u64v (uptoW 8 [])).toArray 56 (0, 0))) := (hbt.block _ (by omega) (by intro e; injection e; omega)).trans hgR1.out
      have hb4 : Below w.heap.size w wr := But.below hbw1 hbt (by omega) (by omega)
      clear hO
      go_wp2_with (first
        | (with_reducible refine wpList_load_row rfl 56 (.tmp 7) rfl T rfl 56 (u64v U).toArray (0, 0) _ hg.out Tryd.underlying56 rfl (by rw [HUS.out]; kernel_rfl) ?_)
        | (with_reducible refine wpList_store_row rfl 56 (.tmp 6) (.tmp 46) rfl (w.heap.size + 1 + 1 + 1) (u64v U).toArray rfl rfl 56 _ hz4.out (by rw [HUS.out]; kernel_rfl) (by rw [HUS.out]; exact HZS.out) (all_oneCell_toArray (u64v_one _)) ?_))
      refine bodyPost_ret (v := .agg (u64v U).toArray) (results_cell_row Tryd.results28 _ _ (w.heap.size + 1 + 1 + 1) 56 _ (0, 0) _ rfl (setRow_heap _ _ _ _ _ _ hz4.out) Tryd.underlying56 rfl (by rw [HUS.out]; kernel_rfl)) rfl ⟨U, rfl, hV, hUL, hUB, below_setRow hb4 (by omega) _⟩
end Go.Proofs.YtcefdcjpddohaaaDoor
