/-
  AeadKnown: the law's Go text returns true. Conditions: none.
-/
import Derived.Test.YtkeejkhapmcanaaPkF
import Derived.Test.YtkeejkhapmcanaaAeN
import Derived.Test.YtkeejkhapmcanaaPkA
import Derived.Great.BuildSlice
namespace Go.Proofs.Ytkeejkhapmcanaa
open Go.RowKit

def z12 : List UInt8 := List.replicate 12 0
theorem zero_b12 (w : World) : (zeroValue 25).run Try.prog w = .ok (.agg (bv z12).toArray) w := by kernel_rfl
theorem built_w6k : Try.prog.built 24 [] = some (bv z32).toArray := by kernel_rfl
theorem built_sunNonce : Try.prog.built 25 [(0, .int .u8 7), (1, .int .u8 0), (2, .int .u8 0), (3, .int .u8 0), (4, .int .u8 64), (5, .int .u8 65), (6, .int .u8 66), (7, .int .u8 67), (8, .int .u8 68), (9, .int .u8 69), (10, .int .u8 70), (11, .int .u8 71)] = some (bv sunNonce).toArray := by kernel_rfl
/-- Two new blocks, the first of which is written once more, then the second. -/
theorem pair_row (w : World) (a b a' b' : Array Value) (s t : TypeId) :
    ∃ V U, ((w.alloc (.cells a s)).alloc (.cells b t)).setRow w.heap.size a' = V ∧ Hid (V.heap[w.heap.size + 1]? = some (.cells b t (0, 0))) ∧ V.setRow (w.heap.size + 1) b' = U ∧ Hid (U.heap[w.heap.size]? = some (.cells a' s (0, 0))) ∧ Hid (U.heap[w.heap.size + 1]? = some (.cells b' t (0, 0))) ∧ Below w.heap.size w U ∧ Hid (U.heap.size = w.heap.size + 2) := by
  have h1 : (((w.alloc (.cells a s)).alloc (.cells b t)).setRow w.heap.size a').heap[w.heap.size]? = some (.cells a' s (0, 0)) := setRow_heap _ _ _ _ _ _ (heap_alloc2_old _ _ _)
  have h2 : (((w.alloc (.cells a s)).alloc (.cells b t)).setRow w.heap.size a').heap[w.heap.size + 1]? = some (.cells b t (0, 0)) := by
    rw [setRow_other _ _ _ _ (by omega)]
    exact heap_alloc2_new _ _ _
  refine ⟨_, _, rfl, h2, rfl, show _ = _ from ?_, setRow_heap _ _ _ _ _ _ h2, below_setRow (below_setRow (((Below.refl _ _).alloc (Nat.le_refl _) _).alloc (by simp) _) (Nat.le_refl _) _) (by omega) _, show _ = _ by simp [World.setRow]⟩
  rw [setRow_other _ _ _ _ (by omega)]
  exact h1

def sunInts : List Int := [76, 97, 100, 105, 101, 115, 32, 97, 110, 100, 32, 71, 101, 110, 116, 108, 101, 109, 101, 110, 32, 111, 102, 32, 116, 104, 101, 32, 99, 108, 97, 115, 115, 32, 111, 102, 32, 39, 57, 57, 58, 32, 73, 102, 32, 73, 32, 99, 111, 117, 108, 100, 32, 111, 102, 102, 101, 114, 32, 121, 111, 117, 32, 111, 110, 108, 121, 32, 111, 110, 101, 32, 116, 105, 112, 32, 102, 111, 114, 32, 116, 104, 101, 32, 102, 117, 116, 117, 114, 101, 44, 32, 115, 117, 110, 115, 99, 114, 101, 101, 110, 32, 119, 111, 117, 108, 100, 32, 98, 101, 32, 105, 116, 46]
theorem sunInts_bv : (sunInts.map (Value.int .u8)) = bv sunPlain := by kernel_rfl
theorem unhex_sun (w : World) :
    Calls Try.prog 8 #[.string sunDigits] w fun e w' => ∃ A' c', e = .returned (.tuple #[.slice A' 12 c', .bool true]) ∧ Res w' w.heap.size 5 A' 12 c' sunBeside ∧ Below w.heap.size w w' := by
  have h := refUnhex_ok sunDigits sunBeside w (by decide) sun_unhex
  exact h
theorem seal_sun (w : World) (M : Array Value) (hM : M.toList = bv sunPlain) (g : Nat × Nat) (D : Option Addr) (d : Nat) (hb : Byt w w.heap.size D sunBeside) (hd : 12 ≤ d) :
    Calls Try.prog 9 #[.agg (bv sunKey).toArray, .agg (bv sunNonce).toArray, .slice (some ⟨w.heap.size, 0, none⟩) 114 114, .slice D 12 d] (w.alloc (.cells M 5 g))
      fun e w' => ∃ A' c', e = .returned (.tuple #[.slice A' 130 c', .int .i64 0]) ∧ Res w' w.heap.size 5 A' 130 c' sunSeal ∧ Below w.heap.size w w' := by
  have b1 : Below w.heap.size w (w.alloc (.cells M 5 g)) := (Below.refl _ _).alloc (Nat.le_refl _) _
  have hm := Byt.lit_cold w 5 M g sunPlain hM
  have h := aseal_ok _ sunKey sunNonce rfl rfl (some ⟨w.heap.size, 0, none⟩) sunPlain 114 114 hm rfl (Nat.le_refl _) (by decide) D sunBeside 12 d ((hb.below b1).up b1.size) rfl hd (by decide)
  refine h.mono ?_
  rintro e w' ⟨A', c', S, rfl, hS, hr, hb⟩
  have h2 := hS.out
  rw [sun_known] at h2
  subst h2
  exact ⟨A', c', rfl, hr.base_le b1.size, b1.trans (hb.mono b1.size)⟩
theorem open_15 (w : World) (B : Option Addr) (hb : Byt w w.heap.size B (List.replicate 15 0)) :
    Calls Try.prog 10 #[.agg (bv sunKey).toArray, .agg (bv sunNonce).toArray, .slice B 15 15, .slice none 0 0] w
      fun e w' => ∃ A' k' c', e = .returned (.tuple #[.slice A' k' c', .int .i64 8]) ∧ Below w.heap.size w w' := by
  have h := aopen_any w sunKey sunNonce rfl rfl B (List.replicate 15 0) 15 15 hb rfl (Nat.le_refl _) (by decide) none [] 0 0 Byt.none_ rfl (Nat.le_refl _) (by decide)
  refine h.mono ?_
  rintro e w' ⟨A', k, c', p, x, rfl, hp, hr, hb⟩
  have h2 := hp.out
  rw [openOf_short _ _ _ _ (by decide)] at h2
  injection h2 with h3 h4
  subst h3 h4
  exact ⟨A', k, c', rfl, hb⟩
/-- make of noughts as one step of a region that draws its order. -/
theorem step_mk {ops : Array Oper} {o : Oper} {a : Act} {w : World} {K : Act → World → Prop} {Q : Exit → Act → World → Prop} {E : Prop} (hw : Region.wanted o (yielded ops a.tmps) = true) (x y : Operand) (ho : o.op = .makeSlice 26 x y) (k : Nat) (hx : a.eval x = .int .i64 (k : Int)) (hy : a.eval y = .int .i64 (k : Int)) (hk : k ≤ 281474976710656)
    (h : ∀ A w', Byt w' w'.heap.size A (List.replicate k 0) → Below w.heap.size w w' → K (a.put o.dst (.slice A k k)) w') : if Region.wanted o (yielded ops a.tmps) = true then Oper.wp Try.prog o a w K Q else E := by
  rw [if_pos hw]
  obtain ⟨i0, hi, hz0, hz1, hz2⟩ := info_parts Try.infoByte
  obtain ⟨w1, hrun, hg1, hb1, hs1⟩ := make_bytes (P := Try.prog) Try.underlying26 hi hz0 hz1 hz2 k k (k : Int) (k : Int) rfl rfl (Nat.le_refl _) hk w
  have h1 := h _ _ (byt_row hg1.out) hb1.out
  unfold Oper.wp
  simp only [execOp, ho, hx, hy, Sem.run_bind, hrun, Result.andThen_ok]
  exact h1

set_option maxRecDepth 100000 in
set_option maxHeartbeats 2000000 in
theorem walk_AeadKnown (w : World) :
    Calls Try.prog 3 #[] w fun e w' => e = .returned (.bool true) ∧ Below w.heap.size w w' := by
  have hz12 := zero_b12
  have hzw := zero_w6
  have HZ32 := Lib.hid (show (bv z32).toArray.size = 32 from rfl)
  have HZ12 := Lib.hid (show (bv z12).toArray.size = 12 from rfl)
  have HSN := Lib.hid (show (bv sunNonce).toArray.size = 12 from rfl)
  go_enter Try.func3, Try.ntmps3
  go_wp2_with fail
  refine (awake6_any w).mono ?_
  rintro e w1 ⟨rfl, hb1⟩
  obtain ⟨V, U, hV, hVn, hU, hgK, hgN, hbU, hsU⟩ := pair_row w1 (bv z32).toArray (bv z12).toArray (bv z32).toArray (bv sunNonce).toArray 24 25
  have HV := Lib.hid hV
  have HU := Lib.hid hU
  clear hV hU
  go_upto_region 4 with (first
    | (with_reducible refine wpList_build_to rfl 24 _ rfl [] (by rfl) _ built_w6k ?_)
    | (with_reducible refine wpList_build_to rfl 25 _ rfl [(0, .int .u8 7), (1, .int .u8 0), (2, .int .u8 0), (3, .int .u8 0), (4, .int .u8 64), (5, .int .u8 65), (6, .int .u8 66), (7, .int .u8 67), (8, .int .u8 68), (9, .int .u8 69), (10, .int .u8 70), (11, .int .u8 71)] (by rfl) _ built_sunNonce ?_)
    | ((with_reducible refine wpList_store_row rfl 24 (.tmp 1) (.tmp 17) rfl w1.heap.size (bv z32).toArray rfl rfl 24 _ (heap_alloc2_old _ _ _) (by rw [HZ32.out]; kernel_rfl) (by rw [HZ32.out]) (all_oneCell_toArray (bv_one _)) ?_); rw [HV.out])
    | ((with_reducible refine wpList_store_row rfl 25 (.tmp 2) (.tmp 18) rfl (w1.heap.size + 1) (bv sunNonce).toArray rfl rfl 25 _ hVn.out (by rw [HSN.out]; kernel_rfl) (by rw [HSN.out, HZ12.out]) (all_oneCell_toArray (bv_one _)) ?_); rw [HU.out]))
  rw [← kup_none] at hgK
  have hbU1 := below_next hb1 hb1.size hbU
  have hsK : w1.heap.size < U.heap.size := (Array.getElem?_eq_some_iff.1 hgK.out).1
  have hlow := hb1.size
  clear HV HU hVn hb1 hbU HZ12 HZ32 hz12
  go_wp2
  go_loopw [3] (fun i wr => ∃ k : Nat, k ≤ 32 ∧ i = .int .i64 (k : Int) ∧ Hid (wr.heap[w1.heap.size]? = some (.cells (bv (kup k)).toArray 24 (0, 0))) ∧ But w1.heap.size U wr) (fun i _ => 32 - (intOf i).toNat)
  case atStart => exact ⟨0, by omega, rfl, hgK, But.refl _ _⟩
  case round =>
    clear hgK
    obtain ⟨k, hk, rfl, hg, hbut⟩ := hrel
    by_cases hlt : k < 32
    · have e8 : ((UInt8.ofNat (128 + k)).toNat : Int) = 128 + (k : Int) := by rw [UInt8.toNat_ofNat']; omega
      have hset := world_set_cell hg.out k (.int .u8 ((UInt8.ofNat (128 + k)).toNat : Int))
      rw [bv_set, kup_set ⟨k, hlt⟩, e8] at hset
      have hkl : k < (bv (kup k)).length := by rw [bv_len, kup_len k hk]; exact hlt
      have hc := cell_of_row wr w1.heap.size k _ _ _ hg.out
      have hf := frozen_of_row wr w1.heap.size k _ _ hg.out
      go_wp2_with fail
      exact ⟨⟨k + 1, by omega, by go_num, hset, hbut.set _⟩, by simp [intOf]; omega⟩
    · have HK32 := Lib.hid (show k = 32 by omega)
      have hgK : Hid (wr.heap[w1.heap.size]? = some (.cells (bv sunKey).toArray 24 (0, 0))) := by
        have h := hg.out
        rw [HK32.out, kup_all] at h
        exact h
      have hgN1 : Hid (wr.heap[w1.heap.size + 1]? = some (.cells (bv sunNonce).toArray 25 (0, 0))) := (hbut.block _ (by have := hsU.out; omega) (by intro e; injection e; omega)).trans hgN.out
      have hbw : Below w.heap.size w wr := But.below hbU1 hbut (by have := hbU1.size; omega) hbU1.size
      have hs0 : w1.heap.size + 1 < wr.heap.size := by have := hbut.size; have := hsU.out; omega
      have hs0' : w1.heap.size < wr.heap.size := Nat.lt_of_succ_lt hs0
      have HKS := Lib.hid (show (bv sunKey).toArray.size = 32 from rfl)
      clear hg hbut hgN hbU1 hsK hsU
      have kc := fun (w : World) (C : Array Value) (n c : Nat) => Lib.run_convert_bytes_const (P := Try.prog) w 26 5 C n c Try.underlying26 Try.underlying5
      go_wp2_with fail
      refine (unhex_sun wr).mono ?_
      rintro e w3 ⟨A3, c3, rfl, hr3, hb3⟩
      have hgK3 : Hid (w3.heap[w1.heap.size]? = some (.cells (bv sunKey).toArray 24 (0, 0))) := (hb3.block _ hs0').trans hgK.out
      have hgN3 : Hid (w3.heap[w1.heap.size + 1]? = some (.cells (bv sunNonce).toArray 25 (0, 0))) := (hb3.block _ hs0).trans hgN1.out
      have hbw3 := below_next hbw hbw.size hb3
      have hs3 : w1.heap.size + 1 < w3.heap.size := Nat.lt_of_lt_of_le hs0 hb3.size
      have hs3' : w1.heap.size < w3.heap.size := Nat.lt_of_succ_lt hs3
      clear hb3 hbw hgK hgN1 hs0 hs0'
      go_wp2_with (first
        | (with_reducible refine wpList_load_row rfl 24 (.tmp 1) rfl w1.heap.size rfl 24 (bv sunKey).toArray (0, 0) _ hgK3.out Try.underlying24 rfl (by rw [HKS.out]; kernel_rfl) ?_)
        | (with_reducible refine wpList_load_row rfl 25 (.tmp 2) rfl (w1.heap.size + 1) rfl 25 (bv sunNonce).toArray (0, 0) _ hgN3.out Try.underlying25 rfl (by rw [HSN.out]; kernel_rfl) ?_)
        | ((refine wpList_buildFlat rfl 26 5 114 _ rfl .u8 sunInts Try.underlying26 Try.sizeByte (by kernel_rfl) rfl (by decide) (by decide) (by kernel_rfl) ?_); rw [sunInts_bv]))
      refine (seal_sun w3 (bv sunPlain).toArray (by simp) _ A3 c3 hr3.byt hr3.cap).mono ?_
      rintro e w4 ⟨A4, c4, rfl, hr4, hb4⟩
      have HKL := Lib.hid (show (bv sunKey).length = 32 from rfl)
      have HNL := Lib.hid (show (bv sunNonce).length = 12 from rfl)
      generalize ((bv z12).set 0 (Value.int .u8 7)) = cn0 at *
      have hgK4 : Hid (w4.heap[w1.heap.size]? = some (.cells (bv sunKey).toArray 24 (0, 0))) := (hb4.block _ hs3').trans hgK3.out
      have hgN4 : Hid (w4.heap[w1.heap.size + 1]? = some (.cells (bv sunNonce).toArray 25 (0, 0))) := (hb4.block _ hs3).trans hgN3.out
      have hbw4 := below_next hbw3 hbw3.size hb4
      have hs4 : w1.heap.size + 1 < w4.heap.size := Nat.lt_of_lt_of_le hs3 hb4.size
      have hs4' : w1.heap.size < w4.heap.size := Nat.lt_of_succ_lt hs4
      clear hb4 hr3 hgK3 hgN3 hs3 hs3' hbw3 kc
      go_wp2_with fail
      refine wp_region_held_drew (S := (fun W' => Below w4.heap.size w4 W')) (by kernel_rfl) ((Below.refl _ _).drew) (fun hHeld => ?_)
      refine wpAnyH_take (i := 0) (oi := ⟨(some 42), _, _, _, _, _⟩) (v := _) rfl (by kernel_rfl) (by kernel_rfl) (by kernel_rfl) (fun _ _ _ h => h) (yieldsIf_load_mid (by rfl) _ _ rfl w1.heap.size 0 rfl (bv sunKey) _ (fun W' hW' => range_row ((hW'.block _ hs4').trans hgK4.out)) (Try.underlying24) (rfl) (by rw [HKL.out]; kernel_rfl)) hHeld ?_
      try simp only [Act.put, List.setIfInBounds_toArray, List.set_cons_zero, List.set_cons_succ]
      refine wpAnyH_take (i := 1) (oi := ⟨(some 43), _, _, _, _, _⟩) (v := _) rfl (by kernel_rfl) (by kernel_rfl) (by kernel_rfl) (fun _ _ _ h => h) (yieldsIf_load_mid (by rfl) _ _ rfl (w1.heap.size + 1) 0 rfl (bv sunNonce) _ (fun W' hW' => range_row ((hW'.block _ hs4).trans hgN4.out)) (Try.underlying25) (rfl) (by rw [HNL.out]; kernel_rfl)) hHeld ?_
      try simp only [Act.put, List.setIfInBounds_toArray, List.set_cons_zero, List.set_cons_succ]
      refine wpAnyH_ready (rs := [2]) (by kernel_rfl) (by simp) ?_
      refine AllReadyH.cons (i := 2) (o := ⟨(some 44), _, _, _, _, _⟩) rfl (fun K hK => ?_) AllReadyH.nil
      refine step_mk (by rfl) _ _ rfl 65537 (by rfl) (by rfl) (by decide) ?_
      intro B5 v5 f5 g5
      refine hK.out _ _ (below_next hHeld hHeld.size g5) (fun hHeld => ?_)
      clear hK K
      try simp only [Act.put, List.setIfInBounds_toArray, List.set_cons_zero, List.set_cons_succ]
      refine wpAnyH_ready (rs := [3]) (by kernel_rfl) (by simp) ?_
      refine AllReadyH.cons (i := 3) (o := ⟨(some 45), _, _, _, _, _⟩) rfl (fun K hK => ?_) AllReadyH.nil
      go_simp
      refine (aseal_no v5 sunKey sunNonce B5 none 65537 65537 0 0 (by decide) (by decide)).mono ?_
      rintro e w5 ⟨rfl, h5⟩
      refine hK.out _ _ (below_next hHeld hHeld.size h5) (fun hHeld => ?_)
      clear hK K
      try simp only [Act.put, List.setIfInBounds_toArray, List.set_cons_zero, List.set_cons_succ]
      refine wpAnyH_take (i := 4) (oi := ⟨(some 41), _, _, _, _, _⟩) (v := ?vq1_0) rfl (by kernel_rfl) (by kernel_rfl) (by kernel_rfl) (fun _ _ _ h => h) (Or.inl ⟨by rfl, ?yq1_0⟩) hHeld ?_
      case yq1_0 => (intro W0 hSw; go_simp; try with_reducible rfl)
      try simp only [Act.put, List.setIfInBounds_toArray, List.set_cons_zero, List.set_cons_succ]
      refine wpAnyH_take (i := 5) (oi := ⟨(some 46), _, _, _, _, _⟩) (v := ?vq1_1) rfl (by kernel_rfl) (by kernel_rfl) (by kernel_rfl) (fun _ _ _ h => h) (Or.inl ⟨by rfl, ?yq1_1⟩) hHeld ?_
      case yq1_1 => (intro W0 hSw; go_simp; try with_reducible rfl)
      try simp only [Act.put, List.setIfInBounds_toArray, List.set_cons_zero, List.set_cons_succ]
      refine wpAnyH_take (i := 6) (oi := ⟨(some 47), _, _, _, _, _⟩) (v := ?vq1_2) rfl (by kernel_rfl) (by kernel_rfl) (by kernel_rfl) (fun _ _ _ h => h) (Or.inl ⟨by rfl, ?yq1_2⟩) hHeld ?_
      case yq1_2 => (intro W0 hSw; go_simp; try with_reducible rfl)
      try simp only [Act.put, List.setIfInBounds_toArray, List.set_cons_zero, List.set_cons_succ]
      refine wpAnyH_take (i := 7) (oi := ⟨(some 8), _, _, _, _, _⟩) (v := ?vq1_3) rfl (by kernel_rfl) (by kernel_rfl) (by kernel_rfl) (fun _ _ _ h => h) (Or.inl ⟨by rfl, ?yq1_3⟩) hHeld ?_
      case yq1_3 => (intro W0 hSw; go_simp; try with_reducible rfl)
      try simp only [Act.put, List.setIfInBounds_toArray, List.set_cons_zero, List.set_cons_succ]
      refine wpAnyH_take (i := 8) (oi := ⟨(some 9), _, _, _, _, _⟩) (v := ?vq1_4) rfl (by kernel_rfl) (by kernel_rfl) (by kernel_rfl) (fun _ _ _ h => h) (Or.inl ⟨by rfl, ?yq1_4⟩) hHeld ?_
      case yq1_4 => (intro W0 hSw; go_simp; try with_reducible rfl)
      try simp only [Act.put, List.setIfInBounds_toArray, List.set_cons_zero, List.set_cons_succ]
      refine wpAnyH_done (by kernel_rfl) ?_ _
      have hb5 := hHeld
      clear hHeld
      have hgK5 : Hid (w5.heap[w1.heap.size]? = some (.cells (bv sunKey).toArray 24 (0, 0))) := (hb5.block _ hs4').trans hgK4.out
      have hgN5 : Hid (w5.heap[w1.heap.size + 1]? = some (.cells (bv sunNonce).toArray 25 (0, 0))) := (hb5.block _ hs4).trans hgN4.out
      have hbw5 := below_next hbw4 hbw4.size hb5
      have hs5 : w1.heap.size + 1 < w5.heap.size := Nat.lt_of_lt_of_le hs4 hb5.size
      have hs5' : w1.heap.size < w5.heap.size := Nat.lt_of_succ_lt hs5
      have hr5 := hr4.keep hb5
      clear hb5 f5 g5 h5 hgK4 hgN4 hs4 hs4' hbw4 hr4
      go_wp2_with fail
      refine wp_region_held_drew (S := (fun W' => Below w5.heap.size w5 W')) (by kernel_rfl) ((Below.refl _ _).drew) (fun hHeld => ?_)
      refine wpAnyH_take (i := 0) (oi := ⟨(some 49), _, _, _, _, _⟩) (v := _) rfl (by kernel_rfl) (by kernel_rfl) (by kernel_rfl) (fun _ _ _ h => h) (yieldsIf_load_mid (by rfl) _ _ rfl w1.heap.size 0 rfl (bv sunKey) _ (fun W' hW' => range_row ((hW'.block _ hs5').trans hgK5.out)) (Try.underlying24) (rfl) (by rw [HKL.out]; kernel_rfl)) hHeld ?_
      try simp only [Act.put, List.setIfInBounds_toArray, List.set_cons_zero, List.set_cons_succ]
      refine wpAnyH_take (i := 1) (oi := ⟨(some 50), _, _, _, _, _⟩) (v := _) rfl (by kernel_rfl) (by kernel_rfl) (by kernel_rfl) (fun _ _ _ h => h) (yieldsIf_load_mid (by rfl) _ _ rfl (w1.heap.size + 1) 0 rfl (bv sunNonce) _ (fun W' hW' => range_row ((hW'.block _ hs5).trans hgN5.out)) (Try.underlying25) (rfl) (by rw [HNL.out]; kernel_rfl)) hHeld ?_
      try simp only [Act.put, List.setIfInBounds_toArray, List.set_cons_zero, List.set_cons_succ]
      refine wpAnyH_ready (rs := [2]) (by kernel_rfl) (by simp) ?_
      refine AllReadyH.cons (i := 2) (o := ⟨(some 51), _, _, _, _, _⟩) rfl (fun K hK => ?_) AllReadyH.nil
      refine step_mk (by rfl) _ _ rfl 65553 (by rfl) (by rfl) (by decide) ?_
      intro B6 v6 f6 g6
      refine hK.out _ _ (below_next hHeld hHeld.size g6) (fun hHeld => ?_)
      clear hK K
      try simp only [Act.put, List.setIfInBounds_toArray, List.set_cons_zero, List.set_cons_succ]
      refine wpAnyH_ready (rs := [3]) (by kernel_rfl) (by simp) ?_
      refine AllReadyH.cons (i := 3) (o := ⟨(some 52), _, _, _, _, _⟩) rfl (fun K hK => ?_) AllReadyH.nil
      go_simp
      refine (aopen_limit v6 sunKey sunNonce B6 none 65553 65553 0 0 (by decide) (by decide)).mono ?_
      rintro e w6 ⟨rfl, h6⟩
      refine hK.out _ _ (below_next hHeld hHeld.size h6) (fun hHeld => ?_)
      clear hK K
      try simp only [Act.put, List.setIfInBounds_toArray, List.set_cons_zero, List.set_cons_succ]
      refine wpAnyH_take (i := 4) (oi := ⟨(some 48), _, _, _, _, _⟩) (v := ?vq2_0) rfl (by kernel_rfl) (by kernel_rfl) (by kernel_rfl) (fun _ _ _ h => h) (Or.inl ⟨by rfl, ?yq2_0⟩) hHeld ?_
      case yq2_0 => (intro W0 hSw; go_simp; try with_reducible rfl)
      try simp only [Act.put, List.setIfInBounds_toArray, List.set_cons_zero, List.set_cons_succ]
      refine wpAnyH_take (i := 5) (oi := ⟨(some 53), _, _, _, _, _⟩) (v := ?vq2_1) rfl (by kernel_rfl) (by kernel_rfl) (by kernel_rfl) (fun _ _ _ h => h) (Or.inl ⟨by rfl, ?yq2_1⟩) hHeld ?_
      case yq2_1 => (intro W0 hSw; go_simp; try with_reducible rfl)
      try simp only [Act.put, List.setIfInBounds_toArray, List.set_cons_zero, List.set_cons_succ]
      refine wpAnyH_take (i := 6) (oi := ⟨(some 54), _, _, _, _, _⟩) (v := ?vq2_2) rfl (by kernel_rfl) (by kernel_rfl) (by kernel_rfl) (fun _ _ _ h => h) (Or.inl ⟨by rfl, ?yq2_2⟩) hHeld ?_
      case yq2_2 => (intro W0 hSw; go_simp; try with_reducible rfl)
      try simp only [Act.put, List.setIfInBounds_toArray, List.set_cons_zero, List.set_cons_succ]
      refine wpAnyH_take (i := 7) (oi := ⟨(some 10), _, _, _, _, _⟩) (v := ?vq2_3) rfl (by kernel_rfl) (by kernel_rfl) (by kernel_rfl) (fun _ _ _ h => h) (Or.inl ⟨by rfl, ?yq2_3⟩) hHeld ?_
      case yq2_3 => (intro W0 hSw; go_simp; try with_reducible rfl)
      try simp only [Act.put, List.setIfInBounds_toArray, List.set_cons_zero, List.set_cons_succ]
      refine wpAnyH_take (i := 8) (oi := ⟨(some 11), _, _, _, _, _⟩) (v := ?vq2_4) rfl (by kernel_rfl) (by kernel_rfl) (by kernel_rfl) (fun _ _ _ h => h) (Or.inl ⟨by rfl, ?yq2_4⟩) hHeld ?_
      case yq2_4 => (intro W0 hSw; go_simp; try with_reducible rfl)
      try simp only [Act.put, List.setIfInBounds_toArray, List.set_cons_zero, List.set_cons_succ]
      refine wpAnyH_done (by kernel_rfl) ?_ _
      have hb6 := hHeld
      clear hHeld
      have hgK6 : Hid (w6.heap[w1.heap.size]? = some (.cells (bv sunKey).toArray 24 (0, 0))) := (hb6.block _ hs5').trans hgK5.out
      have hgN6 : Hid (w6.heap[w1.heap.size + 1]? = some (.cells (bv sunNonce).toArray 25 (0, 0))) := (hb6.block _ hs5).trans hgN5.out
      have hbw6 := below_next hbw5 hbw5.size hb6
      have hs6 : w1.heap.size + 1 < w6.heap.size := Nat.lt_of_lt_of_le hs5 hb6.size
      have hs6' : w1.heap.size < w6.heap.size := Nat.lt_of_succ_lt hs6
      have hr6 := hr5.keep hb6
      clear hb6 f6 g6 h6 hgK5 hgN5 hs5 hs5' hbw5 hr5
      go_wp2_with fail
      refine wp_region_held_drew (S := (fun W' => Below w6.heap.size w6 W')) (by kernel_rfl) ((Below.refl _ _).drew) (fun hHeld => ?_)
      refine wpAnyH_take (i := 0) (oi := ⟨(some 56), _, _, _, _, _⟩) (v := _) rfl (by kernel_rfl) (by kernel_rfl) (by kernel_rfl) (fun _ _ _ h => h) (yieldsIf_load_mid (by rfl) _ _ rfl w1.heap.size 0 rfl (bv sunKey) _ (fun W' hW' => range_row ((hW'.block _ hs6').trans hgK6.out)) (Try.underlying24) (rfl) (by rw [HKL.out]; kernel_rfl)) hHeld ?_
      try simp only [Act.put, List.setIfInBounds_toArray, List.set_cons_zero, List.set_cons_succ]
      refine wpAnyH_take (i := 1) (oi := ⟨(some 57), _, _, _, _, _⟩) (v := _) rfl (by kernel_rfl) (by kernel_rfl) (by kernel_rfl) (fun _ _ _ h => h) (yieldsIf_load_mid (by rfl) _ _ rfl (w1.heap.size + 1) 0 rfl (bv sunNonce) _ (fun W' hW' => range_row ((hW'.block _ hs6).trans hgN6.out)) (Try.underlying25) (rfl) (by rw [HNL.out]; kernel_rfl)) hHeld ?_
      try simp only [Act.put, List.setIfInBounds_toArray, List.set_cons_zero, List.set_cons_succ]
      refine wpAnyH_ready (rs := [2]) (by kernel_rfl) (by simp) ?_
      refine AllReadyH.cons (i := 2) (o := ⟨(some 58), _, _, _, _, _⟩) rfl (fun K hK => ?_) AllReadyH.nil
      refine step_mk (by rfl) _ _ rfl 15 (by rfl) (by rfl) (by decide) ?_
      intro B7 v7 f7 g7
      refine hK.out _ _ (below_next hHeld hHeld.size g7) (fun hHeld => ?_)
      clear hK K
      try simp only [Act.put, List.setIfInBounds_toArray, List.set_cons_zero, List.set_cons_succ]
      refine wpAnyH_ready (rs := [3]) (by kernel_rfl) (by simp) ?_
      refine AllReadyH.cons (i := 3) (o := ⟨(some 59), _, _, _, _, _⟩) rfl (fun K hK => ?_) AllReadyH.nil
      go_simp
      refine (open_15 v7 B7 f7).mono ?_
      rintro e w7 ⟨A7, k7, c7, rfl, h7⟩
      refine hK.out _ _ (below_next hHeld hHeld.size h7) (fun hHeld => ?_)
      clear hK K
      try simp only [Act.put, List.setIfInBounds_toArray, List.set_cons_zero, List.set_cons_succ]
      refine wpAnyH_take (i := 4) (oi := ⟨(some 55), _, _, _, _, _⟩) (v := ?vq3_0) rfl (by kernel_rfl) (by kernel_rfl) (by kernel_rfl) (fun _ _ _ h => h) (Or.inl ⟨by rfl, ?yq3_0⟩) hHeld ?_
      case yq3_0 => (intro W0 hSw; go_simp; try with_reducible rfl)
      try simp only [Act.put, List.setIfInBounds_toArray, List.set_cons_zero, List.set_cons_succ]
      refine wpAnyH_take (i := 5) (oi := ⟨(some 60), _, _, _, _, _⟩) (v := ?vq3_1) rfl (by kernel_rfl) (by kernel_rfl) (by kernel_rfl) (fun _ _ _ h => h) (Or.inl ⟨by rfl, ?yq3_1⟩) hHeld ?_
      case yq3_1 => (intro W0 hSw; go_simp; try with_reducible rfl)
      try simp only [Act.put, List.setIfInBounds_toArray, List.set_cons_zero, List.set_cons_succ]
      refine wpAnyH_take (i := 6) (oi := ⟨(some 61), _, _, _, _, _⟩) (v := ?vq3_2) rfl (by kernel_rfl) (by kernel_rfl) (by kernel_rfl) (fun _ _ _ h => h) (Or.inl ⟨by rfl, ?yq3_2⟩) hHeld ?_
      case yq3_2 => (intro W0 hSw; go_simp; try with_reducible rfl)
      try simp only [Act.put, List.setIfInBounds_toArray, List.set_cons_zero, List.set_cons_succ]
      refine wpAnyH_take (i := 7) (oi := ⟨(some 12), _, _, _, _, _⟩) (v := ?vq3_3) rfl (by kernel_rfl) (by kernel_rfl) (by kernel_rfl) (fun _ _ _ h => h) (Or.inl ⟨by rfl, ?yq3_3⟩) hHeld ?_
      case yq3_3 => (intro W0 hSw; go_simp; try with_reducible rfl)
      try simp only [Act.put, List.setIfInBounds_toArray, List.set_cons_zero, List.set_cons_succ]
      refine wpAnyH_take (i := 8) (oi := ⟨(some 13), _, _, _, _, _⟩) (v := ?vq3_4) rfl (by kernel_rfl) (by kernel_rfl) (by kernel_rfl) (fun _ _ _ h => h) (Or.inl ⟨by rfl, ?yq3_4⟩) hHeld ?_
      case yq3_4 => (intro W0 hSw; go_simp; try with_reducible rfl)
      try simp only [Act.put, List.setIfInBounds_toArray, List.set_cons_zero, List.set_cons_succ]
      refine wpAnyH_done (by kernel_rfl) ?_ _
      have hb7 := hHeld
      clear hHeld
      have hgK7 : Hid (w7.heap[w1.heap.size]? = some (.cells (bv sunKey).toArray 24 (0, 0))) := (hb7.block _ hs6').trans hgK6.out
      have hgN7 : Hid (w7.heap[w1.heap.size + 1]? = some (.cells (bv sunNonce).toArray 25 (0, 0))) := (hb7.block _ hs6).trans hgN6.out
      have hbw7 := below_next hbw6 hbw6.size hb7
      have hs7 : w1.heap.size + 1 < w7.heap.size := Nat.lt_of_lt_of_le hs6 hb7.size
      have hs7' : w1.heap.size < w7.heap.size := Nat.lt_of_succ_lt hs7
      have hr7 := hr6.keep hb7
      clear hb7 f7 g7 h7 hgK6 hgN6 hs6 hs6' hbw6 hr6
      have hkey := akey_any w7 sunKey sunNonce rfl rfl
      go_wp2_with (first
        | (with_reducible refine wpList_load_row rfl 24 (.tmp 1) rfl w1.heap.size rfl 24 (bv sunKey).toArray (0, 0) _ hgK7.out Try.underlying24 rfl (by rw [HKS.out]; kernel_rfl) ?_)
        | (with_reducible refine wpList_load_row rfl 25 (.tmp 2) rfl (w1.heap.size + 1) rfl 25 (bv sunNonce).toArray (0, 0) _ hgN7.out Try.underlying25 rfl (by rw [HSN.out]; kernel_rfl) ?_))
      refine hkey.mono ?_
      rintro e w8 ⟨ky, rfl, hky, hkyl, hb8⟩
      clear hkey
      have HYS := Lib.hid (show (bv ky).toArray.size = 32 by simp [bv_len, hkyl.out])
      have HZ32 := Lib.hid (show (bv z32).toArray.size = 32 from rfl)
      have hkh := Lib.hid (show hexd (ky.take 4) = [55, 98, 97, 99, 50, 98, 50, 53] by rw [hky.out]; exact sun_key)
      go_upto_region 14 with ((with_reducible refine wpList_store_row rfl 24 (.tmp 14) (.tmp 64) rfl w8.heap.size (bv ky).toArray rfl rfl 24 _ (heap_alloc_new _ _) (by rw [HYS.out]; kernel_rfl) (by rw [HYS.out]; exact HZ32.out) (all_oneCell_toArray (bv_one _)) ?_); rw [World.setRow_alloc_new])
      have hg9 : Hid ((w8.alloc (.cells (bv ky).toArray 24)).heap[w8.heap.size]? = some (.cells (bv ky).toArray 24 (0, 0))) := heap_alloc_new _ _
      have hb9 : Below w7.heap.size w7 (w8.alloc (.cells (bv ky).toArray 24)) := hb8.alloc hb8.size _
      generalize w8.alloc (.cells (bv ky).toArray 24) = w9 at *
      have hr9 := hr7.keep hb9
      have hbw9 := below_next hbw7 hbw7.size hb9
      obtain ⟨F, hF⟩ : ∃ F, F = w8.heap.size := ⟨_, rfl⟩
      rw [← hF] at hg9 ⊢
      have hF9 : F < w9.heap.size := (Array.getElem?_eq_some_iff.1 hg9.out).1
      clear hF hb8 hb9 hr7 hgK7 hgN7 hs7 hs7' hbw7 hky
      obtain ⟨g4, rfl⟩ := hr9.some_ (by decide)
      have hc4 := hr9.cap
      have hcutA := run_cut_h (P := Try.prog) Try.underlying26 Try.sizeByte (some ⟨g4, 0, none⟩) 130 c4 16 16 rfl (by omega)
      have hcutB := run_cut_l (P := Try.prog) Try.underlying26 Try.sizeByte (some ⟨g4, 0, none⟩) 130 c4 114 114 rfl (by decide)
      have hdr := hr9.byt.cut 114 c4 (by rw [hr9.len]; exact hc4)
      rw [if_neg (by omega), Option.map_some, addr_add] at hcutB hdr
      have hhex := refHex_any (some ⟨g4, 0, none⟩) (sunSeal.take 16) 16 c4 w9 (hr9.byt.take 16) rfl (by decide)
      rw [sun_hex1] at hhex
      go_wp2_with fail
      refine hhex.mono ?_
      rintro e w10 ⟨rfl, hb10⟩
      have hhex2 := refHex_any (some ⟨g4, 0 + 114, none⟩) (sunSeal.drop 114) 16 (c4 - 114) w10 ((hdr.below hb10).up hb10.size) rfl (by decide)
      rw [sun_hex2] at hhex2
      clear hhex
      go_wp2_with fail
      refine hhex2.mono ?_
      rintro e w11 ⟨rfl, hb11⟩
      have hb911 := below_next hb10 hb10.size hb11
      have hbk := ((byt_row hg9.out).below hb911).up hb911.size
      have hcutK := cut_lh Try.underlying24 Try.sizeByte F 0 0 4 0 4 rfl rfl (by decide) (by decide) (by decide)
      have hhex3 := refHex_any (some ⟨F, 0, none⟩) (ky.take 4) 4 32 w11 (hbk.take 4) (by rw [List.length_take, hkyl.out]; rfl) (by decide)
      rw [hkh.out] at hhex3
      clear hhex2
      go_wp2_with fail
      refine hhex3.mono ?_
      rintro e w12 ⟨rfl, hb12⟩
      have hbw12 := below_next (below_next hbw9 hbw9.size hb911) (Nat.le_trans hbw9.size hb911.size) hb12
      clear hhex3 hbk hcutA hcutB hcutK hdr hr9
      go_wp2
      go_ret
      exact ⟨rfl, hbw12⟩
end Go.Proofs.Ytkeejkhapmcanaa
