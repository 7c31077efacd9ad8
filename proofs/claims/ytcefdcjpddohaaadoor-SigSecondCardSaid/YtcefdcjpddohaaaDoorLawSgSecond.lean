/-
  SigSecond's walk: true. Conditions: the packages' own numbers lie as the program's text lays them.
-/
import Derived.Test.YtcefdcjpddohaaaDoorSgA
import Derived.Test.YtcefdcjpddohaaaDoorPkO
namespace Go.Proofs.YtcefdcjpddohaaaDoor
open Go.RowKit

/-- Another second half: no signature. -/
theorem sec_is {p s t m : List UInt8} {ok : Bool} (hs : VerIs p s m true) (hsl : s.length = 64) (ht : t.take 32 = s.take 32) (htl : t.length = 64) (h : VerIs p t m ok) : ok = decide (t = s) := by
  by_cases e : t = s
  · rw [e] at h
    rw [ver_only h hs, e]
    exact (decide_eq_true rfl).symm
  · rw [decide_eq_false e]
    cases ok with
    | false => rfl
    | true =>
      exfalso
      obtain ⟨P, R, a1, a2, a3, a4⟩ := hs.1 rfl
      obtain ⟨P', R', b1, b2, b3, b4⟩ := h.1 rfl
      rw [ht] at b2 b4
      have e1 : P' = P := Option.some.inj (ptIs_only b1 a1)
      have e2 : R' = R := Option.some.inj (ptIs_only b2 a2)
      rw [e1, e2] at b4
      have e3 : ln (t.drop 32) = ln (s.drop 32) := second_only b3 a3 a4.symm b4.symm
      have e4 : t.drop 32 = s.drop 32 := ln_inj _ _ (by rw [List.length_drop, List.length_drop, htl, hsl]) e3
      exact e (by rw [← List.take_append_drop 32 t, ← List.take_append_drop 32 s, ht, e4])
set_option maxRecDepth 100000 in
set_option maxHeartbeats 4000000 in
theorem walk_SigSecond (w : World) (hla : LaidG w) (a : List UInt8) (ha : a.length = 32) (A : Option Addr) (l : List UInt8) (n c : Nat) (hAl : Byt w w.heap.size A l) (hl : l.length = n) (hc : n ≤ c) (b : List UInt8) (hb : b.length = 32) :
    Calls Tryd.prog 3 #[.agg (bv a).toArray, .slice A n c, .agg (bv b).toArray] w fun e w' => e = .returned (.bool true) ∧ Below w.heap.size w w' := by
  have hzw := zero_word
  have hzs := zero_sig
  obtain ⟨V0, hW, gb0_V0, gb1_V0, hb_V0, hsW⟩ := pair_new w (bv a).toArray (bv b).toArray 23 23
  have HW := Lib.hid hW
  have Hha := Lib.hid ha
  have Hhb := Lib.hid hb
  have Hhl := Lib.hid hl
  have sb0_V0 := row_size gb0_V0
  have sb1_V0 := row_size gb1_V0
  have hlaV0 := hla.next hb_V0
  have hHG := hla.hi (Nat.le_refl _)
  clear hla
  clear hW hsW ha hb hl
  go_enter Tryd.func3, Tryd.ntmps3
  go_upto_region 1 with fail
  rw [HW.out]
  refine plain_start (S := fun W' => Below V0.heap.size V0 W') (by kernel_rfl) (Below.refl _ _) (fun hHeld => ?_)
  refine mixX_start (B := V0.heap.size) (al := []) (fuel := 2) rfl hHeld (hHeld.size) ?_
  clear hHeld
  refine mixX_call (i := 0) (o := ⟨(some 11), _, _, _, _, _⟩) rfl (by kernel_rfl) (by kernel_rfl) (by kernel_rfl) (by kernel_rfl) (by simp) (by simp) (fun x hx => by cases hx) (fun W x _ h => h.alloc h.size _) (fun _ _ _ _ _ h => h) (fun X1 hHeld hBX K hK => ?_)
  try simp only [pu]
  go_simp
  refine (awake10_any _ (hlaV0.next hHeld)).mono ?_
  rintro e W1 ⟨rfl, hb1⟩
  refine hK.out _ _ (below_next hHeld hHeld.size hb1) hb1 ?_
  clear hK K hHeld hBX hb1
  try simp only [pu]
  refine mixX_take (i := 1) (o := ⟨(some 12), _, _, _, _, _⟩) (v := .bool false) rfl (by kernel_rfl) (by kernel_rfl) (by kernel_rfl) (by kernel_rfl) (by kernel_rfl) (fun _ _ _ h => h) (Or.inl ⟨by rfl, ?y1_1⟩) ?_
  case y1_1 => (intro W0 hSw; go_simp; try with_reducible rfl)
  try simp only [pu]
  refine mixX_nil (fun W2 hHeld hBX => ?_)
  clear hBX
  refine wpAnyH_done (by kernel_rfl) ?_ _
  obtain ⟨V1, rV1⟩ : ∃ X, X = W2 := ⟨_, rfl⟩
  subst rV1
  have gb0_V1 := row_next2 gb0_V0 hHeld
  have sb0_V1 := row_size gb0_V1
  have gb1_V1 := row_next2 gb1_V0 hHeld
  have sb1_V1 := row_size gb1_V1
  have hb_V1 := below_next hb_V0 hb_V0.size hHeld
  have hlaV1 := hlaV0.next hHeld
  clear hHeld hb_V0 hlaV0 sb0_V0 gb0_V0 sb1_V0 gb1_V0 
  by_cases hn : n ≤ 100
  · have hfl : [l].flatten.length ≤ 144115188075855872 := by rw [List.flatten_cons, List.flatten_nil, List.append_nil, Hhl.out]; omega
    go_upto_region 5 with fail
    refine wp_region_held_drew (S := fun W' => Below V1.heap.size V1 W') (by kernel_rfl) ((Below.refl _ _).drew) (fun hHeld => ?_)
    refine wpAnyH_take (i := 0) (oi := ⟨(some 16), _, _, _, _, _⟩) (v := _) rfl (by kernel_rfl) (by kernel_rfl) (by kernel_rfl) (fun _ _ _ h => h) (yieldsIf_load_mid (by rfl) _ _ rfl (w.heap.size) 0 rfl (bv a) _ (fun W' hW' => range_row ((hW'.block _ sb0_V1).trans gb0_V1.out)) (Tryd.underlying23) rfl (by rw [bv_len, Hha.out]; kernel_rfl)) hHeld ?_
    try simp only [pu]
    refine wpAnyH_take (i := 2) (oi := ⟨(some 18), _, _, _, _, _⟩) (v := _) rfl (by kernel_rfl) (by kernel_rfl) (by kernel_rfl) (fun _ _ _ h => h) (yieldsIf_load_mid (by rfl) _ _ rfl (w.heap.size) 0 rfl (bv a) _ (fun W' hW' => range_row ((hW'.block _ sb0_V1).trans gb0_V1.out)) (Tryd.underlying23) rfl (by rw [bv_len, Hha.out]; kernel_rfl)) hHeld ?_
    try simp only [pu]
    refine wpAnyH_take (i := 3) (oi := ⟨(some 19), _, _, _, _, _⟩) (v := .slice A n c) rfl (by kernel_rfl) (by kernel_rfl) (by kernel_rfl) (fun _ _ _ h => h) (Or.inl ⟨by rfl, ?y2_3⟩) hHeld ?_
    case y2_3 => (intro W0 hSw; go_simp; try with_reducible rfl)
    try simp only [pu]
    refine mixX_start (B := V1.heap.size) (al := [⟨4, 20, 24, [Value.slice A n c].toArray, fun g => .slice (some ⟨g, 0, none⟩) 1 1⟩, ⟨6, 7, 23, ((bv z32)).toArray, fun g => .pointer (some ⟨g, 0, none⟩)⟩, ⟨7, 8, 28, ((bv z64)).toArray, fun g => .pointer (some ⟨g, 0, none⟩)⟩]) (fuel := 4) rfl hHeld (hHeld.size) ?_
    clear hHeld
    refine mixX_call (i := 1) (o := ⟨(some 17), _, _, _, _, _⟩) rfl (by kernel_rfl) (by kernel_rfl) (by kernel_rfl) (by kernel_rfl) (by simp) (by simp) (fun x hx => by simp only [List.mem_cons, List.not_mem_nil, or_false] at hx; rcases hx with rfl | rfl | rfl <;> first | exact makesX_new rfl (by kernel_rfl) rfl rfl rfl zero_word | exact makesX_new rfl (by kernel_rfl) rfl rfl rfl zero_sig | exact makesX_list (cells := [Value.slice A n c]) rfl (by kernel_rfl) rfl rfl (by rfl) Tryd.underlying38 [(0, Value.slice A n c)] (by rfl) (bs_one A n c)) (fun W x _ h => h.alloc h.size _) (fun _ _ _ _ _ h => h) (fun X3 hHeld hBX K hK => ?_)
    try simp only [pu]
    go_simp
    refine (public_any _ (hlaV1.next hHeld) a Hha.out).mono ?_
    rintro e W3 ⟨p, rfl, eP, hp, hb3⟩
    refine hK.out _ _ (below_next hHeld hHeld.size hb3) hb3 ?_
    clear hK K hHeld hBX hb3
    try simp only [pu]
    refine mixX_call1 (i := 5) (o := ⟨(some 21), _, _, _, _, _⟩) rfl (by kernel_rfl) (by kernel_rfl) (by kernel_rfl) (by kernel_rfl) (by kernel_rfl) (by kernel_rfl) (by simp) (by simp) (fun x hx => by simp only [List.mem_cons, List.not_mem_nil, or_false] at hx; rcases hx with rfl | rfl | rfl <;> first | exact makesX_new rfl (by kernel_rfl) rfl rfl rfl zero_word | exact makesX_new rfl (by kernel_rfl) rfl rfl rfl zero_sig | exact makesX_list (cells := [Value.slice A n c]) rfl (by kernel_rfl) rfl rfl (by rfl) Tryd.underlying38 [(0, Value.slice A n c)] (by rfl) (bs_one A n c)) (fun W x _ h => h.alloc h.size _) (fun _ _ _ _ _ h => h) (fun g5 X4 hHeld hBX hg hBg K hK => ?_)
    have hL5 := Lst.row1 (l1 := l) hg (((hAl.below hb_V1).up hb_V1.size).next hHeld) Hhl.out hc
    clear hg hBg
    try simp only [pu]
    go_simp
    refine (sign_any _ (hlaV1.next hHeld) a Hha.out (some ⟨g5, 0, none⟩) 1 1 [l] hL5 hfl (by decide)).mono ?_
    rintro e W4 ⟨s, rfl, eS, hs, hb4⟩
    refine hK.out _ _ (below_next hHeld hHeld.size hb4) hb4 ?_
    clear hK K hHeld hBX hb4 hL5
    try simp only [pu]
    refine mixX_end (by kernel_rfl) (by kernel_rfl) (fun _ _ _ _ _ h => h) (by simp) (by simp) (fun x hx => by simp only [List.mem_cons, List.not_mem_nil, or_false] at hx; rcases hx with rfl | rfl <;> first | exact makesX_new rfl (by kernel_rfl) rfl rfl rfl zero_word | exact makesX_new rfl (by kernel_rfl) rfl rfl rfl zero_sig) (fun W x _ h => h.alloc h.size _) (fun D hD W5 hHeld hBX hHo => ?_)
    obtain ⟨G7, G8, rfl⟩ := x_two hD
    have xG7 : Hid (W5.heap[G7]? = some (.cells ((bv z32)).toArray 23 (0, 0))) := hHo.row (⟨6, 7, 23, ((bv z32)).toArray, fun g => .pointer (some ⟨g, 0, none⟩)⟩, G7) (by simp)
    have lG7 : V1.heap.size ≤ G7 := hHo.new (⟨6, 7, 23, ((bv z32)).toArray, fun g => .pointer (some ⟨g, 0, none⟩)⟩, G7) (by simp)
    have xG8 : Hid (W5.heap[G8]? = some (.cells ((bv z64)).toArray 28 (0, 0))) := hHo.row (⟨7, 8, 28, ((bv z64)).toArray, fun g => .pointer (some ⟨g, 0, none⟩)⟩, G8) (by simp)
    have lG8 : V1.heap.size ≤ G8 := hHo.new (⟨7, 8, 28, ((bv z64)).toArray, fun g => .pointer (some ⟨g, 0, none⟩)⟩, G8) (by simp)
    have hnd := hHo.nodup
    simp only [List.map_cons, List.map_nil, List.nodup_cons, List.mem_cons, List.not_mem_nil, or_false, not_false_eq_true, List.nodup_nil, and_true] at hnd
    have nG7G8 := hnd
    clear hnd
    clear hHo hBX hD
    simp only [markDX, putX, List.foldr_cons, List.foldr_nil, pu, List.setIfInBounds_toArray, List.set_cons_zero, List.set_cons_succ]
    refine wpAnyH_ready (rs := [8]) (by kernel_rfl) (by simp) ?_
    refine AllReadyH.cons (i := 8) (o := ⟨none, _, _, _, _, _⟩) rfl (fun K hK => ?_) AllReadyH.nil
    refine step_row (by rfl) 23 (.tmp 7) (.tmp 17) rfl G7 (bv p) rfl rfl 23 _ xG7.out (by rw [bv_len, hp.out]; kernel_rfl) (by rw [List.size_toArray, bv_len, bv_len, hp.out, z32_len]) (bv_one _) ?_
    intro W6 yG7 kG7
    have zG8 := row_but xG8 kG7 (by omega)
    clear xG8
    have xG8 := zG8
    clear zG8
    refine hK.out _ _ (But.below hHeld kG7 lG7 hHeld.size) (fun hHeld => ?_)
    clear hK K kG7 xG7
    have xG7 := yG7
    clear yG7
    try simp only [pu]
    refine wpAnyH_ready (rs := [9]) (by kernel_rfl) (by simp) ?_
    refine AllReadyH.cons (i := 9) (o := ⟨none, _, _, _, _, _⟩) rfl (fun K hK => ?_) AllReadyH.nil
    refine step_row (by rfl) 28 (.tmp 8) (.tmp 21) rfl G8 (bv s) rfl rfl 28 _ xG8.out (by rw [bv_len, hs.out]; kernel_rfl) (by rw [List.size_toArray, bv_len, bv_len, hs.out, z64_len]) (bv_one _) ?_
    intro W7 yG8 kG8
    have zG7 := row_but xG7 kG8 (by omega)
    clear xG7
    have xG7 := zG7
    clear zG7
    refine hK.out _ _ (But.below hHeld kG8 lG8 hHeld.size) (fun hHeld => ?_)
    clear hK K kG8 xG8
    have xG8 := yG8
    clear yG8
    try simp only [pu]
    refine wpAnyH_done (by kernel_rfl) ?_ _
    obtain ⟨V2, rV2⟩ : ∃ X, X = W7 := ⟨_, rfl⟩
    subst rV2
    have gb0_V2 := row_next2 gb0_V1 hHeld
    have sb0_V2 := row_size gb0_V2
    have gb1_V2 := row_next2 gb1_V1 hHeld
    have sb1_V2 := row_size gb1_V2
    have hb_V2 := below_next hb_V1 hb_V1.size hHeld
    have hlaV2 := hlaV1.next hHeld
    have gn7_V2 := xG7
    have sn7_V2 := row_size gn7_V2
    clear xG7
    have wG7 : w.heap.size + 2 ≤ G7 := by omega
    have gn8_V2 := xG8
    have sn8_V2 := row_size gn8_V2
    clear xG8
    have wG8 : w.heap.size + 2 ≤ G8 := by omega
    clear hHeld hb_V1 hlaV1 sb0_V1 gb0_V1 sb1_V1 gb1_V1 lG7 lG8
    have HV := vlt (show VerIs p s [l].flatten true by rw [eP.out, eS.out]; exact ver_sign _ _)
    clear eP eS
    go_upto_region 6 with fail
    refine plain_start (S := fun W' => Below V2.heap.size V2 W') (by kernel_rfl) (Below.refl _ _) (fun hHeld => ?_)
    refine wpAnyH_take (i := 0) (oi := ⟨(some 22), _, _, _, _, _⟩) (v := _) rfl (by kernel_rfl) (by kernel_rfl) (by kernel_rfl) (fun _ _ _ h => h) (yieldsIf_load_mid (by rfl) _ _ rfl (w.heap.size + 1) 0 rfl (bv b) _ (fun W' hW' => range_row ((hW'.block _ sb1_V2).trans gb1_V2.out)) (Tryd.underlying23) rfl (by rw [bv_len, Hhb.out]; kernel_rfl)) hHeld ?_
    try simp only [pu]
    refine mixX_start (B := V2.heap.size) (al := [⟨2, 9, 23, ((bv z32)).toArray, fun g => .pointer (some ⟨g, 0, none⟩)⟩]) (fuel := 2) rfl hHeld (hHeld.size) ?_
    clear hHeld
    refine mixX_call (i := 1) (o := ⟨(some 23), _, _, _, _, _⟩) rfl (by kernel_rfl) (by kernel_rfl) (by kernel_rfl) (by kernel_rfl) (by simp) (by simp) (fun x hx => by simp only [List.mem_cons, List.not_mem_nil, or_false] at hx; rcases hx with rfl <;> first | exact makesX_new rfl (by kernel_rfl) rfl rfl rfl zero_word) (fun W x _ h => h.alloc h.size _) (fun _ _ _ _ _ h => h) (fun X8 hHeld hBX K hK => ?_)
    try simp only [pu]
    go_simp
    refine (lnorm_any _ (hlaV2.next hHeld).o b Hhb.out).mono ?_
    rintro e W8 ⟨m, rfl, eN, hm, hb8⟩
    refine hK.out _ _ (below_next hHeld hHeld.size hb8) hb8 ?_
    clear hK K hHeld hBX hb8
    try simp only [pu]
    refine mixX_end (by kernel_rfl) (by kernel_rfl) (fun _ _ _ _ _ h => h) (by simp) (by simp) (fun x hx => by simp only [List.mem_cons, List.not_mem_nil, or_false] at hx; rcases hx with rfl <;> first | exact makesX_new rfl (by kernel_rfl) rfl rfl rfl zero_word) (fun W x _ h => h.alloc h.size _) (fun D hD W9 hHeld hBX hHo => ?_)
    obtain ⟨G9, rfl⟩ := x_one hD
    have xG9 : Hid (W9.heap[G9]? = some (.cells ((bv z32)).toArray 23 (0, 0))) := hHo.row (⟨2, 9, 23, ((bv z32)).toArray, fun g => .pointer (some ⟨g, 0, none⟩)⟩, G9) (by simp)
    have lG9 : V2.heap.size ≤ G9 := hHo.new (⟨2, 9, 23, ((bv z32)).toArray, fun g => .pointer (some ⟨g, 0, none⟩)⟩, G9) (by simp)
    clear hHo hBX hD
    simp only [markDX, putX, List.foldr_cons, List.foldr_nil, pu, List.setIfInBounds_toArray, List.set_cons_zero, List.set_cons_succ]
    refine wpAnyH_ready (rs := [3]) (by kernel_rfl) (by simp) ?_
    refine AllReadyH.cons (i := 3) (o := ⟨none, _, _, _, _, _⟩) rfl (fun K hK => ?_) AllReadyH.nil
    refine step_row (by rfl) 23 (.tmp 9) (.tmp 23) rfl G9 (bv m) rfl rfl 23 _ xG9.out (by rw [bv_len, hm.out]; kernel_rfl) (by rw [List.size_toArray, bv_len, bv_len, hm.out, z32_len]) (bv_one _) ?_
    intro W10 yG9 kG9
    refine hK.out _ _ (But.below hHeld kG9 lG9 hHeld.size) (fun hHeld => ?_)
    clear hK K kG9 xG9
    have xG9 := yG9
    clear yG9
    try simp only [pu]
    refine wpAnyH_done (by kernel_rfl) ?_ _
    obtain ⟨V3, rV3⟩ : ∃ X, X = W10 := ⟨_, rfl⟩
    subst rV3
    have gb0_V3 := row_next2 gb0_V2 hHeld
    have sb0_V3 := row_size gb0_V3
    have gb1_V3 := row_next2 gb1_V2 hHeld
    have sb1_V3 := row_size gb1_V3
    have gn7_V3 := row_next2 gn7_V2 hHeld
    have sn7_V3 := row_size gn7_V3
    have gn8_V3 := row_next2 gn8_V2 hHeld
    have sn8_V3 := row_size gn8_V3
    have hb_V3 := below_next hb_V2 hb_V2.size hHeld
    have hlaV3 := hlaV2.next hHeld
    have gn9_V3 := xG9
    have sn9_V3 := row_size gn9_V3
    clear xG9
    have wG9 : w.heap.size + 2 ≤ G9 := by omega
    have nG7G9 : G7 ≠ G9 := by omega
    have nG8G9 : G8 ≠ G9 := by omega
    clear hHeld hb_V2 hlaV2 sb0_V2 gb0_V2 sb1_V2 gb1_V2 sn7_V2 gn7_V2 sn8_V2 gn8_V2 lG9
    clear eN
    go_upto_region 7 with fail
    refine plain_start (S := fun W' => Below V3.heap.size V3 W') (by kernel_rfl) (Below.refl _ _) (fun hHeld => ?_)
    refine wpAnyH_take (i := 0) (oi := ⟨(some 24), _, _, _, _, _⟩) (v := _) rfl (by kernel_rfl) (by kernel_rfl) (by kernel_rfl) (fun _ _ _ h => h) (yieldsIf_load_mid (by rfl) _ _ rfl G8 0 rfl (bv s) _ (fun W' hW' => range_row ((hW'.block _ sn8_V3).trans gn8_V3.out)) (Tryd.underlying28) rfl (by rw [bv_len, hs.out]; kernel_rfl)) hHeld ?_
    try simp only [pu]
    refine mixX_start (B := V3.heap.size) (al := [⟨1, 10, 28, ((bv z64)).toArray, fun g => .pointer (some ⟨g, 0, none⟩)⟩]) (fuel := 1) rfl hHeld (hHeld.size) ?_
    clear hHeld
    refine mixX_end (by kernel_rfl) (by kernel_rfl) (fun _ _ _ _ _ h => h) (by simp) (by simp) (fun x hx => by simp only [List.mem_cons, List.not_mem_nil, or_false] at hx; rcases hx with rfl <;> first | exact makesX_new rfl (by kernel_rfl) rfl rfl rfl zero_sig) (fun W x _ h => h.alloc h.size _) (fun D hD W11 hHeld hBX hHo => ?_)
    obtain ⟨G10, rfl⟩ := x_one hD
    have xG10 : Hid (W11.heap[G10]? = some (.cells ((bv z64)).toArray 28 (0, 0))) := hHo.row (⟨1, 10, 28, ((bv z64)).toArray, fun g => .pointer (some ⟨g, 0, none⟩)⟩, G10) (by simp)
    have lG10 : V3.heap.size ≤ G10 := hHo.new (⟨1, 10, 28, ((bv z64)).toArray, fun g => .pointer (some ⟨g, 0, none⟩)⟩, G10) (by simp)
    clear hHo hBX hD
    simp only [markDX, putX, List.foldr_cons, List.foldr_nil, pu, List.setIfInBounds_toArray, List.set_cons_zero, List.set_cons_succ]
    refine wpAnyH_ready (rs := [2]) (by kernel_rfl) (by simp) ?_
    refine AllReadyH.cons (i := 2) (o := ⟨none, _, _, _, _, _⟩) rfl (fun K hK => ?_) AllReadyH.nil
    refine step_row (by rfl) 28 (.tmp 10) (.tmp 24) rfl G10 (bv s) rfl rfl 28 _ xG10.out (by rw [bv_len, hs.out]; kernel_rfl) (by rw [List.size_toArray, bv_len, bv_len, hs.out, z64_len]) (bv_one _) ?_
    intro W12 yG10 kG10
    refine hK.out _ _ (But.below hHeld kG10 lG10 hHeld.size) (fun hHeld => ?_)
    clear hK K kG10 xG10
    have xG10 := yG10
    clear yG10
    try simp only [pu]
    refine wpAnyH_done (by kernel_rfl) ?_ _
    obtain ⟨V4, rV4⟩ : ∃ X, X = W12 := ⟨_, rfl⟩
    subst rV4
    have gb0_V4 := row_next2 gb0_V3 hHeld
    have sb0_V4 := row_size gb0_V4
    have gb1_V4 := row_next2 gb1_V3 hHeld
    have sb1_V4 := row_size gb1_V4
    have gn7_V4 := row_next2 gn7_V3 hHeld
    have sn7_V4 := row_size gn7_V4
    have gn8_V4 := row_next2 gn8_V3 hHeld
    have sn8_V4 := row_size gn8_V4
    have gn9_V4 := row_next2 gn9_V3 hHeld
    have sn9_V4 := row_size gn9_V4
    have hb_V4 := below_next hb_V3 hb_V3.size hHeld
    have hlaV4 := hlaV3.next hHeld
    have gn10_V4 := xG10
    have sn10_V4 := row_size gn10_V4
    clear xG10
    have wG10 : w.heap.size + 2 ≤ G10 := by omega
    have nG7G10 : G7 ≠ G10 := by omega
    have nG8G10 : G8 ≠ G10 := by omega
    have nG9G10 : G9 ≠ G10 := by omega
    clear hHeld hb_V3 hlaV3 sb0_V3 gb0_V3 sb1_V3 gb1_V3 sn7_V3 gn7_V3 sn8_V3 gn8_V3 sn9_V3 gn9_V3 lG10
    go_upto_region 8 with fail
    have hcd := cut_l Tryd.underlying28 Tryd.sizeByte G10 0 32 32 rfl (by decide)
    have hcs := cut_all Tryd.underlying23 Tryd.sizeByte G9 0 (by decide)
    have hsrc := byt_row gn9_V4.out
    go_region_law ((refine step_copy_but rfl (.tmp 25) (.tmp 26) 24 rfl 5 Tryd.underlying24 Tryd.sizeByte G10 32 32 32 32 32 (some ⟨G9, 0, none⟩) (by rfl) (by rfl) (bv s) 28 gn10_V4.out m V4.heap.size hsrc (hm.out) (by decide) (by rw [bv_len, hs.out]; decide) V4 (But.refl _ V4).drew ?_; intro V5 hgk hbk))
    obtain ⟨t, dt⟩ : ∃ l, l = s.take 32 ++ (m ++ s.drop (32 + 32)) := ⟨_, rfl⟩
    have gn10_V5 : Hid (V5.heap[G10]? = some (.cells (bv t).toArray 28 (0, 0))) := by
      have h1 := hgk.out
      rw [List.take_of_length_le (show m.length ≤ 32 by rw [hm.out]; decide), splice_bv, hm.out, ← dt] at h1
      exact h1
    have ht := Lib.hid (show t.length = 64 by rw [dt]; simp [hs.out, hm.out])
    have HT := vlt (show t.take 32 = s.take 32 by rw [dt]; exact List.take_left' (by rw [List.length_take, hs.out]; rfl))
    clear dt
    have sn10_V5 := row_size gn10_V5
    have gb0_V5 := row_but gb0_V4 hbk (by omega)
    have sb0_V5 := row_size gb0_V5
    have gb1_V5 := row_but gb1_V4 hbk (by omega)
    have sb1_V5 := row_size gb1_V5
    have gn7_V5 := row_but gn7_V4 hbk (by omega)
    have sn7_V5 := row_size gn7_V5
    have gn8_V5 := row_but gn8_V4 hbk (by omega)
    have sn8_V5 := row_size gn8_V5
    have gn9_V5 := row_but gn9_V4 hbk (by omega)
    have sn9_V5 := row_size gn9_V5
    have hb_V5 := But.below hb_V4 hbk (by omega) hb_V4.size
    have hlaV5 := hlaV4.but (hHG.up (by omega)) hbk
    clear hgk hbk hcd hcs hsrc hb_V4 hlaV4 sb0_V4 gb0_V4 sb1_V4 gb1_V4 sn7_V4 gn7_V4 sn8_V4 gn8_V4 sn9_V4 gn9_V4 sn10_V4 gn10_V4 
    obtain ⟨od, hod⟩ : ∃ od, od = decide (t = s) := ⟨_, rfl⟩
    have hq := eql_bytes (P := Tryd.prog) Tryd.underlying28 Tryd.underlying5 Tryd.sizeByte t s ht.out hs.out
    rw [← hod] at hq
    have HOD := vlt hod
    clear hod
    go_upto_region 9 with fail
    refine wp_region_held_drew (S := fun W' => Below V5.heap.size V5 W') (by kernel_rfl) ((Below.refl _ _).drew) (fun hHeld => ?_)
    refine wpAnyH_take (i := 0) (oi := ⟨(some 28), _, _, _, _, _⟩) (v := _) rfl (by kernel_rfl) (by kernel_rfl) (by kernel_rfl) (fun _ _ _ h => h) (yieldsIf_load_mid (by rfl) _ _ rfl G7 0 rfl (bv p) _ (fun W' hW' => range_row ((hW'.block _ sn7_V5).trans gn7_V5.out)) (Tryd.underlying23) rfl (by rw [bv_len, hp.out]; kernel_rfl)) hHeld ?_
    try simp only [pu]
    refine wpAnyH_take (i := 1) (oi := ⟨(some 29), _, _, _, _, _⟩) (v := _) rfl (by kernel_rfl) (by kernel_rfl) (by kernel_rfl) (fun _ _ _ h => h) (yieldsIf_load_mid (by rfl) _ _ rfl G10 0 rfl (bv t) _ (fun W' hW' => range_row ((hW'.block _ sn10_V5).trans gn10_V5.out)) (Tryd.underlying28) rfl (by rw [bv_len, ht.out]; kernel_rfl)) hHeld ?_
    try simp only [pu]
    refine wpAnyH_take (i := 2) (oi := ⟨(some 30), _, _, _, _, _⟩) (v := .slice A n c) rfl (by kernel_rfl) (by kernel_rfl) (by kernel_rfl) (fun _ _ _ h => h) (Or.inl ⟨by rfl, ?y5_2⟩) hHeld ?_
    case y5_2 => (intro W0 hSw; go_simp; try with_reducible rfl)
    try simp only [pu]
    refine wpAnyH_take (i := 5) (oi := ⟨(some 33), _, _, _, _, _⟩) (v := _) rfl (by kernel_rfl) (by kernel_rfl) (by kernel_rfl) (fun _ _ _ h => h) (yieldsIf_load_mid (by rfl) _ _ rfl G10 0 rfl (bv t) _ (fun W' hW' => range_row ((hW'.block _ sn10_V5).trans gn10_V5.out)) (Tryd.underlying28) rfl (by rw [bv_len, ht.out]; kernel_rfl)) hHeld ?_
    try simp only [pu]
    refine wpAnyH_take (i := 6) (oi := ⟨(some 34), _, _, _, _, _⟩) (v := _) rfl (by kernel_rfl) (by kernel_rfl) (by kernel_rfl) (fun _ _ _ h => h) (yieldsIf_load_mid (by rfl) _ _ rfl G8 0 rfl (bv s) _ (fun W' hW' => range_row ((hW'.block _ sn8_V5).trans gn8_V5.out)) (Tryd.underlying28) rfl (by rw [bv_len, hs.out]; kernel_rfl)) hHeld ?_
    try simp only [pu]
    refine wpAnyH_take (i := 7) (oi := ⟨(some 35), _, _, _, _, _⟩) (v := .bool od) rfl (by kernel_rfl) (by kernel_rfl) (by kernel_rfl) (fun _ _ _ h => h) (Or.inl ⟨by rfl, ?y5_7⟩) hHeld ?_
    case y5_7 => (intro W0 hSw; go_simp; try simp only [hq]; try with_reducible rfl)
    try simp only [pu]
    refine mixX_start (B := V5.heap.size) (al := [⟨3, 31, 24, [Value.slice A n c].toArray, fun g => .slice (some ⟨g, 0, none⟩) 1 1⟩]) (fuel := 3) rfl hHeld (hHeld.size) ?_
    clear hHeld
    refine mixX_call1 (i := 4) (o := ⟨(some 32), _, _, _, _, _⟩) rfl (by kernel_rfl) (by kernel_rfl) (by kernel_rfl) (by kernel_rfl) (by kernel_rfl) (by kernel_rfl) (by simp) (by simp) (fun x hx => by simp only [List.mem_cons, List.not_mem_nil, or_false] at hx; rcases hx with rfl <;> first | exact makesX_list (cells := [Value.slice A n c]) rfl (by kernel_rfl) rfl rfl (by rfl) Tryd.underlying38 [(0, Value.slice A n c)] (by rfl) (bs_one A n c)) (fun W x _ h => h.alloc h.size _) (fun _ _ _ _ _ h => h) (fun g4 X13 hHeld hBX hg hBg K hK => ?_)
    have hL4 := Lst.row1 (l1 := l) hg (((hAl.below hb_V5).up hb_V5.size).next hHeld) Hhl.out hc
    clear hg hBg
    try simp only [pu]
    go_simp
    refine (verify_any _ (hlaV5.next hHeld) p t hp.out ht.out (some ⟨g4, 0, none⟩) 1 1 [l] hL4 hfl (by decide)).mono ?_
    rintro e W13 ⟨ok, rfl, eV, hb13⟩
    obtain rfl : od = ok := HOD.out.trans (sec_is HV.out hs.out HT.out ht.out eV.out).symm
    clear eV
    refine hK.out _ _ (below_next hHeld hHeld.size hb13) hb13 ?_
    clear hK K hHeld hBX hb13 hL4
    try simp only [pu]
    refine mixX_take (i := 8) (o := ⟨(some 36), _, _, _, _, _⟩) (v := .bool true) rfl (by kernel_rfl) (by kernel_rfl) (by kernel_rfl) (by kernel_rfl) (by kernel_rfl) (fun _ _ _ h => h) (Or.inl ⟨by rfl, ?y5_8⟩) ?_
    case y5_8 => (intro W0 hSw; go_simp; try with_reducible rfl)
    try simp only [pu]
    refine mixX_take (i := 9) (o := ⟨(some 6), _, _, _, _, _⟩) (v := .bool true) rfl (by kernel_rfl) (by kernel_rfl) (by kernel_rfl) (by kernel_rfl) (by kernel_rfl) (fun _ _ _ h => h) (Or.inl ⟨by rfl, ?y5_9⟩) ?_
    case y5_9 => (intro W0 hSw; go_simp; try with_reducible rfl)
    try simp only [pu]
    refine mixX_nil (fun W14 hHeld hBX => ?_)
    clear hBX
    refine wpAnyH_done (by kernel_rfl) ?_ _
    obtain ⟨V6, rV6⟩ : ∃ X, X = W14 := ⟨_, rfl⟩
    subst rV6
    have gb0_V6 := row_next2 gb0_V5 hHeld
    have sb0_V6 := row_size gb0_V6
    have gb1_V6 := row_next2 gb1_V5 hHeld
    have sb1_V6 := row_size gb1_V6
    have gn7_V6 := row_next2 gn7_V5 hHeld
    have sn7_V6 := row_size gn7_V6
    have gn8_V6 := row_next2 gn8_V5 hHeld
    have sn8_V6 := row_size gn8_V6
    have gn9_V6 := row_next2 gn9_V5 hHeld
    have sn9_V6 := row_size gn9_V6
    have gn10_V6 := row_next2 gn10_V5 hHeld
    have sn10_V6 := row_size gn10_V6
    have hb_V6 := below_next hb_V5 hb_V5.size hHeld
    have hlaV6 := hlaV5.next hHeld
    clear hHeld hb_V5 hlaV5 sb0_V5 gb0_V5 sb1_V5 gb1_V5 sn7_V5 gn7_V5 sn8_V5 gn8_V5 sn9_V5 gn9_V5 sn10_V5 gn10_V5 
    go_wp2_with fail
    go_ret
    exact ⟨rfl, hb_V6⟩
  · go_wp2_with fail
    go_ret
    exact ⟨rfl, hb_V1⟩
end Go.Proofs.YtcefdcjpddohaaaDoor
