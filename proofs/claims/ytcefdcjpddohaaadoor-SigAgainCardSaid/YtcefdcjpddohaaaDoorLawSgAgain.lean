/-
  SigAgain's walk: true. Conditions: the packages' own numbers lie as the program's text lays them.
-/
import Derived.Test.YtcefdcjpddohaaaDoorSgA
import Derived.Test.YtcefdcjpddohaaaDoorPkO
namespace Go.Proofs.YtcefdcjpddohaaaDoor
open Go.RowKit

set_option maxRecDepth 100000 in
set_option maxHeartbeats 4000000 in
theorem walk_SigAgain (w : World) (hla : LaidG w) (a : List UInt8) (ha : a.length = 32) (b : List UInt8) (hb : b.length = 32) (A : Option Addr) (l : List UInt8) (n c : Nat) (hAl : Byt w w.heap.size A l) (hl : l.length = n) (hc : n ≤ c) :
    Calls Tryd.prog 5 #[.agg (bv a).toArray, .agg (bv b).toArray, .slice A n c] w fun e w' => e = .returned (.bool true) ∧ Below w.heap.size w w' := by
  have hzw := zero_word
  have hzs := zero_sig
  obtain ⟨V0, hW, gb0_V0, gb1_V0, hb_V0, hsW⟩ := pair_new w (bv a).toArray (bv b).toArray 23 23
  have HW := Lib.hid hW
  have Hha := Lib.hid ha
  have Hhb := Lib.hid hb
  have Hhl := Lib.hid hl
  have sb0_V0 := row_size gb0_V0
  have sb1_V0 := row_size gb1_V0
  have hlaV0 := hla.next hb_V0
  have hHG := hla.hi (Nat.le_refl _)
  clear hla
  have hA_V0 := hAl.next hb_V0
  clear hAl
  clear hW hsW ha hb hl
  go_enter Tryd.func5, Tryd.ntmps5
  go_upto_region 1 with fail
  rw [HW.out]
  refine plain_start (S := fun W' => Below V0.heap.size V0 W') (by kernel_rfl) (Below.refl _ _) (fun hHeld => ?_)
  refine mixX_start (B := V0.heap.size) (al := []) (fuel := 2) rfl hHeld (hHeld.size) ?_
  clear hHeld
  refine mixX_call (i := 0) (o := ⟨(some 10), _, _, _, _, _⟩) rfl (by kernel_rfl) (by kernel_rfl) (by kernel_rfl) (by kernel_rfl) (by simp) (by simp) (fun x hx => by cases hx) (fun W x _ h => h.alloc h.size _) (fun _ _ _ _ _ h => h) (fun X1 hHeld hBX K hK => ?_)
  try simp only [pu]
  go_simp
  refine (awake10_any _ (hlaV0.next hHeld)).mono ?_
  rintro e W1 ⟨rfl, hb1⟩
  refine hK.out _ _ (below_next hHeld hHeld.size hb1) hb1 ?_
  clear hK K hHeld hBX hb1
  try simp only [pu]
  refine mixX_take (i := 1) (o := ⟨(some 11), _, _, _, _, _⟩) (v := .bool false) rfl (by kernel_rfl) (by kernel_rfl) (by kernel_rfl) (by kernel_rfl) (by kernel_rfl) (fun _ _ _ h => h) (Or.inl ⟨by rfl, ?y1_1⟩) ?_
  case y1_1 => (intro W0 hSw; go_simp; try with_reducible rfl)
  try simp only [pu]
  refine mixX_nil (fun W2 hHeld hBX => ?_)
  clear hBX
  refine wpAnyH_done (by kernel_rfl) ?_ _
  obtain ⟨V1, rV1⟩ : ∃ X, X = W2 := ⟨_, rfl⟩
  subst rV1
  have gb0_V1 := row_next2 gb0_V0 hHeld
  have sb0_V1 := row_size gb0_V1
  have gb1_V1 := row_next2 gb1_V0 hHeld
  have sb1_V1 := row_size gb1_V1
  have hb_V1 := below_next hb_V0 hb_V0.size hHeld
  have hlaV1 := hlaV0.next hHeld
  have hA_V1 := hA_V0.next hHeld
  clear hHeld hb_V0 hlaV0 sb0_V0 gb0_V0 sb1_V0 gb1_V0 hA_V0
  by_cases hn : n ≤ 60
  · go_upto_region 5 with fail
    have hfl : [l].flatten.length ≤ 144115188075855872 := by rw [List.flatten_cons, List.flatten_nil, List.append_nil, Hhl.out]; omega
    refine plain_start (S := fun W' => Below V1.heap.size V1 W') (by kernel_rfl) (Below.refl _ _) (fun hHeld => ?_)
    refine wpAnyH_take (i := 0) (oi := ⟨(some 15), _, _, _, _, _⟩) (v := _) rfl (by kernel_rfl) (by kernel_rfl) (by kernel_rfl) (fun _ _ _ h => h) (yieldsIf_load_mid (by rfl) _ _ rfl (w.heap.size) 0 rfl (bv a) _ (fun W' hW' => range_row ((hW'.block _ sb0_V1).trans gb0_V1.out)) (Tryd.underlying23) rfl (by rw [bv_len, Hha.out]; kernel_rfl)) hHeld ?_
    try simp only [pu]
    refine wpAnyH_take (i := 1) (oi := ⟨(some 16), _, _, _, _, _⟩) (v := .slice A n c) rfl (by kernel_rfl) (by kernel_rfl) (by kernel_rfl) (fun _ _ _ h => h) (Or.inl ⟨by rfl, ?y2_1⟩) hHeld ?_
    case y2_1 => (intro W0 hSw; go_simp; try with_reducible rfl)
    try simp only [pu]
    refine mixX_start (B := V1.heap.size) (al := [⟨2, 17, 24, [Value.slice A n c].toArray, fun g => .slice (some ⟨g, 0, none⟩) 1 1⟩, ⟨4, 7, 28, ((bv z64)).toArray, fun g => .pointer (some ⟨g, 0, none⟩)⟩]) (fuel := 2) rfl hHeld (hHeld.size) ?_
    clear hHeld
    refine mixX_call1 (i := 3) (o := ⟨(some 18), _, _, _, _, _⟩) rfl (by kernel_rfl) (by kernel_rfl) (by kernel_rfl) (by kernel_rfl) (by kernel_rfl) (by kernel_rfl) (by simp) (by simp) (fun x hx => by simp only [List.mem_cons, List.not_mem_nil, or_false] at hx; rcases hx with rfl | rfl <;> first | exact makesX_new rfl (by kernel_rfl) rfl rfl rfl zero_sig | exact makesX_list (cells := [Value.slice A n c]) rfl (by kernel_rfl) rfl rfl (by rfl) Tryd.underlying38 [(0, Value.slice A n c)] (by rfl) (bs_one A n c)) (fun W x _ h => h.alloc h.size _) (fun _ _ _ _ _ h => h) (fun g3 X3 hHeld hBX hg hBg K hK => ?_)
    have hL3 := Lst.row1 (l1 := l) hg (hA_V1.next hHeld) Hhl.out hc
    clear hg hBg
    try simp only [pu]
    go_simp
    refine (sign_any _ (hlaV1.next hHeld) a Hha.out (some ⟨g3, 0, none⟩) 1 1 [l] hL3 hfl (by decide)).mono ?_
    rintro e W3 ⟨s, rfl, eS, hs, hb3⟩
    refine hK.out _ _ (below_next hHeld hHeld.size hb3) hb3 ?_
    clear hK K hHeld hBX hb3 hL3
    try simp only [pu]
    refine mixX_end (by kernel_rfl) (by kernel_rfl) (fun _ _ _ _ _ h => h) (by simp) (by simp) (fun x hx => by simp only [List.mem_cons, List.not_mem_nil, or_false] at hx; rcases hx with rfl <;> first | exact makesX_new rfl (by kernel_rfl) rfl rfl rfl zero_sig) (fun W x _ h => h.alloc h.size _) (fun D hD W4 hHeld hBX hHo => ?_)
    obtain ⟨G7, rfl⟩ := x_one hD
    have xG7 : Hid (W4.heap[G7]? = some (.cells ((bv z64)).toArray 28 (0, 0))) := hHo.row (⟨4, 7, 28, ((bv z64)).toArray, fun g => .pointer (some ⟨g, 0, none⟩)⟩, G7) (by simp)
    have lG7 : V1.heap.size ≤ G7 := hHo.new (⟨4, 7, 28, ((bv z64)).toArray, fun g => .pointer (some ⟨g, 0, none⟩)⟩, G7) (by simp)
    clear hHo hBX hD
    simp only [markDX, putX, List.foldr_cons, List.foldr_nil, pu, List.setIfInBounds_toArray, List.set_cons_zero, List.set_cons_succ]
    refine wpAnyH_ready (rs := [5]) (by kernel_rfl) (by simp) ?_
    refine AllReadyH.cons (i := 5) (o := ⟨none, _, _, _, _, _⟩) rfl (fun K hK => ?_) AllReadyH.nil
    refine step_row (by rfl) 28 (.tmp 7) (.tmp 18) rfl G7 (bv s) rfl rfl 28 _ xG7.out (by rw [bv_len, hs.out]; kernel_rfl) (by rw [List.size_toArray, bv_len, bv_len, hs.out, z64_len]) (bv_one _) ?_
    intro W5 yG7 kG7
    refine hK.out _ _ (But.below hHeld kG7 lG7 hHeld.size) (fun hHeld => ?_)
    clear hK K kG7 xG7
    have xG7 := yG7
    clear yG7
    try simp only [pu]
    refine wpAnyH_done (by kernel_rfl) ?_ _
    obtain ⟨V2, rV2⟩ : ∃ X, X = W5 := ⟨_, rfl⟩
    subst rV2
    have gb0_V2 := row_next2 gb0_V1 hHeld
    have sb0_V2 := row_size gb0_V2
    have gb1_V2 := row_next2 gb1_V1 hHeld
    have sb1_V2 := row_size gb1_V2
    have hb_V2 := below_next hb_V1 hb_V1.size hHeld
    have hlaV2 := hlaV1.next hHeld
    have hA_V2 := hA_V1.next hHeld
    have gn7_V2 := xG7
    have sn7_V2 := row_size gn7_V2
    clear xG7
    have wG7 : w.heap.size + 2 ≤ G7 := by omega
    clear hHeld hb_V1 hlaV1 sb0_V1 gb0_V1 sb1_V1 gb1_V1 hA_V1 lG7
    go_upto_region 6 with fail
    refine wp_region_held_drew (S := fun W' => Below V2.heap.size V2 W') (by kernel_rfl) ((Below.refl _ _).drew) (fun hHeld => ?_)
    refine wpAnyH_take (i := 0) (oi := ⟨(some 19), _, _, _, _, _⟩) (v := _) rfl (by kernel_rfl) (by kernel_rfl) (by kernel_rfl) (fun _ _ _ h => h) (yieldsIf_load_mid (by rfl) _ _ rfl (w.heap.size) 0 rfl (bv a) _ (fun W' hW' => range_row ((hW'.block _ sb0_V2).trans gb0_V2.out)) (Tryd.underlying23) rfl (by rw [bv_len, Hha.out]; kernel_rfl)) hHeld ?_
    try simp only [pu]
    refine wpAnyH_take (i := 2) (oi := ⟨(some 21), _, _, _, _, _⟩) (v := _) rfl (by kernel_rfl) (by kernel_rfl) (by kernel_rfl) (fun _ _ _ h => h) (yieldsIf_load_mid (by rfl) _ _ rfl (w.heap.size + 1) 0 rfl (bv b) _ (fun W' hW' => range_row ((hW'.block _ sb1_V2).trans gb1_V2.out)) (Tryd.underlying23) rfl (by rw [bv_len, Hhb.out]; kernel_rfl)) hHeld ?_
    try simp only [pu]
    refine mixX_start (B := V2.heap.size) (al := [⟨4, 8, 23, ((bv z32)).toArray, fun g => .pointer (some ⟨g, 0, none⟩)⟩, ⟨5, 9, 23, ((bv z32)).toArray, fun g => .pointer (some ⟨g, 0, none⟩)⟩]) (fuel := 4) rfl hHeld (hHeld.size) ?_
    clear hHeld
    refine mixX_call (i := 1) (o := ⟨(some 20), _, _, _, _, _⟩) rfl (by kernel_rfl) (by kernel_rfl) (by kernel_rfl) (by kernel_rfl) (by simp) (by simp) (fun x hx => by simp only [List.mem_cons, List.not_mem_nil, or_false] at hx; rcases hx with rfl | rfl <;> first | exact makesX_new rfl (by kernel_rfl) rfl rfl rfl zero_word | exact makesX_new rfl (by kernel_rfl) rfl rfl rfl zero_word) (fun W x _ h => h.alloc h.size _) (fun _ _ _ _ _ h => h) (fun X6 hHeld hBX K hK => ?_)
    try simp only [pu]
    go_simp
    refine (public_any _ (hlaV2.next hHeld) a Hha.out).mono ?_
    rintro e W6 ⟨p, rfl, eP, hp, hb6⟩
    refine hK.out _ _ (below_next hHeld hHeld.size hb6) hb6 ?_
    clear hK K hHeld hBX hb6
    try simp only [pu]
    refine mixX_call (i := 3) (o := ⟨(some 22), _, _, _, _, _⟩) rfl (by kernel_rfl) (by kernel_rfl) (by kernel_rfl) (by kernel_rfl) (by simp) (by simp) (fun x hx => by simp only [List.mem_cons, List.not_mem_nil, or_false] at hx; rcases hx with rfl | rfl <;> first | exact makesX_new rfl (by kernel_rfl) rfl rfl rfl zero_word | exact makesX_new rfl (by kernel_rfl) rfl rfl rfl zero_word) (fun W x _ h => h.alloc h.size _) (fun _ _ _ _ _ h => h) (fun X7 hHeld hBX K hK => ?_)
    try simp only [pu]
    go_simp
    refine (public_any _ (hlaV2.next hHeld) b Hhb.out).mono ?_
    rintro e W7 ⟨q, rfl, eQ, hq, hb7⟩
    refine hK.out _ _ (below_next hHeld hHeld.size hb7) hb7 ?_
    clear hK K hHeld hBX hb7
    try simp only [pu]
    refine mixX_end (by kernel_rfl) (by kernel_rfl) (fun _ _ _ _ _ h => h) (by simp) (by simp) (fun x hx => by simp only [List.mem_cons, List.not_mem_nil, or_false] at hx; rcases hx with rfl | rfl <;> first | exact makesX_new rfl (by kernel_rfl) rfl rfl rfl zero_word | exact makesX_new rfl (by kernel_rfl) rfl rfl rfl zero_word) (fun W x _ h => h.alloc h.size _) (fun D hD W8 hHeld hBX hHo => ?_)
    obtain ⟨G8, G9, rfl⟩ := x_two hD
    have xG8 : Hid (W8.heap[G8]? = some (.cells ((bv z32)).toArray 23 (0, 0))) := hHo.row (⟨4, 8, 23, ((bv z32)).toArray, fun g => .pointer (some ⟨g, 0, none⟩)⟩, G8) (by simp)
    have lG8 : V2.heap.size ≤ G8 := hHo.new (⟨4, 8, 23, ((bv z32)).toArray, fun g => .pointer (some ⟨g, 0, none⟩)⟩, G8) (by simp)
    have xG9 : Hid (W8.heap[G9]? = some (.cells ((bv z32)).toArray 23 (0, 0))) := hHo.row (⟨5, 9, 23, ((bv z32)).toArray, fun g => .pointer (some ⟨g, 0, none⟩)⟩, G9) (by simp)
    have lG9 : V2.heap.size ≤ G9 := hHo.new (⟨5, 9, 23, ((bv z32)).toArray, fun g => .pointer (some ⟨g, 0, none⟩)⟩, G9) (by simp)
    have hnd := hHo.nodup
    simp only [List.map_cons, List.map_nil, List.nodup_cons, List.mem_cons, List.not_mem_nil, or_false, not_false_eq_true, List.nodup_nil, and_true] at hnd
    have nG8G9 := hnd
    clear hnd
    clear hHo hBX hD
    simp only [markDX, putX, List.foldr_cons, List.foldr_nil, pu, List.setIfInBounds_toArray, List.set_cons_zero, List.set_cons_succ]
    refine wpAnyH_ready (rs := [6]) (by kernel_rfl) (by simp) ?_
    refine AllReadyH.cons (i := 6) (o := ⟨none, _, _, _, _, _⟩) rfl (fun K hK => ?_) AllReadyH.nil
    refine step_row (by rfl) 23 (.tmp 8) (.tmp 20) rfl G8 (bv p) rfl rfl 23 _ xG8.out (by rw [bv_len, hp.out]; kernel_rfl) (by rw [List.size_toArray, bv_len, bv_len, hp.out, z32_len]) (bv_one _) ?_
    intro W9 yG8 kG8
    have zG9 := row_but xG9 kG8 (by omega)
    clear xG9
    have xG9 := zG9
    clear zG9
    refine hK.out _ _ (But.below hHeld kG8 lG8 hHeld.size) (fun hHeld => ?_)
    clear hK K kG8 xG8
    have xG8 := yG8
    clear yG8
    try simp only [pu]
    refine wpAnyH_ready (rs := [7]) (by kernel_rfl) (by simp) ?_
    refine AllReadyH.cons (i := 7) (o := ⟨none, _, _, _, _, _⟩) rfl (fun K hK => ?_) AllReadyH.nil
    refine step_row (by rfl) 23 (.tmp 9) (.tmp 22) rfl G9 (bv q) rfl rfl 23 _ xG9.out (by rw [bv_len, hq.out]; kernel_rfl) (by rw [List.size_toArray, bv_len, bv_len, hq.out, z32_len]) (bv_one _) ?_
    intro W10 yG9 kG9
    have zG8 := row_but xG8 kG9 (by omega)
    clear xG8
    have xG8 := zG8
    clear zG8
    refine hK.out _ _ (But.below hHeld kG9 lG9 hHeld.size) (fun hHeld => ?_)
    clear hK K kG9 xG9
    have xG9 := yG9
    clear yG9
    try simp only [pu]
    refine wpAnyH_done (by kernel_rfl) ?_ _
    obtain ⟨V3, rV3⟩ : ∃ X, X = W10 := ⟨_, rfl⟩
    subst rV3
    have gb0_V3 := row_next2 gb0_V2 hHeld
    have sb0_V3 := row_size gb0_V3
    have gb1_V3 := row_next2 gb1_V2 hHeld
    have sb1_V3 := row_size gb1_V3
    have gn7_V3 := row_next2 gn7_V2 hHeld
    have sn7_V3 := row_size gn7_V3
    have hb_V3 := below_next hb_V2 hb_V2.size hHeld
    have hlaV3 := hlaV2.next hHeld
    have hA_V3 := hA_V2.next hHeld
    have gn8_V3 := xG8
    have sn8_V3 := row_size gn8_V3
    clear xG8
    have wG8 : w.heap.size + 2 ≤ G8 := by omega
    have gn9_V3 := xG9
    have sn9_V3 := row_size gn9_V3
    clear xG9
    have wG9 : w.heap.size + 2 ≤ G9 := by omega
    have nG7G8 : G7 ≠ G8 := by omega
    have nG7G9 : G7 ≠ G9 := by omega
    clear hHeld hb_V2 hlaV2 sb0_V2 gb0_V2 sb1_V2 gb1_V2 sn7_V2 gn7_V2 hA_V2 lG8 lG9
    have HV := vlt (show VerIs p s [l].flatten true by rw [eP.out, eS.out]; exact ver_sign _ _)
    clear eP eQ
    go_upto_region 7 with fail
    by_cases hpq : p = q
    · subst hpq
      refine wp_region_held_drew (S := fun W' => Below V3.heap.size V3 W') (by kernel_rfl) ((Below.refl _ _).drew) (fun hHeld => ?_)
      refine wpAnyH_take (i := 0) (oi := ⟨(some 23), _, _, _, _, _⟩) (v := _) rfl (by kernel_rfl) (by kernel_rfl) (by kernel_rfl) (fun _ _ _ h => h) (yieldsIf_load_mid (by rfl) _ _ rfl G7 0 rfl (bv s) _ (fun W' hW' => range_row ((hW'.block _ sn7_V3).trans gn7_V3.out)) (Tryd.underlying28) rfl (by rw [bv_len, hs.out]; kernel_rfl)) hHeld ?_
      try simp only [pu]
      refine wpAnyH_take (i := 1) (oi := ⟨(some 24), _, _, _, _, _⟩) (v := _) rfl (by kernel_rfl) (by kernel_rfl) (by kernel_rfl) (fun _ _ _ h => h) (yieldsIf_load_mid (by rfl) _ _ rfl (w.heap.size) 0 rfl (bv a) _ (fun W' hW' => range_row ((hW'.block _ sb0_V3).trans gb0_V3.out)) (Tryd.underlying23) rfl (by rw [bv_len, Hha.out]; kernel_rfl)) hHeld ?_
      try simp only [pu]
      refine wpAnyH_take (i := 2) (oi := ⟨(some 25), _, _, _, _, _⟩) (v := .slice A n c) rfl (by kernel_rfl) (by kernel_rfl) (by kernel_rfl) (fun _ _ _ h => h) (Or.inl ⟨by rfl, ?y4_2⟩) hHeld ?_
      case y4_2 => (intro W0 hSw; go_simp; try with_reducible rfl)
      try simp only [pu]
      refine mixX_start (B := V3.heap.size) (al := [⟨3, 26, 24, [Value.slice A n c].toArray, fun g => .slice (some ⟨g, 0, none⟩) 1 1⟩]) (fuel := 22) rfl hHeld (hHeld.size) ?_
      clear hHeld
      refine mixX_call1 (i := 4) (o := ⟨(some 27), _, _, _, _, _⟩) rfl (by kernel_rfl) (by kernel_rfl) (by kernel_rfl) (by kernel_rfl) (by kernel_rfl) (by kernel_rfl) (by simp) (by simp) (fun x hx => by simp only [List.mem_cons, List.not_mem_nil, or_false] at hx; rcases hx with rfl <;> first | exact makesX_list (cells := [Value.slice A n c]) rfl (by kernel_rfl) rfl rfl (by rfl) Tryd.underlying38 [(0, Value.slice A n c)] (by rfl) (bs_one A n c)) (fun W x _ h => h.alloc h.size _) (fun _ _ _ _ _ h => h) (fun g4 X11 hHeld hBX hg hBg K hK => ?_)
      have hL4 := Lst.row1 (l1 := l) hg (hA_V3.next hHeld) Hhl.out hc
      clear hg hBg
      try simp only [pu]
      go_simp
      refine (sign_any _ (hlaV3.next hHeld) a Hha.out (some ⟨g4, 0, none⟩) 1 1 [l] hL4 hfl (by decide)).mono ?_
      rintro e W11 ⟨s2, rfl, eS2, hs2, hb11⟩
      have es2 : s2 = s := by rw [eS2.out, eS.out]
      rw [es2]
      clear es2 eS2 hs2
      refine hK.out _ _ (below_next hHeld hHeld.size hb11) hb11 ?_
      clear hK K hHeld hBX hb11 hL4
      try simp only [pu]
      have hqs := eql_bytes_same (P := Tryd.prog) Tryd.underlying28 Tryd.underlying5 Tryd.sizeByte s hs.out
      refine mixX_take (i := 5) (o := ⟨(some 28), _, _, _, _, _⟩) (v := .bool true) rfl (by kernel_rfl) (by kernel_rfl) (by kernel_rfl) (by kernel_rfl) (by kernel_rfl) (fun _ _ _ h => h) (Or.inl ⟨by rfl, ?y4_5⟩) ?_
      case y4_5 => (intro W0 hSw; go_simp; try simp only [hqs]; try with_reducible rfl)
      try simp only [pu]
      refine mixX_take (i := 6) (o := ⟨(some 29), _, _, _, _, _⟩) (v := .bool true) rfl (by kernel_rfl) (by kernel_rfl) (by kernel_rfl) (by kernel_rfl) (by kernel_rfl) (fun _ _ _ h => h) (Or.inl ⟨by rfl, ?y4_6⟩) ?_
      case y4_6 => (intro W0 hSw; go_simp; try with_reducible rfl)
      try simp only [pu]
      refine mixX_take (i := 7) (o := ⟨(some 30), _, _, _, _, _⟩) (v := _) rfl (by kernel_rfl) (by kernel_rfl) (by kernel_rfl) (by kernel_rfl) (by kernel_rfl) (fun _ _ _ h => h) (yieldsIf_load_mid (by rfl) _ _ rfl G8 0 rfl (bv p) _ (fun W' hW' => range_row ((hW'.block _ sn8_V3).trans gn8_V3.out)) (Tryd.underlying23) rfl (by rw [bv_len, hp.out]; kernel_rfl)) ?_
      try simp only [pu]
      refine mixX_take (i := 8) (o := ⟨(some 31), _, _, _, _, _⟩) (v := _) rfl (by kernel_rfl) (by kernel_rfl) (by kernel_rfl) (by kernel_rfl) (by kernel_rfl) (fun _ _ _ h => h) (yieldsIf_load_mid (by rfl) _ _ rfl G7 0 rfl (bv s) _ (fun W' hW' => range_row ((hW'.block _ sn7_V3).trans gn7_V3.out)) (Tryd.underlying28) rfl (by rw [bv_len, hs.out]; kernel_rfl)) ?_
      try simp only [pu]
      refine mixX_take (i := 9) (o := ⟨(some 32), _, _, _, _, _⟩) (v := .slice A n c) rfl (by kernel_rfl) (by kernel_rfl) (by kernel_rfl) (by kernel_rfl) (by kernel_rfl) (fun _ _ _ h => h) (Or.inl ⟨by rfl, ?y4_9⟩) ?_
      case y4_9 => (intro W0 hSw; go_simp; try with_reducible rfl)
      try simp only [pu]
      refine mixX_add ⟨10, 33, 24, [Value.slice A n c].toArray, fun g => .slice (some ⟨g, 0, none⟩) 1 1⟩ ?_
      refine mixX_call1 (i := 11) (o := ⟨(some 34), _, _, _, _, _⟩) rfl (by kernel_rfl) (by kernel_rfl) (by kernel_rfl) (by kernel_rfl) (by kernel_rfl) (by kernel_rfl) (by simp) (by simp) (fun x hx => by simp only [List.mem_cons, List.not_mem_nil, or_false] at hx; rcases hx with rfl <;> first | exact makesX_list (cells := [Value.slice A n c]) rfl (by kernel_rfl) rfl rfl (by rfl) Tryd.underlying38 [(0, Value.slice A n c)] (by rfl) (bs_one A n c)) (fun W x _ h => h.alloc h.size _) (fun _ _ _ _ _ h => h) (fun g11 X12 hHeld hBX hg hBg K hK => ?_)
      have hL11 := Lst.row1 (l1 := l) hg (hA_V3.next hHeld) Hhl.out hc
      clear hg hBg
      try simp only [pu]
      go_simp
      refine (verify_any _ (hlaV3.next hHeld) p s hp.out hs.out (some ⟨g11, 0, none⟩) 1 1 [l] hL11 hfl (by decide)).mono ?_
      rintro e W12 ⟨ok, rfl, eV, hb12⟩
      obtain rfl : ok = true := ver_only eV.out HV.out
      clear eV
      refine hK.out _ _ (below_next hHeld hHeld.size hb12) hb12 ?_
      clear hK K hHeld hBX hb12 hL11
      try simp only [pu]
      refine mixX_take (i := 12) (o := ⟨(some 35), _, _, _, _, _⟩) (v := .bool true) rfl (by kernel_rfl) (by kernel_rfl) (by kernel_rfl) (by kernel_rfl) (by kernel_rfl) (fun _ _ _ h => h) (Or.inl ⟨by rfl, ?y4_12⟩) ?_
      case y4_12 => (intro W0 hSw; go_simp; try with_reducible rfl)
      try simp only [pu]
      refine mixX_take (i := 13) (o := ⟨(some 36), _, _, _, _, _⟩) (v := .bool true) rfl (by kernel_rfl) (by kernel_rfl) (by kernel_rfl) (by kernel_rfl) (by kernel_rfl) (fun _ _ _ h => h) (Or.inl ⟨by rfl, ?y4_13⟩) ?_
      case y4_13 => (intro W0 hSw; go_simp; try with_reducible rfl)
      try simp only [pu]
      refine mixX_take (i := 14) (o := ⟨(some 37), _, _, _, _, _⟩) (v := _) rfl (by kernel_rfl) (by kernel_rfl) (by kernel_rfl) (by kernel_rfl) (by kernel_rfl) (fun _ _ _ h => h) (yieldsIf_load_mid (by rfl) _ _ rfl G8 0 rfl (bv p) _ (fun W' hW' => range_row ((hW'.block _ sn8_V3).trans gn8_V3.out)) (Tryd.underlying23) rfl (by rw [bv_len, hp.out]; kernel_rfl)) ?_
      try simp only [pu]
      refine mixX_take (i := 15) (o := ⟨(some 38), _, _, _, _, _⟩) (v := _) rfl (by kernel_rfl) (by kernel_rfl) (by kernel_rfl) (by kernel_rfl) (by kernel_rfl) (fun _ _ _ h => h) (yieldsIf_load_mid (by rfl) _ _ rfl G9 0 rfl (bv p) _ (fun W' hW' => range_row ((hW'.block _ sn9_V3).trans gn9_V3.out)) (Tryd.underlying23) rfl (by rw [bv_len, hp.out]; kernel_rfl)) ?_
      try simp only [pu]
      have hqp := neq_bytes_same (P := Tryd.prog) Tryd.underlying23 Tryd.underlying5 Tryd.sizeByte p hp.out
      refine mixX_take (i := 16) (o := ⟨(some 39), _, _, _, _, _⟩) (v := .bool false) rfl (by kernel_rfl) (by kernel_rfl) (by kernel_rfl) (by kernel_rfl) (by kernel_rfl) (fun _ _ _ h => h) (Or.inl ⟨by rfl, ?y4_16⟩) ?_
      case y4_16 => (intro W0 hSw; go_simp; try simp only [hqp]; try with_reducible rfl)
      try simp only [pu]
      refine mixX_take (i := 17) (o := ⟨(some 40), _, _, _, _, _⟩) (v := .bool false) rfl (by kernel_rfl) (by kernel_rfl) (by kernel_rfl) (by kernel_rfl) (by kernel_rfl) (fun _ _ _ h => h) (Or.inl ⟨by rfl, ?y4_17⟩) ?_
      case y4_17 => (intro W0 hSw; go_simp; try with_reducible rfl)
      try simp only [pu]
      refine mixX_take (i := 18) (o := ⟨(some 41), _, _, _, _, _⟩) (v := _) rfl (by kernel_rfl) (by kernel_rfl) (by kernel_rfl) (by kernel_rfl) (by kernel_rfl) (fun _ _ _ h => h) (yieldsIf_load_mid (by rfl) _ _ rfl G9 0 rfl (bv p) _ (fun W' hW' => range_row ((hW'.block _ sn9_V3).trans gn9_V3.out)) (Tryd.underlying23) rfl (by rw [bv_len, hp.out]; kernel_rfl)) ?_
      try simp only [pu]
      refine mixX_take (i := 19) (o := ⟨(some 42), _, _, _, _, _⟩) (v := _) rfl (by kernel_rfl) (by kernel_rfl) (by kernel_rfl) (by kernel_rfl) (by kernel_rfl) (fun _ _ _ h => h) (yieldsIf_load_mid (by rfl) _ _ rfl G7 0 rfl (bv s) _ (fun W' hW' => range_row ((hW'.block _ sn7_V3).trans gn7_V3.out)) (Tryd.underlying28) rfl (by rw [bv_len, hs.out]; kernel_rfl)) ?_
      try simp only [pu]
      refine mixX_take (i := 20) (o := ⟨(some 43), _, _, _, _, _⟩) (v := .slice A n c) rfl (by kernel_rfl) (by kernel_rfl) (by kernel_rfl) (by kernel_rfl) (by kernel_rfl) (fun _ _ _ h => h) (Or.inl ⟨by rfl, ?y4_20⟩) ?_
      case y4_20 => (intro W0 hSw; go_simp; try with_reducible rfl)
      try simp only [pu]
      refine mixX_add ⟨21, 44, 24, [Value.slice A n c].toArray, fun g => .slice (some ⟨g, 0, none⟩) 1 1⟩ ?_
      refine mixX_call1 (i := 22) (o := ⟨(some 45), _, _, _, _, _⟩) rfl (by kernel_rfl) (by kernel_rfl) (by kernel_rfl) (by kernel_rfl) (by kernel_rfl) (by kernel_rfl) (by simp) (by simp) (fun x hx => by simp only [List.mem_cons, List.not_mem_nil, or_false] at hx; rcases hx with rfl <;> first | exact makesX_list (cells := [Value.slice A n c]) rfl (by kernel_rfl) rfl rfl (by rfl) Tryd.underlying38 [(0, Value.slice A n c)] (by rfl) (bs_one A n c)) (fun W x _ h => h.alloc h.size _) (fun _ _ _ _ _ h => h) (fun g22 X13 hHeld hBX hg hBg K hK => ?_)
      have hL22 := Lst.row1 (l1 := l) hg (hA_V3.next hHeld) Hhl.out hc
      clear hg hBg
      try simp only [pu]
      go_simp
      refine (verify_any _ (hlaV3.next hHeld) p s hp.out hs.out (some ⟨g22, 0, none⟩) 1 1 [l] hL22 hfl (by decide)).mono ?_
      rintro e W13 ⟨ok, rfl, eV, hb13⟩
      obtain rfl : ok = true := ver_only eV.out HV.out
      clear eV
      refine hK.out _ _ (below_next hHeld hHeld.size hb13) hb13 ?_
      clear hK K hHeld hBX hb13 hL22
      try simp only [pu]
      refine mixX_take (i := 23) (o := ⟨(some 46), _, _, _, _, _⟩) (v := .bool true) rfl (by kernel_rfl) (by kernel_rfl) (by kernel_rfl) (by kernel_rfl) (by kernel_rfl) (fun _ _ _ h => h) (Or.inl ⟨by rfl, ?y4_23⟩) ?_
      case y4_23 => (intro W0 hSw; go_simp; try with_reducible rfl)
      try simp only [pu]
      refine mixX_take (i := 24) (o := ⟨(some 47), _, _, _, _, _⟩) (v := .bool true) rfl (by kernel_rfl) (by kernel_rfl) (by kernel_rfl) (by kernel_rfl) (by kernel_rfl) (fun _ _ _ h => h) (Or.inl ⟨by rfl, ?y4_24⟩) ?_
      case y4_24 => (intro W0 hSw; go_simp; try with_reducible rfl)
      try simp only [pu]
      refine mixX_take (i := 25) (o := ⟨(some 6), _, _, _, _, _⟩) (v := .bool true) rfl (by kernel_rfl) (by kernel_rfl) (by kernel_rfl) (by kernel_rfl) (by kernel_rfl) (fun _ _ _ h => h) (Or.inl ⟨by rfl, ?y4_25⟩) ?_
      case y4_25 => (intro W0 hSw; go_simp; try with_reducible rfl)
      try simp only [pu]
      refine mixX_nil (fun W14 hHeld hBX => ?_)
      clear hBX
      refine wpAnyH_done (by kernel_rfl) ?_ _
      obtain ⟨V4, rV4⟩ : ∃ X, X = W14 := ⟨_, rfl⟩
      subst rV4
      have gb0_V4 := row_next2 gb0_V3 hHeld
      have sb0_V4 := row_size gb0_V4
      have gb1_V4 := row_next2 gb1_V3 hHeld
      have sb1_V4 := row_size gb1_V4
      have gn7_V4 := row_next2 gn7_V3 hHeld
      have sn7_V4 := row_size gn7_V4
      have gn8_V4 := row_next2 gn8_V3 hHeld
      have sn8_V4 := row_size gn8_V4
      have gn9_V4 := row_next2 gn9_V3 hHeld
      have sn9_V4 := row_size gn9_V4
      have hb_V4 := below_next hb_V3 hb_V3.size hHeld
      have hlaV4 := hlaV3.next hHeld
      have hA_V4 := hA_V3.next hHeld
      clear hHeld hb_V3 hlaV3 sb0_V3 gb0_V3 sb1_V3 gb1_V3 sn7_V3 gn7_V3 sn8_V3 gn8_V3 sn9_V3 gn9_V3 hA_V3
      go_wp2_with fail
      go_ret
      exact ⟨rfl, hb_V4⟩
    · refine wp_region_held_drew (S := fun W' => Below V3.heap.size V3 W') (by kernel_rfl) ((Below.refl _ _).drew) (fun hHeld => ?_)
      refine wpAnyH_take (i := 0) (oi := ⟨(some 23), _, _, _, _, _⟩) (v := _) rfl (by kernel_rfl) (by kernel_rfl) (by kernel_rfl) (fun _ _ _ h => h) (yieldsIf_load_mid (by rfl) _ _ rfl G7 0 rfl (bv s) _ (fun W' hW' => range_row ((hW'.block _ sn7_V3).trans gn7_V3.out)) (Tryd.underlying28) rfl (by rw [bv_len, hs.out]; kernel_rfl)) hHeld ?_
      try simp only [pu]
      refine wpAnyH_take (i := 1) (oi := ⟨(some 24), _, _, _, _, _⟩) (v := _) rfl (by kernel_rfl) (by kernel_rfl) (by kernel_rfl) (fun _ _ _ h => h) (yieldsIf_load_mid (by rfl) _ _ rfl (w.heap.size) 0 rfl (bv a) _ (fun W' hW' => range_row ((hW'.block _ sb0_V3).trans gb0_V3.out)) (Tryd.underlying23) rfl (by rw [bv_len, Hha.out]; kernel_rfl)) hHeld ?_
      try simp only [pu]
      refine wpAnyH_take (i := 2) (oi := ⟨(some 25), _, _, _, _, _⟩) (v := .slice A n c) rfl (by kernel_rfl) (by kernel_rfl) (by kernel_rfl) (fun _ _ _ h => h) (Or.inl ⟨by rfl, ?y4_2⟩) hHeld ?_
      case y4_2 => (intro W0 hSw; go_simp; try with_reducible rfl)
      try simp only [pu]
      refine mixX_start (B := V3.heap.size) (al := [⟨3, 26, 24, [Value.slice A n c].toArray, fun g => .slice (some ⟨g, 0, none⟩) 1 1⟩]) (fuel := 22) rfl hHeld (hHeld.size) ?_
      clear hHeld
      refine mixX_call1 (i := 4) (o := ⟨(some 27), _, _, _, _, _⟩) rfl (by kernel_rfl) (by kernel_rfl) (by kernel_rfl) (by kernel_rfl) (by kernel_rfl) (by kernel_rfl) (by simp) (by simp) (fun x hx => by simp only [List.mem_cons, List.not_mem_nil, or_false] at hx; rcases hx with rfl <;> first | exact makesX_list (cells := [Value.slice A n c]) rfl (by kernel_rfl) rfl rfl (by rfl) Tryd.underlying38 [(0, Value.slice A n c)] (by rfl) (bs_one A n c)) (fun W x _ h => h.alloc h.size _) (fun _ _ _ _ _ h => h) (fun g4 X11 hHeld hBX hg hBg K hK => ?_)
      have hL4 := Lst.row1 (l1 := l) hg (hA_V3.next hHeld) Hhl.out hc
      clear hg hBg
      try simp only [pu]
      go_simp
      refine (sign_any _ (hlaV3.next hHeld) a Hha.out (some ⟨g4, 0, none⟩) 1 1 [l] hL4 hfl (by decide)).mono ?_
      rintro e W11 ⟨s2, rfl, eS2, hs2, hb11⟩
      have es2 : s2 = s := by rw [eS2.out, eS.out]
      rw [es2]
      clear es2 eS2 hs2
      refine hK.out _ _ (below_next hHeld hHeld.size hb11) hb11 ?_
      clear hK K hHeld hBX hb11 hL4
      try simp only [pu]
      have hqs := eql_bytes_same (P := Tryd.prog) Tryd.underlying28 Tryd.underlying5 Tryd.sizeByte s hs.out
      refine mixX_take (i := 5) (o := ⟨(some 28), _, _, _, _, _⟩) (v := .bool true) rfl (by kernel_rfl) (by kernel_rfl) (by kernel_rfl) (by kernel_rfl) (by kernel_rfl) (fun _ _ _ h => h) (Or.inl ⟨by rfl, ?y4_5⟩) ?_
      case y4_5 => (intro W0 hSw; go_simp; try simp only [hqs]; try with_reducible rfl)
      try simp only [pu]
      refine mixX_take (i := 6) (o := ⟨(some 29), _, _, _, _, _⟩) (v := .bool true) rfl (by kernel_rfl) (by kernel_rfl) (by kernel_rfl) (by kernel_rfl) (by kernel_rfl) (fun _ _ _ h => h) (Or.inl ⟨by rfl, ?y4_6⟩) ?_
      case y4_6 => (intro W0 hSw; go_simp; try with_reducible rfl)
      try simp only [pu]
      refine mixX_take (i := 7) (o := ⟨(some 30), _, _, _, _, _⟩) (v := _) rfl (by kernel_rfl) (by kernel_rfl) (by kernel_rfl) (by kernel_rfl) (by kernel_rfl) (fun _ _ _ h => h) (yieldsIf_load_mid (by rfl) _ _ rfl G8 0 rfl (bv p) _ (fun W' hW' => range_row ((hW'.block _ sn8_V3).trans gn8_V3.out)) (Tryd.underlying23) rfl (by rw [bv_len, hp.out]; kernel_rfl)) ?_
      try simp only [pu]
      refine mixX_take (i := 8) (o := ⟨(some 31), _, _, _, _, _⟩) (v := _) rfl (by kernel_rfl) (by kernel_rfl) (by kernel_rfl) (by kernel_rfl) (by kernel_rfl) (fun _ _ _ h => h) (yieldsIf_load_mid (by rfl) _ _ rfl G7 0 rfl (bv s) _ (fun W' hW' => range_row ((hW'.block _ sn7_V3).trans gn7_V3.out)) (Tryd.underlying28) rfl (by rw [bv_len, hs.out]; kernel_rfl)) ?_
      try simp only [pu]
      refine mixX_take (i := 9) (o := ⟨(some 32), _, _, _, _, _⟩) (v := .slice A n c) rfl (by kernel_rfl) (by kernel_rfl) (by kernel_rfl) (by kernel_rfl) (by kernel_rfl) (fun _ _ _ h => h) (Or.inl ⟨by rfl, ?y4_9⟩) ?_
      case y4_9 => (intro W0 hSw; go_simp; try with_reducible rfl)
      try simp only [pu]
      refine mixX_add ⟨10, 33, 24, [Value.slice A n c].toArray, fun g => .slice (some ⟨g, 0, none⟩) 1 1⟩ ?_
      refine mixX_call1 (i := 11) (o := ⟨(some 34), _, _, _, _, _⟩) rfl (by kernel_rfl) (by kernel_rfl) (by kernel_rfl) (by kernel_rfl) (by kernel_rfl) (by kernel_rfl) (by simp) (by simp) (fun x hx => by simp only [List.mem_cons, List.not_mem_nil, or_false] at hx; rcases hx with rfl <;> first | exact makesX_list (cells := [Value.slice A n c]) rfl (by kernel_rfl) rfl rfl (by rfl) Tryd.underlying38 [(0, Value.slice A n c)] (by rfl) (bs_one A n c)) (fun W x _ h => h.alloc h.size _) (fun _ _ _ _ _ h => h) (fun g11 X12 hHeld hBX hg hBg K hK => ?_)
      have hL11 := Lst.row1 (l1 := l) hg (hA_V3.next hHeld) Hhl.out hc
      clear hg hBg
      try simp only [pu]
      go_simp
      refine (verify_any _ (hlaV3.next hHeld) p s hp.out hs.out (some ⟨g11, 0, none⟩) 1 1 [l] hL11 hfl (by decide)).mono ?_
      rintro e W12 ⟨ok, rfl, eV, hb12⟩
      obtain rfl : ok = true := ver_only eV.out HV.out
      clear eV
      refine hK.out _ _ (below_next hHeld hHeld.size hb12) hb12 ?_
      clear hK K hHeld hBX hb12 hL11
      try simp only [pu]
      refine mixX_take (i := 12) (o := ⟨(some 35), _, _, _, _, _⟩) (v := .bool true) rfl (by kernel_rfl) (by kernel_rfl) (by kernel_rfl) (by kernel_rfl) (by kernel_rfl) (fun _ _ _ h => h) (Or.inl ⟨by rfl, ?y4_12⟩) ?_
      case y4_12 => (intro W0 hSw; go_simp; try with_reducible rfl)
      try simp only [pu]
      refine mixX_take (i := 13) (o := ⟨(some 36), _, _, _, _, _⟩) (v := .bool true) rfl (by kernel_rfl) (by kernel_rfl) (by kernel_rfl) (by kernel_rfl) (by kernel_rfl) (fun _ _ _ h => h) (Or.inl ⟨by rfl, ?y4_13⟩) ?_
      case y4_13 => (intro W0 hSw; go_simp; try with_reducible rfl)
      try simp only [pu]
      refine mixX_take (i := 14) (o := ⟨(some 37), _, _, _, _, _⟩) (v := _) rfl (by kernel_rfl) (by kernel_rfl) (by kernel_rfl) (by kernel_rfl) (by kernel_rfl) (fun _ _ _ h => h) (yieldsIf_load_mid (by rfl) _ _ rfl G8 0 rfl (bv p) _ (fun W' hW' => range_row ((hW'.block _ sn8_V3).trans gn8_V3.out)) (Tryd.underlying23) rfl (by rw [bv_len, hp.out]; kernel_rfl)) ?_
      try simp only [pu]
      refine mixX_take (i := 15) (o := ⟨(some 38), _, _, _, _, _⟩) (v := _) rfl (by kernel_rfl) (by kernel_rfl) (by kernel_rfl) (by kernel_rfl) (by kernel_rfl) (fun _ _ _ h => h) (yieldsIf_load_mid (by rfl) _ _ rfl G9 0 rfl (bv q) _ (fun W' hW' => range_row ((hW'.block _ sn9_V3).trans gn9_V3.out)) (Tryd.underlying23) rfl (by rw [bv_len, hq.out]; kernel_rfl)) ?_
      try simp only [pu]
      have hqp := neq_bytes (P := Tryd.prog) Tryd.underlying23 Tryd.underlying5 Tryd.sizeByte p q hp.out hq.out
      rw [decide_eq_false hpq] at hqp
      refine mixX_take (i := 16) (o := ⟨(some 39), _, _, _, _, _⟩) (v := .bool true) rfl (by kernel_rfl) (by kernel_rfl) (by kernel_rfl) (by kernel_rfl) (by kernel_rfl) (fun _ _ _ h => h) (Or.inl ⟨by rfl, ?y4_16⟩) ?_
      case y4_16 => (intro W0 hSw; go_simp; try simp only [hqp]; try with_reducible rfl)
      try simp only [pu]
      refine mixX_take (i := 17) (o := ⟨(some 40), _, _, _, _, _⟩) (v := .bool true) rfl (by kernel_rfl) (by kernel_rfl) (by kernel_rfl) (by kernel_rfl) (by kernel_rfl) (fun _ _ _ h => h) (Or.inl ⟨by rfl, ?y4_17⟩) ?_
      case y4_17 => (intro W0 hSw; go_simp; try with_reducible rfl)
      try simp only [pu]
      refine mixX_take (i := 18) (o := ⟨(some 41), _, _, _, _, _⟩) (v := undef) rfl (by kernel_rfl) (by kernel_rfl) (by kernel_rfl) (by kernel_rfl) (by kernel_rfl) (fun _ _ _ h => h) (Or.inr ⟨by rfl, rfl⟩) ?_
      try simp only [pu]
      refine mixX_take (i := 19) (o := ⟨(some 42), _, _, _, _, _⟩) (v := undef) rfl (by kernel_rfl) (by kernel_rfl) (by kernel_rfl) (by kernel_rfl) (by kernel_rfl) (fun _ _ _ h => h) (Or.inr ⟨by rfl, rfl⟩) ?_
      try simp only [pu]
      refine mixX_take (i := 20) (o := ⟨(some 43), _, _, _, _, _⟩) (v := undef) rfl (by kernel_rfl) (by kernel_rfl) (by kernel_rfl) (by kernel_rfl) (by kernel_rfl) (fun _ _ _ h => h) (Or.inr ⟨by rfl, rfl⟩) ?_
      try simp only [pu]
      refine mixX_call (i := 21) (o := ⟨(some 44), _, _, _, _, _⟩) rfl (by kernel_rfl) (by kernel_rfl) (by kernel_rfl) (by kernel_rfl) (by simp) (by simp) (fun x hx => by cases hx) (fun W x _ h => h.alloc h.size _) (fun _ _ _ _ _ h => h) (fun X13 hHeld hBX K hK => ?_)
      try simp only [pu]
      go_simp
      refine hK.out _ _ hHeld (Below.refl _ _) ?_
      clear hK K hHeld hBX
      try simp only [pu]
      refine mixX_call (i := 22) (o := ⟨(some 45), _, _, _, _, _⟩) rfl (by kernel_rfl) (by kernel_rfl) (by kernel_rfl) (by kernel_rfl) (by simp) (by simp) (fun x hx => by cases hx) (fun W x _ h => h.alloc h.size _) (fun _ _ _ _ _ h => h) (fun X14 hHeld hBX K hK => ?_)
      try simp only [pu]
      go_simp
      refine hK.out _ _ hHeld (Below.refl _ _) ?_
      clear hK K hHeld hBX
      try simp only [pu]
      refine mixX_take (i := 23) (o := ⟨(some 46), _, _, _, _, _⟩) (v := .bool true) rfl (by kernel_rfl) (by kernel_rfl) (by kernel_rfl) (by kernel_rfl) (by kernel_rfl) (fun _ _ _ h => h) (Or.inl ⟨by rfl, ?y4_23⟩) ?_
      case y4_23 => (intro W0 hSw; go_simp; try with_reducible rfl)
      try simp only [pu]
      refine mixX_take (i := 24) (o := ⟨(some 47), _, _, _, _, _⟩) (v := .bool true) rfl (by kernel_rfl) (by kernel_rfl) (by kernel_rfl) (by kernel_rfl) (by kernel_rfl) (fun _ _ _ h => h) (Or.inl ⟨by rfl, ?y4_24⟩) ?_
      case y4_24 => (intro W0 hSw; go_simp; try with_reducible rfl)
      try simp only [pu]
      refine mixX_take (i := 25) (o := ⟨(some 6), _, _, _, _, _⟩) (v := .bool true) rfl (by kernel_rfl) (by kernel_rfl) (by kernel_rfl) (by kernel_rfl) (by kernel_rfl) (fun _ _ _ h => h) (Or.inl ⟨by rfl, ?y4_25⟩) ?_
      case y4_25 => (intro W0 hSw; go_simp; try with_reducible rfl)
      try simp only [pu]
      refine mixX_nil (fun W15 hHeld hBX => ?_)
      clear hBX
      refine wpAnyH_done (by kernel_rfl) ?_ _
      obtain ⟨V4, rV4⟩ : ∃ X, X = W15 := ⟨_, rfl⟩
      subst rV4
      have gb0_V4 := row_next2 gb0_V3 hHeld
      have sb0_V4 := row_size gb0_V4
      have gb1_V4 := row_next2 gb1_V3 hHeld
      have sb1_V4 := row_size gb1_V4
      have gn7_V4 := row_next2 gn7_V3 hHeld
      have sn7_V4 := row_size gn7_V4
      have gn8_V4 := row_next2 gn8_V3 hHeld
      have sn8_V4 := row_size gn8_V4
      have gn9_V4 := row_next2 gn9_V3 hHeld
      have sn9_V4 := row_size gn9_V4
      have hb_V4 := below_next hb_V3 hb_V3.size hHeld
      have hlaV4 := hlaV3.next hHeld
      have hA_V4 := hA_V3.next hHeld
      clear hHeld hb_V3 hlaV3 sb0_V3 gb0_V3 sb1_V3 gb1_V3 sn7_V3 gn7_V3 sn8_V3 gn8_V3 sn9_V3 gn9_V3 hA_V3
      go_wp2_with fail
      go_ret
      exact ⟨rfl, hb_V4⟩
  · go_wp2_with fail
    go_ret
    exact ⟨rfl, hb_V1⟩
end Go.Proofs.YtcefdcjpddohaaaDoor
