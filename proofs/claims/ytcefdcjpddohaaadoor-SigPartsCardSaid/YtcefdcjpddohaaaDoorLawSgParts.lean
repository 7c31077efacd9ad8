/-
  SigParts' walk: true. Conditions: the packages' own numbers lie as the program's text lays them.
-/
import Derived.Test.YtcefdcjpddohaaaDoorSgA
import Derived.Test.YtcefdcjpddohaaaDoorPkO
namespace Go.Proofs.YtcefdcjpddohaaaDoor
open Go.RowKit

set_option maxRecDepth 100000 in
set_option maxHeartbeats 4000000 in
theorem walk_SigParts (w : World) (hla : LaidG w) (a : List UInt8) (ha : a.length = 32) (A : Option Addr) (l : List UInt8) (n c : Nat) (hAl : Byt w w.heap.size A l) (hl : l.length = n) (hc : n ≤ c) (D : Option Addr) (r : List UInt8) (m d : Nat) (hDr : Byt w w.heap.size D r) (hr : r.length = m) (hd : m ≤ d) :
    Calls Tryd.prog 4 #[.agg (bv a).toArray, .slice A n c, .slice D m d] w fun e w' => e = .returned (.bool true) ∧ Below w.heap.size w w' := by
  have hzw := zero_word
  have hzs := zero_sig
  obtain ⟨V0, hW, gb0_V0, hb_V0, hsW⟩ := one_new w (bv a).toArray 23
  have HW := Lib.hid hW
  have Hha := Lib.hid ha
  have Hhl := Lib.hid hl
  have Hhr := Lib.hid hr
  have sb0_V0 := row_size gb0_V0
  have hlaV0 := hla.next hb_V0
  have hHG := hla.hi (Nat.le_refl _)
  clear hla
  clear hW hsW ha hl hr
  go_enter Tryd.func4, Tryd.ntmps4
  go_upto_region 1 with fail
  rw [HW.out]
  refine plain_start (S := fun W' => Below V0.heap.size V0 W') (by kernel_rfl) (Below.refl _ _) (fun hHeld => ?_)
  refine mixX_start (B := V0.heap.size) (al := []) (fuel := 2) rfl hHeld (hHeld.size) ?_
  clear hHeld
  refine mixX_call (i := 0) (o := ⟨(some 9), _, _, _, _, _⟩) rfl (by kernel_rfl) (by kernel_rfl) (by kernel_rfl) (by kernel_rfl) (by simp) (by simp) (fun x hx => by cases hx) (fun W x _ h => h.alloc h.size _) (fun _ _ _ _ _ h => h) (fun X1 hHeld hBX K hK => ?_)
  try simp only [pu]
  go_simp
  refine (awake10_any _ (hlaV0.next hHeld)).mono ?_
  rintro e W1 ⟨rfl, hb1⟩
  refine hK.out _ _ (below_next hHeld hHeld.size hb1) hb1 ?_
  clear hK K hHeld hBX hb1
  try simp only [pu]
  refine mixX_take (i := 1) (o := ⟨(some 10), _, _, _, _, _⟩) (v := .bool false) rfl (by kernel_rfl) (by kernel_rfl) (by kernel_rfl) (by kernel_rfl) (by kernel_rfl) (fun _ _ _ h => h) (Or.inl ⟨by rfl, ?y1_1⟩) ?_
  case y1_1 => (intro W0 hSw; go_simp; try with_reducible rfl)
  try simp only [pu]
  refine mixX_nil (fun W2 hHeld hBX => ?_)
  clear hBX
  refine wpAnyH_done (by kernel_rfl) ?_ _
  obtain ⟨V1, rV1⟩ : ∃ X, X = W2 := ⟨_, rfl⟩
  subst rV1
  have gb0_V1 := row_next2 gb0_V0 hHeld
  have sb0_V1 := row_size gb0_V1
  have hb_V1 := below_next hb_V0 hb_V0.size hHeld
  have hlaV1 := hlaV0.next hHeld
  clear hHeld hb_V0 hlaV0 sb0_V0 gb0_V0 
  by_cases hn : n ≤ 100
  · by_cases hm : m ≤ 100
    · have hA1 := (hAl.below hb_V1).up hb_V1.size
      have hD1 := hDr.below hb_V1
      go_upto_region 6 with (at_builtin; refine wp_append_src _ rfl (.tmp 19) (.tmp 20) 24 rfl 5 Tryd.underlying24 Tryd.infoByte V1.heap.size (some ⟨V1.heap.size, 0, none⟩) 0 0 [] rfl (Res.none_lit V1 _ _ (Nat.le_refl _)) A n c rfl _ l (hA1.alloc (Nat.le_refl _) _) Hhl.out (by omega) (by simp) ?_)
      intro A2 c2 W2 hr2 hb2'
      have hb2 : Below V1.heap.size V1 W2 := hb2' V1.heap.size V1 (Nat.le_refl _) ((Below.refl _ _).alloc (Nat.le_refl _) _)
      clear hb2' hA1
      go_upto_region 6 with (at_builtin; refine wp_append_src _ rfl (.tmp 21) (.tmp 22) 24 rfl 5 Tryd.underlying24 Tryd.infoByte V1.heap.size A2 n c2 l rfl hr2 D m d rfl _ r ((hD1.up hb_V1.size).below hb2) Hhr.out (by omega) hb2.size ?_)
      intro X c3 W3 hr3 hb3'
      have hb3 : Below V1.heap.size V1 W3 := hb3' V1.heap.size V1 (Nat.le_refl _) hb2
      clear hb3' hb2 hr2 hD1
      obtain ⟨x, dx⟩ : ∃ x, x = l ++ r := ⟨_, rfl⟩
      rw [← dx] at hr3
      have hxl := Lib.hid hr3.len
      have hxc := hr3.cap
      have hX_V2 := hr3.byt
      have HX := vlt dx
      clear dx hr3
      obtain ⟨V2, rV2⟩ : ∃ W, W = W3 := ⟨_, rfl⟩
      subst rV2
      have gb0_V2 := row_next2 gb0_V1 hb3
      have sb0_V2 := row_size gb0_V2
      have hb_V2 := below_next hb_V1 hb_V1.size hb3
      have hlaV2 := hlaV1.next hb3
      clear hb3 gb0_V1 sb0_V1 hb_V1 hlaV1
      obtain ⟨k, hk⟩ : ∃ k, k = n + m := ⟨_, rfl⟩
      rw [← hk] at hxl hxc
      try rw [← hk]
      have hk2 : k ≤ 200 := by omega
      clear hk
      go_upto_region 6 with fail
      have hf1 : [x].flatten = l ++ r := by rw [List.flatten_cons, List.flatten_nil, List.append_nil, HX.out]
      have hf2 : [l, r].flatten = l ++ r := by simp
      have hf3 : [l, [], r].flatten = l ++ r := by simp
      have hfl : (l ++ r).length ≤ 144115188075855872 := by rw [List.length_append, Hhl.out, Hhr.out]; omega
      refine plain_start (S := fun W' => Below V2.heap.size V2 W') (by kernel_rfl) (Below.refl _ _) (fun hHeld => ?_)
      refine wpAnyH_take (i := 0) (oi := ⟨(some 24), _, _, _, _, _⟩) (v := _) rfl (by kernel_rfl) (by kernel_rfl) (by kernel_rfl) (fun _ _ _ h => h) (yieldsIf_load_mid (by rfl) _ _ rfl (w.heap.size) 0 rfl (bv a) _ (fun W' hW' => range_row ((hW'.block _ sb0_V2).trans gb0_V2.out)) (Tryd.underlying23) rfl (by rw [bv_len, Hha.out]; kernel_rfl)) hHeld ?_
      try simp only [pu]
      refine wpAnyH_take (i := 1) (oi := ⟨(some 25), _, _, _, _, _⟩) (v := .slice A n c) rfl (by kernel_rfl) (by kernel_rfl) (by kernel_rfl) (fun _ _ _ h => h) (Or.inl ⟨by rfl, ?y2_1⟩) hHeld ?_
      case y2_1 => (intro W0 hSw; go_simp; try with_reducible rfl)
      try simp only [pu]
      refine wpAnyH_take (i := 2) (oi := ⟨(some 26), _, _, _, _, _⟩) (v := .slice D m d) rfl (by kernel_rfl) (by kernel_rfl) (by kernel_rfl) (fun _ _ _ h => h) (Or.inl ⟨by rfl, ?y2_2⟩) hHeld ?_
      case y2_2 => (intro W0 hSw; go_simp; try with_reducible rfl)
      try simp only [pu]
      refine mixX_start (B := V2.heap.size) (al := [⟨3, 27, 24, [Value.slice A n c, Value.slice D m d].toArray, fun g => .slice (some ⟨g, 0, none⟩) 2 2⟩, ⟨5, 8, 28, ((bv z64)).toArray, fun g => .pointer (some ⟨g, 0, none⟩)⟩]) (fuel := 2) rfl hHeld (hHeld.size) ?_
      clear hHeld
      refine mixX_call1 (i := 4) (o := ⟨(some 28), _, _, _, _, _⟩) rfl (by kernel_rfl) (by kernel_rfl) (by kernel_rfl) (by kernel_rfl) (by kernel_rfl) (by kernel_rfl) (by simp) (by simp) (fun x hx => by simp only [List.mem_cons, List.not_mem_nil, or_false] at hx; rcases hx with rfl | rfl <;> first | exact makesX_new rfl (by kernel_rfl) rfl rfl rfl zero_sig | exact makesX_list (cells := [Value.slice A n c, Value.slice D m d]) rfl (by kernel_rfl) rfl rfl (by rfl) Tryd.underlying38 [(0, Value.slice A n c), (1, Value.slice D m d)] (by rfl) (bs_two A D n c m d)) (fun W x _ h => h.alloc h.size _) (fun _ _ _ _ _ h => h) (fun g4 X3 hHeld hBX hg hBg K hK => ?_)
      have hL4 := Lst.row2 (l1 := l) (l2 := r) hg (((hAl.below hb_V2).up hb_V2.size).next hHeld) Hhl.out hc (((hDr.below hb_V2).up hb_V2.size).next hHeld) Hhr.out hd
      clear hg hBg
      try simp only [pu]
      go_simp
      refine (sign_any _ (hlaV2.next hHeld) a Hha.out (some ⟨g4, 0, none⟩) 2 2 [l, r] hL4 (by rw [hf2]; exact hfl) (by decide)).mono ?_
      rintro e W3 ⟨s, rfl, eS, hs, hb3⟩
      refine hK.out _ _ (below_next hHeld hHeld.size hb3) hb3 ?_
      clear hK K hHeld hBX hb3 hL4
      try simp only [pu]
      rw [hf2] at eS
      refine mixX_end (by kernel_rfl) (by kernel_rfl) (fun _ _ _ _ _ h => h) (by simp) (by simp) (fun x hx => by simp only [List.mem_cons, List.not_mem_nil, or_false] at hx; rcases hx with rfl <;> first | exact makesX_new rfl (by kernel_rfl) rfl rfl rfl zero_sig) (fun W x _ h => h.alloc h.size _) (fun D hD W4 hHeld hBX hHo => ?_)
      obtain ⟨G8, rfl⟩ := x_one hD
      have xG8 : Hid (W4.heap[G8]? = some (.cells ((bv z64)).toArray 28 (0, 0))) := hHo.row (⟨5, 8, 28, ((bv z64)).toArray, fun g => .pointer (some ⟨g, 0, none⟩)⟩, G8) (by simp)
      have lG8 : V2.heap.size ≤ G8 := hHo.new (⟨5, 8, 28, ((bv z64)).toArray, fun g => .pointer (some ⟨g, 0, none⟩)⟩, G8) (by simp)
      clear hHo hBX hD
      simp only [markDX, putX, List.foldr_cons, List.foldr_nil, pu, List.setIfInBounds_toArray, List.set_cons_zero, List.set_cons_succ]
      refine wpAnyH_ready (rs := [6]) (by kernel_rfl) (by simp) ?_
      refine AllReadyH.cons (i := 6) (o := ⟨none, _, _, _, _, _⟩) rfl (fun K hK => ?_) AllReadyH.nil
      refine step_row (by rfl) 28 (.tmp 8) (.tmp 28) rfl G8 (bv s) rfl rfl 28 _ xG8.out (by rw [bv_len, hs.out]; kernel_rfl) (by rw [List.size_toArray, bv_len, bv_len, hs.out, z64_len]) (bv_one _) ?_
      intro W5 yG8 kG8
      refine hK.out _ _ (But.below hHeld kG8 lG8 hHeld.size) (fun hHeld => ?_)
      clear hK K kG8 xG8
      have xG8 := yG8
      clear yG8
      try simp only [pu]
      refine wpAnyH_done (by kernel_rfl) ?_ _
      obtain ⟨V3, rV3⟩ : ∃ X, X = W5 := ⟨_, rfl⟩
      subst rV3
      have gb0_V3 := row_next2 gb0_V2 hHeld
      have sb0_V3 := row_size gb0_V3
      have hb_V3 := below_next hb_V2 hb_V2.size hHeld
      have hlaV3 := hlaV2.next hHeld
      have hX_V3 := hX_V2.next hHeld
      have gn8_V3 := xG8
      have sn8_V3 := row_size gn8_V3
      clear xG8
      have wG8 : w.heap.size + 1 ≤ G8 := by omega
      clear hHeld hb_V2 hlaV2 sb0_V2 gb0_V2 hX_V2 lG8
      go_upto_region 7 with fail
      have HV := vlt (show VerIs (pubL a) s (l ++ r) true by rw [eS.out]; exact ver_sign _ _)
      refine wp_region_held_drew (S := fun W' => Below V3.heap.size V3 W') (by kernel_rfl) ((Below.refl _ _).drew) (fun hHeld => ?_)
      refine wpAnyH_take (i := 0) (oi := ⟨(some 29), _, _, _, _, _⟩) (v := _) rfl (by kernel_rfl) (by kernel_rfl) (by kernel_rfl) (fun _ _ _ h => h) (yieldsIf_load_mid (by rfl) _ _ rfl G8 0 rfl (bv s) _ (fun W' hW' => range_row ((hW'.block _ sn8_V3).trans gn8_V3.out)) (Tryd.underlying28) rfl (by rw [bv_len, hs.out]; kernel_rfl)) hHeld ?_
      try simp only [pu]
      refine wpAnyH_take (i := 1) (oi := ⟨(some 30), _, _, _, _, _⟩) (v := _) rfl (by kernel_rfl) (by kernel_rfl) (by kernel_rfl) (fun _ _ _ h => h) (yieldsIf_load_mid (by rfl) _ _ rfl (w.heap.size) 0 rfl (bv a) _ (fun W' hW' => range_row ((hW'.block _ sb0_V3).trans gb0_V3.out)) (Tryd.underlying23) rfl (by rw [bv_len, Hha.out]; kernel_rfl)) hHeld ?_
      try simp only [pu]
      refine wpAnyH_take (i := 2) (oi := ⟨(some 31), _, _, _, _, _⟩) (v := .slice X k c3) rfl (by kernel_rfl) (by kernel_rfl) (by kernel_rfl) (fun _ _ _ h => h) (Or.inl ⟨by rfl, ?y3_2⟩) hHeld ?_
      case y3_2 => (intro W0 hSw; go_simp; try with_reducible rfl)
      try simp only [pu]
      refine mixX_start (B := V3.heap.size) (al := [⟨3, 32, 24, [Value.slice X k c3].toArray, fun g => .slice (some ⟨g, 0, none⟩) 1 1⟩]) (fuel := 20) rfl hHeld (hHeld.size) ?_
      clear hHeld
      refine mixX_call1 (i := 4) (o := ⟨(some 33), _, _, _, _, _⟩) rfl (by kernel_rfl) (by kernel_rfl) (by kernel_rfl) (by kernel_rfl) (by kernel_rfl) (by kernel_rfl) (by simp) (by simp) (fun x hx => by simp only [List.mem_cons, List.not_mem_nil, or_false] at hx; rcases hx with rfl <;> first | exact makesX_list (cells := [Value.slice X k c3]) rfl (by kernel_rfl) rfl rfl (by rfl) Tryd.underlying38 [(0, Value.slice X k c3)] (by rfl) (bs_one X k c3)) (fun W x _ h => h.alloc h.size _) (fun _ _ _ _ _ h => h) (fun g4 X6 hHeld hBX hg hBg K hK => ?_)
      have hL4 := Lst.row1 (l1 := x) hg (hX_V3.next hHeld) hxl.out hxc
      clear hg hBg
      try simp only [pu]
      go_simp
      refine (sign_any _ (hlaV3.next hHeld) a Hha.out (some ⟨g4, 0, none⟩) 1 1 [x] hL4 (by rw [hf1]; exact hfl) (by decide)).mono ?_
      rintro e W6 ⟨s2, rfl, eS2, hs2, hb6⟩
      have es2 : s2 = s := by rw [eS2.out, eS.out, hf1]
      rw [es2]
      clear es2 eS2 hs2
      refine hK.out _ _ (below_next hHeld hHeld.size hb6) hb6 ?_
      clear hK K hHeld hBX hb6 hL4
      try simp only [pu]
      have hqs := eql_bytes_same (P := Tryd.prog) Tryd.underlying28 Tryd.underlying5 Tryd.sizeByte s hs.out
      refine mixX_take (i := 5) (o := ⟨(some 34), _, _, _, _, _⟩) (v := .bool true) rfl (by kernel_rfl) (by kernel_rfl) (by kernel_rfl) (by kernel_rfl) (by kernel_rfl) (fun _ _ _ h => h) (Or.inl ⟨by rfl, ?y3_5⟩) ?_
      case y3_5 => (intro W0 hSw; go_simp; try simp only [hqs]; try with_reducible rfl)
      try simp only [pu]
      refine mixX_take (i := 6) (o := ⟨(some 35), _, _, _, _, _⟩) (v := .bool true) rfl (by kernel_rfl) (by kernel_rfl) (by kernel_rfl) (by kernel_rfl) (by kernel_rfl) (fun _ _ _ h => h) (Or.inl ⟨by rfl, ?y3_6⟩) ?_
      case y3_6 => (intro W0 hSw; go_simp; try with_reducible rfl)
      try simp only [pu]
      refine mixX_take (i := 7) (o := ⟨(some 36), _, _, _, _, _⟩) (v := _) rfl (by kernel_rfl) (by kernel_rfl) (by kernel_rfl) (by kernel_rfl) (by kernel_rfl) (fun _ _ _ h => h) (yieldsIf_load_mid (by rfl) _ _ rfl (w.heap.size) 0 rfl (bv a) _ (fun W' hW' => range_row ((hW'.block _ sb0_V3).trans gb0_V3.out)) (Tryd.underlying23) rfl (by rw [bv_len, Hha.out]; kernel_rfl)) ?_
      try simp only [pu]
      refine mixX_take (i := 9) (o := ⟨(some 38), _, _, _, _, _⟩) (v := _) rfl (by kernel_rfl) (by kernel_rfl) (by kernel_rfl) (by kernel_rfl) (by kernel_rfl) (fun _ _ _ h => h) (yieldsIf_load_mid (by rfl) _ _ rfl G8 0 rfl (bv s) _ (fun W' hW' => range_row ((hW'.block _ sn8_V3).trans gn8_V3.out)) (Tryd.underlying28) rfl (by rw [bv_len, hs.out]; kernel_rfl)) ?_
      try simp only [pu]
      refine mixX_take (i := 10) (o := ⟨(some 39), _, _, _, _, _⟩) (v := .slice X k c3) rfl (by kernel_rfl) (by kernel_rfl) (by kernel_rfl) (by kernel_rfl) (by kernel_rfl) (fun _ _ _ h => h) (Or.inl ⟨by rfl, ?y3_10⟩) ?_
      case y3_10 => (intro W0 hSw; go_simp; try with_reducible rfl)
      try simp only [pu]
      refine mixX_add ⟨11, 40, 24, [Value.slice X k c3].toArray, fun g => .slice (some ⟨g, 0, none⟩) 1 1⟩ ?_
      refine mixX_call (i := 8) (o := ⟨(some 37), _, _, _, _, _⟩) rfl (by kernel_rfl) (by kernel_rfl) (by kernel_rfl) (by kernel_rfl) (by simp) (by simp) (fun x hx => by simp only [List.mem_cons, List.not_mem_nil, or_false] at hx; rcases hx with rfl <;> first | exact makesX_list (cells := [Value.slice X k c3]) rfl (by kernel_rfl) rfl rfl (by rfl) Tryd.underlying38 [(0, Value.slice X k c3)] (by rfl) (bs_one X k c3)) (fun W x _ h => h.alloc h.size _) (fun _ _ _ _ _ h => h) (fun X7 hHeld hBX K hK => ?_)
      try simp only [pu]
      go_simp
      refine (public_any _ (hlaV3.next hHeld) a Hha.out).mono ?_
      rintro e W7 ⟨p, rfl, eP, hp, hb7⟩
      refine hK.out _ _ (below_next hHeld hHeld.size hb7) hb7 ?_
      clear hK K hHeld hBX hb7
      try simp only [pu]
      refine mixX_call1 (i := 12) (o := ⟨(some 41), _, _, _, _, _⟩) rfl (by kernel_rfl) (by kernel_rfl) (by kernel_rfl) (by kernel_rfl) (by kernel_rfl) (by kernel_rfl) (by simp) (by simp) (fun x hx => by simp only [List.mem_cons, List.not_mem_nil, or_false] at hx; rcases hx with rfl <;> first | exact makesX_list (cells := [Value.slice X k c3]) rfl (by kernel_rfl) rfl rfl (by rfl) Tryd.underlying38 [(0, Value.slice X k c3)] (by rfl) (bs_one X k c3)) (fun W x _ h => h.alloc h.size _) (fun _ _ _ _ _ h => h) (fun g12 X8 hHeld hBX hg hBg K hK => ?_)
      have hL12 := Lst.row1 (l1 := x) hg (hX_V3.next hHeld) hxl.out hxc
      clear hg hBg
      try simp only [pu]
      go_simp
      refine (verify_any _ (hlaV3.next hHeld) p s hp.out hs.out (some ⟨g12, 0, none⟩) 1 1 [x] hL12 (by rw [hf1]; exact hfl) (by decide)).mono ?_
      rintro e W8 ⟨ok, rfl, eV, hb8⟩
      rw [eP.out, hf1] at eV
      obtain rfl : ok = true := ver_only eV.out HV.out
      clear eV
      refine hK.out _ _ (below_next hHeld hHeld.size hb8) hb8 ?_
      clear hK K hHeld hBX hb8 hL12
      try simp only [pu]
      refine mixX_take (i := 13) (o := ⟨(some 42), _, _, _, _, _⟩) (v := .bool true) rfl (by kernel_rfl) (by kernel_rfl) (by kernel_rfl) (by kernel_rfl) (by kernel_rfl) (fun _ _ _ h => h) (Or.inl ⟨by rfl, ?y3_13⟩) ?_
      case y3_13 => (intro W0 hSw; go_simp; try with_reducible rfl)
      try simp only [pu]
      refine mixX_take (i := 14) (o := ⟨(some 43), _, _, _, _, _⟩) (v := .bool true) rfl (by kernel_rfl) (by kernel_rfl) (by kernel_rfl) (by kernel_rfl) (by kernel_rfl) (fun _ _ _ h => h) (Or.inl ⟨by rfl, ?y3_14⟩) ?_
      case y3_14 => (intro W0 hSw; go_simp; try with_reducible rfl)
      try simp only [pu]
      refine mixX_take (i := 15) (o := ⟨(some 44), _, _, _, _, _⟩) (v := _) rfl (by kernel_rfl) (by kernel_rfl) (by kernel_rfl) (by kernel_rfl) (by kernel_rfl) (fun _ _ _ h => h) (yieldsIf_load_mid (by rfl) _ _ rfl (w.heap.size) 0 rfl (bv a) _ (fun W' hW' => range_row ((hW'.block _ sb0_V3).trans gb0_V3.out)) (Tryd.underlying23) rfl (by rw [bv_len, Hha.out]; kernel_rfl)) ?_
      try simp only [pu]
      refine mixX_take (i := 17) (o := ⟨(some 46), _, _, _, _, _⟩) (v := _) rfl (by kernel_rfl) (by kernel_rfl) (by kernel_rfl) (by kernel_rfl) (by kernel_rfl) (fun _ _ _ h => h) (yieldsIf_load_mid (by rfl) _ _ rfl G8 0 rfl (bv s) _ (fun W' hW' => range_row ((hW'.block _ sn8_V3).trans gn8_V3.out)) (Tryd.underlying28) rfl (by rw [bv_len, hs.out]; kernel_rfl)) ?_
      try simp only [pu]
      refine mixX_take (i := 18) (o := ⟨(some 47), _, _, _, _, _⟩) (v := .slice A n c) rfl (by kernel_rfl) (by kernel_rfl) (by kernel_rfl) (by kernel_rfl) (by kernel_rfl) (fun _ _ _ h => h) (Or.inl ⟨by rfl, ?y3_18⟩) ?_
      case y3_18 => (intro W0 hSw; go_simp; try with_reducible rfl)
      try simp only [pu]
      refine mixX_take (i := 19) (o := ⟨(some 48), _, _, _, _, _⟩) (v := .slice D m d) rfl (by kernel_rfl) (by kernel_rfl) (by kernel_rfl) (by kernel_rfl) (by kernel_rfl) (fun _ _ _ h => h) (Or.inl ⟨by rfl, ?y3_19⟩) ?_
      case y3_19 => (intro W0 hSw; go_simp; try with_reducible rfl)
      try simp only [pu]
      refine mixX_add ⟨20, 49, 24, [Value.slice A n c, Value.slice none 0 0, Value.slice D m d].toArray, fun g => .slice (some ⟨g, 0, none⟩) 3 3⟩ ?_
      refine mixX_call (i := 16) (o := ⟨(some 45), _, _, _, _, _⟩) rfl (by kernel_rfl) (by kernel_rfl) (by kernel_rfl) (by kernel_rfl) (by simp) (by simp) (fun x hx => by simp only [List.mem_cons, List.not_mem_nil, or_false] at hx; rcases hx with rfl <;> first | exact makesX_list (cells := [Value.slice A n c, Value.slice none 0 0, Value.slice D m d]) rfl (by kernel_rfl) rfl rfl (by rfl) Tryd.underlying38 [(0, Value.slice A n c), (1, Value.slice none 0 0), (2, Value.slice D m d)] (by rfl) (bs_three A none D n c 0 0 m d)) (fun W x _ h => h.alloc h.size _) (fun _ _ _ _ _ h => h) (fun X9 hHeld hBX K hK => ?_)
      try simp only [pu]
      go_simp
      refine (public_any _ (hlaV3.next hHeld) a Hha.out).mono ?_
      rintro e W9 ⟨q, rfl, eQ, hq, hb9⟩
      refine hK.out _ _ (below_next hHeld hHeld.size hb9) hb9 ?_
      clear hK K hHeld hBX hb9
      try simp only [pu]
      refine mixX_call1 (i := 21) (o := ⟨(some 50), _, _, _, _, _⟩) rfl (by kernel_rfl) (by kernel_rfl) (by kernel_rfl) (by kernel_rfl) (by kernel_rfl) (by kernel_rfl) (by simp) (by simp) (fun x hx => by simp only [List.mem_cons, List.not_mem_nil, or_false] at hx; rcases hx with rfl <;> first | exact makesX_list (cells := [Value.slice A n c, Value.slice none 0 0, Value.slice D m d]) rfl (by kernel_rfl) rfl rfl (by rfl) Tryd.underlying38 [(0, Value.slice A n c), (1, Value.slice none 0 0), (2, Value.slice D m d)] (by rfl) (bs_three A none D n c 0 0 m d)) (fun W x _ h => h.alloc h.size _) (fun _ _ _ _ _ h => h) (fun g21 X10 hHeld hBX hg hBg K hK => ?_)
      have hL21 := Lst.row3 (l1 := l) (l2 := []) (l3 := r) hg (((hAl.below hb_V3).up hb_V3.size).next hHeld) Hhl.out hc (.inl rfl) rfl (Nat.le_refl _) (((hDr.below hb_V3).up hb_V3.size).next hHeld) Hhr.out hd
      clear hg hBg
      try simp only [pu]
      go_simp
      refine (verify_any _ (hlaV3.next hHeld) q s hq.out hs.out (some ⟨g21, 0, none⟩) 3 3 [l, [], r] hL21 (by rw [hf3]; exact hfl) (by decide)).mono ?_
      rintro e W10 ⟨ok, rfl, eV, hb10⟩
      rw [eQ.out, hf3] at eV
      obtain rfl : ok = true := ver_only eV.out HV.out
      clear eV
      refine hK.out _ _ (below_next hHeld hHeld.size hb10) hb10 ?_
      clear hK K hHeld hBX hb10 hL21
      try simp only [pu]
      refine mixX_take (i := 22) (o := ⟨(some 51), _, _, _, _, _⟩) (v := .bool true) rfl (by kernel_rfl) (by kernel_rfl) (by kernel_rfl) (by kernel_rfl) (by kernel_rfl) (fun _ _ _ h => h) (Or.inl ⟨by rfl, ?y3_22⟩) ?_
      case y3_22 => (intro W0 hSw; go_simp; try with_reducible rfl)
      try simp only [pu]
      refine mixX_take (i := 23) (o := ⟨(some 6), _, _, _, _, _⟩) (v := .bool true) rfl (by kernel_rfl) (by kernel_rfl) (by kernel_rfl) (by kernel_rfl) (by kernel_rfl) (fun _ _ _ h => h) (Or.inl ⟨by rfl, ?y3_23⟩) ?_
      case y3_23 => (intro W0 hSw; go_simp; try with_reducible rfl)
      try simp only [pu]
      refine mixX_nil (fun W11 hHeld hBX => ?_)
      clear hBX
      refine wpAnyH_done (by kernel_rfl) ?_ _
      obtain ⟨V4, rV4⟩ : ∃ X, X = W11 := ⟨_, rfl⟩
      subst rV4
      have gb0_V4 := row_next2 gb0_V3 hHeld
      have sb0_V4 := row_size gb0_V4
      have gn8_V4 := row_next2 gn8_V3 hHeld
      have sn8_V4 := row_size gn8_V4
      have hb_V4 := below_next hb_V3 hb_V3.size hHeld
      have hlaV4 := hlaV3.next hHeld
      have hX_V4 := hX_V3.next hHeld
      clear hHeld hb_V3 hlaV3 sb0_V3 gb0_V3 sn8_V3 gn8_V3 hX_V3
      go_wp2_with fail
      go_ret
      exact ⟨rfl, hb_V4⟩
    · go_wp2_with fail
      go_ret
      exact ⟨rfl, hb_V1⟩
  · go_wp2_with fail
    go_ret
    exact ⟨rfl, hb_V1⟩
end Go.Proofs.YtcefdcjpddohaaaDoor
