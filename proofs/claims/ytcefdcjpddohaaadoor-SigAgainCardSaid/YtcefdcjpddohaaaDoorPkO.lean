/-
  Words and contracts that other texts share, several in one text. No statement of the seat is proved here. Conditions: as each contract says.
  Contract of sig's Verify. Conditions: the packages' own numbers lie as the program's text lays them; fewer than 2^57 bytes, fewer than 2^31 parts.
  Digits of bytes: no statement is proved here. Conditions: none.
  Digits read: words that other texts share. No statement is proved here. Conditions: none.
  append(own, src...) where src came in, nil or not: a law for the walks of this seat. Conditions: the sum of the lengths is at most 2^47.
  Contracts of the document's own answer for chapter 1, third part: digit, Unhex, Hex. Conditions: texts and slices are shorter than 2^46 bytes.
  Contract of the document's own answer for chapter 1, fourth part: Hex. Conditions: the slice is shorter than 2^45 bytes.
  Bytes that came in, in a later world. No statement is proved here. Conditions: none.
  An empty literal of bytes: a word that other texts share. No statement is proved here. Conditions: none.
-/
import Derived.Test.YtcefdcjpddohaaaDoorPkM
import Derived.Test.YtcefdcjpddohaaaDoorPkA
import Derived.LoopTactic
import Derived.Laws.Shifts
import Derived.Laws.ShiftsVar
import Derived.Laws.BitsAllLaws
import Derived.Deep.RegionLaw
import Derived.Deep.QuietTactic
import Derived.BigQuiet
namespace Go.Proofs.YtcefdcjpddohaaaDoor
open Go.RowKit

set_option maxRecDepth 100000 in
set_option maxHeartbeats 4000000 in
theorem verify_any (w : World) (hla : LaidG w) (p s : List UInt8) (hp : p.length = 32) (hs : s.length = 64) (A : Option Addr) (n c : Nat) (ps : List (List UInt8)) (hps : Lst w A n c ps) (hbig : ps.flatten.length ≤ 144115188075855872) (hn : n ≤ 2147483648) :
    Calls Tryd.prog 10 #[.agg (bv p).toArray, .agg (bv s).toArray, .slice A n c] w fun e w' => ∃ ok, e = .returned (.bool ok) ∧ Vlt (VerIs p s ps.flatten ok) ∧ Below w.heap.size w w' := by
  have hzw := zero_word
  obtain ⟨V0, hW, gb0_V0, gb1_V0, hb_V0, hsW⟩ := pair_new w (bv p).toArray (bv s).toArray 23 28
  have HW := Lib.hid hW
  have Hhp := Lib.hid hp
  have Hhs := Lib.hid hs
  have Hhbig := Lib.hid hbig
  have sb0_V0 := row_size gb0_V0
  have sb1_V0 := row_size gb1_V0
  have hlaV0 := hla.next hb_V0
  have hHG := hla.hi (Nat.le_refl _)
  clear hla
  have hP_V0 := hps.next hb_V0
  clear hps
  clear hW hsW hp hs hbig
  go_enter Tryd.func10, Tryd.ntmps10
  obtain ⟨f, df⟩ : ∃ f, f = sub s 0 32 := ⟨_, rfl⟩
  obtain ⟨r, dr⟩ : ∃ r, r = sub s 32 32 := ⟨_, rfl⟩
  have hf := Lib.hid (show f.length = 32 by rw [df]; exact sub_len _ _ _ (by rw [Hhs.out]; decide))
  have hr := Lib.hid (show r.length = 32 by rw [dr]; exact sub_len _ _ _ (by rw [Hhs.out]; decide))
  have rf : ∀ W, Below V0.heap.size V0 W → W.rangeAt (w.heap.size + 1) 0 (bv f) := fun W h => by rw [df]; exact range_sub (row_next2 gb1_V0 h).out
  have rr : ∀ W, Below V0.heap.size V0 W → W.rangeAt (w.heap.size + 1) 32 (bv r) := fun W h => by rw [dr]; exact range_sub (row_next2 gb1_V0 h).out
  have HF := vlt (show f = s.take 32 by rw [df]; rfl)
  have HR := vlt (show r = s.drop 32 by rw [dr, sub]; exact List.take_of_length_le (by rw [List.length_drop, Hhs.out]; decide))
  clear df dr
  go_upto_region 1 with fail
  rw [HW.out]
  refine wp_region_held_drew (S := fun W' => Below V0.heap.size V0 W') (by kernel_rfl) ((Below.refl _ _).drew) (fun hHeld => ?_)
  have hcut0 := cut_h Tryd.underlying28 Tryd.sizeByte (w.heap.size + 1) 0 32 32 rfl (by decide) (by decide)
  refine wpAnyH_take (i := 0) (oi := ⟨(some 13), _, _, _, _, _⟩) (v := .slice (some ⟨w.heap.size + 1, 0, none⟩) 32 64) rfl (by kernel_rfl) (by kernel_rfl) (by kernel_rfl) (fun _ _ _ h => h) (Or.inl ⟨by rfl, ?y1_0⟩) hHeld ?_
  case y1_0 => (intro W0 hSw; go_simp; try simp only [hcut0]; try with_reducible rfl)
  try simp only [pu]
  clear hcut0
  refine wpAnyH_take (i := 1) (oi := ⟨(some 14), _, _, _, _, _⟩) (v := .pointer (some ⟨w.heap.size + 1, 0, none⟩)) rfl (by kernel_rfl) (by kernel_rfl) (by kernel_rfl) (fun _ _ _ h => h) (Or.inl ⟨by rfl, ?y1_1⟩) hHeld ?_
  case y1_1 => (intro W0 hSw; go_simp; rw [run_arrayAt (P := Tryd.prog) W0 23 5 32 (some ⟨w.heap.size + 1, 0, none⟩) 32 64 Tryd.underlying23 (by decide)]; rfl)
  try simp only [pu]
  refine wpAnyH_take (i := 2) (oi := ⟨(some 15), _, _, _, _, _⟩) (v := _) rfl (by kernel_rfl) (by kernel_rfl) (by kernel_rfl) (fun _ _ _ h => h) (yieldsIf_load_mid (by rfl) _ _ rfl (w.heap.size + 1) 0 rfl (bv f) _ (fun W' hW' => rf W' hW') (Tryd.underlying23) rfl (by rw [bv_len, hf.out]; kernel_rfl)) hHeld ?_
  try simp only [pu]
  have hcut3 := cut_l Tryd.underlying28 Tryd.sizeByte (w.heap.size + 1) 0 32 32 rfl (by decide)
  refine wpAnyH_take (i := 3) (oi := ⟨(some 16), _, _, _, _, _⟩) (v := .slice (some ⟨w.heap.size + 1, 32, none⟩) 32 32) rfl (by kernel_rfl) (by kernel_rfl) (by kernel_rfl) (fun _ _ _ h => h) (Or.inl ⟨by rfl, ?y1_3⟩) hHeld ?_
  case y1_3 => (intro W0 hSw; go_simp; try simp only [hcut3]; try with_reducible rfl)
  try simp only [pu]
  clear hcut3
  refine wpAnyH_take (i := 4) (oi := ⟨(some 17), _, _, _, _, _⟩) (v := .pointer (some ⟨w.heap.size + 1, 32, none⟩)) rfl (by kernel_rfl) (by kernel_rfl) (by kernel_rfl) (fun _ _ _ h => h) (Or.inl ⟨by rfl, ?y1_4⟩) hHeld ?_
  case y1_4 => (intro W0 hSw; go_simp; rw [run_arrayAt (P := Tryd.prog) W0 23 5 32 (some ⟨w.heap.size + 1, 32, none⟩) 32 32 Tryd.underlying23 (by decide)]; rfl)
  try simp only [pu]
  refine wpAnyH_take (i := 5) (oi := ⟨(some 18), _, _, _, _, _⟩) (v := _) rfl (by kernel_rfl) (by kernel_rfl) (by kernel_rfl) (fun _ _ _ h => h) (yieldsIf_load_mid (by rfl) _ _ rfl (w.heap.size + 1) 32 rfl (bv r) _ (fun W' hW' => rr W' hW') (Tryd.underlying23) rfl (by rw [bv_len, hr.out]; kernel_rfl)) hHeld ?_
  try simp only [pu]
  refine mixX_start (B := V0.heap.size) (al := [⟨6, 7, 23, ((bv z32)).toArray, fun g => .pointer (some ⟨g, 0, none⟩)⟩, ⟨7, 8, 23, ((bv z32)).toArray, fun g => .pointer (some ⟨g, 0, none⟩)⟩]) (fuel := 2) rfl hHeld (hHeld.size) ?_
  clear hHeld
  refine mixX_end (by kernel_rfl) (by kernel_rfl) (fun _ _ _ _ _ h => h) (by simp) (by simp) (fun x hx => by simp only [List.mem_cons, List.not_mem_nil, or_false] at hx; rcases hx with rfl | rfl <;> first | exact makesX_new rfl (by kernel_rfl) rfl rfl rfl zero_word | exact makesX_new rfl (by kernel_rfl) rfl rfl rfl zero_word) (fun W x _ h => h.alloc h.size _) (fun D hD W1 hHeld hBX hHo => ?_)
  obtain ⟨G7, G8, rfl⟩ := x_two hD
  have xG7 : Hid (W1.heap[G7]? = some (.cells ((bv z32)).toArray 23 (0, 0))) := hHo.row (⟨6, 7, 23, ((bv z32)).toArray, fun g => .pointer (some ⟨g, 0, none⟩)⟩, G7) (by simp)
  have lG7 : V0.heap.size ≤ G7 := hHo.new (⟨6, 7, 23, ((bv z32)).toArray, fun g => .pointer (some ⟨g, 0, none⟩)⟩, G7) (by simp)
  have xG8 : Hid (W1.heap[G8]? = some (.cells ((bv z32)).toArray 23 (0, 0))) := hHo.row (⟨7, 8, 23, ((bv z32)).toArray, fun g => .pointer (some ⟨g, 0, none⟩)⟩, G8) (by simp)
  have lG8 : V0.heap.size ≤ G8 := hHo.new (⟨7, 8, 23, ((bv z32)).toArray, fun g => .pointer (some ⟨g, 0, none⟩)⟩, G8) (by simp)
  have hnd := hHo.nodup
  simp only [List.map_cons, List.map_nil, List.nodup_cons, List.mem_cons, List.not_mem_nil, or_false, not_false_eq_true, List.nodup_nil, and_true] at hnd
  have nG7G8 := hnd
  clear hnd
  clear hHo hBX hD
  simp only [markDX, putX, List.foldr_cons, List.foldr_nil, pu, List.setIfInBounds_toArray, List.set_cons_zero, List.set_cons_succ]
  refine wpAnyH_ready (rs := [8]) (by kernel_rfl) (by simp) ?_
  refine AllReadyH.cons (i := 8) (o := ⟨none, _, _, _, _, _⟩) rfl (fun K hK => ?_) AllReadyH.nil
  refine step_row (by rfl) 23 (.tmp 7) (.tmp 15) rfl G7 (bv f) rfl rfl 23 _ xG7.out (by rw [bv_len, hf.out]; kernel_rfl) (by rw [List.size_toArray, bv_len, bv_len, hf.out, z32_len]) (bv_one _) ?_
  intro W2 yG7 kG7
  have zG8 := row_but xG8 kG7 (by omega)
  clear xG8
  have xG8 := zG8
  clear zG8
  refine hK.out _ _ (But.below hHeld kG7 lG7 hHeld.size) (fun hHeld => ?_)
  clear hK K kG7 xG7
  have xG7 := yG7
  clear yG7
  try simp only [pu]
  refine wpAnyH_ready (rs := [9]) (by kernel_rfl) (by simp) ?_
  refine AllReadyH.cons (i := 9) (o := ⟨none, _, _, _, _, _⟩) rfl (fun K hK => ?_) AllReadyH.nil
  refine step_row (by rfl) 23 (.tmp 8) (.tmp 18) rfl G8 (bv r) rfl rfl 23 _ xG8.out (by rw [bv_len, hr.out]; kernel_rfl) (by rw [List.size_toArray, bv_len, bv_len, hr.out, z32_len]) (bv_one _) ?_
  intro W3 yG8 kG8
  have zG7 := row_but xG7 kG8 (by omega)
  clear xG7
  have xG7 := zG7
  clear zG7
  refine hK.out _ _ (But.below hHeld kG8 lG8 hHeld.size) (fun hHeld => ?_)
  clear hK K kG8 xG8
  have xG8 := yG8
  clear yG8
  try simp only [pu]
  refine wpAnyH_done (by kernel_rfl) ?_ _
  obtain ⟨V1, rV1⟩ : ∃ X, X = W3 := ⟨_, rfl⟩
  subst rV1
  have gb0_V1 := row_next2 gb0_V0 hHeld
  have sb0_V1 := row_size gb0_V1
  have gb1_V1 := row_next2 gb1_V0 hHeld
  have sb1_V1 := row_size gb1_V1
  have hb_V1 := below_next hb_V0 hb_V0.size hHeld
  have hlaV1 := hlaV0.next hHeld
  have hP_V1 := hP_V0.next hHeld
  have gn7_V1 := xG7
  have sn7_V1 := row_size gn7_V1
  clear xG7
  have wG7 : w.heap.size + 2 ≤ G7 := by omega
  have gn8_V1 := xG8
  have sn8_V1 := row_size gn8_V1
  clear xG8
  have wG8 : w.heap.size + 2 ≤ G8 := by omega
  clear hHeld hb_V0 hlaV0 sb0_V0 gb0_V0 sb1_V0 gb1_V0 hP_V0 lG7 lG8
  clear rf rr
  go_upto_region 2 with fail
  by_cases hp1 : ∃ P, PtIs p (some P)
  · obtain ⟨P, HP⟩ := hp1
    have HP := vlt HP
    by_cases hp2 : ∃ R, PtIs f (some R)
    · obtain ⟨R, HQ⟩ := hp2
      have HQ := vlt HQ
      by_cases hl3 : ln r < FL
      · have hl3 := vlt hl3
        refine plain_start (S := fun W' => Below V1.heap.size V1 W') (by kernel_rfl) (Below.refl _ _) (fun hHeld => ?_)
        refine wpAnyH_take (i := 0) (oi := ⟨(some 19), _, _, _, _, _⟩) (v := _) rfl (by kernel_rfl) (by kernel_rfl) (by kernel_rfl) (fun _ _ _ h => h) (yieldsIf_load_mid (by rfl) _ _ rfl (w.heap.size) 0 rfl (bv p) _ (fun W' hW' => range_row ((hW'.block _ sb0_V1).trans gb0_V1.out)) (Tryd.underlying23) rfl (by rw [bv_len, Hhp.out]; kernel_rfl)) hHeld ?_
        try simp only [pu]
        refine mixX_start (B := V1.heap.size) (al := []) (fuel := 12) rfl hHeld (hHeld.size) ?_
        clear hHeld
        refine mixX_call (i := 1) (o := ⟨(some 20), _, _, _, _, _⟩) rfl (by kernel_rfl) (by kernel_rfl) (by kernel_rfl) (by kernel_rfl) (by simp) (by simp) (fun x hx => by cases hx) (fun W x _ h => h.alloc h.size _) (fun _ _ _ _ _ h => h) (fun X4 hHeld hBX K hK => ?_)
        try simp only [pu]
        go_simp
        refine (pgood_any _ (hlaV1.next hHeld).p p Hhp.out).mono ?_
        rintro e W4 ⟨o20, rfl, e20, hb4⟩
        obtain rfl : o20 = true := gd_yes HP.out e20.out
        clear e20
        refine hK.out _ _ (below_next hHeld hHeld.size hb4) hb4 ?_
        clear hK K hHeld hBX hb4
        try simp only [pu]
        refine mixX_take (i := 2) (o := ⟨(some 21), _, _, _, _, _⟩) (v := .bool false) rfl (by kernel_rfl) (by kernel_rfl) (by kernel_rfl) (by kernel_rfl) (by kernel_rfl) (fun _ _ _ h => h) (Or.inl ⟨by rfl, ?y2_2⟩) ?_
        case y2_2 => (intro W0 hSw; go_simp; try with_reducible rfl)
        try simp only [pu]
        refine mixX_take (i := 3) (o := ⟨(some 22), _, _, _, _, _⟩) (v := .bool false) rfl (by kernel_rfl) (by kernel_rfl) (by kernel_rfl) (by kernel_rfl) (by kernel_rfl) (fun _ _ _ h => h) (Or.inl ⟨by rfl, ?y2_3⟩) ?_
        case y2_3 => (intro W0 hSw; go_simp; try with_reducible rfl)
        try simp only [pu]
        refine mixX_take (i := 4) (o := ⟨(some 23), _, _, _, _, _⟩) (v := _) rfl (by kernel_rfl) (by kernel_rfl) (by kernel_rfl) (by kernel_rfl) (by kernel_rfl) (fun _ _ _ h => h) (yieldsIf_load_mid (by rfl) _ _ rfl G7 0 rfl (bv f) _ (fun W' hW' => range_row ((hW'.block _ sn7_V1).trans gn7_V1.out)) (Tryd.underlying23) rfl (by rw [bv_len, hf.out]; kernel_rfl)) ?_
        try simp only [pu]
        refine mixX_call (i := 5) (o := ⟨(some 24), _, _, _, _, _⟩) rfl (by kernel_rfl) (by kernel_rfl) (by kernel_rfl) (by kernel_rfl) (by simp) (by simp) (fun x hx => by cases hx) (fun W x _ h => h.alloc h.size _) (fun _ _ _ _ _ h => h) (fun X5 hHeld hBX K hK => ?_)
        try simp only [pu]
        go_simp
        refine (pgood_any _ (hlaV1.next hHeld).p f hf.out).mono ?_
        rintro e W5 ⟨o24, rfl, e24, hb5⟩
        obtain rfl : o24 = true := gd_yes HQ.out e24.out
        clear e24
        refine hK.out _ _ (below_next hHeld hHeld.size hb5) hb5 ?_
        clear hK K hHeld hBX hb5
        try simp only [pu]
        refine mixX_take (i := 6) (o := ⟨(some 25), _, _, _, _, _⟩) (v := .bool false) rfl (by kernel_rfl) (by kernel_rfl) (by kernel_rfl) (by kernel_rfl) (by kernel_rfl) (fun _ _ _ h => h) (Or.inl ⟨by rfl, ?y2_6⟩) ?_
        case y2_6 => (intro W0 hSw; go_simp; try with_reducible rfl)
        try simp only [pu]
        refine mixX_take (i := 7) (o := ⟨(some 26), _, _, _, _, _⟩) (v := .bool false) rfl (by kernel_rfl) (by kernel_rfl) (by kernel_rfl) (by kernel_rfl) (by kernel_rfl) (fun _ _ _ h => h) (Or.inl ⟨by rfl, ?y2_7⟩) ?_
        case y2_7 => (intro W0 hSw; go_simp; try with_reducible rfl)
        try simp only [pu]
        refine mixX_take (i := 8) (o := ⟨(some 27), _, _, _, _, _⟩) (v := .bool false) rfl (by kernel_rfl) (by kernel_rfl) (by kernel_rfl) (by kernel_rfl) (by kernel_rfl) (fun _ _ _ h => h) (Or.inl ⟨by rfl, ?y2_8⟩) ?_
        case y2_8 => (intro W0 hSw; go_simp; try with_reducible rfl)
        try simp only [pu]
        refine mixX_take (i := 9) (o := ⟨(some 28), _, _, _, _, _⟩) (v := _) rfl (by kernel_rfl) (by kernel_rfl) (by kernel_rfl) (by kernel_rfl) (by kernel_rfl) (fun _ _ _ h => h) (yieldsIf_load_mid (by rfl) _ _ rfl G8 0 rfl (bv r) _ (fun W' hW' => range_row ((hW'.block _ sn8_V1).trans gn8_V1.out)) (Tryd.underlying23) rfl (by rw [bv_len, hr.out]; kernel_rfl)) ?_
        try simp only [pu]
        refine mixX_call (i := 10) (o := ⟨(some 29), _, _, _, _, _⟩) rfl (by kernel_rfl) (by kernel_rfl) (by kernel_rfl) (by kernel_rfl) (by simp) (by simp) (fun x hx => by cases hx) (fun W x _ h => h.alloc h.size _) (fun _ _ _ _ _ h => h) (fun X6 hHeld hBX K hK => ?_)
        try simp only [pu]
        go_simp
        refine (lgood_any _ (hlaV1.next hHeld).o r hr.out).mono ?_
        rintro e W6 ⟨o29, rfl, e29, hb6⟩
        obtain rfl : o29 = true := by rw [e29.out]; exact decide_eq_true hl3.out
        clear e29
        refine hK.out _ _ (below_next hHeld hHeld.size hb6) hb6 ?_
        clear hK K hHeld hBX hb6
        try simp only [pu]
        refine mixX_take (i := 11) (o := ⟨(some 30), _, _, _, _, _⟩) (v := .bool false) rfl (by kernel_rfl) (by kernel_rfl) (by kernel_rfl) (by kernel_rfl) (by kernel_rfl) (fun _ _ _ h => h) (Or.inl ⟨by rfl, ?y2_11⟩) ?_
        case y2_11 => (intro W0 hSw; go_simp; try with_reducible rfl)
        try simp only [pu]
        refine mixX_take (i := 12) (o := ⟨(some 31), _, _, _, _, _⟩) (v := .bool false) rfl (by kernel_rfl) (by kernel_rfl) (by kernel_rfl) (by kernel_rfl) (by kernel_rfl) (fun _ _ _ h => h) (Or.inl ⟨by rfl, ?y2_12⟩) ?_
        case y2_12 => (intro W0 hSw; go_simp; try with_reducible rfl)
        try simp only [pu]
        refine mixX_nil (fun W7 hHeld hBX => ?_)
        clear hBX
        refine wpAnyH_done (by kernel_rfl) ?_ _
        obtain ⟨V2, rV2⟩ : ∃ X, X = W7 := ⟨_, rfl⟩
        subst rV2
        have gb0_V2 := row_next2 gb0_V1 hHeld
        have sb0_V2 := row_size gb0_V2
        have gb1_V2 := row_next2 gb1_V1 hHeld
        have sb1_V2 := row_size gb1_V2
        have gn7_V2 := row_next2 gn7_V1 hHeld
        have sn7_V2 := row_size gn7_V2
        have gn8_V2 := row_next2 gn8_V1 hHeld
        have sn8_V2 := row_size gn8_V2
        have hb_V2 := below_next hb_V1 hb_V1.size hHeld
        have hlaV2 := hlaV1.next hHeld
        have hP_V2 := hP_V1.next hHeld
        clear hHeld hb_V1 hlaV1 sb0_V1 gb0_V1 sb1_V1 gb1_V1 sn7_V1 gn7_V1 sn8_V1 gn8_V1 hP_V1
        go_upto_region 4 with fail
        refine wp_region_held_drew (S := fun W' => Below V2.heap.size V2 W') (by kernel_rfl) ((Below.refl _ _).drew) (fun hHeld => ?_)
        refine wpAnyH_take (i := 0) (oi := ⟨(some 33), _, _, _, _, _⟩) (v := .slice A n c) rfl (by kernel_rfl) (by kernel_rfl) (by kernel_rfl) (fun _ _ _ h => h) (Or.inl ⟨by rfl, ?y3_0⟩) hHeld ?_
        case y3_0 => (intro W0 hSw; go_simp; try with_reducible rfl)
        try simp only [pu]
        have hcut1 := cut_all Tryd.underlying23 Tryd.sizeByte G7 0 (by decide)
        refine wpAnyH_take (i := 1) (oi := ⟨(some 34), _, _, _, _, _⟩) (v := .slice (some ⟨G7, 0, none⟩) 32 32) rfl (by kernel_rfl) (by kernel_rfl) (by kernel_rfl) (fun _ _ _ h => h) (Or.inl ⟨by rfl, ?y3_1⟩) hHeld ?_
        case y3_1 => (intro W0 hSw; go_simp; try simp only [hcut1]; try with_reducible rfl)
        try simp only [pu]
        clear hcut1
        have hcut2 := cut_all Tryd.underlying23 Tryd.sizeByte (w.heap.size) 0 (by decide)
        refine wpAnyH_take (i := 2) (oi := ⟨(some 35), _, _, _, _, _⟩) (v := .slice (some ⟨w.heap.size, 0, none⟩) 32 32) rfl (by kernel_rfl) (by kernel_rfl) (by kernel_rfl) (fun _ _ _ h => h) (Or.inl ⟨by rfl, ?y3_2⟩) hHeld ?_
        case y3_2 => (intro W0 hSw; go_simp; try simp only [hcut2]; try with_reducible rfl)
        try simp only [pu]
        clear hcut2
        refine wpAnyH_take (i := 5) (oi := ⟨(some 38), _, _, _, _, _⟩) (v := _) rfl (by kernel_rfl) (by kernel_rfl) (by kernel_rfl) (fun _ _ _ h => h) (yieldsIf_load_mid (by rfl) _ _ rfl (w.heap.size) 0 rfl (bv p) _ (fun W' hW' => range_row ((hW'.block _ sb0_V2).trans gb0_V2.out)) (Tryd.underlying23) rfl (by rw [bv_len, Hhp.out]; kernel_rfl)) hHeld ?_
        try simp only [pu]
        refine mixX_start (B := V2.heap.size) (al := [⟨3, 36, 24, [Value.slice (some ⟨G7, 0, none⟩) 32 32, Value.slice (some ⟨w.heap.size, 0, none⟩) 32 32].toArray, fun g => .slice (some ⟨g, 0, none⟩) 2 2⟩, ⟨10, 9, 23, ((bv z32)).toArray, fun g => .pointer (some ⟨g, 0, none⟩)⟩]) (fuel := 7) rfl hHeld (hHeld.size) ?_
        clear hHeld
        refine mixX_call1 (i := 4) (o := ⟨(some 37), _, _, _, _, _⟩) rfl (by kernel_rfl) (by kernel_rfl) (by kernel_rfl) (by kernel_rfl) (by kernel_rfl) (by kernel_rfl) (by simp) (by simp) (fun x hx => by simp only [List.mem_cons, List.not_mem_nil, or_false] at hx; rcases hx with rfl | rfl <;> first | exact makesX_new rfl (by kernel_rfl) rfl rfl rfl zero_word | exact makesX_list (cells := [Value.slice (some ⟨G7, 0, none⟩) 32 32, Value.slice (some ⟨w.heap.size, 0, none⟩) 32 32]) rfl (by kernel_rfl) rfl rfl (by rfl) Tryd.underlying38 [(0, Value.slice (some ⟨G7, 0, none⟩) 32 32), (1, Value.slice (some ⟨w.heap.size, 0, none⟩) 32 32)] (by rfl) (bs_two (some ⟨G7, 0, none⟩) (some ⟨w.heap.size, 0, none⟩) 32 32 32 32)) (fun W x _ h => h.alloc h.size _) (fun _ _ _ _ _ h => h) (fun g4 X8 hHeld hBX hg hBg K hK => ?_)
        have hL4 := Lst.row2 (l1 := f) (l2 := p) hg (byt_row (row_next2 gn7_V2 hHeld)) (hf.out) (Nat.le_refl _) (byt_row (row_next2 gb0_V2 hHeld)) (Hhp.out) (Nat.le_refl _)
        clear hg hBg
        try simp only [pu]
        go_simp
        refine (hash_any _ (hlaV2.next hHeld) A (some ⟨g4, 0, none⟩) n c 2 2 ps [f, p] (hP_V2.next hHeld) hL4 (by rw [flat2, List.length_append, List.length_append, hf.out, Hhp.out]; have := Hhbig.out; omega) (by omega)).mono ?_
        rintro e W8 ⟨hh, rfl, eH, hhh, hb8⟩
        refine hK.out _ _ (below_next hHeld hHeld.size hb8) hb8 ?_
        clear hK K hHeld hBX hb8 hL4
        try simp only [pu]
        refine mixX_call (i := 6) (o := ⟨(some 39), _, _, _, _, _⟩) rfl (by kernel_rfl) (by kernel_rfl) (by kernel_rfl) (by kernel_rfl) (by simp) (by simp) (fun x hx => by simp only [List.mem_cons, List.not_mem_nil, or_false] at hx; rcases hx with rfl <;> first | exact makesX_new rfl (by kernel_rfl) rfl rfl rfl zero_word) (fun W x _ h => h.alloc h.size _) (fun _ _ _ _ _ h => h) (fun X9 hHeld hBX K hK => ?_)
        try simp only [pu]
        go_simp
        refine (pmul_any _ (hlaV2.next hHeld).p hh p hhh.out Hhp.out).mono ?_
        rintro e W9 ⟨m, k6, rfl, eM, hm, hb9⟩
        refine hK.out _ _ (below_next hHeld hHeld.size hb9) hb9 ?_
        clear hK K hHeld hBX hb9
        try simp only [pu]
        refine mixX_take (i := 7) (o := ⟨(some 32), _, _, _, _, _⟩) (v := ?vy3_7) rfl (by kernel_rfl) (by kernel_rfl) (by kernel_rfl) (by kernel_rfl) (by kernel_rfl) (fun _ _ _ h => h) (Or.inl ⟨by rfl, ?y3_7⟩) ?_
        case y3_7 => (intro W0 hSw; go_simp; try with_reducible rfl)
        try simp only [pu]
        refine mixX_take (i := 8) (o := ⟨(some 40), _, _, _, _, _⟩) (v := .agg (bv m).toArray) rfl (by kernel_rfl) (by kernel_rfl) (by kernel_rfl) (by kernel_rfl) (by kernel_rfl) (fun _ _ _ h => h) (Or.inl ⟨by rfl, ?y3_8⟩) ?_
        case y3_8 => (intro W0 hSw; go_simp; try with_reducible rfl)
        try simp only [pu]
        refine mixX_take (i := 9) (o := ⟨(some 41), _, _, _, _, _⟩) (v := .int .i64 k6) rfl (by kernel_rfl) (by kernel_rfl) (by kernel_rfl) (by kernel_rfl) (by kernel_rfl) (fun _ _ _ h => h) (Or.inl ⟨by rfl, ?y3_9⟩) ?_
        case y3_9 => (intro W0 hSw; go_simp; try with_reducible rfl)
        try simp only [pu]
        refine mixX_end (by kernel_rfl) (by kernel_rfl) (fun _ _ _ _ _ h => h) (by simp) (by simp) (fun x hx => by simp only [List.mem_cons, List.not_mem_nil, or_false] at hx; rcases hx with rfl <;> first | exact makesX_new rfl (by kernel_rfl) rfl rfl rfl zero_word) (fun W x _ h => h.alloc h.size _) (fun D hD W10 hHeld hBX hHo => ?_)
        obtain ⟨G9, rfl⟩ := x_one hD
        have xG9 : Hid (W10.heap[G9]? = some (.cells ((bv z32)).toArray 23 (0, 0))) := hHo.row (⟨10, 9, 23, ((bv z32)).toArray, fun g => .pointer (some ⟨g, 0, none⟩)⟩, G9) (by simp)
        have lG9 : V2.heap.size ≤ G9 := hHo.new (⟨10, 9, 23, ((bv z32)).toArray, fun g => .pointer (some ⟨g, 0, none⟩)⟩, G9) (by simp)
        clear hHo hBX hD
        simp only [markDX, putX, List.foldr_cons, List.foldr_nil, pu, List.setIfInBounds_toArray, List.set_cons_zero, List.set_cons_succ]
        refine wpAnyH_ready (rs := [11]) (by kernel_rfl) (by simp) ?_
        refine AllReadyH.cons (i := 11) (o := ⟨none, _, _, _, _, _⟩) rfl (fun K hK => ?_) AllReadyH.nil
        refine step_row (by rfl) 23 (.tmp 9) (.tmp 40) rfl G9 (bv m) rfl rfl 23 _ xG9.out (by rw [bv_len, hm.out]; kernel_rfl) (by rw [List.size_toArray, bv_len, bv_len, hm.out, z32_len]) (bv_one _) ?_
        intro W11 yG9 kG9
        refine hK.out _ _ (But.below hHeld kG9 lG9 hHeld.size) (fun hHeld => ?_)
        clear hK K kG9 xG9
        have xG9 := yG9
        clear yG9
        try simp only [pu]
        refine wpAnyH_take (i := 12) (oi := ⟨(some 10), _, _, _, _, _⟩) (v := .int .i64 k6) rfl (by kernel_rfl) (by kernel_rfl) (by kernel_rfl) (fun _ _ _ h => h) (Or.inl ⟨by rfl, ?y3_12⟩) hHeld ?_
        case y3_12 => (intro W0 hSw; go_simp; try with_reducible rfl)
        try simp only [pu]
        refine wpAnyH_done (by kernel_rfl) ?_ _
        obtain ⟨V3, rV3⟩ : ∃ X, X = W11 := ⟨_, rfl⟩
        subst rV3
        have gb0_V3 := row_next2 gb0_V2 hHeld
        have sb0_V3 := row_size gb0_V3
        have gb1_V3 := row_next2 gb1_V2 hHeld
        have sb1_V3 := row_size gb1_V3
        have gn7_V3 := row_next2 gn7_V2 hHeld
        have sn7_V3 := row_size gn7_V3
        have gn8_V3 := row_next2 gn8_V2 hHeld
        have sn8_V3 := row_size gn8_V3
        have hb_V3 := below_next hb_V2 hb_V2.size hHeld
        have hlaV3 := hlaV2.next hHeld
        have hP_V3 := hP_V2.next hHeld
        have gn9_V3 := xG9
        have sn9_V3 := row_size gn9_V3
        clear xG9
        have wG9 : w.heap.size + 2 ≤ G9 := by omega
        have nG7G9 : G7 ≠ G9 := by omega
        have nG8G9 : G8 ≠ G9 := by omega
        clear hHeld hb_V2 hlaV2 sb0_V2 gb0_V2 sb1_V2 gb1_V2 sn7_V2 gn7_V2 sn8_V2 gn8_V2 hP_V2 lG9
        go_upto_region 5 with fail
        refine plain_start (S := fun W' => Below V3.heap.size V3 W') (by kernel_rfl) (Below.refl _ _) (fun hHeld => ?_)
        refine wpAnyH_take (i := 0) (oi := ⟨(some 43), _, _, _, _, _⟩) (v := _) rfl (by kernel_rfl) (by kernel_rfl) (by kernel_rfl) (fun _ _ _ h => h) (yieldsIf_load_mid (by rfl) _ _ rfl G7 0 rfl (bv f) _ (fun W' hW' => range_row ((hW'.block _ sn7_V3).trans gn7_V3.out)) (Tryd.underlying23) rfl (by rw [bv_len, hf.out]; kernel_rfl)) hHeld ?_
        try simp only [pu]
        refine wpAnyH_take (i := 1) (oi := ⟨(some 44), _, _, _, _, _⟩) (v := _) rfl (by kernel_rfl) (by kernel_rfl) (by kernel_rfl) (fun _ _ _ h => h) (yieldsIf_load_mid (by rfl) _ _ rfl G9 0 rfl (bv m) _ (fun W' hW' => range_row ((hW'.block _ sn9_V3).trans gn9_V3.out)) (Tryd.underlying23) rfl (by rw [bv_len, hm.out]; kernel_rfl)) hHeld ?_
        try simp only [pu]
        refine mixX_start (B := V3.heap.size) (al := [⟨6, 11, 23, ((bv z32)).toArray, fun g => .pointer (some ⟨g, 0, none⟩)⟩]) (fuel := 6) rfl hHeld (hHeld.size) ?_
        clear hHeld
        refine mixX_call (i := 2) (o := ⟨(some 45), _, _, _, _, _⟩) rfl (by kernel_rfl) (by kernel_rfl) (by kernel_rfl) (by kernel_rfl) (by simp) (by simp) (fun x hx => by simp only [List.mem_cons, List.not_mem_nil, or_false] at hx; rcases hx with rfl <;> first | exact makesX_new rfl (by kernel_rfl) rfl rfl rfl zero_word) (fun W x _ h => h.alloc h.size _) (fun _ _ _ _ _ h => h) (fun X12 hHeld hBX K hK => ?_)
        try simp only [pu]
        go_simp
        refine (padd_any _ (hlaV3.next hHeld).p f m hf.out hm.out).mono ?_
        rintro e W12 ⟨y, k2, rfl, eA, hy, hb12⟩
        refine hK.out _ _ (below_next hHeld hHeld.size hb12) hb12 ?_
        clear hK K hHeld hBX hb12
        try simp only [pu]
        refine mixX_take (i := 3) (o := ⟨(some 42), _, _, _, _, _⟩) (v := ?vy4_3) rfl (by kernel_rfl) (by kernel_rfl) (by kernel_rfl) (by kernel_rfl) (by kernel_rfl) (fun _ _ _ h => h) (Or.inl ⟨by rfl, ?y4_3⟩) ?_
        case y4_3 => (intro W0 hSw; go_simp; try with_reducible rfl)
        try simp only [pu]
        refine mixX_take (i := 4) (o := ⟨(some 46), _, _, _, _, _⟩) (v := .agg (bv y).toArray) rfl (by kernel_rfl) (by kernel_rfl) (by kernel_rfl) (by kernel_rfl) (by kernel_rfl) (fun _ _ _ h => h) (Or.inl ⟨by rfl, ?y4_4⟩) ?_
        case y4_4 => (intro W0 hSw; go_simp; try with_reducible rfl)
        try simp only [pu]
        refine mixX_take (i := 5) (o := ⟨(some 47), _, _, _, _, _⟩) (v := .int .i64 k2) rfl (by kernel_rfl) (by kernel_rfl) (by kernel_rfl) (by kernel_rfl) (by kernel_rfl) (fun _ _ _ h => h) (Or.inl ⟨by rfl, ?y4_5⟩) ?_
        case y4_5 => (intro W0 hSw; go_simp; try with_reducible rfl)
        try simp only [pu]
        refine mixX_end (by kernel_rfl) (by kernel_rfl) (fun _ _ _ _ _ h => h) (by simp) (by simp) (fun x hx => by simp only [List.mem_cons, List.not_mem_nil, or_false] at hx; rcases hx with rfl <;> first | exact makesX_new rfl (by kernel_rfl) rfl rfl rfl zero_word) (fun W x _ h => h.alloc h.size _) (fun D hD W13 hHeld hBX hHo => ?_)
        obtain ⟨G11, rfl⟩ := x_one hD
        have xG11 : Hid (W13.heap[G11]? = some (.cells ((bv z32)).toArray 23 (0, 0))) := hHo.row (⟨6, 11, 23, ((bv z32)).toArray, fun g => .pointer (some ⟨g, 0, none⟩)⟩, G11) (by simp)
        have lG11 : V3.heap.size ≤ G11 := hHo.new (⟨6, 11, 23, ((bv z32)).toArray, fun g => .pointer (some ⟨g, 0, none⟩)⟩, G11) (by simp)
        clear hHo hBX hD
        simp only [markDX, putX, List.foldr_cons, List.foldr_nil, pu, List.setIfInBounds_toArray, List.set_cons_zero, List.set_cons_succ]
        refine wpAnyH_ready (rs := [7]) (by kernel_rfl) (by simp) ?_
        refine AllReadyH.cons (i := 7) (o := ⟨none, _, _, _, _, _⟩) rfl (fun K hK => ?_) AllReadyH.nil
        refine step_row (by rfl) 23 (.tmp 11) (.tmp 46) rfl G11 (bv y) rfl rfl 23 _ xG11.out (by rw [bv_len, hy.out]; kernel_rfl) (by rw [List.size_toArray, bv_len, bv_len, hy.out, z32_len]) (bv_one _) ?_
        intro W14 yG11 kG11
        refine hK.out _ _ (But.below hHeld kG11 lG11 hHeld.size) (fun hHeld => ?_)
        clear hK K kG11 xG11
        have xG11 := yG11
        clear yG11
        try simp only [pu]
        refine wpAnyH_take (i := 8) (oi := ⟨(some 12), _, _, _, _, _⟩) (v := .int .i64 k2) rfl (by kernel_rfl) (by kernel_rfl) (by kernel_rfl) (fun _ _ _ h => h) (Or.inl ⟨by rfl, ?y4_8⟩) hHeld ?_
        case y4_8 => (intro W0 hSw; go_simp; try with_reducible rfl)
        try simp only [pu]
        refine wpAnyH_done (by kernel_rfl) ?_ _
        obtain ⟨V4, rV4⟩ : ∃ X, X = W14 := ⟨_, rfl⟩
        subst rV4
        have gb0_V4 := row_next2 gb0_V3 hHeld
        have sb0_V4 := row_size gb0_V4
        have gb1_V4 := row_next2 gb1_V3 hHeld
        have sb1_V4 := row_size gb1_V4
        have gn7_V4 := row_next2 gn7_V3 hHeld
        have sn7_V4 := row_size gn7_V4
        have gn8_V4 := row_next2 gn8_V3 hHeld
        have sn8_V4 := row_size gn8_V4
        have gn9_V4 := row_next2 gn9_V3 hHeld
        have sn9_V4 := row_size gn9_V4
        have hb_V4 := below_next hb_V3 hb_V3.size hHeld
        have hlaV4 := hlaV3.next hHeld
        have hP_V4 := hP_V3.next hHeld
        have gn11_V4 := xG11
        have sn11_V4 := row_size gn11_V4
        clear xG11
        have wG11 : w.heap.size + 2 ≤ G11 := by omega
        have nG7G11 : G7 ≠ G11 := by omega
        have nG8G11 : G8 ≠ G11 := by omega
        have nG9G11 : G9 ≠ G11 := by omega
        clear hHeld hb_V3 hlaV3 sb0_V3 gb0_V3 sb1_V3 gb1_V3 sn7_V3 gn7_V3 sn8_V3 gn8_V3 sn9_V3 gn9_V3 hP_V3 lG11
        have HM := vlt (mu_yes HP.out eM.out).1
        have HY := vlt (ad_yes HQ.out (show PtIs m (some (mulE (ln hh) P)) by rw [HM.out]; exact ptIs_enc (mulE_on HP.out.1 _)) eA.out).1
        have HH := vlt (show hh = hsh (s.take 32 ++ (p ++ ps.flatten)) by rw [eH.out, hsh_is, flat2, HF.out])
        clear eM eA eH
        go_upto_region 6 with fail
        refine wp_region_held_drew (S := fun W' => Below V4.heap.size V4 W') (by kernel_rfl) ((Below.refl _ _).drew) (fun hHeld => ?_)
        refine wpAnyH_take (i := 0) (oi := ⟨(some 48), _, _, _, _, _⟩) (v := _) rfl (by kernel_rfl) (by kernel_rfl) (by kernel_rfl) (fun _ _ _ h => h) (yieldsIf_load_mid (by rfl) _ _ rfl G11 0 rfl (bv y) _ (fun W' hW' => range_row ((hW'.block _ sn11_V4).trans gn11_V4.out)) (Tryd.underlying23) rfl (by rw [bv_len, hy.out]; kernel_rfl)) hHeld ?_
        try simp only [pu]
        refine wpAnyH_take (i := 1) (oi := ⟨(some 49), _, _, _, _, _⟩) (v := _) rfl (by kernel_rfl) (by kernel_rfl) (by kernel_rfl) (fun _ _ _ h => h) (yieldsIf_load_mid (by rfl) _ _ rfl G8 0 rfl (bv r) _ (fun W' hW' => range_row ((hW'.block _ sn8_V4).trans gn8_V4.out)) (Tryd.underlying23) rfl (by rw [bv_len, hr.out]; kernel_rfl)) hHeld ?_
        try simp only [pu]
        refine mixX_start (B := V4.heap.size) (al := []) (fuel := 3) rfl hHeld (hHeld.size) ?_
        clear hHeld
        refine mixX_call (i := 2) (o := ⟨(some 50), _, _, _, _, _⟩) rfl (by kernel_rfl) (by kernel_rfl) (by kernel_rfl) (by kernel_rfl) (by simp) (by simp) (fun x hx => by cases hx) (fun W x _ h => h.alloc h.size _) (fun _ _ _ _ _ h => h) (fun X15 hHeld hBX K hK => ?_)
        try simp only [pu]
        go_simp
        refine (ofBase_any _ (hlaV4.next hHeld) r hr.out).mono ?_
        rintro e W15 ⟨z, rfl, eZ, hz, hb15⟩
        refine hK.out _ _ (below_next hHeld hHeld.size hb15) hb15 ?_
        clear hK K hHeld hBX hb15
        try simp only [pu]
        have hq := eql_bytes (P := Tryd.prog) Tryd.underlying23 Tryd.underlying5 Tryd.sizeByte y z hy.out hz.out
        refine mixX_take (i := 3) (o := ⟨(some 51), _, _, _, _, _⟩) (v := .bool (decide (y = z))) rfl (by kernel_rfl) (by kernel_rfl) (by kernel_rfl) (by kernel_rfl) (by kernel_rfl) (fun _ _ _ h => h) (Or.inl ⟨by rfl, ?y5_3⟩) ?_
        case y5_3 => (intro W0 hSw; go_simp; try simp only [hq]; try with_reducible rfl)
        try simp only [pu]
        refine mixX_take (i := 4) (o := ⟨(some 6), _, _, _, _, _⟩) (v := .bool (decide (y = z))) rfl (by kernel_rfl) (by kernel_rfl) (by kernel_rfl) (by kernel_rfl) (by kernel_rfl) (fun _ _ _ h => h) (Or.inl ⟨by rfl, ?y5_4⟩) ?_
        case y5_4 => (intro W0 hSw; go_simp; try with_reducible rfl)
        try simp only [pu]
        refine mixX_nil (fun W16 hHeld hBX => ?_)
        clear hBX
        refine wpAnyH_done (by kernel_rfl) ?_ _
        obtain ⟨V5, rV5⟩ : ∃ X, X = W16 := ⟨_, rfl⟩
        subst rV5
        have gb0_V5 := row_next2 gb0_V4 hHeld
        have sb0_V5 := row_size gb0_V5
        have gb1_V5 := row_next2 gb1_V4 hHeld
        have sb1_V5 := row_size gb1_V5
        have gn7_V5 := row_next2 gn7_V4 hHeld
        have sn7_V5 := row_size gn7_V5
        have gn8_V5 := row_next2 gn8_V4 hHeld
        have sn8_V5 := row_size gn8_V5
        have gn9_V5 := row_next2 gn9_V4 hHeld
        have sn9_V5 := row_size gn9_V5
        have gn11_V5 := row_next2 gn11_V4 hHeld
        have sn11_V5 := row_size gn11_V5
        have hb_V5 := below_next hb_V4 hb_V4.size hHeld
        have hlaV5 := hlaV4.next hHeld
        have hP_V5 := hP_V4.next hHeld
        clear hHeld hb_V4 hlaV4 sb0_V4 gb0_V4 sb1_V4 gb1_V4 sn7_V4 gn7_V4 sn8_V4 gn8_V4 sn9_V4 gn9_V4 sn11_V4 gn11_V4 hP_V4
        have HE := vlt (show VerIs p s ps.flatten (decide (y = z)) from ver_d HP.out (by rw [← HF.out]; exact HQ.out) (by rw [← HR.out]; exact hl3.out) HH.out HY.out (by rw [← HR.out]; exact eZ.out))
        go_wp2_with fail
        go_ret
        exact ⟨_, rfl, HE, hb_V5⟩
      · have hl3 := vlt hl3
        refine plain_start (S := fun W' => Below V1.heap.size V1 W') (by kernel_rfl) (Below.refl _ _) (fun hHeld => ?_)
        refine wpAnyH_take (i := 0) (oi := ⟨(some 19), _, _, _, _, _⟩) (v := _) rfl (by kernel_rfl) (by kernel_rfl) (by kernel_rfl) (fun _ _ _ h => h) (yieldsIf_load_mid (by rfl) _ _ rfl (w.heap.size) 0 rfl (bv p) _ (fun W' hW' => range_row ((hW'.block _ sb0_V1).trans gb0_V1.out)) (Tryd.underlying23) rfl (by rw [bv_len, Hhp.out]; kernel_rfl)) hHeld ?_
        try simp only [pu]
        refine mixX_start (B := V1.heap.size) (al := []) (fuel := 12) rfl hHeld (hHeld.size) ?_
        clear hHeld
        refine mixX_call (i := 1) (o := ⟨(some 20), _, _, _, _, _⟩) rfl (by kernel_rfl) (by kernel_rfl) (by kernel_rfl) (by kernel_rfl) (by simp) (by simp) (fun x hx => by cases hx) (fun W x _ h => h.alloc h.size _) (fun _ _ _ _ _ h => h) (fun X4 hHeld hBX K hK => ?_)
        try simp only [pu]
        go_simp
        refine (pgood_any _ (hlaV1.next hHeld).p p Hhp.out).mono ?_
        rintro e W4 ⟨o20, rfl, e20, hb4⟩
        obtain rfl : o20 = true := gd_yes HP.out e20.out
        clear e20
        refine hK.out _ _ (below_next hHeld hHeld.size hb4) hb4 ?_
        clear hK K hHeld hBX hb4
        try simp only [pu]
        refine mixX_take (i := 2) (o := ⟨(some 21), _, _, _, _, _⟩) (v := .bool false) rfl (by kernel_rfl) (by kernel_rfl) (by kernel_rfl) (by kernel_rfl) (by kernel_rfl) (fun _ _ _ h => h) (Or.inl ⟨by rfl, ?y2_2⟩) ?_
        case y2_2 => (intro W0 hSw; go_simp; try with_reducible rfl)
        try simp only [pu]
        refine mixX_take (i := 3) (o := ⟨(some 22), _, _, _, _, _⟩) (v := .bool false) rfl (by kernel_rfl) (by kernel_rfl) (by kernel_rfl) (by kernel_rfl) (by kernel_rfl) (fun _ _ _ h => h) (Or.inl ⟨by rfl, ?y2_3⟩) ?_
        case y2_3 => (intro W0 hSw; go_simp; try with_reducible rfl)
        try simp only [pu]
        refine mixX_take (i := 4) (o := ⟨(some 23), _, _, _, _, _⟩) (v := _) rfl (by kernel_rfl) (by kernel_rfl) (by kernel_rfl) (by kernel_rfl) (by kernel_rfl) (fun _ _ _ h => h) (yieldsIf_load_mid (by rfl) _ _ rfl G7 0 rfl (bv f) _ (fun W' hW' => range_row ((hW'.block _ sn7_V1).trans gn7_V1.out)) (Tryd.underlying23) rfl (by rw [bv_len, hf.out]; kernel_rfl)) ?_
        try simp only [pu]
        refine mixX_call (i := 5) (o := ⟨(some 24), _, _, _, _, _⟩) rfl (by kernel_rfl) (by kernel_rfl) (by kernel_rfl) (by kernel_rfl) (by simp) (by simp) (fun x hx => by cases hx) (fun W x _ h => h.alloc h.size _) (fun _ _ _ _ _ h => h) (fun X5 hHeld hBX K hK => ?_)
        try simp only [pu]
        go_simp
        refine (pgood_any _ (hlaV1.next hHeld).p f hf.out).mono ?_
        rintro e W5 ⟨o24, rfl, e24, hb5⟩
        obtain rfl : o24 = true := gd_yes HQ.out e24.out
        clear e24
        refine hK.out _ _ (below_next hHeld hHeld.size hb5) hb5 ?_
        clear hK K hHeld hBX hb5
        try simp only [pu]
        refine mixX_take (i := 6) (o := ⟨(some 25), _, _, _, _, _⟩) (v := .bool false) rfl (by kernel_rfl) (by kernel_rfl) (by kernel_rfl) (by kernel_rfl) (by kernel_rfl) (fun _ _ _ h => h) (Or.inl ⟨by rfl, ?y2_6⟩) ?_
        case y2_6 => (intro W0 hSw; go_simp; try with_reducible rfl)
        try simp only [pu]
        refine mixX_take (i := 7) (o := ⟨(some 26), _, _, _, _, _⟩) (v := .bool false) rfl (by kernel_rfl) (by kernel_rfl) (by kernel_rfl) (by kernel_rfl) (by kernel_rfl) (fun _ _ _ h => h) (Or.inl ⟨by rfl, ?y2_7⟩) ?_
        case y2_7 => (intro W0 hSw; go_simp; try with_reducible rfl)
        try simp only [pu]
        refine mixX_take (i := 8) (o := ⟨(some 27), _, _, _, _, _⟩) (v := .bool false) rfl (by kernel_rfl) (by kernel_rfl) (by kernel_rfl) (by kernel_rfl) (by kernel_rfl) (fun _ _ _ h => h) (Or.inl ⟨by rfl, ?y2_8⟩) ?_
        case y2_8 => (intro W0 hSw; go_simp; try with_reducible rfl)
        try simp only [pu]
        refine mixX_take (i := 9) (o := ⟨(some 28), _, _, _, _, _⟩) (v := _) rfl (by kernel_rfl) (by kernel_rfl) (by kernel_rfl) (by kernel_rfl) (by kernel_rfl) (fun _ _ _ h => h) (yieldsIf_load_mid (by rfl) _ _ rfl G8 0 rfl (bv r) _ (fun W' hW' => range_row ((hW'.block _ sn8_V1).trans gn8_V1.out)) (Tryd.underlying23) rfl (by rw [bv_len, hr.out]; kernel_rfl)) ?_
        try simp only [pu]
        refine mixX_call (i := 10) (o := ⟨(some 29), _, _, _, _, _⟩) rfl (by kernel_rfl) (by kernel_rfl) (by kernel_rfl) (by kernel_rfl) (by simp) (by simp) (fun x hx => by cases hx) (fun W x _ h => h.alloc h.size _) (fun _ _ _ _ _ h => h) (fun X6 hHeld hBX K hK => ?_)
        try simp only [pu]
        go_simp
        refine (lgood_any _ (hlaV1.next hHeld).o r hr.out).mono ?_
        rintro e W6 ⟨o29, rfl, e29, hb6⟩
        obtain rfl : o29 = false := by rw [e29.out]; exact decide_eq_false hl3.out
        clear e29
        refine hK.out _ _ (below_next hHeld hHeld.size hb6) hb6 ?_
        clear hK K hHeld hBX hb6
        try simp only [pu]
        refine mixX_take (i := 11) (o := ⟨(some 30), _, _, _, _, _⟩) (v := .bool true) rfl (by kernel_rfl) (by kernel_rfl) (by kernel_rfl) (by kernel_rfl) (by kernel_rfl) (fun _ _ _ h => h) (Or.inl ⟨by rfl, ?y2_11⟩) ?_
        case y2_11 => (intro W0 hSw; go_simp; try with_reducible rfl)
        try simp only [pu]
        refine mixX_take (i := 12) (o := ⟨(some 31), _, _, _, _, _⟩) (v := .bool true) rfl (by kernel_rfl) (by kernel_rfl) (by kernel_rfl) (by kernel_rfl) (by kernel_rfl) (fun _ _ _ h => h) (Or.inl ⟨by rfl, ?y2_12⟩) ?_
        case y2_12 => (intro W0 hSw; go_simp; try with_reducible rfl)
        try simp only [pu]
        refine mixX_nil (fun W7 hHeld hBX => ?_)
        clear hBX
        refine wpAnyH_done (by kernel_rfl) ?_ _
        obtain ⟨V2, rV2⟩ : ∃ X, X = W7 := ⟨_, rfl⟩
        subst rV2
        have gb0_V2 := row_next2 gb0_V1 hHeld
        have sb0_V2 := row_size gb0_V2
        have gb1_V2 := row_next2 gb1_V1 hHeld
        have sb1_V2 := row_size gb1_V2
        have gn7_V2 := row_next2 gn7_V1 hHeld
        have sn7_V2 := row_size gn7_V2
        have gn8_V2 := row_next2 gn8_V1 hHeld
        have sn8_V2 := row_size gn8_V2
        have hb_V2 := below_next hb_V1 hb_V1.size hHeld
        have hlaV2 := hlaV1.next hHeld
        have hP_V2 := hP_V1.next hHeld
        clear hHeld hb_V1 hlaV1 sb0_V1 gb0_V1 sb1_V1 gb1_V1 sn7_V1 gn7_V1 sn8_V1 gn8_V1 hP_V1
        have HE := vlt (show VerIs p s ps.flatten false from ver_c (by rw [← HR.out]; exact hl3.out))
        go_wp2_with fail
        go_ret
        exact ⟨false, rfl, HE, hb_V2⟩
    · have hp2 := vlt hp2
      refine plain_start (S := fun W' => Below V1.heap.size V1 W') (by kernel_rfl) (Below.refl _ _) (fun hHeld => ?_)
      refine wpAnyH_take (i := 0) (oi := ⟨(some 19), _, _, _, _, _⟩) (v := _) rfl (by kernel_rfl) (by kernel_rfl) (by kernel_rfl) (fun _ _ _ h => h) (yieldsIf_load_mid (by rfl) _ _ rfl (w.heap.size) 0 rfl (bv p) _ (fun W' hW' => range_row ((hW'.block _ sb0_V1).trans gb0_V1.out)) (Tryd.underlying23) rfl (by rw [bv_len, Hhp.out]; kernel_rfl)) hHeld ?_
      try simp only [pu]
      refine mixX_start (B := V1.heap.size) (al := []) (fuel := 12) rfl hHeld (hHeld.size) ?_
      clear hHeld
      refine mixX_call (i := 1) (o := ⟨(some 20), _, _, _, _, _⟩) rfl (by kernel_rfl) (by kernel_rfl) (by kernel_rfl) (by kernel_rfl) (by simp) (by simp) (fun x hx => by cases hx) (fun W x _ h => h.alloc h.size _) (fun _ _ _ _ _ h => h) (fun X4 hHeld hBX K hK => ?_)
      try simp only [pu]
      go_simp
      refine (pgood_any _ (hlaV1.next hHeld).p p Hhp.out).mono ?_
      rintro e W4 ⟨o20, rfl, e20, hb4⟩
      obtain rfl : o20 = true := gd_yes HP.out e20.out
      clear e20
      refine hK.out _ _ (below_next hHeld hHeld.size hb4) hb4 ?_
      clear hK K hHeld hBX hb4
      try simp only [pu]
      refine mixX_take (i := 2) (o := ⟨(some 21), _, _, _, _, _⟩) (v := .bool false) rfl (by kernel_rfl) (by kernel_rfl) (by kernel_rfl) (by kernel_rfl) (by kernel_rfl) (fun _ _ _ h => h) (Or.inl ⟨by rfl, ?y2_2⟩) ?_
      case y2_2 => (intro W0 hSw; go_simp; try with_reducible rfl)
      try simp only [pu]
      refine mixX_take (i := 3) (o := ⟨(some 22), _, _, _, _, _⟩) (v := .bool false) rfl (by kernel_rfl) (by kernel_rfl) (by kernel_rfl) (by kernel_rfl) (by kernel_rfl) (fun _ _ _ h => h) (Or.inl ⟨by rfl, ?y2_3⟩) ?_
      case y2_3 => (intro W0 hSw; go_simp; try with_reducible rfl)
      try simp only [pu]
      refine mixX_take (i := 4) (o := ⟨(some 23), _, _, _, _, _⟩) (v := _) rfl (by kernel_rfl) (by kernel_rfl) (by kernel_rfl) (by kernel_rfl) (by kernel_rfl) (fun _ _ _ h => h) (yieldsIf_load_mid (by rfl) _ _ rfl G7 0 rfl (bv f) _ (fun W' hW' => range_row ((hW'.block _ sn7_V1).trans gn7_V1.out)) (Tryd.underlying23) rfl (by rw [bv_len, hf.out]; kernel_rfl)) ?_
      try simp only [pu]
      refine mixX_call (i := 5) (o := ⟨(some 24), _, _, _, _, _⟩) rfl (by kernel_rfl) (by kernel_rfl) (by kernel_rfl) (by kernel_rfl) (by simp) (by simp) (fun x hx => by cases hx) (fun W x _ h => h.alloc h.size _) (fun _ _ _ _ _ h => h) (fun X5 hHeld hBX K hK => ?_)
      try simp only [pu]
      go_simp
      refine (pgood_any _ (hlaV1.next hHeld).p f hf.out).mono ?_
      rintro e W5 ⟨o24, rfl, e24, hb5⟩
      obtain rfl : o24 = false := gd_no hp2.out e24.out
      clear e24
      refine hK.out _ _ (below_next hHeld hHeld.size hb5) hb5 ?_
      clear hK K hHeld hBX hb5
      try simp only [pu]
      refine mixX_take (i := 6) (o := ⟨(some 25), _, _, _, _, _⟩) (v := .bool true) rfl (by kernel_rfl) (by kernel_rfl) (by kernel_rfl) (by kernel_rfl) (by kernel_rfl) (fun _ _ _ h => h) (Or.inl ⟨by rfl, ?y2_6⟩) ?_
      case y2_6 => (intro W0 hSw; go_simp; try with_reducible rfl)
      try simp only [pu]
      refine mixX_take (i := 7) (o := ⟨(some 26), _, _, _, _, _⟩) (v := .bool true) rfl (by kernel_rfl) (by kernel_rfl) (by kernel_rfl) (by kernel_rfl) (by kernel_rfl) (fun _ _ _ h => h) (Or.inl ⟨by rfl, ?y2_7⟩) ?_
      case y2_7 => (intro W0 hSw; go_simp; try with_reducible rfl)
      try simp only [pu]
      refine mixX_take (i := 8) (o := ⟨(some 27), _, _, _, _, _⟩) (v := .bool true) rfl (by kernel_rfl) (by kernel_rfl) (by kernel_rfl) (by kernel_rfl) (by kernel_rfl) (fun _ _ _ h => h) (Or.inl ⟨by rfl, ?y2_8⟩) ?_
      case y2_8 => (intro W0 hSw; go_simp; try with_reducible rfl)
      try simp only [pu]
      refine mixX_take (i := 9) (o := ⟨(some 28), _, _, _, _, _⟩) (v := undef) rfl (by kernel_rfl) (by kernel_rfl) (by kernel_rfl) (by kernel_rfl) (by kernel_rfl) (fun _ _ _ h => h) (Or.inr ⟨by rfl, rfl⟩) ?_
      try simp only [pu]
      refine mixX_call (i := 10) (o := ⟨(some 29), _, _, _, _, _⟩) rfl (by kernel_rfl) (by kernel_rfl) (by kernel_rfl) (by kernel_rfl) (by simp) (by simp) (fun x hx => by cases hx) (fun W x _ h => h.alloc h.size _) (fun _ _ _ _ _ h => h) (fun X6 hHeld hBX K hK => ?_)
      try simp only [pu]
      go_simp
      refine hK.out _ _ hHeld (Below.refl _ _) ?_
      clear hK K hHeld hBX
      try simp only [pu]
      refine mixX_take (i := 11) (o := ⟨(some 30), _, _, _, _, _⟩) (v := undef) rfl (by kernel_rfl) (by kernel_rfl) (by kernel_rfl) (by kernel_rfl) (by kernel_rfl) (fun _ _ _ h => h) (Or.inr ⟨by rfl, rfl⟩) ?_
      try simp only [pu]
      refine mixX_take (i := 12) (o := ⟨(some 31), _, _, _, _, _⟩) (v := .bool true) rfl (by kernel_rfl) (by kernel_rfl) (by kernel_rfl) (by kernel_rfl) (by kernel_rfl) (fun _ _ _ h => h) (Or.inl ⟨by rfl, ?y2_12⟩) ?_
      case y2_12 => (intro W0 hSw; go_simp; try with_reducible rfl)
      try simp only [pu]
      refine mixX_nil (fun W7 hHeld hBX => ?_)
      clear hBX
      refine wpAnyH_done (by kernel_rfl) ?_ _
      obtain ⟨V2, rV2⟩ : ∃ X, X = W7 := ⟨_, rfl⟩
      subst rV2
      have gb0_V2 := row_next2 gb0_V1 hHeld
      have sb0_V2 := row_size gb0_V2
      have gb1_V2 := row_next2 gb1_V1 hHeld
      have sb1_V2 := row_size gb1_V2
      have gn7_V2 := row_next2 gn7_V1 hHeld
      have sn7_V2 := row_size gn7_V2
      have gn8_V2 := row_next2 gn8_V1 hHeld
      have sn8_V2 := row_size gn8_V2
      have hb_V2 := below_next hb_V1 hb_V1.size hHeld
      have hlaV2 := hlaV1.next hHeld
      have hP_V2 := hP_V1.next hHeld
      clear hHeld hb_V1 hlaV1 sb0_V1 gb0_V1 sb1_V1 gb1_V1 sn7_V1 gn7_V1 sn8_V1 gn8_V1 hP_V1
      have HE := vlt (show VerIs p s ps.flatten false from ver_b (by rw [← HF.out]; exact hp2.out))
      go_wp2_with fail
      go_ret
      exact ⟨false, rfl, HE, hb_V2⟩
  · have hp1 := vlt hp1
    refine plain_start (S := fun W' => Below V1.heap.size V1 W') (by kernel_rfl) (Below.refl _ _) (fun hHeld => ?_)
    refine wpAnyH_take (i := 0) (oi := ⟨(some 19), _, _, _, _, _⟩) (v := _) rfl (by kernel_rfl) (by kernel_rfl) (by kernel_rfl) (fun _ _ _ h => h) (yieldsIf_load_mid (by rfl) _ _ rfl (w.heap.size) 0 rfl (bv p) _ (fun W' hW' => range_row ((hW'.block _ sb0_V1).trans gb0_V1.out)) (Tryd.underlying23) rfl (by rw [bv_len, Hhp.out]; kernel_rfl)) hHeld ?_
    try simp only [pu]
    refine mixX_start (B := V1.heap.size) (al := []) (fuel := 12) rfl hHeld (hHeld.size) ?_
    clear hHeld
    refine mixX_call (i := 1) (o := ⟨(some 20), _, _, _, _, _⟩) rfl (by kernel_rfl) (by kernel_rfl) (by kernel_rfl) (by kernel_rfl) (by simp) (by simp) (fun x hx => by cases hx) (fun W x _ h => h.alloc h.size _) (fun _ _ _ _ _ h => h) (fun X4 hHeld hBX K hK => ?_)
    try simp only [pu]
    go_simp
    refine (pgood_any _ (hlaV1.next hHeld).p p Hhp.out).mono ?_
    rintro e W4 ⟨o20, rfl, e20, hb4⟩
    obtain rfl : o20 = false := gd_no hp1.out e20.out
    clear e20
    refine hK.out _ _ (below_next hHeld hHeld.size hb4) hb4 ?_
    clear hK K hHeld hBX hb4
    try simp only [pu]
    refine mixX_take (i := 2) (o := ⟨(some 21), _, _, _, _, _⟩) (v := .bool true) rfl (by kernel_rfl) (by kernel_rfl) (by kernel_rfl) (by kernel_rfl) (by kernel_rfl) (fun _ _ _ h => h) (Or.inl ⟨by rfl, ?y2_2⟩) ?_
    case y2_2 => (intro W0 hSw; go_simp; try with_reducible rfl)
    try simp only [pu]
    refine mixX_take (i := 3) (o := ⟨(some 22), _, _, _, _, _⟩) (v := .bool true) rfl (by kernel_rfl) (by kernel_rfl) (by kernel_rfl) (by kernel_rfl) (by kernel_rfl) (fun _ _ _ h => h) (Or.inl ⟨by rfl, ?y2_3⟩) ?_
    case y2_3 => (intro W0 hSw; go_simp; try with_reducible rfl)
    try simp only [pu]
    refine mixX_take (i := 4) (o := ⟨(some 23), _, _, _, _, _⟩) (v := undef) rfl (by kernel_rfl) (by kernel_rfl) (by kernel_rfl) (by kernel_rfl) (by kernel_rfl) (fun _ _ _ h => h) (Or.inr ⟨by rfl, rfl⟩) ?_
    try simp only [pu]
    refine mixX_call (i := 5) (o := ⟨(some 24), _, _, _, _, _⟩) rfl (by kernel_rfl) (by kernel_rfl) (by kernel_rfl) (by kernel_rfl) (by simp) (by simp) (fun x hx => by cases hx) (fun W x _ h => h.alloc h.size _) (fun _ _ _ _ _ h => h) (fun X5 hHeld hBX K hK => ?_)
    try simp only [pu]
    go_simp
    refine hK.out _ _ hHeld (Below.refl _ _) ?_
    clear hK K hHeld hBX
    try simp only [pu]
    refine mixX_take (i := 6) (o := ⟨(some 25), _, _, _, _, _⟩) (v := undef) rfl (by kernel_rfl) (by kernel_rfl) (by kernel_rfl) (by kernel_rfl) (by kernel_rfl) (fun _ _ _ h => h) (Or.inr ⟨by rfl, rfl⟩) ?_
    try simp only [pu]
    refine mixX_take (i := 7) (o := ⟨(some 26), _, _, _, _, _⟩) (v := .bool true) rfl (by kernel_rfl) (by kernel_rfl) (by kernel_rfl) (by kernel_rfl) (by kernel_rfl) (fun _ _ _ h => h) (Or.inl ⟨by rfl, ?y2_7⟩) ?_
    case y2_7 => (intro W0 hSw; go_simp; try with_reducible rfl)
    try simp only [pu]
    refine mixX_take (i := 8) (o := ⟨(some 27), _, _, _, _, _⟩) (v := .bool true) rfl (by kernel_rfl) (by kernel_rfl) (by kernel_rfl) (by kernel_rfl) (by kernel_rfl) (fun _ _ _ h => h) (Or.inl ⟨by rfl, ?y2_8⟩) ?_
    case y2_8 => (intro W0 hSw; go_simp; try with_reducible rfl)
    try simp only [pu]
    refine mixX_take (i := 9) (o := ⟨(some 28), _, _, _, _, _⟩) (v := undef) rfl (by kernel_rfl) (by kernel_rfl) (by kernel_rfl) (by kernel_rfl) (by kernel_rfl) (fun _ _ _ h => h) (Or.inr ⟨by rfl, rfl⟩) ?_
    try simp only [pu]
    refine mixX_call (i := 10) (o := ⟨(some 29), _, _, _, _, _⟩) rfl (by kernel_rfl) (by kernel_rfl) (by kernel_rfl) (by kernel_rfl) (by simp) (by simp) (fun x hx => by cases hx) (fun W x _ h => h.alloc h.size _) (fun _ _ _ _ _ h => h) (fun X6 hHeld hBX K hK => ?_)
    try simp only [pu]
    go_simp
    refine hK.out _ _ hHeld (Below.refl _ _) ?_
    clear hK K hHeld hBX
    try simp only [pu]
    refine mixX_take (i := 11) (o := ⟨(some 30), _, _, _, _, _⟩) (v := undef) rfl (by kernel_rfl) (by kernel_rfl) (by kernel_rfl) (by kernel_rfl) (by kernel_rfl) (fun _ _ _ h => h) (Or.inr ⟨by rfl, rfl⟩) ?_
    try simp only [pu]
    refine mixX_take (i := 12) (o := ⟨(some 31), _, _, _, _, _⟩) (v := .bool true) rfl (by kernel_rfl) (by kernel_rfl) (by kernel_rfl) (by kernel_rfl) (by kernel_rfl) (fun _ _ _ h => h) (Or.inl ⟨by rfl, ?y2_12⟩) ?_
    case y2_12 => (intro W0 hSw; go_simp; try with_reducible rfl)
    try simp only [pu]
    refine mixX_nil (fun W7 hHeld hBX => ?_)
    clear hBX
    refine wpAnyH_done (by kernel_rfl) ?_ _
    obtain ⟨V2, rV2⟩ : ∃ X, X = W7 := ⟨_, rfl⟩
    subst rV2
    have gb0_V2 := row_next2 gb0_V1 hHeld
    have sb0_V2 := row_size gb0_V2
    have gb1_V2 := row_next2 gb1_V1 hHeld
    have sb1_V2 := row_size gb1_V2
    have gn7_V2 := row_next2 gn7_V1 hHeld
    have sn7_V2 := row_size gn7_V2
    have gn8_V2 := row_next2 gn8_V1 hHeld
    have sn8_V2 := row_size gn8_V2
    have hb_V2 := below_next hb_V1 hb_V1.size hHeld
    have hlaV2 := hlaV1.next hHeld
    have hP_V2 := hP_V1.next hHeld
    clear hHeld hb_V1 hlaV1 sb0_V1 gb0_V1 sb1_V1 gb1_V1 sn7_V1 gn7_V1 sn8_V1 gn8_V1 hP_V1
    have HE := vlt (show VerIs p s ps.flatten false from ver_a hp1.out)
    go_wp2_with fail
    go_ret
    exact ⟨false, rfl, HE, hb_V2⟩
end Go.Proofs.YtcefdcjpddohaaaDoor
namespace Go.Proofs.YtcefdcjpddohaaaDoor
open Go.RowKit

/-- One digit; the digits of bytes. -/
def dg (n : Nat) : UInt8 := if n < 10 then UInt8.ofNat (48 + n) else UInt8.ofNat (87 + n)
def hexd : List UInt8 → List UInt8
  | [] => []
  | b :: r => dg (b.toNat / 16) :: dg (b.toNat % 16) :: hexd r
theorem hexd_len (l : List UInt8) : (hexd l).length = 2 * l.length := by induction l with | nil => rfl | cons b r ih => simp [hexd, ih]; omega
theorem hexd_app (l m : List UInt8) : hexd (l ++ m) = hexd l ++ hexd m := by induction l with | nil => rfl | cons b r ih => simp [hexd, ih]

theorem digit_at : ∀ m : Fin 16, ((⟨#[48, 49, 50, 51, 52, 53, 54, 55, 56, 57, 97, 98, 99, 100, 101, 102]⟩ : ByteArray)[m.val]'(m.isLt)).toNat = (dg m.val).toNat := by decide

theorem dig_hi (x : Nat) (hx : x < 256) {h : ((x : Int) / 16).toNat < (⟨#[48, 49, 50, 51, 52, 53, 54, 55, 56, 57, 97, 98, 99, 100, 101, 102]⟩ : ByteArray).size} :
    (((⟨#[48, 49, 50, 51, 52, 53, 54, 55, 56, 57, 97, 98, 99, 100, 101, 102]⟩ : ByteArray)[((x : Int) / 16).toNat]'h).toNat : Int) = ((dg (x / 16)).toNat : Int) := by
  have h1 := digit_at ⟨x / 16, by omega⟩
  have e : ((x : Int) / 16).toNat = x / 16 := by omega
  simp only [e]; rw [← h1]
theorem dig_lo (x : Nat) {h : ((x : Int) % 16).toNat < (⟨#[48, 49, 50, 51, 52, 53, 54, 55, 56, 57, 97, 98, 99, 100, 101, 102]⟩ : ByteArray).size} :
    (((⟨#[48, 49, 50, 51, 52, 53, 54, 55, 56, 57, 97, 98, 99, 100, 101, 102]⟩ : ByteArray)[((x : Int) % 16).toNat]'h).toNat : Int) = ((dg (x % 16)).toNat : Int) := by
  have h1 := digit_at ⟨x % 16, by omega⟩
  have e : ((x : Int) % 16).toNat = x % 16 := by omega
  simp only [e]; rw [← h1]
end Go.Proofs.YtcefdcjpddohaaaDoor
namespace Go.Proofs.YtcefdcjpddohaaaDoor
open Go.RowKit

/-- One digit's number. -/
def nib (c : Nat) : Option Nat := if 48 ≤ c ∧ c ≤ 57 then some (c - 48) else if 97 ≤ c ∧ c ≤ 102 then some (c - 87) else none
theorem nib_lt {c x : Nat} (h : nib c = some x) : x < 16 := by
  unfold nib at h
  split at h
  · simp at h; omega
  · split at h
    · simp at h; omega
    · cases h

/-- Two digits a byte, or none. -/
def unhex : List UInt8 → Option (List UInt8)
  | [] => some []
  | [_] => none
  | a :: b :: r => match nib a.toNat, nib b.toNat, unhex r with
    | some x, some y, some l => some (UInt8.ofNat (16 * x + y) :: l)
    | _, _, _ => none

/-- Digits 2k and 2k+1 are digits, and tell x and y. -/
def Dig (s : List UInt8) (k x y : Nat) : Prop := ∃ a b, s[2 * k]? = some a ∧ s[2 * k + 1]? = some b ∧ nib a.toNat = some x ∧ nib b.toNat = some y

theorem unhex_some : ∀ (s l : List UInt8), unhex s = some l → s.length = 2 * l.length ∧ ∀ k, k < l.length → ∃ x y, Dig s k x y ∧ l[k]? = some (UInt8.ofNat (16 * x + y))
  | [], l, h => by
    simp [unhex] at h; subst h; simp
  | [_], l, h => by simp [unhex] at h
  | a :: b :: r, l, h => by
    unfold unhex at h
    split at h
    · rename_i x y l' hx hy hr
      simp at h; subst h
      obtain ⟨h1, h2⟩ := unhex_some r l' hr
      refine ⟨by simp; omega, fun k hk => ?_⟩
      cases k with
      | zero => exact ⟨x, y, ⟨a, b, by simp, by simp, hx, hy⟩, by simp⟩
      | succ k =>
        obtain ⟨x', y', ⟨a', b', q1, q2, q3, q4⟩, q5⟩ := h2 k (by simpa using hk)
        refine ⟨x', y', ⟨a', b', ?_, ?_, q3, q4⟩, by simpa using q5⟩
        · rw [show 2 * (k + 1) = 2 * k + 2 from by omega]; simpa using q1
        · rw [show 2 * (k + 1) + 1 = 2 * k + 1 + 2 from by omega]; simpa using q2
    · cases h

theorem unhex_none : ∀ (s : List UInt8), unhex s = none → s.length % 2 = 1 ∨ ∃ j, 2 * j + 1 < s.length ∧ (∀ k, k < j → ∃ x y, Dig s k x y) ∧ ∃ a b, s[2 * j]? = some a ∧ s[2 * j + 1]? = some b ∧ (nib a.toNat = none ∨ nib b.toNat = none)
  | [], h => by simp [unhex] at h
  | [_], h => by simp
  | a :: b :: r, h => by
    unfold unhex at h
    split at h
    · cases h
    · rename_i hno
      cases hx : nib a.toNat with
      | none => exact .inr ⟨0, by simp, by simp, a, b, by simp, by simp, .inl hx⟩
      | some x =>
        cases hy : nib b.toNat with
        | none => exact .inr ⟨0, by simp, by simp, a, b, by simp, by simp, .inr hy⟩
        | some y =>
          cases hr : unhex r with
          | some l => exact absurd hr (by intro hr; exact hno x y l hx hy hr)
          | none =>
            rcases unhex_none r hr with h1 | ⟨j, h1, h2, a', b', h3, h4, h5⟩
            · left; simp; omega
            · refine .inr ⟨j + 1, by simp; omega, fun k hk => ?_, a', b', ?_, ?_, h5⟩
              · cases k with
                | zero => exact ⟨x, y, a, b, by simp, by simp, hx, hy⟩
                | succ k =>
                  obtain ⟨x', y', a2, b2, q1, q2, q3, q4⟩ := h2 k (by omega)
                  refine ⟨x', y', a2, b2, ?_, ?_, q3, q4⟩
                  · rw [show 2 * (k + 1) = 2 * k + 2 from by omega]; simpa using q1
                  · rw [show 2 * (k + 1) + 1 = 2 * k + 1 + 2 from by omega]; simpa using q2
              · rw [show 2 * (j + 1) = 2 * j + 2 from by omega]; simpa using h3
              · rw [show 2 * (j + 1) + 1 = 2 * j + 1 + 2 from by omega]; simpa using h4

theorem byte_at {s : ByteArray} {k : Nat} {a : UInt8} (h : s.data.toList[k]? = some a) : ∃ hk : k < s.size, s[k] = a := by
  obtain ⟨hk, h2⟩ := List.getElem?_eq_some_iff.1 h
  exact ⟨by have h3 := hk; rw [Array.length_toList] at h3; exact h3, by rw [← h2]; rfl⟩
end Go.Proofs.YtcefdcjpddohaaaDoor
namespace Go.Proofs.YtcefdcjpddohaaaDoor
open Go.RowKit

theorem new_byted (w : World) (E : TypeId) (x : Int) (b : UInt8) (hx : x = (b.toNat : Int)) :
    ∀ j u, (bv [b])[j]? = some u → (w.alloc (.cells #[.int .u8 x] E)).drew.cell? ((⟨w.heap.size, 0, none⟩ : Addr).add j) = some u := new_byte w E x b hx

theorem append_nothing {P : Program} (w : World) {base t ty e size n c : Nat} {i : TypeInfo} {v : Value} {xs : List Value} (ht : P.underlying t = some (.slice e)) (hi : P.info? e = some i) (hown : w.ownsRow base e size v n xs) :
    (Builtin.append_ #[t, t] ty #[v, .slice none 0 c]).run P w = .ok v w := by
  rcases hown.2 with ⟨rfl, _⟩ | ⟨g, cap, cur, rfl, _, _, hle, _⟩
  · simp [Builtin.append_, run_underlying ht, typeInfo, sizeOf, hi, Builtin.lenOf, Builtin.firstCells]
  · simp [Builtin.append_, run_underlying ht, typeInfo, sizeOf, hi, Builtin.lenOf, Builtin.firstCells, storeCells, hle]

theorem wp_append_src {P : Program} (w : World) {ops : Array Oper} {rest : List Oper} {o : Oper} {a : Act} {Q : Exit → Act → World → Prop} (hgd : o.guard = none) (s x : Operand) (T : TypeId)
    (ho : o.op = .call { callee := .builtin .append, args := #[s, x], argTypes := #[T, T] }) (E : TypeId) (hT : P.underlying T = some (.slice E))
    (hI : (P.info? E).map (fun i => (i.zero, i.size, i.bytes)) = some (some (.int .u8 0), 1, 1)) (base : Nat) (A : Option Addr) (n c : Nat) (l : List UInt8) (hs : a.eval s = .slice A n c) (hr : Res w base E A n c l)
    (D : Option Addr) (m c2 : Nat) (hx : a.eval x = .slice D m c2) (B : Nat) (news : List UInt8) (hb : Byt w B D news) (hl : news.length = m) (hsz : n + m ≤ 140737488355328) (hbase : base ≤ w.heap.size)
    (h : ∀ A' c' w', Res w' base E A' (n + m) c' (l ++ news) → (∀ B w0, B ≤ base → Below B w0 w → Below B w0 w') → wpList P ops Q rest (a.put o.dst (.slice A' (n + m) c')) w') : wpList P ops Q (o :: rest) a w := by
  cases D with
  | some ad =>
    refine wp_append_bytes w hgd s x T ho E hT hI base A n c l hs hr ad m c2 hx news hl (fun j u hj => ?_) hsz hbase h
    have h0 : 0 < (bv news).length := Nat.lt_of_le_of_lt (Nat.zero_le _) (List.getElem?_eq_some_iff.1 hj).1
    obtain ⟨_, ad', he, hc⟩ := hb.src (some ⟨0, 0, none⟩) _ rfl h0
    injection he with he
    subst he
    exact hc j u hj
  | none =>
    have hn : news = [] := by
      rcases hb with h | ⟨_, _, h, _⟩
      · exact h
      · cases h
    subst hn
    subst hl
    obtain ⟨i, hi, _⟩ := info_parts hI
    refine wpList_plain hgd fun K hK => ?_
    have hrun := append_nothing (P := P) (ty := o.type) (c := c2) w hT hi hr
    unfold Oper.wp
    simp only [execOp, ho, resolve, invoke, builtin, Sem.run_bind, Sem.run_pure, Result.andThen_ok, List.map_toArray, List.map_cons, List.map_nil, hs, hx, List.length_nil, hrun]
    refine hK _ _ ?_
    have h2 := h A c w (by simpa using hr) (fun _ _ _ hb => hb)
    simpa using h2
end Go.Proofs.YtcefdcjpddohaaaDoor
namespace Go.Proofs.YtcefdcjpddohaaaDoor
open Go.RowKit

/-- A digit's number; -1 where it is none. -/
def dgt (c : Nat) : Int := match nib c with
  | some x => (x : Int)
  | none => -1

set_option maxRecDepth 100000 in
theorem digit_any (c : Nat) (w : World) (hc : c < 256) :
    Calls Tryd.prog 37 #[.int .u8 (c : Int)] w fun e w' => e = .returned (.int .i64 (dgt c)) ∧ w' = w := by
  have hcases : (48 ≤ c ∧ c ≤ 57 ∧ dgt c = (c : Int) - 48) ∨ (97 ≤ c ∧ c ≤ 102 ∧ dgt c = (c : Int) - 97 + 10) ∨ ((c < 48 ∨ (57 < c ∧ c < 97) ∨ 102 < c) ∧ dgt c = -1) := by
    unfold dgt nib
    by_cases h1 : 48 ≤ c ∧ c ≤ 57
    · rw [if_pos h1]; left; exact ⟨h1.1, h1.2, by simp only; omega⟩
    · rw [if_neg h1]
      by_cases h2 : 97 ≤ c ∧ c ≤ 102
      · rw [if_pos h2]; right; left; exact ⟨h2.1, h2.2, by simp only; omega⟩
      · rw [if_neg h2]; right; right; exact ⟨by omega, rfl⟩
  rcases hcases with ⟨h1, h2, h3⟩ | ⟨h1, h2, h3⟩ | ⟨h1, h3⟩
  · have H3 := Lib.hid h3
    clear h3
    go_enter Tryd.func37, Tryd.ntmps37
    go_wp2
    go_ret
    rw [H3.out]
    exact ⟨rfl, rfl⟩
  · have H3 := Lib.hid h3
    clear h3
    go_enter Tryd.func37, Tryd.ntmps37
    go_wp2
    go_ret
    rw [H3.out]
    exact ⟨rfl, rfl⟩
  · have H3 := Lib.hid h3
    clear h3
    rcases h1 with h1 | ⟨h1, h2⟩ | h1
    all_goals
      go_enter Tryd.func37, Tryd.ntmps37
      go_wp2
      go_ret
      rw [H3.out]
      exact ⟨rfl, rfl⟩

theorem dgt_some {c x : Nat} (h : nib c = some x) : dgt c = (x : Int) := by unfold dgt; rw [h]
theorem dgt_none {c : Nat} (h : nib c = none) : dgt c = -1 := by unfold dgt; rw [h]
theorem hexsum (x y : Nat) (hx : x < 16) (hy : y < 16) : (16 * (x : Int) + (y : Int)) = ((UInt8.ofNat (16 * x + y)).toNat : Int) := by
  rw [UInt8.toNat_ofNat']; omega

set_option maxRecDepth 100000 in
theorem refUnhex_ok (s : ByteArray) (l : List UInt8) (w : World) (hs : s.size ≤ 140737488355328) (h : unhex s.data.toList = some l) :
    Calls Tryd.prog 23 #[.string s] w fun e w' => ∃ A' c', e = .returned (.tuple #[.slice A' l.length c', .bool true]) ∧ Res w' w.heap.size 5 A' l.length c' l ∧ Below w.heap.size w w' := by
  obtain ⟨h1, h2⟩ := unhex_some _ _ h
  generalize hm : l.length = m at *
  have hsz : s.size = 2 * m := by rw [Array.length_toList] at h1; exact h1
  have H2 := Lib.hid h2
  have HM := Lib.hid hm
  clear h h1 h2 hm
  have hd2 : (((s.size : Int) % 2) != 0) = false := by simp; omega
  have hlo : s.size ≤ 2 * m := by omega
  have hhi : 2 * m ≤ s.size := by omega
  clear hsz
  go_enter Tryd.func23, Tryd.ntmps23
  go_wp2
  go_loopw [4, 5, 6, 7] (fun t i _ _ wr => ∃ (k : Nat) (A2 : Option Addr) (c2 : Nat), k ≤ m ∧ i = .int .i64 (2 * (k : Int)) ∧ t = .slice A2 k c2 ∧ Res wr w.heap.size 5 A2 k c2 (l.take k) ∧ Below w.heap.size w wr) (fun _ i _ _ _ => 2 * m - (intOf i).toNat)
  case atStart => exact ⟨0, none, 0, Nat.zero_le _, rfl, rfl, World.ownsRow_nil _ _ _ _, Below.refl _ _⟩
  case round =>
    obtain ⟨k, A2, c2, hk, rfl, rfl, hres, hbel⟩ := hrel
    by_cases hlt : k < m
    · obtain ⟨x, y, ⟨a, b, q1, q2, q3, q4⟩, q5⟩ := H2.out k hlt
      obtain ⟨hka, ea⟩ := byte_at q1
      obtain ⟨hkb, eb⟩ := byte_at q2
      have hx := nib_lt q3
      have hy := nib_lt q4
      have EA : dgt (s[2 * k].toNat) = (x : Int) := by rw [ea]; exact dgt_some q3
      have EB : dgt (s[2 * k + 1].toNat) = (y : Int) := by rw [eb]; exact dgt_some q4
      have Q5 := Lib.hid q5
      clear ea eb q1 q2 q3 q4 q5
      have z1 : (0 : Int) ≤ 2 * (k : Int) ∧ 2 * (k : Int) < (s.size : Int) := by omega
      have z2 : (0 : Int) ≤ 2 * (k : Int) + 1 ∧ 2 * (k : Int) + 1 < (s.size : Int) := by omega
      have z3 : (2 * (k : Int)).toNat = 2 * k := by omega
      have z4 : (2 * (k : Int) + 1).toNat = 2 * k + 1 := by omega
      have z5 : IntKind.i64.wrap (2 * (k : Int) + 1) = 2 * (k : Int) + 1 := IntWalk.i64_in _ (by omega)
      go_wp2_with fail
      go_quiet ((go_at_call 37; exact Calls.quiet_of_same (digit_any _ _ (UInt8.toNat_lt _))))
      rw [EA, EB]
      have hres' : Res (wr.drewN nq) w.heap.size 5 A2 k c2 (l.take k) := hres
      have hbel' := below_drewN hbel nq
      clear hres hbel EA EB
      generalize s[2 * k].toNat = b1
      generalize s[2 * k + 1].toNat = b2
      clear z1 z2 z3 z4 z5
      obtain ⟨bb, hbb⟩ : ∃ bb, bb = UInt8.ofNat (16 * x + y) := ⟨_, rfl⟩
      have hsum := Lib.hid (hexsum x y hx hy)
      rw [← hbb] at hsum
      have HBB := Lib.hid hbb
      clear hbb
      generalize wr.drewN nq = wq at *
      go_wp2_with (at_builtin; refine wp_append_bytes _ rfl (.tmp 33) (.tmp 39) 24 rfl 5 Tryd.underlying24 Tryd.infoByte w.heap.size A2 k c2 _ rfl (hres'.alloc _) ⟨wq.heap.size, 0, none⟩ 1 1 rfl [bb] rfl (new_byte _ _ _ _ hsum.out) (by omega) (by have := hbel'.size; simp; omega) ?_)
      intro A3 c3 w3 hres3 hb3
      have hbel3 := hb3 w.heap.size w (Nat.le_refl _) (hbel'.alloc (by have := hbel'.size; omega) _)
      clear hb3 hres' hbel'
      go_wp2
      go_roundw
      case rel => exact ⟨k + 1, A3, c3, by omega, by go_num, rfl, by rw [take_at Q5.out, ← HBB.out]; exact hres3, hbel3⟩
      case measure => simp [intOf]; omega
    · obtain rfl : k = m := by omega
      go_wp2
      go_ret2
      refine ⟨_, _, rfl, ?_, hbel⟩
      have h2 := hres
      rw [List.take_of_length_le (by rw [HM.out]; exact Nat.le_refl _)] at h2
      exact h2

set_option maxRecDepth 100000 in
theorem refUnhex_no (s : ByteArray) (w : World) (hs : s.size ≤ 140737488355328) (h : unhex s.data.toList = none) :
    Calls Tryd.prog 23 #[.string s] w fun e w' => e = .returned (.tuple #[.slice none 0 0, .bool false]) ∧ Below w.heap.size w w' := by
  by_cases ho : s.size % 2 = 1
  · have hd2 : (((s.size : Int) % 2) != 0) = true := by simp; omega
    clear h ho
    go_enter Tryd.func23, Tryd.ntmps23
    go_wp2
    go_ret2
    exact ⟨rfl, Below.refl _ _⟩
  · rcases unhex_none _ h with h1 | ⟨j, h1, h2, a, b, h3, h4, h5⟩
    · rw [Array.length_toList] at h1; exact absurd h1 ho
    rw [Array.length_toList] at h1
    have hj : 2 * j + 1 < s.size := h1
    have hd2 : (((s.size : Int) % 2) != 0) = false := by simp; omega
    have H2 := Lib.hid h2
    have H3 := Lib.hid h3
    have H4 := Lib.hid h4
    have H5 := Lib.hid h5
    clear h h1 h2 h3 h4 h5 ho
    go_enter Tryd.func23, Tryd.ntmps23
    go_wp2
    go_loopw [4, 5, 6, 7] (fun t i _ _ wr => ∃ (k : Nat) (A2 : Option Addr) (c2 : Nat) (L : List UInt8), k ≤ j ∧ i = .int .i64 (2 * (k : Int)) ∧ t = .slice A2 k c2 ∧ Res wr w.heap.size 5 A2 k c2 L ∧ Below w.heap.size w wr) (fun _ i _ _ _ => s.size - (intOf i).toNat)
    case atStart => exact ⟨0, none, 0, [], Nat.zero_le _, rfl, rfl, World.ownsRow_nil _ _ _ _, Below.refl _ _⟩
    case round =>
      obtain ⟨k, A2, c2, L, hk, rfl, rfl, hres, hbel⟩ := hrel
      have z1 : (0 : Int) ≤ 2 * (k : Int) ∧ 2 * (k : Int) < (s.size : Int) := by omega
      have z2 : (0 : Int) ≤ 2 * (k : Int) + 1 ∧ 2 * (k : Int) + 1 < (s.size : Int) := by omega
      have z3 : (2 * (k : Int)).toNat = 2 * k := by omega
      have z4 : (2 * (k : Int) + 1).toNat = 2 * k + 1 := by omega
      have z5 : IntKind.i64.wrap (2 * (k : Int) + 1) = 2 * (k : Int) + 1 := IntWalk.i64_in _ (by omega)
      by_cases hkj : k < j
      · obtain ⟨x, y, a, b, q1, q2, q3, q4⟩ := H2.out k hkj
        obtain ⟨hka, ea⟩ := byte_at q1
        obtain ⟨hkb, eb⟩ := byte_at q2
        have hx := nib_lt q3
        have hy := nib_lt q4
        have EA : dgt (s[2 * k].toNat) = (x : Int) := by rw [ea]; exact dgt_some q3
        have EB : dgt (s[2 * k + 1].toNat) = (y : Int) := by rw [eb]; exact dgt_some q4
        clear ea eb q1 q2 q3 q4
        go_wp2_with fail
        go_quiet ((go_at_call 37; exact Calls.quiet_of_same (digit_any _ _ (UInt8.toNat_lt _))))
        rw [EA, EB]
        have hres' : Res (wr.drewN nq) w.heap.size 5 A2 k c2 L := hres
        have hbel' := below_drewN hbel nq
        clear hres hbel EA EB
        generalize s[2 * k].toNat = b1
        generalize s[2 * k + 1].toNat = b2
        clear z1 z2 z3 z4 z5
        obtain ⟨bb, hbb⟩ : ∃ bb, bb = UInt8.ofNat (16 * x + y) := ⟨_, rfl⟩
        have hsum := Lib.hid (hexsum x y hx hy)
        rw [← hbb] at hsum
        have HBB := Lib.hid hbb
        clear hbb
        generalize wr.drewN nq = wq at *
        go_wp2_with (at_builtin; refine wp_append_bytes _ rfl (.tmp 33) (.tmp 39) 24 rfl 5 Tryd.underlying24 Tryd.infoByte w.heap.size A2 k c2 _ rfl (hres'.alloc _) ⟨wq.heap.size, 0, none⟩ 1 1 rfl [bb] rfl (new_byte _ _ _ _ hsum.out) (by omega) (by have := hbel'.size; simp; omega) ?_)
        intro A3 c3 w3 hres3 hb3
        have hbel3 := hb3 w.heap.size w (Nat.le_refl _) (hbel'.alloc (by have := hbel'.size; omega) _)
        clear hb3 hres' hbel'
        go_wp2
        go_roundw
        case rel => exact ⟨k + 1, A3, c3, _, by omega, by go_num, rfl, hres3, hbel3⟩
        case measure => simp [intOf]; omega
      · obtain rfl : k = j := by omega
        obtain ⟨hka, ea⟩ := byte_at H3.out
        obtain ⟨hkb, eb⟩ := byte_at H4.out
        have hbelD := hbel
        cases hx : nib a.toNat with
        | none =>
          have EA : dgt (s[2 * k].toNat) = -1 := by rw [ea]; exact dgt_none hx
          clear ea eb hx
          go_wp2_with fail
          go_quiet ((go_at_call 37; exact Calls.quiet_of_same (digit_any _ _ (UInt8.toNat_lt _))))
          rw [EA]
          go_wp2
          go_ret2
          exact ⟨rfl, below_drewN hbel nq⟩
        | some x =>
          have hy : nib b.toNat = none := by
            rcases H5.out with h | h
            · rw [hx] at h; cases h
            · exact h
          have EA : dgt (s[2 * k].toNat) = (x : Int) := by rw [ea]; exact dgt_some hx
          have EB : dgt (s[2 * k + 1].toNat) = -1 := by rw [eb]; exact dgt_none hy
          clear ea eb hx hy
          go_wp2_with fail
          go_quiet ((go_at_call 37; exact Calls.quiet_of_same (digit_any _ _ (UInt8.toNat_lt _))))
          rw [EA, EB]
          go_wp2
          go_ret2
          exact ⟨rfl, below_drewN hbel nq⟩
end Go.Proofs.YtcefdcjpddohaaaDoor
namespace Go.Proofs.YtcefdcjpddohaaaDoor
open Go.RowKit

set_option maxRecDepth 100000 in
theorem refHex_any (A : Option Addr) (l : List UInt8) (n c : Nat) (w : World) (ha : Byt w w.heap.size A l) (hl : l.length = n) (hn : n ≤ 35184372088832) :
    Calls Tryd.prog 12 #[.slice A n c] w fun e w' => e = .returned (.string ⟨(hexd l).toArray⟩) ∧ Below w.heap.size w w' := by
  obtain ⟨i0, hi, hz0, hz1, hz2⟩ := info_parts Tryd.infoByte
  obtain ⟨w1, hrun, hg1, hb1, hs1⟩ := make_bytes (P := Tryd.prog) Tryd.underlying24 hi hz0 hz1 hz2 0 (2 * n) (0 : Int) (2 * (n : Int)) rfl (by omega) (by omega) (by omega) w
  have HL := Lib.hid hl
  clear hl hi hz0 hz1 hz2
  go_enter Tryd.func12, Tryd.ntmps12
  go_wp2
  go_loopw [3, 4] (fun s i wr => ∃ (k : Nat) (A2 : Option Addr) (c2 : Nat), k ≤ n ∧ i = .int .i64 (k : Int) ∧ s = .slice A2 (2 * k) c2 ∧ Res wr w.heap.size 5 A2 (2 * k) c2 (hexd (l.take k)) ∧ Below w.heap.size w wr) (fun _ i _ => n - (intOf i).toNat)
  case atStart => exact ⟨0, _, _, Nat.zero_le _, rfl, rfl, Res.row (Nat.le_refl _) hg1.out (by omega) (by omega) (by simp [bv]) rfl (by simp [hexd, bv]), hb1.out⟩
  case round =>
    obtain ⟨k, A2, c2, hk, rfl, rfl, hres, hbel⟩ := hrel
    by_cases hlt : k < n
    · obtain ⟨g, o, x, rfl, hg, hx, hcell, hget⟩ := (ha.below hbel).at_ (k := k) (by rw [HL.out]; exact hlt)
      have hm : bits .and .u8 (x : Int) 15 = (x : Int) % 16 := by
        have h1 := u8_and_nat x 15 hx (by omega)
        rw [nat_mask4] at h1
        rw [show (15 : Int) = ((15 : Nat) : Int) from rfl, h1]; omega
      have b1 : 0 ≤ (x : Int) / 16 ∧ (x : Int) / 16 < 16 := by omega
      have b2 : 0 ≤ (x : Int) % 16 ∧ (x : Int) % 16 < 16 := by omega
      go_wp2
      go_region_law ((refine step_append_bytes _ rfl (.tmp 15) (.tmp 28) 24 rfl 5 Tryd.underlying24 Tryd.infoByte w.heap.size A2 (2 * k) c2 (hexd (l.take k)) (by simp [Act.eval]) (by exact (hres.alloc _).drew) ⟨wr.heap.size, 0, none⟩ 2 2 (by simp [Act.eval]) [dg (x / 16), dg (x % 16)] rfl (new_bytes2d wr _ _ _ _ _ (dig_hi x hx) (dig_lo x)) (by omega) (by have := hbel.size; simp; omega) ?_; intro A3 c3 w3 hres3 hb3))
      all_goals
        have hbel3 := hb3 w.heap.size w (Nat.le_refl _) ((hbel.alloc (by have := hbel.size; omega) _).drew)
        clear hb3 hres hbel
        go_wp2
        go_roundw
        case rel =>
          refine ⟨k + 1, A3, c3, by omega, by go_num, rfl, ?_, hbel3⟩
          rw [take_at hget.out, hexd_app]
          have h3 : Res w3 w.heap.size 5 A3 (2 * (k + 1)) c3 (hexd (l.take k) ++ [dg (x / 16), dg (x % 16)]) := hres3
          simpa [hexd, Nat.mod_eq_of_lt hx] using h3
        case measure => simp [intOf]; omega
    · obtain rfl : k = n := by omega
      have hcv := conv_bytes (P := Tryd.prog) Tryd.underlying24 Tryd.underlying5 Tryd.underlying9 hres.byt (2 * k) c2 hres.len
      go_wp2
      go_ret
      rw [List.take_of_length_le (by rw [HL.out]; exact Nat.le_refl _)]
      exact ⟨rfl, hbel⟩
end Go.Proofs.YtcefdcjpddohaaaDoor
namespace Go.Proofs.YtcefdcjpddohaaaDoor
open Go.RowKit

theorem Byt.next {w w' : World} {A : Option Addr} {l : List UInt8} (h : Byt w w.heap.size A l) (hb : Below w.heap.size w w') : Byt w' w'.heap.size A l := (h.below hb).up hb.size
end Go.Proofs.YtcefdcjpddohaaaDoor
namespace Go.Proofs.YtcefdcjpddohaaaDoor
open Go.RowKit

theorem Res.none_lit (w : World) (E : TypeId) (base : Nat) (hb : base ≤ w.heap.size) : Res (w.alloc (.cells #[] E)) base E (some ⟨w.heap.size, 0, none⟩) 0 0 [] :=
  Res.row hb (heap_alloc_new w _) (Nat.le_refl _) (by omega) rfl rfl rfl
end Go.Proofs.YtcefdcjpddohaaaDoor
