/-
  PolyEnds: the law's Go text returns true, whatever the key, the bytes and the noughts behind them. Conditions: none beyond the row's own.
-/
import Derived.Test.YtioodeiloepaaaaRf5Stp
import Derived.Test.YtioodeiloepaaaaApz
import Derived.Test.YtioodeiloepaaaaLit
import Derived.Test.YtioodeiloepaaaaEqB
namespace Go.Proofs.Ytioodeiloepaaaa
open Go.RowKit

set_option maxRecDepth 100000 in
set_option maxHeartbeats 4000000 in
theorem walk_PolyEnds (w : World) (key : List UInt8) (hk : key.length = 32) (A : Option Addr) (b : List UInt8) (n c : Nat) (hb : Byt w w.heap.size A b) (hl : b.length = n) (hc : n ≤ c) (q : Int) (_ : (Lit.int .i64 q).wf = true) :
    Calls Try.prog 7 #[.agg (bv key).toArray, .slice A n c, .int .i64 q] w fun e w' => e = .returned (.bool true) ∧ Below w.heap.size w w' := by
  have hzw := zero_w32
  obtain ⟨W, hW, hgK, hbW, hsW⟩ := one_new w (bv key).toArray 26
  have HW := Lib.hid hW
  have HK := Lib.hid hk
  have HL := Lib.hid hl
  have hs1 : w.heap.size < W.heap.size := by have := hsW.out; omega
  have hbW' : Byt W w.heap.size A b := hb.below hbW
  clear hW hk hl hb
  go_enter Try.func7, Try.ntmps7
  go_upto_region 1 with fail
  rw [HW.out]
  go_wp2_with fail
  refine (awake5_any W).mono ?_
  rintro e w1 ⟨rfl, hb1⟩
  have hgK1 : Hid (w1.heap[w.heap.size]? = some (.cells (bv key).toArray 26 (0, 0))) := (hb1.block _ hs1).trans hgK.out
  have hbt1 : Byt w1 w.heap.size A b := hbW'.keep fun p hp => hb1.cell (by omega)
  have hbw1 : Below w.heap.size w w1 := below_next hbW hbW.size hb1
  have hs2 : w.heap.size < w1.heap.size := by have := hb1.size; omega
  clear hgK hbW' hb1
  by_cases h1 : (200 : Int) < (n : Int)
  · go_wp2
    go_ret
    exact ⟨rfl, hbw1⟩
  by_cases h2 : q < 0
  · go_wp2
    go_ret
    exact ⟨rfl, hbw1⟩
  by_cases h3 : 40 < q
  · go_wp2
    go_ret
    exact ⟨rfl, hbw1⟩
  obtain ⟨m, rfl⟩ : ∃ m : Nat, q = (m : Int) := ⟨q.toNat, by omega⟩
  have hm40 : m ≤ 40 := by omega
  have hn200 : n ≤ 200 := by omega
  go_wp2_with (at_builtin; refine wp_append_src _ rfl (.tmp 21) (.tmp 22) 27 rfl 5 Try.underlying27 Try.infoByte w1.heap.size (some ⟨w1.heap.size, 0, none⟩) 0 0 [] rfl (Res.none_lit w1 _ _ (Nat.le_refl _)) A n c rfl w.heap.size b (hbt1.alloc (by omega) _) HL.out (by omega) (by simp) ?_)
  intro A2 c2 w2 hr2 hb2'
  have hb2 : Below w1.heap.size w1 w2 := hb2' w1.heap.size w1 (Nat.le_refl _) ((Below.refl _ _).alloc (Nat.le_refl _) _)
  clear hb2'
  go_wp2_with (at_builtin; refine wp_append_zeros _ rfl (.tmp 23) (.tmp 24) 27 3 rfl 5 Try.underlying27 Try.underlying3 Try.infoByte w1.heap.size A2 n c2 b rfl hr2 m rfl (by omega) hb2.size ?_)
  intro A7 c7 w3 hr3 hb3'
  have hb3 : Below w1.heap.size w1 w3 := hb3' w1.heap.size w1 (Nat.le_refl _) hb2
  clear hb3' hr2 hb2
  have hgK3 : Hid (w3.heap[w.heap.size]? = some (.cells (bv key).toArray 26 (0, 0))) := (hb3.block _ hs2).trans hgK1.out
  have hbt3 : Byt w3 w.heap.size A b := hbt1.keep fun p hp => hb3.cell (by omega)
  have hbw3 := below_next hbw1 hbw1.size hb3
  obtain ⟨cc, hcc0⟩ : ∃ cc, cc = b ++ List.replicate m 0 := ⟨_, rfl⟩
  rw [← hcc0] at hr3
  have hcl := hr3.len
  have hcc := hr3.cap
  have hbC0 := hr3.byt
  obtain ⟨n7, hn7⟩ : ∃ n7, n7 = n + m := ⟨_, rfl⟩
  rw [← hn7] at hcl hcc
  have hn7b : n7 ≤ 240 := by omega
  have hs3 : w.heap.size < w3.heap.size := by have := hb3.size; omega
  obtain ⟨T, hT⟩ : ∃ T, T = tagOf key cc := ⟨_, rfl⟩
  have hTl : T.length = 16 := by rw [hT]; exact tagOf_len _ _
  have hT0 := vlt (show tagOf key cc = T from hT.symm)
  have hT1 := vlt (show tagOf key [cc].flatten = T by rw [hT]; simp)
  have hT2 := vlt (show tagOf key [b, List.replicate m 0].flatten = T by rw [hT, hcc0]; simp)
  have hbig1 : [cc].flatten.length ≤ 288230376151711744 := by simp [hcl]; omega
  have hbig2 : [b, List.replicate m 0].flatten.length ≤ 288230376151711744 := by simp [HL.out]; omega
  have heq := eql_bytes_same Try.underlying23 Try.underlying5 Try.sizeByte T hTl
  have hrK := Lib.hid (range_byt (byt_row hgK3.out))
  have hl32 := Lib.hid (show (bv key).length = 32 by rw [bv_len]; exact HK.out)
  have hbV0 : Byt w3.drew w3.drew.heap.size A b := hbt3.up (by show w.heap.size ≤ w3.heap.size; omega)
  have hbC1 : Byt w3.drew w3.drew.heap.size A7 cc := hbC0
  have hBV : ∀ W', Below w3.heap.size w3 W' → Below w.heap.size w W' := fun W' h => below_next hbw3 hbw3.size h
  clear hT hTl hcc0 hr3 hbC0 hgK1 hbt1 hbw1 hb3 hbt3
  go_wp2_with fail
  rw [← hn7]
  clear hn7
  refine wp_region_held_drew (S := (fun W' => Below w3.heap.size w3 W' ∧ W'.rangeAt w.heap.size 0 (bv key))) (by kernel_rfl) (⟨(Below.refl _ _).drew, hrK.out⟩) (fun hHeld => ?_)
  refine wpAnyH_take (i := 0) (oi := ⟨(some 26), _, _, _, _, _⟩) (v := _) rfl (by kernel_rfl) (by kernel_rfl) (by kernel_rfl) (fun _ _ _ h => h) (yieldsIf_load_mid (by rfl) _ _ rfl w.heap.size 0 rfl (bv key) _ ((fun _ h => h.2)) (Try.underlying26) (rfl) (by rw [hl32.out]; kernel_rfl)) hHeld ?_
  try simp only [Act.put, List.setIfInBounds_toArray, List.set_cons_zero, List.set_cons_succ]
  refine wpAnyH_take (i := 1) (oi := ⟨(some 27), _, _, _, _, _⟩) (v := ?vq1_0) rfl (by kernel_rfl) (by kernel_rfl) (by kernel_rfl) (fun _ _ _ h => h) (Or.inl ⟨by rfl, ?yq1_0⟩) hHeld ?_
  case yq1_0 => (intro W0 hSw; go_simp; try with_reducible rfl)
  try simp only [Act.put, List.setIfInBounds_toArray, List.set_cons_zero, List.set_cons_succ]
  refine wpAnyH_take (i := 4) (oi := ⟨(some 30), _, _, _, _, _⟩) (v := _) rfl (by kernel_rfl) (by kernel_rfl) (by kernel_rfl) (fun _ _ _ h => h) (yieldsIf_load_mid (by rfl) _ _ rfl w.heap.size 0 rfl (bv key) _ ((fun _ h => h.2)) (Try.underlying26) (rfl) (by rw [hl32.out]; kernel_rfl)) hHeld ?_
  try simp only [Act.put, List.setIfInBounds_toArray, List.set_cons_zero, List.set_cons_succ]
  refine wpAnyH_take (i := 5) (oi := ⟨(some 31), _, _, _, _, _⟩) (v := ?vq1_1) rfl (by kernel_rfl) (by kernel_rfl) (by kernel_rfl) (fun _ _ _ h => h) (Or.inl ⟨by rfl, ?yq1_1⟩) hHeld ?_
  case yq1_1 => (intro W0 hSw; go_simp; try with_reducible rfl)
  try simp only [Act.put, List.setIfInBounds_toArray, List.set_cons_zero, List.set_cons_succ]
  refine wpAnyH_ready (rs := [2]) (by kernel_rfl) (by simp) ?_
  refine AllReadyH.cons (i := 2) (o := ⟨(some 28), _, _, _, _, _⟩) rfl (fun K hK => ?_) AllReadyH.nil
  refine step_one (by rfl) (.tmp 27) rfl A7 cc n7 c7 (by rfl) hbC1 hcl hcc ?_
  intro D2 U1 f2 u1
  refine hK.out _ _ (⟨below_next hHeld.1 hHeld.1.size u1, range_below hHeld.2 (by have := hHeld.1.size; omega) u1⟩) (fun hHeld => ?_)
  clear hK K
  try simp only [Act.put, List.setIfInBounds_toArray, List.set_cons_zero, List.set_cons_succ]
  refine wpAnyH_ready (rs := [3]) (by kernel_rfl) (by simp) ?_
  refine AllReadyH.cons (i := 3) (o := ⟨(some 29), _, _, _, _, _⟩) rfl (fun K hK => ?_) AllReadyH.nil
  refine step_tag (by rfl) (.tmp 26) (.tmp 28) rfl key D2 [cc] 1 1 (by rfl) (by rfl) HK.out f2 rfl hbig1 (by decide) ?_
  intro U2 u2
  rw [hT1.out]
  refine hK.out _ _ (⟨below_next hHeld.1 hHeld.1.size u2, range_below hHeld.2 (by have := hHeld.1.size; omega) u2⟩) (fun hHeld => ?_)
  clear hK K
  try simp only [Act.put, List.setIfInBounds_toArray, List.set_cons_zero, List.set_cons_succ]
  refine wpAnyH_ready (rs := [6]) (by kernel_rfl) (by simp) ?_
  refine AllReadyH.cons (i := 6) (o := ⟨(some 32), _, _, _, _, _⟩) rfl (fun K hK => ?_) AllReadyH.nil
  refine step_rtag (by rfl) (.tmp 30) (.tmp 31) rfl key A7 cc n7 c7 (by rfl) (by rfl) HK.out ((hbC1.next u1).next u2) hcl (by omega) ?_
  intro U3 u3
  rw [hT0.out]
  refine hK.out _ _ (⟨below_next hHeld.1 hHeld.1.size u3, range_below hHeld.2 (by have := hHeld.1.size; omega) u3⟩) (fun hHeld => ?_)
  clear hK K
  try simp only [Act.put, List.setIfInBounds_toArray, List.set_cons_zero, List.set_cons_succ]
  refine wpAnyH_take (i := 7) (oi := ⟨(some 33), _, _, _, _, _⟩) (v := ?vq1_2) rfl (by kernel_rfl) (by kernel_rfl) (by kernel_rfl) (fun _ _ _ h => h) (Or.inl ⟨by rfl, ?yq1_2⟩) hHeld ?_
  case yq1_2 => (intro W0 hSw; go_simp; try with_reducible rfl)
  try simp only [Act.put, List.setIfInBounds_toArray, List.set_cons_zero, List.set_cons_succ]
  refine wpAnyH_take (i := 8) (oi := ⟨(some 34), _, _, _, _, _⟩) (v := ?vq1_3) rfl (by kernel_rfl) (by kernel_rfl) (by kernel_rfl) (fun _ _ _ h => h) (Or.inl ⟨by rfl, ?yq1_3⟩) hHeld ?_
  case yq1_3 => (intro W0 hSw; go_simp; try with_reducible rfl)
  try simp only [Act.put, List.setIfInBounds_toArray, List.set_cons_zero, List.set_cons_succ]
  refine wpAnyH_take (i := 9) (oi := ⟨(some 35), _, _, _, _, _⟩) (v := _) rfl (by kernel_rfl) (by kernel_rfl) (by kernel_rfl) (fun _ _ _ h => h) (yieldsIf_load_mid (by rfl) _ _ rfl w.heap.size 0 rfl (bv key) _ ((fun _ h => h.2)) (Try.underlying26) (rfl) (by rw [hl32.out]; kernel_rfl)) hHeld ?_
  try simp only [Act.put, List.setIfInBounds_toArray, List.set_cons_zero, List.set_cons_succ]
  refine wpAnyH_take (i := 10) (oi := ⟨(some 36), _, _, _, _, _⟩) (v := ?vq1_4) rfl (by kernel_rfl) (by kernel_rfl) (by kernel_rfl) (fun _ _ _ h => h) (Or.inl ⟨by rfl, ?yq1_4⟩) hHeld ?_
  case yq1_4 => (intro W0 hSw; go_simp; try with_reducible rfl)
  try simp only [Act.put, List.setIfInBounds_toArray, List.set_cons_zero, List.set_cons_succ]
  refine wpAnyH_take (i := 11) (oi := ⟨(some 37), _, _, _, _, _⟩) (v := ?vq1_5) rfl (by kernel_rfl) (by kernel_rfl) (by kernel_rfl) (fun _ _ _ h => h) (Or.inl ⟨by rfl, ?yq1_5⟩) hHeld ?_
  case yq1_5 => (intro W0 hSw; go_simp; try with_reducible rfl)
  try simp only [Act.put, List.setIfInBounds_toArray, List.set_cons_zero, List.set_cons_succ]
  refine wpAnyH_take (i := 15) (oi := ⟨(some 41), _, _, _, _, _⟩) (v := _) rfl (by kernel_rfl) (by kernel_rfl) (by kernel_rfl) (fun _ _ _ h => h) (yieldsIf_load_mid (by rfl) _ _ rfl w.heap.size 0 rfl (bv key) _ ((fun _ h => h.2)) (Try.underlying26) (rfl) (by rw [hl32.out]; kernel_rfl)) hHeld ?_
  try simp only [Act.put, List.setIfInBounds_toArray, List.set_cons_zero, List.set_cons_succ]
  refine wpAnyH_take (i := 16) (oi := ⟨(some 42), _, _, _, _, _⟩) (v := ?vq1_6) rfl (by kernel_rfl) (by kernel_rfl) (by kernel_rfl) (fun _ _ _ h => h) (Or.inl ⟨by rfl, ?yq1_6⟩) hHeld ?_
  case yq1_6 => (intro W0 hSw; go_simp; try with_reducible rfl)
  try simp only [Act.put, List.setIfInBounds_toArray, List.set_cons_zero, List.set_cons_succ]
  have hbB := ((hbV0.next u1).next u2).next u3
  have hbC := ((hbC1.next u1).next u2).next u3
  refine wpAnyH_ready (rs := [12, 17]) (by kernel_rfl) (by simp) ?_
  refine AllReadyH.cons (i := 12) (o := ⟨(some 38), _, _, _, _, _⟩) rfl (fun K hK => ?_) (AllReadyH.cons (i := 17) (o := ⟨(some 43), _, _, _, _, _⟩) rfl (fun K hK => ?_) AllReadyH.nil)
  · refine step_make (by rfl) (.tmp 37) (.tmp 37) rfl m (by rfl) (by rfl) (by omega) ?_
    intro A12 W1 f12 g1
    refine hK.out _ _ (⟨below_next hHeld.1 hHeld.1.size g1, range_below hHeld.2 (by have := hHeld.1.size; omega) g1⟩) (fun hHeld => ?_)
    clear hK K
    try simp only [Act.put, List.setIfInBounds_toArray, List.set_cons_zero, List.set_cons_succ]
    refine wpAnyH_ready (rs := [13, 17]) (by kernel_rfl) (by simp) ?_
    refine AllReadyH.cons (i := 13) (o := ⟨(some 39), _, _, _, _, _⟩) rfl (fun K hK => ?_) (AllReadyH.cons (i := 17) (o := ⟨(some 43), _, _, _, _, _⟩) rfl (fun K hK => ?_) AllReadyH.nil)
    · refine step_two (by rfl) (.tmp 36) (.tmp 38) rfl A A12 b (List.replicate m 0) n c m m (by rfl) (by rfl) ((hbB).next g1) HL.out hc (f12) (by simp) (Nat.le_refl _) ?_
      intro D13 W2 f13 g2
      refine hK.out _ _ (⟨below_next hHeld.1 hHeld.1.size g2, range_below hHeld.2 (by have := hHeld.1.size; omega) g2⟩) (fun hHeld => ?_)
      clear hK K
      try simp only [Act.put, List.setIfInBounds_toArray, List.set_cons_zero, List.set_cons_succ]
      refine wpAnyH_ready (rs := [14, 17]) (by kernel_rfl) (by simp) ?_
      refine AllReadyH.cons (i := 14) (o := ⟨(some 40), _, _, _, _, _⟩) rfl (fun K hK => ?_) (AllReadyH.cons (i := 17) (o := ⟨(some 43), _, _, _, _, _⟩) rfl (fun K hK => ?_) AllReadyH.nil)
      · refine step_tag (by rfl) (.tmp 35) (.tmp 39) rfl key D13 [b, List.replicate m 0] 2 2 (by rfl) (by rfl) HK.out (f13) rfl hbig2 (by decide) ?_
        intro W3 g3
        rw [hT2.out]
        refine hK.out _ _ (⟨below_next hHeld.1 hHeld.1.size g3, range_below hHeld.2 (by have := hHeld.1.size; omega) g3⟩) (fun hHeld => ?_)
        clear hK K
        try simp only [Act.put, List.setIfInBounds_toArray, List.set_cons_zero, List.set_cons_succ]
        refine wpAnyH_ready (rs := [17]) (by kernel_rfl) (by simp) ?_
        refine AllReadyH.cons (i := 17) (o := ⟨(some 43), _, _, _, _, _⟩) rfl (fun K hK => ?_) AllReadyH.nil
        refine step_one (by rfl) (.tmp 42) rfl A7 cc n7 c7 (by rfl) ((((hbC).next g1).next g2).next g3) hcl hcc ?_
        intro D17 W4 f17 g4
        refine hK.out _ _ (⟨below_next hHeld.1 hHeld.1.size g4, range_below hHeld.2 (by have := hHeld.1.size; omega) g4⟩) (fun hHeld => ?_)
        clear hK K
        try simp only [Act.put, List.setIfInBounds_toArray, List.set_cons_zero, List.set_cons_succ]
        refine wpAnyH_ready (rs := [18]) (by kernel_rfl) (by simp) ?_
        refine AllReadyH.cons (i := 18) (o := ⟨(some 44), _, _, _, _, _⟩) rfl (fun K hK => ?_) AllReadyH.nil
        refine step_tag (by rfl) (.tmp 41) (.tmp 43) rfl key D17 [cc] 1 1 (by rfl) (by rfl) HK.out (f17) rfl hbig1 (by decide) ?_
        intro W5 g5
        rw [hT1.out]
        refine hK.out _ _ (⟨below_next hHeld.1 hHeld.1.size g5, range_below hHeld.2 (by have := hHeld.1.size; omega) g5⟩) (fun hHeld => ?_)
        clear hK K
        try simp only [Act.put, List.setIfInBounds_toArray, List.set_cons_zero, List.set_cons_succ]
        refine wpAnyH_take (i := 19) (oi := ⟨(some 45), _, _, _, _, _⟩) (v := ?vt_12_13_14_17_18_19) rfl (by kernel_rfl) (by kernel_rfl) (by kernel_rfl) (fun _ _ _ h => h) (Or.inl ⟨by rfl, ?yt_12_13_14_17_18_19⟩) hHeld ?_
        case yt_12_13_14_17_18_19 => (intro W0 hSw; go_simp; try with_reducible rfl)
        try simp only [Act.put, List.setIfInBounds_toArray, List.set_cons_zero, List.set_cons_succ]
        refine wpAnyH_take (i := 20) (oi := ⟨(some 46), _, _, _, _, _⟩) (v := ?vt_12_13_14_17_18_20) rfl (by kernel_rfl) (by kernel_rfl) (by kernel_rfl) (fun _ _ _ h => h) (Or.inl ⟨by rfl, ?yt_12_13_14_17_18_20⟩) hHeld ?_
        case yt_12_13_14_17_18_20 => (intro W0 hSw; go_simp; try with_reducible rfl)
        try simp only [Act.put, List.setIfInBounds_toArray, List.set_cons_zero, List.set_cons_succ]
        refine wpAnyH_take (i := 21) (oi := ⟨(some 6), _, _, _, _, _⟩) (v := ?vt_12_13_14_17_18_21) rfl (by kernel_rfl) (by kernel_rfl) (by kernel_rfl) (fun _ _ _ h => h) (Or.inl ⟨by rfl, ?yt_12_13_14_17_18_21⟩) hHeld ?_
        case yt_12_13_14_17_18_21 => (intro W0 hSw; go_simp; try with_reducible rfl)
        try simp only [Act.put, List.setIfInBounds_toArray, List.set_cons_zero, List.set_cons_succ]
        refine wpAnyH_done (by kernel_rfl) ?_ _
        go_wp2_with fail
        go_ret
        exact ⟨rfl, hBV _ hHeld.1⟩
      · refine step_one (by rfl) (.tmp 42) rfl A7 cc n7 c7 (by rfl) (((hbC).next g1).next g2) hcl hcc ?_
        intro D17 W3 f17 g3
        refine hK.out _ _ (⟨below_next hHeld.1 hHeld.1.size g3, range_below hHeld.2 (by have := hHeld.1.size; omega) g3⟩) (fun hHeld => ?_)
        clear hK K
        try simp only [Act.put, List.setIfInBounds_toArray, List.set_cons_zero, List.set_cons_succ]
        refine wpAnyH_ready (rs := [14]) (by kernel_rfl) (by simp) ?_
        refine AllReadyH.cons (i := 14) (o := ⟨(some 40), _, _, _, _, _⟩) rfl (fun K hK => ?_) AllReadyH.nil
        refine step_tag (by rfl) (.tmp 35) (.tmp 39) rfl key D13 [b, List.replicate m 0] 2 2 (by rfl) (by rfl) HK.out ((f13).next g3) rfl hbig2 (by decide) ?_
        intro W4 g4
        rw [hT2.out]
        refine hK.out _ _ (⟨below_next hHeld.1 hHeld.1.size g4, range_below hHeld.2 (by have := hHeld.1.size; omega) g4⟩) (fun hHeld => ?_)
        clear hK K
        try simp only [Act.put, List.setIfInBounds_toArray, List.set_cons_zero, List.set_cons_succ]
        refine wpAnyH_ready (rs := [18]) (by kernel_rfl) (by simp) ?_
        refine AllReadyH.cons (i := 18) (o := ⟨(some 44), _, _, _, _, _⟩) rfl (fun K hK => ?_) AllReadyH.nil
        refine step_tag (by rfl) (.tmp 41) (.tmp 43) rfl key D17 [cc] 1 1 (by rfl) (by rfl) HK.out ((f17).next g4) rfl hbig1 (by decide) ?_
        intro W5 g5
        rw [hT1.out]
        refine hK.out _ _ (⟨below_next hHeld.1 hHeld.1.size g5, range_below hHeld.2 (by have := hHeld.1.size; omega) g5⟩) (fun hHeld => ?_)
        clear hK K
        try simp only [Act.put, List.setIfInBounds_toArray, List.set_cons_zero, List.set_cons_succ]
        refine wpAnyH_take (i := 19) (oi := ⟨(some 45), _, _, _, _, _⟩) (v := ?vt_12_13_17_14_18_19) rfl (by kernel_rfl) (by kernel_rfl) (by kernel_rfl) (fun _ _ _ h => h) (Or.inl ⟨by rfl, ?yt_12_13_17_14_18_19⟩) hHeld ?_
        case yt_12_13_17_14_18_19 => (intro W0 hSw; go_simp; try with_reducible rfl)
        try simp only [Act.put, List.setIfInBounds_toArray, List.set_cons_zero, List.set_cons_succ]
        refine wpAnyH_take (i := 20) (oi := ⟨(some 46), _, _, _, _, _⟩) (v := ?vt_12_13_17_14_18_20) rfl (by kernel_rfl) (by kernel_rfl) (by kernel_rfl) (fun _ _ _ h => h) (Or.inl ⟨by rfl, ?yt_12_13_17_14_18_20⟩) hHeld ?_
        case yt_12_13_17_14_18_20 => (intro W0 hSw; go_simp; try with_reducible rfl)
        try simp only [Act.put, List.setIfInBounds_toArray, List.set_cons_zero, List.set_cons_succ]
        refine wpAnyH_take (i := 21) (oi := ⟨(some 6), _, _, _, _, _⟩) (v := ?vt_12_13_17_14_18_21) rfl (by kernel_rfl) (by kernel_rfl) (by kernel_rfl) (fun _ _ _ h => h) (Or.inl ⟨by rfl, ?yt_12_13_17_14_18_21⟩) hHeld ?_
        case yt_12_13_17_14_18_21 => (intro W0 hSw; go_simp; try with_reducible rfl)
        try simp only [Act.put, List.setIfInBounds_toArray, List.set_cons_zero, List.set_cons_succ]
        refine wpAnyH_done (by kernel_rfl) ?_ _
        go_wp2_with fail
        go_ret
        exact ⟨rfl, hBV _ hHeld.1⟩
    · refine step_one (by rfl) (.tmp 42) rfl A7 cc n7 c7 (by rfl) ((hbC).next g1) hcl hcc ?_
      intro D17 W2 f17 g2
      refine hK.out _ _ (⟨below_next hHeld.1 hHeld.1.size g2, range_below hHeld.2 (by have := hHeld.1.size; omega) g2⟩) (fun hHeld => ?_)
      clear hK K
      try simp only [Act.put, List.setIfInBounds_toArray, List.set_cons_zero, List.set_cons_succ]
      refine wpAnyH_ready (rs := [13]) (by kernel_rfl) (by simp) ?_
      refine AllReadyH.cons (i := 13) (o := ⟨(some 39), _, _, _, _, _⟩) rfl (fun K hK => ?_) AllReadyH.nil
      refine step_two (by rfl) (.tmp 36) (.tmp 38) rfl A A12 b (List.replicate m 0) n c m m (by rfl) (by rfl) (((hbB).next g1).next g2) HL.out hc ((f12).next g2) (by simp) (Nat.le_refl _) ?_
      intro D13 W3 f13 g3
      refine hK.out _ _ (⟨below_next hHeld.1 hHeld.1.size g3, range_below hHeld.2 (by have := hHeld.1.size; omega) g3⟩) (fun hHeld => ?_)
      clear hK K
      try simp only [Act.put, List.setIfInBounds_toArray, List.set_cons_zero, List.set_cons_succ]
      refine wpAnyH_ready (rs := [14]) (by kernel_rfl) (by simp) ?_
      refine AllReadyH.cons (i := 14) (o := ⟨(some 40), _, _, _, _, _⟩) rfl (fun K hK => ?_) AllReadyH.nil
      refine step_tag (by rfl) (.tmp 35) (.tmp 39) rfl key D13 [b, List.replicate m 0] 2 2 (by rfl) (by rfl) HK.out (f13) rfl hbig2 (by decide) ?_
      intro W4 g4
      rw [hT2.out]
      refine hK.out _ _ (⟨below_next hHeld.1 hHeld.1.size g4, range_below hHeld.2 (by have := hHeld.1.size; omega) g4⟩) (fun hHeld => ?_)
      clear hK K
      try simp only [Act.put, List.setIfInBounds_toArray, List.set_cons_zero, List.set_cons_succ]
      refine wpAnyH_ready (rs := [18]) (by kernel_rfl) (by simp) ?_
      refine AllReadyH.cons (i := 18) (o := ⟨(some 44), _, _, _, _, _⟩) rfl (fun K hK => ?_) AllReadyH.nil
      refine step_tag (by rfl) (.tmp 41) (.tmp 43) rfl key D17 [cc] 1 1 (by rfl) (by rfl) HK.out (((f17).next g3).next g4) rfl hbig1 (by decide) ?_
      intro W5 g5
      rw [hT1.out]
      refine hK.out _ _ (⟨below_next hHeld.1 hHeld.1.size g5, range_below hHeld.2 (by have := hHeld.1.size; omega) g5⟩) (fun hHeld => ?_)
      clear hK K
      try simp only [Act.put, List.setIfInBounds_toArray, List.set_cons_zero, List.set_cons_succ]
      refine wpAnyH_take (i := 19) (oi := ⟨(some 45), _, _, _, _, _⟩) (v := ?vt_12_17_13_14_18_19) rfl (by kernel_rfl) (by kernel_rfl) (by kernel_rfl) (fun _ _ _ h => h) (Or.inl ⟨by rfl, ?yt_12_17_13_14_18_19⟩) hHeld ?_
      case yt_12_17_13_14_18_19 => (intro W0 hSw; go_simp; try with_reducible rfl)
      try simp only [Act.put, List.setIfInBounds_toArray, List.set_cons_zero, List.set_cons_succ]
      refine wpAnyH_take (i := 20) (oi := ⟨(some 46), _, _, _, _, _⟩) (v := ?vt_12_17_13_14_18_20) rfl (by kernel_rfl) (by kernel_rfl) (by kernel_rfl) (fun _ _ _ h => h) (Or.inl ⟨by rfl, ?yt_12_17_13_14_18_20⟩) hHeld ?_
      case yt_12_17_13_14_18_20 => (intro W0 hSw; go_simp; try with_reducible rfl)
      try simp only [Act.put, List.setIfInBounds_toArray, List.set_cons_zero, List.set_cons_succ]
      refine wpAnyH_take (i := 21) (oi := ⟨(some 6), _, _, _, _, _⟩) (v := ?vt_12_17_13_14_18_21) rfl (by kernel_rfl) (by kernel_rfl) (by kernel_rfl) (fun _ _ _ h => h) (Or.inl ⟨by rfl, ?yt_12_17_13_14_18_21⟩) hHeld ?_
      case yt_12_17_13_14_18_21 => (intro W0 hSw; go_simp; try with_reducible rfl)
      try simp only [Act.put, List.setIfInBounds_toArray, List.set_cons_zero, List.set_cons_succ]
      refine wpAnyH_done (by kernel_rfl) ?_ _
      go_wp2_with fail
      go_ret
      exact ⟨rfl, hBV _ hHeld.1⟩
  · refine step_one (by rfl) (.tmp 42) rfl A7 cc n7 c7 (by rfl) (hbC) hcl hcc ?_
    intro D17 W1 f17 g1
    refine hK.out _ _ (⟨below_next hHeld.1 hHeld.1.size g1, range_below hHeld.2 (by have := hHeld.1.size; omega) g1⟩) (fun hHeld => ?_)
    clear hK K
    try simp only [Act.put, List.setIfInBounds_toArray, List.set_cons_zero, List.set_cons_succ]
    refine wpAnyH_ready (rs := [12]) (by kernel_rfl) (by simp) ?_
    refine AllReadyH.cons (i := 12) (o := ⟨(some 38), _, _, _, _, _⟩) rfl (fun K hK => ?_) AllReadyH.nil
    refine step_make (by rfl) (.tmp 37) (.tmp 37) rfl m (by rfl) (by rfl) (by omega) ?_
    intro A12 W2 f12 g2
    refine hK.out _ _ (⟨below_next hHeld.1 hHeld.1.size g2, range_below hHeld.2 (by have := hHeld.1.size; omega) g2⟩) (fun hHeld => ?_)
    clear hK K
    try simp only [Act.put, List.setIfInBounds_toArray, List.set_cons_zero, List.set_cons_succ]
    refine wpAnyH_ready (rs := [13]) (by kernel_rfl) (by simp) ?_
    refine AllReadyH.cons (i := 13) (o := ⟨(some 39), _, _, _, _, _⟩) rfl (fun K hK => ?_) AllReadyH.nil
    refine step_two (by rfl) (.tmp 36) (.tmp 38) rfl A A12 b (List.replicate m 0) n c m m (by rfl) (by rfl) (((hbB).next g1).next g2) HL.out hc (f12) (by simp) (Nat.le_refl _) ?_
    intro D13 W3 f13 g3
    refine hK.out _ _ (⟨below_next hHeld.1 hHeld.1.size g3, range_below hHeld.2 (by have := hHeld.1.size; omega) g3⟩) (fun hHeld => ?_)
    clear hK K
    try simp only [Act.put, List.setIfInBounds_toArray, List.set_cons_zero, List.set_cons_succ]
    refine wpAnyH_ready (rs := [14]) (by kernel_rfl) (by simp) ?_
    refine AllReadyH.cons (i := 14) (o := ⟨(some 40), _, _, _, _, _⟩) rfl (fun K hK => ?_) AllReadyH.nil
    refine step_tag (by rfl) (.tmp 35) (.tmp 39) rfl key D13 [b, List.replicate m 0] 2 2 (by rfl) (by rfl) HK.out (f13) rfl hbig2 (by decide) ?_
    intro W4 g4
    rw [hT2.out]
    refine hK.out _ _ (⟨below_next hHeld.1 hHeld.1.size g4, range_below hHeld.2 (by have := hHeld.1.size; omega) g4⟩) (fun hHeld => ?_)
    clear hK K
    try simp only [Act.put, List.setIfInBounds_toArray, List.set_cons_zero, List.set_cons_succ]
    refine wpAnyH_ready (rs := [18]) (by kernel_rfl) (by simp) ?_
    refine AllReadyH.cons (i := 18) (o := ⟨(some 44), _, _, _, _, _⟩) rfl (fun K hK => ?_) AllReadyH.nil
    refine step_tag (by rfl) (.tmp 41) (.tmp 43) rfl key D17 [cc] 1 1 (by rfl) (by rfl) HK.out ((((f17).next g2).next g3).next g4) rfl hbig1 (by decide) ?_
    intro W5 g5
    rw [hT1.out]
    refine hK.out _ _ (⟨below_next hHeld.1 hHeld.1.size g5, range_below hHeld.2 (by have := hHeld.1.size; omega) g5⟩) (fun hHeld => ?_)
    clear hK K
    try simp only [Act.put, List.setIfInBounds_toArray, List.set_cons_zero, List.set_cons_succ]
    refine wpAnyH_take (i := 19) (oi := ⟨(some 45), _, _, _, _, _⟩) (v := ?vt_17_12_13_14_18_19) rfl (by kernel_rfl) (by kernel_rfl) (by kernel_rfl) (fun _ _ _ h => h) (Or.inl ⟨by rfl, ?yt_17_12_13_14_18_19⟩) hHeld ?_
    case yt_17_12_13_14_18_19 => (intro W0 hSw; go_simp; try with_reducible rfl)
    try simp only [Act.put, List.setIfInBounds_toArray, List.set_cons_zero, List.set_cons_succ]
    refine wpAnyH_take (i := 20) (oi := ⟨(some 46), _, _, _, _, _⟩) (v := ?vt_17_12_13_14_18_20) rfl (by kernel_rfl) (by kernel_rfl) (by kernel_rfl) (fun _ _ _ h => h) (Or.inl ⟨by rfl, ?yt_17_12_13_14_18_20⟩) hHeld ?_
    case yt_17_12_13_14_18_20 => (intro W0 hSw; go_simp; try with_reducible rfl)
    try simp only [Act.put, List.setIfInBounds_toArray, List.set_cons_zero, List.set_cons_succ]
    refine wpAnyH_take (i := 21) (oi := ⟨(some 6), _, _, _, _, _⟩) (v := ?vt_17_12_13_14_18_21) rfl (by kernel_rfl) (by kernel_rfl) (by kernel_rfl) (fun _ _ _ h => h) (Or.inl ⟨by rfl, ?yt_17_12_13_14_18_21⟩) hHeld ?_
    case yt_17_12_13_14_18_21 => (intro W0 hSw; go_simp; try with_reducible rfl)
    try simp only [Act.put, List.setIfInBounds_toArray, List.set_cons_zero, List.set_cons_succ]
    refine wpAnyH_done (by kernel_rfl) ?_ _
    go_wp2_with fail
    go_ret
    exact ⟨rfl, hBV _ hHeld.1⟩
end Go.Proofs.Ytioodeiloepaaaa
