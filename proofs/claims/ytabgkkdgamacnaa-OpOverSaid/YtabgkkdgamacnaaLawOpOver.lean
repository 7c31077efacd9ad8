/-
  OpOver: the law's Go text returns true, whatever the edits. Conditions: none beyond the row's own.
-/
import Derived.Test.YtabgkkdgamacnaaOpW
namespace Go.Proofs.Ytabgkkdgamacnaa
open Go.RowKit

set_option maxRecDepth 100000 in
set_option maxHeartbeats 8000000 in
theorem walk_OpOver (w : World) (a : Ed) (ha : a.seen.length = 8) (b : Ed) (hb : b.seen.length = 8) (c : Ed) (hc : c.seen.length = 8) :
    Calls Try.prog 6 #[.agg a.cells.toArray, .agg b.cells.toArray, .agg c.cells.toArray] w fun e w' => e = .returned (.bool true) ∧ Below w.heap.size w w' := by
  have hzf := zero_ed
  obtain ⟨W, hW, hgA, hgB, hgC, hbW, hsW⟩ := three_new w a.cells.toArray b.cells.toArray c.cells.toArray 28 28 28
  have HW := Lib.hid hW
  have HA := Lib.hid ha
  have HB := Lib.hid hb
  have HC := Lib.hid hc
  clear hW hsW ha hb hc
  go_enter Try.func6, Try.ntmps6
  go_upto_region 1 with fail
  rw [HW.out]
  clear HW
  go_wp2_with fail
  refine (awake16_any W).mono ?_
  rintro e V0 ⟨rfl, hb⟩
  have gA0 := row_next2 hgA hb
  have gB0 := row_next2 hgB hb
  have gC0 := row_next2 hgC hb
  have hb0 := below_next hbW hbW.size hb
  clear hb hbW hgA hgB hgC
  have d1 := fun w => olong_any w a HA.out
  have d2 := fun w => olong_any w b HB.out
  have d3 := fun w => olong_any w c HC.out
  have d4 := fun w => ogood_any w a HA.out
  have d5 := fun w => oover_any w a a HA.out HA.out
  have d6 := fun w => oless_any w a a HA.out HA.out
  have d7 := fun w => oless_any w a b HA.out HB.out
  have d8 := fun w => oless_any w b a HB.out HA.out
  have d9 := fun w => oless_any w b c HB.out HC.out
  have d10 := fun w => oless_any w a c HA.out HC.out
  simp only [less_own] at d6
  obtain ⟨la, hla⟩ : ∃ o, o = elong a := ⟨_, rfl⟩
  have Hla := vlt hla
  simp only [← hla] at d1
  clear hla
  obtain ⟨lb, hlb⟩ : ∃ o, o = elong b := ⟨_, rfl⟩
  have Hlb := vlt hlb
  simp only [← hlb] at d2
  clear hlb
  obtain ⟨lc, hlc⟩ : ∃ o, o = elong c := ⟨_, rfl⟩
  have Hlc := vlt hlc
  simp only [← hlc] at d3
  clear hlc
  obtain ⟨ga, hga⟩ : ∃ o, o = a.good := ⟨_, rfl⟩
  have Hga := vlt hga
  simp only [← hga] at d4
  clear hga
  obtain ⟨p, hp⟩ : ∃ o, o = eless a b := ⟨_, rfl⟩
  have Hp := vlt hp
  simp only [← hp] at d7
  clear hp
  obtain ⟨q, hq⟩ : ∃ o, o = eless b a := ⟨_, rfl⟩
  have Hq := vlt hq
  simp only [← hq] at d8
  clear hq
  obtain ⟨r, hr⟩ : ∃ o, o = eless b c := ⟨_, rfl⟩
  have Hr := vlt hr
  simp only [← hr] at d9
  clear hr
  obtain ⟨s, hs⟩ : ∃ o, o = eless a c := ⟨_, rfl⟩
  have Hs := vlt hs
  simp only [← hs] at d10
  clear hs
  go_upto_region 3 with fail
  cases la
  case true =>
    refine plain_start (S := fun W' => Below V0.heap.size V0 W') (by kernel_rfl) (Below.refl _ _) (fun hHeld => ?_)
    refine wpAnyH_take (i := 0) (oi := ⟨(some 9), _, _, _, _, _⟩) (v := .agg a.cells.toArray) rfl (by kernel_rfl) (by kernel_rfl) (by kernel_rfl) (fun _ _ _ h => h) (yieldsIf_load_mid (by rfl) _ _ rfl (w.heap.size) 0 rfl a.cells _ (fun W' hW' => ed_allR (row_next2 gA0 hW')) (Try.underlying28) rfl (by rw [Ed.cells_len HA.out]; kernel_rfl)) hHeld ?_
    try simp only [pu]
    refine wpAnyH_ready (rs := [1]) (by kernel_rfl) (by simp) ?_
    refine AllReadyH.cons (i := 1) (o := ⟨(some 10), _, _, _, _, _⟩) rfl (fun K hK => ?_) AllReadyH.nil
    go_simp
    refine (d1 _).mono ?_
    rintro e r3W1 ⟨rfl, r3h1⟩
    refine hK.out _ _ (below_next hHeld hHeld.size r3h1) (fun hHeld => ?_)
    clear hK K r3h1
    try simp only [pu]
    refine wpAnyH_take (i := 2) (oi := ⟨(some 11), _, _, _, _, _⟩) (v := .bool true) rfl (by kernel_rfl) (by kernel_rfl) (by kernel_rfl) (fun _ _ _ h => h) (Or.inl ⟨by rfl, ?yr3_2⟩) hHeld ?_
    case yr3_2 => (intro W0 hSw; go_simp; try with_reducible rfl)
    try simp only [pu]
    refine wpAnyH_take (i := 3) (oi := ⟨(some 12), _, _, _, _, _⟩) (v := undef) rfl (by kernel_rfl) (by kernel_rfl) (by kernel_rfl) (fun _ _ _ h => h) (Or.inr ⟨by rfl, rfl⟩) hHeld ?_
    try simp only [pu]
    refine wpAnyH_take (i := 4) (oi := ⟨(some 13), _, _, _, _, _⟩) (v := undef) rfl (by kernel_rfl) (by kernel_rfl) (by kernel_rfl) (fun _ _ _ h => h) (Or.inr ⟨by rfl, rfl⟩) hHeld ?_
    try simp only [pu]
    refine wpAnyH_take (i := 5) (oi := ⟨(some 14), _, _, _, _, _⟩) (v := .bool true) rfl (by kernel_rfl) (by kernel_rfl) (by kernel_rfl) (fun _ _ _ h => h) (Or.inl ⟨by rfl, ?yr3_5⟩) hHeld ?_
    case yr3_5 => (intro W0 hSw; go_simp; try with_reducible rfl)
    try simp only [pu]
    refine wpAnyH_take (i := 6) (oi := ⟨(some 15), _, _, _, _, _⟩) (v := .bool true) rfl (by kernel_rfl) (by kernel_rfl) (by kernel_rfl) (fun _ _ _ h => h) (Or.inl ⟨by rfl, ?yr3_6⟩) hHeld ?_
    case yr3_6 => (intro W0 hSw; go_simp; try with_reducible rfl)
    try simp only [pu]
    refine wpAnyH_take (i := 7) (oi := ⟨(some 16), _, _, _, _, _⟩) (v := undef) rfl (by kernel_rfl) (by kernel_rfl) (by kernel_rfl) (fun _ _ _ h => h) (Or.inr ⟨by rfl, rfl⟩) hHeld ?_
    try simp only [pu]
    refine wpAnyH_take (i := 8) (oi := ⟨(some 17), _, _, _, _, _⟩) (v := undef) rfl (by kernel_rfl) (by kernel_rfl) (by kernel_rfl) (fun _ _ _ h => h) (Or.inr ⟨by rfl, rfl⟩) hHeld ?_
    try simp only [pu]
    refine wpAnyH_take (i := 9) (oi := ⟨(some 18), _, _, _, _, _⟩) (v := .bool true) rfl (by kernel_rfl) (by kernel_rfl) (by kernel_rfl) (fun _ _ _ h => h) (Or.inl ⟨by rfl, ?yr3_9⟩) hHeld ?_
    case yr3_9 => (intro W0 hSw; go_simp; try with_reducible rfl)
    try simp only [pu]
    refine wpAnyH_take (i := 10) (oi := ⟨(some 19), _, _, _, _, _⟩) (v := .bool true) rfl (by kernel_rfl) (by kernel_rfl) (by kernel_rfl) (fun _ _ _ h => h) (Or.inl ⟨by rfl, ?yr3_10⟩) hHeld ?_
    case yr3_10 => (intro W0 hSw; go_simp; try with_reducible rfl)
    try simp only [pu]
    refine wpAnyH_take (i := 11) (oi := ⟨(some 20), _, _, _, _, _⟩) (v := undef) rfl (by kernel_rfl) (by kernel_rfl) (by kernel_rfl) (fun _ _ _ h => h) (Or.inr ⟨by rfl, rfl⟩) hHeld ?_
    try simp only [pu]
    refine wpAnyH_take (i := 12) (oi := ⟨(some 21), _, _, _, _, _⟩) (v := undef) rfl (by kernel_rfl) (by kernel_rfl) (by kernel_rfl) (fun _ _ _ h => h) (Or.inr ⟨by rfl, rfl⟩) hHeld ?_
    try simp only [pu]
    refine wpAnyH_take (i := 13) (oi := ⟨(some 22), _, _, _, _, _⟩) (v := undef) rfl (by kernel_rfl) (by kernel_rfl) (by kernel_rfl) (fun _ _ _ h => h) (Or.inr ⟨by rfl, rfl⟩) hHeld ?_
    try simp only [pu]
    refine wpAnyH_take (i := 14) (oi := ⟨(some 23), _, _, _, _, _⟩) (v := .bool true) rfl (by kernel_rfl) (by kernel_rfl) (by kernel_rfl) (fun _ _ _ h => h) (Or.inl ⟨by rfl, ?yr3_14⟩) hHeld ?_
    case yr3_14 => (intro W0 hSw; go_simp; try with_reducible rfl)
    try simp only [pu]
    refine wpAnyH_done (by kernel_rfl) ?_ _
    go_wp2
    go_ret
    exact ⟨rfl, below_next hb0 hb0.size hHeld⟩
  cases lb
  case true =>
    refine plain_start (S := fun W' => Below V0.heap.size V0 W') (by kernel_rfl) (Below.refl _ _) (fun hHeld => ?_)
    refine wpAnyH_take (i := 0) (oi := ⟨(some 9), _, _, _, _, _⟩) (v := .agg a.cells.toArray) rfl (by kernel_rfl) (by kernel_rfl) (by kernel_rfl) (fun _ _ _ h => h) (yieldsIf_load_mid (by rfl) _ _ rfl (w.heap.size) 0 rfl a.cells _ (fun W' hW' => ed_allR (row_next2 gA0 hW')) (Try.underlying28) rfl (by rw [Ed.cells_len HA.out]; kernel_rfl)) hHeld ?_
    try simp only [pu]
    refine wpAnyH_ready (rs := [1]) (by kernel_rfl) (by simp) ?_
    refine AllReadyH.cons (i := 1) (o := ⟨(some 10), _, _, _, _, _⟩) rfl (fun K hK => ?_) AllReadyH.nil
    go_simp
    refine (d1 _).mono ?_
    rintro e r3W1 ⟨rfl, r3h1⟩
    refine hK.out _ _ (below_next hHeld hHeld.size r3h1) (fun hHeld => ?_)
    clear hK K r3h1
    try simp only [pu]
    refine wpAnyH_take (i := 2) (oi := ⟨(some 11), _, _, _, _, _⟩) (v := .bool false) rfl (by kernel_rfl) (by kernel_rfl) (by kernel_rfl) (fun _ _ _ h => h) (Or.inl ⟨by rfl, ?yr3_2⟩) hHeld ?_
    case yr3_2 => (intro W0 hSw; go_simp; try with_reducible rfl)
    try simp only [pu]
    refine wpAnyH_take (i := 3) (oi := ⟨(some 12), _, _, _, _, _⟩) (v := .agg b.cells.toArray) rfl (by kernel_rfl) (by kernel_rfl) (by kernel_rfl) (fun _ _ _ h => h) (yieldsIf_load_mid (by rfl) _ _ rfl ((w.heap.size + 1)) 0 rfl b.cells _ (fun W' hW' => ed_allR (row_next2 gB0 hW')) (Try.underlying28) rfl (by rw [Ed.cells_len HB.out]; kernel_rfl)) hHeld ?_
    try simp only [pu]
    refine wpAnyH_ready (rs := [4]) (by kernel_rfl) (by simp) ?_
    refine AllReadyH.cons (i := 4) (o := ⟨(some 13), _, _, _, _, _⟩) rfl (fun K hK => ?_) AllReadyH.nil
    go_simp
    refine (d2 _).mono ?_
    rintro e r3W2 ⟨rfl, r3h2⟩
    refine hK.out _ _ (below_next hHeld hHeld.size r3h2) (fun hHeld => ?_)
    clear hK K r3h2
    try simp only [pu]
    refine wpAnyH_take (i := 5) (oi := ⟨(some 14), _, _, _, _, _⟩) (v := .bool true) rfl (by kernel_rfl) (by kernel_rfl) (by kernel_rfl) (fun _ _ _ h => h) (Or.inl ⟨by rfl, ?yr3_5⟩) hHeld ?_
    case yr3_5 => (intro W0 hSw; go_simp; try with_reducible rfl)
    try simp only [pu]
    refine wpAnyH_take (i := 6) (oi := ⟨(some 15), _, _, _, _, _⟩) (v := .bool true) rfl (by kernel_rfl) (by kernel_rfl) (by kernel_rfl) (fun _ _ _ h => h) (Or.inl ⟨by rfl, ?yr3_6⟩) hHeld ?_
    case yr3_6 => (intro W0 hSw; go_simp; try with_reducible rfl)
    try simp only [pu]
    refine wpAnyH_take (i := 7) (oi := ⟨(some 16), _, _, _, _, _⟩) (v := undef) rfl (by kernel_rfl) (by kernel_rfl) (by kernel_rfl) (fun _ _ _ h => h) (Or.inr ⟨by rfl, rfl⟩) hHeld ?_
    try simp only [pu]
    refine wpAnyH_take (i := 8) (oi := ⟨(some 17), _, _, _, _, _⟩) (v := undef) rfl (by kernel_rfl) (by kernel_rfl) (by kernel_rfl) (fun _ _ _ h => h) (Or.inr ⟨by rfl, rfl⟩) hHeld ?_
    try simp only [pu]
    refine wpAnyH_take (i := 9) (oi := ⟨(some 18), _, _, _, _, _⟩) (v := .bool true) rfl (by kernel_rfl) (by kernel_rfl) (by kernel_rfl) (fun _ _ _ h => h) (Or.inl ⟨by rfl, ?yr3_9⟩) hHeld ?_
    case yr3_9 => (intro W0 hSw; go_simp; try with_reducible rfl)
    try simp only [pu]
    refine wpAnyH_take (i := 10) (oi := ⟨(some 19), _, _, _, _, _⟩) (v := .bool true) rfl (by kernel_rfl) (by kernel_rfl) (by kernel_rfl) (fun _ _ _ h => h) (Or.inl ⟨by rfl, ?yr3_10⟩) hHeld ?_
    case yr3_10 => (intro W0 hSw; go_simp; try with_reducible rfl)
    try simp only [pu]
    refine wpAnyH_take (i := 11) (oi := ⟨(some 20), _, _, _, _, _⟩) (v := undef) rfl (by kernel_rfl) (by kernel_rfl) (by kernel_rfl) (fun _ _ _ h => h) (Or.inr ⟨by rfl, rfl⟩) hHeld ?_
    try simp only [pu]
    refine wpAnyH_take (i := 12) (oi := ⟨(some 21), _, _, _, _, _⟩) (v := undef) rfl (by kernel_rfl) (by kernel_rfl) (by kernel_rfl) (fun _ _ _ h => h) (Or.inr ⟨by rfl, rfl⟩) hHeld ?_
    try simp only [pu]
    refine wpAnyH_take (i := 13) (oi := ⟨(some 22), _, _, _, _, _⟩) (v := undef) rfl (by kernel_rfl) (by kernel_rfl) (by kernel_rfl) (fun _ _ _ h => h) (Or.inr ⟨by rfl, rfl⟩) hHeld ?_
    try simp only [pu]
    refine wpAnyH_take (i := 14) (oi := ⟨(some 23), _, _, _, _, _⟩) (v := .bool true) rfl (by kernel_rfl) (by kernel_rfl) (by kernel_rfl) (fun _ _ _ h => h) (Or.inl ⟨by rfl, ?yr3_14⟩) hHeld ?_
    case yr3_14 => (intro W0 hSw; go_simp; try with_reducible rfl)
    try simp only [pu]
    refine wpAnyH_done (by kernel_rfl) ?_ _
    go_wp2
    go_ret
    exact ⟨rfl, below_next hb0 hb0.size hHeld⟩
  cases lc
  case true =>
    refine plain_start (S := fun W' => Below V0.heap.size V0 W') (by kernel_rfl) (Below.refl _ _) (fun hHeld => ?_)
    refine wpAnyH_take (i := 0) (oi := ⟨(some 9), _, _, _, _, _⟩) (v := .agg a.cells.toArray) rfl (by kernel_rfl) (by kernel_rfl) (by kernel_rfl) (fun _ _ _ h => h) (yieldsIf_load_mid (by rfl) _ _ rfl (w.heap.size) 0 rfl a.cells _ (fun W' hW' => ed_allR (row_next2 gA0 hW')) (Try.underlying28) rfl (by rw [Ed.cells_len HA.out]; kernel_rfl)) hHeld ?_
    try simp only [pu]
    refine wpAnyH_ready (rs := [1]) (by kernel_rfl) (by simp) ?_
    refine AllReadyH.cons (i := 1) (o := ⟨(some 10), _, _, _, _, _⟩) rfl (fun K hK => ?_) AllReadyH.nil
    go_simp
    refine (d1 _).mono ?_
    rintro e r3W1 ⟨rfl, r3h1⟩
    refine hK.out _ _ (below_next hHeld hHeld.size r3h1) (fun hHeld => ?_)
    clear hK K r3h1
    try simp only [pu]
    refine wpAnyH_take (i := 2) (oi := ⟨(some 11), _, _, _, _, _⟩) (v := .bool false) rfl (by kernel_rfl) (by kernel_rfl) (by kernel_rfl) (fun _ _ _ h => h) (Or.inl ⟨by rfl, ?yr3_2⟩) hHeld ?_
    case yr3_2 => (intro W0 hSw; go_simp; try with_reducible rfl)
    try simp only [pu]
    refine wpAnyH_take (i := 3) (oi := ⟨(some 12), _, _, _, _, _⟩) (v := .agg b.cells.toArray) rfl (by kernel_rfl) (by kernel_rfl) (by kernel_rfl) (fun _ _ _ h => h) (yieldsIf_load_mid (by rfl) _ _ rfl ((w.heap.size + 1)) 0 rfl b.cells _ (fun W' hW' => ed_allR (row_next2 gB0 hW')) (Try.underlying28) rfl (by rw [Ed.cells_len HB.out]; kernel_rfl)) hHeld ?_
    try simp only [pu]
    refine wpAnyH_ready (rs := [4]) (by kernel_rfl) (by simp) ?_
    refine AllReadyH.cons (i := 4) (o := ⟨(some 13), _, _, _, _, _⟩) rfl (fun K hK => ?_) AllReadyH.nil
    go_simp
    refine (d2 _).mono ?_
    rintro e r3W2 ⟨rfl, r3h2⟩
    refine hK.out _ _ (below_next hHeld hHeld.size r3h2) (fun hHeld => ?_)
    clear hK K r3h2
    try simp only [pu]
    refine wpAnyH_take (i := 5) (oi := ⟨(some 14), _, _, _, _, _⟩) (v := .bool false) rfl (by kernel_rfl) (by kernel_rfl) (by kernel_rfl) (fun _ _ _ h => h) (Or.inl ⟨by rfl, ?yr3_5⟩) hHeld ?_
    case yr3_5 => (intro W0 hSw; go_simp; try with_reducible rfl)
    try simp only [pu]
    refine wpAnyH_take (i := 6) (oi := ⟨(some 15), _, _, _, _, _⟩) (v := .bool false) rfl (by kernel_rfl) (by kernel_rfl) (by kernel_rfl) (fun _ _ _ h => h) (Or.inl ⟨by rfl, ?yr3_6⟩) hHeld ?_
    case yr3_6 => (intro W0 hSw; go_simp; try with_reducible rfl)
    try simp only [pu]
    refine wpAnyH_take (i := 7) (oi := ⟨(some 16), _, _, _, _, _⟩) (v := .agg c.cells.toArray) rfl (by kernel_rfl) (by kernel_rfl) (by kernel_rfl) (fun _ _ _ h => h) (yieldsIf_load_mid (by rfl) _ _ rfl ((w.heap.size + 2)) 0 rfl c.cells _ (fun W' hW' => ed_allR (row_next2 gC0 hW')) (Try.underlying28) rfl (by rw [Ed.cells_len HC.out]; kernel_rfl)) hHeld ?_
    try simp only [pu]
    refine wpAnyH_ready (rs := [8]) (by kernel_rfl) (by simp) ?_
    refine AllReadyH.cons (i := 8) (o := ⟨(some 17), _, _, _, _, _⟩) rfl (fun K hK => ?_) AllReadyH.nil
    go_simp
    refine (d3 _).mono ?_
    rintro e r3W3 ⟨rfl, r3h3⟩
    refine hK.out _ _ (below_next hHeld hHeld.size r3h3) (fun hHeld => ?_)
    clear hK K r3h3
    try simp only [pu]
    refine wpAnyH_take (i := 9) (oi := ⟨(some 18), _, _, _, _, _⟩) (v := .bool true) rfl (by kernel_rfl) (by kernel_rfl) (by kernel_rfl) (fun _ _ _ h => h) (Or.inl ⟨by rfl, ?yr3_9⟩) hHeld ?_
    case yr3_9 => (intro W0 hSw; go_simp; try with_reducible rfl)
    try simp only [pu]
    refine wpAnyH_take (i := 10) (oi := ⟨(some 19), _, _, _, _, _⟩) (v := .bool true) rfl (by kernel_rfl) (by kernel_rfl) (by kernel_rfl) (fun _ _ _ h => h) (Or.inl ⟨by rfl, ?yr3_10⟩) hHeld ?_
    case yr3_10 => (intro W0 hSw; go_simp; try with_reducible rfl)
    try simp only [pu]
    refine wpAnyH_take (i := 11) (oi := ⟨(some 20), _, _, _, _, _⟩) (v := undef) rfl (by kernel_rfl) (by kernel_rfl) (by kernel_rfl) (fun _ _ _ h => h) (Or.inr ⟨by rfl, rfl⟩) hHeld ?_
    try simp only [pu]
    refine wpAnyH_take (i := 12) (oi := ⟨(some 21), _, _, _, _, _⟩) (v := undef) rfl (by kernel_rfl) (by kernel_rfl) (by kernel_rfl) (fun _ _ _ h => h) (Or.inr ⟨by rfl, rfl⟩) hHeld ?_
    try simp only [pu]
    refine wpAnyH_take (i := 13) (oi := ⟨(some 22), _, _, _, _, _⟩) (v := undef) rfl (by kernel_rfl) (by kernel_rfl) (by kernel_rfl) (fun _ _ _ h => h) (Or.inr ⟨by rfl, rfl⟩) hHeld ?_
    try simp only [pu]
    refine wpAnyH_take (i := 14) (oi := ⟨(some 23), _, _, _, _, _⟩) (v := .bool true) rfl (by kernel_rfl) (by kernel_rfl) (by kernel_rfl) (fun _ _ _ h => h) (Or.inl ⟨by rfl, ?yr3_14⟩) hHeld ?_
    case yr3_14 => (intro W0 hSw; go_simp; try with_reducible rfl)
    try simp only [pu]
    refine wpAnyH_done (by kernel_rfl) ?_ _
    go_wp2
    go_ret
    exact ⟨rfl, below_next hb0 hb0.size hHeld⟩
  cases ga
  case false =>
    refine plain_start (S := fun W' => Below V0.heap.size V0 W') (by kernel_rfl) (Below.refl _ _) (fun hHeld => ?_)
    refine wpAnyH_take (i := 0) (oi := ⟨(some 9), _, _, _, _, _⟩) (v := .agg a.cells.toArray) rfl (by kernel_rfl) (by kernel_rfl) (by kernel_rfl) (fun _ _ _ h => h) (yieldsIf_load_mid (by rfl) _ _ rfl (w.heap.size) 0 rfl a.cells _ (fun W' hW' => ed_allR (row_next2 gA0 hW')) (Try.underlying28) rfl (by rw [Ed.cells_len HA.out]; kernel_rfl)) hHeld ?_
    try simp only [pu]
    refine wpAnyH_ready (rs := [1]) (by kernel_rfl) (by simp) ?_
    refine AllReadyH.cons (i := 1) (o := ⟨(some 10), _, _, _, _, _⟩) rfl (fun K hK => ?_) AllReadyH.nil
    go_simp
    refine (d1 _).mono ?_
    rintro e r3W1 ⟨rfl, r3h1⟩
    refine hK.out _ _ (below_next hHeld hHeld.size r3h1) (fun hHeld => ?_)
    clear hK K r3h1
    try simp only [pu]
    refine wpAnyH_take (i := 2) (oi := ⟨(some 11), _, _, _, _, _⟩) (v := .bool false) rfl (by kernel_rfl) (by kernel_rfl) (by kernel_rfl) (fun _ _ _ h => h) (Or.inl ⟨by rfl, ?yr3_2⟩) hHeld ?_
    case yr3_2 => (intro W0 hSw; go_simp; try with_reducible rfl)
    try simp only [pu]
    refine wpAnyH_take (i := 3) (oi := ⟨(some 12), _, _, _, _, _⟩) (v := .agg b.cells.toArray) rfl (by kernel_rfl) (by kernel_rfl) (by kernel_rfl) (fun _ _ _ h => h) (yieldsIf_load_mid (by rfl) _ _ rfl ((w.heap.size + 1)) 0 rfl b.cells _ (fun W' hW' => ed_allR (row_next2 gB0 hW')) (Try.underlying28) rfl (by rw [Ed.cells_len HB.out]; kernel_rfl)) hHeld ?_
    try simp only [pu]
    refine wpAnyH_ready (rs := [4]) (by kernel_rfl) (by simp) ?_
    refine AllReadyH.cons (i := 4) (o := ⟨(some 13), _, _, _, _, _⟩) rfl (fun K hK => ?_) AllReadyH.nil
    go_simp
    refine (d2 _).mono ?_
    rintro e r3W2 ⟨rfl, r3h2⟩
    refine hK.out _ _ (below_next hHeld hHeld.size r3h2) (fun hHeld => ?_)
    clear hK K r3h2
    try simp only [pu]
    refine wpAnyH_take (i := 5) (oi := ⟨(some 14), _, _, _, _, _⟩) (v := .bool false) rfl (by kernel_rfl) (by kernel_rfl) (by kernel_rfl) (fun _ _ _ h => h) (Or.inl ⟨by rfl, ?yr3_5⟩) hHeld ?_
    case yr3_5 => (intro W0 hSw; go_simp; try with_reducible rfl)
    try simp only [pu]
    refine wpAnyH_take (i := 6) (oi := ⟨(some 15), _, _, _, _, _⟩) (v := .bool false) rfl (by kernel_rfl) (by kernel_rfl) (by kernel_rfl) (fun _ _ _ h => h) (Or.inl ⟨by rfl, ?yr3_6⟩) hHeld ?_
    case yr3_6 => (intro W0 hSw; go_simp; try with_reducible rfl)
    try simp only [pu]
    refine wpAnyH_take (i := 7) (oi := ⟨(some 16), _, _, _, _, _⟩) (v := .agg c.cells.toArray) rfl (by kernel_rfl) (by kernel_rfl) (by kernel_rfl) (fun _ _ _ h => h) (yieldsIf_load_mid (by rfl) _ _ rfl ((w.heap.size + 2)) 0 rfl c.cells _ (fun W' hW' => ed_allR (row_next2 gC0 hW')) (Try.underlying28) rfl (by rw [Ed.cells_len HC.out]; kernel_rfl)) hHeld ?_
    try simp only [pu]
    refine wpAnyH_ready (rs := [8]) (by kernel_rfl) (by simp) ?_
    refine AllReadyH.cons (i := 8) (o := ⟨(some 17), _, _, _, _, _⟩) rfl (fun K hK => ?_) AllReadyH.nil
    go_simp
    refine (d3 _).mono ?_
    rintro e r3W3 ⟨rfl, r3h3⟩
    refine hK.out _ _ (below_next hHeld hHeld.size r3h3) (fun hHeld => ?_)
    clear hK K r3h3
    try simp only [pu]
    refine wpAnyH_take (i := 9) (oi := ⟨(some 18), _, _, _, _, _⟩) (v := .bool false) rfl (by kernel_rfl) (by kernel_rfl) (by kernel_rfl) (fun _ _ _ h => h) (Or.inl ⟨by rfl, ?yr3_9⟩) hHeld ?_
    case yr3_9 => (intro W0 hSw; go_simp; try with_reducible rfl)
    try simp only [pu]
    refine wpAnyH_take (i := 10) (oi := ⟨(some 19), _, _, _, _, _⟩) (v := .bool false) rfl (by kernel_rfl) (by kernel_rfl) (by kernel_rfl) (fun _ _ _ h => h) (Or.inl ⟨by rfl, ?yr3_10⟩) hHeld ?_
    case yr3_10 => (intro W0 hSw; go_simp; try with_reducible rfl)
    try simp only [pu]
    refine wpAnyH_take (i := 11) (oi := ⟨(some 20), _, _, _, _, _⟩) (v := .agg a.cells.toArray) rfl (by kernel_rfl) (by kernel_rfl) (by kernel_rfl) (fun _ _ _ h => h) (yieldsIf_load_mid (by rfl) _ _ rfl (w.heap.size) 0 rfl a.cells _ (fun W' hW' => ed_allR (row_next2 gA0 hW')) (Try.underlying28) rfl (by rw [Ed.cells_len HA.out]; kernel_rfl)) hHeld ?_
    try simp only [pu]
    refine wpAnyH_ready (rs := [12]) (by kernel_rfl) (by simp) ?_
    refine AllReadyH.cons (i := 12) (o := ⟨(some 21), _, _, _, _, _⟩) rfl (fun K hK => ?_) AllReadyH.nil
    go_simp
    refine (d4 _).mono ?_
    rintro e r3W4 ⟨rfl, r3h4⟩
    refine hK.out _ _ (below_next hHeld hHeld.size r3h4) (fun hHeld => ?_)
    clear hK K r3h4
    try simp only [pu]
    refine wpAnyH_take (i := 13) (oi := ⟨(some 22), _, _, _, _, _⟩) (v := .bool true) rfl (by kernel_rfl) (by kernel_rfl) (by kernel_rfl) (fun _ _ _ h => h) (Or.inl ⟨by rfl, ?yr3_13⟩) hHeld ?_
    case yr3_13 => (intro W0 hSw; go_simp; try with_reducible rfl)
    try simp only [pu]
    refine wpAnyH_take (i := 14) (oi := ⟨(some 23), _, _, _, _, _⟩) (v := .bool true) rfl (by kernel_rfl) (by kernel_rfl) (by kernel_rfl) (fun _ _ _ h => h) (Or.inl ⟨by rfl, ?yr3_14⟩) hHeld ?_
    case yr3_14 => (intro W0 hSw; go_simp; try with_reducible rfl)
    try simp only [pu]
    refine wpAnyH_done (by kernel_rfl) ?_ _
    go_wp2
    go_ret
    exact ⟨rfl, below_next hb0 hb0.size hHeld⟩
  refine plain_start (S := fun W' => Below V0.heap.size V0 W') (by kernel_rfl) (Below.refl _ _) (fun hHeld => ?_)
  refine wpAnyH_take (i := 0) (oi := ⟨(some 9), _, _, _, _, _⟩) (v := .agg a.cells.toArray) rfl (by kernel_rfl) (by kernel_rfl) (by kernel_rfl) (fun _ _ _ h => h) (yieldsIf_load_mid (by rfl) _ _ rfl (w.heap.size) 0 rfl a.cells _ (fun W' hW' => ed_allR (row_next2 gA0 hW')) (Try.underlying28) rfl (by rw [Ed.cells_len HA.out]; kernel_rfl)) hHeld ?_
  try simp only [pu]
  refine wpAnyH_ready (rs := [1]) (by kernel_rfl) (by simp) ?_
  refine AllReadyH.cons (i := 1) (o := ⟨(some 10), _, _, _, _, _⟩) rfl (fun K hK => ?_) AllReadyH.nil
  go_simp
  refine (d1 _).mono ?_
  rintro e r3W1 ⟨rfl, r3h1⟩
  refine hK.out _ _ (below_next hHeld hHeld.size r3h1) (fun hHeld => ?_)
  clear hK K r3h1
  try simp only [pu]
  refine wpAnyH_take (i := 2) (oi := ⟨(some 11), _, _, _, _, _⟩) (v := .bool false) rfl (by kernel_rfl) (by kernel_rfl) (by kernel_rfl) (fun _ _ _ h => h) (Or.inl ⟨by rfl, ?yr3_2⟩) hHeld ?_
  case yr3_2 => (intro W0 hSw; go_simp; try with_reducible rfl)
  try simp only [pu]
  refine wpAnyH_take (i := 3) (oi := ⟨(some 12), _, _, _, _, _⟩) (v := .agg b.cells.toArray) rfl (by kernel_rfl) (by kernel_rfl) (by kernel_rfl) (fun _ _ _ h => h) (yieldsIf_load_mid (by rfl) _ _ rfl ((w.heap.size + 1)) 0 rfl b.cells _ (fun W' hW' => ed_allR (row_next2 gB0 hW')) (Try.underlying28) rfl (by rw [Ed.cells_len HB.out]; kernel_rfl)) hHeld ?_
  try simp only [pu]
  refine wpAnyH_ready (rs := [4]) (by kernel_rfl) (by simp) ?_
  refine AllReadyH.cons (i := 4) (o := ⟨(some 13), _, _, _, _, _⟩) rfl (fun K hK => ?_) AllReadyH.nil
  go_simp
  refine (d2 _).mono ?_
  rintro e r3W2 ⟨rfl, r3h2⟩
  refine hK.out _ _ (below_next hHeld hHeld.size r3h2) (fun hHeld => ?_)
  clear hK K r3h2
  try simp only [pu]
  refine wpAnyH_take (i := 5) (oi := ⟨(some 14), _, _, _, _, _⟩) (v := .bool false) rfl (by kernel_rfl) (by kernel_rfl) (by kernel_rfl) (fun _ _ _ h => h) (Or.inl ⟨by rfl, ?yr3_5⟩) hHeld ?_
  case yr3_5 => (intro W0 hSw; go_simp; try with_reducible rfl)
  try simp only [pu]
  refine wpAnyH_take (i := 6) (oi := ⟨(some 15), _, _, _, _, _⟩) (v := .bool false) rfl (by kernel_rfl) (by kernel_rfl) (by kernel_rfl) (fun _ _ _ h => h) (Or.inl ⟨by rfl, ?yr3_6⟩) hHeld ?_
  case yr3_6 => (intro W0 hSw; go_simp; try with_reducible rfl)
  try simp only [pu]
  refine wpAnyH_take (i := 7) (oi := ⟨(some 16), _, _, _, _, _⟩) (v := .agg c.cells.toArray) rfl (by kernel_rfl) (by kernel_rfl) (by kernel_rfl) (fun _ _ _ h => h) (yieldsIf_load_mid (by rfl) _ _ rfl ((w.heap.size + 2)) 0 rfl c.cells _ (fun W' hW' => ed_allR (row_next2 gC0 hW')) (Try.underlying28) rfl (by rw [Ed.cells_len HC.out]; kernel_rfl)) hHeld ?_
  try simp only [pu]
  refine wpAnyH_ready (rs := [8]) (by kernel_rfl) (by simp) ?_
  refine AllReadyH.cons (i := 8) (o := ⟨(some 17), _, _, _, _, _⟩) rfl (fun K hK => ?_) AllReadyH.nil
  go_simp
  refine (d3 _).mono ?_
  rintro e r3W3 ⟨rfl, r3h3⟩
  refine hK.out _ _ (below_next hHeld hHeld.size r3h3) (fun hHeld => ?_)
  clear hK K r3h3
  try simp only [pu]
  refine wpAnyH_take (i := 9) (oi := ⟨(some 18), _, _, _, _, _⟩) (v := .bool false) rfl (by kernel_rfl) (by kernel_rfl) (by kernel_rfl) (fun _ _ _ h => h) (Or.inl ⟨by rfl, ?yr3_9⟩) hHeld ?_
  case yr3_9 => (intro W0 hSw; go_simp; try with_reducible rfl)
  try simp only [pu]
  refine wpAnyH_take (i := 10) (oi := ⟨(some 19), _, _, _, _, _⟩) (v := .bool false) rfl (by kernel_rfl) (by kernel_rfl) (by kernel_rfl) (fun _ _ _ h => h) (Or.inl ⟨by rfl, ?yr3_10⟩) hHeld ?_
  case yr3_10 => (intro W0 hSw; go_simp; try with_reducible rfl)
  try simp only [pu]
  refine wpAnyH_take (i := 11) (oi := ⟨(some 20), _, _, _, _, _⟩) (v := .agg a.cells.toArray) rfl (by kernel_rfl) (by kernel_rfl) (by kernel_rfl) (fun _ _ _ h => h) (yieldsIf_load_mid (by rfl) _ _ rfl (w.heap.size) 0 rfl a.cells _ (fun W' hW' => ed_allR (row_next2 gA0 hW')) (Try.underlying28) rfl (by rw [Ed.cells_len HA.out]; kernel_rfl)) hHeld ?_
  try simp only [pu]
  refine wpAnyH_ready (rs := [12]) (by kernel_rfl) (by simp) ?_
  refine AllReadyH.cons (i := 12) (o := ⟨(some 21), _, _, _, _, _⟩) rfl (fun K hK => ?_) AllReadyH.nil
  go_simp
  refine (d4 _).mono ?_
  rintro e r3W4 ⟨rfl, r3h4⟩
  refine hK.out _ _ (below_next hHeld hHeld.size r3h4) (fun hHeld => ?_)
  clear hK K r3h4
  try simp only [pu]
  refine wpAnyH_take (i := 13) (oi := ⟨(some 22), _, _, _, _, _⟩) (v := .bool false) rfl (by kernel_rfl) (by kernel_rfl) (by kernel_rfl) (fun _ _ _ h => h) (Or.inl ⟨by rfl, ?yr3_13⟩) hHeld ?_
  case yr3_13 => (intro W0 hSw; go_simp; try with_reducible rfl)
  try simp only [pu]
  refine wpAnyH_take (i := 14) (oi := ⟨(some 23), _, _, _, _, _⟩) (v := .bool false) rfl (by kernel_rfl) (by kernel_rfl) (by kernel_rfl) (fun _ _ _ h => h) (Or.inl ⟨by rfl, ?yr3_14⟩) hHeld ?_
  case yr3_14 => (intro W0 hSw; go_simp; try with_reducible rfl)
  try simp only [pu]
  refine wpAnyH_done (by kernel_rfl) ?_ _
  obtain ⟨V1, hV⟩ : ∃ V, V = r3W4 := ⟨_, rfl⟩
  subst hV
  have gA1 := row_next2 gA0 hHeld
  have gB1 := row_next2 gB0 hHeld
  have gC1 := row_next2 gC0 hHeld
  have hb1 := below_next hb0 hb0.size hHeld
  clear hHeld hb0 gA0 gB0 gC0
  clear d1 d2 d3 d4
  simp only [over_own Hga.out.symm] at d5
  go_upto_region 5 with fail
  cases p
  case false =>
    refine plain_start (S := fun W' => Below V1.heap.size V1 W') (by kernel_rfl) (Below.refl _ _) (fun hHeld => ?_)
    refine wpAnyH_take (i := 0) (oi := ⟨(some 24), _, _, _, _, _⟩) (v := .agg a.cells.toArray) rfl (by kernel_rfl) (by kernel_rfl) (by kernel_rfl) (fun _ _ _ h => h) (yieldsIf_load_mid (by rfl) _ _ rfl (w.heap.size) 0 rfl a.cells _ (fun W' hW' => ed_allR (row_next2 gA1 hW')) (Try.underlying28) rfl (by rw [Ed.cells_len HA.out]; kernel_rfl)) hHeld ?_
    try simp only [pu]
    refine wpAnyH_take (i := 1) (oi := ⟨(some 25), _, _, _, _, _⟩) (v := .agg a.cells.toArray) rfl (by kernel_rfl) (by kernel_rfl) (by kernel_rfl) (fun _ _ _ h => h) (yieldsIf_load_mid (by rfl) _ _ rfl (w.heap.size) 0 rfl a.cells _ (fun W' hW' => ed_allR (row_next2 gA1 hW')) (Try.underlying28) rfl (by rw [Ed.cells_len HA.out]; kernel_rfl)) hHeld ?_
    try simp only [pu]
    refine wpAnyH_ready (rs := [2]) (by kernel_rfl) (by simp) ?_
    refine AllReadyH.cons (i := 2) (o := ⟨(some 26), _, _, _, _, _⟩) rfl (fun K hK => ?_) AllReadyH.nil
    go_simp
    refine (d5 _).mono ?_
    rintro e r5W1 ⟨rfl, r5h1⟩
    refine hK.out _ _ (below_next hHeld hHeld.size r5h1) (fun hHeld => ?_)
    clear hK K r5h1
    try simp only [pu]
    refine wpAnyH_take (i := 3) (oi := ⟨(some 27), _, _, _, _, _⟩) (v := .bool false) rfl (by kernel_rfl) (by kernel_rfl) (by kernel_rfl) (fun _ _ _ h => h) (Or.inl ⟨by rfl, ?yr5_3⟩) hHeld ?_
    case yr5_3 => (intro W0 hSw; go_simp; try with_reducible rfl)
    try simp only [pu]
    refine wpAnyH_take (i := 4) (oi := ⟨(some 28), _, _, _, _, _⟩) (v := .agg a.cells.toArray) rfl (by kernel_rfl) (by kernel_rfl) (by kernel_rfl) (fun _ _ _ h => h) (yieldsIf_load_mid (by rfl) _ _ rfl (w.heap.size) 0 rfl a.cells _ (fun W' hW' => ed_allR (row_next2 gA1 hW')) (Try.underlying28) rfl (by rw [Ed.cells_len HA.out]; kernel_rfl)) hHeld ?_
    try simp only [pu]
    refine wpAnyH_take (i := 5) (oi := ⟨(some 29), _, _, _, _, _⟩) (v := .agg a.cells.toArray) rfl (by kernel_rfl) (by kernel_rfl) (by kernel_rfl) (fun _ _ _ h => h) (yieldsIf_load_mid (by rfl) _ _ rfl (w.heap.size) 0 rfl a.cells _ (fun W' hW' => ed_allR (row_next2 gA1 hW')) (Try.underlying28) rfl (by rw [Ed.cells_len HA.out]; kernel_rfl)) hHeld ?_
    try simp only [pu]
    refine wpAnyH_ready (rs := [6]) (by kernel_rfl) (by simp) ?_
    refine AllReadyH.cons (i := 6) (o := ⟨(some 30), _, _, _, _, _⟩) rfl (fun K hK => ?_) AllReadyH.nil
    go_simp
    refine (d6 _).mono ?_
    rintro e r5W2 ⟨rfl, r5h2⟩
    refine hK.out _ _ (below_next hHeld hHeld.size r5h2) (fun hHeld => ?_)
    clear hK K r5h2
    try simp only [pu]
    refine wpAnyH_take (i := 7) (oi := ⟨(some 31), _, _, _, _, _⟩) (v := .bool false) rfl (by kernel_rfl) (by kernel_rfl) (by kernel_rfl) (fun _ _ _ h => h) (Or.inl ⟨by rfl, ?yr5_7⟩) hHeld ?_
    case yr5_7 => (intro W0 hSw; go_simp; try with_reducible rfl)
    try simp only [pu]
    refine wpAnyH_take (i := 8) (oi := ⟨(some 32), _, _, _, _, _⟩) (v := .bool false) rfl (by kernel_rfl) (by kernel_rfl) (by kernel_rfl) (fun _ _ _ h => h) (Or.inl ⟨by rfl, ?yr5_8⟩) hHeld ?_
    case yr5_8 => (intro W0 hSw; go_simp; try with_reducible rfl)
    try simp only [pu]
    refine wpAnyH_take (i := 9) (oi := ⟨(some 33), _, _, _, _, _⟩) (v := .agg a.cells.toArray) rfl (by kernel_rfl) (by kernel_rfl) (by kernel_rfl) (fun _ _ _ h => h) (yieldsIf_load_mid (by rfl) _ _ rfl (w.heap.size) 0 rfl a.cells _ (fun W' hW' => ed_allR (row_next2 gA1 hW')) (Try.underlying28) rfl (by rw [Ed.cells_len HA.out]; kernel_rfl)) hHeld ?_
    try simp only [pu]
    refine wpAnyH_take (i := 10) (oi := ⟨(some 34), _, _, _, _, _⟩) (v := .agg b.cells.toArray) rfl (by kernel_rfl) (by kernel_rfl) (by kernel_rfl) (fun _ _ _ h => h) (yieldsIf_load_mid (by rfl) _ _ rfl ((w.heap.size + 1)) 0 rfl b.cells _ (fun W' hW' => ed_allR (row_next2 gB1 hW')) (Try.underlying28) rfl (by rw [Ed.cells_len HB.out]; kernel_rfl)) hHeld ?_
    try simp only [pu]
    refine wpAnyH_ready (rs := [11]) (by kernel_rfl) (by simp) ?_
    refine AllReadyH.cons (i := 11) (o := ⟨(some 35), _, _, _, _, _⟩) rfl (fun K hK => ?_) AllReadyH.nil
    go_simp
    refine (d7 _).mono ?_
    rintro e r5W3 ⟨rfl, r5h3⟩
    refine hK.out _ _ (below_next hHeld hHeld.size r5h3) (fun hHeld => ?_)
    clear hK K r5h3
    try simp only [pu]
    refine wpAnyH_take (i := 12) (oi := ⟨(some 36), _, _, _, _, _⟩) (v := .bool false) rfl (by kernel_rfl) (by kernel_rfl) (by kernel_rfl) (fun _ _ _ h => h) (Or.inl ⟨by rfl, ?yr5_12⟩) hHeld ?_
    case yr5_12 => (intro W0 hSw; go_simp; try with_reducible rfl)
    try simp only [pu]
    refine wpAnyH_take (i := 13) (oi := ⟨(some 37), _, _, _, _, _⟩) (v := undef) rfl (by kernel_rfl) (by kernel_rfl) (by kernel_rfl) (fun _ _ _ h => h) (Or.inr ⟨by rfl, rfl⟩) hHeld ?_
    try simp only [pu]
    refine wpAnyH_take (i := 14) (oi := ⟨(some 38), _, _, _, _, _⟩) (v := undef) rfl (by kernel_rfl) (by kernel_rfl) (by kernel_rfl) (fun _ _ _ h => h) (Or.inr ⟨by rfl, rfl⟩) hHeld ?_
    try simp only [pu]
    refine wpAnyH_take (i := 15) (oi := ⟨(some 39), _, _, _, _, _⟩) (v := undef) rfl (by kernel_rfl) (by kernel_rfl) (by kernel_rfl) (fun _ _ _ h => h) (Or.inr ⟨by rfl, rfl⟩) hHeld ?_
    try simp only [pu]
    refine wpAnyH_take (i := 16) (oi := ⟨(some 40), _, _, _, _, _⟩) (v := .bool false) rfl (by kernel_rfl) (by kernel_rfl) (by kernel_rfl) (fun _ _ _ h => h) (Or.inl ⟨by rfl, ?yr5_16⟩) hHeld ?_
    case yr5_16 => (intro W0 hSw; go_simp; try with_reducible rfl)
    try simp only [pu]
    refine wpAnyH_take (i := 17) (oi := ⟨(some 41), _, _, _, _, _⟩) (v := .bool false) rfl (by kernel_rfl) (by kernel_rfl) (by kernel_rfl) (fun _ _ _ h => h) (Or.inl ⟨by rfl, ?yr5_17⟩) hHeld ?_
    case yr5_17 => (intro W0 hSw; go_simp; try with_reducible rfl)
    try simp only [pu]
    refine wpAnyH_done (by kernel_rfl) ?_ _
    obtain ⟨V2, hV⟩ : ∃ V, V = r5W3 := ⟨_, rfl⟩
    subst hV
    have gA2 := row_next2 gA1 hHeld
    have gB2 := row_next2 gB1 hHeld
    have gC2 := row_next2 gC1 hHeld
    have hb2 := below_next hb1 hb1.size hHeld
    clear hHeld hb1 gA1 gB1 gC1
    go_upto_region 7 with fail
    refine plain_start (S := fun W' => Below V2.heap.size V2 W') (by kernel_rfl) (Below.refl _ _) (fun hHeld => ?_)
    refine wpAnyH_take (i := 0) (oi := ⟨(some 42), _, _, _, _, _⟩) (v := .agg a.cells.toArray) rfl (by kernel_rfl) (by kernel_rfl) (by kernel_rfl) (fun _ _ _ h => h) (yieldsIf_load_mid (by rfl) _ _ rfl (w.heap.size) 0 rfl a.cells _ (fun W' hW' => ed_allR (row_next2 gA2 hW')) (Try.underlying28) rfl (by rw [Ed.cells_len HA.out]; kernel_rfl)) hHeld ?_
    try simp only [pu]
    refine wpAnyH_take (i := 1) (oi := ⟨(some 43), _, _, _, _, _⟩) (v := .agg b.cells.toArray) rfl (by kernel_rfl) (by kernel_rfl) (by kernel_rfl) (fun _ _ _ h => h) (yieldsIf_load_mid (by rfl) _ _ rfl ((w.heap.size + 1)) 0 rfl b.cells _ (fun W' hW' => ed_allR (row_next2 gB2 hW')) (Try.underlying28) rfl (by rw [Ed.cells_len HB.out]; kernel_rfl)) hHeld ?_
    try simp only [pu]
    refine wpAnyH_ready (rs := [2]) (by kernel_rfl) (by simp) ?_
    refine AllReadyH.cons (i := 2) (o := ⟨(some 44), _, _, _, _, _⟩) rfl (fun K hK => ?_) AllReadyH.nil
    go_simp
    refine (d7 _).mono ?_
    rintro e r7W1 ⟨rfl, r7h1⟩
    refine hK.out _ _ (below_next hHeld hHeld.size r7h1) (fun hHeld => ?_)
    clear hK K r7h1
    try simp only [pu]
    refine wpAnyH_take (i := 3) (oi := ⟨(some 45), _, _, _, _, _⟩) (v := .bool true) rfl (by kernel_rfl) (by kernel_rfl) (by kernel_rfl) (fun _ _ _ h => h) (Or.inl ⟨by rfl, ?yr7_3⟩) hHeld ?_
    case yr7_3 => (intro W0 hSw; go_simp; try with_reducible rfl)
    try simp only [pu]
    refine wpAnyH_take (i := 4) (oi := ⟨(some 46), _, _, _, _, _⟩) (v := .bool true) rfl (by kernel_rfl) (by kernel_rfl) (by kernel_rfl) (fun _ _ _ h => h) (Or.inl ⟨by rfl, ?yr7_4⟩) hHeld ?_
    case yr7_4 => (intro W0 hSw; go_simp; try with_reducible rfl)
    try simp only [pu]
    refine wpAnyH_take (i := 5) (oi := ⟨(some 47), _, _, _, _, _⟩) (v := undef) rfl (by kernel_rfl) (by kernel_rfl) (by kernel_rfl) (fun _ _ _ h => h) (Or.inr ⟨by rfl, rfl⟩) hHeld ?_
    try simp only [pu]
    refine wpAnyH_take (i := 6) (oi := ⟨(some 48), _, _, _, _, _⟩) (v := undef) rfl (by kernel_rfl) (by kernel_rfl) (by kernel_rfl) (fun _ _ _ h => h) (Or.inr ⟨by rfl, rfl⟩) hHeld ?_
    try simp only [pu]
    refine wpAnyH_take (i := 7) (oi := ⟨(some 49), _, _, _, _, _⟩) (v := undef) rfl (by kernel_rfl) (by kernel_rfl) (by kernel_rfl) (fun _ _ _ h => h) (Or.inr ⟨by rfl, rfl⟩) hHeld ?_
    try simp only [pu]
    refine wpAnyH_take (i := 8) (oi := ⟨(some 50), _, _, _, _, _⟩) (v := undef) rfl (by kernel_rfl) (by kernel_rfl) (by kernel_rfl) (fun _ _ _ h => h) (Or.inr ⟨by rfl, rfl⟩) hHeld ?_
    try simp only [pu]
    refine wpAnyH_take (i := 9) (oi := ⟨(some 51), _, _, _, _, _⟩) (v := .bool true) rfl (by kernel_rfl) (by kernel_rfl) (by kernel_rfl) (fun _ _ _ h => h) (Or.inl ⟨by rfl, ?yr7_9⟩) hHeld ?_
    case yr7_9 => (intro W0 hSw; go_simp; try with_reducible rfl)
    try simp only [pu]
    refine wpAnyH_take (i := 10) (oi := ⟨(some 52), _, _, _, _, _⟩) (v := .bool true) rfl (by kernel_rfl) (by kernel_rfl) (by kernel_rfl) (fun _ _ _ h => h) (Or.inl ⟨by rfl, ?yr7_10⟩) hHeld ?_
    case yr7_10 => (intro W0 hSw; go_simp; try with_reducible rfl)
    try simp only [pu]
    refine wpAnyH_take (i := 11) (oi := ⟨(some 53), _, _, _, _, _⟩) (v := undef) rfl (by kernel_rfl) (by kernel_rfl) (by kernel_rfl) (fun _ _ _ h => h) (Or.inr ⟨by rfl, rfl⟩) hHeld ?_
    try simp only [pu]
    refine wpAnyH_take (i := 12) (oi := ⟨(some 54), _, _, _, _, _⟩) (v := undef) rfl (by kernel_rfl) (by kernel_rfl) (by kernel_rfl) (fun _ _ _ h => h) (Or.inr ⟨by rfl, rfl⟩) hHeld ?_
    try simp only [pu]
    refine wpAnyH_take (i := 13) (oi := ⟨(some 55), _, _, _, _, _⟩) (v := undef) rfl (by kernel_rfl) (by kernel_rfl) (by kernel_rfl) (fun _ _ _ h => h) (Or.inr ⟨by rfl, rfl⟩) hHeld ?_
    try simp only [pu]
    refine wpAnyH_take (i := 14) (oi := ⟨(some 56), _, _, _, _, _⟩) (v := .bool true) rfl (by kernel_rfl) (by kernel_rfl) (by kernel_rfl) (fun _ _ _ h => h) (Or.inl ⟨by rfl, ?yr7_14⟩) hHeld ?_
    case yr7_14 => (intro W0 hSw; go_simp; try with_reducible rfl)
    try simp only [pu]
    refine wpAnyH_take (i := 15) (oi := ⟨(some 6), _, _, _, _, _⟩) (v := .bool true) rfl (by kernel_rfl) (by kernel_rfl) (by kernel_rfl) (fun _ _ _ h => h) (Or.inl ⟨by rfl, ?yr7_15⟩) hHeld ?_
    case yr7_15 => (intro W0 hSw; go_simp; try with_reducible rfl)
    try simp only [pu]
    refine wpAnyH_done (by kernel_rfl) ?_ _
    go_wp2
    go_ret
    exact ⟨rfl, below_next hb2 hb2.size hHeld⟩
  have hq := less_two a b
  rw [← Hp.out, ← Hq.out, Bool.true_and] at hq
  simp only [hq] at d8
  refine plain_start (S := fun W' => Below V1.heap.size V1 W') (by kernel_rfl) (Below.refl _ _) (fun hHeld => ?_)
  refine wpAnyH_take (i := 0) (oi := ⟨(some 24), _, _, _, _, _⟩) (v := .agg a.cells.toArray) rfl (by kernel_rfl) (by kernel_rfl) (by kernel_rfl) (fun _ _ _ h => h) (yieldsIf_load_mid (by rfl) _ _ rfl (w.heap.size) 0 rfl a.cells _ (fun W' hW' => ed_allR (row_next2 gA1 hW')) (Try.underlying28) rfl (by rw [Ed.cells_len HA.out]; kernel_rfl)) hHeld ?_
  try simp only [pu]
  refine wpAnyH_take (i := 1) (oi := ⟨(some 25), _, _, _, _, _⟩) (v := .agg a.cells.toArray) rfl (by kernel_rfl) (by kernel_rfl) (by kernel_rfl) (fun _ _ _ h => h) (yieldsIf_load_mid (by rfl) _ _ rfl (w.heap.size) 0 rfl a.cells _ (fun W' hW' => ed_allR (row_next2 gA1 hW')) (Try.underlying28) rfl (by rw [Ed.cells_len HA.out]; kernel_rfl)) hHeld ?_
  try simp only [pu]
  refine wpAnyH_ready (rs := [2]) (by kernel_rfl) (by simp) ?_
  refine AllReadyH.cons (i := 2) (o := ⟨(some 26), _, _, _, _, _⟩) rfl (fun K hK => ?_) AllReadyH.nil
  go_simp
  refine (d5 _).mono ?_
  rintro e r5W1 ⟨rfl, r5h1⟩
  refine hK.out _ _ (below_next hHeld hHeld.size r5h1) (fun hHeld => ?_)
  clear hK K r5h1
  try simp only [pu]
  refine wpAnyH_take (i := 3) (oi := ⟨(some 27), _, _, _, _, _⟩) (v := .bool false) rfl (by kernel_rfl) (by kernel_rfl) (by kernel_rfl) (fun _ _ _ h => h) (Or.inl ⟨by rfl, ?yr5_3⟩) hHeld ?_
  case yr5_3 => (intro W0 hSw; go_simp; try with_reducible rfl)
  try simp only [pu]
  refine wpAnyH_take (i := 4) (oi := ⟨(some 28), _, _, _, _, _⟩) (v := .agg a.cells.toArray) rfl (by kernel_rfl) (by kernel_rfl) (by kernel_rfl) (fun _ _ _ h => h) (yieldsIf_load_mid (by rfl) _ _ rfl (w.heap.size) 0 rfl a.cells _ (fun W' hW' => ed_allR (row_next2 gA1 hW')) (Try.underlying28) rfl (by rw [Ed.cells_len HA.out]; kernel_rfl)) hHeld ?_
  try simp only [pu]
  refine wpAnyH_take (i := 5) (oi := ⟨(some 29), _, _, _, _, _⟩) (v := .agg a.cells.toArray) rfl (by kernel_rfl) (by kernel_rfl) (by kernel_rfl) (fun _ _ _ h => h) (yieldsIf_load_mid (by rfl) _ _ rfl (w.heap.size) 0 rfl a.cells _ (fun W' hW' => ed_allR (row_next2 gA1 hW')) (Try.underlying28) rfl (by rw [Ed.cells_len HA.out]; kernel_rfl)) hHeld ?_
  try simp only [pu]
  refine wpAnyH_ready (rs := [6]) (by kernel_rfl) (by simp) ?_
  refine AllReadyH.cons (i := 6) (o := ⟨(some 30), _, _, _, _, _⟩) rfl (fun K hK => ?_) AllReadyH.nil
  go_simp
  refine (d6 _).mono ?_
  rintro e r5W2 ⟨rfl, r5h2⟩
  refine hK.out _ _ (below_next hHeld hHeld.size r5h2) (fun hHeld => ?_)
  clear hK K r5h2
  try simp only [pu]
  refine wpAnyH_take (i := 7) (oi := ⟨(some 31), _, _, _, _, _⟩) (v := .bool false) rfl (by kernel_rfl) (by kernel_rfl) (by kernel_rfl) (fun _ _ _ h => h) (Or.inl ⟨by rfl, ?yr5_7⟩) hHeld ?_
  case yr5_7 => (intro W0 hSw; go_simp; try with_reducible rfl)
  try simp only [pu]
  refine wpAnyH_take (i := 8) (oi := ⟨(some 32), _, _, _, _, _⟩) (v := .bool false) rfl (by kernel_rfl) (by kernel_rfl) (by kernel_rfl) (fun _ _ _ h => h) (Or.inl ⟨by rfl, ?yr5_8⟩) hHeld ?_
  case yr5_8 => (intro W0 hSw; go_simp; try with_reducible rfl)
  try simp only [pu]
  refine wpAnyH_take (i := 9) (oi := ⟨(some 33), _, _, _, _, _⟩) (v := .agg a.cells.toArray) rfl (by kernel_rfl) (by kernel_rfl) (by kernel_rfl) (fun _ _ _ h => h) (yieldsIf_load_mid (by rfl) _ _ rfl (w.heap.size) 0 rfl a.cells _ (fun W' hW' => ed_allR (row_next2 gA1 hW')) (Try.underlying28) rfl (by rw [Ed.cells_len HA.out]; kernel_rfl)) hHeld ?_
  try simp only [pu]
  refine wpAnyH_take (i := 10) (oi := ⟨(some 34), _, _, _, _, _⟩) (v := .agg b.cells.toArray) rfl (by kernel_rfl) (by kernel_rfl) (by kernel_rfl) (fun _ _ _ h => h) (yieldsIf_load_mid (by rfl) _ _ rfl ((w.heap.size + 1)) 0 rfl b.cells _ (fun W' hW' => ed_allR (row_next2 gB1 hW')) (Try.underlying28) rfl (by rw [Ed.cells_len HB.out]; kernel_rfl)) hHeld ?_
  try simp only [pu]
  refine wpAnyH_ready (rs := [11]) (by kernel_rfl) (by simp) ?_
  refine AllReadyH.cons (i := 11) (o := ⟨(some 35), _, _, _, _, _⟩) rfl (fun K hK => ?_) AllReadyH.nil
  go_simp
  refine (d7 _).mono ?_
  rintro e r5W3 ⟨rfl, r5h3⟩
  refine hK.out _ _ (below_next hHeld hHeld.size r5h3) (fun hHeld => ?_)
  clear hK K r5h3
  try simp only [pu]
  refine wpAnyH_take (i := 12) (oi := ⟨(some 36), _, _, _, _, _⟩) (v := .bool true) rfl (by kernel_rfl) (by kernel_rfl) (by kernel_rfl) (fun _ _ _ h => h) (Or.inl ⟨by rfl, ?yr5_12⟩) hHeld ?_
  case yr5_12 => (intro W0 hSw; go_simp; try with_reducible rfl)
  try simp only [pu]
  refine wpAnyH_take (i := 13) (oi := ⟨(some 37), _, _, _, _, _⟩) (v := .agg b.cells.toArray) rfl (by kernel_rfl) (by kernel_rfl) (by kernel_rfl) (fun _ _ _ h => h) (yieldsIf_load_mid (by rfl) _ _ rfl ((w.heap.size + 1)) 0 rfl b.cells _ (fun W' hW' => ed_allR (row_next2 gB1 hW')) (Try.underlying28) rfl (by rw [Ed.cells_len HB.out]; kernel_rfl)) hHeld ?_
  try simp only [pu]
  refine wpAnyH_take (i := 14) (oi := ⟨(some 38), _, _, _, _, _⟩) (v := .agg a.cells.toArray) rfl (by kernel_rfl) (by kernel_rfl) (by kernel_rfl) (fun _ _ _ h => h) (yieldsIf_load_mid (by rfl) _ _ rfl (w.heap.size) 0 rfl a.cells _ (fun W' hW' => ed_allR (row_next2 gA1 hW')) (Try.underlying28) rfl (by rw [Ed.cells_len HA.out]; kernel_rfl)) hHeld ?_
  try simp only [pu]
  refine wpAnyH_ready (rs := [15]) (by kernel_rfl) (by simp) ?_
  refine AllReadyH.cons (i := 15) (o := ⟨(some 39), _, _, _, _, _⟩) rfl (fun K hK => ?_) AllReadyH.nil
  go_simp
  refine (d8 _).mono ?_
  rintro e r5W4 ⟨rfl, r5h4⟩
  refine hK.out _ _ (below_next hHeld hHeld.size r5h4) (fun hHeld => ?_)
  clear hK K r5h4
  try simp only [pu]
  refine wpAnyH_take (i := 16) (oi := ⟨(some 40), _, _, _, _, _⟩) (v := .bool false) rfl (by kernel_rfl) (by kernel_rfl) (by kernel_rfl) (fun _ _ _ h => h) (Or.inl ⟨by rfl, ?yr5_16⟩) hHeld ?_
  case yr5_16 => (intro W0 hSw; go_simp; try with_reducible rfl)
  try simp only [pu]
  refine wpAnyH_take (i := 17) (oi := ⟨(some 41), _, _, _, _, _⟩) (v := .bool false) rfl (by kernel_rfl) (by kernel_rfl) (by kernel_rfl) (fun _ _ _ h => h) (Or.inl ⟨by rfl, ?yr5_17⟩) hHeld ?_
  case yr5_17 => (intro W0 hSw; go_simp; try with_reducible rfl)
  try simp only [pu]
  refine wpAnyH_done (by kernel_rfl) ?_ _
  obtain ⟨V2, hV⟩ : ∃ V, V = r5W4 := ⟨_, rfl⟩
  subst hV
  have gA2 := row_next2 gA1 hHeld
  have gB2 := row_next2 gB1 hHeld
  have gC2 := row_next2 gC1 hHeld
  have hb2 := below_next hb1 hb1.size hHeld
  clear hHeld hb1 gA1 gB1 gC1
  go_upto_region 7 with fail
  cases r
  case false =>
    refine plain_start (S := fun W' => Below V2.heap.size V2 W') (by kernel_rfl) (Below.refl _ _) (fun hHeld => ?_)
    refine wpAnyH_take (i := 0) (oi := ⟨(some 42), _, _, _, _, _⟩) (v := .agg a.cells.toArray) rfl (by kernel_rfl) (by kernel_rfl) (by kernel_rfl) (fun _ _ _ h => h) (yieldsIf_load_mid (by rfl) _ _ rfl (w.heap.size) 0 rfl a.cells _ (fun W' hW' => ed_allR (row_next2 gA2 hW')) (Try.underlying28) rfl (by rw [Ed.cells_len HA.out]; kernel_rfl)) hHeld ?_
    try simp only [pu]
    refine wpAnyH_take (i := 1) (oi := ⟨(some 43), _, _, _, _, _⟩) (v := .agg b.cells.toArray) rfl (by kernel_rfl) (by kernel_rfl) (by kernel_rfl) (fun _ _ _ h => h) (yieldsIf_load_mid (by rfl) _ _ rfl ((w.heap.size + 1)) 0 rfl b.cells _ (fun W' hW' => ed_allR (row_next2 gB2 hW')) (Try.underlying28) rfl (by rw [Ed.cells_len HB.out]; kernel_rfl)) hHeld ?_
    try simp only [pu]
    refine wpAnyH_ready (rs := [2]) (by kernel_rfl) (by simp) ?_
    refine AllReadyH.cons (i := 2) (o := ⟨(some 44), _, _, _, _, _⟩) rfl (fun K hK => ?_) AllReadyH.nil
    go_simp
    refine (d7 _).mono ?_
    rintro e r7W1 ⟨rfl, r7h1⟩
    refine hK.out _ _ (below_next hHeld hHeld.size r7h1) (fun hHeld => ?_)
    clear hK K r7h1
    try simp only [pu]
    refine wpAnyH_take (i := 3) (oi := ⟨(some 45), _, _, _, _, _⟩) (v := .bool false) rfl (by kernel_rfl) (by kernel_rfl) (by kernel_rfl) (fun _ _ _ h => h) (Or.inl ⟨by rfl, ?yr7_3⟩) hHeld ?_
    case yr7_3 => (intro W0 hSw; go_simp; try with_reducible rfl)
    try simp only [pu]
    refine wpAnyH_take (i := 4) (oi := ⟨(some 46), _, _, _, _, _⟩) (v := .bool false) rfl (by kernel_rfl) (by kernel_rfl) (by kernel_rfl) (fun _ _ _ h => h) (Or.inl ⟨by rfl, ?yr7_4⟩) hHeld ?_
    case yr7_4 => (intro W0 hSw; go_simp; try with_reducible rfl)
    try simp only [pu]
    refine wpAnyH_take (i := 5) (oi := ⟨(some 47), _, _, _, _, _⟩) (v := .agg b.cells.toArray) rfl (by kernel_rfl) (by kernel_rfl) (by kernel_rfl) (fun _ _ _ h => h) (yieldsIf_load_mid (by rfl) _ _ rfl ((w.heap.size + 1)) 0 rfl b.cells _ (fun W' hW' => ed_allR (row_next2 gB2 hW')) (Try.underlying28) rfl (by rw [Ed.cells_len HB.out]; kernel_rfl)) hHeld ?_
    try simp only [pu]
    refine wpAnyH_take (i := 6) (oi := ⟨(some 48), _, _, _, _, _⟩) (v := .agg c.cells.toArray) rfl (by kernel_rfl) (by kernel_rfl) (by kernel_rfl) (fun _ _ _ h => h) (yieldsIf_load_mid (by rfl) _ _ rfl ((w.heap.size + 2)) 0 rfl c.cells _ (fun W' hW' => ed_allR (row_next2 gC2 hW')) (Try.underlying28) rfl (by rw [Ed.cells_len HC.out]; kernel_rfl)) hHeld ?_
    try simp only [pu]
    refine wpAnyH_ready (rs := [7]) (by kernel_rfl) (by simp) ?_
    refine AllReadyH.cons (i := 7) (o := ⟨(some 49), _, _, _, _, _⟩) rfl (fun K hK => ?_) AllReadyH.nil
    go_simp
    refine (d9 _).mono ?_
    rintro e r7W2 ⟨rfl, r7h2⟩
    refine hK.out _ _ (below_next hHeld hHeld.size r7h2) (fun hHeld => ?_)
    clear hK K r7h2
    try simp only [pu]
    refine wpAnyH_take (i := 8) (oi := ⟨(some 50), _, _, _, _, _⟩) (v := .bool true) rfl (by kernel_rfl) (by kernel_rfl) (by kernel_rfl) (fun _ _ _ h => h) (Or.inl ⟨by rfl, ?yr7_8⟩) hHeld ?_
    case yr7_8 => (intro W0 hSw; go_simp; try with_reducible rfl)
    try simp only [pu]
    refine wpAnyH_take (i := 9) (oi := ⟨(some 51), _, _, _, _, _⟩) (v := .bool true) rfl (by kernel_rfl) (by kernel_rfl) (by kernel_rfl) (fun _ _ _ h => h) (Or.inl ⟨by rfl, ?yr7_9⟩) hHeld ?_
    case yr7_9 => (intro W0 hSw; go_simp; try with_reducible rfl)
    try simp only [pu]
    refine wpAnyH_take (i := 10) (oi := ⟨(some 52), _, _, _, _, _⟩) (v := .bool true) rfl (by kernel_rfl) (by kernel_rfl) (by kernel_rfl) (fun _ _ _ h => h) (Or.inl ⟨by rfl, ?yr7_10⟩) hHeld ?_
    case yr7_10 => (intro W0 hSw; go_simp; try with_reducible rfl)
    try simp only [pu]
    refine wpAnyH_take (i := 11) (oi := ⟨(some 53), _, _, _, _, _⟩) (v := undef) rfl (by kernel_rfl) (by kernel_rfl) (by kernel_rfl) (fun _ _ _ h => h) (Or.inr ⟨by rfl, rfl⟩) hHeld ?_
    try simp only [pu]
    refine wpAnyH_take (i := 12) (oi := ⟨(some 54), _, _, _, _, _⟩) (v := undef) rfl (by kernel_rfl) (by kernel_rfl) (by kernel_rfl) (fun _ _ _ h => h) (Or.inr ⟨by rfl, rfl⟩) hHeld ?_
    try simp only [pu]
    refine wpAnyH_take (i := 13) (oi := ⟨(some 55), _, _, _, _, _⟩) (v := undef) rfl (by kernel_rfl) (by kernel_rfl) (by kernel_rfl) (fun _ _ _ h => h) (Or.inr ⟨by rfl, rfl⟩) hHeld ?_
    try simp only [pu]
    refine wpAnyH_take (i := 14) (oi := ⟨(some 56), _, _, _, _, _⟩) (v := .bool true) rfl (by kernel_rfl) (by kernel_rfl) (by kernel_rfl) (fun _ _ _ h => h) (Or.inl ⟨by rfl, ?yr7_14⟩) hHeld ?_
    case yr7_14 => (intro W0 hSw; go_simp; try with_reducible rfl)
    try simp only [pu]
    refine wpAnyH_take (i := 15) (oi := ⟨(some 6), _, _, _, _, _⟩) (v := .bool true) rfl (by kernel_rfl) (by kernel_rfl) (by kernel_rfl) (fun _ _ _ h => h) (Or.inl ⟨by rfl, ?yr7_15⟩) hHeld ?_
    case yr7_15 => (intro W0 hSw; go_simp; try with_reducible rfl)
    try simp only [pu]
    refine wpAnyH_done (by kernel_rfl) ?_ _
    go_wp2
    go_ret
    exact ⟨rfl, below_next hb2 hb2.size hHeld⟩
  have hs := less_three Hp.out.symm Hr.out.symm
  rw [← Hs.out] at hs
  simp only [hs] at d10
  refine plain_start (S := fun W' => Below V2.heap.size V2 W') (by kernel_rfl) (Below.refl _ _) (fun hHeld => ?_)
  refine wpAnyH_take (i := 0) (oi := ⟨(some 42), _, _, _, _, _⟩) (v := .agg a.cells.toArray) rfl (by kernel_rfl) (by kernel_rfl) (by kernel_rfl) (fun _ _ _ h => h) (yieldsIf_load_mid (by rfl) _ _ rfl (w.heap.size) 0 rfl a.cells _ (fun W' hW' => ed_allR (row_next2 gA2 hW')) (Try.underlying28) rfl (by rw [Ed.cells_len HA.out]; kernel_rfl)) hHeld ?_
  try simp only [pu]
  refine wpAnyH_take (i := 1) (oi := ⟨(some 43), _, _, _, _, _⟩) (v := .agg b.cells.toArray) rfl (by kernel_rfl) (by kernel_rfl) (by kernel_rfl) (fun _ _ _ h => h) (yieldsIf_load_mid (by rfl) _ _ rfl ((w.heap.size + 1)) 0 rfl b.cells _ (fun W' hW' => ed_allR (row_next2 gB2 hW')) (Try.underlying28) rfl (by rw [Ed.cells_len HB.out]; kernel_rfl)) hHeld ?_
  try simp only [pu]
  refine wpAnyH_ready (rs := [2]) (by kernel_rfl) (by simp) ?_
  refine AllReadyH.cons (i := 2) (o := ⟨(some 44), _, _, _, _, _⟩) rfl (fun K hK => ?_) AllReadyH.nil
  go_simp
  refine (d7 _).mono ?_
  rintro e r7W1 ⟨rfl, r7h1⟩
  refine hK.out _ _ (below_next hHeld hHeld.size r7h1) (fun hHeld => ?_)
  clear hK K r7h1
  try simp only [pu]
  refine wpAnyH_take (i := 3) (oi := ⟨(some 45), _, _, _, _, _⟩) (v := .bool false) rfl (by kernel_rfl) (by kernel_rfl) (by kernel_rfl) (fun _ _ _ h => h) (Or.inl ⟨by rfl, ?yr7_3⟩) hHeld ?_
  case yr7_3 => (intro W0 hSw; go_simp; try with_reducible rfl)
  try simp only [pu]
  refine wpAnyH_take (i := 4) (oi := ⟨(some 46), _, _, _, _, _⟩) (v := .bool false) rfl (by kernel_rfl) (by kernel_rfl) (by kernel_rfl) (fun _ _ _ h => h) (Or.inl ⟨by rfl, ?yr7_4⟩) hHeld ?_
  case yr7_4 => (intro W0 hSw; go_simp; try with_reducible rfl)
  try simp only [pu]
  refine wpAnyH_take (i := 5) (oi := ⟨(some 47), _, _, _, _, _⟩) (v := .agg b.cells.toArray) rfl (by kernel_rfl) (by kernel_rfl) (by kernel_rfl) (fun _ _ _ h => h) (yieldsIf_load_mid (by rfl) _ _ rfl ((w.heap.size + 1)) 0 rfl b.cells _ (fun W' hW' => ed_allR (row_next2 gB2 hW')) (Try.underlying28) rfl (by rw [Ed.cells_len HB.out]; kernel_rfl)) hHeld ?_
  try simp only [pu]
  refine wpAnyH_take (i := 6) (oi := ⟨(some 48), _, _, _, _, _⟩) (v := .agg c.cells.toArray) rfl (by kernel_rfl) (by kernel_rfl) (by kernel_rfl) (fun _ _ _ h => h) (yieldsIf_load_mid (by rfl) _ _ rfl ((w.heap.size + 2)) 0 rfl c.cells _ (fun W' hW' => ed_allR (row_next2 gC2 hW')) (Try.underlying28) rfl (by rw [Ed.cells_len HC.out]; kernel_rfl)) hHeld ?_
  try simp only [pu]
  refine wpAnyH_ready (rs := [7]) (by kernel_rfl) (by simp) ?_
  refine AllReadyH.cons (i := 7) (o := ⟨(some 49), _, _, _, _, _⟩) rfl (fun K hK => ?_) AllReadyH.nil
  go_simp
  refine (d9 _).mono ?_
  rintro e r7W2 ⟨rfl, r7h2⟩
  refine hK.out _ _ (below_next hHeld hHeld.size r7h2) (fun hHeld => ?_)
  clear hK K r7h2
  try simp only [pu]
  refine wpAnyH_take (i := 8) (oi := ⟨(some 50), _, _, _, _, _⟩) (v := .bool false) rfl (by kernel_rfl) (by kernel_rfl) (by kernel_rfl) (fun _ _ _ h => h) (Or.inl ⟨by rfl, ?yr7_8⟩) hHeld ?_
  case yr7_8 => (intro W0 hSw; go_simp; try with_reducible rfl)
  try simp only [pu]
  refine wpAnyH_take (i := 9) (oi := ⟨(some 51), _, _, _, _, _⟩) (v := .bool false) rfl (by kernel_rfl) (by kernel_rfl) (by kernel_rfl) (fun _ _ _ h => h) (Or.inl ⟨by rfl, ?yr7_9⟩) hHeld ?_
  case yr7_9 => (intro W0 hSw; go_simp; try with_reducible rfl)
  try simp only [pu]
  refine wpAnyH_take (i := 10) (oi := ⟨(some 52), _, _, _, _, _⟩) (v := .bool false) rfl (by kernel_rfl) (by kernel_rfl) (by kernel_rfl) (fun _ _ _ h => h) (Or.inl ⟨by rfl, ?yr7_10⟩) hHeld ?_
  case yr7_10 => (intro W0 hSw; go_simp; try with_reducible rfl)
  try simp only [pu]
  refine wpAnyH_take (i := 11) (oi := ⟨(some 53), _, _, _, _, _⟩) (v := .agg a.cells.toArray) rfl (by kernel_rfl) (by kernel_rfl) (by kernel_rfl) (fun _ _ _ h => h) (yieldsIf_load_mid (by rfl) _ _ rfl (w.heap.size) 0 rfl a.cells _ (fun W' hW' => ed_allR (row_next2 gA2 hW')) (Try.underlying28) rfl (by rw [Ed.cells_len HA.out]; kernel_rfl)) hHeld ?_
  try simp only [pu]
  refine wpAnyH_take (i := 12) (oi := ⟨(some 54), _, _, _, _, _⟩) (v := .agg c.cells.toArray) rfl (by kernel_rfl) (by kernel_rfl) (by kernel_rfl) (fun _ _ _ h => h) (yieldsIf_load_mid (by rfl) _ _ rfl ((w.heap.size + 2)) 0 rfl c.cells _ (fun W' hW' => ed_allR (row_next2 gC2 hW')) (Try.underlying28) rfl (by rw [Ed.cells_len HC.out]; kernel_rfl)) hHeld ?_
  try simp only [pu]
  refine wpAnyH_ready (rs := [13]) (by kernel_rfl) (by simp) ?_
  refine AllReadyH.cons (i := 13) (o := ⟨(some 55), _, _, _, _, _⟩) rfl (fun K hK => ?_) AllReadyH.nil
  go_simp
  refine (d10 _).mono ?_
  rintro e r7W3 ⟨rfl, r7h3⟩
  refine hK.out _ _ (below_next hHeld hHeld.size r7h3) (fun hHeld => ?_)
  clear hK K r7h3
  try simp only [pu]
  refine wpAnyH_take (i := 14) (oi := ⟨(some 56), _, _, _, _, _⟩) (v := .bool true) rfl (by kernel_rfl) (by kernel_rfl) (by kernel_rfl) (fun _ _ _ h => h) (Or.inl ⟨by rfl, ?yr7_14⟩) hHeld ?_
  case yr7_14 => (intro W0 hSw; go_simp; try with_reducible rfl)
  try simp only [pu]
  refine wpAnyH_take (i := 15) (oi := ⟨(some 6), _, _, _, _, _⟩) (v := .bool true) rfl (by kernel_rfl) (by kernel_rfl) (by kernel_rfl) (fun _ _ _ h => h) (Or.inl ⟨by rfl, ?yr7_15⟩) hHeld ?_
  case yr7_15 => (intro W0 hSw; go_simp; try with_reducible rfl)
  try simp only [pu]
  refine wpAnyH_done (by kernel_rfl) ?_ _
  go_wp2
  go_ret
  exact ⟨rfl, below_next hb2 hb2.size hHeld⟩
end Go.Proofs.Ytabgkkdgamacnaa
