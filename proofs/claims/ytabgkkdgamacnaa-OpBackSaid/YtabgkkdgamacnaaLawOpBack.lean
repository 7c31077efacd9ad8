/-
  OpBack: the law's Go text returns true, whatever the edits and the cut. Conditions: none beyond the row's own.
-/
import Derived.Test.YtabgkkdgamacnaaOpW
import Derived.Test.YtabgkkdgamacnaaWiC
import Derived.Test.YtabgkkdgamacnaaReg
namespace Go.Proofs.Ytabgkkdgamacnaa
open Go.RowKit

theorem conv_as {w : World} {A : Option Addr} {l : List UInt8} {s : ByteArray} (hs : s = ⟨l.toArray⟩) (n c : Nat) (h : Byt w w.heap.size A l) (hn : l.length = n) : (convert 29 9 (.slice A n c)).run Try.prog w = .ok (.string s) w := by
  rw [hs]; exact conv_now n c h hn
theorem text_of {P Q : List UInt8} {s u : ByteArray} (hs : s = ⟨P.toArray⟩) (hu : u = ⟨Q.toArray⟩) : (s.toList = u.toList) = (P = Q) := by
  subst hs hu
  rw [ByteArray.toList_eq, ByteArray.toList_eq]
set_option maxRecDepth 100000 in
set_option maxHeartbeats 8000000 in
theorem walk_OpBack (w : World) (a : Ed) (ha : a.seen.length = 8) (b : Ed) (hb : b.seen.length = 8) (x : Int) (_ : (Lit.int .i64 x).wf = true) :
    Calls Try.prog 5 #[.agg a.cells.toArray, .agg b.cells.toArray, .int .i64 x] w fun e w' => e = .returned (.bool true) ∧ Below w.heap.size w w' := by
  have hzf := zero_ed
  obtain ⟨W, hW, hgA, hgB, hbW, hsW⟩ := pair_new w a.cells.toArray b.cells.toArray 28 28
  have HW := Lib.hid hW
  have HA := Lib.hid ha
  have HB := Lib.hid hb
  clear hW hsW ha hb
  go_enter Try.func5, Try.ntmps5
  go_upto_region 1 with fail
  rw [HW.out]
  clear HW
  go_wp2_with fail
  refine (awake16_any W).mono ?_
  rintro e V0 ⟨rfl, hb⟩
  have gA0 := row_next2 hgA hb
  have gB0 := row_next2 hgB hb
  have hb0 := below_next hbW hbW.size hb
  clear hb hbW hgA hgB
  have d1 := fun w => olong_any w a HA.out
  have d2 := fun w => olong_any w b HB.out
  have d3 := fun w => ogood_any w a HA.out
  have d4 := fun w => ogood_any w b HB.out
  obtain ⟨la, hla⟩ : ∃ o, o = elong a := ⟨_, rfl⟩
  have Hla := vlt hla
  simp only [← hla] at d1
  clear hla
  obtain ⟨lb, hlb⟩ : ∃ o, o = elong b := ⟨_, rfl⟩
  have Hlb := vlt hlb
  simp only [← hlb] at d2
  clear hlb
  obtain ⟨ga, hga⟩ : ∃ o, o = a.good := ⟨_, rfl⟩
  have Hga := vlt hga
  simp only [← hga] at d3
  clear hga
  obtain ⟨gb, hgb⟩ : ∃ o, o = b.good := ⟨_, rfl⟩
  have Hgb := vlt hgb
  simp only [← hgb] at d4
  clear hgb
  go_upto_region 3 with fail
  cases la
  case true =>
    refine plain_start (S := fun W' => Below V0.heap.size V0 W') (by kernel_rfl) (Below.refl _ _) (fun hHeld => ?_)
    refine wpAnyH_take (i := 0) (oi := ⟨(some 14), _, _, _, _, _⟩) (v := .agg a.cells.toArray) rfl (by kernel_rfl) (by kernel_rfl) (by kernel_rfl) (fun _ _ _ h => h) (yieldsIf_load_mid (by rfl) _ _ rfl (w.heap.size) 0 rfl a.cells _ (fun W' hW' => ed_allR (row_next2 gA0 hW')) (Try.underlying28) rfl (by rw [Ed.cells_len HA.out]; kernel_rfl)) hHeld ?_
    try simp only [pu]
    refine wpAnyH_ready (rs := [1]) (by kernel_rfl) (by simp) ?_
    refine AllReadyH.cons (i := 1) (o := ⟨(some 15), _, _, _, _, _⟩) rfl (fun K hK => ?_) AllReadyH.nil
    go_simp
    refine (d1 _).mono ?_
    rintro e r3W1 ⟨rfl, r3h1⟩
    refine hK.out _ _ (below_next hHeld hHeld.size r3h1) (fun hHeld => ?_)
    clear hK K r3h1
    try simp only [pu]
    refine wpAnyH_take (i := 2) (oi := ⟨(some 16), _, _, _, _, _⟩) (v := .bool true) rfl (by kernel_rfl) (by kernel_rfl) (by kernel_rfl) (fun _ _ _ h => h) (Or.inl ⟨by rfl, ?yr3_2⟩) hHeld ?_
    case yr3_2 => (intro W0 hSw; go_simp; try with_reducible rfl)
    try simp only [pu]
    refine wpAnyH_take (i := 3) (oi := ⟨(some 17), _, _, _, _, _⟩) (v := undef) rfl (by kernel_rfl) (by kernel_rfl) (by kernel_rfl) (fun _ _ _ h => h) (Or.inr ⟨by rfl, rfl⟩) hHeld ?_
    try simp only [pu]
    refine wpAnyH_take (i := 4) (oi := ⟨(some 18), _, _, _, _, _⟩) (v := undef) rfl (by kernel_rfl) (by kernel_rfl) (by kernel_rfl) (fun _ _ _ h => h) (Or.inr ⟨by rfl, rfl⟩) hHeld ?_
    try simp only [pu]
    refine wpAnyH_take (i := 5) (oi := ⟨(some 19), _, _, _, _, _⟩) (v := .bool true) rfl (by kernel_rfl) (by kernel_rfl) (by kernel_rfl) (fun _ _ _ h => h) (Or.inl ⟨by rfl, ?yr3_5⟩) hHeld ?_
    case yr3_5 => (intro W0 hSw; go_simp; try with_reducible rfl)
    try simp only [pu]
    refine wpAnyH_take (i := 6) (oi := ⟨(some 20), _, _, _, _, _⟩) (v := .bool true) rfl (by kernel_rfl) (by kernel_rfl) (by kernel_rfl) (fun _ _ _ h => h) (Or.inl ⟨by rfl, ?yr3_6⟩) hHeld ?_
    case yr3_6 => (intro W0 hSw; go_simp; try with_reducible rfl)
    try simp only [pu]
    refine wpAnyH_take (i := 7) (oi := ⟨(some 21), _, _, _, _, _⟩) (v := undef) rfl (by kernel_rfl) (by kernel_rfl) (by kernel_rfl) (fun _ _ _ h => h) (Or.inr ⟨by rfl, rfl⟩) hHeld ?_
    try simp only [pu]
    refine wpAnyH_take (i := 8) (oi := ⟨(some 22), _, _, _, _, _⟩) (v := undef) rfl (by kernel_rfl) (by kernel_rfl) (by kernel_rfl) (fun _ _ _ h => h) (Or.inr ⟨by rfl, rfl⟩) hHeld ?_
    try simp only [pu]
    refine wpAnyH_take (i := 9) (oi := ⟨(some 23), _, _, _, _, _⟩) (v := undef) rfl (by kernel_rfl) (by kernel_rfl) (by kernel_rfl) (fun _ _ _ h => h) (Or.inr ⟨by rfl, rfl⟩) hHeld ?_
    try simp only [pu]
    refine wpAnyH_take (i := 10) (oi := ⟨(some 24), _, _, _, _, _⟩) (v := .bool true) rfl (by kernel_rfl) (by kernel_rfl) (by kernel_rfl) (fun _ _ _ h => h) (Or.inl ⟨by rfl, ?yr3_10⟩) hHeld ?_
    case yr3_10 => (intro W0 hSw; go_simp; try with_reducible rfl)
    try simp only [pu]
    refine wpAnyH_done (by kernel_rfl) ?_ _
    go_wp2
    go_ret
    exact ⟨rfl, below_next hb0 hb0.size hHeld⟩
  cases lb
  case true =>
    refine plain_start (S := fun W' => Below V0.heap.size V0 W') (by kernel_rfl) (Below.refl _ _) (fun hHeld => ?_)
    refine wpAnyH_take (i := 0) (oi := ⟨(some 14), _, _, _, _, _⟩) (v := .agg a.cells.toArray) rfl (by kernel_rfl) (by kernel_rfl) (by kernel_rfl) (fun _ _ _ h => h) (yieldsIf_load_mid (by rfl) _ _ rfl (w.heap.size) 0 rfl a.cells _ (fun W' hW' => ed_allR (row_next2 gA0 hW')) (Try.underlying28) rfl (by rw [Ed.cells_len HA.out]; kernel_rfl)) hHeld ?_
    try simp only [pu]
    refine wpAnyH_ready (rs := [1]) (by kernel_rfl) (by simp) ?_
    refine AllReadyH.cons (i := 1) (o := ⟨(some 15), _, _, _, _, _⟩) rfl (fun K hK => ?_) AllReadyH.nil
    go_simp
    refine (d1 _).mono ?_
    rintro e r3W1 ⟨rfl, r3h1⟩
    refine hK.out _ _ (below_next hHeld hHeld.size r3h1) (fun hHeld => ?_)
    clear hK K r3h1
    try simp only [pu]
    refine wpAnyH_take (i := 2) (oi := ⟨(some 16), _, _, _, _, _⟩) (v := .bool false) rfl (by kernel_rfl) (by kernel_rfl) (by kernel_rfl) (fun _ _ _ h => h) (Or.inl ⟨by rfl, ?yr3_2⟩) hHeld ?_
    case yr3_2 => (intro W0 hSw; go_simp; try with_reducible rfl)
    try simp only [pu]
    refine wpAnyH_take (i := 3) (oi := ⟨(some 17), _, _, _, _, _⟩) (v := .agg b.cells.toArray) rfl (by kernel_rfl) (by kernel_rfl) (by kernel_rfl) (fun _ _ _ h => h) (yieldsIf_load_mid (by rfl) _ _ rfl ((w.heap.size + 1)) 0 rfl b.cells _ (fun W' hW' => ed_allR (row_next2 gB0 hW')) (Try.underlying28) rfl (by rw [Ed.cells_len HB.out]; kernel_rfl)) hHeld ?_
    try simp only [pu]
    refine wpAnyH_ready (rs := [4]) (by kernel_rfl) (by simp) ?_
    refine AllReadyH.cons (i := 4) (o := ⟨(some 18), _, _, _, _, _⟩) rfl (fun K hK => ?_) AllReadyH.nil
    go_simp
    refine (d2 _).mono ?_
    rintro e r3W2 ⟨rfl, r3h2⟩
    refine hK.out _ _ (below_next hHeld hHeld.size r3h2) (fun hHeld => ?_)
    clear hK K r3h2
    try simp only [pu]
    refine wpAnyH_take (i := 5) (oi := ⟨(some 19), _, _, _, _, _⟩) (v := .bool true) rfl (by kernel_rfl) (by kernel_rfl) (by kernel_rfl) (fun _ _ _ h => h) (Or.inl ⟨by rfl, ?yr3_5⟩) hHeld ?_
    case yr3_5 => (intro W0 hSw; go_simp; try with_reducible rfl)
    try simp only [pu]
    refine wpAnyH_take (i := 6) (oi := ⟨(some 20), _, _, _, _, _⟩) (v := .bool true) rfl (by kernel_rfl) (by kernel_rfl) (by kernel_rfl) (fun _ _ _ h => h) (Or.inl ⟨by rfl, ?yr3_6⟩) hHeld ?_
    case yr3_6 => (intro W0 hSw; go_simp; try with_reducible rfl)
    try simp only [pu]
    refine wpAnyH_take (i := 7) (oi := ⟨(some 21), _, _, _, _, _⟩) (v := undef) rfl (by kernel_rfl) (by kernel_rfl) (by kernel_rfl) (fun _ _ _ h => h) (Or.inr ⟨by rfl, rfl⟩) hHeld ?_
    try simp only [pu]
    refine wpAnyH_take (i := 8) (oi := ⟨(some 22), _, _, _, _, _⟩) (v := undef) rfl (by kernel_rfl) (by kernel_rfl) (by kernel_rfl) (fun _ _ _ h => h) (Or.inr ⟨by rfl, rfl⟩) hHeld ?_
    try simp only [pu]
    refine wpAnyH_take (i := 9) (oi := ⟨(some 23), _, _, _, _, _⟩) (v := undef) rfl (by kernel_rfl) (by kernel_rfl) (by kernel_rfl) (fun _ _ _ h => h) (Or.inr ⟨by rfl, rfl⟩) hHeld ?_
    try simp only [pu]
    refine wpAnyH_take (i := 10) (oi := ⟨(some 24), _, _, _, _, _⟩) (v := .bool true) rfl (by kernel_rfl) (by kernel_rfl) (by kernel_rfl) (fun _ _ _ h => h) (Or.inl ⟨by rfl, ?yr3_10⟩) hHeld ?_
    case yr3_10 => (intro W0 hSw; go_simp; try with_reducible rfl)
    try simp only [pu]
    refine wpAnyH_done (by kernel_rfl) ?_ _
    go_wp2
    go_ret
    exact ⟨rfl, below_next hb0 hb0.size hHeld⟩
  cases ga
  case false =>
    refine plain_start (S := fun W' => Below V0.heap.size V0 W') (by kernel_rfl) (Below.refl _ _) (fun hHeld => ?_)
    refine wpAnyH_take (i := 0) (oi := ⟨(some 14), _, _, _, _, _⟩) (v := .agg a.cells.toArray) rfl (by kernel_rfl) (by kernel_rfl) (by kernel_rfl) (fun _ _ _ h => h) (yieldsIf_load_mid (by rfl) _ _ rfl (w.heap.size) 0 rfl a.cells _ (fun W' hW' => ed_allR (row_next2 gA0 hW')) (Try.underlying28) rfl (by rw [Ed.cells_len HA.out]; kernel_rfl)) hHeld ?_
    try simp only [pu]
    refine wpAnyH_ready (rs := [1]) (by kernel_rfl) (by simp) ?_
    refine AllReadyH.cons (i := 1) (o := ⟨(some 15), _, _, _, _, _⟩) rfl (fun K hK => ?_) AllReadyH.nil
    go_simp
    refine (d1 _).mono ?_
    rintro e r3W1 ⟨rfl, r3h1⟩
    refine hK.out _ _ (below_next hHeld hHeld.size r3h1) (fun hHeld => ?_)
    clear hK K r3h1
    try simp only [pu]
    refine wpAnyH_take (i := 2) (oi := ⟨(some 16), _, _, _, _, _⟩) (v := .bool false) rfl (by kernel_rfl) (by kernel_rfl) (by kernel_rfl) (fun _ _ _ h => h) (Or.inl ⟨by rfl, ?yr3_2⟩) hHeld ?_
    case yr3_2 => (intro W0 hSw; go_simp; try with_reducible rfl)
    try simp only [pu]
    refine wpAnyH_take (i := 3) (oi := ⟨(some 17), _, _, _, _, _⟩) (v := .agg b.cells.toArray) rfl (by kernel_rfl) (by kernel_rfl) (by kernel_rfl) (fun _ _ _ h => h) (yieldsIf_load_mid (by rfl) _ _ rfl ((w.heap.size + 1)) 0 rfl b.cells _ (fun W' hW' => ed_allR (row_next2 gB0 hW')) (Try.underlying28) rfl (by rw [Ed.cells_len HB.out]; kernel_rfl)) hHeld ?_
    try simp only [pu]
    refine wpAnyH_ready (rs := [4]) (by kernel_rfl) (by simp) ?_
    refine AllReadyH.cons (i := 4) (o := ⟨(some 18), _, _, _, _, _⟩) rfl (fun K hK => ?_) AllReadyH.nil
    go_simp
    refine (d2 _).mono ?_
    rintro e r3W2 ⟨rfl, r3h2⟩
    refine hK.out _ _ (below_next hHeld hHeld.size r3h2) (fun hHeld => ?_)
    clear hK K r3h2
    try simp only [pu]
    refine wpAnyH_take (i := 5) (oi := ⟨(some 19), _, _, _, _, _⟩) (v := .bool false) rfl (by kernel_rfl) (by kernel_rfl) (by kernel_rfl) (fun _ _ _ h => h) (Or.inl ⟨by rfl, ?yr3_5⟩) hHeld ?_
    case yr3_5 => (intro W0 hSw; go_simp; try with_reducible rfl)
    try simp only [pu]
    refine wpAnyH_take (i := 6) (oi := ⟨(some 20), _, _, _, _, _⟩) (v := .bool false) rfl (by kernel_rfl) (by kernel_rfl) (by kernel_rfl) (fun _ _ _ h => h) (Or.inl ⟨by rfl, ?yr3_6⟩) hHeld ?_
    case yr3_6 => (intro W0 hSw; go_simp; try with_reducible rfl)
    try simp only [pu]
    refine wpAnyH_take (i := 7) (oi := ⟨(some 21), _, _, _, _, _⟩) (v := .agg a.cells.toArray) rfl (by kernel_rfl) (by kernel_rfl) (by kernel_rfl) (fun _ _ _ h => h) (yieldsIf_load_mid (by rfl) _ _ rfl (w.heap.size) 0 rfl a.cells _ (fun W' hW' => ed_allR (row_next2 gA0 hW')) (Try.underlying28) rfl (by rw [Ed.cells_len HA.out]; kernel_rfl)) hHeld ?_
    try simp only [pu]
    refine wpAnyH_ready (rs := [8]) (by kernel_rfl) (by simp) ?_
    refine AllReadyH.cons (i := 8) (o := ⟨(some 22), _, _, _, _, _⟩) rfl (fun K hK => ?_) AllReadyH.nil
    go_simp
    refine (d3 _).mono ?_
    rintro e r3W3 ⟨rfl, r3h3⟩
    refine hK.out _ _ (below_next hHeld hHeld.size r3h3) (fun hHeld => ?_)
    clear hK K r3h3
    try simp only [pu]
    refine wpAnyH_take (i := 9) (oi := ⟨(some 23), _, _, _, _, _⟩) (v := .bool true) rfl (by kernel_rfl) (by kernel_rfl) (by kernel_rfl) (fun _ _ _ h => h) (Or.inl ⟨by rfl, ?yr3_9⟩) hHeld ?_
    case yr3_9 => (intro W0 hSw; go_simp; try with_reducible rfl)
    try simp only [pu]
    refine wpAnyH_take (i := 10) (oi := ⟨(some 24), _, _, _, _, _⟩) (v := .bool true) rfl (by kernel_rfl) (by kernel_rfl) (by kernel_rfl) (fun _ _ _ h => h) (Or.inl ⟨by rfl, ?yr3_10⟩) hHeld ?_
    case yr3_10 => (intro W0 hSw; go_simp; try with_reducible rfl)
    try simp only [pu]
    refine wpAnyH_done (by kernel_rfl) ?_ _
    go_wp2
    go_ret
    exact ⟨rfl, below_next hb0 hb0.size hHeld⟩
  refine plain_start (S := fun W' => Below V0.heap.size V0 W') (by kernel_rfl) (Below.refl _ _) (fun hHeld => ?_)
  refine wpAnyH_take (i := 0) (oi := ⟨(some 14), _, _, _, _, _⟩) (v := .agg a.cells.toArray) rfl (by kernel_rfl) (by kernel_rfl) (by kernel_rfl) (fun _ _ _ h => h) (yieldsIf_load_mid (by rfl) _ _ rfl (w.heap.size) 0 rfl a.cells _ (fun W' hW' => ed_allR (row_next2 gA0 hW')) (Try.underlying28) rfl (by rw [Ed.cells_len HA.out]; kernel_rfl)) hHeld ?_
  try simp only [pu]
  refine wpAnyH_ready (rs := [1]) (by kernel_rfl) (by simp) ?_
  refine AllReadyH.cons (i := 1) (o := ⟨(some 15), _, _, _, _, _⟩) rfl (fun K hK => ?_) AllReadyH.nil
  go_simp
  refine (d1 _).mono ?_
  rintro e r3W1 ⟨rfl, r3h1⟩
  refine hK.out _ _ (below_next hHeld hHeld.size r3h1) (fun hHeld => ?_)
  clear hK K r3h1
  try simp only [pu]
  refine wpAnyH_take (i := 2) (oi := ⟨(some 16), _, _, _, _, _⟩) (v := .bool false) rfl (by kernel_rfl) (by kernel_rfl) (by kernel_rfl) (fun _ _ _ h => h) (Or.inl ⟨by rfl, ?yr3_2⟩) hHeld ?_
  case yr3_2 => (intro W0 hSw; go_simp; try with_reducible rfl)
  try simp only [pu]
  refine wpAnyH_take (i := 3) (oi := ⟨(some 17), _, _, _, _, _⟩) (v := .agg b.cells.toArray) rfl (by kernel_rfl) (by kernel_rfl) (by kernel_rfl) (fun _ _ _ h => h) (yieldsIf_load_mid (by rfl) _ _ rfl ((w.heap.size + 1)) 0 rfl b.cells _ (fun W' hW' => ed_allR (row_next2 gB0 hW')) (Try.underlying28) rfl (by rw [Ed.cells_len HB.out]; kernel_rfl)) hHeld ?_
  try simp only [pu]
  refine wpAnyH_ready (rs := [4]) (by kernel_rfl) (by simp) ?_
  refine AllReadyH.cons (i := 4) (o := ⟨(some 18), _, _, _, _, _⟩) rfl (fun K hK => ?_) AllReadyH.nil
  go_simp
  refine (d2 _).mono ?_
  rintro e r3W2 ⟨rfl, r3h2⟩
  refine hK.out _ _ (below_next hHeld hHeld.size r3h2) (fun hHeld => ?_)
  clear hK K r3h2
  try simp only [pu]
  refine wpAnyH_take (i := 5) (oi := ⟨(some 19), _, _, _, _, _⟩) (v := .bool false) rfl (by kernel_rfl) (by kernel_rfl) (by kernel_rfl) (fun _ _ _ h => h) (Or.inl ⟨by rfl, ?yr3_5⟩) hHeld ?_
  case yr3_5 => (intro W0 hSw; go_simp; try with_reducible rfl)
  try simp only [pu]
  refine wpAnyH_take (i := 6) (oi := ⟨(some 20), _, _, _, _, _⟩) (v := .bool false) rfl (by kernel_rfl) (by kernel_rfl) (by kernel_rfl) (fun _ _ _ h => h) (Or.inl ⟨by rfl, ?yr3_6⟩) hHeld ?_
  case yr3_6 => (intro W0 hSw; go_simp; try with_reducible rfl)
  try simp only [pu]
  refine wpAnyH_take (i := 7) (oi := ⟨(some 21), _, _, _, _, _⟩) (v := .agg a.cells.toArray) rfl (by kernel_rfl) (by kernel_rfl) (by kernel_rfl) (fun _ _ _ h => h) (yieldsIf_load_mid (by rfl) _ _ rfl (w.heap.size) 0 rfl a.cells _ (fun W' hW' => ed_allR (row_next2 gA0 hW')) (Try.underlying28) rfl (by rw [Ed.cells_len HA.out]; kernel_rfl)) hHeld ?_
  try simp only [pu]
  refine wpAnyH_ready (rs := [8]) (by kernel_rfl) (by simp) ?_
  refine AllReadyH.cons (i := 8) (o := ⟨(some 22), _, _, _, _, _⟩) rfl (fun K hK => ?_) AllReadyH.nil
  go_simp
  refine (d3 _).mono ?_
  rintro e r3W3 ⟨rfl, r3h3⟩
  refine hK.out _ _ (below_next hHeld hHeld.size r3h3) (fun hHeld => ?_)
  clear hK K r3h3
  try simp only [pu]
  refine wpAnyH_take (i := 9) (oi := ⟨(some 23), _, _, _, _, _⟩) (v := .bool false) rfl (by kernel_rfl) (by kernel_rfl) (by kernel_rfl) (fun _ _ _ h => h) (Or.inl ⟨by rfl, ?yr3_9⟩) hHeld ?_
  case yr3_9 => (intro W0 hSw; go_simp; try with_reducible rfl)
  try simp only [pu]
  refine wpAnyH_take (i := 10) (oi := ⟨(some 24), _, _, _, _, _⟩) (v := .bool false) rfl (by kernel_rfl) (by kernel_rfl) (by kernel_rfl) (fun _ _ _ h => h) (Or.inl ⟨by rfl, ?yr3_10⟩) hHeld ?_
  case yr3_10 => (intro W0 hSw; go_simp; try with_reducible rfl)
  try simp only [pu]
  refine wpAnyH_done (by kernel_rfl) ?_ _
  obtain ⟨V1, hV⟩ : ∃ V, V = r3W3 := ⟨_, rfl⟩
  subst hV
  have gA1 := row_next2 gA0 hHeld
  have gB1 := row_next2 gB0 hHeld
  have hb1 := below_next hb0 hb0.size hHeld
  clear hHeld hb0 gA0 gB0
  clear d1 d2 d3
  have hput := oput_any V1 a HA.out
  have hpb := fun w => oput_any w b HB.out
  have hle := put_le HA.out Hga.out.symm
  have hgp := eget_put HA.out Hga.out.symm
  have hct := fun k => eget_cut HA.out Hga.out.symm (k := k)
  have hin := fun h => put_inj HA.out HB.out Hga.out.symm h
  obtain ⟨P, hP⟩ : ∃ P, P = a.put := ⟨_, rfl⟩
  obtain ⟨Q, hQ⟩ : ∃ Q, Q = b.put := ⟨_, rfl⟩
  rw [← hP] at hput hle hgp
  simp only [← hP] at hct hin
  simp only [← hQ] at hin hpb
  have HCT := Lib.hid hct
  clear hP hQ hct
  go_wp2_with (with_reducible refine wpList_load_row rfl 28 (.tmp 3) rfl w.heap.size rfl 28 a.cells.toArray (0, 0) _ gA1.out Try.underlying28 rfl (by rw [Ed.cells_size HA.out]; kernel_rfl) ?_)
  refine hput.mono ?_
  rintro e V2 ⟨A2, n2, c2, rfl, hr2, hb⟩
  have hl2 := hr2.len
  have hc2 := hr2.cap
  have hy2 := hr2.byt
  have hn2 : n2 ≤ 415 := by omega
  have gA2 := row_next2 gA1 hb
  have gB2 := row_next2 gB1 hb
  have hb2 := below_next hb1 hb1.size hb
  have hget := oget_some V2 A2 P n2 c2 a hgp hy2 hl2 (by omega)
  have HL2 := Lib.hid hl2
  clear hput hr2 hb gA1 gB1 hb1 hgp hle hl2
  go_wp2_with fail
  refine hget.mono ?_
  rintro e V3 ⟨rfl, hb⟩
  have gA3 := row_next2 gA2 hb
  have gB3 := row_next2 gB2 hb
  have hb3 := below_next hb2 hb2.size hb
  have hy3 := hy2.next hb
  clear hget hb gA2 gB2 hb2 hy2
  go_upto_region 7 with ((with_reducible refine wpList_store_row rfl 28 (.tmp 8) (.tmp 30) rfl V3.heap.size a.cells.toArray rfl (by kernel_rfl) 28 _ (heap_alloc_new _ _) (by rw [Ed.cells_size HA.out]; kernel_rfl) (by rw [Ed.cells_size HA.out]; kernel_rfl) (all_oneCell_toArray (Ed.cells_one _)) ?_); rw [World.setRow_alloc_new])
  obtain ⟨V4, hV⟩ : ∃ V, V = V3.alloc (.cells a.cells.toArray 28) := ⟨_, rfl⟩
  have gX4 := new_row V3 a.cells.toArray 28
  have gA4 := row_alloc (o := .cells a.cells.toArray 28) gA3
  have gB4 := row_alloc (o := .cells a.cells.toArray 28) gB3
  have hbn := (Below.refl V3.heap.size V3).alloc (Nat.le_refl _) (.cells a.cells.toArray 28)
  rw [← hV] at gX4 gA4 gB4 hbn ⊢
  have hy4 := hy3.next hbn
  have hb4 := below_next hb3 hb3.size hbn
  obtain ⟨X, hX⟩ : ∃ X, X = V3.heap.size := ⟨_, rfl⟩
  rw [← hX] at gX4 ⊢
  clear hV hX gA3 gB3 hb3 hy3 hbn
  have q1 := neq_edit a a HA.out HA.out true (by simp)
  obtain ⟨s1, hs1⟩ : ∃ s : ByteArray, s = ⟨P.toArray⟩ := ⟨_, rfl⟩
  obtain ⟨s2, hs2⟩ : ∃ s : ByteArray, s = ⟨Q.toArray⟩ := ⟨_, rfl⟩
  have HS1 := vlt hs1
  have HS2 := vlt hs2
  have ePQ := text_of hs1 hs2
  obtain ⟨z, hz⟩ : ∃ z, z = decide (a = b) := ⟨_, rfl⟩
  have q2 := eql_edit a b HA.out HB.out z hz.symm
  clear hs1 hs2
  have htail : ∀ V5 : World, Below V4.heap.size V4 V5 → Byt V5 V5.heap.size A2 P ∧ Below w.heap.size w V5 := fun V5 h => ⟨hy4.next h, below_next hb4 hb4.size h⟩
  cases gb
  case false =>
    clear hin hpb hz q2 ePQ
    refine wp_region_held_drew (S := fun W' => Below V4.heap.size V4 W') (by kernel_rfl) ((Below.refl _ _).drew) (fun hHeld => ?_)
    refine wpAnyH_take (i := 0) (oi := ⟨(some 32), _, _, _, _, _⟩) (v := .int .i64 0) rfl (by kernel_rfl) (by kernel_rfl) (by kernel_rfl) (fun _ _ _ h => h) (Or.inl ⟨by rfl, ?yr7_0⟩) hHeld ?_
    case yr7_0 => (intro W0 hSw; go_simp; try with_reducible rfl)
    try simp only [pu]
    refine wpAnyH_take (i := 1) (oi := ⟨(some 33), _, _, _, _, _⟩) (v := .bool false) rfl (by kernel_rfl) (by kernel_rfl) (by kernel_rfl) (fun _ _ _ h => h) (Or.inl ⟨by rfl, ?yr7_1⟩) hHeld ?_
    case yr7_1 => (intro W0 hSw; go_simp; try with_reducible rfl)
    try simp only [pu]
    refine wpAnyH_take (i := 2) (oi := ⟨(some 34), _, _, _, _, _⟩) (v := .bool false) rfl (by kernel_rfl) (by kernel_rfl) (by kernel_rfl) (fun _ _ _ h => h) (Or.inl ⟨by rfl, ?yr7_2⟩) hHeld ?_
    case yr7_2 => (intro W0 hSw; go_simp; try with_reducible rfl)
    try simp only [pu]
    refine wpAnyH_take (i := 3) (oi := ⟨(some 35), _, _, _, _, _⟩) (v := .agg a.cells.toArray) rfl (by kernel_rfl) (by kernel_rfl) (by kernel_rfl) (fun _ _ _ h => h) (yieldsIf_load_mid (by rfl) _ _ rfl X 0 rfl a.cells _ (fun W' hW' => ed_allR (row_next2 gX4 hW')) (Try.underlying28) rfl (by rw [Ed.cells_len HA.out]; kernel_rfl)) hHeld ?_
    try simp only [pu]
    refine wpAnyH_take (i := 4) (oi := ⟨(some 36), _, _, _, _, _⟩) (v := .agg a.cells.toArray) rfl (by kernel_rfl) (by kernel_rfl) (by kernel_rfl) (fun _ _ _ h => h) (yieldsIf_load_mid (by rfl) _ _ rfl (w.heap.size) 0 rfl a.cells _ (fun W' hW' => ed_allR (row_next2 gA4 hW')) (Try.underlying28) rfl (by rw [Ed.cells_len HA.out]; kernel_rfl)) hHeld ?_
    try simp only [pu]
    refine wpAnyH_take (i := 5) (oi := ⟨(some 37), _, _, _, _, _⟩) (v := .bool false) rfl (by kernel_rfl) (by kernel_rfl) (by kernel_rfl) (fun _ _ _ h => h) (Or.inl ⟨by rfl, ?yr7_5⟩) hHeld ?_
    case yr7_5 => (intro W0 hSw; go_simp; try simp only [q1]; try with_reducible rfl)
    try simp only [pu]
    refine wpAnyH_take (i := 6) (oi := ⟨(some 38), _, _, _, _, _⟩) (v := .bool false) rfl (by kernel_rfl) (by kernel_rfl) (by kernel_rfl) (fun _ _ _ h => h) (Or.inl ⟨by rfl, ?yr7_6⟩) hHeld ?_
    case yr7_6 => (intro W0 hSw; go_simp; try with_reducible rfl)
    try simp only [pu]
    refine wpAnyH_take (i := 7) (oi := ⟨(some 39), _, _, _, _, _⟩) (v := .bool false) rfl (by kernel_rfl) (by kernel_rfl) (by kernel_rfl) (fun _ _ _ h => h) (Or.inl ⟨by rfl, ?yr7_7⟩) hHeld ?_
    case yr7_7 => (intro W0 hSw; go_simp; try with_reducible rfl)
    try simp only [pu]
    refine wpAnyH_take (i := 8) (oi := ⟨(some 40), _, _, _, _, _⟩) (v := .agg b.cells.toArray) rfl (by kernel_rfl) (by kernel_rfl) (by kernel_rfl) (fun _ _ _ h => h) (yieldsIf_load_mid (by rfl) _ _ rfl ((w.heap.size + 1)) 0 rfl b.cells _ (fun W' hW' => ed_allR (row_next2 gB4 hW')) (Try.underlying28) rfl (by rw [Ed.cells_len HB.out]; kernel_rfl)) hHeld ?_
    try simp only [pu]
    refine wpAnyH_ready (rs := [9]) (by kernel_rfl) (by simp) ?_
    refine AllReadyH.cons (i := 9) (o := ⟨(some 41), _, _, _, _, _⟩) rfl (fun K hK => ?_) AllReadyH.nil
    go_simp
    refine (d4 _).mono ?_
    rintro e r7W1 ⟨rfl, r7h1⟩
    refine hK.out _ _ (below_next hHeld hHeld.size r7h1) (fun hHeld => ?_)
    clear hK K r7h1
    try simp only [pu]
    refine wpAnyH_take (i := 10) (oi := ⟨(some 42), _, _, _, _, _⟩) (v := .bool false) rfl (by kernel_rfl) (by kernel_rfl) (by kernel_rfl) (fun _ _ _ h => h) (Or.inl ⟨by rfl, ?yr7_10⟩) hHeld ?_
    case yr7_10 => (intro W0 hSw; go_simp; try with_reducible rfl)
    try simp only [pu]
    refine wpAnyH_take (i := 11) (oi := ⟨(some 43), _, _, _, _, _⟩) (v := undef) rfl (by kernel_rfl) (by kernel_rfl) (by kernel_rfl) (fun _ _ _ h => h) (Or.inr ⟨by rfl, rfl⟩) hHeld ?_
    try simp only [pu]
    refine wpAnyH_take (i := 12) (oi := ⟨(some 44), _, _, _, _, _⟩) (v := undef) rfl (by kernel_rfl) (by kernel_rfl) (by kernel_rfl) (fun _ _ _ h => h) (Or.inr ⟨by rfl, rfl⟩) hHeld ?_
    try simp only [pu]
    refine wpAnyH_take (i := 13) (oi := ⟨(some 45), _, _, _, _, _⟩) (v := undef) rfl (by kernel_rfl) (by kernel_rfl) (by kernel_rfl) (fun _ _ _ h => h) (Or.inr ⟨by rfl, rfl⟩) hHeld ?_
    try simp only [pu]
    refine wpAnyH_take (i := 14) (oi := ⟨(some 46), _, _, _, _, _⟩) (v := undef) rfl (by kernel_rfl) (by kernel_rfl) (by kernel_rfl) (fun _ _ _ h => h) (Or.inr ⟨by rfl, rfl⟩) hHeld ?_
    try simp only [pu]
    refine wpAnyH_take (i := 15) (oi := ⟨(some 47), _, _, _, _, _⟩) (v := undef) rfl (by kernel_rfl) (by kernel_rfl) (by kernel_rfl) (fun _ _ _ h => h) (Or.inr ⟨by rfl, rfl⟩) hHeld ?_
    try simp only [pu]
    refine wpAnyH_take (i := 16) (oi := ⟨(some 48), _, _, _, _, _⟩) (v := undef) rfl (by kernel_rfl) (by kernel_rfl) (by kernel_rfl) (fun _ _ _ h => h) (Or.inr ⟨by rfl, rfl⟩) hHeld ?_
    try simp only [pu]
    refine wpAnyH_take (i := 17) (oi := ⟨(some 49), _, _, _, _, _⟩) (v := undef) rfl (by kernel_rfl) (by kernel_rfl) (by kernel_rfl) (fun _ _ _ h => h) (Or.inr ⟨by rfl, rfl⟩) hHeld ?_
    try simp only [pu]
    refine wpAnyH_take (i := 18) (oi := ⟨(some 50), _, _, _, _, _⟩) (v := undef) rfl (by kernel_rfl) (by kernel_rfl) (by kernel_rfl) (fun _ _ _ h => h) (Or.inr ⟨by rfl, rfl⟩) hHeld ?_
    try simp only [pu]
    refine wpAnyH_take (i := 19) (oi := ⟨(some 51), _, _, _, _, _⟩) (v := undef) rfl (by kernel_rfl) (by kernel_rfl) (by kernel_rfl) (fun _ _ _ h => h) (Or.inr ⟨by rfl, rfl⟩) hHeld ?_
    try simp only [pu]
    refine wpAnyH_take (i := 20) (oi := ⟨(some 52), _, _, _, _, _⟩) (v := undef) rfl (by kernel_rfl) (by kernel_rfl) (by kernel_rfl) (fun _ _ _ h => h) (Or.inr ⟨by rfl, rfl⟩) hHeld ?_
    try simp only [pu]
    refine wpAnyH_take (i := 21) (oi := ⟨(some 53), _, _, _, _, _⟩) (v := .bool false) rfl (by kernel_rfl) (by kernel_rfl) (by kernel_rfl) (fun _ _ _ h => h) (Or.inl ⟨by rfl, ?yr7_21⟩) hHeld ?_
    case yr7_21 => (intro W0 hSw; go_simp; try with_reducible rfl)
    try simp only [pu]
    refine wpAnyH_take (i := 22) (oi := ⟨(some 54), _, _, _, _, _⟩) (v := .bool false) rfl (by kernel_rfl) (by kernel_rfl) (by kernel_rfl) (fun _ _ _ h => h) (Or.inl ⟨by rfl, ?yr7_22⟩) hHeld ?_
    case yr7_22 => (intro W0 hSw; go_simp; try with_reducible rfl)
    try simp only [pu]
    refine wpAnyH_done (by kernel_rfl) ?_ _
    obtain ⟨hy5, hb5⟩ := htail _ hHeld
    obtain ⟨V5, hV⟩ : ∃ V, V = r7W1 := ⟨_, rfl⟩
    subst hV
    clear hHeld htail hy4 hb4 gA4 gB4 gX4 q1
    by_cases h0 : x < 0
    · go_wp2
      go_ret
      exact ⟨rfl, hb5⟩
    obtain ⟨k, rfl⟩ : ∃ k : Nat, x = (k : Int) := ⟨x.toNat, by omega⟩
    by_cases h1 : (n2 : Int) ≤ (k : Int)
    · go_wp2
      go_ret
      exact ⟨rfl, hb5⟩
    have hk : k < n2 := by omega
    have hcut := fun w0 => run_cut_h (P := Try.prog) Try.underlying29 Try.sizeByte A2 n2 c2 k (k : Int) rfl (by omega) w0
    have hget := oget_none V5 A2 (P.take k) k c2 (HCT.out k (by rw [HL2.out]; exact hk)) (hy5.take k) (by rw [List.length_take, HL2.out]; omega) (by omega)
    clear HCT
    go_wp2_with fail
    refine hget.mono ?_
    rintro e V6 ⟨rfl, hb⟩
    have hb6 := below_next hb5 hb5.size hb
    clear hget hb hy5 hb5
    go_upto_region 12 with ((with_reducible refine wpList_store_row rfl 28 (.tmp 10) (.tmp 68) rfl V6.heap.size ed0.cells.toArray rfl (by kernel_rfl) 28 _ (heap_alloc_new _ _) (by kernel_rfl) (by kernel_rfl) (all_oneCell_toArray (Ed.cells_one _)) ?_); rw [World.setRow_alloc_new])
    have hb7 := hb6.alloc hb6.size (.cells ed0.cells.toArray 28)
    go_wp2
    go_ret
    exact ⟨rfl, hb7⟩
  have hz2 := hin Hgb.out.symm
  rw [← hz] at hz2
  cases z
  case false =>
    have ePQ2 : ¬ P = Q := of_decide_eq_false hz2
    clear hin hz hz2
    refine wp_region_held_drew (S := fun W' => Below V4.heap.size V4 W') (by kernel_rfl) ((Below.refl _ _).drew) (fun hHeld => ?_)
    refine wpAnyH_take (i := 0) (oi := ⟨(some 32), _, _, _, _, _⟩) (v := .int .i64 0) rfl (by kernel_rfl) (by kernel_rfl) (by kernel_rfl) (fun _ _ _ h => h) (Or.inl ⟨by rfl, ?yr7_0⟩) hHeld ?_
    case yr7_0 => (intro W0 hSw; go_simp; try with_reducible rfl)
    try simp only [pu]
    refine wpAnyH_take (i := 1) (oi := ⟨(some 33), _, _, _, _, _⟩) (v := .bool false) rfl (by kernel_rfl) (by kernel_rfl) (by kernel_rfl) (fun _ _ _ h => h) (Or.inl ⟨by rfl, ?yr7_1⟩) hHeld ?_
    case yr7_1 => (intro W0 hSw; go_simp; try with_reducible rfl)
    try simp only [pu]
    refine wpAnyH_take (i := 2) (oi := ⟨(some 34), _, _, _, _, _⟩) (v := .bool false) rfl (by kernel_rfl) (by kernel_rfl) (by kernel_rfl) (fun _ _ _ h => h) (Or.inl ⟨by rfl, ?yr7_2⟩) hHeld ?_
    case yr7_2 => (intro W0 hSw; go_simp; try with_reducible rfl)
    try simp only [pu]
    refine wpAnyH_take (i := 3) (oi := ⟨(some 35), _, _, _, _, _⟩) (v := .agg a.cells.toArray) rfl (by kernel_rfl) (by kernel_rfl) (by kernel_rfl) (fun _ _ _ h => h) (yieldsIf_load_mid (by rfl) _ _ rfl X 0 rfl a.cells _ (fun W' hW' => ed_allR (row_next2 gX4 hW')) (Try.underlying28) rfl (by rw [Ed.cells_len HA.out]; kernel_rfl)) hHeld ?_
    try simp only [pu]
    refine wpAnyH_take (i := 4) (oi := ⟨(some 36), _, _, _, _, _⟩) (v := .agg a.cells.toArray) rfl (by kernel_rfl) (by kernel_rfl) (by kernel_rfl) (fun _ _ _ h => h) (yieldsIf_load_mid (by rfl) _ _ rfl (w.heap.size) 0 rfl a.cells _ (fun W' hW' => ed_allR (row_next2 gA4 hW')) (Try.underlying28) rfl (by rw [Ed.cells_len HA.out]; kernel_rfl)) hHeld ?_
    try simp only [pu]
    refine wpAnyH_take (i := 5) (oi := ⟨(some 37), _, _, _, _, _⟩) (v := .bool false) rfl (by kernel_rfl) (by kernel_rfl) (by kernel_rfl) (fun _ _ _ h => h) (Or.inl ⟨by rfl, ?yr7_5⟩) hHeld ?_
    case yr7_5 => (intro W0 hSw; go_simp; try simp only [q1]; try with_reducible rfl)
    try simp only [pu]
    refine wpAnyH_take (i := 6) (oi := ⟨(some 38), _, _, _, _, _⟩) (v := .bool false) rfl (by kernel_rfl) (by kernel_rfl) (by kernel_rfl) (fun _ _ _ h => h) (Or.inl ⟨by rfl, ?yr7_6⟩) hHeld ?_
    case yr7_6 => (intro W0 hSw; go_simp; try with_reducible rfl)
    try simp only [pu]
    refine wpAnyH_take (i := 7) (oi := ⟨(some 39), _, _, _, _, _⟩) (v := .bool false) rfl (by kernel_rfl) (by kernel_rfl) (by kernel_rfl) (fun _ _ _ h => h) (Or.inl ⟨by rfl, ?yr7_7⟩) hHeld ?_
    case yr7_7 => (intro W0 hSw; go_simp; try with_reducible rfl)
    try simp only [pu]
    refine wpAnyH_take (i := 8) (oi := ⟨(some 40), _, _, _, _, _⟩) (v := .agg b.cells.toArray) rfl (by kernel_rfl) (by kernel_rfl) (by kernel_rfl) (fun _ _ _ h => h) (yieldsIf_load_mid (by rfl) _ _ rfl ((w.heap.size + 1)) 0 rfl b.cells _ (fun W' hW' => ed_allR (row_next2 gB4 hW')) (Try.underlying28) rfl (by rw [Ed.cells_len HB.out]; kernel_rfl)) hHeld ?_
    try simp only [pu]
    refine wpAnyH_ready (rs := [9]) (by kernel_rfl) (by simp) ?_
    refine AllReadyH.cons (i := 9) (o := ⟨(some 41), _, _, _, _, _⟩) rfl (fun K hK => ?_) AllReadyH.nil
    go_simp
    refine (d4 _).mono ?_
    rintro e r7W1 ⟨rfl, r7h1⟩
    refine hK.out _ _ (below_next hHeld hHeld.size r7h1) (fun hHeld => ?_)
    clear hK K r7h1
    try simp only [pu]
    refine wpAnyH_take (i := 10) (oi := ⟨(some 42), _, _, _, _, _⟩) (v := .bool true) rfl (by kernel_rfl) (by kernel_rfl) (by kernel_rfl) (fun _ _ _ h => h) (Or.inl ⟨by rfl, ?yr7_10⟩) hHeld ?_
    case yr7_10 => (intro W0 hSw; go_simp; try with_reducible rfl)
    try simp only [pu]
    refine wpAnyH_take (i := 11) (oi := ⟨(some 43), _, _, _, _, _⟩) (v := .slice A2 n2 c2) rfl (by kernel_rfl) (by kernel_rfl) (by kernel_rfl) (fun _ _ _ h => h) (Or.inl ⟨by rfl, ?yr7_11⟩) hHeld ?_
    case yr7_11 => (intro W0 hSw; go_simp; try with_reducible rfl)
    try simp only [pu]
    refine wpAnyH_take (i := 12) (oi := ⟨(some 44), _, _, _, _, _⟩) (v := .string s1) rfl (by kernel_rfl) (by kernel_rfl) (by kernel_rfl) (fun _ _ _ h => h) (Or.inl ⟨by rfl, ?yr7_12⟩) hHeld ?_
    case yr7_12 => (intro W0 hSw; have hcv := conv_as HS1.out n2 c2 (hy4.next hSw) HL2.out; go_simp; try with_reducible rfl)
    try simp only [pu]
    refine wpAnyH_take (i := 13) (oi := ⟨(some 45), _, _, _, _, _⟩) (v := .agg b.cells.toArray) rfl (by kernel_rfl) (by kernel_rfl) (by kernel_rfl) (fun _ _ _ h => h) (yieldsIf_load_mid (by rfl) _ _ rfl ((w.heap.size + 1)) 0 rfl b.cells _ (fun W' hW' => ed_allR (row_next2 gB4 hW')) (Try.underlying28) rfl (by rw [Ed.cells_len HB.out]; kernel_rfl)) hHeld ?_
    try simp only [pu]
    refine wpAnyH_take (i := 17) (oi := ⟨(some 49), _, _, _, _, _⟩) (v := .agg a.cells.toArray) rfl (by kernel_rfl) (by kernel_rfl) (by kernel_rfl) (fun _ _ _ h => h) (yieldsIf_load_mid (by rfl) _ _ rfl (w.heap.size) 0 rfl a.cells _ (fun W' hW' => ed_allR (row_next2 gA4 hW')) (Try.underlying28) rfl (by rw [Ed.cells_len HA.out]; kernel_rfl)) hHeld ?_
    try simp only [pu]
    refine wpAnyH_take (i := 18) (oi := ⟨(some 50), _, _, _, _, _⟩) (v := .agg b.cells.toArray) rfl (by kernel_rfl) (by kernel_rfl) (by kernel_rfl) (fun _ _ _ h => h) (yieldsIf_load_mid (by rfl) _ _ rfl ((w.heap.size + 1)) 0 rfl b.cells _ (fun W' hW' => ed_allR (row_next2 gB4 hW')) (Try.underlying28) rfl (by rw [Ed.cells_len HB.out]; kernel_rfl)) hHeld ?_
    try simp only [pu]
    refine wpAnyH_take (i := 19) (oi := ⟨(some 51), _, _, _, _, _⟩) (v := .bool false) rfl (by kernel_rfl) (by kernel_rfl) (by kernel_rfl) (fun _ _ _ h => h) (Or.inl ⟨by rfl, ?yr7_19⟩) hHeld ?_
    case yr7_19 => (intro W0 hSw; go_simp; try simp only [q2]; try with_reducible rfl)
    try simp only [pu]
    refine wpAnyH_ready (rs := [14]) (by kernel_rfl) (by simp) ?_
    refine AllReadyH.cons (i := 14) (o := ⟨(some 46), _, _, _, _, _⟩) rfl (fun K hK => ?_) AllReadyH.nil
    go_simp
    refine (hpb _).mono ?_
    rintro e r7W2 ⟨A5, n5, c5, rfl, hr5, r7h2⟩
    have hl5 := hr5.len
    refine hK.out _ _ (below_next hHeld hHeld.size r7h2) (fun hHeld => ?_)
    clear hK K r7h2
    try simp only [pu]
    have hOld := hHeld
    refine held_more (S' := fun W' => Below r7W2.heap.size r7W2 W') (fun W h => hOld.trans (h.mono hOld.size)) _ _ _ _ ?_
    replace hHeld := Below.refl r7W2.heap.size r7W2
    refine wpAnyH_take (i := 15) (oi := ⟨(some 47), _, _, _, _, _⟩) (v := .string s2) rfl (by kernel_rfl) (by kernel_rfl) (by kernel_rfl) (fun _ _ _ h => h) (Or.inl ⟨by rfl, ?yr7_15⟩) hHeld ?_
    case yr7_15 => (intro W0 hSw; have hcv := conv_as HS2.out n5 c5 (hr5.byt.next hSw) hl5; go_simp; try with_reducible rfl)
    try simp only [pu]
    refine wpAnyH_take (i := 16) (oi := ⟨(some 48), _, _, _, _, _⟩) (v := .bool false) rfl (by kernel_rfl) (by kernel_rfl) (by kernel_rfl) (fun _ _ _ h => h) (Or.inl ⟨by rfl, ?yr7_16⟩) hHeld ?_
    case yr7_16 => (intro W0 hSw; go_simp; try simp [ePQ2])
    try simp only [pu]
    refine wpAnyH_take (i := 20) (oi := ⟨(some 52), _, _, _, _, _⟩) (v := .bool false) rfl (by kernel_rfl) (by kernel_rfl) (by kernel_rfl) (fun _ _ _ h => h) (Or.inl ⟨by rfl, ?yr7_20⟩) hHeld ?_
    case yr7_20 => (intro W0 hSw; go_simp; try with_reducible rfl)
    try simp only [pu]
    refine wpAnyH_take (i := 21) (oi := ⟨(some 53), _, _, _, _, _⟩) (v := .bool false) rfl (by kernel_rfl) (by kernel_rfl) (by kernel_rfl) (fun _ _ _ h => h) (Or.inl ⟨by rfl, ?yr7_21⟩) hHeld ?_
    case yr7_21 => (intro W0 hSw; go_simp; try with_reducible rfl)
    try simp only [pu]
    refine wpAnyH_take (i := 22) (oi := ⟨(some 54), _, _, _, _, _⟩) (v := .bool false) rfl (by kernel_rfl) (by kernel_rfl) (by kernel_rfl) (fun _ _ _ h => h) (Or.inl ⟨by rfl, ?yr7_22⟩) hHeld ?_
    case yr7_22 => (intro W0 hSw; go_simp; try with_reducible rfl)
    try simp only [pu]
    refine wpAnyH_done (by kernel_rfl) ?_ _
    obtain ⟨hy5, hb5⟩ := htail _ (hOld.trans (hHeld.mono hOld.size))
    obtain ⟨V5, hV⟩ : ∃ V, V = r7W2 := ⟨_, rfl⟩
    subst hV
    clear hHeld htail hy4 hb4 gA4 gB4 gX4 q1 q2 ePQ
    by_cases h0 : x < 0
    · go_wp2
      go_ret
      exact ⟨rfl, hb5⟩
    obtain ⟨k, rfl⟩ : ∃ k : Nat, x = (k : Int) := ⟨x.toNat, by omega⟩
    by_cases h1 : (n2 : Int) ≤ (k : Int)
    · go_wp2
      go_ret
      exact ⟨rfl, hb5⟩
    have hk : k < n2 := by omega
    have hcut := fun w0 => run_cut_h (P := Try.prog) Try.underlying29 Try.sizeByte A2 n2 c2 k (k : Int) rfl (by omega) w0
    have hget := oget_none V5 A2 (P.take k) k c2 (HCT.out k (by rw [HL2.out]; exact hk)) (hy5.take k) (by rw [List.length_take, HL2.out]; omega) (by omega)
    clear HCT
    go_wp2_with fail
    refine hget.mono ?_
    rintro e V6 ⟨rfl, hb⟩
    have hb6 := below_next hb5 hb5.size hb
    clear hget hb hy5 hb5
    go_upto_region 12 with ((with_reducible refine wpList_store_row rfl 28 (.tmp 10) (.tmp 68) rfl V6.heap.size ed0.cells.toArray rfl (by kernel_rfl) 28 _ (heap_alloc_new _ _) (by kernel_rfl) (by kernel_rfl) (all_oneCell_toArray (Ed.cells_one _)) ?_); rw [World.setRow_alloc_new])
    have hb7 := hb6.alloc hb6.size (.cells ed0.cells.toArray 28)
    go_wp2
    go_ret
    exact ⟨rfl, hb7⟩
  case true =>
    have ePQ2 : P = Q := of_decide_eq_true hz2
    clear hin hz hz2
    refine wp_region_held_drew (S := fun W' => Below V4.heap.size V4 W') (by kernel_rfl) ((Below.refl _ _).drew) (fun hHeld => ?_)
    refine wpAnyH_take (i := 0) (oi := ⟨(some 32), _, _, _, _, _⟩) (v := .int .i64 0) rfl (by kernel_rfl) (by kernel_rfl) (by kernel_rfl) (fun _ _ _ h => h) (Or.inl ⟨by rfl, ?yr7_0⟩) hHeld ?_
    case yr7_0 => (intro W0 hSw; go_simp; try with_reducible rfl)
    try simp only [pu]
    refine wpAnyH_take (i := 1) (oi := ⟨(some 33), _, _, _, _, _⟩) (v := .bool false) rfl (by kernel_rfl) (by kernel_rfl) (by kernel_rfl) (fun _ _ _ h => h) (Or.inl ⟨by rfl, ?yr7_1⟩) hHeld ?_
    case yr7_1 => (intro W0 hSw; go_simp; try with_reducible rfl)
    try simp only [pu]
    refine wpAnyH_take (i := 2) (oi := ⟨(some 34), _, _, _, _, _⟩) (v := .bool false) rfl (by kernel_rfl) (by kernel_rfl) (by kernel_rfl) (fun _ _ _ h => h) (Or.inl ⟨by rfl, ?yr7_2⟩) hHeld ?_
    case yr7_2 => (intro W0 hSw; go_simp; try with_reducible rfl)
    try simp only [pu]
    refine wpAnyH_take (i := 3) (oi := ⟨(some 35), _, _, _, _, _⟩) (v := .agg a.cells.toArray) rfl (by kernel_rfl) (by kernel_rfl) (by kernel_rfl) (fun _ _ _ h => h) (yieldsIf_load_mid (by rfl) _ _ rfl X 0 rfl a.cells _ (fun W' hW' => ed_allR (row_next2 gX4 hW')) (Try.underlying28) rfl (by rw [Ed.cells_len HA.out]; kernel_rfl)) hHeld ?_
    try simp only [pu]
    refine wpAnyH_take (i := 4) (oi := ⟨(some 36), _, _, _, _, _⟩) (v := .agg a.cells.toArray) rfl (by kernel_rfl) (by kernel_rfl) (by kernel_rfl) (fun _ _ _ h => h) (yieldsIf_load_mid (by rfl) _ _ rfl (w.heap.size) 0 rfl a.cells _ (fun W' hW' => ed_allR (row_next2 gA4 hW')) (Try.underlying28) rfl (by rw [Ed.cells_len HA.out]; kernel_rfl)) hHeld ?_
    try simp only [pu]
    refine wpAnyH_take (i := 5) (oi := ⟨(some 37), _, _, _, _, _⟩) (v := .bool false) rfl (by kernel_rfl) (by kernel_rfl) (by kernel_rfl) (fun _ _ _ h => h) (Or.inl ⟨by rfl, ?yr7_5⟩) hHeld ?_
    case yr7_5 => (intro W0 hSw; go_simp; try simp only [q1]; try with_reducible rfl)
    try simp only [pu]
    refine wpAnyH_take (i := 6) (oi := ⟨(some 38), _, _, _, _, _⟩) (v := .bool false) rfl (by kernel_rfl) (by kernel_rfl) (by kernel_rfl) (fun _ _ _ h => h) (Or.inl ⟨by rfl, ?yr7_6⟩) hHeld ?_
    case yr7_6 => (intro W0 hSw; go_simp; try with_reducible rfl)
    try simp only [pu]
    refine wpAnyH_take (i := 7) (oi := ⟨(some 39), _, _, _, _, _⟩) (v := .bool false) rfl (by kernel_rfl) (by kernel_rfl) (by kernel_rfl) (fun _ _ _ h => h) (Or.inl ⟨by rfl, ?yr7_7⟩) hHeld ?_
    case yr7_7 => (intro W0 hSw; go_simp; try with_reducible rfl)
    try simp only [pu]
    refine wpAnyH_take (i := 8) (oi := ⟨(some 40), _, _, _, _, _⟩) (v := .agg b.cells.toArray) rfl (by kernel_rfl) (by kernel_rfl) (by kernel_rfl) (fun _ _ _ h => h) (yieldsIf_load_mid (by rfl) _ _ rfl ((w.heap.size + 1)) 0 rfl b.cells _ (fun W' hW' => ed_allR (row_next2 gB4 hW')) (Try.underlying28) rfl (by rw [Ed.cells_len HB.out]; kernel_rfl)) hHeld ?_
    try simp only [pu]
    refine wpAnyH_ready (rs := [9]) (by kernel_rfl) (by simp) ?_
    refine AllReadyH.cons (i := 9) (o := ⟨(some 41), _, _, _, _, _⟩) rfl (fun K hK => ?_) AllReadyH.nil
    go_simp
    refine (d4 _).mono ?_
    rintro e r7W1 ⟨rfl, r7h1⟩
    refine hK.out _ _ (below_next hHeld hHeld.size r7h1) (fun hHeld => ?_)
    clear hK K r7h1
    try simp only [pu]
    refine wpAnyH_take (i := 10) (oi := ⟨(some 42), _, _, _, _, _⟩) (v := .bool true) rfl (by kernel_rfl) (by kernel_rfl) (by kernel_rfl) (fun _ _ _ h => h) (Or.inl ⟨by rfl, ?yr7_10⟩) hHeld ?_
    case yr7_10 => (intro W0 hSw; go_simp; try with_reducible rfl)
    try simp only [pu]
    refine wpAnyH_take (i := 11) (oi := ⟨(some 43), _, _, _, _, _⟩) (v := .slice A2 n2 c2) rfl (by kernel_rfl) (by kernel_rfl) (by kernel_rfl) (fun _ _ _ h => h) (Or.inl ⟨by rfl, ?yr7_11⟩) hHeld ?_
    case yr7_11 => (intro W0 hSw; go_simp; try with_reducible rfl)
    try simp only [pu]
    refine wpAnyH_take (i := 12) (oi := ⟨(some 44), _, _, _, _, _⟩) (v := .string s1) rfl (by kernel_rfl) (by kernel_rfl) (by kernel_rfl) (fun _ _ _ h => h) (Or.inl ⟨by rfl, ?yr7_12⟩) hHeld ?_
    case yr7_12 => (intro W0 hSw; have hcv := conv_as HS1.out n2 c2 (hy4.next hSw) HL2.out; go_simp; try with_reducible rfl)
    try simp only [pu]
    refine wpAnyH_take (i := 13) (oi := ⟨(some 45), _, _, _, _, _⟩) (v := .agg b.cells.toArray) rfl (by kernel_rfl) (by kernel_rfl) (by kernel_rfl) (fun _ _ _ h => h) (yieldsIf_load_mid (by rfl) _ _ rfl ((w.heap.size + 1)) 0 rfl b.cells _ (fun W' hW' => ed_allR (row_next2 gB4 hW')) (Try.underlying28) rfl (by rw [Ed.cells_len HB.out]; kernel_rfl)) hHeld ?_
    try simp only [pu]
    refine wpAnyH_take (i := 17) (oi := ⟨(some 49), _, _, _, _, _⟩) (v := .agg a.cells.toArray) rfl (by kernel_rfl) (by kernel_rfl) (by kernel_rfl) (fun _ _ _ h => h) (yieldsIf_load_mid (by rfl) _ _ rfl (w.heap.size) 0 rfl a.cells _ (fun W' hW' => ed_allR (row_next2 gA4 hW')) (Try.underlying28) rfl (by rw [Ed.cells_len HA.out]; kernel_rfl)) hHeld ?_
    try simp only [pu]
    refine wpAnyH_take (i := 18) (oi := ⟨(some 50), _, _, _, _, _⟩) (v := .agg b.cells.toArray) rfl (by kernel_rfl) (by kernel_rfl) (by kernel_rfl) (fun _ _ _ h => h) (yieldsIf_load_mid (by rfl) _ _ rfl ((w.heap.size + 1)) 0 rfl b.cells _ (fun W' hW' => ed_allR (row_next2 gB4 hW')) (Try.underlying28) rfl (by rw [Ed.cells_len HB.out]; kernel_rfl)) hHeld ?_
    try simp only [pu]
    refine wpAnyH_take (i := 19) (oi := ⟨(some 51), _, _, _, _, _⟩) (v := .bool true) rfl (by kernel_rfl) (by kernel_rfl) (by kernel_rfl) (fun _ _ _ h => h) (Or.inl ⟨by rfl, ?yr7_19⟩) hHeld ?_
    case yr7_19 => (intro W0 hSw; go_simp; try simp only [q2]; try with_reducible rfl)
    try simp only [pu]
    refine wpAnyH_ready (rs := [14]) (by kernel_rfl) (by simp) ?_
    refine AllReadyH.cons (i := 14) (o := ⟨(some 46), _, _, _, _, _⟩) rfl (fun K hK => ?_) AllReadyH.nil
    go_simp
    refine (hpb _).mono ?_
    rintro e r7W2 ⟨A5, n5, c5, rfl, hr5, r7h2⟩
    have hl5 := hr5.len
    refine hK.out _ _ (below_next hHeld hHeld.size r7h2) (fun hHeld => ?_)
    clear hK K r7h2
    try simp only [pu]
    have hOld := hHeld
    refine held_more (S' := fun W' => Below r7W2.heap.size r7W2 W') (fun W h => hOld.trans (h.mono hOld.size)) _ _ _ _ ?_
    replace hHeld := Below.refl r7W2.heap.size r7W2
    refine wpAnyH_take (i := 15) (oi := ⟨(some 47), _, _, _, _, _⟩) (v := .string s2) rfl (by kernel_rfl) (by kernel_rfl) (by kernel_rfl) (fun _ _ _ h => h) (Or.inl ⟨by rfl, ?yr7_15⟩) hHeld ?_
    case yr7_15 => (intro W0 hSw; have hcv := conv_as HS2.out n5 c5 (hr5.byt.next hSw) hl5; go_simp; try with_reducible rfl)
    try simp only [pu]
    refine wpAnyH_take (i := 16) (oi := ⟨(some 48), _, _, _, _, _⟩) (v := .bool true) rfl (by kernel_rfl) (by kernel_rfl) (by kernel_rfl) (fun _ _ _ h => h) (Or.inl ⟨by rfl, ?yr7_16⟩) hHeld ?_
    case yr7_16 => (intro W0 hSw; go_simp; try simp [ePQ2])
    try simp only [pu]
    refine wpAnyH_take (i := 20) (oi := ⟨(some 52), _, _, _, _, _⟩) (v := .bool false) rfl (by kernel_rfl) (by kernel_rfl) (by kernel_rfl) (fun _ _ _ h => h) (Or.inl ⟨by rfl, ?yr7_20⟩) hHeld ?_
    case yr7_20 => (intro W0 hSw; go_simp; try with_reducible rfl)
    try simp only [pu]
    refine wpAnyH_take (i := 21) (oi := ⟨(some 53), _, _, _, _, _⟩) (v := .bool false) rfl (by kernel_rfl) (by kernel_rfl) (by kernel_rfl) (fun _ _ _ h => h) (Or.inl ⟨by rfl, ?yr7_21⟩) hHeld ?_
    case yr7_21 => (intro W0 hSw; go_simp; try with_reducible rfl)
    try simp only [pu]
    refine wpAnyH_take (i := 22) (oi := ⟨(some 54), _, _, _, _, _⟩) (v := .bool false) rfl (by kernel_rfl) (by kernel_rfl) (by kernel_rfl) (fun _ _ _ h => h) (Or.inl ⟨by rfl, ?yr7_22⟩) hHeld ?_
    case yr7_22 => (intro W0 hSw; go_simp; try with_reducible rfl)
    try simp only [pu]
    refine wpAnyH_done (by kernel_rfl) ?_ _
    obtain ⟨hy5, hb5⟩ := htail _ (hOld.trans (hHeld.mono hOld.size))
    obtain ⟨V5, hV⟩ : ∃ V, V = r7W2 := ⟨_, rfl⟩
    subst hV
    clear hHeld htail hy4 hb4 gA4 gB4 gX4 q1 q2 ePQ
    by_cases h0 : x < 0
    · go_wp2
      go_ret
      exact ⟨rfl, hb5⟩
    obtain ⟨k, rfl⟩ : ∃ k : Nat, x = (k : Int) := ⟨x.toNat, by omega⟩
    by_cases h1 : (n2 : Int) ≤ (k : Int)
    · go_wp2
      go_ret
      exact ⟨rfl, hb5⟩
    have hk : k < n2 := by omega
    have hcut := fun w0 => run_cut_h (P := Try.prog) Try.underlying29 Try.sizeByte A2 n2 c2 k (k : Int) rfl (by omega) w0
    have hget := oget_none V5 A2 (P.take k) k c2 (HCT.out k (by rw [HL2.out]; exact hk)) (hy5.take k) (by rw [List.length_take, HL2.out]; omega) (by omega)
    clear HCT
    go_wp2_with fail
    refine hget.mono ?_
    rintro e V6 ⟨rfl, hb⟩
    have hb6 := below_next hb5 hb5.size hb
    clear hget hb hy5 hb5
    go_upto_region 12 with ((with_reducible refine wpList_store_row rfl 28 (.tmp 10) (.tmp 68) rfl V6.heap.size ed0.cells.toArray rfl (by kernel_rfl) 28 _ (heap_alloc_new _ _) (by kernel_rfl) (by kernel_rfl) (all_oneCell_toArray (Ed.cells_one _)) ?_); rw [World.setRow_alloc_new])
    have hb7 := hb6.alloc hb6.size (.cells ed0.cells.toArray 28)
    go_wp2
    go_ret
    exact ⟨rfl, hb7⟩
end Go.Proofs.Ytabgkkdgamacnaa
