/-
  OpBytes: the law's Go text returns true, whatever the edits and the bytes. Conditions: none beyond the row's own.
-/
import Derived.Test.YtabgkkdgamacnaaPkE
namespace Go.Proofs.Ytabgkkdgamacnaa
open Go.RowKit

theorem gets_same {l : List UInt8} {x y : Ed} {o p : Bool} (h1 : Gets l x o) (h2 : Gets l y p) : x = y ∧ o = p := by
  have h := h1.1.symm.trans h2.1
  cases o <;> cases p
  · exact ⟨(h1.2 rfl).trans (h2.2 rfl).symm, rfl⟩
  · exact absurd h (by simp)
  · exact absurd h (by simp)
  · exact ⟨by simpa using h, rfl⟩
set_option maxRecDepth 100000 in
set_option maxHeartbeats 8000000 in
theorem walk_OpBytes (w : World) (a : Ed) (ha : a.seen.length = 8) (b : Ed) (hb : b.seen.length = 8) (A : Option Addr) (l : List UInt8) (n c : Nat) (hA : Byt w w.heap.size A l) (hl : l.length = n) (hc : n ≤ c) :
    Calls Try.prog 4 #[.agg a.cells.toArray, .agg b.cells.toArray, .slice A n c] w fun e w' => e = .returned (.bool true) ∧ Below w.heap.size w w' := by
  have hzf := zero_ed
  obtain ⟨W, hW, hgA, hgB, hbW, hsW⟩ := pair_new w a.cells.toArray b.cells.toArray 28 28
  have HW := Lib.hid hW
  have HA := Lib.hid ha
  have HB := Lib.hid hb
  clear hW hsW ha hb
  go_enter Try.func4, Try.ntmps4
  go_upto_region 1 with fail
  rw [HW.out]
  clear HW
  go_wp2_with fail
  refine (awake16_any W).mono ?_
  rintro e V0 ⟨rfl, hb⟩
  have gA0 := row_next2 hgA hb
  have gB0 := row_next2 hgB hb
  have hb0 := below_next hbW hbW.size hb
  clear hb hbW hgA hgB
  have HL := Lib.hid hl
  have hzf2 := zero_red
  clear hl
  have d1 := fun w => olong_any w a HA.out
  have d2 := fun w => olong_any w b HB.out
  obtain ⟨la, hla⟩ : ∃ o, o = elong a := ⟨_, rfl⟩
  have Hla := vlt hla
  simp only [← hla] at d1
  clear hla
  obtain ⟨lb, hlb⟩ : ∃ o, o = elong b := ⟨_, rfl⟩
  have Hlb := vlt hlb
  simp only [← hlb] at d2
  clear hlb
  go_upto_region 3 with fail
  cases la
  case true =>
    refine plain_start (S := fun W' => Below V0.heap.size V0 W') (by kernel_rfl) (Below.refl _ _) (fun hHeld => ?_)
    refine wpAnyH_take (i := 0) (oi := ⟨(some 13), _, _, _, _, _⟩) (v := .agg a.cells.toArray) rfl (by kernel_rfl) (by kernel_rfl) (by kernel_rfl) (fun _ _ _ h => h) (yieldsIf_load_mid (by rfl) _ _ rfl (w.heap.size) 0 rfl a.cells _ (fun W' hW' => ed_allR (row_next2 gA0 hW')) (Try.underlying28) rfl (by rw [Ed.cells_len HA.out]; kernel_rfl)) hHeld ?_
    try simp only [pu]
    refine wpAnyH_ready (rs := [1]) (by kernel_rfl) (by simp) ?_
    refine AllReadyH.cons (i := 1) (o := ⟨(some 14), _, _, _, _, _⟩) rfl (fun K hK => ?_) AllReadyH.nil
    go_simp
    refine (d1 _).mono ?_
    rintro e r3W1 ⟨rfl, r3h1⟩
    refine hK.out _ _ (below_next hHeld hHeld.size r3h1) (fun hHeld => ?_)
    clear hK K r3h1
    try simp only [pu]
    refine wpAnyH_take (i := 2) (oi := ⟨(some 15), _, _, _, _, _⟩) (v := .bool true) rfl (by kernel_rfl) (by kernel_rfl) (by kernel_rfl) (fun _ _ _ h => h) (Or.inl ⟨by rfl, ?yr3_2⟩) hHeld ?_
    case yr3_2 => (intro W0 hSw; go_simp; try with_reducible rfl)
    try simp only [pu]
    refine wpAnyH_take (i := 3) (oi := ⟨(some 16), _, _, _, _, _⟩) (v := undef) rfl (by kernel_rfl) (by kernel_rfl) (by kernel_rfl) (fun _ _ _ h => h) (Or.inr ⟨by rfl, rfl⟩) hHeld ?_
    try simp only [pu]
    refine wpAnyH_take (i := 4) (oi := ⟨(some 17), _, _, _, _, _⟩) (v := undef) rfl (by kernel_rfl) (by kernel_rfl) (by kernel_rfl) (fun _ _ _ h => h) (Or.inr ⟨by rfl, rfl⟩) hHeld ?_
    try simp only [pu]
    refine wpAnyH_take (i := 5) (oi := ⟨(some 18), _, _, _, _, _⟩) (v := .bool true) rfl (by kernel_rfl) (by kernel_rfl) (by kernel_rfl) (fun _ _ _ h => h) (Or.inl ⟨by rfl, ?yr3_5⟩) hHeld ?_
    case yr3_5 => (intro W0 hSw; go_simp; try with_reducible rfl)
    try simp only [pu]
    refine wpAnyH_take (i := 6) (oi := ⟨(some 19), _, _, _, _, _⟩) (v := .bool true) rfl (by kernel_rfl) (by kernel_rfl) (by kernel_rfl) (fun _ _ _ h => h) (Or.inl ⟨by rfl, ?yr3_6⟩) hHeld ?_
    case yr3_6 => (intro W0 hSw; go_simp; try with_reducible rfl)
    try simp only [pu]
    refine wpAnyH_take (i := 7) (oi := ⟨(some 20), _, _, _, _, _⟩) (v := undef) rfl (by kernel_rfl) (by kernel_rfl) (by kernel_rfl) (fun _ _ _ h => h) (Or.inr ⟨by rfl, rfl⟩) hHeld ?_
    try simp only [pu]
    refine wpAnyH_take (i := 8) (oi := ⟨(some 21), _, _, _, _, _⟩) (v := undef) rfl (by kernel_rfl) (by kernel_rfl) (by kernel_rfl) (fun _ _ _ h => h) (Or.inr ⟨by rfl, rfl⟩) hHeld ?_
    try simp only [pu]
    refine wpAnyH_take (i := 9) (oi := ⟨(some 22), _, _, _, _, _⟩) (v := undef) rfl (by kernel_rfl) (by kernel_rfl) (by kernel_rfl) (fun _ _ _ h => h) (Or.inr ⟨by rfl, rfl⟩) hHeld ?_
    try simp only [pu]
    refine wpAnyH_take (i := 10) (oi := ⟨(some 23), _, _, _, _, _⟩) (v := .bool true) rfl (by kernel_rfl) (by kernel_rfl) (by kernel_rfl) (fun _ _ _ h => h) (Or.inl ⟨by rfl, ?yr3_10⟩) hHeld ?_
    case yr3_10 => (intro W0 hSw; go_simp; try with_reducible rfl)
    try simp only [pu]
    refine wpAnyH_done (by kernel_rfl) ?_ _
    go_wp2
    go_ret
    exact ⟨rfl, below_next hb0 hb0.size hHeld⟩
  cases lb
  case true =>
    refine plain_start (S := fun W' => Below V0.heap.size V0 W') (by kernel_rfl) (Below.refl _ _) (fun hHeld => ?_)
    refine wpAnyH_take (i := 0) (oi := ⟨(some 13), _, _, _, _, _⟩) (v := .agg a.cells.toArray) rfl (by kernel_rfl) (by kernel_rfl) (by kernel_rfl) (fun _ _ _ h => h) (yieldsIf_load_mid (by rfl) _ _ rfl (w.heap.size) 0 rfl a.cells _ (fun W' hW' => ed_allR (row_next2 gA0 hW')) (Try.underlying28) rfl (by rw [Ed.cells_len HA.out]; kernel_rfl)) hHeld ?_
    try simp only [pu]
    refine wpAnyH_ready (rs := [1]) (by kernel_rfl) (by simp) ?_
    refine AllReadyH.cons (i := 1) (o := ⟨(some 14), _, _, _, _, _⟩) rfl (fun K hK => ?_) AllReadyH.nil
    go_simp
    refine (d1 _).mono ?_
    rintro e r3W1 ⟨rfl, r3h1⟩
    refine hK.out _ _ (below_next hHeld hHeld.size r3h1) (fun hHeld => ?_)
    clear hK K r3h1
    try simp only [pu]
    refine wpAnyH_take (i := 2) (oi := ⟨(some 15), _, _, _, _, _⟩) (v := .bool false) rfl (by kernel_rfl) (by kernel_rfl) (by kernel_rfl) (fun _ _ _ h => h) (Or.inl ⟨by rfl, ?yr3_2⟩) hHeld ?_
    case yr3_2 => (intro W0 hSw; go_simp; try with_reducible rfl)
    try simp only [pu]
    refine wpAnyH_take (i := 3) (oi := ⟨(some 16), _, _, _, _, _⟩) (v := .agg b.cells.toArray) rfl (by kernel_rfl) (by kernel_rfl) (by kernel_rfl) (fun _ _ _ h => h) (yieldsIf_load_mid (by rfl) _ _ rfl ((w.heap.size + 1)) 0 rfl b.cells _ (fun W' hW' => ed_allR (row_next2 gB0 hW')) (Try.underlying28) rfl (by rw [Ed.cells_len HB.out]; kernel_rfl)) hHeld ?_
    try simp only [pu]
    refine wpAnyH_ready (rs := [4]) (by kernel_rfl) (by simp) ?_
    refine AllReadyH.cons (i := 4) (o := ⟨(some 17), _, _, _, _, _⟩) rfl (fun K hK => ?_) AllReadyH.nil
    go_simp
    refine (d2 _).mono ?_
    rintro e r3W2 ⟨rfl, r3h2⟩
    refine hK.out _ _ (below_next hHeld hHeld.size r3h2) (fun hHeld => ?_)
    clear hK K r3h2
    try simp only [pu]
    refine wpAnyH_take (i := 5) (oi := ⟨(some 18), _, _, _, _, _⟩) (v := .bool true) rfl (by kernel_rfl) (by kernel_rfl) (by kernel_rfl) (fun _ _ _ h => h) (Or.inl ⟨by rfl, ?yr3_5⟩) hHeld ?_
    case yr3_5 => (intro W0 hSw; go_simp; try with_reducible rfl)
    try simp only [pu]
    refine wpAnyH_take (i := 6) (oi := ⟨(some 19), _, _, _, _, _⟩) (v := .bool true) rfl (by kernel_rfl) (by kernel_rfl) (by kernel_rfl) (fun _ _ _ h => h) (Or.inl ⟨by rfl, ?yr3_6⟩) hHeld ?_
    case yr3_6 => (intro W0 hSw; go_simp; try with_reducible rfl)
    try simp only [pu]
    refine wpAnyH_take (i := 7) (oi := ⟨(some 20), _, _, _, _, _⟩) (v := undef) rfl (by kernel_rfl) (by kernel_rfl) (by kernel_rfl) (fun _ _ _ h => h) (Or.inr ⟨by rfl, rfl⟩) hHeld ?_
    try simp only [pu]
    refine wpAnyH_take (i := 8) (oi := ⟨(some 21), _, _, _, _, _⟩) (v := undef) rfl (by kernel_rfl) (by kernel_rfl) (by kernel_rfl) (fun _ _ _ h => h) (Or.inr ⟨by rfl, rfl⟩) hHeld ?_
    try simp only [pu]
    refine wpAnyH_take (i := 9) (oi := ⟨(some 22), _, _, _, _, _⟩) (v := undef) rfl (by kernel_rfl) (by kernel_rfl) (by kernel_rfl) (fun _ _ _ h => h) (Or.inr ⟨by rfl, rfl⟩) hHeld ?_
    try simp only [pu]
    refine wpAnyH_take (i := 10) (oi := ⟨(some 23), _, _, _, _, _⟩) (v := .bool true) rfl (by kernel_rfl) (by kernel_rfl) (by kernel_rfl) (fun _ _ _ h => h) (Or.inl ⟨by rfl, ?yr3_10⟩) hHeld ?_
    case yr3_10 => (intro W0 hSw; go_simp; try with_reducible rfl)
    try simp only [pu]
    refine wpAnyH_done (by kernel_rfl) ?_ _
    go_wp2
    go_ret
    exact ⟨rfl, below_next hb0 hb0.size hHeld⟩
  by_cases h6 : (600 : Int) < (n : Int)
  · skip
    refine plain_start (S := fun W' => Below V0.heap.size V0 W') (by kernel_rfl) (Below.refl _ _) (fun hHeld => ?_)
    refine wpAnyH_take (i := 0) (oi := ⟨(some 13), _, _, _, _, _⟩) (v := .agg a.cells.toArray) rfl (by kernel_rfl) (by kernel_rfl) (by kernel_rfl) (fun _ _ _ h => h) (yieldsIf_load_mid (by rfl) _ _ rfl (w.heap.size) 0 rfl a.cells _ (fun W' hW' => ed_allR (row_next2 gA0 hW')) (Try.underlying28) rfl (by rw [Ed.cells_len HA.out]; kernel_rfl)) hHeld ?_
    try simp only [pu]
    refine wpAnyH_ready (rs := [1]) (by kernel_rfl) (by simp) ?_
    refine AllReadyH.cons (i := 1) (o := ⟨(some 14), _, _, _, _, _⟩) rfl (fun K hK => ?_) AllReadyH.nil
    go_simp
    refine (d1 _).mono ?_
    rintro e r3W1 ⟨rfl, r3h1⟩
    refine hK.out _ _ (below_next hHeld hHeld.size r3h1) (fun hHeld => ?_)
    clear hK K r3h1
    try simp only [pu]
    refine wpAnyH_take (i := 2) (oi := ⟨(some 15), _, _, _, _, _⟩) (v := .bool false) rfl (by kernel_rfl) (by kernel_rfl) (by kernel_rfl) (fun _ _ _ h => h) (Or.inl ⟨by rfl, ?yr3_2⟩) hHeld ?_
    case yr3_2 => (intro W0 hSw; go_simp; try with_reducible rfl)
    try simp only [pu]
    refine wpAnyH_take (i := 3) (oi := ⟨(some 16), _, _, _, _, _⟩) (v := .agg b.cells.toArray) rfl (by kernel_rfl) (by kernel_rfl) (by kernel_rfl) (fun _ _ _ h => h) (yieldsIf_load_mid (by rfl) _ _ rfl ((w.heap.size + 1)) 0 rfl b.cells _ (fun W' hW' => ed_allR (row_next2 gB0 hW')) (Try.underlying28) rfl (by rw [Ed.cells_len HB.out]; kernel_rfl)) hHeld ?_
    try simp only [pu]
    refine wpAnyH_ready (rs := [4]) (by kernel_rfl) (by simp) ?_
    refine AllReadyH.cons (i := 4) (o := ⟨(some 17), _, _, _, _, _⟩) rfl (fun K hK => ?_) AllReadyH.nil
    go_simp
    refine (d2 _).mono ?_
    rintro e r3W2 ⟨rfl, r3h2⟩
    refine hK.out _ _ (below_next hHeld hHeld.size r3h2) (fun hHeld => ?_)
    clear hK K r3h2
    try simp only [pu]
    refine wpAnyH_take (i := 5) (oi := ⟨(some 18), _, _, _, _, _⟩) (v := .bool false) rfl (by kernel_rfl) (by kernel_rfl) (by kernel_rfl) (fun _ _ _ h => h) (Or.inl ⟨by rfl, ?yr3_5⟩) hHeld ?_
    case yr3_5 => (intro W0 hSw; go_simp; try with_reducible rfl)
    try simp only [pu]
    refine wpAnyH_take (i := 6) (oi := ⟨(some 19), _, _, _, _, _⟩) (v := .bool false) rfl (by kernel_rfl) (by kernel_rfl) (by kernel_rfl) (fun _ _ _ h => h) (Or.inl ⟨by rfl, ?yr3_6⟩) hHeld ?_
    case yr3_6 => (intro W0 hSw; go_simp; try with_reducible rfl)
    try simp only [pu]
    refine wpAnyH_take (i := 7) (oi := ⟨(some 20), _, _, _, _, _⟩) (v := .slice A n c) rfl (by kernel_rfl) (by kernel_rfl) (by kernel_rfl) (fun _ _ _ h => h) (Or.inl ⟨by rfl, ?yr3_7⟩) hHeld ?_
    case yr3_7 => (intro W0 hSw; go_simp; try with_reducible rfl)
    try simp only [pu]
    refine wpAnyH_take (i := 8) (oi := ⟨(some 21), _, _, _, _, _⟩) (v := .int .i64 (n : Int)) rfl (by kernel_rfl) (by kernel_rfl) (by kernel_rfl) (fun _ _ _ h => h) (Or.inl ⟨by rfl, ?yr3_8⟩) hHeld ?_
    case yr3_8 => (intro W0 hSw; go_simp; try with_reducible rfl)
    try simp only [pu]
    refine wpAnyH_take (i := 9) (oi := ⟨(some 22), _, _, _, _, _⟩) (v := .bool true) rfl (by kernel_rfl) (by kernel_rfl) (by kernel_rfl) (fun _ _ _ h => h) (Or.inl ⟨by rfl, ?yr3_9⟩) hHeld ?_
    case yr3_9 => (intro W0 hSw; go_simp; (try simp [h6]); (try omega))
    try simp only [pu]
    refine wpAnyH_take (i := 10) (oi := ⟨(some 23), _, _, _, _, _⟩) (v := .bool true) rfl (by kernel_rfl) (by kernel_rfl) (by kernel_rfl) (fun _ _ _ h => h) (Or.inl ⟨by rfl, ?yr3_10⟩) hHeld ?_
    case yr3_10 => (intro W0 hSw; go_simp; try with_reducible rfl)
    try simp only [pu]
    refine wpAnyH_done (by kernel_rfl) ?_ _
    go_wp2
    go_ret
    exact ⟨rfl, below_next hb0 hb0.size hHeld⟩
  refine plain_start (S := fun W' => Below V0.heap.size V0 W') (by kernel_rfl) (Below.refl _ _) (fun hHeld => ?_)
  refine wpAnyH_take (i := 0) (oi := ⟨(some 13), _, _, _, _, _⟩) (v := .agg a.cells.toArray) rfl (by kernel_rfl) (by kernel_rfl) (by kernel_rfl) (fun _ _ _ h => h) (yieldsIf_load_mid (by rfl) _ _ rfl (w.heap.size) 0 rfl a.cells _ (fun W' hW' => ed_allR (row_next2 gA0 hW')) (Try.underlying28) rfl (by rw [Ed.cells_len HA.out]; kernel_rfl)) hHeld ?_
  try simp only [pu]
  refine wpAnyH_ready (rs := [1]) (by kernel_rfl) (by simp) ?_
  refine AllReadyH.cons (i := 1) (o := ⟨(some 14), _, _, _, _, _⟩) rfl (fun K hK => ?_) AllReadyH.nil
  go_simp
  refine (d1 _).mono ?_
  rintro e r3W1 ⟨rfl, r3h1⟩
  refine hK.out _ _ (below_next hHeld hHeld.size r3h1) (fun hHeld => ?_)
  clear hK K r3h1
  try simp only [pu]
  refine wpAnyH_take (i := 2) (oi := ⟨(some 15), _, _, _, _, _⟩) (v := .bool false) rfl (by kernel_rfl) (by kernel_rfl) (by kernel_rfl) (fun _ _ _ h => h) (Or.inl ⟨by rfl, ?yr3_2⟩) hHeld ?_
  case yr3_2 => (intro W0 hSw; go_simp; try with_reducible rfl)
  try simp only [pu]
  refine wpAnyH_take (i := 3) (oi := ⟨(some 16), _, _, _, _, _⟩) (v := .agg b.cells.toArray) rfl (by kernel_rfl) (by kernel_rfl) (by kernel_rfl) (fun _ _ _ h => h) (yieldsIf_load_mid (by rfl) _ _ rfl ((w.heap.size + 1)) 0 rfl b.cells _ (fun W' hW' => ed_allR (row_next2 gB0 hW')) (Try.underlying28) rfl (by rw [Ed.cells_len HB.out]; kernel_rfl)) hHeld ?_
  try simp only [pu]
  refine wpAnyH_ready (rs := [4]) (by kernel_rfl) (by simp) ?_
  refine AllReadyH.cons (i := 4) (o := ⟨(some 17), _, _, _, _, _⟩) rfl (fun K hK => ?_) AllReadyH.nil
  go_simp
  refine (d2 _).mono ?_
  rintro e r3W2 ⟨rfl, r3h2⟩
  refine hK.out _ _ (below_next hHeld hHeld.size r3h2) (fun hHeld => ?_)
  clear hK K r3h2
  try simp only [pu]
  refine wpAnyH_take (i := 5) (oi := ⟨(some 18), _, _, _, _, _⟩) (v := .bool false) rfl (by kernel_rfl) (by kernel_rfl) (by kernel_rfl) (fun _ _ _ h => h) (Or.inl ⟨by rfl, ?yr3_5⟩) hHeld ?_
  case yr3_5 => (intro W0 hSw; go_simp; try with_reducible rfl)
  try simp only [pu]
  refine wpAnyH_take (i := 6) (oi := ⟨(some 19), _, _, _, _, _⟩) (v := .bool false) rfl (by kernel_rfl) (by kernel_rfl) (by kernel_rfl) (fun _ _ _ h => h) (Or.inl ⟨by rfl, ?yr3_6⟩) hHeld ?_
  case yr3_6 => (intro W0 hSw; go_simp; try with_reducible rfl)
  try simp only [pu]
  refine wpAnyH_take (i := 7) (oi := ⟨(some 20), _, _, _, _, _⟩) (v := .slice A n c) rfl (by kernel_rfl) (by kernel_rfl) (by kernel_rfl) (fun _ _ _ h => h) (Or.inl ⟨by rfl, ?yr3_7⟩) hHeld ?_
  case yr3_7 => (intro W0 hSw; go_simp; try with_reducible rfl)
  try simp only [pu]
  refine wpAnyH_take (i := 8) (oi := ⟨(some 21), _, _, _, _, _⟩) (v := .int .i64 (n : Int)) rfl (by kernel_rfl) (by kernel_rfl) (by kernel_rfl) (fun _ _ _ h => h) (Or.inl ⟨by rfl, ?yr3_8⟩) hHeld ?_
  case yr3_8 => (intro W0 hSw; go_simp; try with_reducible rfl)
  try simp only [pu]
  refine wpAnyH_take (i := 9) (oi := ⟨(some 22), _, _, _, _, _⟩) (v := .bool false) rfl (by kernel_rfl) (by kernel_rfl) (by kernel_rfl) (fun _ _ _ h => h) (Or.inl ⟨by rfl, ?yr3_9⟩) hHeld ?_
  case yr3_9 => (intro W0 hSw; go_simp; (try simp [h6]); (try omega))
  try simp only [pu]
  refine wpAnyH_take (i := 10) (oi := ⟨(some 23), _, _, _, _, _⟩) (v := .bool false) rfl (by kernel_rfl) (by kernel_rfl) (by kernel_rfl) (fun _ _ _ h => h) (Or.inl ⟨by rfl, ?yr3_10⟩) hHeld ?_
  case yr3_10 => (intro W0 hSw; go_simp; try with_reducible rfl)
  try simp only [pu]
  refine wpAnyH_done (by kernel_rfl) ?_ _
  obtain ⟨V1, hV⟩ : ∃ V, V = r3W2 := ⟨_, rfl⟩
  subst hV
  have gA1 := row_next2 gA0 hHeld
  have gB1 := row_next2 gB0 hHeld
  have hb1 := below_next hb0 hb0.size hHeld
  clear hHeld hb0 gA0 gB0
  clear d1 d2
  have hn : n ≤ 600 := by omega
  have hsz := along_size Hla.out.symm
  have sz1 : a.con.size ≤ 140737488355328 := by omega
  have sz2 : a.fld.size ≤ 140737488355328 := by omega
  clear h6 hsz Hla Hlb
  have hget := oget_any V1 A l n c (hA.next hb1) HL.out (by omega)
  go_wp2_with fail
  refine hget.mono ?_
  rintro e V2 ⟨x, o, hG, hxl, rfl, hb⟩
  have gA2 := row_next2 gA1 hb
  have gB2 := row_next2 gB1 hb
  have hb2 := below_next hb1 hb1.size hb
  obtain ⟨z, hz⟩ : ∃ z : Int, z = (if o = true then 0 else 3) := ⟨_, rfl⟩
  rw [← hz]
  have HZ := vlt hz
  clear hget hb gA1 gB1 hb1 hz
  go_upto_region 6 with ((with_reducible refine wpList_store_row rfl 28 (.tmp 7) (.tmp 27) rfl V2.heap.size x.cells.toArray rfl (by kernel_rfl) 28 _ (heap_alloc_new _ _) (by rw [Ed.cells_size hxl.out]; kernel_rfl) (by rw [Ed.cells_size hxl.out]; kernel_rfl) (all_oneCell_toArray (Ed.cells_one _)) ?_); rw [World.setRow_alloc_new])
  obtain ⟨V3, hV⟩ : ∃ V, V = V2.alloc (.cells x.cells.toArray 28) := ⟨_, rfl⟩
  have gX3 := new_row V2 x.cells.toArray 28
  have gA3 := row_alloc (o := .cells x.cells.toArray 28) gA2
  have gB3 := row_alloc (o := .cells x.cells.toArray 28) gB2
  have hb3 := hb2.alloc hb2.size (.cells x.cells.toArray 28)
  rw [← hV] at gX3 gA3 gB3 hb3 ⊢
  obtain ⟨X, hX⟩ : ∃ X, X = V2.heap.size := ⟨_, rfl⟩
  rw [← hX] at gX3 ⊢
  clear hV hX gA2 gB2 hb2
  have hget := rget_any V3 A l n c (hA.next hb3) HL.out hc (by omega)
  go_wp2_with fail
  refine hget.mono ?_
  rintro e V4 ⟨y, o', hG', hyl, rfl, hb⟩
  obtain ⟨e1, e2⟩ := gets_same hG.out hG'.out
  subst e1 e2
  have gA4 := row_next2 gA3 hb
  have gB4 := row_next2 gB3 hb
  have gX4 := row_next2 gX3 hb
  have hb4 := below_next hb3 hb3.size hb
  clear hget hb gA3 gB3 gX3 hb3 hG hG' hyl hA
  go_upto_region 7 with ((with_reducible refine wpList_store_row rfl 38 (.tmp 9) (.tmp 32) rfl V4.heap.size x.cells.toArray rfl (by kernel_rfl) 38 _ (heap_alloc_new _ _) (by rw [Ed.cells_size hxl.out]; kernel_rfl) (by rw [Ed.cells_size hxl.out]; kernel_rfl) (all_oneCell_toArray (Ed.cells_one _)) ?_); rw [World.setRow_alloc_new])
  obtain ⟨V5, hV⟩ : ∃ V, V = V4.alloc (.cells x.cells.toArray 38) := ⟨_, rfl⟩
  have gY := new_row V4 x.cells.toArray 38
  have gA := row_alloc (o := .cells x.cells.toArray 38) gA4
  have gB := row_alloc (o := .cells x.cells.toArray 38) gB4
  have gX := row_alloc (o := .cells x.cells.toArray 38) gX4
  have hb5 := hb4.alloc hb4.size (.cells x.cells.toArray 38)
  rw [← hV] at gX gA gB gY hb5 ⊢
  obtain ⟨Y, hY⟩ : ∃ Y, Y = V4.heap.size := ⟨_, rfl⟩
  rw [← hY] at gY ⊢
  clear hV hY gA4 gB4 gX4 hb4
  obtain ⟨P, hP⟩ : ∃ P, P = a.put := ⟨_, rfl⟩
  have p1 := fun w => oput_any w a HA.out
  have p2 := fun w => rput_any w a HA.out sz1 sz2
  simp only [← hP] at p1 p2
  obtain ⟨s1, hs1⟩ : ∃ s : ByteArray, s = ⟨P.toArray⟩ := ⟨_, rfl⟩
  have HS1 := vlt hs1
  have p3 := fun w => ogood_any w a HA.out
  have p4 := fun w => rgood_any w a HA.out sz1 sz2
  obtain ⟨ga, hga⟩ : ∃ o, o = a.good := ⟨_, rfl⟩
  simp only [← hga] at p3 p4
  have p5 := fun w => oover_any w a b HA.out HB.out
  have p6 := fun w => rover_any w a b HA.out HB.out
  obtain ⟨ov, hov⟩ : ∃ o, o = eover a b := ⟨_, rfl⟩
  simp only [← hov] at p5 p6
  have p7 := fun w => oless_any w a b HA.out HB.out
  have p8 := fun w => rless_any w a b HA.out HB.out
  obtain ⟨le, hle⟩ : ∃ o, o = eless a b := ⟨_, rfl⟩
  simp only [← hle] at p7 p8
  have pa := fun w => oed_any w a HA.out
  have pb := fun w => oed_any w b HB.out
  have px := fun w => oed_any w x hxl.out
  have q1 := eql_redit x x hxl.out hxl.out true (by simp)
  clear hP hs1 hga hov hle sz1 sz2
  cases o
  · obtain rfl : z = 3 := HZ.out
    refine wp_region_held_drew (S := fun W' => Below V5.heap.size V5 W') (by kernel_rfl) ((Below.refl _ _).drew) (fun hHeld => ?_)
    refine wpAnyH_take (i := 0) (oi := ⟨(some 34), _, _, _, _, _⟩) (v := .agg a.cells.toArray) rfl (by kernel_rfl) (by kernel_rfl) (by kernel_rfl) (fun _ _ _ h => h) (yieldsIf_load_mid (by rfl) _ _ rfl (w.heap.size) 0 rfl a.cells _ (fun W' hW' => ed_allR (row_next2 gA hW')) (Try.underlying28) rfl (by rw [Ed.cells_len HA.out]; kernel_rfl)) hHeld ?_
    try simp only [pu]
    refine wpAnyH_take (i := 3) (oi := ⟨(some 37), _, _, _, _, _⟩) (v := .agg a.cells.toArray) rfl (by kernel_rfl) (by kernel_rfl) (by kernel_rfl) (fun _ _ _ h => h) (yieldsIf_load_mid (by rfl) _ _ rfl (w.heap.size) 0 rfl a.cells _ (fun W' hW' => ed_allR (row_next2 gA hW')) (Try.underlying28) rfl (by rw [Ed.cells_len HA.out]; kernel_rfl)) hHeld ?_
    try simp only [pu]
    refine wpAnyH_ready (rs := [1]) (by kernel_rfl) (by simp) ?_
    refine AllReadyH.cons (i := 1) (o := ⟨(some 35), _, _, _, _, _⟩) rfl (fun K hK => ?_) AllReadyH.nil
    go_simp
    refine (p1 _).mono ?_
    rintro e r7T1 ⟨A1, n1, c1, rfl, hr1, hb1⟩
    have hS1 := below_next hHeld hHeld.size hb1
    have hl1 := Lib.hid hr1.len
    have hyP := hr1.byt
    clear hr1
    have gA_1 := row_next2 gA hS1
    have gB_1 := row_next2 gB hS1
    have gX_1 := row_next2 gX hS1
    have gY_1 := row_next2 gY hS1
    have hb_1 := below_next hb5 hb5.size hS1
    refine hK.out _ _ hS1 (fun hHeld => ?_)
    try simp only [pu]
    refine held_more (S' := fun W' => Below r7T1.heap.size r7T1 W') (fun W h => hS1.trans (h.mono hS1.size)) _ _ _ _ ?_
    clear hHeld
    have hHeld := Below.refl r7T1.heap.size r7T1
    clear hK K hb1
    refine wpAnyH_take (i := 2) (oi := ⟨(some 36), _, _, _, _, _⟩) (v := .string s1) rfl (by kernel_rfl) (by kernel_rfl) (by kernel_rfl) (fun _ _ _ h => h) (Or.inl ⟨by rfl, ?yr7_2⟩) hHeld ?_
    case yr7_2 => (intro W0 hSw; have hcv := conv_as HS1.out n1 c1 (hyP.next hSw) hl1.out; go_simp; try with_reducible rfl)
    try simp only [pu]
    refine wpAnyH_ready (rs := [4]) (by kernel_rfl) (by simp) ?_
    refine AllReadyH.cons (i := 4) (o := ⟨(some 38), _, _, _, _, _⟩) rfl (fun K hK => ?_) AllReadyH.nil
    go_simp
    refine (pa _).mono ?_
    rintro e r7T2 ⟨rfl, hb2⟩
    have hS2 := below_next hHeld hHeld.size hb2
    have gA_2 := row_next2 gA_1 hS2
    have gB_2 := row_next2 gB_1 hS2
    have gX_2 := row_next2 gX_1 hS2
    have gY_2 := row_next2 gY_1 hS2
    have hb_2 := below_next hb_1 hb_1.size hS2
    have hyP_2 := hyP.next hS2
    refine hK.out _ _ hS2 (fun hHeld => ?_)
    try simp only [pu]
    refine held_more (S' := fun W' => Below r7T2.heap.size r7T2 W') (fun W h => hS2.trans (h.mono hS2.size)) _ _ _ _ ?_
    clear hHeld
    have hHeld := Below.refl r7T2.heap.size r7T2
    clear hK K hb2
    refine wpAnyH_ready (rs := [5]) (by kernel_rfl) (by simp) ?_
    refine AllReadyH.cons (i := 5) (o := ⟨(some 39), _, _, _, _, _⟩) rfl (fun K hK => ?_) AllReadyH.nil
    go_simp
    refine (p2 _).mono ?_
    rintro e r7T3 ⟨A2, n2, c2, rfl, hyQ, hl2, hb3⟩
    have hS3 := below_next hHeld hHeld.size hb3
    have gA_3 := row_next2 gA_2 hS3
    have gB_3 := row_next2 gB_2 hS3
    have gX_3 := row_next2 gX_2 hS3
    have gY_3 := row_next2 gY_2 hS3
    have hb_3 := below_next hb_2 hb_2.size hS3
    have hyP_3 := hyP_2.next hS3
    refine hK.out _ _ hS3 (fun hHeld => ?_)
    try simp only [pu]
    refine held_more (S' := fun W' => Below r7T3.heap.size r7T3 W') (fun W h => hS3.trans (h.mono hS3.size)) _ _ _ _ ?_
    clear hHeld
    have hHeld := Below.refl r7T3.heap.size r7T3
    clear hK K hb3
    refine wpAnyH_take (i := 6) (oi := ⟨(some 40), _, _, _, _, _⟩) (v := .string s1) rfl (by kernel_rfl) (by kernel_rfl) (by kernel_rfl) (fun _ _ _ h => h) (Or.inl ⟨by rfl, ?yr7_6⟩) hHeld ?_
    case yr7_6 => (intro W0 hSw; have hcv := conv_as HS1.out n2 c2 (hyQ.next hSw) hl2.out; go_simp; try with_reducible rfl)
    try simp only [pu]
    refine wpAnyH_take (i := 7) (oi := ⟨(some 41), _, _, _, _, _⟩) (v := .bool true) rfl (by kernel_rfl) (by kernel_rfl) (by kernel_rfl) (fun _ _ _ h => h) (Or.inl ⟨by rfl, ?yr7_7⟩) hHeld ?_
    case yr7_7 => (intro W0 hSw; go_simp; (try simp); (try with_reducible rfl))
    try simp only [pu]
    refine wpAnyH_take (i := 8) (oi := ⟨(some 42), _, _, _, _, _⟩) (v := .bool true) rfl (by kernel_rfl) (by kernel_rfl) (by kernel_rfl) (fun _ _ _ h => h) (Or.inl ⟨by rfl, ?yr7_8⟩) hHeld ?_
    case yr7_8 => (intro W0 hSw; go_simp; try with_reducible rfl)
    try simp only [pu]
    refine wpAnyH_take (i := 9) (oi := ⟨(some 43), _, _, _, _, _⟩) (v := .agg a.cells.toArray) rfl (by kernel_rfl) (by kernel_rfl) (by kernel_rfl) (fun _ _ _ h => h) (yieldsIf_load_mid (by rfl) _ _ rfl (w.heap.size) 0 rfl a.cells _ (fun W' hW' => ed_allR (row_next2 gA_3 hW')) (Try.underlying28) rfl (by rw [Ed.cells_len HA.out]; kernel_rfl)) hHeld ?_
    try simp only [pu]
    refine wpAnyH_take (i := 11) (oi := ⟨(some 45), _, _, _, _, _⟩) (v := .agg a.cells.toArray) rfl (by kernel_rfl) (by kernel_rfl) (by kernel_rfl) (fun _ _ _ h => h) (yieldsIf_load_mid (by rfl) _ _ rfl (w.heap.size) 0 rfl a.cells _ (fun W' hW' => ed_allR (row_next2 gA_3 hW')) (Try.underlying28) rfl (by rw [Ed.cells_len HA.out]; kernel_rfl)) hHeld ?_
    try simp only [pu]
    refine wpAnyH_ready (rs := [10]) (by kernel_rfl) (by simp) ?_
    refine AllReadyH.cons (i := 10) (o := ⟨(some 44), _, _, _, _, _⟩) rfl (fun K hK => ?_) AllReadyH.nil
    go_simp
    refine (p3 _).mono ?_
    rintro e r7T4 ⟨rfl, hb4⟩
    have hS4 := below_next hHeld hHeld.size hb4
    have gA_4 := row_next2 gA_3 hS4
    have gB_4 := row_next2 gB_3 hS4
    have gX_4 := row_next2 gX_3 hS4
    have gY_4 := row_next2 gY_3 hS4
    have hb_4 := below_next hb_3 hb_3.size hS4
    have hyP_4 := hyP_3.next hS4
    have hyQ_4 := hyQ.next hS4
    refine hK.out _ _ hS4 (fun hHeld => ?_)
    try simp only [pu]
    refine held_more (S' := fun W' => Below r7T4.heap.size r7T4 W') (fun W h => hS4.trans (h.mono hS4.size)) _ _ _ _ ?_
    clear hHeld
    have hHeld := Below.refl r7T4.heap.size r7T4
    clear hK K hb4
    refine wpAnyH_ready (rs := [12]) (by kernel_rfl) (by simp) ?_
    refine AllReadyH.cons (i := 12) (o := ⟨(some 46), _, _, _, _, _⟩) rfl (fun K hK => ?_) AllReadyH.nil
    go_simp
    refine (pa _).mono ?_
    rintro e r7T5 ⟨rfl, hb5⟩
    have hS5 := below_next hHeld hHeld.size hb5
    have gA_5 := row_next2 gA_4 hS5
    have gB_5 := row_next2 gB_4 hS5
    have gX_5 := row_next2 gX_4 hS5
    have gY_5 := row_next2 gY_4 hS5
    have hb_5 := below_next hb_4 hb_4.size hS5
    have hyP_5 := hyP_4.next hS5
    have hyQ_5 := hyQ_4.next hS5
    refine hK.out _ _ hS5 (fun hHeld => ?_)
    try simp only [pu]
    refine held_more (S' := fun W' => Below r7T5.heap.size r7T5 W') (fun W h => hS5.trans (h.mono hS5.size)) _ _ _ _ ?_
    clear hHeld
    have hHeld := Below.refl r7T5.heap.size r7T5
    clear hK K hb5
    refine wpAnyH_ready (rs := [13]) (by kernel_rfl) (by simp) ?_
    refine AllReadyH.cons (i := 13) (o := ⟨(some 47), _, _, _, _, _⟩) rfl (fun K hK => ?_) AllReadyH.nil
    go_simp
    refine (p4 _).mono ?_
    rintro e r7T6 ⟨rfl, hb6⟩
    have hS6 := below_next hHeld hHeld.size hb6
    have gA_6 := row_next2 gA_5 hS6
    have gB_6 := row_next2 gB_5 hS6
    have gX_6 := row_next2 gX_5 hS6
    have gY_6 := row_next2 gY_5 hS6
    have hb_6 := below_next hb_5 hb_5.size hS6
    have hyP_6 := hyP_5.next hS6
    have hyQ_6 := hyQ_5.next hS6
    refine hK.out _ _ hS6 (fun hHeld => ?_)
    try simp only [pu]
    refine held_more (S' := fun W' => Below r7T6.heap.size r7T6 W') (fun W h => hS6.trans (h.mono hS6.size)) _ _ _ _ ?_
    clear hHeld
    have hHeld := Below.refl r7T6.heap.size r7T6
    clear hK K hb6
    refine wpAnyH_take (i := 14) (oi := ⟨(some 48), _, _, _, _, _⟩) (v := .bool true) rfl (by kernel_rfl) (by kernel_rfl) (by kernel_rfl) (fun _ _ _ h => h) (Or.inl ⟨by rfl, ?yr7_14⟩) hHeld ?_
    case yr7_14 => (intro W0 hSw; go_simp; (try simp); (try with_reducible rfl))
    try simp only [pu]
    refine wpAnyH_take (i := 15) (oi := ⟨(some 49), _, _, _, _, _⟩) (v := .bool true) rfl (by kernel_rfl) (by kernel_rfl) (by kernel_rfl) (fun _ _ _ h => h) (Or.inl ⟨by rfl, ?yr7_15⟩) hHeld ?_
    case yr7_15 => (intro W0 hSw; go_simp; try with_reducible rfl)
    try simp only [pu]
    refine wpAnyH_take (i := 16) (oi := ⟨(some 50), _, _, _, _, _⟩) (v := .bool true) rfl (by kernel_rfl) (by kernel_rfl) (by kernel_rfl) (fun _ _ _ h => h) (Or.inl ⟨by rfl, ?yr7_16⟩) hHeld ?_
    case yr7_16 => (intro W0 hSw; go_simp; try with_reducible rfl)
    try simp only [pu]
    refine wpAnyH_take (i := 17) (oi := ⟨(some 51), _, _, _, _, _⟩) (v := .agg x.cells.toArray) rfl (by kernel_rfl) (by kernel_rfl) (by kernel_rfl) (fun _ _ _ h => h) (yieldsIf_load_mid (by rfl) _ _ rfl X 0 rfl x.cells _ (fun W' hW' => ed_allR (row_next2 gX_6 hW')) (Try.underlying28) rfl (by rw [Ed.cells_len hxl.out]; kernel_rfl)) hHeld ?_
    try simp only [pu]
    refine wpAnyH_take (i := 19) (oi := ⟨(some 53), _, _, _, _, _⟩) (v := .agg x.cells.toArray) rfl (by kernel_rfl) (by kernel_rfl) (by kernel_rfl) (fun _ _ _ h => h) (yieldsIf_load_mid (by rfl) _ _ rfl Y 0 rfl x.cells _ (fun W' hW' => ed_allR (row_next2 gY_6 hW')) (Try.underlying38) rfl (by rw [Ed.cells_len hxl.out]; kernel_rfl)) hHeld ?_
    try simp only [pu]
    refine wpAnyH_ready (rs := [18]) (by kernel_rfl) (by simp) ?_
    refine AllReadyH.cons (i := 18) (o := ⟨(some 52), _, _, _, _, _⟩) rfl (fun K hK => ?_) AllReadyH.nil
    go_simp
    refine (px _).mono ?_
    rintro e r7T7 ⟨rfl, hb7⟩
    have hS7 := below_next hHeld hHeld.size hb7
    have gA_7 := row_next2 gA_6 hS7
    have gB_7 := row_next2 gB_6 hS7
    have gX_7 := row_next2 gX_6 hS7
    have gY_7 := row_next2 gY_6 hS7
    have hb_7 := below_next hb_6 hb_6.size hS7
    have hyP_7 := hyP_6.next hS7
    have hyQ_7 := hyQ_6.next hS7
    refine hK.out _ _ hS7 (fun hHeld => ?_)
    try simp only [pu]
    refine held_more (S' := fun W' => Below r7T7.heap.size r7T7 W') (fun W h => hS7.trans (h.mono hS7.size)) _ _ _ _ ?_
    clear hHeld
    have hHeld := Below.refl r7T7.heap.size r7T7
    clear hK K hb7
    refine wpAnyH_take (i := 20) (oi := ⟨(some 54), _, _, _, _, _⟩) (v := .bool true) rfl (by kernel_rfl) (by kernel_rfl) (by kernel_rfl) (fun _ _ _ h => h) (Or.inl ⟨by rfl, ?yr7_20⟩) hHeld ?_
    case yr7_20 => (intro W0 hSw; go_simp; try simp only [q1]; try with_reducible rfl)
    try simp only [pu]
    refine wpAnyH_take (i := 21) (oi := ⟨(some 55), _, _, _, _, _⟩) (v := .bool true) rfl (by kernel_rfl) (by kernel_rfl) (by kernel_rfl) (fun _ _ _ h => h) (Or.inl ⟨by rfl, ?yr7_21⟩) hHeld ?_
    case yr7_21 => (intro W0 hSw; go_simp; try with_reducible rfl)
    try simp only [pu]
    refine wpAnyH_take (i := 22) (oi := ⟨(some 56), _, _, _, _, _⟩) (v := .bool true) rfl (by kernel_rfl) (by kernel_rfl) (by kernel_rfl) (fun _ _ _ h => h) (Or.inl ⟨by rfl, ?yr7_22⟩) hHeld ?_
    case yr7_22 => (intro W0 hSw; go_simp; try with_reducible rfl)
    try simp only [pu]
    refine wpAnyH_take (i := 23) (oi := ⟨(some 57), _, _, _, _, _⟩) (v := .int .i64 3) rfl (by kernel_rfl) (by kernel_rfl) (by kernel_rfl) (fun _ _ _ h => h) (Or.inl ⟨by rfl, ?yr7_23⟩) hHeld ?_
    case yr7_23 => (intro W0 hSw; go_simp; try with_reducible rfl)
    try simp only [pu]
    refine wpAnyH_take (i := 24) (oi := ⟨(some 58), _, _, _, _, _⟩) (v := .bool false) rfl (by kernel_rfl) (by kernel_rfl) (by kernel_rfl) (fun _ _ _ h => h) (Or.inl ⟨by rfl, ?yr7_24⟩) hHeld ?_
    case yr7_24 => (intro W0 hSw; go_simp; try with_reducible rfl)
    try simp only [pu]
    refine wpAnyH_take (i := 25) (oi := ⟨(some 59), _, _, _, _, _⟩) (v := .bool false) rfl (by kernel_rfl) (by kernel_rfl) (by kernel_rfl) (fun _ _ _ h => h) (Or.inl ⟨by rfl, ?yr7_25⟩) hHeld ?_
    case yr7_25 => (intro W0 hSw; go_simp; try with_reducible rfl)
    try simp only [pu]
    refine wpAnyH_take (i := 26) (oi := ⟨(some 60), _, _, _, _, _⟩) (v := .bool true) rfl (by kernel_rfl) (by kernel_rfl) (by kernel_rfl) (fun _ _ _ h => h) (Or.inl ⟨by rfl, ?yr7_26⟩) hHeld ?_
    case yr7_26 => (intro W0 hSw; go_simp; (try simp); (try with_reducible rfl))
    try simp only [pu]
    refine wpAnyH_take (i := 27) (oi := ⟨(some 61), _, _, _, _, _⟩) (v := .bool true) rfl (by kernel_rfl) (by kernel_rfl) (by kernel_rfl) (fun _ _ _ h => h) (Or.inl ⟨by rfl, ?yr7_27⟩) hHeld ?_
    case yr7_27 => (intro W0 hSw; go_simp; try with_reducible rfl)
    try simp only [pu]
    refine wpAnyH_take (i := 28) (oi := ⟨(some 62), _, _, _, _, _⟩) (v := .bool true) rfl (by kernel_rfl) (by kernel_rfl) (by kernel_rfl) (fun _ _ _ h => h) (Or.inl ⟨by rfl, ?yr7_28⟩) hHeld ?_
    case yr7_28 => (intro W0 hSw; go_simp; try with_reducible rfl)
    try simp only [pu]
    refine wpAnyH_take (i := 29) (oi := ⟨(some 63), _, _, _, _, _⟩) (v := .bool false) rfl (by kernel_rfl) (by kernel_rfl) (by kernel_rfl) (fun _ _ _ h => h) (Or.inl ⟨by rfl, ?yr7_29⟩) hHeld ?_
    case yr7_29 => (intro W0 hSw; go_simp; try with_reducible rfl)
    try simp only [pu]
    refine wpAnyH_take (i := 30) (oi := ⟨(some 64), _, _, _, _, _⟩) (v := .bool false) rfl (by kernel_rfl) (by kernel_rfl) (by kernel_rfl) (fun _ _ _ h => h) (Or.inl ⟨by rfl, ?yr7_30⟩) hHeld ?_
    case yr7_30 => (intro W0 hSw; go_simp; try with_reducible rfl)
    try simp only [pu]
    refine wpAnyH_take (i := 31) (oi := ⟨(some 65), _, _, _, _, _⟩) (v := .int .i64 3) rfl (by kernel_rfl) (by kernel_rfl) (by kernel_rfl) (fun _ _ _ h => h) (Or.inl ⟨by rfl, ?yr7_31⟩) hHeld ?_
    case yr7_31 => (intro W0 hSw; go_simp; try with_reducible rfl)
    try simp only [pu]
    refine wpAnyH_take (i := 32) (oi := ⟨(some 66), _, _, _, _, _⟩) (v := .bool true) rfl (by kernel_rfl) (by kernel_rfl) (by kernel_rfl) (fun _ _ _ h => h) (Or.inl ⟨by rfl, ?yr7_32⟩) hHeld ?_
    case yr7_32 => (intro W0 hSw; go_simp; try with_reducible rfl)
    try simp only [pu]
    refine wpAnyH_take (i := 33) (oi := ⟨(some 67), _, _, _, _, _⟩) (v := .bool true) rfl (by kernel_rfl) (by kernel_rfl) (by kernel_rfl) (fun _ _ _ h => h) (Or.inl ⟨by rfl, ?yr7_33⟩) hHeld ?_
    case yr7_33 => (intro W0 hSw; go_simp; try with_reducible rfl)
    try simp only [pu]
    refine wpAnyH_take (i := 34) (oi := ⟨(some 68), _, _, _, _, _⟩) (v := .bool true) rfl (by kernel_rfl) (by kernel_rfl) (by kernel_rfl) (fun _ _ _ h => h) (Or.inl ⟨by rfl, ?yr7_34⟩) hHeld ?_
    case yr7_34 => (intro W0 hSw; go_simp; try with_reducible rfl)
    try simp only [pu]
    refine wpAnyH_take (i := 35) (oi := ⟨(some 69), _, _, _, _, _⟩) (v := .bool true) rfl (by kernel_rfl) (by kernel_rfl) (by kernel_rfl) (fun _ _ _ h => h) (Or.inl ⟨by rfl, ?yr7_35⟩) hHeld ?_
    case yr7_35 => (intro W0 hSw; go_simp; try with_reducible rfl)
    try simp only [pu]
    refine wpAnyH_take (i := 36) (oi := ⟨(some 70), _, _, _, _, _⟩) (v := .agg a.cells.toArray) rfl (by kernel_rfl) (by kernel_rfl) (by kernel_rfl) (fun _ _ _ h => h) (yieldsIf_load_mid (by rfl) _ _ rfl (w.heap.size) 0 rfl a.cells _ (fun W' hW' => ed_allR (row_next2 gA_7 hW')) (Try.underlying28) rfl (by rw [Ed.cells_len HA.out]; kernel_rfl)) hHeld ?_
    try simp only [pu]
    refine wpAnyH_take (i := 37) (oi := ⟨(some 71), _, _, _, _, _⟩) (v := .agg b.cells.toArray) rfl (by kernel_rfl) (by kernel_rfl) (by kernel_rfl) (fun _ _ _ h => h) (yieldsIf_load_mid (by rfl) _ _ rfl ((w.heap.size + 1)) 0 rfl b.cells _ (fun W' hW' => ed_allR (row_next2 gB_7 hW')) (Try.underlying28) rfl (by rw [Ed.cells_len HB.out]; kernel_rfl)) hHeld ?_
    try simp only [pu]
    refine wpAnyH_take (i := 39) (oi := ⟨(some 73), _, _, _, _, _⟩) (v := .agg a.cells.toArray) rfl (by kernel_rfl) (by kernel_rfl) (by kernel_rfl) (fun _ _ _ h => h) (yieldsIf_load_mid (by rfl) _ _ rfl (w.heap.size) 0 rfl a.cells _ (fun W' hW' => ed_allR (row_next2 gA_7 hW')) (Try.underlying28) rfl (by rw [Ed.cells_len HA.out]; kernel_rfl)) hHeld ?_
    try simp only [pu]
    refine wpAnyH_take (i := 41) (oi := ⟨(some 75), _, _, _, _, _⟩) (v := .agg b.cells.toArray) rfl (by kernel_rfl) (by kernel_rfl) (by kernel_rfl) (fun _ _ _ h => h) (yieldsIf_load_mid (by rfl) _ _ rfl ((w.heap.size + 1)) 0 rfl b.cells _ (fun W' hW' => ed_allR (row_next2 gB_7 hW')) (Try.underlying28) rfl (by rw [Ed.cells_len HB.out]; kernel_rfl)) hHeld ?_
    try simp only [pu]
    refine wpAnyH_ready (rs := [38]) (by kernel_rfl) (by simp) ?_
    refine AllReadyH.cons (i := 38) (o := ⟨(some 72), _, _, _, _, _⟩) rfl (fun K hK => ?_) AllReadyH.nil
    go_simp
    refine (p5 _).mono ?_
    rintro e r7T8 ⟨rfl, hb8⟩
    have hS8 := below_next hHeld hHeld.size hb8
    have gA_8 := row_next2 gA_7 hS8
    have gB_8 := row_next2 gB_7 hS8
    have gX_8 := row_next2 gX_7 hS8
    have gY_8 := row_next2 gY_7 hS8
    have hb_8 := below_next hb_7 hb_7.size hS8
    have hyP_8 := hyP_7.next hS8
    have hyQ_8 := hyQ_7.next hS8
    refine hK.out _ _ hS8 (fun hHeld => ?_)
    try simp only [pu]
    refine held_more (S' := fun W' => Below r7T8.heap.size r7T8 W') (fun W h => hS8.trans (h.mono hS8.size)) _ _ _ _ ?_
    clear hHeld
    have hHeld := Below.refl r7T8.heap.size r7T8
    clear hK K hb8
    refine wpAnyH_ready (rs := [40]) (by kernel_rfl) (by simp) ?_
    refine AllReadyH.cons (i := 40) (o := ⟨(some 74), _, _, _, _, _⟩) rfl (fun K hK => ?_) AllReadyH.nil
    go_simp
    refine (pa _).mono ?_
    rintro e r7T9 ⟨rfl, hb9⟩
    have hS9 := below_next hHeld hHeld.size hb9
    have gA_9 := row_next2 gA_8 hS9
    have gB_9 := row_next2 gB_8 hS9
    have gX_9 := row_next2 gX_8 hS9
    have gY_9 := row_next2 gY_8 hS9
    have hb_9 := below_next hb_8 hb_8.size hS9
    have hyP_9 := hyP_8.next hS9
    have hyQ_9 := hyQ_8.next hS9
    refine hK.out _ _ hS9 (fun hHeld => ?_)
    try simp only [pu]
    refine held_more (S' := fun W' => Below r7T9.heap.size r7T9 W') (fun W h => hS9.trans (h.mono hS9.size)) _ _ _ _ ?_
    clear hHeld
    have hHeld := Below.refl r7T9.heap.size r7T9
    clear hK K hb9
    refine wpAnyH_ready (rs := [42]) (by kernel_rfl) (by simp) ?_
    refine AllReadyH.cons (i := 42) (o := ⟨(some 76), _, _, _, _, _⟩) rfl (fun K hK => ?_) AllReadyH.nil
    go_simp
    refine (pb _).mono ?_
    rintro e r7T10 ⟨rfl, hb10⟩
    have hS10 := below_next hHeld hHeld.size hb10
    have gA_10 := row_next2 gA_9 hS10
    have gB_10 := row_next2 gB_9 hS10
    have gX_10 := row_next2 gX_9 hS10
    have gY_10 := row_next2 gY_9 hS10
    have hb_10 := below_next hb_9 hb_9.size hS10
    have hyP_10 := hyP_9.next hS10
    have hyQ_10 := hyQ_9.next hS10
    refine hK.out _ _ hS10 (fun hHeld => ?_)
    try simp only [pu]
    refine held_more (S' := fun W' => Below r7T10.heap.size r7T10 W') (fun W h => hS10.trans (h.mono hS10.size)) _ _ _ _ ?_
    clear hHeld
    have hHeld := Below.refl r7T10.heap.size r7T10
    clear hK K hb10
    refine wpAnyH_ready (rs := [43]) (by kernel_rfl) (by simp) ?_
    refine AllReadyH.cons (i := 43) (o := ⟨(some 77), _, _, _, _, _⟩) rfl (fun K hK => ?_) AllReadyH.nil
    go_simp
    refine (p6 _).mono ?_
    rintro e r7T11 ⟨rfl, hb11⟩
    have hS11 := below_next hHeld hHeld.size hb11
    have gA_11 := row_next2 gA_10 hS11
    have gB_11 := row_next2 gB_10 hS11
    have gX_11 := row_next2 gX_10 hS11
    have gY_11 := row_next2 gY_10 hS11
    have hb_11 := below_next hb_10 hb_10.size hS11
    have hyP_11 := hyP_10.next hS11
    have hyQ_11 := hyQ_10.next hS11
    refine hK.out _ _ hS11 (fun hHeld => ?_)
    try simp only [pu]
    refine held_more (S' := fun W' => Below r7T11.heap.size r7T11 W') (fun W h => hS11.trans (h.mono hS11.size)) _ _ _ _ ?_
    clear hHeld
    have hHeld := Below.refl r7T11.heap.size r7T11
    clear hK K hb11
    refine wpAnyH_take (i := 44) (oi := ⟨(some 78), _, _, _, _, _⟩) (v := .bool true) rfl (by kernel_rfl) (by kernel_rfl) (by kernel_rfl) (fun _ _ _ h => h) (Or.inl ⟨by rfl, ?yr7_44⟩) hHeld ?_
    case yr7_44 => (intro W0 hSw; go_simp; (try simp); (try with_reducible rfl))
    try simp only [pu]
    refine wpAnyH_take (i := 45) (oi := ⟨(some 79), _, _, _, _, _⟩) (v := .bool true) rfl (by kernel_rfl) (by kernel_rfl) (by kernel_rfl) (fun _ _ _ h => h) (Or.inl ⟨by rfl, ?yr7_45⟩) hHeld ?_
    case yr7_45 => (intro W0 hSw; go_simp; try with_reducible rfl)
    try simp only [pu]
    refine wpAnyH_take (i := 46) (oi := ⟨(some 80), _, _, _, _, _⟩) (v := .bool true) rfl (by kernel_rfl) (by kernel_rfl) (by kernel_rfl) (fun _ _ _ h => h) (Or.inl ⟨by rfl, ?yr7_46⟩) hHeld ?_
    case yr7_46 => (intro W0 hSw; go_simp; try with_reducible rfl)
    try simp only [pu]
    refine wpAnyH_take (i := 47) (oi := ⟨(some 81), _, _, _, _, _⟩) (v := .agg a.cells.toArray) rfl (by kernel_rfl) (by kernel_rfl) (by kernel_rfl) (fun _ _ _ h => h) (yieldsIf_load_mid (by rfl) _ _ rfl (w.heap.size) 0 rfl a.cells _ (fun W' hW' => ed_allR (row_next2 gA_11 hW')) (Try.underlying28) rfl (by rw [Ed.cells_len HA.out]; kernel_rfl)) hHeld ?_
    try simp only [pu]
    refine wpAnyH_take (i := 48) (oi := ⟨(some 82), _, _, _, _, _⟩) (v := .agg b.cells.toArray) rfl (by kernel_rfl) (by kernel_rfl) (by kernel_rfl) (fun _ _ _ h => h) (yieldsIf_load_mid (by rfl) _ _ rfl ((w.heap.size + 1)) 0 rfl b.cells _ (fun W' hW' => ed_allR (row_next2 gB_11 hW')) (Try.underlying28) rfl (by rw [Ed.cells_len HB.out]; kernel_rfl)) hHeld ?_
    try simp only [pu]
    refine wpAnyH_take (i := 50) (oi := ⟨(some 84), _, _, _, _, _⟩) (v := .agg a.cells.toArray) rfl (by kernel_rfl) (by kernel_rfl) (by kernel_rfl) (fun _ _ _ h => h) (yieldsIf_load_mid (by rfl) _ _ rfl (w.heap.size) 0 rfl a.cells _ (fun W' hW' => ed_allR (row_next2 gA_11 hW')) (Try.underlying28) rfl (by rw [Ed.cells_len HA.out]; kernel_rfl)) hHeld ?_
    try simp only [pu]
    refine wpAnyH_take (i := 52) (oi := ⟨(some 86), _, _, _, _, _⟩) (v := .agg b.cells.toArray) rfl (by kernel_rfl) (by kernel_rfl) (by kernel_rfl) (fun _ _ _ h => h) (yieldsIf_load_mid (by rfl) _ _ rfl ((w.heap.size + 1)) 0 rfl b.cells _ (fun W' hW' => ed_allR (row_next2 gB_11 hW')) (Try.underlying28) rfl (by rw [Ed.cells_len HB.out]; kernel_rfl)) hHeld ?_
    try simp only [pu]
    refine wpAnyH_ready (rs := [49]) (by kernel_rfl) (by simp) ?_
    refine AllReadyH.cons (i := 49) (o := ⟨(some 83), _, _, _, _, _⟩) rfl (fun K hK => ?_) AllReadyH.nil
    go_simp
    refine (p7 _).mono ?_
    rintro e r7T12 ⟨rfl, hb12⟩
    have hS12 := below_next hHeld hHeld.size hb12
    have gA_12 := row_next2 gA_11 hS12
    have gB_12 := row_next2 gB_11 hS12
    have gX_12 := row_next2 gX_11 hS12
    have gY_12 := row_next2 gY_11 hS12
    have hb_12 := below_next hb_11 hb_11.size hS12
    have hyP_12 := hyP_11.next hS12
    have hyQ_12 := hyQ_11.next hS12
    refine hK.out _ _ hS12 (fun hHeld => ?_)
    try simp only [pu]
    refine held_more (S' := fun W' => Below r7T12.heap.size r7T12 W') (fun W h => hS12.trans (h.mono hS12.size)) _ _ _ _ ?_
    clear hHeld
    have hHeld := Below.refl r7T12.heap.size r7T12
    clear hK K hb12
    refine wpAnyH_ready (rs := [51]) (by kernel_rfl) (by simp) ?_
    refine AllReadyH.cons (i := 51) (o := ⟨(some 85), _, _, _, _, _⟩) rfl (fun K hK => ?_) AllReadyH.nil
    go_simp
    refine (pa _).mono ?_
    rintro e r7T13 ⟨rfl, hb13⟩
    have hS13 := below_next hHeld hHeld.size hb13
    have gA_13 := row_next2 gA_12 hS13
    have gB_13 := row_next2 gB_12 hS13
    have gX_13 := row_next2 gX_12 hS13
    have gY_13 := row_next2 gY_12 hS13
    have hb_13 := below_next hb_12 hb_12.size hS13
    have hyP_13 := hyP_12.next hS13
    have hyQ_13 := hyQ_12.next hS13
    refine hK.out _ _ hS13 (fun hHeld => ?_)
    try simp only [pu]
    refine held_more (S' := fun W' => Below r7T13.heap.size r7T13 W') (fun W h => hS13.trans (h.mono hS13.size)) _ _ _ _ ?_
    clear hHeld
    have hHeld := Below.refl r7T13.heap.size r7T13
    clear hK K hb13
    refine wpAnyH_ready (rs := [53]) (by kernel_rfl) (by simp) ?_
    refine AllReadyH.cons (i := 53) (o := ⟨(some 87), _, _, _, _, _⟩) rfl (fun K hK => ?_) AllReadyH.nil
    go_simp
    refine (pb _).mono ?_
    rintro e r7T14 ⟨rfl, hb14⟩
    have hS14 := below_next hHeld hHeld.size hb14
    have gA_14 := row_next2 gA_13 hS14
    have gB_14 := row_next2 gB_13 hS14
    have gX_14 := row_next2 gX_13 hS14
    have gY_14 := row_next2 gY_13 hS14
    have hb_14 := below_next hb_13 hb_13.size hS14
    have hyP_14 := hyP_13.next hS14
    have hyQ_14 := hyQ_13.next hS14
    refine hK.out _ _ hS14 (fun hHeld => ?_)
    try simp only [pu]
    refine held_more (S' := fun W' => Below r7T14.heap.size r7T14 W') (fun W h => hS14.trans (h.mono hS14.size)) _ _ _ _ ?_
    clear hHeld
    have hHeld := Below.refl r7T14.heap.size r7T14
    clear hK K hb14
    refine wpAnyH_ready (rs := [54]) (by kernel_rfl) (by simp) ?_
    refine AllReadyH.cons (i := 54) (o := ⟨(some 88), _, _, _, _, _⟩) rfl (fun K hK => ?_) AllReadyH.nil
    go_simp
    refine (p8 _).mono ?_
    rintro e r7T15 ⟨rfl, hb15⟩
    have hS15 := below_next hHeld hHeld.size hb15
    have gA_15 := row_next2 gA_14 hS15
    have gB_15 := row_next2 gB_14 hS15
    have gX_15 := row_next2 gX_14 hS15
    have gY_15 := row_next2 gY_14 hS15
    have hb_15 := below_next hb_14 hb_14.size hS15
    have hyP_15 := hyP_14.next hS15
    have hyQ_15 := hyQ_14.next hS15
    refine hK.out _ _ hS15 (fun hHeld => ?_)
    try simp only [pu]
    refine held_more (S' := fun W' => Below r7T15.heap.size r7T15 W') (fun W h => hS15.trans (h.mono hS15.size)) _ _ _ _ ?_
    clear hHeld
    have hHeld := Below.refl r7T15.heap.size r7T15
    clear hK K hb15
    refine wpAnyH_take (i := 55) (oi := ⟨(some 89), _, _, _, _, _⟩) (v := .bool true) rfl (by kernel_rfl) (by kernel_rfl) (by kernel_rfl) (fun _ _ _ h => h) (Or.inl ⟨by rfl, ?yr7_55⟩) hHeld ?_
    case yr7_55 => (intro W0 hSw; go_simp; (try simp); (try with_reducible rfl))
    try simp only [pu]
    refine wpAnyH_take (i := 56) (oi := ⟨(some 90), _, _, _, _, _⟩) (v := .bool true) rfl (by kernel_rfl) (by kernel_rfl) (by kernel_rfl) (fun _ _ _ h => h) (Or.inl ⟨by rfl, ?yr7_56⟩) hHeld ?_
    case yr7_56 => (intro W0 hSw; go_simp; try with_reducible rfl)
    try simp only [pu]
    refine wpAnyH_take (i := 57) (oi := ⟨(some 6), _, _, _, _, _⟩) (v := .bool true) rfl (by kernel_rfl) (by kernel_rfl) (by kernel_rfl) (fun _ _ _ h => h) (Or.inl ⟨by rfl, ?yr7_57⟩) hHeld ?_
    case yr7_57 => (intro W0 hSw; go_simp; try with_reducible rfl)
    try simp only [pu]
    refine wpAnyH_done (by kernel_rfl) ?_ _
    go_wp2
    go_ret
    exact ⟨rfl, below_next hb_15 hb_15.size hHeld⟩
  · obtain rfl : z = 0 := HZ.out
    refine wp_region_held_drew (S := fun W' => Below V5.heap.size V5 W') (by kernel_rfl) ((Below.refl _ _).drew) (fun hHeld => ?_)
    refine wpAnyH_take (i := 0) (oi := ⟨(some 34), _, _, _, _, _⟩) (v := .agg a.cells.toArray) rfl (by kernel_rfl) (by kernel_rfl) (by kernel_rfl) (fun _ _ _ h => h) (yieldsIf_load_mid (by rfl) _ _ rfl (w.heap.size) 0 rfl a.cells _ (fun W' hW' => ed_allR (row_next2 gA hW')) (Try.underlying28) rfl (by rw [Ed.cells_len HA.out]; kernel_rfl)) hHeld ?_
    try simp only [pu]
    refine wpAnyH_take (i := 3) (oi := ⟨(some 37), _, _, _, _, _⟩) (v := .agg a.cells.toArray) rfl (by kernel_rfl) (by kernel_rfl) (by kernel_rfl) (fun _ _ _ h => h) (yieldsIf_load_mid (by rfl) _ _ rfl (w.heap.size) 0 rfl a.cells _ (fun W' hW' => ed_allR (row_next2 gA hW')) (Try.underlying28) rfl (by rw [Ed.cells_len HA.out]; kernel_rfl)) hHeld ?_
    try simp only [pu]
    refine wpAnyH_ready (rs := [1]) (by kernel_rfl) (by simp) ?_
    refine AllReadyH.cons (i := 1) (o := ⟨(some 35), _, _, _, _, _⟩) rfl (fun K hK => ?_) AllReadyH.nil
    go_simp
    refine (p1 _).mono ?_
    rintro e r7T1 ⟨A1, n1, c1, rfl, hr1, hb1⟩
    have hS1 := below_next hHeld hHeld.size hb1
    have hl1 := Lib.hid hr1.len
    have hyP := hr1.byt
    clear hr1
    have gA_1 := row_next2 gA hS1
    have gB_1 := row_next2 gB hS1
    have gX_1 := row_next2 gX hS1
    have gY_1 := row_next2 gY hS1
    have hb_1 := below_next hb5 hb5.size hS1
    refine hK.out _ _ hS1 (fun hHeld => ?_)
    try simp only [pu]
    refine held_more (S' := fun W' => Below r7T1.heap.size r7T1 W') (fun W h => hS1.trans (h.mono hS1.size)) _ _ _ _ ?_
    clear hHeld
    have hHeld := Below.refl r7T1.heap.size r7T1
    clear hK K hb1
    refine wpAnyH_take (i := 2) (oi := ⟨(some 36), _, _, _, _, _⟩) (v := .string s1) rfl (by kernel_rfl) (by kernel_rfl) (by kernel_rfl) (fun _ _ _ h => h) (Or.inl ⟨by rfl, ?yr7_2⟩) hHeld ?_
    case yr7_2 => (intro W0 hSw; have hcv := conv_as HS1.out n1 c1 (hyP.next hSw) hl1.out; go_simp; try with_reducible rfl)
    try simp only [pu]
    refine wpAnyH_ready (rs := [4]) (by kernel_rfl) (by simp) ?_
    refine AllReadyH.cons (i := 4) (o := ⟨(some 38), _, _, _, _, _⟩) rfl (fun K hK => ?_) AllReadyH.nil
    go_simp
    refine (pa _).mono ?_
    rintro e r7T2 ⟨rfl, hb2⟩
    have hS2 := below_next hHeld hHeld.size hb2
    have gA_2 := row_next2 gA_1 hS2
    have gB_2 := row_next2 gB_1 hS2
    have gX_2 := row_next2 gX_1 hS2
    have gY_2 := row_next2 gY_1 hS2
    have hb_2 := below_next hb_1 hb_1.size hS2
    have hyP_2 := hyP.next hS2
    refine hK.out _ _ hS2 (fun hHeld => ?_)
    try simp only [pu]
    refine held_more (S' := fun W' => Below r7T2.heap.size r7T2 W') (fun W h => hS2.trans (h.mono hS2.size)) _ _ _ _ ?_
    clear hHeld
    have hHeld := Below.refl r7T2.heap.size r7T2
    clear hK K hb2
    refine wpAnyH_ready (rs := [5]) (by kernel_rfl) (by simp) ?_
    refine AllReadyH.cons (i := 5) (o := ⟨(some 39), _, _, _, _, _⟩) rfl (fun K hK => ?_) AllReadyH.nil
    go_simp
    refine (p2 _).mono ?_
    rintro e r7T3 ⟨A2, n2, c2, rfl, hyQ, hl2, hb3⟩
    have hS3 := below_next hHeld hHeld.size hb3
    have gA_3 := row_next2 gA_2 hS3
    have gB_3 := row_next2 gB_2 hS3
    have gX_3 := row_next2 gX_2 hS3
    have gY_3 := row_next2 gY_2 hS3
    have hb_3 := below_next hb_2 hb_2.size hS3
    have hyP_3 := hyP_2.next hS3
    refine hK.out _ _ hS3 (fun hHeld => ?_)
    try simp only [pu]
    refine held_more (S' := fun W' => Below r7T3.heap.size r7T3 W') (fun W h => hS3.trans (h.mono hS3.size)) _ _ _ _ ?_
    clear hHeld
    have hHeld := Below.refl r7T3.heap.size r7T3
    clear hK K hb3
    refine wpAnyH_take (i := 6) (oi := ⟨(some 40), _, _, _, _, _⟩) (v := .string s1) rfl (by kernel_rfl) (by kernel_rfl) (by kernel_rfl) (fun _ _ _ h => h) (Or.inl ⟨by rfl, ?yr7_6⟩) hHeld ?_
    case yr7_6 => (intro W0 hSw; have hcv := conv_as HS1.out n2 c2 (hyQ.next hSw) hl2.out; go_simp; try with_reducible rfl)
    try simp only [pu]
    refine wpAnyH_take (i := 7) (oi := ⟨(some 41), _, _, _, _, _⟩) (v := .bool true) rfl (by kernel_rfl) (by kernel_rfl) (by kernel_rfl) (fun _ _ _ h => h) (Or.inl ⟨by rfl, ?yr7_7⟩) hHeld ?_
    case yr7_7 => (intro W0 hSw; go_simp; (try simp); (try with_reducible rfl))
    try simp only [pu]
    refine wpAnyH_take (i := 8) (oi := ⟨(some 42), _, _, _, _, _⟩) (v := .bool true) rfl (by kernel_rfl) (by kernel_rfl) (by kernel_rfl) (fun _ _ _ h => h) (Or.inl ⟨by rfl, ?yr7_8⟩) hHeld ?_
    case yr7_8 => (intro W0 hSw; go_simp; try with_reducible rfl)
    try simp only [pu]
    refine wpAnyH_take (i := 9) (oi := ⟨(some 43), _, _, _, _, _⟩) (v := .agg a.cells.toArray) rfl (by kernel_rfl) (by kernel_rfl) (by kernel_rfl) (fun _ _ _ h => h) (yieldsIf_load_mid (by rfl) _ _ rfl (w.heap.size) 0 rfl a.cells _ (fun W' hW' => ed_allR (row_next2 gA_3 hW')) (Try.underlying28) rfl (by rw [Ed.cells_len HA.out]; kernel_rfl)) hHeld ?_
    try simp only [pu]
    refine wpAnyH_take (i := 11) (oi := ⟨(some 45), _, _, _, _, _⟩) (v := .agg a.cells.toArray) rfl (by kernel_rfl) (by kernel_rfl) (by kernel_rfl) (fun _ _ _ h => h) (yieldsIf_load_mid (by rfl) _ _ rfl (w.heap.size) 0 rfl a.cells _ (fun W' hW' => ed_allR (row_next2 gA_3 hW')) (Try.underlying28) rfl (by rw [Ed.cells_len HA.out]; kernel_rfl)) hHeld ?_
    try simp only [pu]
    refine wpAnyH_ready (rs := [10]) (by kernel_rfl) (by simp) ?_
    refine AllReadyH.cons (i := 10) (o := ⟨(some 44), _, _, _, _, _⟩) rfl (fun K hK => ?_) AllReadyH.nil
    go_simp
    refine (p3 _).mono ?_
    rintro e r7T4 ⟨rfl, hb4⟩
    have hS4 := below_next hHeld hHeld.size hb4
    have gA_4 := row_next2 gA_3 hS4
    have gB_4 := row_next2 gB_3 hS4
    have gX_4 := row_next2 gX_3 hS4
    have gY_4 := row_next2 gY_3 hS4
    have hb_4 := below_next hb_3 hb_3.size hS4
    have hyP_4 := hyP_3.next hS4
    have hyQ_4 := hyQ.next hS4
    refine hK.out _ _ hS4 (fun hHeld => ?_)
    try simp only [pu]
    refine held_more (S' := fun W' => Below r7T4.heap.size r7T4 W') (fun W h => hS4.trans (h.mono hS4.size)) _ _ _ _ ?_
    clear hHeld
    have hHeld := Below.refl r7T4.heap.size r7T4
    clear hK K hb4
    refine wpAnyH_ready (rs := [12]) (by kernel_rfl) (by simp) ?_
    refine AllReadyH.cons (i := 12) (o := ⟨(some 46), _, _, _, _, _⟩) rfl (fun K hK => ?_) AllReadyH.nil
    go_simp
    refine (pa _).mono ?_
    rintro e r7T5 ⟨rfl, hb5⟩
    have hS5 := below_next hHeld hHeld.size hb5
    have gA_5 := row_next2 gA_4 hS5
    have gB_5 := row_next2 gB_4 hS5
    have gX_5 := row_next2 gX_4 hS5
    have gY_5 := row_next2 gY_4 hS5
    have hb_5 := below_next hb_4 hb_4.size hS5
    have hyP_5 := hyP_4.next hS5
    have hyQ_5 := hyQ_4.next hS5
    refine hK.out _ _ hS5 (fun hHeld => ?_)
    try simp only [pu]
    refine held_more (S' := fun W' => Below r7T5.heap.size r7T5 W') (fun W h => hS5.trans (h.mono hS5.size)) _ _ _ _ ?_
    clear hHeld
    have hHeld := Below.refl r7T5.heap.size r7T5
    clear hK K hb5
    refine wpAnyH_ready (rs := [13]) (by kernel_rfl) (by simp) ?_
    refine AllReadyH.cons (i := 13) (o := ⟨(some 47), _, _, _, _, _⟩) rfl (fun K hK => ?_) AllReadyH.nil
    go_simp
    refine (p4 _).mono ?_
    rintro e r7T6 ⟨rfl, hb6⟩
    have hS6 := below_next hHeld hHeld.size hb6
    have gA_6 := row_next2 gA_5 hS6
    have gB_6 := row_next2 gB_5 hS6
    have gX_6 := row_next2 gX_5 hS6
    have gY_6 := row_next2 gY_5 hS6
    have hb_6 := below_next hb_5 hb_5.size hS6
    have hyP_6 := hyP_5.next hS6
    have hyQ_6 := hyQ_5.next hS6
    refine hK.out _ _ hS6 (fun hHeld => ?_)
    try simp only [pu]
    refine held_more (S' := fun W' => Below r7T6.heap.size r7T6 W') (fun W h => hS6.trans (h.mono hS6.size)) _ _ _ _ ?_
    clear hHeld
    have hHeld := Below.refl r7T6.heap.size r7T6
    clear hK K hb6
    refine wpAnyH_take (i := 14) (oi := ⟨(some 48), _, _, _, _, _⟩) (v := .bool true) rfl (by kernel_rfl) (by kernel_rfl) (by kernel_rfl) (fun _ _ _ h => h) (Or.inl ⟨by rfl, ?yr7_14⟩) hHeld ?_
    case yr7_14 => (intro W0 hSw; go_simp; (try simp); (try with_reducible rfl))
    try simp only [pu]
    refine wpAnyH_take (i := 15) (oi := ⟨(some 49), _, _, _, _, _⟩) (v := .bool true) rfl (by kernel_rfl) (by kernel_rfl) (by kernel_rfl) (fun _ _ _ h => h) (Or.inl ⟨by rfl, ?yr7_15⟩) hHeld ?_
    case yr7_15 => (intro W0 hSw; go_simp; try with_reducible rfl)
    try simp only [pu]
    refine wpAnyH_take (i := 16) (oi := ⟨(some 50), _, _, _, _, _⟩) (v := .bool true) rfl (by kernel_rfl) (by kernel_rfl) (by kernel_rfl) (fun _ _ _ h => h) (Or.inl ⟨by rfl, ?yr7_16⟩) hHeld ?_
    case yr7_16 => (intro W0 hSw; go_simp; try with_reducible rfl)
    try simp only [pu]
    refine wpAnyH_take (i := 17) (oi := ⟨(some 51), _, _, _, _, _⟩) (v := .agg x.cells.toArray) rfl (by kernel_rfl) (by kernel_rfl) (by kernel_rfl) (fun _ _ _ h => h) (yieldsIf_load_mid (by rfl) _ _ rfl X 0 rfl x.cells _ (fun W' hW' => ed_allR (row_next2 gX_6 hW')) (Try.underlying28) rfl (by rw [Ed.cells_len hxl.out]; kernel_rfl)) hHeld ?_
    try simp only [pu]
    refine wpAnyH_take (i := 19) (oi := ⟨(some 53), _, _, _, _, _⟩) (v := .agg x.cells.toArray) rfl (by kernel_rfl) (by kernel_rfl) (by kernel_rfl) (fun _ _ _ h => h) (yieldsIf_load_mid (by rfl) _ _ rfl Y 0 rfl x.cells _ (fun W' hW' => ed_allR (row_next2 gY_6 hW')) (Try.underlying38) rfl (by rw [Ed.cells_len hxl.out]; kernel_rfl)) hHeld ?_
    try simp only [pu]
    refine wpAnyH_ready (rs := [18]) (by kernel_rfl) (by simp) ?_
    refine AllReadyH.cons (i := 18) (o := ⟨(some 52), _, _, _, _, _⟩) rfl (fun K hK => ?_) AllReadyH.nil
    go_simp
    refine (px _).mono ?_
    rintro e r7T7 ⟨rfl, hb7⟩
    have hS7 := below_next hHeld hHeld.size hb7
    have gA_7 := row_next2 gA_6 hS7
    have gB_7 := row_next2 gB_6 hS7
    have gX_7 := row_next2 gX_6 hS7
    have gY_7 := row_next2 gY_6 hS7
    have hb_7 := below_next hb_6 hb_6.size hS7
    have hyP_7 := hyP_6.next hS7
    have hyQ_7 := hyQ_6.next hS7
    refine hK.out _ _ hS7 (fun hHeld => ?_)
    try simp only [pu]
    refine held_more (S' := fun W' => Below r7T7.heap.size r7T7 W') (fun W h => hS7.trans (h.mono hS7.size)) _ _ _ _ ?_
    clear hHeld
    have hHeld := Below.refl r7T7.heap.size r7T7
    clear hK K hb7
    refine wpAnyH_take (i := 20) (oi := ⟨(some 54), _, _, _, _, _⟩) (v := .bool true) rfl (by kernel_rfl) (by kernel_rfl) (by kernel_rfl) (fun _ _ _ h => h) (Or.inl ⟨by rfl, ?yr7_20⟩) hHeld ?_
    case yr7_20 => (intro W0 hSw; go_simp; try simp only [q1]; try with_reducible rfl)
    try simp only [pu]
    refine wpAnyH_take (i := 21) (oi := ⟨(some 55), _, _, _, _, _⟩) (v := .bool true) rfl (by kernel_rfl) (by kernel_rfl) (by kernel_rfl) (fun _ _ _ h => h) (Or.inl ⟨by rfl, ?yr7_21⟩) hHeld ?_
    case yr7_21 => (intro W0 hSw; go_simp; try with_reducible rfl)
    try simp only [pu]
    refine wpAnyH_take (i := 22) (oi := ⟨(some 56), _, _, _, _, _⟩) (v := .bool true) rfl (by kernel_rfl) (by kernel_rfl) (by kernel_rfl) (fun _ _ _ h => h) (Or.inl ⟨by rfl, ?yr7_22⟩) hHeld ?_
    case yr7_22 => (intro W0 hSw; go_simp; try with_reducible rfl)
    try simp only [pu]
    refine wpAnyH_take (i := 23) (oi := ⟨(some 57), _, _, _, _, _⟩) (v := .int .i64 0) rfl (by kernel_rfl) (by kernel_rfl) (by kernel_rfl) (fun _ _ _ h => h) (Or.inl ⟨by rfl, ?yr7_23⟩) hHeld ?_
    case yr7_23 => (intro W0 hSw; go_simp; try with_reducible rfl)
    try simp only [pu]
    refine wpAnyH_take (i := 24) (oi := ⟨(some 58), _, _, _, _, _⟩) (v := .bool true) rfl (by kernel_rfl) (by kernel_rfl) (by kernel_rfl) (fun _ _ _ h => h) (Or.inl ⟨by rfl, ?yr7_24⟩) hHeld ?_
    case yr7_24 => (intro W0 hSw; go_simp; try with_reducible rfl)
    try simp only [pu]
    refine wpAnyH_take (i := 25) (oi := ⟨(some 59), _, _, _, _, _⟩) (v := .bool true) rfl (by kernel_rfl) (by kernel_rfl) (by kernel_rfl) (fun _ _ _ h => h) (Or.inl ⟨by rfl, ?yr7_25⟩) hHeld ?_
    case yr7_25 => (intro W0 hSw; go_simp; try with_reducible rfl)
    try simp only [pu]
    refine wpAnyH_take (i := 26) (oi := ⟨(some 60), _, _, _, _, _⟩) (v := .bool true) rfl (by kernel_rfl) (by kernel_rfl) (by kernel_rfl) (fun _ _ _ h => h) (Or.inl ⟨by rfl, ?yr7_26⟩) hHeld ?_
    case yr7_26 => (intro W0 hSw; go_simp; (try simp); (try with_reducible rfl))
    try simp only [pu]
    refine wpAnyH_take (i := 27) (oi := ⟨(some 61), _, _, _, _, _⟩) (v := .bool true) rfl (by kernel_rfl) (by kernel_rfl) (by kernel_rfl) (fun _ _ _ h => h) (Or.inl ⟨by rfl, ?yr7_27⟩) hHeld ?_
    case yr7_27 => (intro W0 hSw; go_simp; try with_reducible rfl)
    try simp only [pu]
    refine wpAnyH_take (i := 28) (oi := ⟨(some 62), _, _, _, _, _⟩) (v := .bool true) rfl (by kernel_rfl) (by kernel_rfl) (by kernel_rfl) (fun _ _ _ h => h) (Or.inl ⟨by rfl, ?yr7_28⟩) hHeld ?_
    case yr7_28 => (intro W0 hSw; go_simp; try with_reducible rfl)
    try simp only [pu]
    refine wpAnyH_take (i := 29) (oi := ⟨(some 63), _, _, _, _, _⟩) (v := .bool true) rfl (by kernel_rfl) (by kernel_rfl) (by kernel_rfl) (fun _ _ _ h => h) (Or.inl ⟨by rfl, ?yr7_29⟩) hHeld ?_
    case yr7_29 => (intro W0 hSw; go_simp; try with_reducible rfl)
    try simp only [pu]
    refine wpAnyH_take (i := 30) (oi := ⟨(some 64), _, _, _, _, _⟩) (v := .bool true) rfl (by kernel_rfl) (by kernel_rfl) (by kernel_rfl) (fun _ _ _ h => h) (Or.inl ⟨by rfl, ?yr7_30⟩) hHeld ?_
    case yr7_30 => (intro W0 hSw; go_simp; try with_reducible rfl)
    try simp only [pu]
    refine wpAnyH_take (i := 31) (oi := ⟨(some 65), _, _, _, _, _⟩) (v := undef) rfl (by kernel_rfl) (by kernel_rfl) (by kernel_rfl) (fun _ _ _ h => h) (Or.inr ⟨by rfl, rfl⟩) hHeld ?_
    try simp only [pu]
    refine wpAnyH_take (i := 32) (oi := ⟨(some 66), _, _, _, _, _⟩) (v := undef) rfl (by kernel_rfl) (by kernel_rfl) (by kernel_rfl) (fun _ _ _ h => h) (Or.inr ⟨by rfl, rfl⟩) hHeld ?_
    try simp only [pu]
    refine wpAnyH_take (i := 33) (oi := ⟨(some 67), _, _, _, _, _⟩) (v := .bool true) rfl (by kernel_rfl) (by kernel_rfl) (by kernel_rfl) (fun _ _ _ h => h) (Or.inl ⟨by rfl, ?yr7_33⟩) hHeld ?_
    case yr7_33 => (intro W0 hSw; go_simp; try with_reducible rfl)
    try simp only [pu]
    refine wpAnyH_take (i := 34) (oi := ⟨(some 68), _, _, _, _, _⟩) (v := .bool true) rfl (by kernel_rfl) (by kernel_rfl) (by kernel_rfl) (fun _ _ _ h => h) (Or.inl ⟨by rfl, ?yr7_34⟩) hHeld ?_
    case yr7_34 => (intro W0 hSw; go_simp; try with_reducible rfl)
    try simp only [pu]
    refine wpAnyH_take (i := 35) (oi := ⟨(some 69), _, _, _, _, _⟩) (v := .bool true) rfl (by kernel_rfl) (by kernel_rfl) (by kernel_rfl) (fun _ _ _ h => h) (Or.inl ⟨by rfl, ?yr7_35⟩) hHeld ?_
    case yr7_35 => (intro W0 hSw; go_simp; try with_reducible rfl)
    try simp only [pu]
    refine wpAnyH_take (i := 36) (oi := ⟨(some 70), _, _, _, _, _⟩) (v := .agg a.cells.toArray) rfl (by kernel_rfl) (by kernel_rfl) (by kernel_rfl) (fun _ _ _ h => h) (yieldsIf_load_mid (by rfl) _ _ rfl (w.heap.size) 0 rfl a.cells _ (fun W' hW' => ed_allR (row_next2 gA_7 hW')) (Try.underlying28) rfl (by rw [Ed.cells_len HA.out]; kernel_rfl)) hHeld ?_
    try simp only [pu]
    refine wpAnyH_take (i := 37) (oi := ⟨(some 71), _, _, _, _, _⟩) (v := .agg b.cells.toArray) rfl (by kernel_rfl) (by kernel_rfl) (by kernel_rfl) (fun _ _ _ h => h) (yieldsIf_load_mid (by rfl) _ _ rfl ((w.heap.size + 1)) 0 rfl b.cells _ (fun W' hW' => ed_allR (row_next2 gB_7 hW')) (Try.underlying28) rfl (by rw [Ed.cells_len HB.out]; kernel_rfl)) hHeld ?_
    try simp only [pu]
    refine wpAnyH_take (i := 39) (oi := ⟨(some 73), _, _, _, _, _⟩) (v := .agg a.cells.toArray) rfl (by kernel_rfl) (by kernel_rfl) (by kernel_rfl) (fun _ _ _ h => h) (yieldsIf_load_mid (by rfl) _ _ rfl (w.heap.size) 0 rfl a.cells _ (fun W' hW' => ed_allR (row_next2 gA_7 hW')) (Try.underlying28) rfl (by rw [Ed.cells_len HA.out]; kernel_rfl)) hHeld ?_
    try simp only [pu]
    refine wpAnyH_take (i := 41) (oi := ⟨(some 75), _, _, _, _, _⟩) (v := .agg b.cells.toArray) rfl (by kernel_rfl) (by kernel_rfl) (by kernel_rfl) (fun _ _ _ h => h) (yieldsIf_load_mid (by rfl) _ _ rfl ((w.heap.size + 1)) 0 rfl b.cells _ (fun W' hW' => ed_allR (row_next2 gB_7 hW')) (Try.underlying28) rfl (by rw [Ed.cells_len HB.out]; kernel_rfl)) hHeld ?_
    try simp only [pu]
    refine wpAnyH_ready (rs := [38]) (by kernel_rfl) (by simp) ?_
    refine AllReadyH.cons (i := 38) (o := ⟨(some 72), _, _, _, _, _⟩) rfl (fun K hK => ?_) AllReadyH.nil
    go_simp
    refine (p5 _).mono ?_
    rintro e r7T8 ⟨rfl, hb8⟩
    have hS8 := below_next hHeld hHeld.size hb8
    have gA_8 := row_next2 gA_7 hS8
    have gB_8 := row_next2 gB_7 hS8
    have gX_8 := row_next2 gX_7 hS8
    have gY_8 := row_next2 gY_7 hS8
    have hb_8 := below_next hb_7 hb_7.size hS8
    have hyP_8 := hyP_7.next hS8
    have hyQ_8 := hyQ_7.next hS8
    refine hK.out _ _ hS8 (fun hHeld => ?_)
    try simp only [pu]
    refine held_more (S' := fun W' => Below r7T8.heap.size r7T8 W') (fun W h => hS8.trans (h.mono hS8.size)) _ _ _ _ ?_
    clear hHeld
    have hHeld := Below.refl r7T8.heap.size r7T8
    clear hK K hb8
    refine wpAnyH_ready (rs := [40]) (by kernel_rfl) (by simp) ?_
    refine AllReadyH.cons (i := 40) (o := ⟨(some 74), _, _, _, _, _⟩) rfl (fun K hK => ?_) AllReadyH.nil
    go_simp
    refine (pa _).mono ?_
    rintro e r7T9 ⟨rfl, hb9⟩
    have hS9 := below_next hHeld hHeld.size hb9
    have gA_9 := row_next2 gA_8 hS9
    have gB_9 := row_next2 gB_8 hS9
    have gX_9 := row_next2 gX_8 hS9
    have gY_9 := row_next2 gY_8 hS9
    have hb_9 := below_next hb_8 hb_8.size hS9
    have hyP_9 := hyP_8.next hS9
    have hyQ_9 := hyQ_8.next hS9
    refine hK.out _ _ hS9 (fun hHeld => ?_)
    try simp only [pu]
    refine held_more (S' := fun W' => Below r7T9.heap.size r7T9 W') (fun W h => hS9.trans (h.mono hS9.size)) _ _ _ _ ?_
    clear hHeld
    have hHeld := Below.refl r7T9.heap.size r7T9
    clear hK K hb9
    refine wpAnyH_ready (rs := [42]) (by kernel_rfl) (by simp) ?_
    refine AllReadyH.cons (i := 42) (o := ⟨(some 76), _, _, _, _, _⟩) rfl (fun K hK => ?_) AllReadyH.nil
    go_simp
    refine (pb _).mono ?_
    rintro e r7T10 ⟨rfl, hb10⟩
    have hS10 := below_next hHeld hHeld.size hb10
    have gA_10 := row_next2 gA_9 hS10
    have gB_10 := row_next2 gB_9 hS10
    have gX_10 := row_next2 gX_9 hS10
    have gY_10 := row_next2 gY_9 hS10
    have hb_10 := below_next hb_9 hb_9.size hS10
    have hyP_10 := hyP_9.next hS10
    have hyQ_10 := hyQ_9.next hS10
    refine hK.out _ _ hS10 (fun hHeld => ?_)
    try simp only [pu]
    refine held_more (S' := fun W' => Below r7T10.heap.size r7T10 W') (fun W h => hS10.trans (h.mono hS10.size)) _ _ _ _ ?_
    clear hHeld
    have hHeld := Below.refl r7T10.heap.size r7T10
    clear hK K hb10
    refine wpAnyH_ready (rs := [43]) (by kernel_rfl) (by simp) ?_
    refine AllReadyH.cons (i := 43) (o := ⟨(some 77), _, _, _, _, _⟩) rfl (fun K hK => ?_) AllReadyH.nil
    go_simp
    refine (p6 _).mono ?_
    rintro e r7T11 ⟨rfl, hb11⟩
    have hS11 := below_next hHeld hHeld.size hb11
    have gA_11 := row_next2 gA_10 hS11
    have gB_11 := row_next2 gB_10 hS11
    have gX_11 := row_next2 gX_10 hS11
    have gY_11 := row_next2 gY_10 hS11
    have hb_11 := below_next hb_10 hb_10.size hS11
    have hyP_11 := hyP_10.next hS11
    have hyQ_11 := hyQ_10.next hS11
    refine hK.out _ _ hS11 (fun hHeld => ?_)
    try simp only [pu]
    refine held_more (S' := fun W' => Below r7T11.heap.size r7T11 W') (fun W h => hS11.trans (h.mono hS11.size)) _ _ _ _ ?_
    clear hHeld
    have hHeld := Below.refl r7T11.heap.size r7T11
    clear hK K hb11
    refine wpAnyH_take (i := 44) (oi := ⟨(some 78), _, _, _, _, _⟩) (v := .bool true) rfl (by kernel_rfl) (by kernel_rfl) (by kernel_rfl) (fun _ _ _ h => h) (Or.inl ⟨by rfl, ?yr7_44⟩) hHeld ?_
    case yr7_44 => (intro W0 hSw; go_simp; (try simp); (try with_reducible rfl))
    try simp only [pu]
    refine wpAnyH_take (i := 45) (oi := ⟨(some 79), _, _, _, _, _⟩) (v := .bool true) rfl (by kernel_rfl) (by kernel_rfl) (by kernel_rfl) (fun _ _ _ h => h) (Or.inl ⟨by rfl, ?yr7_45⟩) hHeld ?_
    case yr7_45 => (intro W0 hSw; go_simp; try with_reducible rfl)
    try simp only [pu]
    refine wpAnyH_take (i := 46) (oi := ⟨(some 80), _, _, _, _, _⟩) (v := .bool true) rfl (by kernel_rfl) (by kernel_rfl) (by kernel_rfl) (fun _ _ _ h => h) (Or.inl ⟨by rfl, ?yr7_46⟩) hHeld ?_
    case yr7_46 => (intro W0 hSw; go_simp; try with_reducible rfl)
    try simp only [pu]
    refine wpAnyH_take (i := 47) (oi := ⟨(some 81), _, _, _, _, _⟩) (v := .agg a.cells.toArray) rfl (by kernel_rfl) (by kernel_rfl) (by kernel_rfl) (fun _ _ _ h => h) (yieldsIf_load_mid (by rfl) _ _ rfl (w.heap.size) 0 rfl a.cells _ (fun W' hW' => ed_allR (row_next2 gA_11 hW')) (Try.underlying28) rfl (by rw [Ed.cells_len HA.out]; kernel_rfl)) hHeld ?_
    try simp only [pu]
    refine wpAnyH_take (i := 48) (oi := ⟨(some 82), _, _, _, _, _⟩) (v := .agg b.cells.toArray) rfl (by kernel_rfl) (by kernel_rfl) (by kernel_rfl) (fun _ _ _ h => h) (yieldsIf_load_mid (by rfl) _ _ rfl ((w.heap.size + 1)) 0 rfl b.cells _ (fun W' hW' => ed_allR (row_next2 gB_11 hW')) (Try.underlying28) rfl (by rw [Ed.cells_len HB.out]; kernel_rfl)) hHeld ?_
    try simp only [pu]
    refine wpAnyH_take (i := 50) (oi := ⟨(some 84), _, _, _, _, _⟩) (v := .agg a.cells.toArray) rfl (by kernel_rfl) (by kernel_rfl) (by kernel_rfl) (fun _ _ _ h => h) (yieldsIf_load_mid (by rfl) _ _ rfl (w.heap.size) 0 rfl a.cells _ (fun W' hW' => ed_allR (row_next2 gA_11 hW')) (Try.underlying28) rfl (by rw [Ed.cells_len HA.out]; kernel_rfl)) hHeld ?_
    try simp only [pu]
    refine wpAnyH_take (i := 52) (oi := ⟨(some 86), _, _, _, _, _⟩) (v := .agg b.cells.toArray) rfl (by kernel_rfl) (by kernel_rfl) (by kernel_rfl) (fun _ _ _ h => h) (yieldsIf_load_mid (by rfl) _ _ rfl ((w.heap.size + 1)) 0 rfl b.cells _ (fun W' hW' => ed_allR (row_next2 gB_11 hW')) (Try.underlying28) rfl (by rw [Ed.cells_len HB.out]; kernel_rfl)) hHeld ?_
    try simp only [pu]
    refine wpAnyH_ready (rs := [49]) (by kernel_rfl) (by simp) ?_
    refine AllReadyH.cons (i := 49) (o := ⟨(some 83), _, _, _, _, _⟩) rfl (fun K hK => ?_) AllReadyH.nil
    go_simp
    refine (p7 _).mono ?_
    rintro e r7T12 ⟨rfl, hb12⟩
    have hS12 := below_next hHeld hHeld.size hb12
    have gA_12 := row_next2 gA_11 hS12
    have gB_12 := row_next2 gB_11 hS12
    have gX_12 := row_next2 gX_11 hS12
    have gY_12 := row_next2 gY_11 hS12
    have hb_12 := below_next hb_11 hb_11.size hS12
    have hyP_12 := hyP_11.next hS12
    have hyQ_12 := hyQ_11.next hS12
    refine hK.out _ _ hS12 (fun hHeld => ?_)
    try simp only [pu]
    refine held_more (S' := fun W' => Below r7T12.heap.size r7T12 W') (fun W h => hS12.trans (h.mono hS12.size)) _ _ _ _ ?_
    clear hHeld
    have hHeld := Below.refl r7T12.heap.size r7T12
    clear hK K hb12
    refine wpAnyH_ready (rs := [51]) (by kernel_rfl) (by simp) ?_
    refine AllReadyH.cons (i := 51) (o := ⟨(some 85), _, _, _, _, _⟩) rfl (fun K hK => ?_) AllReadyH.nil
    go_simp
    refine (pa _).mono ?_
    rintro e r7T13 ⟨rfl, hb13⟩
    have hS13 := below_next hHeld hHeld.size hb13
    have gA_13 := row_next2 gA_12 hS13
    have gB_13 := row_next2 gB_12 hS13
    have gX_13 := row_next2 gX_12 hS13
    have gY_13 := row_next2 gY_12 hS13
    have hb_13 := below_next hb_12 hb_12.size hS13
    have hyP_13 := hyP_12.next hS13
    have hyQ_13 := hyQ_12.next hS13
    refine hK.out _ _ hS13 (fun hHeld => ?_)
    try simp only [pu]
    refine held_more (S' := fun W' => Below r7T13.heap.size r7T13 W') (fun W h => hS13.trans (h.mono hS13.size)) _ _ _ _ ?_
    clear hHeld
    have hHeld := Below.refl r7T13.heap.size r7T13
    clear hK K hb13
    refine wpAnyH_ready (rs := [53]) (by kernel_rfl) (by simp) ?_
    refine AllReadyH.cons (i := 53) (o := ⟨(some 87), _, _, _, _, _⟩) rfl (fun K hK => ?_) AllReadyH.nil
    go_simp
    refine (pb _).mono ?_
    rintro e r7T14 ⟨rfl, hb14⟩
    have hS14 := below_next hHeld hHeld.size hb14
    have gA_14 := row_next2 gA_13 hS14
    have gB_14 := row_next2 gB_13 hS14
    have gX_14 := row_next2 gX_13 hS14
    have gY_14 := row_next2 gY_13 hS14
    have hb_14 := below_next hb_13 hb_13.size hS14
    have hyP_14 := hyP_13.next hS14
    have hyQ_14 := hyQ_13.next hS14
    refine hK.out _ _ hS14 (fun hHeld => ?_)
    try simp only [pu]
    refine held_more (S' := fun W' => Below r7T14.heap.size r7T14 W') (fun W h => hS14.trans (h.mono hS14.size)) _ _ _ _ ?_
    clear hHeld
    have hHeld := Below.refl r7T14.heap.size r7T14
    clear hK K hb14
    refine wpAnyH_ready (rs := [54]) (by kernel_rfl) (by simp) ?_
    refine AllReadyH.cons (i := 54) (o := ⟨(some 88), _, _, _, _, _⟩) rfl (fun K hK => ?_) AllReadyH.nil
    go_simp
    refine (p8 _).mono ?_
    rintro e r7T15 ⟨rfl, hb15⟩
    have hS15 := below_next hHeld hHeld.size hb15
    have gA_15 := row_next2 gA_14 hS15
    have gB_15 := row_next2 gB_14 hS15
    have gX_15 := row_next2 gX_14 hS15
    have gY_15 := row_next2 gY_14 hS15
    have hb_15 := below_next hb_14 hb_14.size hS15
    have hyP_15 := hyP_14.next hS15
    have hyQ_15 := hyQ_14.next hS15
    refine hK.out _ _ hS15 (fun hHeld => ?_)
    try simp only [pu]
    refine held_more (S' := fun W' => Below r7T15.heap.size r7T15 W') (fun W h => hS15.trans (h.mono hS15.size)) _ _ _ _ ?_
    clear hHeld
    have hHeld := Below.refl r7T15.heap.size r7T15
    clear hK K hb15
    refine wpAnyH_take (i := 55) (oi := ⟨(some 89), _, _, _, _, _⟩) (v := .bool true) rfl (by kernel_rfl) (by kernel_rfl) (by kernel_rfl) (fun _ _ _ h => h) (Or.inl ⟨by rfl, ?yr7_55⟩) hHeld ?_
    case yr7_55 => (intro W0 hSw; go_simp; (try simp); (try with_reducible rfl))
    try simp only [pu]
    refine wpAnyH_take (i := 56) (oi := ⟨(some 90), _, _, _, _, _⟩) (v := .bool true) rfl (by kernel_rfl) (by kernel_rfl) (by kernel_rfl) (fun _ _ _ h => h) (Or.inl ⟨by rfl, ?yr7_56⟩) hHeld ?_
    case yr7_56 => (intro W0 hSw; go_simp; try with_reducible rfl)
    try simp only [pu]
    refine wpAnyH_take (i := 57) (oi := ⟨(some 6), _, _, _, _, _⟩) (v := .bool true) rfl (by kernel_rfl) (by kernel_rfl) (by kernel_rfl) (fun _ _ _ h => h) (Or.inl ⟨by rfl, ?yr7_57⟩) hHeld ?_
    case yr7_57 => (intro W0 hSw; go_simp; try with_reducible rfl)
    try simp only [pu]
    refine wpAnyH_done (by kernel_rfl) ?_ _
    go_wp2
    go_ret
    exact ⟨rfl, below_next hb_15 hb_15.size hHeld⟩
end Go.Proofs.Ytabgkkdgamacnaa
