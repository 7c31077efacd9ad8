/-
  Contracts of law 16's long and awake. Conditions: vectors of eight numbers.
-/
import Derived.Test.YtabgkkdgamacnaaOpE
import Derived.Test.YtabgkkdgamacnaaOpP
import Derived.Test.YtabgkkdgamacnaaOpO
namespace Go.Proofs.Ytabgkkdgamacnaa
open Go.RowKit

theorem oget_some (w : World) (A : Option Addr) (l : List UInt8) (n c : Nat) (x : Ed) (h : eget l = some x) (hA : Byt w w.heap.size A l) (hl : l.length = n) (hn : n ≤ 70368744177664) :
    Calls Try.prog 9 #[.slice A n c] w fun e w' => e = .returned (.tuple #[.agg x.cells.toArray, .int .i64 0]) ∧ Below w.heap.size w w' := by
  refine (oget_any w A l n c hA hl hn).mono ?_
  rintro e w' ⟨y, o, hg, _, rfl, hb⟩
  have h1 := hg.out.1
  rw [h] at h1
  cases o
  · exact absurd h1 (by simp)
  · obtain rfl : x = y := by simpa using h1
    exact ⟨rfl, hb⟩
theorem oget_none (w : World) (A : Option Addr) (l : List UInt8) (n c : Nat) (h : eget l = none) (hA : Byt w w.heap.size A l) (hl : l.length = n) (hn : n ≤ 70368744177664) :
    Calls Try.prog 9 #[.slice A n c] w fun e w' => e = .returned (.tuple #[.agg ed0.cells.toArray, .int .i64 3]) ∧ Below w.heap.size w w' := by
  refine (oget_any w A l n c hA hl hn).mono ?_
  rintro e w' ⟨y, o, hg, _, rfl, hb⟩
  have h1 := hg.out.1
  rw [h] at h1
  cases o
  · obtain rfl := hg.out.2 rfl
    exact ⟨rfl, hb⟩
  · exact absurd h1 (by simp)
set_option maxRecDepth 100000 in
theorem olong_any (w : World) (a : Ed) (ha : a.seen.length = 8) :
    Calls Try.prog 13 #[.agg a.cells.toArray] w fun e w' => e = .returned (.bool (elong a)) ∧ Below w.heap.size w w' := by
  obtain ⟨W, hW, hgA, hbW, hsW⟩ := one_new w a.cells.toArray 28
  have HW := Lib.hid hW
  have c1 := ed_con hgA ha
  have c2 := ed_fld hgA ha
  have c3 := ed_val hgA ha
  have HO := vlt (show elong a = (decide (60 < a.con.size) || decide (60 < a.fld.size) || decide (250 < a.val.size)) from rfl)
  generalize elong a = o at *
  generalize a.con = x at *
  generalize a.fld = y at *
  generalize a.val = z at *
  clear hW ha hsW hgA
  go_enter Try.func13, Try.ntmps13
  go_upto_region 1 with fail
  rw [HW.out]
  clear HW
  by_cases h1 : (60 : Int) < (x.size : Int)
  · have hv : o = true := by rw [HO.out, decide_eq_true (by omega)]; simp
    go_wp2
    go_ret
    exact ⟨by rw [hv]; rfl, hbW⟩
  · by_cases h2 : (60 : Int) < (y.size : Int)
    · have hv : o = true := by rw [HO.out, decide_eq_true (p := 60 < y.size) (by omega)]; simp
      go_wp2
      go_ret
      exact ⟨rfl, hbW⟩
    · by_cases h3 : (250 : Int) < (z.size : Int)
      · have hv : o = true := by rw [HO.out, decide_eq_true (p := 250 < z.size) (by omega)]; simp
        go_wp2
        go_ret
        exact ⟨rfl, hbW⟩
      · have hv : o = false := by rw [HO.out, decide_eq_false (by omega), decide_eq_false (by omega), decide_eq_false (by omega)]; rfl
        go_wp2
        go_ret
        exact ⟨rfl, hbW⟩
theorem along_size {e : Ed} (h : elong e = false) : e.con.size ≤ 60 ∧ e.fld.size ≤ 60 ∧ e.val.size ≤ 250 := by
  simp only [elong, Bool.or_eq_false_iff, decide_eq_false_iff_not] at h
  omega
def awA : Ed := ⟨0, 1, [0, 0, 0, 0, 0, 0, 0, 0], 1, ⟨#[99]⟩, ⟨#[102]⟩, ⟨#[118]⟩, 0⟩
def awB : Ed := ⟨1, 1, [1, 0, 0, 0, 0, 0, 0, 0], 1, ⟨#[99]⟩, ⟨#[102]⟩, ⟨#[]⟩, 0⟩
theorem awA_len : awA.seen.length = 8 := rfl
theorem awB_len : awB.seen.length = 8 := rfl
theorem aw_vec1 : Try.prog.built 26 [(0, .int .i64 1)] = some (i64v [1, 0, 0, 0, 0, 0, 0, 0]).toArray := by kernel_rfl
theorem aw_dot1 : Try.prog.built 24 [(1, .int .i64 1)] = some #[.int .i64 0, .int .i64 1] := by kernel_rfl
theorem aw_dot2 (x : Int) : Try.prog.built 24 [(0, .int .i64 x), (1, .int .i64 1)] = some #[.int .i64 x, .int .i64 1] := by kernel_rfl
theorem aw_edA : Try.prog.built 28 [(0, .agg #[.int .i64 0, .int .i64 1]), (2, .int .i64 1), (3, .string ⟨#[99]⟩), (4, .string ⟨#[102]⟩), (5, .string ⟨#[118]⟩)] = some awA.cells.toArray := by kernel_rfl
theorem aw_edB : Try.prog.built 28 [(0, .agg #[.int .i64 1, .int .i64 1]), (1, .agg (i64v [1, 0, 0, 0, 0, 0, 0, 0]).toArray), (2, .int .i64 1), (3, .string ⟨#[99]⟩), (4, .string ⟨#[102]⟩)] = some awB.cells.toArray := by kernel_rfl
theorem aw_ba : eover awB awA = true := by decide +kernel
theorem aw_ab : eover awA awB = false := by decide +kernel
theorem aw_good : awA.good = true := by decide +kernel
theorem aw_less : eless awA awB = true := by decide +kernel
theorem put_le {a : Ed} (ha : a.seen.length = 8) (h : a.good = true) : a.put.length ≤ 415 := by
  have f := Ed.fine h
  have b1 := nm_size f.con
  have b2 := f.fld
  have b3 := f.val
  have b4 := vput_len ha
  have b5 := gr_le a.dev.toNat
  have b6 := gr_le a.num.toNat
  have b7 := gr_le a.kind.toNat
  have b8 := gr_le a.time.toNat
  have b9 := gr_le a.con.size
  have b10 := gr_le a.fld.size
  have b11 := gr_le a.val.size
  have e1 : a.con.data.toList.length = a.con.size := by simp
  have e2 : a.fld.data.toList.length = a.fld.size := by simp
  have e3 : a.val.data.toList.length = a.val.size := by simp
  rw [Ed.put, if_pos h, Ed.raw, txt, txt, txt]
  simp only [List.length_append]
  omega
theorem row_alloc {w : World} {g : Nat} {X o : Obj} (h : Hid (w.heap[g]? = some X)) : Hid ((w.alloc o).heap[g]? = some X) := (Below.heap_alloc _ _ _ (row_size h)).trans h.out
theorem new_row (w : World) (cs : Array Value) (t : TypeId) : Hid ((w.alloc (.cells cs t)).heap[w.heap.size]? = some (.cells cs t (0, 0))) := heap_alloc_new _ _

set_option maxRecDepth 100000 in
set_option maxHeartbeats 2000000 in
theorem awake16_any (w : World) : Calls Try.prog 8 #[] w fun e w' => e = .returned (.bool true) ∧ Below w.heap.size w w' := by
  have hzf := zero_ed
  go_enter Try.func8, Try.ntmps8
  go_upto_region 2 with ((with_reducible refine wpList_store_row rfl 28 (.tmp 1) (.tmp 6) rfl w.heap.size awA.cells.toArray rfl (by kernel_rfl) 28 _ (heap_alloc_new _ _) (by rw [Ed.cells_size awA_len]; kernel_rfl) (by rw [Ed.cells_size awA_len]; kernel_rfl) (all_oneCell_toArray (Ed.cells_one _)) ?_); rw [World.setRow_alloc_new])
  obtain ⟨W, hW, hgA, hbW, hsW⟩ := one_new w awA.cells.toArray 28
  rw [hW]
  have hA : w.heap.size < W.heap.size := row_size hgA
  clear hW hsW
  go_upto_region 3 with ((with_reducible refine wpList_store_row rfl 28 (.tmp 2) (.tmp 9) rfl W.heap.size awB.cells.toArray rfl (by kernel_rfl) 28 _ (heap_alloc_new _ _) (by rw [Ed.cells_size awB_len]; kernel_rfl) (by rw [Ed.cells_size awB_len]; kernel_rfl) (all_oneCell_toArray (Ed.cells_one _)) ?_); rw [World.setRow_alloc_new])
  obtain ⟨V, hV⟩ : ∃ V, V = W.alloc (.cells awB.cells.toArray 28) := ⟨_, rfl⟩
  have gB := new_row W awB.cells.toArray 28
  have gA := row_alloc (o := .cells awB.cells.toArray 28) hgA
  have hbV := hbW.alloc hbW.size (.cells awB.cells.toArray 28)
  rw [← hV] at gA gB hbV ⊢
  obtain ⟨B, hB⟩ : ∃ B, B = W.heap.size := ⟨_, rfl⟩
  rw [← hB] at gB ⊢
  clear hV hB hgA hbW hA
  have d1 := fun w => oput_any w awA awA_len
  go_wp2_with (with_reducible refine wpList_load_row rfl 28 (.tmp 1) rfl w.heap.size rfl 28 awA.cells.toArray (0, 0) _ gA.out Try.underlying28 rfl (by rw [Ed.cells_size awA_len]; kernel_rfl) ?_)
  refine (d1 _).mono ?_
  rintro e w1 ⟨A1, n1, c1, rfl, hr1, hb1⟩
  have gA1 := row_next2 gA hb1
  have gB1 := row_next2 gB hb1
  have hbw1 := below_next hbV hbV.size hb1
  have hg := oget_some w1 A1 _ n1 c1 awA (eget_put awA_len aw_good) hr1.byt hr1.len (by rw [← hr1.len]; have := put_le awA_len aw_good; omega)
  clear d1 hr1 hb1 gA gB hbV
  go_wp2_with fail
  refine hg.mono ?_
  rintro e w2 ⟨rfl, hb2⟩
  have gA2 := row_next2 gA1 hb2
  have gB2 := row_next2 gB1 hb2
  have hbw2 := below_next hbw1 hbw1.size hb2
  clear hg hb2 gA1 gB1 hbw1
  go_upto_region 4 with ((with_reducible refine wpList_store_row rfl 28 (.tmp 3) (.tmp 14) rfl w2.heap.size awA.cells.toArray rfl (by kernel_rfl) 28 _ (heap_alloc_new _ _) (by rw [Ed.cells_size awA_len]; kernel_rfl) (by rw [Ed.cells_size awA_len]; kernel_rfl) (all_oneCell_toArray (Ed.cells_one _)) ?_); rw [World.setRow_alloc_new])
  obtain ⟨X, hX⟩ : ∃ X, X = w2.alloc (.cells awA.cells.toArray 28) := ⟨_, rfl⟩
  have gC := new_row w2 awA.cells.toArray 28
  have gA := row_alloc (o := .cells awA.cells.toArray 28) gA2
  have gB := row_alloc (o := .cells awA.cells.toArray 28) gB2
  have hbX := hbw2.alloc hbw2.size (.cells awA.cells.toArray 28)
  rw [← hX] at gA gB gC hbX ⊢
  obtain ⟨C, hC⟩ : ∃ C, C = w2.heap.size := ⟨_, rfl⟩
  rw [← hC] at gC ⊢
  clear hX hC gA2 gB2 hbw2
  have c1 := fun w => oover_any w awB awA awB_len awA_len
  have c2 := fun w => oover_any w awA awB awA_len awB_len
  have c3 := fun w => ogood_any w awA awA_len
  have c4 := fun w => oless_any w awA awB awA_len awB_len
  simp only [aw_ba] at c1
  simp only [aw_ab] at c2
  simp only [aw_good] at c3
  simp only [aw_less] at c4
  have q1 := eql_edit awA awA awA_len awA_len true (by simp)
  refine plain_start (S := fun W' => Below X.heap.size X W') (by kernel_rfl) (Below.refl _ _) (fun hHeld => ?_)
  refine wpAnyH_take (i := 0) (oi := ⟨(some 16), _, _, _, _, _⟩) (v := .agg awB.cells.toArray) rfl (by kernel_rfl) (by kernel_rfl) (by kernel_rfl) (fun _ _ _ h => h) (yieldsIf_load_mid (by rfl) _ _ rfl B 0 rfl awB.cells _ (fun W' hW' => ed_allR (row_next2 gB hW')) (Try.underlying28) rfl (by rw [Ed.cells_len awB_len]; kernel_rfl)) hHeld ?_
  try simp only [pu]
  refine wpAnyH_take (i := 1) (oi := ⟨(some 17), _, _, _, _, _⟩) (v := .agg awA.cells.toArray) rfl (by kernel_rfl) (by kernel_rfl) (by kernel_rfl) (fun _ _ _ h => h) (yieldsIf_load_mid (by rfl) _ _ rfl (w.heap.size) 0 rfl awA.cells _ (fun W' hW' => ed_allR (row_next2 gA hW')) (Try.underlying28) rfl (by rw [Ed.cells_len awA_len]; kernel_rfl)) hHeld ?_
  try simp only [pu]
  refine wpAnyH_ready (rs := [2]) (by kernel_rfl) (by simp) ?_
  refine AllReadyH.cons (i := 2) (o := ⟨(some 18), _, _, _, _, _⟩) rfl (fun K hK => ?_) AllReadyH.nil
  go_simp
  refine (c1 _).mono ?_
  rintro e r4W1 ⟨rfl, r4h1⟩
  refine hK.out _ _ (below_next hHeld hHeld.size r4h1) (fun hHeld => ?_)
  clear hK K r4h1
  try simp only [pu]
  refine wpAnyH_take (i := 3) (oi := ⟨(some 19), _, _, _, _, _⟩) (v := .bool true) rfl (by kernel_rfl) (by kernel_rfl) (by kernel_rfl) (fun _ _ _ h => h) (Or.inl ⟨by rfl, ?yr4_3⟩) hHeld ?_
  case yr4_3 => (intro W0 hSw; go_simp; try with_reducible rfl)
  try simp only [pu]
  refine wpAnyH_take (i := 4) (oi := ⟨(some 20), _, _, _, _, _⟩) (v := .agg awA.cells.toArray) rfl (by kernel_rfl) (by kernel_rfl) (by kernel_rfl) (fun _ _ _ h => h) (yieldsIf_load_mid (by rfl) _ _ rfl (w.heap.size) 0 rfl awA.cells _ (fun W' hW' => ed_allR (row_next2 gA hW')) (Try.underlying28) rfl (by rw [Ed.cells_len awA_len]; kernel_rfl)) hHeld ?_
  try simp only [pu]
  refine wpAnyH_take (i := 5) (oi := ⟨(some 21), _, _, _, _, _⟩) (v := .agg awB.cells.toArray) rfl (by kernel_rfl) (by kernel_rfl) (by kernel_rfl) (fun _ _ _ h => h) (yieldsIf_load_mid (by rfl) _ _ rfl B 0 rfl awB.cells _ (fun W' hW' => ed_allR (row_next2 gB hW')) (Try.underlying28) rfl (by rw [Ed.cells_len awB_len]; kernel_rfl)) hHeld ?_
  try simp only [pu]
  refine wpAnyH_ready (rs := [6]) (by kernel_rfl) (by simp) ?_
  refine AllReadyH.cons (i := 6) (o := ⟨(some 22), _, _, _, _, _⟩) rfl (fun K hK => ?_) AllReadyH.nil
  go_simp
  refine (c2 _).mono ?_
  rintro e r4W2 ⟨rfl, r4h2⟩
  refine hK.out _ _ (below_next hHeld hHeld.size r4h2) (fun hHeld => ?_)
  clear hK K r4h2
  try simp only [pu]
  refine wpAnyH_take (i := 7) (oi := ⟨(some 23), _, _, _, _, _⟩) (v := .bool true) rfl (by kernel_rfl) (by kernel_rfl) (by kernel_rfl) (fun _ _ _ h => h) (Or.inl ⟨by rfl, ?yr4_7⟩) hHeld ?_
  case yr4_7 => (intro W0 hSw; go_simp; try with_reducible rfl)
  try simp only [pu]
  refine wpAnyH_take (i := 8) (oi := ⟨(some 24), _, _, _, _, _⟩) (v := .bool true) rfl (by kernel_rfl) (by kernel_rfl) (by kernel_rfl) (fun _ _ _ h => h) (Or.inl ⟨by rfl, ?yr4_8⟩) hHeld ?_
  case yr4_8 => (intro W0 hSw; go_simp; try with_reducible rfl)
  try simp only [pu]
  refine wpAnyH_take (i := 9) (oi := ⟨(some 25), _, _, _, _, _⟩) (v := .bool true) rfl (by kernel_rfl) (by kernel_rfl) (by kernel_rfl) (fun _ _ _ h => h) (Or.inl ⟨by rfl, ?yr4_9⟩) hHeld ?_
  case yr4_9 => (intro W0 hSw; go_simp; try with_reducible rfl)
  try simp only [pu]
  refine wpAnyH_take (i := 10) (oi := ⟨(some 26), _, _, _, _, _⟩) (v := .agg awA.cells.toArray) rfl (by kernel_rfl) (by kernel_rfl) (by kernel_rfl) (fun _ _ _ h => h) (yieldsIf_load_mid (by rfl) _ _ rfl (w.heap.size) 0 rfl awA.cells _ (fun W' hW' => ed_allR (row_next2 gA hW')) (Try.underlying28) rfl (by rw [Ed.cells_len awA_len]; kernel_rfl)) hHeld ?_
  try simp only [pu]
  refine wpAnyH_ready (rs := [11]) (by kernel_rfl) (by simp) ?_
  refine AllReadyH.cons (i := 11) (o := ⟨(some 27), _, _, _, _, _⟩) rfl (fun K hK => ?_) AllReadyH.nil
  go_simp
  refine (c3 _).mono ?_
  rintro e r4W3 ⟨rfl, r4h3⟩
  refine hK.out _ _ (below_next hHeld hHeld.size r4h3) (fun hHeld => ?_)
  clear hK K r4h3
  try simp only [pu]
  refine wpAnyH_take (i := 12) (oi := ⟨(some 28), _, _, _, _, _⟩) (v := .bool true) rfl (by kernel_rfl) (by kernel_rfl) (by kernel_rfl) (fun _ _ _ h => h) (Or.inl ⟨by rfl, ?yr4_12⟩) hHeld ?_
  case yr4_12 => (intro W0 hSw; go_simp; try with_reducible rfl)
  try simp only [pu]
  refine wpAnyH_take (i := 13) (oi := ⟨(some 29), _, _, _, _, _⟩) (v := .bool true) rfl (by kernel_rfl) (by kernel_rfl) (by kernel_rfl) (fun _ _ _ h => h) (Or.inl ⟨by rfl, ?yr4_13⟩) hHeld ?_
  case yr4_13 => (intro W0 hSw; go_simp; try with_reducible rfl)
  try simp only [pu]
  refine wpAnyH_take (i := 14) (oi := ⟨(some 30), _, _, _, _, _⟩) (v := .int .i64 0) rfl (by kernel_rfl) (by kernel_rfl) (by kernel_rfl) (fun _ _ _ h => h) (Or.inl ⟨by rfl, ?yr4_14⟩) hHeld ?_
  case yr4_14 => (intro W0 hSw; go_simp; try with_reducible rfl)
  try simp only [pu]
  refine wpAnyH_take (i := 15) (oi := ⟨(some 31), _, _, _, _, _⟩) (v := .bool true) rfl (by kernel_rfl) (by kernel_rfl) (by kernel_rfl) (fun _ _ _ h => h) (Or.inl ⟨by rfl, ?yr4_15⟩) hHeld ?_
  case yr4_15 => (intro W0 hSw; go_simp; try with_reducible rfl)
  try simp only [pu]
  refine wpAnyH_take (i := 16) (oi := ⟨(some 32), _, _, _, _, _⟩) (v := .bool true) rfl (by kernel_rfl) (by kernel_rfl) (by kernel_rfl) (fun _ _ _ h => h) (Or.inl ⟨by rfl, ?yr4_16⟩) hHeld ?_
  case yr4_16 => (intro W0 hSw; go_simp; try with_reducible rfl)
  try simp only [pu]
  refine wpAnyH_take (i := 17) (oi := ⟨(some 33), _, _, _, _, _⟩) (v := .bool true) rfl (by kernel_rfl) (by kernel_rfl) (by kernel_rfl) (fun _ _ _ h => h) (Or.inl ⟨by rfl, ?yr4_17⟩) hHeld ?_
  case yr4_17 => (intro W0 hSw; go_simp; try with_reducible rfl)
  try simp only [pu]
  refine wpAnyH_take (i := 18) (oi := ⟨(some 34), _, _, _, _, _⟩) (v := .agg awA.cells.toArray) rfl (by kernel_rfl) (by kernel_rfl) (by kernel_rfl) (fun _ _ _ h => h) (yieldsIf_load_mid (by rfl) _ _ rfl C 0 rfl awA.cells _ (fun W' hW' => ed_allR (row_next2 gC hW')) (Try.underlying28) rfl (by rw [Ed.cells_len awA_len]; kernel_rfl)) hHeld ?_
  try simp only [pu]
  refine wpAnyH_take (i := 19) (oi := ⟨(some 35), _, _, _, _, _⟩) (v := .agg awA.cells.toArray) rfl (by kernel_rfl) (by kernel_rfl) (by kernel_rfl) (fun _ _ _ h => h) (yieldsIf_load_mid (by rfl) _ _ rfl (w.heap.size) 0 rfl awA.cells _ (fun W' hW' => ed_allR (row_next2 gA hW')) (Try.underlying28) rfl (by rw [Ed.cells_len awA_len]; kernel_rfl)) hHeld ?_
  try simp only [pu]
  refine wpAnyH_take (i := 20) (oi := ⟨(some 36), _, _, _, _, _⟩) (v := .bool true) rfl (by kernel_rfl) (by kernel_rfl) (by kernel_rfl) (fun _ _ _ h => h) (Or.inl ⟨by rfl, ?yr4_20⟩) hHeld ?_
  case yr4_20 => (intro W0 hSw; go_simp; try simp only [q1]; try with_reducible rfl)
  try simp only [pu]
  refine wpAnyH_take (i := 21) (oi := ⟨(some 37), _, _, _, _, _⟩) (v := .bool true) rfl (by kernel_rfl) (by kernel_rfl) (by kernel_rfl) (fun _ _ _ h => h) (Or.inl ⟨by rfl, ?yr4_21⟩) hHeld ?_
  case yr4_21 => (intro W0 hSw; go_simp; try with_reducible rfl)
  try simp only [pu]
  refine wpAnyH_take (i := 22) (oi := ⟨(some 38), _, _, _, _, _⟩) (v := .bool true) rfl (by kernel_rfl) (by kernel_rfl) (by kernel_rfl) (fun _ _ _ h => h) (Or.inl ⟨by rfl, ?yr4_22⟩) hHeld ?_
  case yr4_22 => (intro W0 hSw; go_simp; try with_reducible rfl)
  try simp only [pu]
  refine wpAnyH_take (i := 23) (oi := ⟨(some 39), _, _, _, _, _⟩) (v := .agg awA.cells.toArray) rfl (by kernel_rfl) (by kernel_rfl) (by kernel_rfl) (fun _ _ _ h => h) (yieldsIf_load_mid (by rfl) _ _ rfl (w.heap.size) 0 rfl awA.cells _ (fun W' hW' => ed_allR (row_next2 gA hW')) (Try.underlying28) rfl (by rw [Ed.cells_len awA_len]; kernel_rfl)) hHeld ?_
  try simp only [pu]
  refine wpAnyH_take (i := 24) (oi := ⟨(some 40), _, _, _, _, _⟩) (v := .agg awB.cells.toArray) rfl (by kernel_rfl) (by kernel_rfl) (by kernel_rfl) (fun _ _ _ h => h) (yieldsIf_load_mid (by rfl) _ _ rfl B 0 rfl awB.cells _ (fun W' hW' => ed_allR (row_next2 gB hW')) (Try.underlying28) rfl (by rw [Ed.cells_len awB_len]; kernel_rfl)) hHeld ?_
  try simp only [pu]
  refine wpAnyH_ready (rs := [25]) (by kernel_rfl) (by simp) ?_
  refine AllReadyH.cons (i := 25) (o := ⟨(some 41), _, _, _, _, _⟩) rfl (fun K hK => ?_) AllReadyH.nil
  go_simp
  refine (c4 _).mono ?_
  rintro e r4W4 ⟨rfl, r4h4⟩
  refine hK.out _ _ (below_next hHeld hHeld.size r4h4) (fun hHeld => ?_)
  clear hK K r4h4
  try simp only [pu]
  refine wpAnyH_take (i := 26) (oi := ⟨(some 42), _, _, _, _, _⟩) (v := .bool true) rfl (by kernel_rfl) (by kernel_rfl) (by kernel_rfl) (fun _ _ _ h => h) (Or.inl ⟨by rfl, ?yr4_26⟩) hHeld ?_
  case yr4_26 => (intro W0 hSw; go_simp; try with_reducible rfl)
  try simp only [pu]
  refine wpAnyH_take (i := 27) (oi := ⟨(some 0), _, _, _, _, _⟩) (v := .bool true) rfl (by kernel_rfl) (by kernel_rfl) (by kernel_rfl) (fun _ _ _ h => h) (Or.inl ⟨by rfl, ?yr4_27⟩) hHeld ?_
  case yr4_27 => (intro W0 hSw; go_simp; try with_reducible rfl)
  try simp only [pu]
  refine wpAnyH_done (by kernel_rfl) ?_ _
  go_wp2
  go_ret
  exact ⟨rfl, below_next hbX hbX.size hHeld⟩
end Go.Proofs.Ytabgkkdgamacnaa
