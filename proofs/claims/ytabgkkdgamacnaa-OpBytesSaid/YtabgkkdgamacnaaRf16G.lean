/-
  Contract of the document's own GoodEdit. Conditions: a vector of eight numbers; texts of at most 2^47 bytes.
-/
import Derived.Test.YtabgkkdgamacnaaPkB
import Derived.Test.YtabgkkdgamacnaaPkC
namespace Go.Proofs.Ytabgkkdgamacnaa
open Go.RowKit

theorem tsays_long {k : Int} {f v : ByteArray} (h : 200 < v.size) : tsays k f v = false := by
  rw [tsays]
  split
  · rw [decide_eq_false (by omega)]; simp
  · split
    · rw [decide_eq_false (p := v.size = 0) (by omega)]; simp
    · rfl
set_option maxRecDepth 100000 in
set_option maxHeartbeats 4000000 in
theorem rgood_any (w : World) (a : Ed) (ha : a.seen.length = 8) (hs1 : a.con.size ≤ 140737488355328) (hs2 : a.fld.size ≤ 140737488355328) :
    Calls Try.prog 17 #[.agg a.cells.toArray] w fun e w' => e = .returned (.bool a.good) ∧ Below w.heap.size w w' := by
  obtain ⟨W, hW, hgA, hbW, hsW⟩ := one_new w a.cells.toArray 38
  have HW := Lib.hid hW
  have HA := Lib.hid ha
  have d1 := fun w => rvgood_any w a.seen ha
  have d2 := fun w => rname_any w a.con hs1
  have d3 := fun w => rname_any w a.fld hs2
  have HG := vlt (show a.good = (decide (0 ≤ a.dev ∧ a.dev < 8 ∧ 1 ≤ a.num ∧ a.num ≤ 1099511627776) && vgood a.seen && decide (iat a.seen a.dev.toNat = a.num - 1) && decide (0 ≤ a.time ∧ a.time ≤ 1099511627776) && nm a.con && tsays a.kind a.fld a.val) from rfl)
  obtain ⟨o, ho⟩ : ∃ o, o = a.good := ⟨_, rfl⟩
  obtain ⟨x1, h1⟩ : ∃ o, o = vgood a.seen := ⟨_, rfl⟩
  obtain ⟨x2, h2⟩ : ∃ o, o = nm a.con := ⟨_, rfl⟩
  obtain ⟨x3, h3⟩ : ∃ o, o = nm a.fld := ⟨_, rfl⟩
  simp only [← h1] at d1
  simp only [← h2] at d2
  simp only [← h3] at d3
  rw [← ho, ← h1, ← h2] at HG
  rw [← ho]
  have H3 := vlt h3
  clear hW ha hsW ho h1 h2 h3 hs1 hs2
  go_enter Try.func17, Try.ntmps17
  go_upto_region 1 with fail
  rw [HW.out]
  clear HW
  by_cases t0 : a.dev < 0
  · skip
    refine wp_region_held_drew (S := fun W' => Below W.heap.size W W') (by kernel_rfl) ((Below.refl _ _).drew) (fun hHeld => ?_)
    refine wpAnyH_take (i := 0) (oi := ⟨(some 3), _, _, _, _, _⟩) (v := .pointer (some ⟨w.heap.size, 0, none⟩)) rfl (by kernel_rfl) (by kernel_rfl) (by kernel_rfl) (fun _ _ _ h => h) (Or.inl ⟨by rfl, ?yr1_0⟩) hHeld ?_
    case yr1_0 => (intro W0 hSw; go_simp; try with_reducible rfl)
    try simp only [pu]
    refine wpAnyH_take (i := 1) (oi := ⟨(some 4), _, _, _, _, _⟩) (v := .pointer (some ⟨w.heap.size, 0, none⟩)) rfl (by kernel_rfl) (by kernel_rfl) (by kernel_rfl) (fun _ _ _ h => h) (Or.inl ⟨by rfl, ?yr1_1⟩) hHeld ?_
    case yr1_1 => (intro W0 hSw; go_simp; try with_reducible rfl)
    try simp only [pu]
    refine wpAnyH_take (i := 2) (oi := ⟨(some 5), _, _, _, _, _⟩) (v := .int .i64 a.dev) rfl (by kernel_rfl) (by kernel_rfl) (by kernel_rfl) (fun _ _ _ h => h) (Or.inl ⟨by rfl, ?yr1_2⟩) hHeld ?_
    case yr1_2 => (intro W0 hSw; have cc := ed_dev (row_next2 hgA hSw); go_simp; try with_reducible rfl)
    try simp only [pu]
    refine wpAnyH_take (i := 3) (oi := ⟨(some 6), _, _, _, _, _⟩) (v := .bool true) rfl (by kernel_rfl) (by kernel_rfl) (by kernel_rfl) (fun _ _ _ h => h) (Or.inl ⟨by rfl, ?yr1_3⟩) hHeld ?_
    case yr1_3 => (intro W0 hSw; go_simp; (try simp [t0]); (try omega))
    try simp only [pu]
    refine wpAnyH_take (i := 4) (oi := ⟨(some 7), _, _, _, _, _⟩) (v := .bool true) rfl (by kernel_rfl) (by kernel_rfl) (by kernel_rfl) (fun _ _ _ h => h) (Or.inl ⟨by rfl, ?yr1_4⟩) hHeld ?_
    case yr1_4 => (intro W0 hSw; go_simp; try with_reducible rfl)
    try simp only [pu]
    refine wpAnyH_take (i := 5) (oi := ⟨(some 8), _, _, _, _, _⟩) (v := undef) rfl (by kernel_rfl) (by kernel_rfl) (by kernel_rfl) (fun _ _ _ h => h) (Or.inr ⟨by rfl, rfl⟩) hHeld ?_
    try simp only [pu]
    refine wpAnyH_take (i := 6) (oi := ⟨(some 9), _, _, _, _, _⟩) (v := undef) rfl (by kernel_rfl) (by kernel_rfl) (by kernel_rfl) (fun _ _ _ h => h) (Or.inr ⟨by rfl, rfl⟩) hHeld ?_
    try simp only [pu]
    refine wpAnyH_take (i := 7) (oi := ⟨(some 10), _, _, _, _, _⟩) (v := undef) rfl (by kernel_rfl) (by kernel_rfl) (by kernel_rfl) (fun _ _ _ h => h) (Or.inr ⟨by rfl, rfl⟩) hHeld ?_
    try simp only [pu]
    refine wpAnyH_take (i := 8) (oi := ⟨(some 11), _, _, _, _, _⟩) (v := undef) rfl (by kernel_rfl) (by kernel_rfl) (by kernel_rfl) (fun _ _ _ h => h) (Or.inr ⟨by rfl, rfl⟩) hHeld ?_
    try simp only [pu]
    refine wpAnyH_take (i := 9) (oi := ⟨(some 12), _, _, _, _, _⟩) (v := .bool true) rfl (by kernel_rfl) (by kernel_rfl) (by kernel_rfl) (fun _ _ _ h => h) (Or.inl ⟨by rfl, ?yr1_9⟩) hHeld ?_
    case yr1_9 => (intro W0 hSw; go_simp; try with_reducible rfl)
    try simp only [pu]
    refine wpAnyH_take (i := 10) (oi := ⟨(some 13), _, _, _, _, _⟩) (v := .bool true) rfl (by kernel_rfl) (by kernel_rfl) (by kernel_rfl) (fun _ _ _ h => h) (Or.inl ⟨by rfl, ?yr1_10⟩) hHeld ?_
    case yr1_10 => (intro W0 hSw; go_simp; try with_reducible rfl)
    try simp only [pu]
    refine wpAnyH_take (i := 11) (oi := ⟨(some 14), _, _, _, _, _⟩) (v := undef) rfl (by kernel_rfl) (by kernel_rfl) (by kernel_rfl) (fun _ _ _ h => h) (Or.inr ⟨by rfl, rfl⟩) hHeld ?_
    try simp only [pu]
    refine wpAnyH_take (i := 12) (oi := ⟨(some 15), _, _, _, _, _⟩) (v := undef) rfl (by kernel_rfl) (by kernel_rfl) (by kernel_rfl) (fun _ _ _ h => h) (Or.inr ⟨by rfl, rfl⟩) hHeld ?_
    try simp only [pu]
    refine wpAnyH_take (i := 13) (oi := ⟨(some 16), _, _, _, _, _⟩) (v := undef) rfl (by kernel_rfl) (by kernel_rfl) (by kernel_rfl) (fun _ _ _ h => h) (Or.inr ⟨by rfl, rfl⟩) hHeld ?_
    try simp only [pu]
    refine wpAnyH_take (i := 14) (oi := ⟨(some 17), _, _, _, _, _⟩) (v := undef) rfl (by kernel_rfl) (by kernel_rfl) (by kernel_rfl) (fun _ _ _ h => h) (Or.inr ⟨by rfl, rfl⟩) hHeld ?_
    try simp only [pu]
    refine wpAnyH_take (i := 15) (oi := ⟨(some 18), _, _, _, _, _⟩) (v := .bool true) rfl (by kernel_rfl) (by kernel_rfl) (by kernel_rfl) (fun _ _ _ h => h) (Or.inl ⟨by rfl, ?yr1_15⟩) hHeld ?_
    case yr1_15 => (intro W0 hSw; go_simp; try with_reducible rfl)
    try simp only [pu]
    refine wpAnyH_take (i := 16) (oi := ⟨(some 19), _, _, _, _, _⟩) (v := .bool true) rfl (by kernel_rfl) (by kernel_rfl) (by kernel_rfl) (fun _ _ _ h => h) (Or.inl ⟨by rfl, ?yr1_16⟩) hHeld ?_
    case yr1_16 => (intro W0 hSw; go_simp; try with_reducible rfl)
    try simp only [pu]
    refine wpAnyH_take (i := 17) (oi := ⟨(some 20), _, _, _, _, _⟩) (v := undef) rfl (by kernel_rfl) (by kernel_rfl) (by kernel_rfl) (fun _ _ _ h => h) (Or.inr ⟨by rfl, rfl⟩) hHeld ?_
    try simp only [pu]
    refine wpAnyH_take (i := 18) (oi := ⟨(some 21), _, _, _, _, _⟩) (v := undef) rfl (by kernel_rfl) (by kernel_rfl) (by kernel_rfl) (fun _ _ _ h => h) (Or.inr ⟨by rfl, rfl⟩) hHeld ?_
    try simp only [pu]
    refine wpAnyH_take (i := 19) (oi := ⟨(some 22), _, _, _, _, _⟩) (v := undef) rfl (by kernel_rfl) (by kernel_rfl) (by kernel_rfl) (fun _ _ _ h => h) (Or.inr ⟨by rfl, rfl⟩) hHeld ?_
    try simp only [pu]
    refine wpAnyH_take (i := 20) (oi := ⟨(some 23), _, _, _, _, _⟩) (v := undef) rfl (by kernel_rfl) (by kernel_rfl) (by kernel_rfl) (fun _ _ _ h => h) (Or.inr ⟨by rfl, rfl⟩) hHeld ?_
    try simp only [pu]
    refine wpAnyH_take (i := 21) (oi := ⟨(some 24), _, _, _, _, _⟩) (v := .bool true) rfl (by kernel_rfl) (by kernel_rfl) (by kernel_rfl) (fun _ _ _ h => h) (Or.inl ⟨by rfl, ?yr1_21⟩) hHeld ?_
    case yr1_21 => (intro W0 hSw; go_simp; try with_reducible rfl)
    try simp only [pu]
    refine wpAnyH_take (i := 22) (oi := ⟨(some 25), _, _, _, _, _⟩) (v := .bool true) rfl (by kernel_rfl) (by kernel_rfl) (by kernel_rfl) (fun _ _ _ h => h) (Or.inl ⟨by rfl, ?yr1_22⟩) hHeld ?_
    case yr1_22 => (intro W0 hSw; go_simp; try with_reducible rfl)
    try simp only [pu]
    refine wpAnyH_take (i := 23) (oi := ⟨(some 26), _, _, _, _, _⟩) (v := undef) rfl (by kernel_rfl) (by kernel_rfl) (by kernel_rfl) (fun _ _ _ h => h) (Or.inr ⟨by rfl, rfl⟩) hHeld ?_
    try simp only [pu]
    refine wpAnyH_take (i := 24) (oi := ⟨(some 27), _, _, _, _, _⟩) (v := undef) rfl (by kernel_rfl) (by kernel_rfl) (by kernel_rfl) (fun _ _ _ h => h) (Or.inr ⟨by rfl, rfl⟩) hHeld ?_
    try simp only [pu]
    refine wpAnyH_take (i := 25) (oi := ⟨(some 28), _, _, _, _, _⟩) (v := undef) rfl (by kernel_rfl) (by kernel_rfl) (by kernel_rfl) (fun _ _ _ h => h) (Or.inr ⟨by rfl, rfl⟩) hHeld ?_
    try simp only [pu]
    refine wpAnyH_take (i := 26) (oi := ⟨(some 29), _, _, _, _, _⟩) (v := undef) rfl (by kernel_rfl) (by kernel_rfl) (by kernel_rfl) (fun _ _ _ h => h) (Or.inr ⟨by rfl, rfl⟩) hHeld ?_
    try simp only [pu]
    refine wpAnyH_take (i := 27) (oi := ⟨(some 30), _, _, _, _, _⟩) (v := .bool true) rfl (by kernel_rfl) (by kernel_rfl) (by kernel_rfl) (fun _ _ _ h => h) (Or.inl ⟨by rfl, ?yr1_27⟩) hHeld ?_
    case yr1_27 => (intro W0 hSw; go_simp; try with_reducible rfl)
    try simp only [pu]
    refine wpAnyH_take (i := 28) (oi := ⟨(some 31), _, _, _, _, _⟩) (v := .bool true) rfl (by kernel_rfl) (by kernel_rfl) (by kernel_rfl) (fun _ _ _ h => h) (Or.inl ⟨by rfl, ?yr1_28⟩) hHeld ?_
    case yr1_28 => (intro W0 hSw; go_simp; try with_reducible rfl)
    try simp only [pu]
    refine wpAnyH_take (i := 29) (oi := ⟨(some 32), _, _, _, _, _⟩) (v := undef) rfl (by kernel_rfl) (by kernel_rfl) (by kernel_rfl) (fun _ _ _ h => h) (Or.inr ⟨by rfl, rfl⟩) hHeld ?_
    try simp only [pu]
    refine wpAnyH_take (i := 30) (oi := ⟨(some 33), _, _, _, _, _⟩) (v := undef) rfl (by kernel_rfl) (by kernel_rfl) (by kernel_rfl) (fun _ _ _ h => h) (Or.inr ⟨by rfl, rfl⟩) hHeld ?_
    try simp only [pu]
    refine wpAnyH_take (i := 31) (oi := ⟨(some 34), _, _, _, _, _⟩) (v := undef) rfl (by kernel_rfl) (by kernel_rfl) (by kernel_rfl) (fun _ _ _ h => h) (Or.inr ⟨by rfl, rfl⟩) hHeld ?_
    try simp only [pu]
    refine wpAnyH_take (i := 32) (oi := ⟨(some 35), _, _, _, _, _⟩) (v := undef) rfl (by kernel_rfl) (by kernel_rfl) (by kernel_rfl) (fun _ _ _ h => h) (Or.inr ⟨by rfl, rfl⟩) hHeld ?_
    try simp only [pu]
    refine wpAnyH_take (i := 33) (oi := ⟨(some 36), _, _, _, _, _⟩) (v := undef) rfl (by kernel_rfl) (by kernel_rfl) (by kernel_rfl) (fun _ _ _ h => h) (Or.inr ⟨by rfl, rfl⟩) hHeld ?_
    try simp only [pu]
    refine wpAnyH_take (i := 34) (oi := ⟨(some 37), _, _, _, _, _⟩) (v := undef) rfl (by kernel_rfl) (by kernel_rfl) (by kernel_rfl) (fun _ _ _ h => h) (Or.inr ⟨by rfl, rfl⟩) hHeld ?_
    try simp only [pu]
    refine wpAnyH_take (i := 35) (oi := ⟨(some 38), _, _, _, _, _⟩) (v := undef) rfl (by kernel_rfl) (by kernel_rfl) (by kernel_rfl) (fun _ _ _ h => h) (Or.inr ⟨by rfl, rfl⟩) hHeld ?_
    try simp only [pu]
    refine wpAnyH_take (i := 36) (oi := ⟨(some 39), _, _, _, _, _⟩) (v := undef) rfl (by kernel_rfl) (by kernel_rfl) (by kernel_rfl) (fun _ _ _ h => h) (Or.inr ⟨by rfl, rfl⟩) hHeld ?_
    try simp only [pu]
    refine wpAnyH_take (i := 37) (oi := ⟨(some 40), _, _, _, _, _⟩) (v := undef) rfl (by kernel_rfl) (by kernel_rfl) (by kernel_rfl) (fun _ _ _ h => h) (Or.inr ⟨by rfl, rfl⟩) hHeld ?_
    try simp only [pu]
    refine wpAnyH_take (i := 38) (oi := ⟨(some 41), _, _, _, _, _⟩) (v := undef) rfl (by kernel_rfl) (by kernel_rfl) (by kernel_rfl) (fun _ _ _ h => h) (Or.inr ⟨by rfl, rfl⟩) hHeld ?_
    try simp only [pu]
    refine wpAnyH_take (i := 39) (oi := ⟨(some 42), _, _, _, _, _⟩) (v := undef) rfl (by kernel_rfl) (by kernel_rfl) (by kernel_rfl) (fun _ _ _ h => h) (Or.inr ⟨by rfl, rfl⟩) hHeld ?_
    try simp only [pu]
    refine wpAnyH_take (i := 40) (oi := ⟨(some 43), _, _, _, _, _⟩) (v := .bool true) rfl (by kernel_rfl) (by kernel_rfl) (by kernel_rfl) (fun _ _ _ h => h) (Or.inl ⟨by rfl, ?yr1_40⟩) hHeld ?_
    case yr1_40 => (intro W0 hSw; go_simp; try with_reducible rfl)
    try simp only [pu]
    refine wpAnyH_take (i := 41) (oi := ⟨(some 44), _, _, _, _, _⟩) (v := .bool true) rfl (by kernel_rfl) (by kernel_rfl) (by kernel_rfl) (fun _ _ _ h => h) (Or.inl ⟨by rfl, ?yr1_41⟩) hHeld ?_
    case yr1_41 => (intro W0 hSw; go_simp; try with_reducible rfl)
    try simp only [pu]
    refine wpAnyH_take (i := 42) (oi := ⟨(some 45), _, _, _, _, _⟩) (v := undef) rfl (by kernel_rfl) (by kernel_rfl) (by kernel_rfl) (fun _ _ _ h => h) (Or.inr ⟨by rfl, rfl⟩) hHeld ?_
    try simp only [pu]
    refine wpAnyH_take (i := 43) (oi := ⟨(some 46), _, _, _, _, _⟩) (v := undef) rfl (by kernel_rfl) (by kernel_rfl) (by kernel_rfl) (fun _ _ _ h => h) (Or.inr ⟨by rfl, rfl⟩) hHeld ?_
    try simp only [pu]
    refine wpAnyH_take (i := 44) (oi := ⟨(some 47), _, _, _, _, _⟩) (v := undef) rfl (by kernel_rfl) (by kernel_rfl) (by kernel_rfl) (fun _ _ _ h => h) (Or.inr ⟨by rfl, rfl⟩) hHeld ?_
    try simp only [pu]
    refine wpAnyH_take (i := 45) (oi := ⟨(some 48), _, _, _, _, _⟩) (v := .bool true) rfl (by kernel_rfl) (by kernel_rfl) (by kernel_rfl) (fun _ _ _ h => h) (Or.inl ⟨by rfl, ?yr1_45⟩) hHeld ?_
    case yr1_45 => (intro W0 hSw; go_simp; try with_reducible rfl)
    try simp only [pu]
    refine wpAnyH_take (i := 46) (oi := ⟨(some 49), _, _, _, _, _⟩) (v := .bool true) rfl (by kernel_rfl) (by kernel_rfl) (by kernel_rfl) (fun _ _ _ h => h) (Or.inl ⟨by rfl, ?yr1_46⟩) hHeld ?_
    case yr1_46 => (intro W0 hSw; go_simp; try with_reducible rfl)
    try simp only [pu]
    refine wpAnyH_take (i := 47) (oi := ⟨(some 50), _, _, _, _, _⟩) (v := undef) rfl (by kernel_rfl) (by kernel_rfl) (by kernel_rfl) (fun _ _ _ h => h) (Or.inr ⟨by rfl, rfl⟩) hHeld ?_
    try simp only [pu]
    refine wpAnyH_take (i := 48) (oi := ⟨(some 51), _, _, _, _, _⟩) (v := undef) rfl (by kernel_rfl) (by kernel_rfl) (by kernel_rfl) (fun _ _ _ h => h) (Or.inr ⟨by rfl, rfl⟩) hHeld ?_
    try simp only [pu]
    refine wpAnyH_take (i := 49) (oi := ⟨(some 52), _, _, _, _, _⟩) (v := undef) rfl (by kernel_rfl) (by kernel_rfl) (by kernel_rfl) (fun _ _ _ h => h) (Or.inr ⟨by rfl, rfl⟩) hHeld ?_
    try simp only [pu]
    refine wpAnyH_take (i := 50) (oi := ⟨(some 53), _, _, _, _, _⟩) (v := .bool true) rfl (by kernel_rfl) (by kernel_rfl) (by kernel_rfl) (fun _ _ _ h => h) (Or.inl ⟨by rfl, ?yr1_50⟩) hHeld ?_
    case yr1_50 => (intro W0 hSw; go_simp; try with_reducible rfl)
    try simp only [pu]
    refine wpAnyH_take (i := 51) (oi := ⟨(some 54), _, _, _, _, _⟩) (v := .bool true) rfl (by kernel_rfl) (by kernel_rfl) (by kernel_rfl) (fun _ _ _ h => h) (Or.inl ⟨by rfl, ?yr1_51⟩) hHeld ?_
    case yr1_51 => (intro W0 hSw; go_simp; try with_reducible rfl)
    try simp only [pu]
    refine wpAnyH_take (i := 52) (oi := ⟨(some 55), _, _, _, _, _⟩) (v := undef) rfl (by kernel_rfl) (by kernel_rfl) (by kernel_rfl) (fun _ _ _ h => h) (Or.inr ⟨by rfl, rfl⟩) hHeld ?_
    try simp only [pu]
    refine wpAnyH_take (i := 53) (oi := ⟨(some 56), _, _, _, _, _⟩) (v := undef) rfl (by kernel_rfl) (by kernel_rfl) (by kernel_rfl) (fun _ _ _ h => h) (Or.inr ⟨by rfl, rfl⟩) hHeld ?_
    try simp only [pu]
    refine wpAnyH_take (i := 54) (oi := ⟨(some 57), _, _, _, _, _⟩) (v := undef) rfl (by kernel_rfl) (by kernel_rfl) (by kernel_rfl) (fun _ _ _ h => h) (Or.inr ⟨by rfl, rfl⟩) hHeld ?_
    try simp only [pu]
    refine wpAnyH_take (i := 55) (oi := ⟨(some 58), _, _, _, _, _⟩) (v := undef) rfl (by kernel_rfl) (by kernel_rfl) (by kernel_rfl) (fun _ _ _ h => h) (Or.inr ⟨by rfl, rfl⟩) hHeld ?_
    try simp only [pu]
    refine wpAnyH_take (i := 56) (oi := ⟨(some 59), _, _, _, _, _⟩) (v := .bool true) rfl (by kernel_rfl) (by kernel_rfl) (by kernel_rfl) (fun _ _ _ h => h) (Or.inl ⟨by rfl, ?yr1_56⟩) hHeld ?_
    case yr1_56 => (intro W0 hSw; go_simp; try with_reducible rfl)
    try simp only [pu]
    refine wpAnyH_take (i := 57) (oi := ⟨(some 60), _, _, _, _, _⟩) (v := .bool true) rfl (by kernel_rfl) (by kernel_rfl) (by kernel_rfl) (fun _ _ _ h => h) (Or.inl ⟨by rfl, ?yr1_57⟩) hHeld ?_
    case yr1_57 => (intro W0 hSw; go_simp; try with_reducible rfl)
    try simp only [pu]
    refine wpAnyH_take (i := 58) (oi := ⟨(some 61), _, _, _, _, _⟩) (v := undef) rfl (by kernel_rfl) (by kernel_rfl) (by kernel_rfl) (fun _ _ _ h => h) (Or.inr ⟨by rfl, rfl⟩) hHeld ?_
    try simp only [pu]
    refine wpAnyH_take (i := 59) (oi := ⟨(some 62), _, _, _, _, _⟩) (v := undef) rfl (by kernel_rfl) (by kernel_rfl) (by kernel_rfl) (fun _ _ _ h => h) (Or.inr ⟨by rfl, rfl⟩) hHeld ?_
    try simp only [pu]
    refine wpAnyH_take (i := 60) (oi := ⟨(some 63), _, _, _, _, _⟩) (v := undef) rfl (by kernel_rfl) (by kernel_rfl) (by kernel_rfl) (fun _ _ _ h => h) (Or.inr ⟨by rfl, rfl⟩) hHeld ?_
    try simp only [pu]
    refine wpAnyH_take (i := 61) (oi := ⟨(some 64), _, _, _, _, _⟩) (v := undef) rfl (by kernel_rfl) (by kernel_rfl) (by kernel_rfl) (fun _ _ _ h => h) (Or.inr ⟨by rfl, rfl⟩) hHeld ?_
    try simp only [pu]
    refine wpAnyH_take (i := 62) (oi := ⟨(some 65), _, _, _, _, _⟩) (v := .bool true) rfl (by kernel_rfl) (by kernel_rfl) (by kernel_rfl) (fun _ _ _ h => h) (Or.inl ⟨by rfl, ?yr1_62⟩) hHeld ?_
    case yr1_62 => (intro W0 hSw; go_simp; try with_reducible rfl)
    try simp only [pu]
    refine wpAnyH_done (by kernel_rfl) ?_ _
    go_wp2
    go_ret
    exact ⟨ret_bool (by rw [HG.out, decide_eq_false (fun h => by omega)]; simp), below_next hbW hbW.size hHeld⟩
  · skip
    by_cases t1 : (7 : Int) < a.dev
    · skip
      refine wp_region_held_drew (S := fun W' => Below W.heap.size W W') (by kernel_rfl) ((Below.refl _ _).drew) (fun hHeld => ?_)
      refine wpAnyH_take (i := 0) (oi := ⟨(some 3), _, _, _, _, _⟩) (v := .pointer (some ⟨w.heap.size, 0, none⟩)) rfl (by kernel_rfl) (by kernel_rfl) (by kernel_rfl) (fun _ _ _ h => h) (Or.inl ⟨by rfl, ?yr1_0⟩) hHeld ?_
      case yr1_0 => (intro W0 hSw; go_simp; try with_reducible rfl)
      try simp only [pu]
      refine wpAnyH_take (i := 1) (oi := ⟨(some 4), _, _, _, _, _⟩) (v := .pointer (some ⟨w.heap.size, 0, none⟩)) rfl (by kernel_rfl) (by kernel_rfl) (by kernel_rfl) (fun _ _ _ h => h) (Or.inl ⟨by rfl, ?yr1_1⟩) hHeld ?_
      case yr1_1 => (intro W0 hSw; go_simp; try with_reducible rfl)
      try simp only [pu]
      refine wpAnyH_take (i := 2) (oi := ⟨(some 5), _, _, _, _, _⟩) (v := .int .i64 a.dev) rfl (by kernel_rfl) (by kernel_rfl) (by kernel_rfl) (fun _ _ _ h => h) (Or.inl ⟨by rfl, ?yr1_2⟩) hHeld ?_
      case yr1_2 => (intro W0 hSw; have cc := ed_dev (row_next2 hgA hSw); go_simp; try with_reducible rfl)
      try simp only [pu]
      refine wpAnyH_take (i := 3) (oi := ⟨(some 6), _, _, _, _, _⟩) (v := .bool false) rfl (by kernel_rfl) (by kernel_rfl) (by kernel_rfl) (fun _ _ _ h => h) (Or.inl ⟨by rfl, ?yr1_3⟩) hHeld ?_
      case yr1_3 => (intro W0 hSw; go_simp; (try simp [t0]); (try omega))
      try simp only [pu]
      refine wpAnyH_take (i := 4) (oi := ⟨(some 7), _, _, _, _, _⟩) (v := .bool false) rfl (by kernel_rfl) (by kernel_rfl) (by kernel_rfl) (fun _ _ _ h => h) (Or.inl ⟨by rfl, ?yr1_4⟩) hHeld ?_
      case yr1_4 => (intro W0 hSw; go_simp; try with_reducible rfl)
      try simp only [pu]
      refine wpAnyH_take (i := 5) (oi := ⟨(some 8), _, _, _, _, _⟩) (v := .pointer (some ⟨w.heap.size, 0, none⟩)) rfl (by kernel_rfl) (by kernel_rfl) (by kernel_rfl) (fun _ _ _ h => h) (Or.inl ⟨by rfl, ?yr1_5⟩) hHeld ?_
      case yr1_5 => (intro W0 hSw; go_simp; try with_reducible rfl)
      try simp only [pu]
      refine wpAnyH_take (i := 6) (oi := ⟨(some 9), _, _, _, _, _⟩) (v := .pointer (some ⟨w.heap.size, 0, none⟩)) rfl (by kernel_rfl) (by kernel_rfl) (by kernel_rfl) (fun _ _ _ h => h) (Or.inl ⟨by rfl, ?yr1_6⟩) hHeld ?_
      case yr1_6 => (intro W0 hSw; go_simp; try with_reducible rfl)
      try simp only [pu]
      refine wpAnyH_take (i := 7) (oi := ⟨(some 10), _, _, _, _, _⟩) (v := .int .i64 a.dev) rfl (by kernel_rfl) (by kernel_rfl) (by kernel_rfl) (fun _ _ _ h => h) (Or.inl ⟨by rfl, ?yr1_7⟩) hHeld ?_
      case yr1_7 => (intro W0 hSw; have cc := ed_dev (row_next2 hgA hSw); go_simp; try with_reducible rfl)
      try simp only [pu]
      refine wpAnyH_take (i := 8) (oi := ⟨(some 11), _, _, _, _, _⟩) (v := .bool true) rfl (by kernel_rfl) (by kernel_rfl) (by kernel_rfl) (fun _ _ _ h => h) (Or.inl ⟨by rfl, ?yr1_8⟩) hHeld ?_
      case yr1_8 => (intro W0 hSw; go_simp; (try simp [t1]); (try omega))
      try simp only [pu]
      refine wpAnyH_take (i := 9) (oi := ⟨(some 12), _, _, _, _, _⟩) (v := .bool true) rfl (by kernel_rfl) (by kernel_rfl) (by kernel_rfl) (fun _ _ _ h => h) (Or.inl ⟨by rfl, ?yr1_9⟩) hHeld ?_
      case yr1_9 => (intro W0 hSw; go_simp; try with_reducible rfl)
      try simp only [pu]
      refine wpAnyH_take (i := 10) (oi := ⟨(some 13), _, _, _, _, _⟩) (v := .bool true) rfl (by kernel_rfl) (by kernel_rfl) (by kernel_rfl) (fun _ _ _ h => h) (Or.inl ⟨by rfl, ?yr1_10⟩) hHeld ?_
      case yr1_10 => (intro W0 hSw; go_simp; try with_reducible rfl)
      try simp only [pu]
      refine wpAnyH_take (i := 11) (oi := ⟨(some 14), _, _, _, _, _⟩) (v := undef) rfl (by kernel_rfl) (by kernel_rfl) (by kernel_rfl) (fun _ _ _ h => h) (Or.inr ⟨by rfl, rfl⟩) hHeld ?_
      try simp only [pu]
      refine wpAnyH_take (i := 12) (oi := ⟨(some 15), _, _, _, _, _⟩) (v := undef) rfl (by kernel_rfl) (by kernel_rfl) (by kernel_rfl) (fun _ _ _ h => h) (Or.inr ⟨by rfl, rfl⟩) hHeld ?_
      try simp only [pu]
      refine wpAnyH_take (i := 13) (oi := ⟨(some 16), _, _, _, _, _⟩) (v := undef) rfl (by kernel_rfl) (by kernel_rfl) (by kernel_rfl) (fun _ _ _ h => h) (Or.inr ⟨by rfl, rfl⟩) hHeld ?_
      try simp only [pu]
      refine wpAnyH_take (i := 14) (oi := ⟨(some 17), _, _, _, _, _⟩) (v := undef) rfl (by kernel_rfl) (by kernel_rfl) (by kernel_rfl) (fun _ _ _ h => h) (Or.inr ⟨by rfl, rfl⟩) hHeld ?_
      try simp only [pu]
      refine wpAnyH_take (i := 15) (oi := ⟨(some 18), _, _, _, _, _⟩) (v := .bool true) rfl (by kernel_rfl) (by kernel_rfl) (by kernel_rfl) (fun _ _ _ h => h) (Or.inl ⟨by rfl, ?yr1_15⟩) hHeld ?_
      case yr1_15 => (intro W0 hSw; go_simp; try with_reducible rfl)
      try simp only [pu]
      refine wpAnyH_take (i := 16) (oi := ⟨(some 19), _, _, _, _, _⟩) (v := .bool true) rfl (by kernel_rfl) (by kernel_rfl) (by kernel_rfl) (fun _ _ _ h => h) (Or.inl ⟨by rfl, ?yr1_16⟩) hHeld ?_
      case yr1_16 => (intro W0 hSw; go_simp; try with_reducible rfl)
      try simp only [pu]
      refine wpAnyH_take (i := 17) (oi := ⟨(some 20), _, _, _, _, _⟩) (v := undef) rfl (by kernel_rfl) (by kernel_rfl) (by kernel_rfl) (fun _ _ _ h => h) (Or.inr ⟨by rfl, rfl⟩) hHeld ?_
      try simp only [pu]
      refine wpAnyH_take (i := 18) (oi := ⟨(some 21), _, _, _, _, _⟩) (v := undef) rfl (by kernel_rfl) (by kernel_rfl) (by kernel_rfl) (fun _ _ _ h => h) (Or.inr ⟨by rfl, rfl⟩) hHeld ?_
      try simp only [pu]
      refine wpAnyH_take (i := 19) (oi := ⟨(some 22), _, _, _, _, _⟩) (v := undef) rfl (by kernel_rfl) (by kernel_rfl) (by kernel_rfl) (fun _ _ _ h => h) (Or.inr ⟨by rfl, rfl⟩) hHeld ?_
      try simp only [pu]
      refine wpAnyH_take (i := 20) (oi := ⟨(some 23), _, _, _, _, _⟩) (v := undef) rfl (by kernel_rfl) (by kernel_rfl) (by kernel_rfl) (fun _ _ _ h => h) (Or.inr ⟨by rfl, rfl⟩) hHeld ?_
      try simp only [pu]
      refine wpAnyH_take (i := 21) (oi := ⟨(some 24), _, _, _, _, _⟩) (v := .bool true) rfl (by kernel_rfl) (by kernel_rfl) (by kernel_rfl) (fun _ _ _ h => h) (Or.inl ⟨by rfl, ?yr1_21⟩) hHeld ?_
      case yr1_21 => (intro W0 hSw; go_simp; try with_reducible rfl)
      try simp only [pu]
      refine wpAnyH_take (i := 22) (oi := ⟨(some 25), _, _, _, _, _⟩) (v := .bool true) rfl (by kernel_rfl) (by kernel_rfl) (by kernel_rfl) (fun _ _ _ h => h) (Or.inl ⟨by rfl, ?yr1_22⟩) hHeld ?_
      case yr1_22 => (intro W0 hSw; go_simp; try with_reducible rfl)
      try simp only [pu]
      refine wpAnyH_take (i := 23) (oi := ⟨(some 26), _, _, _, _, _⟩) (v := undef) rfl (by kernel_rfl) (by kernel_rfl) (by kernel_rfl) (fun _ _ _ h => h) (Or.inr ⟨by rfl, rfl⟩) hHeld ?_
      try simp only [pu]
      refine wpAnyH_take (i := 24) (oi := ⟨(some 27), _, _, _, _, _⟩) (v := undef) rfl (by kernel_rfl) (by kernel_rfl) (by kernel_rfl) (fun _ _ _ h => h) (Or.inr ⟨by rfl, rfl⟩) hHeld ?_
      try simp only [pu]
      refine wpAnyH_take (i := 25) (oi := ⟨(some 28), _, _, _, _, _⟩) (v := undef) rfl (by kernel_rfl) (by kernel_rfl) (by kernel_rfl) (fun _ _ _ h => h) (Or.inr ⟨by rfl, rfl⟩) hHeld ?_
      try simp only [pu]
      refine wpAnyH_take (i := 26) (oi := ⟨(some 29), _, _, _, _, _⟩) (v := undef) rfl (by kernel_rfl) (by kernel_rfl) (by kernel_rfl) (fun _ _ _ h => h) (Or.inr ⟨by rfl, rfl⟩) hHeld ?_
      try simp only [pu]
      refine wpAnyH_take (i := 27) (oi := ⟨(some 30), _, _, _, _, _⟩) (v := .bool true) rfl (by kernel_rfl) (by kernel_rfl) (by kernel_rfl) (fun _ _ _ h => h) (Or.inl ⟨by rfl, ?yr1_27⟩) hHeld ?_
      case yr1_27 => (intro W0 hSw; go_simp; try with_reducible rfl)
      try simp only [pu]
      refine wpAnyH_take (i := 28) (oi := ⟨(some 31), _, _, _, _, _⟩) (v := .bool true) rfl (by kernel_rfl) (by kernel_rfl) (by kernel_rfl) (fun _ _ _ h => h) (Or.inl ⟨by rfl, ?yr1_28⟩) hHeld ?_
      case yr1_28 => (intro W0 hSw; go_simp; try with_reducible rfl)
      try simp only [pu]
      refine wpAnyH_take (i := 29) (oi := ⟨(some 32), _, _, _, _, _⟩) (v := undef) rfl (by kernel_rfl) (by kernel_rfl) (by kernel_rfl) (fun _ _ _ h => h) (Or.inr ⟨by rfl, rfl⟩) hHeld ?_
      try simp only [pu]
      refine wpAnyH_take (i := 30) (oi := ⟨(some 33), _, _, _, _, _⟩) (v := undef) rfl (by kernel_rfl) (by kernel_rfl) (by kernel_rfl) (fun _ _ _ h => h) (Or.inr ⟨by rfl, rfl⟩) hHeld ?_
      try simp only [pu]
      refine wpAnyH_take (i := 31) (oi := ⟨(some 34), _, _, _, _, _⟩) (v := undef) rfl (by kernel_rfl) (by kernel_rfl) (by kernel_rfl) (fun _ _ _ h => h) (Or.inr ⟨by rfl, rfl⟩) hHeld ?_
      try simp only [pu]
      refine wpAnyH_take (i := 32) (oi := ⟨(some 35), _, _, _, _, _⟩) (v := undef) rfl (by kernel_rfl) (by kernel_rfl) (by kernel_rfl) (fun _ _ _ h => h) (Or.inr ⟨by rfl, rfl⟩) hHeld ?_
      try simp only [pu]
      refine wpAnyH_take (i := 33) (oi := ⟨(some 36), _, _, _, _, _⟩) (v := undef) rfl (by kernel_rfl) (by kernel_rfl) (by kernel_rfl) (fun _ _ _ h => h) (Or.inr ⟨by rfl, rfl⟩) hHeld ?_
      try simp only [pu]
      refine wpAnyH_take (i := 34) (oi := ⟨(some 37), _, _, _, _, _⟩) (v := undef) rfl (by kernel_rfl) (by kernel_rfl) (by kernel_rfl) (fun _ _ _ h => h) (Or.inr ⟨by rfl, rfl⟩) hHeld ?_
      try simp only [pu]
      refine wpAnyH_take (i := 35) (oi := ⟨(some 38), _, _, _, _, _⟩) (v := undef) rfl (by kernel_rfl) (by kernel_rfl) (by kernel_rfl) (fun _ _ _ h => h) (Or.inr ⟨by rfl, rfl⟩) hHeld ?_
      try simp only [pu]
      refine wpAnyH_take (i := 36) (oi := ⟨(some 39), _, _, _, _, _⟩) (v := undef) rfl (by kernel_rfl) (by kernel_rfl) (by kernel_rfl) (fun _ _ _ h => h) (Or.inr ⟨by rfl, rfl⟩) hHeld ?_
      try simp only [pu]
      refine wpAnyH_take (i := 37) (oi := ⟨(some 40), _, _, _, _, _⟩) (v := undef) rfl (by kernel_rfl) (by kernel_rfl) (by kernel_rfl) (fun _ _ _ h => h) (Or.inr ⟨by rfl, rfl⟩) hHeld ?_
      try simp only [pu]
      refine wpAnyH_take (i := 38) (oi := ⟨(some 41), _, _, _, _, _⟩) (v := undef) rfl (by kernel_rfl) (by kernel_rfl) (by kernel_rfl) (fun _ _ _ h => h) (Or.inr ⟨by rfl, rfl⟩) hHeld ?_
      try simp only [pu]
      refine wpAnyH_take (i := 39) (oi := ⟨(some 42), _, _, _, _, _⟩) (v := undef) rfl (by kernel_rfl) (by kernel_rfl) (by kernel_rfl) (fun _ _ _ h => h) (Or.inr ⟨by rfl, rfl⟩) hHeld ?_
      try simp only [pu]
      refine wpAnyH_take (i := 40) (oi := ⟨(some 43), _, _, _, _, _⟩) (v := .bool true) rfl (by kernel_rfl) (by kernel_rfl) (by kernel_rfl) (fun _ _ _ h => h) (Or.inl ⟨by rfl, ?yr1_40⟩) hHeld ?_
      case yr1_40 => (intro W0 hSw; go_simp; try with_reducible rfl)
      try simp only [pu]
      refine wpAnyH_take (i := 41) (oi := ⟨(some 44), _, _, _, _, _⟩) (v := .bool true) rfl (by kernel_rfl) (by kernel_rfl) (by kernel_rfl) (fun _ _ _ h => h) (Or.inl ⟨by rfl, ?yr1_41⟩) hHeld ?_
      case yr1_41 => (intro W0 hSw; go_simp; try with_reducible rfl)
      try simp only [pu]
      refine wpAnyH_take (i := 42) (oi := ⟨(some 45), _, _, _, _, _⟩) (v := undef) rfl (by kernel_rfl) (by kernel_rfl) (by kernel_rfl) (fun _ _ _ h => h) (Or.inr ⟨by rfl, rfl⟩) hHeld ?_
      try simp only [pu]
      refine wpAnyH_take (i := 43) (oi := ⟨(some 46), _, _, _, _, _⟩) (v := undef) rfl (by kernel_rfl) (by kernel_rfl) (by kernel_rfl) (fun _ _ _ h => h) (Or.inr ⟨by rfl, rfl⟩) hHeld ?_
      try simp only [pu]
      refine wpAnyH_take (i := 44) (oi := ⟨(some 47), _, _, _, _, _⟩) (v := undef) rfl (by kernel_rfl) (by kernel_rfl) (by kernel_rfl) (fun _ _ _ h => h) (Or.inr ⟨by rfl, rfl⟩) hHeld ?_
      try simp only [pu]
      refine wpAnyH_take (i := 45) (oi := ⟨(some 48), _, _, _, _, _⟩) (v := .bool true) rfl (by kernel_rfl) (by kernel_rfl) (by kernel_rfl) (fun _ _ _ h => h) (Or.inl ⟨by rfl, ?yr1_45⟩) hHeld ?_
      case yr1_45 => (intro W0 hSw; go_simp; try with_reducible rfl)
      try simp only [pu]
      refine wpAnyH_take (i := 46) (oi := ⟨(some 49), _, _, _, _, _⟩) (v := .bool true) rfl (by kernel_rfl) (by kernel_rfl) (by kernel_rfl) (fun _ _ _ h => h) (Or.inl ⟨by rfl, ?yr1_46⟩) hHeld ?_
      case yr1_46 => (intro W0 hSw; go_simp; try with_reducible rfl)
      try simp only [pu]
      refine wpAnyH_take (i := 47) (oi := ⟨(some 50), _, _, _, _, _⟩) (v := undef) rfl (by kernel_rfl) (by kernel_rfl) (by kernel_rfl) (fun _ _ _ h => h) (Or.inr ⟨by rfl, rfl⟩) hHeld ?_
      try simp only [pu]
      refine wpAnyH_take (i := 48) (oi := ⟨(some 51), _, _, _, _, _⟩) (v := undef) rfl (by kernel_rfl) (by kernel_rfl) (by kernel_rfl) (fun _ _ _ h => h) (Or.inr ⟨by rfl, rfl⟩) hHeld ?_
      try simp only [pu]
      refine wpAnyH_take (i := 49) (oi := ⟨(some 52), _, _, _, _, _⟩) (v := undef) rfl (by kernel_rfl) (by kernel_rfl) (by kernel_rfl) (fun _ _ _ h => h) (Or.inr ⟨by rfl, rfl⟩) hHeld ?_
      try simp only [pu]
      refine wpAnyH_take (i := 50) (oi := ⟨(some 53), _, _, _, _, _⟩) (v := .bool true) rfl (by kernel_rfl) (by kernel_rfl) (by kernel_rfl) (fun _ _ _ h => h) (Or.inl ⟨by rfl, ?yr1_50⟩) hHeld ?_
      case yr1_50 => (intro W0 hSw; go_simp; try with_reducible rfl)
      try simp only [pu]
      refine wpAnyH_take (i := 51) (oi := ⟨(some 54), _, _, _, _, _⟩) (v := .bool true) rfl (by kernel_rfl) (by kernel_rfl) (by kernel_rfl) (fun _ _ _ h => h) (Or.inl ⟨by rfl, ?yr1_51⟩) hHeld ?_
      case yr1_51 => (intro W0 hSw; go_simp; try with_reducible rfl)
      try simp only [pu]
      refine wpAnyH_take (i := 52) (oi := ⟨(some 55), _, _, _, _, _⟩) (v := undef) rfl (by kernel_rfl) (by kernel_rfl) (by kernel_rfl) (fun _ _ _ h => h) (Or.inr ⟨by rfl, rfl⟩) hHeld ?_
      try simp only [pu]
      refine wpAnyH_take (i := 53) (oi := ⟨(some 56), _, _, _, _, _⟩) (v := undef) rfl (by kernel_rfl) (by kernel_rfl) (by kernel_rfl) (fun _ _ _ h => h) (Or.inr ⟨by rfl, rfl⟩) hHeld ?_
      try simp only [pu]
      refine wpAnyH_take (i := 54) (oi := ⟨(some 57), _, _, _, _, _⟩) (v := undef) rfl (by kernel_rfl) (by kernel_rfl) (by kernel_rfl) (fun _ _ _ h => h) (Or.inr ⟨by rfl, rfl⟩) hHeld ?_
      try simp only [pu]
      refine wpAnyH_take (i := 55) (oi := ⟨(some 58), _, _, _, _, _⟩) (v := undef) rfl (by kernel_rfl) (by kernel_rfl) (by kernel_rfl) (fun _ _ _ h => h) (Or.inr ⟨by rfl, rfl⟩) hHeld ?_
      try simp only [pu]
      refine wpAnyH_take (i := 56) (oi := ⟨(some 59), _, _, _, _, _⟩) (v := .bool true) rfl (by kernel_rfl) (by kernel_rfl) (by kernel_rfl) (fun _ _ _ h => h) (Or.inl ⟨by rfl, ?yr1_56⟩) hHeld ?_
      case yr1_56 => (intro W0 hSw; go_simp; try with_reducible rfl)
      try simp only [pu]
      refine wpAnyH_take (i := 57) (oi := ⟨(some 60), _, _, _, _, _⟩) (v := .bool true) rfl (by kernel_rfl) (by kernel_rfl) (by kernel_rfl) (fun _ _ _ h => h) (Or.inl ⟨by rfl, ?yr1_57⟩) hHeld ?_
      case yr1_57 => (intro W0 hSw; go_simp; try with_reducible rfl)
      try simp only [pu]
      refine wpAnyH_take (i := 58) (oi := ⟨(some 61), _, _, _, _, _⟩) (v := undef) rfl (by kernel_rfl) (by kernel_rfl) (by kernel_rfl) (fun _ _ _ h => h) (Or.inr ⟨by rfl, rfl⟩) hHeld ?_
      try simp only [pu]
      refine wpAnyH_take (i := 59) (oi := ⟨(some 62), _, _, _, _, _⟩) (v := undef) rfl (by kernel_rfl) (by kernel_rfl) (by kernel_rfl) (fun _ _ _ h => h) (Or.inr ⟨by rfl, rfl⟩) hHeld ?_
      try simp only [pu]
      refine wpAnyH_take (i := 60) (oi := ⟨(some 63), _, _, _, _, _⟩) (v := undef) rfl (by kernel_rfl) (by kernel_rfl) (by kernel_rfl) (fun _ _ _ h => h) (Or.inr ⟨by rfl, rfl⟩) hHeld ?_
      try simp only [pu]
      refine wpAnyH_take (i := 61) (oi := ⟨(some 64), _, _, _, _, _⟩) (v := undef) rfl (by kernel_rfl) (by kernel_rfl) (by kernel_rfl) (fun _ _ _ h => h) (Or.inr ⟨by rfl, rfl⟩) hHeld ?_
      try simp only [pu]
      refine wpAnyH_take (i := 62) (oi := ⟨(some 65), _, _, _, _, _⟩) (v := .bool true) rfl (by kernel_rfl) (by kernel_rfl) (by kernel_rfl) (fun _ _ _ h => h) (Or.inl ⟨by rfl, ?yr1_62⟩) hHeld ?_
      case yr1_62 => (intro W0 hSw; go_simp; try with_reducible rfl)
      try simp only [pu]
      refine wpAnyH_done (by kernel_rfl) ?_ _
      go_wp2
      go_ret
      exact ⟨ret_bool (by rw [HG.out, decide_eq_false (fun h => by omega)]; simp), below_next hbW hbW.size hHeld⟩
    · skip
      by_cases t2 : a.num < 1
      · skip
        refine wp_region_held_drew (S := fun W' => Below W.heap.size W W') (by kernel_rfl) ((Below.refl _ _).drew) (fun hHeld => ?_)
        refine wpAnyH_take (i := 0) (oi := ⟨(some 3), _, _, _, _, _⟩) (v := .pointer (some ⟨w.heap.size, 0, none⟩)) rfl (by kernel_rfl) (by kernel_rfl) (by kernel_rfl) (fun _ _ _ h => h) (Or.inl ⟨by rfl, ?yr1_0⟩) hHeld ?_
        case yr1_0 => (intro W0 hSw; go_simp; try with_reducible rfl)
        try simp only [pu]
        refine wpAnyH_take (i := 1) (oi := ⟨(some 4), _, _, _, _, _⟩) (v := .pointer (some ⟨w.heap.size, 0, none⟩)) rfl (by kernel_rfl) (by kernel_rfl) (by kernel_rfl) (fun _ _ _ h => h) (Or.inl ⟨by rfl, ?yr1_1⟩) hHeld ?_
        case yr1_1 => (intro W0 hSw; go_simp; try with_reducible rfl)
        try simp only [pu]
        refine wpAnyH_take (i := 2) (oi := ⟨(some 5), _, _, _, _, _⟩) (v := .int .i64 a.dev) rfl (by kernel_rfl) (by kernel_rfl) (by kernel_rfl) (fun _ _ _ h => h) (Or.inl ⟨by rfl, ?yr1_2⟩) hHeld ?_
        case yr1_2 => (intro W0 hSw; have cc := ed_dev (row_next2 hgA hSw); go_simp; try with_reducible rfl)
        try simp only [pu]
        refine wpAnyH_take (i := 3) (oi := ⟨(some 6), _, _, _, _, _⟩) (v := .bool false) rfl (by kernel_rfl) (by kernel_rfl) (by kernel_rfl) (fun _ _ _ h => h) (Or.inl ⟨by rfl, ?yr1_3⟩) hHeld ?_
        case yr1_3 => (intro W0 hSw; go_simp; (try simp [t0]); (try omega))
        try simp only [pu]
        refine wpAnyH_take (i := 4) (oi := ⟨(some 7), _, _, _, _, _⟩) (v := .bool false) rfl (by kernel_rfl) (by kernel_rfl) (by kernel_rfl) (fun _ _ _ h => h) (Or.inl ⟨by rfl, ?yr1_4⟩) hHeld ?_
        case yr1_4 => (intro W0 hSw; go_simp; try with_reducible rfl)
        try simp only [pu]
        refine wpAnyH_take (i := 5) (oi := ⟨(some 8), _, _, _, _, _⟩) (v := .pointer (some ⟨w.heap.size, 0, none⟩)) rfl (by kernel_rfl) (by kernel_rfl) (by kernel_rfl) (fun _ _ _ h => h) (Or.inl ⟨by rfl, ?yr1_5⟩) hHeld ?_
        case yr1_5 => (intro W0 hSw; go_simp; try with_reducible rfl)
        try simp only [pu]
        refine wpAnyH_take (i := 6) (oi := ⟨(some 9), _, _, _, _, _⟩) (v := .pointer (some ⟨w.heap.size, 0, none⟩)) rfl (by kernel_rfl) (by kernel_rfl) (by kernel_rfl) (fun _ _ _ h => h) (Or.inl ⟨by rfl, ?yr1_6⟩) hHeld ?_
        case yr1_6 => (intro W0 hSw; go_simp; try with_reducible rfl)
        try simp only [pu]
        refine wpAnyH_take (i := 7) (oi := ⟨(some 10), _, _, _, _, _⟩) (v := .int .i64 a.dev) rfl (by kernel_rfl) (by kernel_rfl) (by kernel_rfl) (fun _ _ _ h => h) (Or.inl ⟨by rfl, ?yr1_7⟩) hHeld ?_
        case yr1_7 => (intro W0 hSw; have cc := ed_dev (row_next2 hgA hSw); go_simp; try with_reducible rfl)
        try simp only [pu]
        refine wpAnyH_take (i := 8) (oi := ⟨(some 11), _, _, _, _, _⟩) (v := .bool false) rfl (by kernel_rfl) (by kernel_rfl) (by kernel_rfl) (fun _ _ _ h => h) (Or.inl ⟨by rfl, ?yr1_8⟩) hHeld ?_
        case yr1_8 => (intro W0 hSw; go_simp; (try simp [t1]); (try omega))
        try simp only [pu]
        refine wpAnyH_take (i := 9) (oi := ⟨(some 12), _, _, _, _, _⟩) (v := .bool false) rfl (by kernel_rfl) (by kernel_rfl) (by kernel_rfl) (fun _ _ _ h => h) (Or.inl ⟨by rfl, ?yr1_9⟩) hHeld ?_
        case yr1_9 => (intro W0 hSw; go_simp; try with_reducible rfl)
        try simp only [pu]
        refine wpAnyH_take (i := 10) (oi := ⟨(some 13), _, _, _, _, _⟩) (v := .bool false) rfl (by kernel_rfl) (by kernel_rfl) (by kernel_rfl) (fun _ _ _ h => h) (Or.inl ⟨by rfl, ?yr1_10⟩) hHeld ?_
        case yr1_10 => (intro W0 hSw; go_simp; try with_reducible rfl)
        try simp only [pu]
        refine wpAnyH_take (i := 11) (oi := ⟨(some 14), _, _, _, _, _⟩) (v := .pointer (some ⟨w.heap.size, 0, none⟩)) rfl (by kernel_rfl) (by kernel_rfl) (by kernel_rfl) (fun _ _ _ h => h) (Or.inl ⟨by rfl, ?yr1_11⟩) hHeld ?_
        case yr1_11 => (intro W0 hSw; go_simp; try with_reducible rfl)
        try simp only [pu]
        refine wpAnyH_take (i := 12) (oi := ⟨(some 15), _, _, _, _, _⟩) (v := .pointer (some ⟨w.heap.size, 1, none⟩)) rfl (by kernel_rfl) (by kernel_rfl) (by kernel_rfl) (fun _ _ _ h => h) (Or.inl ⟨by rfl, ?yr1_12⟩) hHeld ?_
        case yr1_12 => (intro W0 hSw; go_simp; try with_reducible rfl)
        try simp only [pu]
        refine wpAnyH_take (i := 13) (oi := ⟨(some 16), _, _, _, _, _⟩) (v := .int .i64 a.num) rfl (by kernel_rfl) (by kernel_rfl) (by kernel_rfl) (fun _ _ _ h => h) (Or.inl ⟨by rfl, ?yr1_13⟩) hHeld ?_
        case yr1_13 => (intro W0 hSw; have cc := ed_num (row_next2 hgA hSw); go_simp; try with_reducible rfl)
        try simp only [pu]
        refine wpAnyH_take (i := 14) (oi := ⟨(some 17), _, _, _, _, _⟩) (v := .bool true) rfl (by kernel_rfl) (by kernel_rfl) (by kernel_rfl) (fun _ _ _ h => h) (Or.inl ⟨by rfl, ?yr1_14⟩) hHeld ?_
        case yr1_14 => (intro W0 hSw; go_simp; (try simp [t2]); (try omega))
        try simp only [pu]
        refine wpAnyH_take (i := 15) (oi := ⟨(some 18), _, _, _, _, _⟩) (v := .bool true) rfl (by kernel_rfl) (by kernel_rfl) (by kernel_rfl) (fun _ _ _ h => h) (Or.inl ⟨by rfl, ?yr1_15⟩) hHeld ?_
        case yr1_15 => (intro W0 hSw; go_simp; try with_reducible rfl)
        try simp only [pu]
        refine wpAnyH_take (i := 16) (oi := ⟨(some 19), _, _, _, _, _⟩) (v := .bool true) rfl (by kernel_rfl) (by kernel_rfl) (by kernel_rfl) (fun _ _ _ h => h) (Or.inl ⟨by rfl, ?yr1_16⟩) hHeld ?_
        case yr1_16 => (intro W0 hSw; go_simp; try with_reducible rfl)
        try simp only [pu]
        refine wpAnyH_take (i := 17) (oi := ⟨(some 20), _, _, _, _, _⟩) (v := undef) rfl (by kernel_rfl) (by kernel_rfl) (by kernel_rfl) (fun _ _ _ h => h) (Or.inr ⟨by rfl, rfl⟩) hHeld ?_
        try simp only [pu]
        refine wpAnyH_take (i := 18) (oi := ⟨(some 21), _, _, _, _, _⟩) (v := undef) rfl (by kernel_rfl) (by kernel_rfl) (by kernel_rfl) (fun _ _ _ h => h) (Or.inr ⟨by rfl, rfl⟩) hHeld ?_
        try simp only [pu]
        refine wpAnyH_take (i := 19) (oi := ⟨(some 22), _, _, _, _, _⟩) (v := undef) rfl (by kernel_rfl) (by kernel_rfl) (by kernel_rfl) (fun _ _ _ h => h) (Or.inr ⟨by rfl, rfl⟩) hHeld ?_
        try simp only [pu]
        refine wpAnyH_take (i := 20) (oi := ⟨(some 23), _, _, _, _, _⟩) (v := undef) rfl (by kernel_rfl) (by kernel_rfl) (by kernel_rfl) (fun _ _ _ h => h) (Or.inr ⟨by rfl, rfl⟩) hHeld ?_
        try simp only [pu]
        refine wpAnyH_take (i := 21) (oi := ⟨(some 24), _, _, _, _, _⟩) (v := .bool true) rfl (by kernel_rfl) (by kernel_rfl) (by kernel_rfl) (fun _ _ _ h => h) (Or.inl ⟨by rfl, ?yr1_21⟩) hHeld ?_
        case yr1_21 => (intro W0 hSw; go_simp; try with_reducible rfl)
        try simp only [pu]
        refine wpAnyH_take (i := 22) (oi := ⟨(some 25), _, _, _, _, _⟩) (v := .bool true) rfl (by kernel_rfl) (by kernel_rfl) (by kernel_rfl) (fun _ _ _ h => h) (Or.inl ⟨by rfl, ?yr1_22⟩) hHeld ?_
        case yr1_22 => (intro W0 hSw; go_simp; try with_reducible rfl)
        try simp only [pu]
        refine wpAnyH_take (i := 23) (oi := ⟨(some 26), _, _, _, _, _⟩) (v := undef) rfl (by kernel_rfl) (by kernel_rfl) (by kernel_rfl) (fun _ _ _ h => h) (Or.inr ⟨by rfl, rfl⟩) hHeld ?_
        try simp only [pu]
        refine wpAnyH_take (i := 24) (oi := ⟨(some 27), _, _, _, _, _⟩) (v := undef) rfl (by kernel_rfl) (by kernel_rfl) (by kernel_rfl) (fun _ _ _ h => h) (Or.inr ⟨by rfl, rfl⟩) hHeld ?_
        try simp only [pu]
        refine wpAnyH_take (i := 25) (oi := ⟨(some 28), _, _, _, _, _⟩) (v := undef) rfl (by kernel_rfl) (by kernel_rfl) (by kernel_rfl) (fun _ _ _ h => h) (Or.inr ⟨by rfl, rfl⟩) hHeld ?_
        try simp only [pu]
        refine wpAnyH_take (i := 26) (oi := ⟨(some 29), _, _, _, _, _⟩) (v := undef) rfl (by kernel_rfl) (by kernel_rfl) (by kernel_rfl) (fun _ _ _ h => h) (Or.inr ⟨by rfl, rfl⟩) hHeld ?_
        try simp only [pu]
        refine wpAnyH_take (i := 27) (oi := ⟨(some 30), _, _, _, _, _⟩) (v := .bool true) rfl (by kernel_rfl) (by kernel_rfl) (by kernel_rfl) (fun _ _ _ h => h) (Or.inl ⟨by rfl, ?yr1_27⟩) hHeld ?_
        case yr1_27 => (intro W0 hSw; go_simp; try with_reducible rfl)
        try simp only [pu]
        refine wpAnyH_take (i := 28) (oi := ⟨(some 31), _, _, _, _, _⟩) (v := .bool true) rfl (by kernel_rfl) (by kernel_rfl) (by kernel_rfl) (fun _ _ _ h => h) (Or.inl ⟨by rfl, ?yr1_28⟩) hHeld ?_
        case yr1_28 => (intro W0 hSw; go_simp; try with_reducible rfl)
        try simp only [pu]
        refine wpAnyH_take (i := 29) (oi := ⟨(some 32), _, _, _, _, _⟩) (v := undef) rfl (by kernel_rfl) (by kernel_rfl) (by kernel_rfl) (fun _ _ _ h => h) (Or.inr ⟨by rfl, rfl⟩) hHeld ?_
        try simp only [pu]
        refine wpAnyH_take (i := 30) (oi := ⟨(some 33), _, _, _, _, _⟩) (v := undef) rfl (by kernel_rfl) (by kernel_rfl) (by kernel_rfl) (fun _ _ _ h => h) (Or.inr ⟨by rfl, rfl⟩) hHeld ?_
        try simp only [pu]
        refine wpAnyH_take (i := 31) (oi := ⟨(some 34), _, _, _, _, _⟩) (v := undef) rfl (by kernel_rfl) (by kernel_rfl) (by kernel_rfl) (fun _ _ _ h => h) (Or.inr ⟨by rfl, rfl⟩) hHeld ?_
        try simp only [pu]
        refine wpAnyH_take (i := 32) (oi := ⟨(some 35), _, _, _, _, _⟩) (v := undef) rfl (by kernel_rfl) (by kernel_rfl) (by kernel_rfl) (fun _ _ _ h => h) (Or.inr ⟨by rfl, rfl⟩) hHeld ?_
        try simp only [pu]
        refine wpAnyH_take (i := 33) (oi := ⟨(some 36), _, _, _, _, _⟩) (v := undef) rfl (by kernel_rfl) (by kernel_rfl) (by kernel_rfl) (fun _ _ _ h => h) (Or.inr ⟨by rfl, rfl⟩) hHeld ?_
        try simp only [pu]
        refine wpAnyH_take (i := 34) (oi := ⟨(some 37), _, _, _, _, _⟩) (v := undef) rfl (by kernel_rfl) (by kernel_rfl) (by kernel_rfl) (fun _ _ _ h => h) (Or.inr ⟨by rfl, rfl⟩) hHeld ?_
        try simp only [pu]
        refine wpAnyH_take (i := 35) (oi := ⟨(some 38), _, _, _, _, _⟩) (v := undef) rfl (by kernel_rfl) (by kernel_rfl) (by kernel_rfl) (fun _ _ _ h => h) (Or.inr ⟨by rfl, rfl⟩) hHeld ?_
        try simp only [pu]
        refine wpAnyH_take (i := 36) (oi := ⟨(some 39), _, _, _, _, _⟩) (v := undef) rfl (by kernel_rfl) (by kernel_rfl) (by kernel_rfl) (fun _ _ _ h => h) (Or.inr ⟨by rfl, rfl⟩) hHeld ?_
        try simp only [pu]
        refine wpAnyH_take (i := 37) (oi := ⟨(some 40), _, _, _, _, _⟩) (v := undef) rfl (by kernel_rfl) (by kernel_rfl) (by kernel_rfl) (fun _ _ _ h => h) (Or.inr ⟨by rfl, rfl⟩) hHeld ?_
        try simp only [pu]
        refine wpAnyH_take (i := 38) (oi := ⟨(some 41), _, _, _, _, _⟩) (v := undef) rfl (by kernel_rfl) (by kernel_rfl) (by kernel_rfl) (fun _ _ _ h => h) (Or.inr ⟨by rfl, rfl⟩) hHeld ?_
        try simp only [pu]
        refine wpAnyH_take (i := 39) (oi := ⟨(some 42), _, _, _, _, _⟩) (v := undef) rfl (by kernel_rfl) (by kernel_rfl) (by kernel_rfl) (fun _ _ _ h => h) (Or.inr ⟨by rfl, rfl⟩) hHeld ?_
        try simp only [pu]
        refine wpAnyH_take (i := 40) (oi := ⟨(some 43), _, _, _, _, _⟩) (v := .bool true) rfl (by kernel_rfl) (by kernel_rfl) (by kernel_rfl) (fun _ _ _ h => h) (Or.inl ⟨by rfl, ?yr1_40⟩) hHeld ?_
        case yr1_40 => (intro W0 hSw; go_simp; try with_reducible rfl)
        try simp only [pu]
        refine wpAnyH_take (i := 41) (oi := ⟨(some 44), _, _, _, _, _⟩) (v := .bool true) rfl (by kernel_rfl) (by kernel_rfl) (by kernel_rfl) (fun _ _ _ h => h) (Or.inl ⟨by rfl, ?yr1_41⟩) hHeld ?_
        case yr1_41 => (intro W0 hSw; go_simp; try with_reducible rfl)
        try simp only [pu]
        refine wpAnyH_take (i := 42) (oi := ⟨(some 45), _, _, _, _, _⟩) (v := undef) rfl (by kernel_rfl) (by kernel_rfl) (by kernel_rfl) (fun _ _ _ h => h) (Or.inr ⟨by rfl, rfl⟩) hHeld ?_
        try simp only [pu]
        refine wpAnyH_take (i := 43) (oi := ⟨(some 46), _, _, _, _, _⟩) (v := undef) rfl (by kernel_rfl) (by kernel_rfl) (by kernel_rfl) (fun _ _ _ h => h) (Or.inr ⟨by rfl, rfl⟩) hHeld ?_
        try simp only [pu]
        refine wpAnyH_take (i := 44) (oi := ⟨(some 47), _, _, _, _, _⟩) (v := undef) rfl (by kernel_rfl) (by kernel_rfl) (by kernel_rfl) (fun _ _ _ h => h) (Or.inr ⟨by rfl, rfl⟩) hHeld ?_
        try simp only [pu]
        refine wpAnyH_take (i := 45) (oi := ⟨(some 48), _, _, _, _, _⟩) (v := .bool true) rfl (by kernel_rfl) (by kernel_rfl) (by kernel_rfl) (fun _ _ _ h => h) (Or.inl ⟨by rfl, ?yr1_45⟩) hHeld ?_
        case yr1_45 => (intro W0 hSw; go_simp; try with_reducible rfl)
        try simp only [pu]
        refine wpAnyH_take (i := 46) (oi := ⟨(some 49), _, _, _, _, _⟩) (v := .bool true) rfl (by kernel_rfl) (by kernel_rfl) (by kernel_rfl) (fun _ _ _ h => h) (Or.inl ⟨by rfl, ?yr1_46⟩) hHeld ?_
        case yr1_46 => (intro W0 hSw; go_simp; try with_reducible rfl)
        try simp only [pu]
        refine wpAnyH_take (i := 47) (oi := ⟨(some 50), _, _, _, _, _⟩) (v := undef) rfl (by kernel_rfl) (by kernel_rfl) (by kernel_rfl) (fun _ _ _ h => h) (Or.inr ⟨by rfl, rfl⟩) hHeld ?_
        try simp only [pu]
        refine wpAnyH_take (i := 48) (oi := ⟨(some 51), _, _, _, _, _⟩) (v := undef) rfl (by kernel_rfl) (by kernel_rfl) (by kernel_rfl) (fun _ _ _ h => h) (Or.inr ⟨by rfl, rfl⟩) hHeld ?_
        try simp only [pu]
        refine wpAnyH_take (i := 49) (oi := ⟨(some 52), _, _, _, _, _⟩) (v := undef) rfl (by kernel_rfl) (by kernel_rfl) (by kernel_rfl) (fun _ _ _ h => h) (Or.inr ⟨by rfl, rfl⟩) hHeld ?_
        try simp only [pu]
        refine wpAnyH_take (i := 50) (oi := ⟨(some 53), _, _, _, _, _⟩) (v := .bool true) rfl (by kernel_rfl) (by kernel_rfl) (by kernel_rfl) (fun _ _ _ h => h) (Or.inl ⟨by rfl, ?yr1_50⟩) hHeld ?_
        case yr1_50 => (intro W0 hSw; go_simp; try with_reducible rfl)
        try simp only [pu]
        refine wpAnyH_take (i := 51) (oi := ⟨(some 54), _, _, _, _, _⟩) (v := .bool true) rfl (by kernel_rfl) (by kernel_rfl) (by kernel_rfl) (fun _ _ _ h => h) (Or.inl ⟨by rfl, ?yr1_51⟩) hHeld ?_
        case yr1_51 => (intro W0 hSw; go_simp; try with_reducible rfl)
        try simp only [pu]
        refine wpAnyH_take (i := 52) (oi := ⟨(some 55), _, _, _, _, _⟩) (v := undef) rfl (by kernel_rfl) (by kernel_rfl) (by kernel_rfl) (fun _ _ _ h => h) (Or.inr ⟨by rfl, rfl⟩) hHeld ?_
        try simp only [pu]
        refine wpAnyH_take (i := 53) (oi := ⟨(some 56), _, _, _, _, _⟩) (v := undef) rfl (by kernel_rfl) (by kernel_rfl) (by kernel_rfl) (fun _ _ _ h => h) (Or.inr ⟨by rfl, rfl⟩) hHeld ?_
        try simp only [pu]
        refine wpAnyH_take (i := 54) (oi := ⟨(some 57), _, _, _, _, _⟩) (v := undef) rfl (by kernel_rfl) (by kernel_rfl) (by kernel_rfl) (fun _ _ _ h => h) (Or.inr ⟨by rfl, rfl⟩) hHeld ?_
        try simp only [pu]
        refine wpAnyH_take (i := 55) (oi := ⟨(some 58), _, _, _, _, _⟩) (v := undef) rfl (by kernel_rfl) (by kernel_rfl) (by kernel_rfl) (fun _ _ _ h => h) (Or.inr ⟨by rfl, rfl⟩) hHeld ?_
        try simp only [pu]
        refine wpAnyH_take (i := 56) (oi := ⟨(some 59), _, _, _, _, _⟩) (v := .bool true) rfl (by kernel_rfl) (by kernel_rfl) (by kernel_rfl) (fun _ _ _ h => h) (Or.inl ⟨by rfl, ?yr1_56⟩) hHeld ?_
        case yr1_56 => (intro W0 hSw; go_simp; try with_reducible rfl)
        try simp only [pu]
        refine wpAnyH_take (i := 57) (oi := ⟨(some 60), _, _, _, _, _⟩) (v := .bool true) rfl (by kernel_rfl) (by kernel_rfl) (by kernel_rfl) (fun _ _ _ h => h) (Or.inl ⟨by rfl, ?yr1_57⟩) hHeld ?_
        case yr1_57 => (intro W0 hSw; go_simp; try with_reducible rfl)
        try simp only [pu]
        refine wpAnyH_take (i := 58) (oi := ⟨(some 61), _, _, _, _, _⟩) (v := undef) rfl (by kernel_rfl) (by kernel_rfl) (by kernel_rfl) (fun _ _ _ h => h) (Or.inr ⟨by rfl, rfl⟩) hHeld ?_
        try simp only [pu]
        refine wpAnyH_take (i := 59) (oi := ⟨(some 62), _, _, _, _, _⟩) (v := undef) rfl (by kernel_rfl) (by kernel_rfl) (by kernel_rfl) (fun _ _ _ h => h) (Or.inr ⟨by rfl, rfl⟩) hHeld ?_
        try simp only [pu]
        refine wpAnyH_take (i := 60) (oi := ⟨(some 63), _, _, _, _, _⟩) (v := undef) rfl (by kernel_rfl) (by kernel_rfl) (by kernel_rfl) (fun _ _ _ h => h) (Or.inr ⟨by rfl, rfl⟩) hHeld ?_
        try simp only [pu]
        refine wpAnyH_take (i := 61) (oi := ⟨(some 64), _, _, _, _, _⟩) (v := undef) rfl (by kernel_rfl) (by kernel_rfl) (by kernel_rfl) (fun _ _ _ h => h) (Or.inr ⟨by rfl, rfl⟩) hHeld ?_
        try simp only [pu]
        refine wpAnyH_take (i := 62) (oi := ⟨(some 65), _, _, _, _, _⟩) (v := .bool true) rfl (by kernel_rfl) (by kernel_rfl) (by kernel_rfl) (fun _ _ _ h => h) (Or.inl ⟨by rfl, ?yr1_62⟩) hHeld ?_
        case yr1_62 => (intro W0 hSw; go_simp; try with_reducible rfl)
        try simp only [pu]
        refine wpAnyH_done (by kernel_rfl) ?_ _
        go_wp2
        go_ret
        exact ⟨ret_bool (by rw [HG.out, decide_eq_false (fun h => by omega)]; simp), below_next hbW hbW.size hHeld⟩
      · skip
        by_cases t3 : (1099511627776 : Int) < a.num
        · skip
          refine wp_region_held_drew (S := fun W' => Below W.heap.size W W') (by kernel_rfl) ((Below.refl _ _).drew) (fun hHeld => ?_)
          refine wpAnyH_take (i := 0) (oi := ⟨(some 3), _, _, _, _, _⟩) (v := .pointer (some ⟨w.heap.size, 0, none⟩)) rfl (by kernel_rfl) (by kernel_rfl) (by kernel_rfl) (fun _ _ _ h => h) (Or.inl ⟨by rfl, ?yr1_0⟩) hHeld ?_
          case yr1_0 => (intro W0 hSw; go_simp; try with_reducible rfl)
          try simp only [pu]
          refine wpAnyH_take (i := 1) (oi := ⟨(some 4), _, _, _, _, _⟩) (v := .pointer (some ⟨w.heap.size, 0, none⟩)) rfl (by kernel_rfl) (by kernel_rfl) (by kernel_rfl) (fun _ _ _ h => h) (Or.inl ⟨by rfl, ?yr1_1⟩) hHeld ?_
          case yr1_1 => (intro W0 hSw; go_simp; try with_reducible rfl)
          try simp only [pu]
          refine wpAnyH_take (i := 2) (oi := ⟨(some 5), _, _, _, _, _⟩) (v := .int .i64 a.dev) rfl (by kernel_rfl) (by kernel_rfl) (by kernel_rfl) (fun _ _ _ h => h) (Or.inl ⟨by rfl, ?yr1_2⟩) hHeld ?_
          case yr1_2 => (intro W0 hSw; have cc := ed_dev (row_next2 hgA hSw); go_simp; try with_reducible rfl)
          try simp only [pu]
          refine wpAnyH_take (i := 3) (oi := ⟨(some 6), _, _, _, _, _⟩) (v := .bool false) rfl (by kernel_rfl) (by kernel_rfl) (by kernel_rfl) (fun _ _ _ h => h) (Or.inl ⟨by rfl, ?yr1_3⟩) hHeld ?_
          case yr1_3 => (intro W0 hSw; go_simp; (try simp [t0]); (try omega))
          try simp only [pu]
          refine wpAnyH_take (i := 4) (oi := ⟨(some 7), _, _, _, _, _⟩) (v := .bool false) rfl (by kernel_rfl) (by kernel_rfl) (by kernel_rfl) (fun _ _ _ h => h) (Or.inl ⟨by rfl, ?yr1_4⟩) hHeld ?_
          case yr1_4 => (intro W0 hSw; go_simp; try with_reducible rfl)
          try simp only [pu]
          refine wpAnyH_take (i := 5) (oi := ⟨(some 8), _, _, _, _, _⟩) (v := .pointer (some ⟨w.heap.size, 0, none⟩)) rfl (by kernel_rfl) (by kernel_rfl) (by kernel_rfl) (fun _ _ _ h => h) (Or.inl ⟨by rfl, ?yr1_5⟩) hHeld ?_
          case yr1_5 => (intro W0 hSw; go_simp; try with_reducible rfl)
          try simp only [pu]
          refine wpAnyH_take (i := 6) (oi := ⟨(some 9), _, _, _, _, _⟩) (v := .pointer (some ⟨w.heap.size, 0, none⟩)) rfl (by kernel_rfl) (by kernel_rfl) (by kernel_rfl) (fun _ _ _ h => h) (Or.inl ⟨by rfl, ?yr1_6⟩) hHeld ?_
          case yr1_6 => (intro W0 hSw; go_simp; try with_reducible rfl)
          try simp only [pu]
          refine wpAnyH_take (i := 7) (oi := ⟨(some 10), _, _, _, _, _⟩) (v := .int .i64 a.dev) rfl (by kernel_rfl) (by kernel_rfl) (by kernel_rfl) (fun _ _ _ h => h) (Or.inl ⟨by rfl, ?yr1_7⟩) hHeld ?_
          case yr1_7 => (intro W0 hSw; have cc := ed_dev (row_next2 hgA hSw); go_simp; try with_reducible rfl)
          try simp only [pu]
          refine wpAnyH_take (i := 8) (oi := ⟨(some 11), _, _, _, _, _⟩) (v := .bool false) rfl (by kernel_rfl) (by kernel_rfl) (by kernel_rfl) (fun _ _ _ h => h) (Or.inl ⟨by rfl, ?yr1_8⟩) hHeld ?_
          case yr1_8 => (intro W0 hSw; go_simp; (try simp [t1]); (try omega))
          try simp only [pu]
          refine wpAnyH_take (i := 9) (oi := ⟨(some 12), _, _, _, _, _⟩) (v := .bool false) rfl (by kernel_rfl) (by kernel_rfl) (by kernel_rfl) (fun _ _ _ h => h) (Or.inl ⟨by rfl, ?yr1_9⟩) hHeld ?_
          case yr1_9 => (intro W0 hSw; go_simp; try with_reducible rfl)
          try simp only [pu]
          refine wpAnyH_take (i := 10) (oi := ⟨(some 13), _, _, _, _, _⟩) (v := .bool false) rfl (by kernel_rfl) (by kernel_rfl) (by kernel_rfl) (fun _ _ _ h => h) (Or.inl ⟨by rfl, ?yr1_10⟩) hHeld ?_
          case yr1_10 => (intro W0 hSw; go_simp; try with_reducible rfl)
          try simp only [pu]
          refine wpAnyH_take (i := 11) (oi := ⟨(some 14), _, _, _, _, _⟩) (v := .pointer (some ⟨w.heap.size, 0, none⟩)) rfl (by kernel_rfl) (by kernel_rfl) (by kernel_rfl) (fun _ _ _ h => h) (Or.inl ⟨by rfl, ?yr1_11⟩) hHeld ?_
          case yr1_11 => (intro W0 hSw; go_simp; try with_reducible rfl)
          try simp only [pu]
          refine wpAnyH_take (i := 12) (oi := ⟨(some 15), _, _, _, _, _⟩) (v := .pointer (some ⟨w.heap.size, 1, none⟩)) rfl (by kernel_rfl) (by kernel_rfl) (by kernel_rfl) (fun _ _ _ h => h) (Or.inl ⟨by rfl, ?yr1_12⟩) hHeld ?_
          case yr1_12 => (intro W0 hSw; go_simp; try with_reducible rfl)
          try simp only [pu]
          refine wpAnyH_take (i := 13) (oi := ⟨(some 16), _, _, _, _, _⟩) (v := .int .i64 a.num) rfl (by kernel_rfl) (by kernel_rfl) (by kernel_rfl) (fun _ _ _ h => h) (Or.inl ⟨by rfl, ?yr1_13⟩) hHeld ?_
          case yr1_13 => (intro W0 hSw; have cc := ed_num (row_next2 hgA hSw); go_simp; try with_reducible rfl)
          try simp only [pu]
          refine wpAnyH_take (i := 14) (oi := ⟨(some 17), _, _, _, _, _⟩) (v := .bool false) rfl (by kernel_rfl) (by kernel_rfl) (by kernel_rfl) (fun _ _ _ h => h) (Or.inl ⟨by rfl, ?yr1_14⟩) hHeld ?_
          case yr1_14 => (intro W0 hSw; go_simp; (try simp [t2]); (try omega))
          try simp only [pu]
          refine wpAnyH_take (i := 15) (oi := ⟨(some 18), _, _, _, _, _⟩) (v := .bool false) rfl (by kernel_rfl) (by kernel_rfl) (by kernel_rfl) (fun _ _ _ h => h) (Or.inl ⟨by rfl, ?yr1_15⟩) hHeld ?_
          case yr1_15 => (intro W0 hSw; go_simp; try with_reducible rfl)
          try simp only [pu]
          refine wpAnyH_take (i := 16) (oi := ⟨(some 19), _, _, _, _, _⟩) (v := .bool false) rfl (by kernel_rfl) (by kernel_rfl) (by kernel_rfl) (fun _ _ _ h => h) (Or.inl ⟨by rfl, ?yr1_16⟩) hHeld ?_
          case yr1_16 => (intro W0 hSw; go_simp; try with_reducible rfl)
          try simp only [pu]
          refine wpAnyH_take (i := 17) (oi := ⟨(some 20), _, _, _, _, _⟩) (v := .pointer (some ⟨w.heap.size, 0, none⟩)) rfl (by kernel_rfl) (by kernel_rfl) (by kernel_rfl) (fun _ _ _ h => h) (Or.inl ⟨by rfl, ?yr1_17⟩) hHeld ?_
          case yr1_17 => (intro W0 hSw; go_simp; try with_reducible rfl)
          try simp only [pu]
          refine wpAnyH_take (i := 18) (oi := ⟨(some 21), _, _, _, _, _⟩) (v := .pointer (some ⟨w.heap.size, 1, none⟩)) rfl (by kernel_rfl) (by kernel_rfl) (by kernel_rfl) (fun _ _ _ h => h) (Or.inl ⟨by rfl, ?yr1_18⟩) hHeld ?_
          case yr1_18 => (intro W0 hSw; go_simp; try with_reducible rfl)
          try simp only [pu]
          refine wpAnyH_take (i := 19) (oi := ⟨(some 22), _, _, _, _, _⟩) (v := .int .i64 a.num) rfl (by kernel_rfl) (by kernel_rfl) (by kernel_rfl) (fun _ _ _ h => h) (Or.inl ⟨by rfl, ?yr1_19⟩) hHeld ?_
          case yr1_19 => (intro W0 hSw; have cc := ed_num (row_next2 hgA hSw); go_simp; try with_reducible rfl)
          try simp only [pu]
          refine wpAnyH_take (i := 20) (oi := ⟨(some 23), _, _, _, _, _⟩) (v := .bool true) rfl (by kernel_rfl) (by kernel_rfl) (by kernel_rfl) (fun _ _ _ h => h) (Or.inl ⟨by rfl, ?yr1_20⟩) hHeld ?_
          case yr1_20 => (intro W0 hSw; go_simp; (try simp [t3]); (try omega))
          try simp only [pu]
          refine wpAnyH_take (i := 21) (oi := ⟨(some 24), _, _, _, _, _⟩) (v := .bool true) rfl (by kernel_rfl) (by kernel_rfl) (by kernel_rfl) (fun _ _ _ h => h) (Or.inl ⟨by rfl, ?yr1_21⟩) hHeld ?_
          case yr1_21 => (intro W0 hSw; go_simp; try with_reducible rfl)
          try simp only [pu]
          refine wpAnyH_take (i := 22) (oi := ⟨(some 25), _, _, _, _, _⟩) (v := .bool true) rfl (by kernel_rfl) (by kernel_rfl) (by kernel_rfl) (fun _ _ _ h => h) (Or.inl ⟨by rfl, ?yr1_22⟩) hHeld ?_
          case yr1_22 => (intro W0 hSw; go_simp; try with_reducible rfl)
          try simp only [pu]
          refine wpAnyH_take (i := 23) (oi := ⟨(some 26), _, _, _, _, _⟩) (v := undef) rfl (by kernel_rfl) (by kernel_rfl) (by kernel_rfl) (fun _ _ _ h => h) (Or.inr ⟨by rfl, rfl⟩) hHeld ?_
          try simp only [pu]
          refine wpAnyH_take (i := 24) (oi := ⟨(some 27), _, _, _, _, _⟩) (v := undef) rfl (by kernel_rfl) (by kernel_rfl) (by kernel_rfl) (fun _ _ _ h => h) (Or.inr ⟨by rfl, rfl⟩) hHeld ?_
          try simp only [pu]
          refine wpAnyH_take (i := 25) (oi := ⟨(some 28), _, _, _, _, _⟩) (v := undef) rfl (by kernel_rfl) (by kernel_rfl) (by kernel_rfl) (fun _ _ _ h => h) (Or.inr ⟨by rfl, rfl⟩) hHeld ?_
          try simp only [pu]
          refine wpAnyH_take (i := 26) (oi := ⟨(some 29), _, _, _, _, _⟩) (v := undef) rfl (by kernel_rfl) (by kernel_rfl) (by kernel_rfl) (fun _ _ _ h => h) (Or.inr ⟨by rfl, rfl⟩) hHeld ?_
          try simp only [pu]
          refine wpAnyH_take (i := 27) (oi := ⟨(some 30), _, _, _, _, _⟩) (v := .bool true) rfl (by kernel_rfl) (by kernel_rfl) (by kernel_rfl) (fun _ _ _ h => h) (Or.inl ⟨by rfl, ?yr1_27⟩) hHeld ?_
          case yr1_27 => (intro W0 hSw; go_simp; try with_reducible rfl)
          try simp only [pu]
          refine wpAnyH_take (i := 28) (oi := ⟨(some 31), _, _, _, _, _⟩) (v := .bool true) rfl (by kernel_rfl) (by kernel_rfl) (by kernel_rfl) (fun _ _ _ h => h) (Or.inl ⟨by rfl, ?yr1_28⟩) hHeld ?_
          case yr1_28 => (intro W0 hSw; go_simp; try with_reducible rfl)
          try simp only [pu]
          refine wpAnyH_take (i := 29) (oi := ⟨(some 32), _, _, _, _, _⟩) (v := undef) rfl (by kernel_rfl) (by kernel_rfl) (by kernel_rfl) (fun _ _ _ h => h) (Or.inr ⟨by rfl, rfl⟩) hHeld ?_
          try simp only [pu]
          refine wpAnyH_take (i := 30) (oi := ⟨(some 33), _, _, _, _, _⟩) (v := undef) rfl (by kernel_rfl) (by kernel_rfl) (by kernel_rfl) (fun _ _ _ h => h) (Or.inr ⟨by rfl, rfl⟩) hHeld ?_
          try simp only [pu]
          refine wpAnyH_take (i := 31) (oi := ⟨(some 34), _, _, _, _, _⟩) (v := undef) rfl (by kernel_rfl) (by kernel_rfl) (by kernel_rfl) (fun _ _ _ h => h) (Or.inr ⟨by rfl, rfl⟩) hHeld ?_
          try simp only [pu]
          refine wpAnyH_take (i := 32) (oi := ⟨(some 35), _, _, _, _, _⟩) (v := undef) rfl (by kernel_rfl) (by kernel_rfl) (by kernel_rfl) (fun _ _ _ h => h) (Or.inr ⟨by rfl, rfl⟩) hHeld ?_
          try simp only [pu]
          refine wpAnyH_take (i := 33) (oi := ⟨(some 36), _, _, _, _, _⟩) (v := undef) rfl (by kernel_rfl) (by kernel_rfl) (by kernel_rfl) (fun _ _ _ h => h) (Or.inr ⟨by rfl, rfl⟩) hHeld ?_
          try simp only [pu]
          refine wpAnyH_take (i := 34) (oi := ⟨(some 37), _, _, _, _, _⟩) (v := undef) rfl (by kernel_rfl) (by kernel_rfl) (by kernel_rfl) (fun _ _ _ h => h) (Or.inr ⟨by rfl, rfl⟩) hHeld ?_
          try simp only [pu]
          refine wpAnyH_take (i := 35) (oi := ⟨(some 38), _, _, _, _, _⟩) (v := undef) rfl (by kernel_rfl) (by kernel_rfl) (by kernel_rfl) (fun _ _ _ h => h) (Or.inr ⟨by rfl, rfl⟩) hHeld ?_
          try simp only [pu]
          refine wpAnyH_take (i := 36) (oi := ⟨(some 39), _, _, _, _, _⟩) (v := undef) rfl (by kernel_rfl) (by kernel_rfl) (by kernel_rfl) (fun _ _ _ h => h) (Or.inr ⟨by rfl, rfl⟩) hHeld ?_
          try simp only [pu]
          refine wpAnyH_take (i := 37) (oi := ⟨(some 40), _, _, _, _, _⟩) (v := undef) rfl (by kernel_rfl) (by kernel_rfl) (by kernel_rfl) (fun _ _ _ h => h) (Or.inr ⟨by rfl, rfl⟩) hHeld ?_
          try simp only [pu]
          refine wpAnyH_take (i := 38) (oi := ⟨(some 41), _, _, _, _, _⟩) (v := undef) rfl (by kernel_rfl) (by kernel_rfl) (by kernel_rfl) (fun _ _ _ h => h) (Or.inr ⟨by rfl, rfl⟩) hHeld ?_
          try simp only [pu]
          refine wpAnyH_take (i := 39) (oi := ⟨(some 42), _, _, _, _, _⟩) (v := undef) rfl (by kernel_rfl) (by kernel_rfl) (by kernel_rfl) (fun _ _ _ h => h) (Or.inr ⟨by rfl, rfl⟩) hHeld ?_
          try simp only [pu]
          refine wpAnyH_take (i := 40) (oi := ⟨(some 43), _, _, _, _, _⟩) (v := .bool true) rfl (by kernel_rfl) (by kernel_rfl) (by kernel_rfl) (fun _ _ _ h => h) (Or.inl ⟨by rfl, ?yr1_40⟩) hHeld ?_
          case yr1_40 => (intro W0 hSw; go_simp; try with_reducible rfl)
          try simp only [pu]
          refine wpAnyH_take (i := 41) (oi := ⟨(some 44), _, _, _, _, _⟩) (v := .bool true) rfl (by kernel_rfl) (by kernel_rfl) (by kernel_rfl) (fun _ _ _ h => h) (Or.inl ⟨by rfl, ?yr1_41⟩) hHeld ?_
          case yr1_41 => (intro W0 hSw; go_simp; try with_reducible rfl)
          try simp only [pu]
          refine wpAnyH_take (i := 42) (oi := ⟨(some 45), _, _, _, _, _⟩) (v := undef) rfl (by kernel_rfl) (by kernel_rfl) (by kernel_rfl) (fun _ _ _ h => h) (Or.inr ⟨by rfl, rfl⟩) hHeld ?_
          try simp only [pu]
          refine wpAnyH_take (i := 43) (oi := ⟨(some 46), _, _, _, _, _⟩) (v := undef) rfl (by kernel_rfl) (by kernel_rfl) (by kernel_rfl) (fun _ _ _ h => h) (Or.inr ⟨by rfl, rfl⟩) hHeld ?_
          try simp only [pu]
          refine wpAnyH_take (i := 44) (oi := ⟨(some 47), _, _, _, _, _⟩) (v := undef) rfl (by kernel_rfl) (by kernel_rfl) (by kernel_rfl) (fun _ _ _ h => h) (Or.inr ⟨by rfl, rfl⟩) hHeld ?_
          try simp only [pu]
          refine wpAnyH_take (i := 45) (oi := ⟨(some 48), _, _, _, _, _⟩) (v := .bool true) rfl (by kernel_rfl) (by kernel_rfl) (by kernel_rfl) (fun _ _ _ h => h) (Or.inl ⟨by rfl, ?yr1_45⟩) hHeld ?_
          case yr1_45 => (intro W0 hSw; go_simp; try with_reducible rfl)
          try simp only [pu]
          refine wpAnyH_take (i := 46) (oi := ⟨(some 49), _, _, _, _, _⟩) (v := .bool true) rfl (by kernel_rfl) (by kernel_rfl) (by kernel_rfl) (fun _ _ _ h => h) (Or.inl ⟨by rfl, ?yr1_46⟩) hHeld ?_
          case yr1_46 => (intro W0 hSw; go_simp; try with_reducible rfl)
          try simp only [pu]
          refine wpAnyH_take (i := 47) (oi := ⟨(some 50), _, _, _, _, _⟩) (v := undef) rfl (by kernel_rfl) (by kernel_rfl) (by kernel_rfl) (fun _ _ _ h => h) (Or.inr ⟨by rfl, rfl⟩) hHeld ?_
          try simp only [pu]
          refine wpAnyH_take (i := 48) (oi := ⟨(some 51), _, _, _, _, _⟩) (v := undef) rfl (by kernel_rfl) (by kernel_rfl) (by kernel_rfl) (fun _ _ _ h => h) (Or.inr ⟨by rfl, rfl⟩) hHeld ?_
          try simp only [pu]
          refine wpAnyH_take (i := 49) (oi := ⟨(some 52), _, _, _, _, _⟩) (v := undef) rfl (by kernel_rfl) (by kernel_rfl) (by kernel_rfl) (fun _ _ _ h => h) (Or.inr ⟨by rfl, rfl⟩) hHeld ?_
          try simp only [pu]
          refine wpAnyH_take (i := 50) (oi := ⟨(some 53), _, _, _, _, _⟩) (v := .bool true) rfl (by kernel_rfl) (by kernel_rfl) (by kernel_rfl) (fun _ _ _ h => h) (Or.inl ⟨by rfl, ?yr1_50⟩) hHeld ?_
          case yr1_50 => (intro W0 hSw; go_simp; try with_reducible rfl)
          try simp only [pu]
          refine wpAnyH_take (i := 51) (oi := ⟨(some 54), _, _, _, _, _⟩) (v := .bool true) rfl (by kernel_rfl) (by kernel_rfl) (by kernel_rfl) (fun _ _ _ h => h) (Or.inl ⟨by rfl, ?yr1_51⟩) hHeld ?_
          case yr1_51 => (intro W0 hSw; go_simp; try with_reducible rfl)
          try simp only [pu]
          refine wpAnyH_take (i := 52) (oi := ⟨(some 55), _, _, _, _, _⟩) (v := undef) rfl (by kernel_rfl) (by kernel_rfl) (by kernel_rfl) (fun _ _ _ h => h) (Or.inr ⟨by rfl, rfl⟩) hHeld ?_
          try simp only [pu]
          refine wpAnyH_take (i := 53) (oi := ⟨(some 56), _, _, _, _, _⟩) (v := undef) rfl (by kernel_rfl) (by kernel_rfl) (by kernel_rfl) (fun _ _ _ h => h) (Or.inr ⟨by rfl, rfl⟩) hHeld ?_
          try simp only [pu]
          refine wpAnyH_take (i := 54) (oi := ⟨(some 57), _, _, _, _, _⟩) (v := undef) rfl (by kernel_rfl) (by kernel_rfl) (by kernel_rfl) (fun _ _ _ h => h) (Or.inr ⟨by rfl, rfl⟩) hHeld ?_
          try simp only [pu]
          refine wpAnyH_take (i := 55) (oi := ⟨(some 58), _, _, _, _, _⟩) (v := undef) rfl (by kernel_rfl) (by kernel_rfl) (by kernel_rfl) (fun _ _ _ h => h) (Or.inr ⟨by rfl, rfl⟩) hHeld ?_
          try simp only [pu]
          refine wpAnyH_take (i := 56) (oi := ⟨(some 59), _, _, _, _, _⟩) (v := .bool true) rfl (by kernel_rfl) (by kernel_rfl) (by kernel_rfl) (fun _ _ _ h => h) (Or.inl ⟨by rfl, ?yr1_56⟩) hHeld ?_
          case yr1_56 => (intro W0 hSw; go_simp; try with_reducible rfl)
          try simp only [pu]
          refine wpAnyH_take (i := 57) (oi := ⟨(some 60), _, _, _, _, _⟩) (v := .bool true) rfl (by kernel_rfl) (by kernel_rfl) (by kernel_rfl) (fun _ _ _ h => h) (Or.inl ⟨by rfl, ?yr1_57⟩) hHeld ?_
          case yr1_57 => (intro W0 hSw; go_simp; try with_reducible rfl)
          try simp only [pu]
          refine wpAnyH_take (i := 58) (oi := ⟨(some 61), _, _, _, _, _⟩) (v := undef) rfl (by kernel_rfl) (by kernel_rfl) (by kernel_rfl) (fun _ _ _ h => h) (Or.inr ⟨by rfl, rfl⟩) hHeld ?_
          try simp only [pu]
          refine wpAnyH_take (i := 59) (oi := ⟨(some 62), _, _, _, _, _⟩) (v := undef) rfl (by kernel_rfl) (by kernel_rfl) (by kernel_rfl) (fun _ _ _ h => h) (Or.inr ⟨by rfl, rfl⟩) hHeld ?_
          try simp only [pu]
          refine wpAnyH_take (i := 60) (oi := ⟨(some 63), _, _, _, _, _⟩) (v := undef) rfl (by kernel_rfl) (by kernel_rfl) (by kernel_rfl) (fun _ _ _ h => h) (Or.inr ⟨by rfl, rfl⟩) hHeld ?_
          try simp only [pu]
          refine wpAnyH_take (i := 61) (oi := ⟨(some 64), _, _, _, _, _⟩) (v := undef) rfl (by kernel_rfl) (by kernel_rfl) (by kernel_rfl) (fun _ _ _ h => h) (Or.inr ⟨by rfl, rfl⟩) hHeld ?_
          try simp only [pu]
          refine wpAnyH_take (i := 62) (oi := ⟨(some 65), _, _, _, _, _⟩) (v := .bool true) rfl (by kernel_rfl) (by kernel_rfl) (by kernel_rfl) (fun _ _ _ h => h) (Or.inl ⟨by rfl, ?yr1_62⟩) hHeld ?_
          case yr1_62 => (intro W0 hSw; go_simp; try with_reducible rfl)
          try simp only [pu]
          refine wpAnyH_done (by kernel_rfl) ?_ _
          go_wp2
          go_ret
          exact ⟨ret_bool (by rw [HG.out, decide_eq_false (fun h => by omega)]; simp), below_next hbW hbW.size hHeld⟩
        · skip
          obtain ⟨k, hkn⟩ : ∃ k : Nat, k = a.dev.toNat := ⟨_, rfl⟩
          have hk : a.dev = (k : Int) := by omega
          have HKN := vlt hkn
          clear hkn
          have hk8 : k < 8 := by omega
          have hw : IntKind.i64.wrap (a.num - 1) = a.num - 1 := by rw [IntKind.wrap_i64]; omega
          cases x1
          · skip
            refine wp_region_held_drew (S := fun W' => Below W.heap.size W W') (by kernel_rfl) ((Below.refl _ _).drew) (fun hHeld => ?_)
            refine wpAnyH_take (i := 0) (oi := ⟨(some 3), _, _, _, _, _⟩) (v := .pointer (some ⟨w.heap.size, 0, none⟩)) rfl (by kernel_rfl) (by kernel_rfl) (by kernel_rfl) (fun _ _ _ h => h) (Or.inl ⟨by rfl, ?yr1_0⟩) hHeld ?_
            case yr1_0 => (intro W0 hSw; go_simp; try with_reducible rfl)
            try simp only [pu]
            refine wpAnyH_take (i := 1) (oi := ⟨(some 4), _, _, _, _, _⟩) (v := .pointer (some ⟨w.heap.size, 0, none⟩)) rfl (by kernel_rfl) (by kernel_rfl) (by kernel_rfl) (fun _ _ _ h => h) (Or.inl ⟨by rfl, ?yr1_1⟩) hHeld ?_
            case yr1_1 => (intro W0 hSw; go_simp; try with_reducible rfl)
            try simp only [pu]
            refine wpAnyH_take (i := 2) (oi := ⟨(some 5), _, _, _, _, _⟩) (v := .int .i64 a.dev) rfl (by kernel_rfl) (by kernel_rfl) (by kernel_rfl) (fun _ _ _ h => h) (Or.inl ⟨by rfl, ?yr1_2⟩) hHeld ?_
            case yr1_2 => (intro W0 hSw; have cc := ed_dev (row_next2 hgA hSw); go_simp; try with_reducible rfl)
            try simp only [pu]
            refine wpAnyH_take (i := 3) (oi := ⟨(some 6), _, _, _, _, _⟩) (v := .bool false) rfl (by kernel_rfl) (by kernel_rfl) (by kernel_rfl) (fun _ _ _ h => h) (Or.inl ⟨by rfl, ?yr1_3⟩) hHeld ?_
            case yr1_3 => (intro W0 hSw; go_simp; (try simp [t0]); (try omega))
            try simp only [pu]
            refine wpAnyH_take (i := 4) (oi := ⟨(some 7), _, _, _, _, _⟩) (v := .bool false) rfl (by kernel_rfl) (by kernel_rfl) (by kernel_rfl) (fun _ _ _ h => h) (Or.inl ⟨by rfl, ?yr1_4⟩) hHeld ?_
            case yr1_4 => (intro W0 hSw; go_simp; try with_reducible rfl)
            try simp only [pu]
            refine wpAnyH_take (i := 5) (oi := ⟨(some 8), _, _, _, _, _⟩) (v := .pointer (some ⟨w.heap.size, 0, none⟩)) rfl (by kernel_rfl) (by kernel_rfl) (by kernel_rfl) (fun _ _ _ h => h) (Or.inl ⟨by rfl, ?yr1_5⟩) hHeld ?_
            case yr1_5 => (intro W0 hSw; go_simp; try with_reducible rfl)
            try simp only [pu]
            refine wpAnyH_take (i := 6) (oi := ⟨(some 9), _, _, _, _, _⟩) (v := .pointer (some ⟨w.heap.size, 0, none⟩)) rfl (by kernel_rfl) (by kernel_rfl) (by kernel_rfl) (fun _ _ _ h => h) (Or.inl ⟨by rfl, ?yr1_6⟩) hHeld ?_
            case yr1_6 => (intro W0 hSw; go_simp; try with_reducible rfl)
            try simp only [pu]
            refine wpAnyH_take (i := 7) (oi := ⟨(some 10), _, _, _, _, _⟩) (v := .int .i64 a.dev) rfl (by kernel_rfl) (by kernel_rfl) (by kernel_rfl) (fun _ _ _ h => h) (Or.inl ⟨by rfl, ?yr1_7⟩) hHeld ?_
            case yr1_7 => (intro W0 hSw; have cc := ed_dev (row_next2 hgA hSw); go_simp; try with_reducible rfl)
            try simp only [pu]
            refine wpAnyH_take (i := 8) (oi := ⟨(some 11), _, _, _, _, _⟩) (v := .bool false) rfl (by kernel_rfl) (by kernel_rfl) (by kernel_rfl) (fun _ _ _ h => h) (Or.inl ⟨by rfl, ?yr1_8⟩) hHeld ?_
            case yr1_8 => (intro W0 hSw; go_simp; (try simp [t1]); (try omega))
            try simp only [pu]
            refine wpAnyH_take (i := 9) (oi := ⟨(some 12), _, _, _, _, _⟩) (v := .bool false) rfl (by kernel_rfl) (by kernel_rfl) (by kernel_rfl) (fun _ _ _ h => h) (Or.inl ⟨by rfl, ?yr1_9⟩) hHeld ?_
            case yr1_9 => (intro W0 hSw; go_simp; try with_reducible rfl)
            try simp only [pu]
            refine wpAnyH_take (i := 10) (oi := ⟨(some 13), _, _, _, _, _⟩) (v := .bool false) rfl (by kernel_rfl) (by kernel_rfl) (by kernel_rfl) (fun _ _ _ h => h) (Or.inl ⟨by rfl, ?yr1_10⟩) hHeld ?_
            case yr1_10 => (intro W0 hSw; go_simp; try with_reducible rfl)
            try simp only [pu]
            refine wpAnyH_take (i := 11) (oi := ⟨(some 14), _, _, _, _, _⟩) (v := .pointer (some ⟨w.heap.size, 0, none⟩)) rfl (by kernel_rfl) (by kernel_rfl) (by kernel_rfl) (fun _ _ _ h => h) (Or.inl ⟨by rfl, ?yr1_11⟩) hHeld ?_
            case yr1_11 => (intro W0 hSw; go_simp; try with_reducible rfl)
            try simp only [pu]
            refine wpAnyH_take (i := 12) (oi := ⟨(some 15), _, _, _, _, _⟩) (v := .pointer (some ⟨w.heap.size, 1, none⟩)) rfl (by kernel_rfl) (by kernel_rfl) (by kernel_rfl) (fun _ _ _ h => h) (Or.inl ⟨by rfl, ?yr1_12⟩) hHeld ?_
            case yr1_12 => (intro W0 hSw; go_simp; try with_reducible rfl)
            try simp only [pu]
            refine wpAnyH_take (i := 13) (oi := ⟨(some 16), _, _, _, _, _⟩) (v := .int .i64 a.num) rfl (by kernel_rfl) (by kernel_rfl) (by kernel_rfl) (fun _ _ _ h => h) (Or.inl ⟨by rfl, ?yr1_13⟩) hHeld ?_
            case yr1_13 => (intro W0 hSw; have cc := ed_num (row_next2 hgA hSw); go_simp; try with_reducible rfl)
            try simp only [pu]
            refine wpAnyH_take (i := 14) (oi := ⟨(some 17), _, _, _, _, _⟩) (v := .bool false) rfl (by kernel_rfl) (by kernel_rfl) (by kernel_rfl) (fun _ _ _ h => h) (Or.inl ⟨by rfl, ?yr1_14⟩) hHeld ?_
            case yr1_14 => (intro W0 hSw; go_simp; (try simp [t2]); (try omega))
            try simp only [pu]
            refine wpAnyH_take (i := 15) (oi := ⟨(some 18), _, _, _, _, _⟩) (v := .bool false) rfl (by kernel_rfl) (by kernel_rfl) (by kernel_rfl) (fun _ _ _ h => h) (Or.inl ⟨by rfl, ?yr1_15⟩) hHeld ?_
            case yr1_15 => (intro W0 hSw; go_simp; try with_reducible rfl)
            try simp only [pu]
            refine wpAnyH_take (i := 16) (oi := ⟨(some 19), _, _, _, _, _⟩) (v := .bool false) rfl (by kernel_rfl) (by kernel_rfl) (by kernel_rfl) (fun _ _ _ h => h) (Or.inl ⟨by rfl, ?yr1_16⟩) hHeld ?_
            case yr1_16 => (intro W0 hSw; go_simp; try with_reducible rfl)
            try simp only [pu]
            refine wpAnyH_take (i := 17) (oi := ⟨(some 20), _, _, _, _, _⟩) (v := .pointer (some ⟨w.heap.size, 0, none⟩)) rfl (by kernel_rfl) (by kernel_rfl) (by kernel_rfl) (fun _ _ _ h => h) (Or.inl ⟨by rfl, ?yr1_17⟩) hHeld ?_
            case yr1_17 => (intro W0 hSw; go_simp; try with_reducible rfl)
            try simp only [pu]
            refine wpAnyH_take (i := 18) (oi := ⟨(some 21), _, _, _, _, _⟩) (v := .pointer (some ⟨w.heap.size, 1, none⟩)) rfl (by kernel_rfl) (by kernel_rfl) (by kernel_rfl) (fun _ _ _ h => h) (Or.inl ⟨by rfl, ?yr1_18⟩) hHeld ?_
            case yr1_18 => (intro W0 hSw; go_simp; try with_reducible rfl)
            try simp only [pu]
            refine wpAnyH_take (i := 19) (oi := ⟨(some 22), _, _, _, _, _⟩) (v := .int .i64 a.num) rfl (by kernel_rfl) (by kernel_rfl) (by kernel_rfl) (fun _ _ _ h => h) (Or.inl ⟨by rfl, ?yr1_19⟩) hHeld ?_
            case yr1_19 => (intro W0 hSw; have cc := ed_num (row_next2 hgA hSw); go_simp; try with_reducible rfl)
            try simp only [pu]
            refine wpAnyH_take (i := 20) (oi := ⟨(some 23), _, _, _, _, _⟩) (v := .bool false) rfl (by kernel_rfl) (by kernel_rfl) (by kernel_rfl) (fun _ _ _ h => h) (Or.inl ⟨by rfl, ?yr1_20⟩) hHeld ?_
            case yr1_20 => (intro W0 hSw; go_simp; (try simp [t3]); (try omega))
            try simp only [pu]
            refine wpAnyH_take (i := 21) (oi := ⟨(some 24), _, _, _, _, _⟩) (v := .bool false) rfl (by kernel_rfl) (by kernel_rfl) (by kernel_rfl) (fun _ _ _ h => h) (Or.inl ⟨by rfl, ?yr1_21⟩) hHeld ?_
            case yr1_21 => (intro W0 hSw; go_simp; try with_reducible rfl)
            try simp only [pu]
            refine wpAnyH_take (i := 22) (oi := ⟨(some 25), _, _, _, _, _⟩) (v := .bool false) rfl (by kernel_rfl) (by kernel_rfl) (by kernel_rfl) (fun _ _ _ h => h) (Or.inl ⟨by rfl, ?yr1_22⟩) hHeld ?_
            case yr1_22 => (intro W0 hSw; go_simp; try with_reducible rfl)
            try simp only [pu]
            refine wpAnyH_take (i := 23) (oi := ⟨(some 26), _, _, _, _, _⟩) (v := .pointer (some ⟨w.heap.size, 2, none⟩)) rfl (by kernel_rfl) (by kernel_rfl) (by kernel_rfl) (fun _ _ _ h => h) (Or.inl ⟨by rfl, ?yr1_23⟩) hHeld ?_
            case yr1_23 => (intro W0 hSw; go_simp; try with_reducible rfl)
            try simp only [pu]
            refine wpAnyH_take (i := 24) (oi := ⟨(some 27), _, _, _, _, _⟩) (v := .agg (i64v a.seen).toArray) rfl (by kernel_rfl) (by kernel_rfl) (by kernel_rfl) (fun _ _ _ h => h) (yieldsIf_load_mid (by rfl) _ _ rfl (w.heap.size) 2 rfl (i64v a.seen) _ (fun W' hW' => ed_seenR (row_next2 hgA hW')) (Try.underlying36) rfl (by rw [i64v_len, HA.out]; kernel_rfl)) hHeld ?_
            try simp only [pu]
            refine wpAnyH_ready (rs := [25]) (by kernel_rfl) (by simp) ?_
            refine AllReadyH.cons (i := 25) (o := ⟨(some 28), _, _, _, _, _⟩) rfl (fun K hK => ?_) AllReadyH.nil
            go_simp
            refine (d1 _).mono ?_
            rintro e r1W1 ⟨rfl, r1h1⟩
            refine hK.out _ _ (below_next hHeld hHeld.size r1h1) (fun hHeld => ?_)
            clear hK K r1h1
            try simp only [pu]
            refine wpAnyH_take (i := 26) (oi := ⟨(some 29), _, _, _, _, _⟩) (v := .bool true) rfl (by kernel_rfl) (by kernel_rfl) (by kernel_rfl) (fun _ _ _ h => h) (Or.inl ⟨by rfl, ?yr1_26⟩) hHeld ?_
            case yr1_26 => (intro W0 hSw; go_simp; try with_reducible rfl)
            try simp only [pu]
            refine wpAnyH_take (i := 27) (oi := ⟨(some 30), _, _, _, _, _⟩) (v := .bool true) rfl (by kernel_rfl) (by kernel_rfl) (by kernel_rfl) (fun _ _ _ h => h) (Or.inl ⟨by rfl, ?yr1_27⟩) hHeld ?_
            case yr1_27 => (intro W0 hSw; go_simp; try with_reducible rfl)
            try simp only [pu]
            refine wpAnyH_take (i := 28) (oi := ⟨(some 31), _, _, _, _, _⟩) (v := .bool true) rfl (by kernel_rfl) (by kernel_rfl) (by kernel_rfl) (fun _ _ _ h => h) (Or.inl ⟨by rfl, ?yr1_28⟩) hHeld ?_
            case yr1_28 => (intro W0 hSw; go_simp; try with_reducible rfl)
            try simp only [pu]
            refine wpAnyH_take (i := 29) (oi := ⟨(some 32), _, _, _, _, _⟩) (v := undef) rfl (by kernel_rfl) (by kernel_rfl) (by kernel_rfl) (fun _ _ _ h => h) (Or.inr ⟨by rfl, rfl⟩) hHeld ?_
            try simp only [pu]
            refine wpAnyH_take (i := 30) (oi := ⟨(some 33), _, _, _, _, _⟩) (v := undef) rfl (by kernel_rfl) (by kernel_rfl) (by kernel_rfl) (fun _ _ _ h => h) (Or.inr ⟨by rfl, rfl⟩) hHeld ?_
            try simp only [pu]
            refine wpAnyH_take (i := 31) (oi := ⟨(some 34), _, _, _, _, _⟩) (v := undef) rfl (by kernel_rfl) (by kernel_rfl) (by kernel_rfl) (fun _ _ _ h => h) (Or.inr ⟨by rfl, rfl⟩) hHeld ?_
            try simp only [pu]
            refine wpAnyH_take (i := 32) (oi := ⟨(some 35), _, _, _, _, _⟩) (v := undef) rfl (by kernel_rfl) (by kernel_rfl) (by kernel_rfl) (fun _ _ _ h => h) (Or.inr ⟨by rfl, rfl⟩) hHeld ?_
            try simp only [pu]
            refine wpAnyH_take (i := 33) (oi := ⟨(some 36), _, _, _, _, _⟩) (v := undef) rfl (by kernel_rfl) (by kernel_rfl) (by kernel_rfl) (fun _ _ _ h => h) (Or.inr ⟨by rfl, rfl⟩) hHeld ?_
            try simp only [pu]
            refine wpAnyH_take (i := 34) (oi := ⟨(some 37), _, _, _, _, _⟩) (v := undef) rfl (by kernel_rfl) (by kernel_rfl) (by kernel_rfl) (fun _ _ _ h => h) (Or.inr ⟨by rfl, rfl⟩) hHeld ?_
            try simp only [pu]
            refine wpAnyH_take (i := 35) (oi := ⟨(some 38), _, _, _, _, _⟩) (v := undef) rfl (by kernel_rfl) (by kernel_rfl) (by kernel_rfl) (fun _ _ _ h => h) (Or.inr ⟨by rfl, rfl⟩) hHeld ?_
            try simp only [pu]
            refine wpAnyH_take (i := 36) (oi := ⟨(some 39), _, _, _, _, _⟩) (v := undef) rfl (by kernel_rfl) (by kernel_rfl) (by kernel_rfl) (fun _ _ _ h => h) (Or.inr ⟨by rfl, rfl⟩) hHeld ?_
            try simp only [pu]
            refine wpAnyH_take (i := 37) (oi := ⟨(some 40), _, _, _, _, _⟩) (v := undef) rfl (by kernel_rfl) (by kernel_rfl) (by kernel_rfl) (fun _ _ _ h => h) (Or.inr ⟨by rfl, rfl⟩) hHeld ?_
            try simp only [pu]
            refine wpAnyH_take (i := 38) (oi := ⟨(some 41), _, _, _, _, _⟩) (v := undef) rfl (by kernel_rfl) (by kernel_rfl) (by kernel_rfl) (fun _ _ _ h => h) (Or.inr ⟨by rfl, rfl⟩) hHeld ?_
            try simp only [pu]
            refine wpAnyH_take (i := 39) (oi := ⟨(some 42), _, _, _, _, _⟩) (v := undef) rfl (by kernel_rfl) (by kernel_rfl) (by kernel_rfl) (fun _ _ _ h => h) (Or.inr ⟨by rfl, rfl⟩) hHeld ?_
            try simp only [pu]
            refine wpAnyH_take (i := 40) (oi := ⟨(some 43), _, _, _, _, _⟩) (v := .bool true) rfl (by kernel_rfl) (by kernel_rfl) (by kernel_rfl) (fun _ _ _ h => h) (Or.inl ⟨by rfl, ?yr1_40⟩) hHeld ?_
            case yr1_40 => (intro W0 hSw; go_simp; try with_reducible rfl)
            try simp only [pu]
            refine wpAnyH_take (i := 41) (oi := ⟨(some 44), _, _, _, _, _⟩) (v := .bool true) rfl (by kernel_rfl) (by kernel_rfl) (by kernel_rfl) (fun _ _ _ h => h) (Or.inl ⟨by rfl, ?yr1_41⟩) hHeld ?_
            case yr1_41 => (intro W0 hSw; go_simp; try with_reducible rfl)
            try simp only [pu]
            refine wpAnyH_take (i := 42) (oi := ⟨(some 45), _, _, _, _, _⟩) (v := undef) rfl (by kernel_rfl) (by kernel_rfl) (by kernel_rfl) (fun _ _ _ h => h) (Or.inr ⟨by rfl, rfl⟩) hHeld ?_
            try simp only [pu]
            refine wpAnyH_take (i := 43) (oi := ⟨(some 46), _, _, _, _, _⟩) (v := undef) rfl (by kernel_rfl) (by kernel_rfl) (by kernel_rfl) (fun _ _ _ h => h) (Or.inr ⟨by rfl, rfl⟩) hHeld ?_
            try simp only [pu]
            refine wpAnyH_take (i := 44) (oi := ⟨(some 47), _, _, _, _, _⟩) (v := undef) rfl (by kernel_rfl) (by kernel_rfl) (by kernel_rfl) (fun _ _ _ h => h) (Or.inr ⟨by rfl, rfl⟩) hHeld ?_
            try simp only [pu]
            refine wpAnyH_take (i := 45) (oi := ⟨(some 48), _, _, _, _, _⟩) (v := .bool true) rfl (by kernel_rfl) (by kernel_rfl) (by kernel_rfl) (fun _ _ _ h => h) (Or.inl ⟨by rfl, ?yr1_45⟩) hHeld ?_
            case yr1_45 => (intro W0 hSw; go_simp; try with_reducible rfl)
            try simp only [pu]
            refine wpAnyH_take (i := 46) (oi := ⟨(some 49), _, _, _, _, _⟩) (v := .bool true) rfl (by kernel_rfl) (by kernel_rfl) (by kernel_rfl) (fun _ _ _ h => h) (Or.inl ⟨by rfl, ?yr1_46⟩) hHeld ?_
            case yr1_46 => (intro W0 hSw; go_simp; try with_reducible rfl)
            try simp only [pu]
            refine wpAnyH_take (i := 47) (oi := ⟨(some 50), _, _, _, _, _⟩) (v := undef) rfl (by kernel_rfl) (by kernel_rfl) (by kernel_rfl) (fun _ _ _ h => h) (Or.inr ⟨by rfl, rfl⟩) hHeld ?_
            try simp only [pu]
            refine wpAnyH_take (i := 48) (oi := ⟨(some 51), _, _, _, _, _⟩) (v := undef) rfl (by kernel_rfl) (by kernel_rfl) (by kernel_rfl) (fun _ _ _ h => h) (Or.inr ⟨by rfl, rfl⟩) hHeld ?_
            try simp only [pu]
            refine wpAnyH_take (i := 49) (oi := ⟨(some 52), _, _, _, _, _⟩) (v := undef) rfl (by kernel_rfl) (by kernel_rfl) (by kernel_rfl) (fun _ _ _ h => h) (Or.inr ⟨by rfl, rfl⟩) hHeld ?_
            try simp only [pu]
            refine wpAnyH_take (i := 50) (oi := ⟨(some 53), _, _, _, _, _⟩) (v := .bool true) rfl (by kernel_rfl) (by kernel_rfl) (by kernel_rfl) (fun _ _ _ h => h) (Or.inl ⟨by rfl, ?yr1_50⟩) hHeld ?_
            case yr1_50 => (intro W0 hSw; go_simp; try with_reducible rfl)
            try simp only [pu]
            refine wpAnyH_take (i := 51) (oi := ⟨(some 54), _, _, _, _, _⟩) (v := .bool true) rfl (by kernel_rfl) (by kernel_rfl) (by kernel_rfl) (fun _ _ _ h => h) (Or.inl ⟨by rfl, ?yr1_51⟩) hHeld ?_
            case yr1_51 => (intro W0 hSw; go_simp; try with_reducible rfl)
            try simp only [pu]
            refine wpAnyH_take (i := 52) (oi := ⟨(some 55), _, _, _, _, _⟩) (v := undef) rfl (by kernel_rfl) (by kernel_rfl) (by kernel_rfl) (fun _ _ _ h => h) (Or.inr ⟨by rfl, rfl⟩) hHeld ?_
            try simp only [pu]
            refine wpAnyH_take (i := 53) (oi := ⟨(some 56), _, _, _, _, _⟩) (v := undef) rfl (by kernel_rfl) (by kernel_rfl) (by kernel_rfl) (fun _ _ _ h => h) (Or.inr ⟨by rfl, rfl⟩) hHeld ?_
            try simp only [pu]
            refine wpAnyH_take (i := 54) (oi := ⟨(some 57), _, _, _, _, _⟩) (v := undef) rfl (by kernel_rfl) (by kernel_rfl) (by kernel_rfl) (fun _ _ _ h => h) (Or.inr ⟨by rfl, rfl⟩) hHeld ?_
            try simp only [pu]
            refine wpAnyH_take (i := 55) (oi := ⟨(some 58), _, _, _, _, _⟩) (v := undef) rfl (by kernel_rfl) (by kernel_rfl) (by kernel_rfl) (fun _ _ _ h => h) (Or.inr ⟨by rfl, rfl⟩) hHeld ?_
            try simp only [pu]
            refine wpAnyH_take (i := 56) (oi := ⟨(some 59), _, _, _, _, _⟩) (v := .bool true) rfl (by kernel_rfl) (by kernel_rfl) (by kernel_rfl) (fun _ _ _ h => h) (Or.inl ⟨by rfl, ?yr1_56⟩) hHeld ?_
            case yr1_56 => (intro W0 hSw; go_simp; try with_reducible rfl)
            try simp only [pu]
            refine wpAnyH_take (i := 57) (oi := ⟨(some 60), _, _, _, _, _⟩) (v := .bool true) rfl (by kernel_rfl) (by kernel_rfl) (by kernel_rfl) (fun _ _ _ h => h) (Or.inl ⟨by rfl, ?yr1_57⟩) hHeld ?_
            case yr1_57 => (intro W0 hSw; go_simp; try with_reducible rfl)
            try simp only [pu]
            refine wpAnyH_take (i := 58) (oi := ⟨(some 61), _, _, _, _, _⟩) (v := undef) rfl (by kernel_rfl) (by kernel_rfl) (by kernel_rfl) (fun _ _ _ h => h) (Or.inr ⟨by rfl, rfl⟩) hHeld ?_
            try simp only [pu]
            refine wpAnyH_take (i := 59) (oi := ⟨(some 62), _, _, _, _, _⟩) (v := undef) rfl (by kernel_rfl) (by kernel_rfl) (by kernel_rfl) (fun _ _ _ h => h) (Or.inr ⟨by rfl, rfl⟩) hHeld ?_
            try simp only [pu]
            refine wpAnyH_take (i := 60) (oi := ⟨(some 63), _, _, _, _, _⟩) (v := undef) rfl (by kernel_rfl) (by kernel_rfl) (by kernel_rfl) (fun _ _ _ h => h) (Or.inr ⟨by rfl, rfl⟩) hHeld ?_
            try simp only [pu]
            refine wpAnyH_take (i := 61) (oi := ⟨(some 64), _, _, _, _, _⟩) (v := undef) rfl (by kernel_rfl) (by kernel_rfl) (by kernel_rfl) (fun _ _ _ h => h) (Or.inr ⟨by rfl, rfl⟩) hHeld ?_
            try simp only [pu]
            refine wpAnyH_take (i := 62) (oi := ⟨(some 65), _, _, _, _, _⟩) (v := .bool true) rfl (by kernel_rfl) (by kernel_rfl) (by kernel_rfl) (fun _ _ _ h => h) (Or.inl ⟨by rfl, ?yr1_62⟩) hHeld ?_
            case yr1_62 => (intro W0 hSw; go_simp; try with_reducible rfl)
            try simp only [pu]
            refine wpAnyH_done (by kernel_rfl) ?_ _
            go_wp2
            go_ret
            exact ⟨ret_bool (by rw [HG.out]; simp), below_next hbW hbW.size hHeld⟩
          · skip
            by_cases t5 : iat a.seen k = a.num - 1
            · have t5z : iat a.seen a.dev.toNat = a.num - 1 := by rw [← HKN.out]; exact t5
              by_cases t6 : a.time < 0
              · skip
                refine wp_region_held_drew (S := fun W' => Below W.heap.size W W') (by kernel_rfl) ((Below.refl _ _).drew) (fun hHeld => ?_)
                refine wpAnyH_take (i := 0) (oi := ⟨(some 3), _, _, _, _, _⟩) (v := .pointer (some ⟨w.heap.size, 0, none⟩)) rfl (by kernel_rfl) (by kernel_rfl) (by kernel_rfl) (fun _ _ _ h => h) (Or.inl ⟨by rfl, ?yr1_0⟩) hHeld ?_
                case yr1_0 => (intro W0 hSw; go_simp; try with_reducible rfl)
                try simp only [pu]
                refine wpAnyH_take (i := 1) (oi := ⟨(some 4), _, _, _, _, _⟩) (v := .pointer (some ⟨w.heap.size, 0, none⟩)) rfl (by kernel_rfl) (by kernel_rfl) (by kernel_rfl) (fun _ _ _ h => h) (Or.inl ⟨by rfl, ?yr1_1⟩) hHeld ?_
                case yr1_1 => (intro W0 hSw; go_simp; try with_reducible rfl)
                try simp only [pu]
                refine wpAnyH_take (i := 2) (oi := ⟨(some 5), _, _, _, _, _⟩) (v := .int .i64 a.dev) rfl (by kernel_rfl) (by kernel_rfl) (by kernel_rfl) (fun _ _ _ h => h) (Or.inl ⟨by rfl, ?yr1_2⟩) hHeld ?_
                case yr1_2 => (intro W0 hSw; have cc := ed_dev (row_next2 hgA hSw); go_simp; try with_reducible rfl)
                try simp only [pu]
                refine wpAnyH_take (i := 3) (oi := ⟨(some 6), _, _, _, _, _⟩) (v := .bool false) rfl (by kernel_rfl) (by kernel_rfl) (by kernel_rfl) (fun _ _ _ h => h) (Or.inl ⟨by rfl, ?yr1_3⟩) hHeld ?_
                case yr1_3 => (intro W0 hSw; go_simp; (try simp [t0]); (try omega))
                try simp only [pu]
                refine wpAnyH_take (i := 4) (oi := ⟨(some 7), _, _, _, _, _⟩) (v := .bool false) rfl (by kernel_rfl) (by kernel_rfl) (by kernel_rfl) (fun _ _ _ h => h) (Or.inl ⟨by rfl, ?yr1_4⟩) hHeld ?_
                case yr1_4 => (intro W0 hSw; go_simp; try with_reducible rfl)
                try simp only [pu]
                refine wpAnyH_take (i := 5) (oi := ⟨(some 8), _, _, _, _, _⟩) (v := .pointer (some ⟨w.heap.size, 0, none⟩)) rfl (by kernel_rfl) (by kernel_rfl) (by kernel_rfl) (fun _ _ _ h => h) (Or.inl ⟨by rfl, ?yr1_5⟩) hHeld ?_
                case yr1_5 => (intro W0 hSw; go_simp; try with_reducible rfl)
                try simp only [pu]
                refine wpAnyH_take (i := 6) (oi := ⟨(some 9), _, _, _, _, _⟩) (v := .pointer (some ⟨w.heap.size, 0, none⟩)) rfl (by kernel_rfl) (by kernel_rfl) (by kernel_rfl) (fun _ _ _ h => h) (Or.inl ⟨by rfl, ?yr1_6⟩) hHeld ?_
                case yr1_6 => (intro W0 hSw; go_simp; try with_reducible rfl)
                try simp only [pu]
                refine wpAnyH_take (i := 7) (oi := ⟨(some 10), _, _, _, _, _⟩) (v := .int .i64 a.dev) rfl (by kernel_rfl) (by kernel_rfl) (by kernel_rfl) (fun _ _ _ h => h) (Or.inl ⟨by rfl, ?yr1_7⟩) hHeld ?_
                case yr1_7 => (intro W0 hSw; have cc := ed_dev (row_next2 hgA hSw); go_simp; try with_reducible rfl)
                try simp only [pu]
                refine wpAnyH_take (i := 8) (oi := ⟨(some 11), _, _, _, _, _⟩) (v := .bool false) rfl (by kernel_rfl) (by kernel_rfl) (by kernel_rfl) (fun _ _ _ h => h) (Or.inl ⟨by rfl, ?yr1_8⟩) hHeld ?_
                case yr1_8 => (intro W0 hSw; go_simp; (try simp [t1]); (try omega))
                try simp only [pu]
                refine wpAnyH_take (i := 9) (oi := ⟨(some 12), _, _, _, _, _⟩) (v := .bool false) rfl (by kernel_rfl) (by kernel_rfl) (by kernel_rfl) (fun _ _ _ h => h) (Or.inl ⟨by rfl, ?yr1_9⟩) hHeld ?_
                case yr1_9 => (intro W0 hSw; go_simp; try with_reducible rfl)
                try simp only [pu]
                refine wpAnyH_take (i := 10) (oi := ⟨(some 13), _, _, _, _, _⟩) (v := .bool false) rfl (by kernel_rfl) (by kernel_rfl) (by kernel_rfl) (fun _ _ _ h => h) (Or.inl ⟨by rfl, ?yr1_10⟩) hHeld ?_
                case yr1_10 => (intro W0 hSw; go_simp; try with_reducible rfl)
                try simp only [pu]
                refine wpAnyH_take (i := 11) (oi := ⟨(some 14), _, _, _, _, _⟩) (v := .pointer (some ⟨w.heap.size, 0, none⟩)) rfl (by kernel_rfl) (by kernel_rfl) (by kernel_rfl) (fun _ _ _ h => h) (Or.inl ⟨by rfl, ?yr1_11⟩) hHeld ?_
                case yr1_11 => (intro W0 hSw; go_simp; try with_reducible rfl)
                try simp only [pu]
                refine wpAnyH_take (i := 12) (oi := ⟨(some 15), _, _, _, _, _⟩) (v := .pointer (some ⟨w.heap.size, 1, none⟩)) rfl (by kernel_rfl) (by kernel_rfl) (by kernel_rfl) (fun _ _ _ h => h) (Or.inl ⟨by rfl, ?yr1_12⟩) hHeld ?_
                case yr1_12 => (intro W0 hSw; go_simp; try with_reducible rfl)
                try simp only [pu]
                refine wpAnyH_take (i := 13) (oi := ⟨(some 16), _, _, _, _, _⟩) (v := .int .i64 a.num) rfl (by kernel_rfl) (by kernel_rfl) (by kernel_rfl) (fun _ _ _ h => h) (Or.inl ⟨by rfl, ?yr1_13⟩) hHeld ?_
                case yr1_13 => (intro W0 hSw; have cc := ed_num (row_next2 hgA hSw); go_simp; try with_reducible rfl)
                try simp only [pu]
                refine wpAnyH_take (i := 14) (oi := ⟨(some 17), _, _, _, _, _⟩) (v := .bool false) rfl (by kernel_rfl) (by kernel_rfl) (by kernel_rfl) (fun _ _ _ h => h) (Or.inl ⟨by rfl, ?yr1_14⟩) hHeld ?_
                case yr1_14 => (intro W0 hSw; go_simp; (try simp [t2]); (try omega))
                try simp only [pu]
                refine wpAnyH_take (i := 15) (oi := ⟨(some 18), _, _, _, _, _⟩) (v := .bool false) rfl (by kernel_rfl) (by kernel_rfl) (by kernel_rfl) (fun _ _ _ h => h) (Or.inl ⟨by rfl, ?yr1_15⟩) hHeld ?_
                case yr1_15 => (intro W0 hSw; go_simp; try with_reducible rfl)
                try simp only [pu]
                refine wpAnyH_take (i := 16) (oi := ⟨(some 19), _, _, _, _, _⟩) (v := .bool false) rfl (by kernel_rfl) (by kernel_rfl) (by kernel_rfl) (fun _ _ _ h => h) (Or.inl ⟨by rfl, ?yr1_16⟩) hHeld ?_
                case yr1_16 => (intro W0 hSw; go_simp; try with_reducible rfl)
                try simp only [pu]
                refine wpAnyH_take (i := 17) (oi := ⟨(some 20), _, _, _, _, _⟩) (v := .pointer (some ⟨w.heap.size, 0, none⟩)) rfl (by kernel_rfl) (by kernel_rfl) (by kernel_rfl) (fun _ _ _ h => h) (Or.inl ⟨by rfl, ?yr1_17⟩) hHeld ?_
                case yr1_17 => (intro W0 hSw; go_simp; try with_reducible rfl)
                try simp only [pu]
                refine wpAnyH_take (i := 18) (oi := ⟨(some 21), _, _, _, _, _⟩) (v := .pointer (some ⟨w.heap.size, 1, none⟩)) rfl (by kernel_rfl) (by kernel_rfl) (by kernel_rfl) (fun _ _ _ h => h) (Or.inl ⟨by rfl, ?yr1_18⟩) hHeld ?_
                case yr1_18 => (intro W0 hSw; go_simp; try with_reducible rfl)
                try simp only [pu]
                refine wpAnyH_take (i := 19) (oi := ⟨(some 22), _, _, _, _, _⟩) (v := .int .i64 a.num) rfl (by kernel_rfl) (by kernel_rfl) (by kernel_rfl) (fun _ _ _ h => h) (Or.inl ⟨by rfl, ?yr1_19⟩) hHeld ?_
                case yr1_19 => (intro W0 hSw; have cc := ed_num (row_next2 hgA hSw); go_simp; try with_reducible rfl)
                try simp only [pu]
                refine wpAnyH_take (i := 20) (oi := ⟨(some 23), _, _, _, _, _⟩) (v := .bool false) rfl (by kernel_rfl) (by kernel_rfl) (by kernel_rfl) (fun _ _ _ h => h) (Or.inl ⟨by rfl, ?yr1_20⟩) hHeld ?_
                case yr1_20 => (intro W0 hSw; go_simp; (try simp [t3]); (try omega))
                try simp only [pu]
                refine wpAnyH_take (i := 21) (oi := ⟨(some 24), _, _, _, _, _⟩) (v := .bool false) rfl (by kernel_rfl) (by kernel_rfl) (by kernel_rfl) (fun _ _ _ h => h) (Or.inl ⟨by rfl, ?yr1_21⟩) hHeld ?_
                case yr1_21 => (intro W0 hSw; go_simp; try with_reducible rfl)
                try simp only [pu]
                refine wpAnyH_take (i := 22) (oi := ⟨(some 25), _, _, _, _, _⟩) (v := .bool false) rfl (by kernel_rfl) (by kernel_rfl) (by kernel_rfl) (fun _ _ _ h => h) (Or.inl ⟨by rfl, ?yr1_22⟩) hHeld ?_
                case yr1_22 => (intro W0 hSw; go_simp; try with_reducible rfl)
                try simp only [pu]
                refine wpAnyH_take (i := 23) (oi := ⟨(some 26), _, _, _, _, _⟩) (v := .pointer (some ⟨w.heap.size, 2, none⟩)) rfl (by kernel_rfl) (by kernel_rfl) (by kernel_rfl) (fun _ _ _ h => h) (Or.inl ⟨by rfl, ?yr1_23⟩) hHeld ?_
                case yr1_23 => (intro W0 hSw; go_simp; try with_reducible rfl)
                try simp only [pu]
                refine wpAnyH_take (i := 24) (oi := ⟨(some 27), _, _, _, _, _⟩) (v := .agg (i64v a.seen).toArray) rfl (by kernel_rfl) (by kernel_rfl) (by kernel_rfl) (fun _ _ _ h => h) (yieldsIf_load_mid (by rfl) _ _ rfl (w.heap.size) 2 rfl (i64v a.seen) _ (fun W' hW' => ed_seenR (row_next2 hgA hW')) (Try.underlying36) rfl (by rw [i64v_len, HA.out]; kernel_rfl)) hHeld ?_
                try simp only [pu]
                refine wpAnyH_ready (rs := [25]) (by kernel_rfl) (by simp) ?_
                refine AllReadyH.cons (i := 25) (o := ⟨(some 28), _, _, _, _, _⟩) rfl (fun K hK => ?_) AllReadyH.nil
                go_simp
                refine (d1 _).mono ?_
                rintro e r1W1 ⟨rfl, r1h1⟩
                refine hK.out _ _ (below_next hHeld hHeld.size r1h1) (fun hHeld => ?_)
                clear hK K r1h1
                try simp only [pu]
                refine wpAnyH_take (i := 26) (oi := ⟨(some 29), _, _, _, _, _⟩) (v := .bool false) rfl (by kernel_rfl) (by kernel_rfl) (by kernel_rfl) (fun _ _ _ h => h) (Or.inl ⟨by rfl, ?yr1_26⟩) hHeld ?_
                case yr1_26 => (intro W0 hSw; go_simp; try with_reducible rfl)
                try simp only [pu]
                refine wpAnyH_take (i := 27) (oi := ⟨(some 30), _, _, _, _, _⟩) (v := .bool false) rfl (by kernel_rfl) (by kernel_rfl) (by kernel_rfl) (fun _ _ _ h => h) (Or.inl ⟨by rfl, ?yr1_27⟩) hHeld ?_
                case yr1_27 => (intro W0 hSw; go_simp; try with_reducible rfl)
                try simp only [pu]
                refine wpAnyH_take (i := 28) (oi := ⟨(some 31), _, _, _, _, _⟩) (v := .bool false) rfl (by kernel_rfl) (by kernel_rfl) (by kernel_rfl) (fun _ _ _ h => h) (Or.inl ⟨by rfl, ?yr1_28⟩) hHeld ?_
                case yr1_28 => (intro W0 hSw; go_simp; try with_reducible rfl)
                try simp only [pu]
                refine wpAnyH_take (i := 29) (oi := ⟨(some 32), _, _, _, _, _⟩) (v := .pointer (some ⟨w.heap.size, 0, none⟩)) rfl (by kernel_rfl) (by kernel_rfl) (by kernel_rfl) (fun _ _ _ h => h) (Or.inl ⟨by rfl, ?yr1_29⟩) hHeld ?_
                case yr1_29 => (intro W0 hSw; go_simp; try with_reducible rfl)
                try simp only [pu]
                refine wpAnyH_take (i := 30) (oi := ⟨(some 33), _, _, _, _, _⟩) (v := .pointer (some ⟨w.heap.size, 0, none⟩)) rfl (by kernel_rfl) (by kernel_rfl) (by kernel_rfl) (fun _ _ _ h => h) (Or.inl ⟨by rfl, ?yr1_30⟩) hHeld ?_
                case yr1_30 => (intro W0 hSw; go_simp; try with_reducible rfl)
                try simp only [pu]
                refine wpAnyH_take (i := 31) (oi := ⟨(some 34), _, _, _, _, _⟩) (v := .int .i64 a.dev) rfl (by kernel_rfl) (by kernel_rfl) (by kernel_rfl) (fun _ _ _ h => h) (Or.inl ⟨by rfl, ?yr1_31⟩) hHeld ?_
                case yr1_31 => (intro W0 hSw; have cc := ed_dev (row_next2 hgA hSw); go_simp; try with_reducible rfl)
                try simp only [pu]
                refine wpAnyH_take (i := 32) (oi := ⟨(some 35), _, _, _, _, _⟩) (v := .pointer (some ⟨w.heap.size, 2, none⟩)) rfl (by kernel_rfl) (by kernel_rfl) (by kernel_rfl) (fun _ _ _ h => h) (Or.inl ⟨by rfl, ?yr1_32⟩) hHeld ?_
                case yr1_32 => (intro W0 hSw; go_simp; try with_reducible rfl)
                try simp only [pu]
                refine wpAnyH_take (i := 33) (oi := ⟨(some 36), _, _, _, _, _⟩) (v := .pointer (some ⟨w.heap.size, 2 + k, none⟩)) rfl (by kernel_rfl) (by kernel_rfl) (by kernel_rfl) (fun _ _ _ h => h) (Or.inl ⟨by rfl, ?yr1_33⟩) hHeld ?_
                case yr1_33 => (intro W0 hSw; skip; go_simp; try (intro hc; omega))
                try simp only [pu]
                refine wpAnyH_take (i := 34) (oi := ⟨(some 37), _, _, _, _, _⟩) (v := .int .i64 (iat a.seen k)) rfl (by kernel_rfl) (by kernel_rfl) (by kernel_rfl) (fun _ _ _ h => h) (Or.inl ⟨by rfl, ?yr1_34⟩) hHeld ?_
                case yr1_34 => (intro W0 hSw; have cc := ed_seen (row_next2 hgA hSw) k (by rw [HA.out]; omega); go_simp; try with_reducible rfl)
                try simp only [pu]
                refine wpAnyH_take (i := 35) (oi := ⟨(some 38), _, _, _, _, _⟩) (v := .pointer (some ⟨w.heap.size, 0, none⟩)) rfl (by kernel_rfl) (by kernel_rfl) (by kernel_rfl) (fun _ _ _ h => h) (Or.inl ⟨by rfl, ?yr1_35⟩) hHeld ?_
                case yr1_35 => (intro W0 hSw; go_simp; try with_reducible rfl)
                try simp only [pu]
                refine wpAnyH_take (i := 36) (oi := ⟨(some 39), _, _, _, _, _⟩) (v := .pointer (some ⟨w.heap.size, 1, none⟩)) rfl (by kernel_rfl) (by kernel_rfl) (by kernel_rfl) (fun _ _ _ h => h) (Or.inl ⟨by rfl, ?yr1_36⟩) hHeld ?_
                case yr1_36 => (intro W0 hSw; go_simp; try with_reducible rfl)
                try simp only [pu]
                refine wpAnyH_take (i := 37) (oi := ⟨(some 40), _, _, _, _, _⟩) (v := .int .i64 a.num) rfl (by kernel_rfl) (by kernel_rfl) (by kernel_rfl) (fun _ _ _ h => h) (Or.inl ⟨by rfl, ?yr1_37⟩) hHeld ?_
                case yr1_37 => (intro W0 hSw; have cc := ed_num (row_next2 hgA hSw); go_simp; try with_reducible rfl)
                try simp only [pu]
                refine wpAnyH_take (i := 38) (oi := ⟨(some 41), _, _, _, _, _⟩) (v := .int .i64 (a.num - 1)) rfl (by kernel_rfl) (by kernel_rfl) (by kernel_rfl) (fun _ _ _ h => h) (Or.inl ⟨by rfl, ?yr1_38⟩) hHeld ?_
                case yr1_38 => (intro W0 hSw; go_simp; try simp only [hw]; try with_reducible rfl)
                try simp only [pu]
                refine wpAnyH_take (i := 39) (oi := ⟨(some 42), _, _, _, _, _⟩) (v := .bool false) rfl (by kernel_rfl) (by kernel_rfl) (by kernel_rfl) (fun _ _ _ h => h) (Or.inl ⟨by rfl, ?yr1_39⟩) hHeld ?_
                case yr1_39 => (intro W0 hSw; go_simp; (try simp [t5]); (try omega))
                try simp only [pu]
                refine wpAnyH_take (i := 40) (oi := ⟨(some 43), _, _, _, _, _⟩) (v := .bool false) rfl (by kernel_rfl) (by kernel_rfl) (by kernel_rfl) (fun _ _ _ h => h) (Or.inl ⟨by rfl, ?yr1_40⟩) hHeld ?_
                case yr1_40 => (intro W0 hSw; go_simp; try with_reducible rfl)
                try simp only [pu]
                refine wpAnyH_take (i := 41) (oi := ⟨(some 44), _, _, _, _, _⟩) (v := .bool false) rfl (by kernel_rfl) (by kernel_rfl) (by kernel_rfl) (fun _ _ _ h => h) (Or.inl ⟨by rfl, ?yr1_41⟩) hHeld ?_
                case yr1_41 => (intro W0 hSw; go_simp; try with_reducible rfl)
                try simp only [pu]
                refine wpAnyH_take (i := 42) (oi := ⟨(some 45), _, _, _, _, _⟩) (v := .pointer (some ⟨w.heap.size, 14, none⟩)) rfl (by kernel_rfl) (by kernel_rfl) (by kernel_rfl) (fun _ _ _ h => h) (Or.inl ⟨by rfl, ?yr1_42⟩) hHeld ?_
                case yr1_42 => (intro W0 hSw; go_simp; try with_reducible rfl)
                try simp only [pu]
                refine wpAnyH_take (i := 43) (oi := ⟨(some 46), _, _, _, _, _⟩) (v := .int .i64 a.time) rfl (by kernel_rfl) (by kernel_rfl) (by kernel_rfl) (fun _ _ _ h => h) (Or.inl ⟨by rfl, ?yr1_43⟩) hHeld ?_
                case yr1_43 => (intro W0 hSw; have cc := ed_time (row_next2 hgA hSw) HA.out; go_simp; try with_reducible rfl)
                try simp only [pu]
                refine wpAnyH_take (i := 44) (oi := ⟨(some 47), _, _, _, _, _⟩) (v := .bool true) rfl (by kernel_rfl) (by kernel_rfl) (by kernel_rfl) (fun _ _ _ h => h) (Or.inl ⟨by rfl, ?yr1_44⟩) hHeld ?_
                case yr1_44 => (intro W0 hSw; go_simp; (try simp [t6]); (try omega))
                try simp only [pu]
                refine wpAnyH_take (i := 45) (oi := ⟨(some 48), _, _, _, _, _⟩) (v := .bool true) rfl (by kernel_rfl) (by kernel_rfl) (by kernel_rfl) (fun _ _ _ h => h) (Or.inl ⟨by rfl, ?yr1_45⟩) hHeld ?_
                case yr1_45 => (intro W0 hSw; go_simp; try with_reducible rfl)
                try simp only [pu]
                refine wpAnyH_take (i := 46) (oi := ⟨(some 49), _, _, _, _, _⟩) (v := .bool true) rfl (by kernel_rfl) (by kernel_rfl) (by kernel_rfl) (fun _ _ _ h => h) (Or.inl ⟨by rfl, ?yr1_46⟩) hHeld ?_
                case yr1_46 => (intro W0 hSw; go_simp; try with_reducible rfl)
                try simp only [pu]
                refine wpAnyH_take (i := 47) (oi := ⟨(some 50), _, _, _, _, _⟩) (v := undef) rfl (by kernel_rfl) (by kernel_rfl) (by kernel_rfl) (fun _ _ _ h => h) (Or.inr ⟨by rfl, rfl⟩) hHeld ?_
                try simp only [pu]
                refine wpAnyH_take (i := 48) (oi := ⟨(some 51), _, _, _, _, _⟩) (v := undef) rfl (by kernel_rfl) (by kernel_rfl) (by kernel_rfl) (fun _ _ _ h => h) (Or.inr ⟨by rfl, rfl⟩) hHeld ?_
                try simp only [pu]
                refine wpAnyH_take (i := 49) (oi := ⟨(some 52), _, _, _, _, _⟩) (v := undef) rfl (by kernel_rfl) (by kernel_rfl) (by kernel_rfl) (fun _ _ _ h => h) (Or.inr ⟨by rfl, rfl⟩) hHeld ?_
                try simp only [pu]
                refine wpAnyH_take (i := 50) (oi := ⟨(some 53), _, _, _, _, _⟩) (v := .bool true) rfl (by kernel_rfl) (by kernel_rfl) (by kernel_rfl) (fun _ _ _ h => h) (Or.inl ⟨by rfl, ?yr1_50⟩) hHeld ?_
                case yr1_50 => (intro W0 hSw; go_simp; try with_reducible rfl)
                try simp only [pu]
                refine wpAnyH_take (i := 51) (oi := ⟨(some 54), _, _, _, _, _⟩) (v := .bool true) rfl (by kernel_rfl) (by kernel_rfl) (by kernel_rfl) (fun _ _ _ h => h) (Or.inl ⟨by rfl, ?yr1_51⟩) hHeld ?_
                case yr1_51 => (intro W0 hSw; go_simp; try with_reducible rfl)
                try simp only [pu]
                refine wpAnyH_take (i := 52) (oi := ⟨(some 55), _, _, _, _, _⟩) (v := undef) rfl (by kernel_rfl) (by kernel_rfl) (by kernel_rfl) (fun _ _ _ h => h) (Or.inr ⟨by rfl, rfl⟩) hHeld ?_
                try simp only [pu]
                refine wpAnyH_take (i := 53) (oi := ⟨(some 56), _, _, _, _, _⟩) (v := undef) rfl (by kernel_rfl) (by kernel_rfl) (by kernel_rfl) (fun _ _ _ h => h) (Or.inr ⟨by rfl, rfl⟩) hHeld ?_
                try simp only [pu]
                refine wpAnyH_take (i := 54) (oi := ⟨(some 57), _, _, _, _, _⟩) (v := undef) rfl (by kernel_rfl) (by kernel_rfl) (by kernel_rfl) (fun _ _ _ h => h) (Or.inr ⟨by rfl, rfl⟩) hHeld ?_
                try simp only [pu]
                refine wpAnyH_take (i := 55) (oi := ⟨(some 58), _, _, _, _, _⟩) (v := undef) rfl (by kernel_rfl) (by kernel_rfl) (by kernel_rfl) (fun _ _ _ h => h) (Or.inr ⟨by rfl, rfl⟩) hHeld ?_
                try simp only [pu]
                refine wpAnyH_take (i := 56) (oi := ⟨(some 59), _, _, _, _, _⟩) (v := .bool true) rfl (by kernel_rfl) (by kernel_rfl) (by kernel_rfl) (fun _ _ _ h => h) (Or.inl ⟨by rfl, ?yr1_56⟩) hHeld ?_
                case yr1_56 => (intro W0 hSw; go_simp; try with_reducible rfl)
                try simp only [pu]
                refine wpAnyH_take (i := 57) (oi := ⟨(some 60), _, _, _, _, _⟩) (v := .bool true) rfl (by kernel_rfl) (by kernel_rfl) (by kernel_rfl) (fun _ _ _ h => h) (Or.inl ⟨by rfl, ?yr1_57⟩) hHeld ?_
                case yr1_57 => (intro W0 hSw; go_simp; try with_reducible rfl)
                try simp only [pu]
                refine wpAnyH_take (i := 58) (oi := ⟨(some 61), _, _, _, _, _⟩) (v := undef) rfl (by kernel_rfl) (by kernel_rfl) (by kernel_rfl) (fun _ _ _ h => h) (Or.inr ⟨by rfl, rfl⟩) hHeld ?_
                try simp only [pu]
                refine wpAnyH_take (i := 59) (oi := ⟨(some 62), _, _, _, _, _⟩) (v := undef) rfl (by kernel_rfl) (by kernel_rfl) (by kernel_rfl) (fun _ _ _ h => h) (Or.inr ⟨by rfl, rfl⟩) hHeld ?_
                try simp only [pu]
                refine wpAnyH_take (i := 60) (oi := ⟨(some 63), _, _, _, _, _⟩) (v := undef) rfl (by kernel_rfl) (by kernel_rfl) (by kernel_rfl) (fun _ _ _ h => h) (Or.inr ⟨by rfl, rfl⟩) hHeld ?_
                try simp only [pu]
                refine wpAnyH_take (i := 61) (oi := ⟨(some 64), _, _, _, _, _⟩) (v := undef) rfl (by kernel_rfl) (by kernel_rfl) (by kernel_rfl) (fun _ _ _ h => h) (Or.inr ⟨by rfl, rfl⟩) hHeld ?_
                try simp only [pu]
                refine wpAnyH_take (i := 62) (oi := ⟨(some 65), _, _, _, _, _⟩) (v := .bool true) rfl (by kernel_rfl) (by kernel_rfl) (by kernel_rfl) (fun _ _ _ h => h) (Or.inl ⟨by rfl, ?yr1_62⟩) hHeld ?_
                case yr1_62 => (intro W0 hSw; go_simp; try with_reducible rfl)
                try simp only [pu]
                refine wpAnyH_done (by kernel_rfl) ?_ _
                go_wp2
                go_ret
                exact ⟨ret_bool (by rw [HG.out, decide_eq_false (p := 0 ≤ a.time ∧ a.time ≤ 1099511627776) (fun h => by omega)]; simp), below_next hbW hbW.size hHeld⟩
              · skip
                by_cases t7 : (1099511627776 : Int) < a.time
                · skip
                  refine wp_region_held_drew (S := fun W' => Below W.heap.size W W') (by kernel_rfl) ((Below.refl _ _).drew) (fun hHeld => ?_)
                  refine wpAnyH_take (i := 0) (oi := ⟨(some 3), _, _, _, _, _⟩) (v := .pointer (some ⟨w.heap.size, 0, none⟩)) rfl (by kernel_rfl) (by kernel_rfl) (by kernel_rfl) (fun _ _ _ h => h) (Or.inl ⟨by rfl, ?yr1_0⟩) hHeld ?_
                  case yr1_0 => (intro W0 hSw; go_simp; try with_reducible rfl)
                  try simp only [pu]
                  refine wpAnyH_take (i := 1) (oi := ⟨(some 4), _, _, _, _, _⟩) (v := .pointer (some ⟨w.heap.size, 0, none⟩)) rfl (by kernel_rfl) (by kernel_rfl) (by kernel_rfl) (fun _ _ _ h => h) (Or.inl ⟨by rfl, ?yr1_1⟩) hHeld ?_
                  case yr1_1 => (intro W0 hSw; go_simp; try with_reducible rfl)
                  try simp only [pu]
                  refine wpAnyH_take (i := 2) (oi := ⟨(some 5), _, _, _, _, _⟩) (v := .int .i64 a.dev) rfl (by kernel_rfl) (by kernel_rfl) (by kernel_rfl) (fun _ _ _ h => h) (Or.inl ⟨by rfl, ?yr1_2⟩) hHeld ?_
                  case yr1_2 => (intro W0 hSw; have cc := ed_dev (row_next2 hgA hSw); go_simp; try with_reducible rfl)
                  try simp only [pu]
                  refine wpAnyH_take (i := 3) (oi := ⟨(some 6), _, _, _, _, _⟩) (v := .bool false) rfl (by kernel_rfl) (by kernel_rfl) (by kernel_rfl) (fun _ _ _ h => h) (Or.inl ⟨by rfl, ?yr1_3⟩) hHeld ?_
                  case yr1_3 => (intro W0 hSw; go_simp; (try simp [t0]); (try omega))
                  try simp only [pu]
                  refine wpAnyH_take (i := 4) (oi := ⟨(some 7), _, _, _, _, _⟩) (v := .bool false) rfl (by kernel_rfl) (by kernel_rfl) (by kernel_rfl) (fun _ _ _ h => h) (Or.inl ⟨by rfl, ?yr1_4⟩) hHeld ?_
                  case yr1_4 => (intro W0 hSw; go_simp; try with_reducible rfl)
                  try simp only [pu]
                  refine wpAnyH_take (i := 5) (oi := ⟨(some 8), _, _, _, _, _⟩) (v := .pointer (some ⟨w.heap.size, 0, none⟩)) rfl (by kernel_rfl) (by kernel_rfl) (by kernel_rfl) (fun _ _ _ h => h) (Or.inl ⟨by rfl, ?yr1_5⟩) hHeld ?_
                  case yr1_5 => (intro W0 hSw; go_simp; try with_reducible rfl)
                  try simp only [pu]
                  refine wpAnyH_take (i := 6) (oi := ⟨(some 9), _, _, _, _, _⟩) (v := .pointer (some ⟨w.heap.size, 0, none⟩)) rfl (by kernel_rfl) (by kernel_rfl) (by kernel_rfl) (fun _ _ _ h => h) (Or.inl ⟨by rfl, ?yr1_6⟩) hHeld ?_
                  case yr1_6 => (intro W0 hSw; go_simp; try with_reducible rfl)
                  try simp only [pu]
                  refine wpAnyH_take (i := 7) (oi := ⟨(some 10), _, _, _, _, _⟩) (v := .int .i64 a.dev) rfl (by kernel_rfl) (by kernel_rfl) (by kernel_rfl) (fun _ _ _ h => h) (Or.inl ⟨by rfl, ?yr1_7⟩) hHeld ?_
                  case yr1_7 => (intro W0 hSw; have cc := ed_dev (row_next2 hgA hSw); go_simp; try with_reducible rfl)
                  try simp only [pu]
                  refine wpAnyH_take (i := 8) (oi := ⟨(some 11), _, _, _, _, _⟩) (v := .bool false) rfl (by kernel_rfl) (by kernel_rfl) (by kernel_rfl) (fun _ _ _ h => h) (Or.inl ⟨by rfl, ?yr1_8⟩) hHeld ?_
                  case yr1_8 => (intro W0 hSw; go_simp; (try simp [t1]); (try omega))
                  try simp only [pu]
                  refine wpAnyH_take (i := 9) (oi := ⟨(some 12), _, _, _, _, _⟩) (v := .bool false) rfl (by kernel_rfl) (by kernel_rfl) (by kernel_rfl) (fun _ _ _ h => h) (Or.inl ⟨by rfl, ?yr1_9⟩) hHeld ?_
                  case yr1_9 => (intro W0 hSw; go_simp; try with_reducible rfl)
                  try simp only [pu]
                  refine wpAnyH_take (i := 10) (oi := ⟨(some 13), _, _, _, _, _⟩) (v := .bool false) rfl (by kernel_rfl) (by kernel_rfl) (by kernel_rfl) (fun _ _ _ h => h) (Or.inl ⟨by rfl, ?yr1_10⟩) hHeld ?_
                  case yr1_10 => (intro W0 hSw; go_simp; try with_reducible rfl)
                  try simp only [pu]
                  refine wpAnyH_take (i := 11) (oi := ⟨(some 14), _, _, _, _, _⟩) (v := .pointer (some ⟨w.heap.size, 0, none⟩)) rfl (by kernel_rfl) (by kernel_rfl) (by kernel_rfl) (fun _ _ _ h => h) (Or.inl ⟨by rfl, ?yr1_11⟩) hHeld ?_
                  case yr1_11 => (intro W0 hSw; go_simp; try with_reducible rfl)
                  try simp only [pu]
                  refine wpAnyH_take (i := 12) (oi := ⟨(some 15), _, _, _, _, _⟩) (v := .pointer (some ⟨w.heap.size, 1, none⟩)) rfl (by kernel_rfl) (by kernel_rfl) (by kernel_rfl) (fun _ _ _ h => h) (Or.inl ⟨by rfl, ?yr1_12⟩) hHeld ?_
                  case yr1_12 => (intro W0 hSw; go_simp; try with_reducible rfl)
                  try simp only [pu]
                  refine wpAnyH_take (i := 13) (oi := ⟨(some 16), _, _, _, _, _⟩) (v := .int .i64 a.num) rfl (by kernel_rfl) (by kernel_rfl) (by kernel_rfl) (fun _ _ _ h => h) (Or.inl ⟨by rfl, ?yr1_13⟩) hHeld ?_
                  case yr1_13 => (intro W0 hSw; have cc := ed_num (row_next2 hgA hSw); go_simp; try with_reducible rfl)
                  try simp only [pu]
                  refine wpAnyH_take (i := 14) (oi := ⟨(some 17), _, _, _, _, _⟩) (v := .bool false) rfl (by kernel_rfl) (by kernel_rfl) (by kernel_rfl) (fun _ _ _ h => h) (Or.inl ⟨by rfl, ?yr1_14⟩) hHeld ?_
                  case yr1_14 => (intro W0 hSw; go_simp; (try simp [t2]); (try omega))
                  try simp only [pu]
                  refine wpAnyH_take (i := 15) (oi := ⟨(some 18), _, _, _, _, _⟩) (v := .bool false) rfl (by kernel_rfl) (by kernel_rfl) (by kernel_rfl) (fun _ _ _ h => h) (Or.inl ⟨by rfl, ?yr1_15⟩) hHeld ?_
                  case yr1_15 => (intro W0 hSw; go_simp; try with_reducible rfl)
                  try simp only [pu]
                  refine wpAnyH_take (i := 16) (oi := ⟨(some 19), _, _, _, _, _⟩) (v := .bool false) rfl (by kernel_rfl) (by kernel_rfl) (by kernel_rfl) (fun _ _ _ h => h) (Or.inl ⟨by rfl, ?yr1_16⟩) hHeld ?_
                  case yr1_16 => (intro W0 hSw; go_simp; try with_reducible rfl)
                  try simp only [pu]
                  refine wpAnyH_take (i := 17) (oi := ⟨(some 20), _, _, _, _, _⟩) (v := .pointer (some ⟨w.heap.size, 0, none⟩)) rfl (by kernel_rfl) (by kernel_rfl) (by kernel_rfl) (fun _ _ _ h => h) (Or.inl ⟨by rfl, ?yr1_17⟩) hHeld ?_
                  case yr1_17 => (intro W0 hSw; go_simp; try with_reducible rfl)
                  try simp only [pu]
                  refine wpAnyH_take (i := 18) (oi := ⟨(some 21), _, _, _, _, _⟩) (v := .pointer (some ⟨w.heap.size, 1, none⟩)) rfl (by kernel_rfl) (by kernel_rfl) (by kernel_rfl) (fun _ _ _ h => h) (Or.inl ⟨by rfl, ?yr1_18⟩) hHeld ?_
                  case yr1_18 => (intro W0 hSw; go_simp; try with_reducible rfl)
                  try simp only [pu]
                  refine wpAnyH_take (i := 19) (oi := ⟨(some 22), _, _, _, _, _⟩) (v := .int .i64 a.num) rfl (by kernel_rfl) (by kernel_rfl) (by kernel_rfl) (fun _ _ _ h => h) (Or.inl ⟨by rfl, ?yr1_19⟩) hHeld ?_
                  case yr1_19 => (intro W0 hSw; have cc := ed_num (row_next2 hgA hSw); go_simp; try with_reducible rfl)
                  try simp only [pu]
                  refine wpAnyH_take (i := 20) (oi := ⟨(some 23), _, _, _, _, _⟩) (v := .bool false) rfl (by kernel_rfl) (by kernel_rfl) (by kernel_rfl) (fun _ _ _ h => h) (Or.inl ⟨by rfl, ?yr1_20⟩) hHeld ?_
                  case yr1_20 => (intro W0 hSw; go_simp; (try simp [t3]); (try omega))
                  try simp only [pu]
                  refine wpAnyH_take (i := 21) (oi := ⟨(some 24), _, _, _, _, _⟩) (v := .bool false) rfl (by kernel_rfl) (by kernel_rfl) (by kernel_rfl) (fun _ _ _ h => h) (Or.inl ⟨by rfl, ?yr1_21⟩) hHeld ?_
                  case yr1_21 => (intro W0 hSw; go_simp; try with_reducible rfl)
                  try simp only [pu]
                  refine wpAnyH_take (i := 22) (oi := ⟨(some 25), _, _, _, _, _⟩) (v := .bool false) rfl (by kernel_rfl) (by kernel_rfl) (by kernel_rfl) (fun _ _ _ h => h) (Or.inl ⟨by rfl, ?yr1_22⟩) hHeld ?_
                  case yr1_22 => (intro W0 hSw; go_simp; try with_reducible rfl)
                  try simp only [pu]
                  refine wpAnyH_take (i := 23) (oi := ⟨(some 26), _, _, _, _, _⟩) (v := .pointer (some ⟨w.heap.size, 2, none⟩)) rfl (by kernel_rfl) (by kernel_rfl) (by kernel_rfl) (fun _ _ _ h => h) (Or.inl ⟨by rfl, ?yr1_23⟩) hHeld ?_
                  case yr1_23 => (intro W0 hSw; go_simp; try with_reducible rfl)
                  try simp only [pu]
                  refine wpAnyH_take (i := 24) (oi := ⟨(some 27), _, _, _, _, _⟩) (v := .agg (i64v a.seen).toArray) rfl (by kernel_rfl) (by kernel_rfl) (by kernel_rfl) (fun _ _ _ h => h) (yieldsIf_load_mid (by rfl) _ _ rfl (w.heap.size) 2 rfl (i64v a.seen) _ (fun W' hW' => ed_seenR (row_next2 hgA hW')) (Try.underlying36) rfl (by rw [i64v_len, HA.out]; kernel_rfl)) hHeld ?_
                  try simp only [pu]
                  refine wpAnyH_ready (rs := [25]) (by kernel_rfl) (by simp) ?_
                  refine AllReadyH.cons (i := 25) (o := ⟨(some 28), _, _, _, _, _⟩) rfl (fun K hK => ?_) AllReadyH.nil
                  go_simp
                  refine (d1 _).mono ?_
                  rintro e r1W1 ⟨rfl, r1h1⟩
                  refine hK.out _ _ (below_next hHeld hHeld.size r1h1) (fun hHeld => ?_)
                  clear hK K r1h1
                  try simp only [pu]
                  refine wpAnyH_take (i := 26) (oi := ⟨(some 29), _, _, _, _, _⟩) (v := .bool false) rfl (by kernel_rfl) (by kernel_rfl) (by kernel_rfl) (fun _ _ _ h => h) (Or.inl ⟨by rfl, ?yr1_26⟩) hHeld ?_
                  case yr1_26 => (intro W0 hSw; go_simp; try with_reducible rfl)
                  try simp only [pu]
                  refine wpAnyH_take (i := 27) (oi := ⟨(some 30), _, _, _, _, _⟩) (v := .bool false) rfl (by kernel_rfl) (by kernel_rfl) (by kernel_rfl) (fun _ _ _ h => h) (Or.inl ⟨by rfl, ?yr1_27⟩) hHeld ?_
                  case yr1_27 => (intro W0 hSw; go_simp; try with_reducible rfl)
                  try simp only [pu]
                  refine wpAnyH_take (i := 28) (oi := ⟨(some 31), _, _, _, _, _⟩) (v := .bool false) rfl (by kernel_rfl) (by kernel_rfl) (by kernel_rfl) (fun _ _ _ h => h) (Or.inl ⟨by rfl, ?yr1_28⟩) hHeld ?_
                  case yr1_28 => (intro W0 hSw; go_simp; try with_reducible rfl)
                  try simp only [pu]
                  refine wpAnyH_take (i := 29) (oi := ⟨(some 32), _, _, _, _, _⟩) (v := .pointer (some ⟨w.heap.size, 0, none⟩)) rfl (by kernel_rfl) (by kernel_rfl) (by kernel_rfl) (fun _ _ _ h => h) (Or.inl ⟨by rfl, ?yr1_29⟩) hHeld ?_
                  case yr1_29 => (intro W0 hSw; go_simp; try with_reducible rfl)
                  try simp only [pu]
                  refine wpAnyH_take (i := 30) (oi := ⟨(some 33), _, _, _, _, _⟩) (v := .pointer (some ⟨w.heap.size, 0, none⟩)) rfl (by kernel_rfl) (by kernel_rfl) (by kernel_rfl) (fun _ _ _ h => h) (Or.inl ⟨by rfl, ?yr1_30⟩) hHeld ?_
                  case yr1_30 => (intro W0 hSw; go_simp; try with_reducible rfl)
                  try simp only [pu]
                  refine wpAnyH_take (i := 31) (oi := ⟨(some 34), _, _, _, _, _⟩) (v := .int .i64 a.dev) rfl (by kernel_rfl) (by kernel_rfl) (by kernel_rfl) (fun _ _ _ h => h) (Or.inl ⟨by rfl, ?yr1_31⟩) hHeld ?_
                  case yr1_31 => (intro W0 hSw; have cc := ed_dev (row_next2 hgA hSw); go_simp; try with_reducible rfl)
                  try simp only [pu]
                  refine wpAnyH_take (i := 32) (oi := ⟨(some 35), _, _, _, _, _⟩) (v := .pointer (some ⟨w.heap.size, 2, none⟩)) rfl (by kernel_rfl) (by kernel_rfl) (by kernel_rfl) (fun _ _ _ h => h) (Or.inl ⟨by rfl, ?yr1_32⟩) hHeld ?_
                  case yr1_32 => (intro W0 hSw; go_simp; try with_reducible rfl)
                  try simp only [pu]
                  refine wpAnyH_take (i := 33) (oi := ⟨(some 36), _, _, _, _, _⟩) (v := .pointer (some ⟨w.heap.size, 2 + k, none⟩)) rfl (by kernel_rfl) (by kernel_rfl) (by kernel_rfl) (fun _ _ _ h => h) (Or.inl ⟨by rfl, ?yr1_33⟩) hHeld ?_
                  case yr1_33 => (intro W0 hSw; skip; go_simp; try (intro hc; omega))
                  try simp only [pu]
                  refine wpAnyH_take (i := 34) (oi := ⟨(some 37), _, _, _, _, _⟩) (v := .int .i64 (iat a.seen k)) rfl (by kernel_rfl) (by kernel_rfl) (by kernel_rfl) (fun _ _ _ h => h) (Or.inl ⟨by rfl, ?yr1_34⟩) hHeld ?_
                  case yr1_34 => (intro W0 hSw; have cc := ed_seen (row_next2 hgA hSw) k (by rw [HA.out]; omega); go_simp; try with_reducible rfl)
                  try simp only [pu]
                  refine wpAnyH_take (i := 35) (oi := ⟨(some 38), _, _, _, _, _⟩) (v := .pointer (some ⟨w.heap.size, 0, none⟩)) rfl (by kernel_rfl) (by kernel_rfl) (by kernel_rfl) (fun _ _ _ h => h) (Or.inl ⟨by rfl, ?yr1_35⟩) hHeld ?_
                  case yr1_35 => (intro W0 hSw; go_simp; try with_reducible rfl)
                  try simp only [pu]
                  refine wpAnyH_take (i := 36) (oi := ⟨(some 39), _, _, _, _, _⟩) (v := .pointer (some ⟨w.heap.size, 1, none⟩)) rfl (by kernel_rfl) (by kernel_rfl) (by kernel_rfl) (fun _ _ _ h => h) (Or.inl ⟨by rfl, ?yr1_36⟩) hHeld ?_
                  case yr1_36 => (intro W0 hSw; go_simp; try with_reducible rfl)
                  try simp only [pu]
                  refine wpAnyH_take (i := 37) (oi := ⟨(some 40), _, _, _, _, _⟩) (v := .int .i64 a.num) rfl (by kernel_rfl) (by kernel_rfl) (by kernel_rfl) (fun _ _ _ h => h) (Or.inl ⟨by rfl, ?yr1_37⟩) hHeld ?_
                  case yr1_37 => (intro W0 hSw; have cc := ed_num (row_next2 hgA hSw); go_simp; try with_reducible rfl)
                  try simp only [pu]
                  refine wpAnyH_take (i := 38) (oi := ⟨(some 41), _, _, _, _, _⟩) (v := .int .i64 (a.num - 1)) rfl (by kernel_rfl) (by kernel_rfl) (by kernel_rfl) (fun _ _ _ h => h) (Or.inl ⟨by rfl, ?yr1_38⟩) hHeld ?_
                  case yr1_38 => (intro W0 hSw; go_simp; try simp only [hw]; try with_reducible rfl)
                  try simp only [pu]
                  refine wpAnyH_take (i := 39) (oi := ⟨(some 42), _, _, _, _, _⟩) (v := .bool false) rfl (by kernel_rfl) (by kernel_rfl) (by kernel_rfl) (fun _ _ _ h => h) (Or.inl ⟨by rfl, ?yr1_39⟩) hHeld ?_
                  case yr1_39 => (intro W0 hSw; go_simp; (try simp [t5]); (try omega))
                  try simp only [pu]
                  refine wpAnyH_take (i := 40) (oi := ⟨(some 43), _, _, _, _, _⟩) (v := .bool false) rfl (by kernel_rfl) (by kernel_rfl) (by kernel_rfl) (fun _ _ _ h => h) (Or.inl ⟨by rfl, ?yr1_40⟩) hHeld ?_
                  case yr1_40 => (intro W0 hSw; go_simp; try with_reducible rfl)
                  try simp only [pu]
                  refine wpAnyH_take (i := 41) (oi := ⟨(some 44), _, _, _, _, _⟩) (v := .bool false) rfl (by kernel_rfl) (by kernel_rfl) (by kernel_rfl) (fun _ _ _ h => h) (Or.inl ⟨by rfl, ?yr1_41⟩) hHeld ?_
                  case yr1_41 => (intro W0 hSw; go_simp; try with_reducible rfl)
                  try simp only [pu]
                  refine wpAnyH_take (i := 42) (oi := ⟨(some 45), _, _, _, _, _⟩) (v := .pointer (some ⟨w.heap.size, 14, none⟩)) rfl (by kernel_rfl) (by kernel_rfl) (by kernel_rfl) (fun _ _ _ h => h) (Or.inl ⟨by rfl, ?yr1_42⟩) hHeld ?_
                  case yr1_42 => (intro W0 hSw; go_simp; try with_reducible rfl)
                  try simp only [pu]
                  refine wpAnyH_take (i := 43) (oi := ⟨(some 46), _, _, _, _, _⟩) (v := .int .i64 a.time) rfl (by kernel_rfl) (by kernel_rfl) (by kernel_rfl) (fun _ _ _ h => h) (Or.inl ⟨by rfl, ?yr1_43⟩) hHeld ?_
                  case yr1_43 => (intro W0 hSw; have cc := ed_time (row_next2 hgA hSw) HA.out; go_simp; try with_reducible rfl)
                  try simp only [pu]
                  refine wpAnyH_take (i := 44) (oi := ⟨(some 47), _, _, _, _, _⟩) (v := .bool false) rfl (by kernel_rfl) (by kernel_rfl) (by kernel_rfl) (fun _ _ _ h => h) (Or.inl ⟨by rfl, ?yr1_44⟩) hHeld ?_
                  case yr1_44 => (intro W0 hSw; go_simp; (try simp [t6]); (try omega))
                  try simp only [pu]
                  refine wpAnyH_take (i := 45) (oi := ⟨(some 48), _, _, _, _, _⟩) (v := .bool false) rfl (by kernel_rfl) (by kernel_rfl) (by kernel_rfl) (fun _ _ _ h => h) (Or.inl ⟨by rfl, ?yr1_45⟩) hHeld ?_
                  case yr1_45 => (intro W0 hSw; go_simp; try with_reducible rfl)
                  try simp only [pu]
                  refine wpAnyH_take (i := 46) (oi := ⟨(some 49), _, _, _, _, _⟩) (v := .bool false) rfl (by kernel_rfl) (by kernel_rfl) (by kernel_rfl) (fun _ _ _ h => h) (Or.inl ⟨by rfl, ?yr1_46⟩) hHeld ?_
                  case yr1_46 => (intro W0 hSw; go_simp; try with_reducible rfl)
                  try simp only [pu]
                  refine wpAnyH_take (i := 47) (oi := ⟨(some 50), _, _, _, _, _⟩) (v := .pointer (some ⟨w.heap.size, 14, none⟩)) rfl (by kernel_rfl) (by kernel_rfl) (by kernel_rfl) (fun _ _ _ h => h) (Or.inl ⟨by rfl, ?yr1_47⟩) hHeld ?_
                  case yr1_47 => (intro W0 hSw; go_simp; try with_reducible rfl)
                  try simp only [pu]
                  refine wpAnyH_take (i := 48) (oi := ⟨(some 51), _, _, _, _, _⟩) (v := .int .i64 a.time) rfl (by kernel_rfl) (by kernel_rfl) (by kernel_rfl) (fun _ _ _ h => h) (Or.inl ⟨by rfl, ?yr1_48⟩) hHeld ?_
                  case yr1_48 => (intro W0 hSw; have cc := ed_time (row_next2 hgA hSw) HA.out; go_simp; try with_reducible rfl)
                  try simp only [pu]
                  refine wpAnyH_take (i := 49) (oi := ⟨(some 52), _, _, _, _, _⟩) (v := .bool true) rfl (by kernel_rfl) (by kernel_rfl) (by kernel_rfl) (fun _ _ _ h => h) (Or.inl ⟨by rfl, ?yr1_49⟩) hHeld ?_
                  case yr1_49 => (intro W0 hSw; go_simp; (try simp [t7]); (try omega))
                  try simp only [pu]
                  refine wpAnyH_take (i := 50) (oi := ⟨(some 53), _, _, _, _, _⟩) (v := .bool true) rfl (by kernel_rfl) (by kernel_rfl) (by kernel_rfl) (fun _ _ _ h => h) (Or.inl ⟨by rfl, ?yr1_50⟩) hHeld ?_
                  case yr1_50 => (intro W0 hSw; go_simp; try with_reducible rfl)
                  try simp only [pu]
                  refine wpAnyH_take (i := 51) (oi := ⟨(some 54), _, _, _, _, _⟩) (v := .bool true) rfl (by kernel_rfl) (by kernel_rfl) (by kernel_rfl) (fun _ _ _ h => h) (Or.inl ⟨by rfl, ?yr1_51⟩) hHeld ?_
                  case yr1_51 => (intro W0 hSw; go_simp; try with_reducible rfl)
                  try simp only [pu]
                  refine wpAnyH_take (i := 52) (oi := ⟨(some 55), _, _, _, _, _⟩) (v := undef) rfl (by kernel_rfl) (by kernel_rfl) (by kernel_rfl) (fun _ _ _ h => h) (Or.inr ⟨by rfl, rfl⟩) hHeld ?_
                  try simp only [pu]
                  refine wpAnyH_take (i := 53) (oi := ⟨(some 56), _, _, _, _, _⟩) (v := undef) rfl (by kernel_rfl) (by kernel_rfl) (by kernel_rfl) (fun _ _ _ h => h) (Or.inr ⟨by rfl, rfl⟩) hHeld ?_
                  try simp only [pu]
                  refine wpAnyH_take (i := 54) (oi := ⟨(some 57), _, _, _, _, _⟩) (v := undef) rfl (by kernel_rfl) (by kernel_rfl) (by kernel_rfl) (fun _ _ _ h => h) (Or.inr ⟨by rfl, rfl⟩) hHeld ?_
                  try simp only [pu]
                  refine wpAnyH_take (i := 55) (oi := ⟨(some 58), _, _, _, _, _⟩) (v := undef) rfl (by kernel_rfl) (by kernel_rfl) (by kernel_rfl) (fun _ _ _ h => h) (Or.inr ⟨by rfl, rfl⟩) hHeld ?_
                  try simp only [pu]
                  refine wpAnyH_take (i := 56) (oi := ⟨(some 59), _, _, _, _, _⟩) (v := .bool true) rfl (by kernel_rfl) (by kernel_rfl) (by kernel_rfl) (fun _ _ _ h => h) (Or.inl ⟨by rfl, ?yr1_56⟩) hHeld ?_
                  case yr1_56 => (intro W0 hSw; go_simp; try with_reducible rfl)
                  try simp only [pu]
                  refine wpAnyH_take (i := 57) (oi := ⟨(some 60), _, _, _, _, _⟩) (v := .bool true) rfl (by kernel_rfl) (by kernel_rfl) (by kernel_rfl) (fun _ _ _ h => h) (Or.inl ⟨by rfl, ?yr1_57⟩) hHeld ?_
                  case yr1_57 => (intro W0 hSw; go_simp; try with_reducible rfl)
                  try simp only [pu]
                  refine wpAnyH_take (i := 58) (oi := ⟨(some 61), _, _, _, _, _⟩) (v := undef) rfl (by kernel_rfl) (by kernel_rfl) (by kernel_rfl) (fun _ _ _ h => h) (Or.inr ⟨by rfl, rfl⟩) hHeld ?_
                  try simp only [pu]
                  refine wpAnyH_take (i := 59) (oi := ⟨(some 62), _, _, _, _, _⟩) (v := undef) rfl (by kernel_rfl) (by kernel_rfl) (by kernel_rfl) (fun _ _ _ h => h) (Or.inr ⟨by rfl, rfl⟩) hHeld ?_
                  try simp only [pu]
                  refine wpAnyH_take (i := 60) (oi := ⟨(some 63), _, _, _, _, _⟩) (v := undef) rfl (by kernel_rfl) (by kernel_rfl) (by kernel_rfl) (fun _ _ _ h => h) (Or.inr ⟨by rfl, rfl⟩) hHeld ?_
                  try simp only [pu]
                  refine wpAnyH_take (i := 61) (oi := ⟨(some 64), _, _, _, _, _⟩) (v := undef) rfl (by kernel_rfl) (by kernel_rfl) (by kernel_rfl) (fun _ _ _ h => h) (Or.inr ⟨by rfl, rfl⟩) hHeld ?_
                  try simp only [pu]
                  refine wpAnyH_take (i := 62) (oi := ⟨(some 65), _, _, _, _, _⟩) (v := .bool true) rfl (by kernel_rfl) (by kernel_rfl) (by kernel_rfl) (fun _ _ _ h => h) (Or.inl ⟨by rfl, ?yr1_62⟩) hHeld ?_
                  case yr1_62 => (intro W0 hSw; go_simp; try with_reducible rfl)
                  try simp only [pu]
                  refine wpAnyH_done (by kernel_rfl) ?_ _
                  go_wp2
                  go_ret
                  exact ⟨ret_bool (by rw [HG.out, decide_eq_false (p := 0 ≤ a.time ∧ a.time ≤ 1099511627776) (fun h => by omega)]; simp), below_next hbW hbW.size hHeld⟩
                · skip
                  cases x2
                  · skip
                    refine wp_region_held_drew (S := fun W' => Below W.heap.size W W') (by kernel_rfl) ((Below.refl _ _).drew) (fun hHeld => ?_)
                    refine wpAnyH_take (i := 0) (oi := ⟨(some 3), _, _, _, _, _⟩) (v := .pointer (some ⟨w.heap.size, 0, none⟩)) rfl (by kernel_rfl) (by kernel_rfl) (by kernel_rfl) (fun _ _ _ h => h) (Or.inl ⟨by rfl, ?yr1_0⟩) hHeld ?_
                    case yr1_0 => (intro W0 hSw; go_simp; try with_reducible rfl)
                    try simp only [pu]
                    refine wpAnyH_take (i := 1) (oi := ⟨(some 4), _, _, _, _, _⟩) (v := .pointer (some ⟨w.heap.size, 0, none⟩)) rfl (by kernel_rfl) (by kernel_rfl) (by kernel_rfl) (fun _ _ _ h => h) (Or.inl ⟨by rfl, ?yr1_1⟩) hHeld ?_
                    case yr1_1 => (intro W0 hSw; go_simp; try with_reducible rfl)
                    try simp only [pu]
                    refine wpAnyH_take (i := 2) (oi := ⟨(some 5), _, _, _, _, _⟩) (v := .int .i64 a.dev) rfl (by kernel_rfl) (by kernel_rfl) (by kernel_rfl) (fun _ _ _ h => h) (Or.inl ⟨by rfl, ?yr1_2⟩) hHeld ?_
                    case yr1_2 => (intro W0 hSw; have cc := ed_dev (row_next2 hgA hSw); go_simp; try with_reducible rfl)
                    try simp only [pu]
                    refine wpAnyH_take (i := 3) (oi := ⟨(some 6), _, _, _, _, _⟩) (v := .bool false) rfl (by kernel_rfl) (by kernel_rfl) (by kernel_rfl) (fun _ _ _ h => h) (Or.inl ⟨by rfl, ?yr1_3⟩) hHeld ?_
                    case yr1_3 => (intro W0 hSw; go_simp; (try simp [t0]); (try omega))
                    try simp only [pu]
                    refine wpAnyH_take (i := 4) (oi := ⟨(some 7), _, _, _, _, _⟩) (v := .bool false) rfl (by kernel_rfl) (by kernel_rfl) (by kernel_rfl) (fun _ _ _ h => h) (Or.inl ⟨by rfl, ?yr1_4⟩) hHeld ?_
                    case yr1_4 => (intro W0 hSw; go_simp; try with_reducible rfl)
                    try simp only [pu]
                    refine wpAnyH_take (i := 5) (oi := ⟨(some 8), _, _, _, _, _⟩) (v := .pointer (some ⟨w.heap.size, 0, none⟩)) rfl (by kernel_rfl) (by kernel_rfl) (by kernel_rfl) (fun _ _ _ h => h) (Or.inl ⟨by rfl, ?yr1_5⟩) hHeld ?_
                    case yr1_5 => (intro W0 hSw; go_simp; try with_reducible rfl)
                    try simp only [pu]
                    refine wpAnyH_take (i := 6) (oi := ⟨(some 9), _, _, _, _, _⟩) (v := .pointer (some ⟨w.heap.size, 0, none⟩)) rfl (by kernel_rfl) (by kernel_rfl) (by kernel_rfl) (fun _ _ _ h => h) (Or.inl ⟨by rfl, ?yr1_6⟩) hHeld ?_
                    case yr1_6 => (intro W0 hSw; go_simp; try with_reducible rfl)
                    try simp only [pu]
                    refine wpAnyH_take (i := 7) (oi := ⟨(some 10), _, _, _, _, _⟩) (v := .int .i64 a.dev) rfl (by kernel_rfl) (by kernel_rfl) (by kernel_rfl) (fun _ _ _ h => h) (Or.inl ⟨by rfl, ?yr1_7⟩) hHeld ?_
                    case yr1_7 => (intro W0 hSw; have cc := ed_dev (row_next2 hgA hSw); go_simp; try with_reducible rfl)
                    try simp only [pu]
                    refine wpAnyH_take (i := 8) (oi := ⟨(some 11), _, _, _, _, _⟩) (v := .bool false) rfl (by kernel_rfl) (by kernel_rfl) (by kernel_rfl) (fun _ _ _ h => h) (Or.inl ⟨by rfl, ?yr1_8⟩) hHeld ?_
                    case yr1_8 => (intro W0 hSw; go_simp; (try simp [t1]); (try omega))
                    try simp only [pu]
                    refine wpAnyH_take (i := 9) (oi := ⟨(some 12), _, _, _, _, _⟩) (v := .bool false) rfl (by kernel_rfl) (by kernel_rfl) (by kernel_rfl) (fun _ _ _ h => h) (Or.inl ⟨by rfl, ?yr1_9⟩) hHeld ?_
                    case yr1_9 => (intro W0 hSw; go_simp; try with_reducible rfl)
                    try simp only [pu]
                    refine wpAnyH_take (i := 10) (oi := ⟨(some 13), _, _, _, _, _⟩) (v := .bool false) rfl (by kernel_rfl) (by kernel_rfl) (by kernel_rfl) (fun _ _ _ h => h) (Or.inl ⟨by rfl, ?yr1_10⟩) hHeld ?_
                    case yr1_10 => (intro W0 hSw; go_simp; try with_reducible rfl)
                    try simp only [pu]
                    refine wpAnyH_take (i := 11) (oi := ⟨(some 14), _, _, _, _, _⟩) (v := .pointer (some ⟨w.heap.size, 0, none⟩)) rfl (by kernel_rfl) (by kernel_rfl) (by kernel_rfl) (fun _ _ _ h => h) (Or.inl ⟨by rfl, ?yr1_11⟩) hHeld ?_
                    case yr1_11 => (intro W0 hSw; go_simp; try with_reducible rfl)
                    try simp only [pu]
                    refine wpAnyH_take (i := 12) (oi := ⟨(some 15), _, _, _, _, _⟩) (v := .pointer (some ⟨w.heap.size, 1, none⟩)) rfl (by kernel_rfl) (by kernel_rfl) (by kernel_rfl) (fun _ _ _ h => h) (Or.inl ⟨by rfl, ?yr1_12⟩) hHeld ?_
                    case yr1_12 => (intro W0 hSw; go_simp; try with_reducible rfl)
                    try simp only [pu]
                    refine wpAnyH_take (i := 13) (oi := ⟨(some 16), _, _, _, _, _⟩) (v := .int .i64 a.num) rfl (by kernel_rfl) (by kernel_rfl) (by kernel_rfl) (fun _ _ _ h => h) (Or.inl ⟨by rfl, ?yr1_13⟩) hHeld ?_
                    case yr1_13 => (intro W0 hSw; have cc := ed_num (row_next2 hgA hSw); go_simp; try with_reducible rfl)
                    try simp only [pu]
                    refine wpAnyH_take (i := 14) (oi := ⟨(some 17), _, _, _, _, _⟩) (v := .bool false) rfl (by kernel_rfl) (by kernel_rfl) (by kernel_rfl) (fun _ _ _ h => h) (Or.inl ⟨by rfl, ?yr1_14⟩) hHeld ?_
                    case yr1_14 => (intro W0 hSw; go_simp; (try simp [t2]); (try omega))
                    try simp only [pu]
                    refine wpAnyH_take (i := 15) (oi := ⟨(some 18), _, _, _, _, _⟩) (v := .bool false) rfl (by kernel_rfl) (by kernel_rfl) (by kernel_rfl) (fun _ _ _ h => h) (Or.inl ⟨by rfl, ?yr1_15⟩) hHeld ?_
                    case yr1_15 => (intro W0 hSw; go_simp; try with_reducible rfl)
                    try simp only [pu]
                    refine wpAnyH_take (i := 16) (oi := ⟨(some 19), _, _, _, _, _⟩) (v := .bool false) rfl (by kernel_rfl) (by kernel_rfl) (by kernel_rfl) (fun _ _ _ h => h) (Or.inl ⟨by rfl, ?yr1_16⟩) hHeld ?_
                    case yr1_16 => (intro W0 hSw; go_simp; try with_reducible rfl)
                    try simp only [pu]
                    refine wpAnyH_take (i := 17) (oi := ⟨(some 20), _, _, _, _, _⟩) (v := .pointer (some ⟨w.heap.size, 0, none⟩)) rfl (by kernel_rfl) (by kernel_rfl) (by kernel_rfl) (fun _ _ _ h => h) (Or.inl ⟨by rfl, ?yr1_17⟩) hHeld ?_
                    case yr1_17 => (intro W0 hSw; go_simp; try with_reducible rfl)
                    try simp only [pu]
                    refine wpAnyH_take (i := 18) (oi := ⟨(some 21), _, _, _, _, _⟩) (v := .pointer (some ⟨w.heap.size, 1, none⟩)) rfl (by kernel_rfl) (by kernel_rfl) (by kernel_rfl) (fun _ _ _ h => h) (Or.inl ⟨by rfl, ?yr1_18⟩) hHeld ?_
                    case yr1_18 => (intro W0 hSw; go_simp; try with_reducible rfl)
                    try simp only [pu]
                    refine wpAnyH_take (i := 19) (oi := ⟨(some 22), _, _, _, _, _⟩) (v := .int .i64 a.num) rfl (by kernel_rfl) (by kernel_rfl) (by kernel_rfl) (fun _ _ _ h => h) (Or.inl ⟨by rfl, ?yr1_19⟩) hHeld ?_
                    case yr1_19 => (intro W0 hSw; have cc := ed_num (row_next2 hgA hSw); go_simp; try with_reducible rfl)
                    try simp only [pu]
                    refine wpAnyH_take (i := 20) (oi := ⟨(some 23), _, _, _, _, _⟩) (v := .bool false) rfl (by kernel_rfl) (by kernel_rfl) (by kernel_rfl) (fun _ _ _ h => h) (Or.inl ⟨by rfl, ?yr1_20⟩) hHeld ?_
                    case yr1_20 => (intro W0 hSw; go_simp; (try simp [t3]); (try omega))
                    try simp only [pu]
                    refine wpAnyH_take (i := 21) (oi := ⟨(some 24), _, _, _, _, _⟩) (v := .bool false) rfl (by kernel_rfl) (by kernel_rfl) (by kernel_rfl) (fun _ _ _ h => h) (Or.inl ⟨by rfl, ?yr1_21⟩) hHeld ?_
                    case yr1_21 => (intro W0 hSw; go_simp; try with_reducible rfl)
                    try simp only [pu]
                    refine wpAnyH_take (i := 22) (oi := ⟨(some 25), _, _, _, _, _⟩) (v := .bool false) rfl (by kernel_rfl) (by kernel_rfl) (by kernel_rfl) (fun _ _ _ h => h) (Or.inl ⟨by rfl, ?yr1_22⟩) hHeld ?_
                    case yr1_22 => (intro W0 hSw; go_simp; try with_reducible rfl)
                    try simp only [pu]
                    refine wpAnyH_take (i := 23) (oi := ⟨(some 26), _, _, _, _, _⟩) (v := .pointer (some ⟨w.heap.size, 2, none⟩)) rfl (by kernel_rfl) (by kernel_rfl) (by kernel_rfl) (fun _ _ _ h => h) (Or.inl ⟨by rfl, ?yr1_23⟩) hHeld ?_
                    case yr1_23 => (intro W0 hSw; go_simp; try with_reducible rfl)
                    try simp only [pu]
                    refine wpAnyH_take (i := 24) (oi := ⟨(some 27), _, _, _, _, _⟩) (v := .agg (i64v a.seen).toArray) rfl (by kernel_rfl) (by kernel_rfl) (by kernel_rfl) (fun _ _ _ h => h) (yieldsIf_load_mid (by rfl) _ _ rfl (w.heap.size) 2 rfl (i64v a.seen) _ (fun W' hW' => ed_seenR (row_next2 hgA hW')) (Try.underlying36) rfl (by rw [i64v_len, HA.out]; kernel_rfl)) hHeld ?_
                    try simp only [pu]
                    refine wpAnyH_ready (rs := [25]) (by kernel_rfl) (by simp) ?_
                    refine AllReadyH.cons (i := 25) (o := ⟨(some 28), _, _, _, _, _⟩) rfl (fun K hK => ?_) AllReadyH.nil
                    go_simp
                    refine (d1 _).mono ?_
                    rintro e r1W1 ⟨rfl, r1h1⟩
                    refine hK.out _ _ (below_next hHeld hHeld.size r1h1) (fun hHeld => ?_)
                    clear hK K r1h1
                    try simp only [pu]
                    refine wpAnyH_take (i := 26) (oi := ⟨(some 29), _, _, _, _, _⟩) (v := .bool false) rfl (by kernel_rfl) (by kernel_rfl) (by kernel_rfl) (fun _ _ _ h => h) (Or.inl ⟨by rfl, ?yr1_26⟩) hHeld ?_
                    case yr1_26 => (intro W0 hSw; go_simp; try with_reducible rfl)
                    try simp only [pu]
                    refine wpAnyH_take (i := 27) (oi := ⟨(some 30), _, _, _, _, _⟩) (v := .bool false) rfl (by kernel_rfl) (by kernel_rfl) (by kernel_rfl) (fun _ _ _ h => h) (Or.inl ⟨by rfl, ?yr1_27⟩) hHeld ?_
                    case yr1_27 => (intro W0 hSw; go_simp; try with_reducible rfl)
                    try simp only [pu]
                    refine wpAnyH_take (i := 28) (oi := ⟨(some 31), _, _, _, _, _⟩) (v := .bool false) rfl (by kernel_rfl) (by kernel_rfl) (by kernel_rfl) (fun _ _ _ h => h) (Or.inl ⟨by rfl, ?yr1_28⟩) hHeld ?_
                    case yr1_28 => (intro W0 hSw; go_simp; try with_reducible rfl)
                    try simp only [pu]
                    refine wpAnyH_take (i := 29) (oi := ⟨(some 32), _, _, _, _, _⟩) (v := .pointer (some ⟨w.heap.size, 0, none⟩)) rfl (by kernel_rfl) (by kernel_rfl) (by kernel_rfl) (fun _ _ _ h => h) (Or.inl ⟨by rfl, ?yr1_29⟩) hHeld ?_
                    case yr1_29 => (intro W0 hSw; go_simp; try with_reducible rfl)
                    try simp only [pu]
                    refine wpAnyH_take (i := 30) (oi := ⟨(some 33), _, _, _, _, _⟩) (v := .pointer (some ⟨w.heap.size, 0, none⟩)) rfl (by kernel_rfl) (by kernel_rfl) (by kernel_rfl) (fun _ _ _ h => h) (Or.inl ⟨by rfl, ?yr1_30⟩) hHeld ?_
                    case yr1_30 => (intro W0 hSw; go_simp; try with_reducible rfl)
                    try simp only [pu]
                    refine wpAnyH_take (i := 31) (oi := ⟨(some 34), _, _, _, _, _⟩) (v := .int .i64 a.dev) rfl (by kernel_rfl) (by kernel_rfl) (by kernel_rfl) (fun _ _ _ h => h) (Or.inl ⟨by rfl, ?yr1_31⟩) hHeld ?_
                    case yr1_31 => (intro W0 hSw; have cc := ed_dev (row_next2 hgA hSw); go_simp; try with_reducible rfl)
                    try simp only [pu]
                    refine wpAnyH_take (i := 32) (oi := ⟨(some 35), _, _, _, _, _⟩) (v := .pointer (some ⟨w.heap.size, 2, none⟩)) rfl (by kernel_rfl) (by kernel_rfl) (by kernel_rfl) (fun _ _ _ h => h) (Or.inl ⟨by rfl, ?yr1_32⟩) hHeld ?_
                    case yr1_32 => (intro W0 hSw; go_simp; try with_reducible rfl)
                    try simp only [pu]
                    refine wpAnyH_take (i := 33) (oi := ⟨(some 36), _, _, _, _, _⟩) (v := .pointer (some ⟨w.heap.size, 2 + k, none⟩)) rfl (by kernel_rfl) (by kernel_rfl) (by kernel_rfl) (fun _ _ _ h => h) (Or.inl ⟨by rfl, ?yr1_33⟩) hHeld ?_
                    case yr1_33 => (intro W0 hSw; skip; go_simp; try (intro hc; omega))
                    try simp only [pu]
                    refine wpAnyH_take (i := 34) (oi := ⟨(some 37), _, _, _, _, _⟩) (v := .int .i64 (iat a.seen k)) rfl (by kernel_rfl) (by kernel_rfl) (by kernel_rfl) (fun _ _ _ h => h) (Or.inl ⟨by rfl, ?yr1_34⟩) hHeld ?_
                    case yr1_34 => (intro W0 hSw; have cc := ed_seen (row_next2 hgA hSw) k (by rw [HA.out]; omega); go_simp; try with_reducible rfl)
                    try simp only [pu]
                    refine wpAnyH_take (i := 35) (oi := ⟨(some 38), _, _, _, _, _⟩) (v := .pointer (some ⟨w.heap.size, 0, none⟩)) rfl (by kernel_rfl) (by kernel_rfl) (by kernel_rfl) (fun _ _ _ h => h) (Or.inl ⟨by rfl, ?yr1_35⟩) hHeld ?_
                    case yr1_35 => (intro W0 hSw; go_simp; try with_reducible rfl)
                    try simp only [pu]
                    refine wpAnyH_take (i := 36) (oi := ⟨(some 39), _, _, _, _, _⟩) (v := .pointer (some ⟨w.heap.size, 1, none⟩)) rfl (by kernel_rfl) (by kernel_rfl) (by kernel_rfl) (fun _ _ _ h => h) (Or.inl ⟨by rfl, ?yr1_36⟩) hHeld ?_
                    case yr1_36 => (intro W0 hSw; go_simp; try with_reducible rfl)
                    try simp only [pu]
                    refine wpAnyH_take (i := 37) (oi := ⟨(some 40), _, _, _, _, _⟩) (v := .int .i64 a.num) rfl (by kernel_rfl) (by kernel_rfl) (by kernel_rfl) (fun _ _ _ h => h) (Or.inl ⟨by rfl, ?yr1_37⟩) hHeld ?_
                    case yr1_37 => (intro W0 hSw; have cc := ed_num (row_next2 hgA hSw); go_simp; try with_reducible rfl)
                    try simp only [pu]
                    refine wpAnyH_take (i := 38) (oi := ⟨(some 41), _, _, _, _, _⟩) (v := .int .i64 (a.num - 1)) rfl (by kernel_rfl) (by kernel_rfl) (by kernel_rfl) (fun _ _ _ h => h) (Or.inl ⟨by rfl, ?yr1_38⟩) hHeld ?_
                    case yr1_38 => (intro W0 hSw; go_simp; try simp only [hw]; try with_reducible rfl)
                    try simp only [pu]
                    refine wpAnyH_take (i := 39) (oi := ⟨(some 42), _, _, _, _, _⟩) (v := .bool false) rfl (by kernel_rfl) (by kernel_rfl) (by kernel_rfl) (fun _ _ _ h => h) (Or.inl ⟨by rfl, ?yr1_39⟩) hHeld ?_
                    case yr1_39 => (intro W0 hSw; go_simp; (try simp [t5]); (try omega))
                    try simp only [pu]
                    refine wpAnyH_take (i := 40) (oi := ⟨(some 43), _, _, _, _, _⟩) (v := .bool false) rfl (by kernel_rfl) (by kernel_rfl) (by kernel_rfl) (fun _ _ _ h => h) (Or.inl ⟨by rfl, ?yr1_40⟩) hHeld ?_
                    case yr1_40 => (intro W0 hSw; go_simp; try with_reducible rfl)
                    try simp only [pu]
                    refine wpAnyH_take (i := 41) (oi := ⟨(some 44), _, _, _, _, _⟩) (v := .bool false) rfl (by kernel_rfl) (by kernel_rfl) (by kernel_rfl) (fun _ _ _ h => h) (Or.inl ⟨by rfl, ?yr1_41⟩) hHeld ?_
                    case yr1_41 => (intro W0 hSw; go_simp; try with_reducible rfl)
                    try simp only [pu]
                    refine wpAnyH_take (i := 42) (oi := ⟨(some 45), _, _, _, _, _⟩) (v := .pointer (some ⟨w.heap.size, 14, none⟩)) rfl (by kernel_rfl) (by kernel_rfl) (by kernel_rfl) (fun _ _ _ h => h) (Or.inl ⟨by rfl, ?yr1_42⟩) hHeld ?_
                    case yr1_42 => (intro W0 hSw; go_simp; try with_reducible rfl)
                    try simp only [pu]
                    refine wpAnyH_take (i := 43) (oi := ⟨(some 46), _, _, _, _, _⟩) (v := .int .i64 a.time) rfl (by kernel_rfl) (by kernel_rfl) (by kernel_rfl) (fun _ _ _ h => h) (Or.inl ⟨by rfl, ?yr1_43⟩) hHeld ?_
                    case yr1_43 => (intro W0 hSw; have cc := ed_time (row_next2 hgA hSw) HA.out; go_simp; try with_reducible rfl)
                    try simp only [pu]
                    refine wpAnyH_take (i := 44) (oi := ⟨(some 47), _, _, _, _, _⟩) (v := .bool false) rfl (by kernel_rfl) (by kernel_rfl) (by kernel_rfl) (fun _ _ _ h => h) (Or.inl ⟨by rfl, ?yr1_44⟩) hHeld ?_
                    case yr1_44 => (intro W0 hSw; go_simp; (try simp [t6]); (try omega))
                    try simp only [pu]
                    refine wpAnyH_take (i := 45) (oi := ⟨(some 48), _, _, _, _, _⟩) (v := .bool false) rfl (by kernel_rfl) (by kernel_rfl) (by kernel_rfl) (fun _ _ _ h => h) (Or.inl ⟨by rfl, ?yr1_45⟩) hHeld ?_
                    case yr1_45 => (intro W0 hSw; go_simp; try with_reducible rfl)
                    try simp only [pu]
                    refine wpAnyH_take (i := 46) (oi := ⟨(some 49), _, _, _, _, _⟩) (v := .bool false) rfl (by kernel_rfl) (by kernel_rfl) (by kernel_rfl) (fun _ _ _ h => h) (Or.inl ⟨by rfl, ?yr1_46⟩) hHeld ?_
                    case yr1_46 => (intro W0 hSw; go_simp; try with_reducible rfl)
                    try simp only [pu]
                    refine wpAnyH_take (i := 47) (oi := ⟨(some 50), _, _, _, _, _⟩) (v := .pointer (some ⟨w.heap.size, 14, none⟩)) rfl (by kernel_rfl) (by kernel_rfl) (by kernel_rfl) (fun _ _ _ h => h) (Or.inl ⟨by rfl, ?yr1_47⟩) hHeld ?_
                    case yr1_47 => (intro W0 hSw; go_simp; try with_reducible rfl)
                    try simp only [pu]
                    refine wpAnyH_take (i := 48) (oi := ⟨(some 51), _, _, _, _, _⟩) (v := .int .i64 a.time) rfl (by kernel_rfl) (by kernel_rfl) (by kernel_rfl) (fun _ _ _ h => h) (Or.inl ⟨by rfl, ?yr1_48⟩) hHeld ?_
                    case yr1_48 => (intro W0 hSw; have cc := ed_time (row_next2 hgA hSw) HA.out; go_simp; try with_reducible rfl)
                    try simp only [pu]
                    refine wpAnyH_take (i := 49) (oi := ⟨(some 52), _, _, _, _, _⟩) (v := .bool false) rfl (by kernel_rfl) (by kernel_rfl) (by kernel_rfl) (fun _ _ _ h => h) (Or.inl ⟨by rfl, ?yr1_49⟩) hHeld ?_
                    case yr1_49 => (intro W0 hSw; go_simp; (try simp [t7]); (try omega))
                    try simp only [pu]
                    refine wpAnyH_take (i := 50) (oi := ⟨(some 53), _, _, _, _, _⟩) (v := .bool false) rfl (by kernel_rfl) (by kernel_rfl) (by kernel_rfl) (fun _ _ _ h => h) (Or.inl ⟨by rfl, ?yr1_50⟩) hHeld ?_
                    case yr1_50 => (intro W0 hSw; go_simp; try with_reducible rfl)
                    try simp only [pu]
                    refine wpAnyH_take (i := 51) (oi := ⟨(some 54), _, _, _, _, _⟩) (v := .bool false) rfl (by kernel_rfl) (by kernel_rfl) (by kernel_rfl) (fun _ _ _ h => h) (Or.inl ⟨by rfl, ?yr1_51⟩) hHeld ?_
                    case yr1_51 => (intro W0 hSw; go_simp; try with_reducible rfl)
                    try simp only [pu]
                    refine wpAnyH_take (i := 52) (oi := ⟨(some 55), _, _, _, _, _⟩) (v := .pointer (some ⟨w.heap.size, 11, none⟩)) rfl (by kernel_rfl) (by kernel_rfl) (by kernel_rfl) (fun _ _ _ h => h) (Or.inl ⟨by rfl, ?yr1_52⟩) hHeld ?_
                    case yr1_52 => (intro W0 hSw; go_simp; try with_reducible rfl)
                    try simp only [pu]
                    refine wpAnyH_take (i := 53) (oi := ⟨(some 56), _, _, _, _, _⟩) (v := .string a.con) rfl (by kernel_rfl) (by kernel_rfl) (by kernel_rfl) (fun _ _ _ h => h) (Or.inl ⟨by rfl, ?yr1_53⟩) hHeld ?_
                    case yr1_53 => (intro W0 hSw; have cc := ed_con (row_next2 hgA hSw) HA.out; go_simp; try with_reducible rfl)
                    try simp only [pu]
                    refine wpAnyH_ready (rs := [54]) (by kernel_rfl) (by simp) ?_
                    refine AllReadyH.cons (i := 54) (o := ⟨(some 57), _, _, _, _, _⟩) rfl (fun K hK => ?_) AllReadyH.nil
                    go_simp
                    refine (d2 _).mono ?_
                    rintro e r1W2 ⟨rfl, r1h2⟩
                    refine hK.out _ _ (r1h2 ▸ hHeld) (fun hHeld => ?_)
                    clear hK K r1h2
                    try simp only [pu]
                    refine wpAnyH_take (i := 55) (oi := ⟨(some 58), _, _, _, _, _⟩) (v := .bool true) rfl (by kernel_rfl) (by kernel_rfl) (by kernel_rfl) (fun _ _ _ h => h) (Or.inl ⟨by rfl, ?yr1_55⟩) hHeld ?_
                    case yr1_55 => (intro W0 hSw; go_simp; try with_reducible rfl)
                    try simp only [pu]
                    refine wpAnyH_take (i := 56) (oi := ⟨(some 59), _, _, _, _, _⟩) (v := .bool true) rfl (by kernel_rfl) (by kernel_rfl) (by kernel_rfl) (fun _ _ _ h => h) (Or.inl ⟨by rfl, ?yr1_56⟩) hHeld ?_
                    case yr1_56 => (intro W0 hSw; go_simp; try with_reducible rfl)
                    try simp only [pu]
                    refine wpAnyH_take (i := 57) (oi := ⟨(some 60), _, _, _, _, _⟩) (v := .bool true) rfl (by kernel_rfl) (by kernel_rfl) (by kernel_rfl) (fun _ _ _ h => h) (Or.inl ⟨by rfl, ?yr1_57⟩) hHeld ?_
                    case yr1_57 => (intro W0 hSw; go_simp; try with_reducible rfl)
                    try simp only [pu]
                    refine wpAnyH_take (i := 58) (oi := ⟨(some 61), _, _, _, _, _⟩) (v := undef) rfl (by kernel_rfl) (by kernel_rfl) (by kernel_rfl) (fun _ _ _ h => h) (Or.inr ⟨by rfl, rfl⟩) hHeld ?_
                    try simp only [pu]
                    refine wpAnyH_take (i := 59) (oi := ⟨(some 62), _, _, _, _, _⟩) (v := undef) rfl (by kernel_rfl) (by kernel_rfl) (by kernel_rfl) (fun _ _ _ h => h) (Or.inr ⟨by rfl, rfl⟩) hHeld ?_
                    try simp only [pu]
                    refine wpAnyH_take (i := 60) (oi := ⟨(some 63), _, _, _, _, _⟩) (v := undef) rfl (by kernel_rfl) (by kernel_rfl) (by kernel_rfl) (fun _ _ _ h => h) (Or.inr ⟨by rfl, rfl⟩) hHeld ?_
                    try simp only [pu]
                    refine wpAnyH_take (i := 61) (oi := ⟨(some 64), _, _, _, _, _⟩) (v := undef) rfl (by kernel_rfl) (by kernel_rfl) (by kernel_rfl) (fun _ _ _ h => h) (Or.inr ⟨by rfl, rfl⟩) hHeld ?_
                    try simp only [pu]
                    refine wpAnyH_take (i := 62) (oi := ⟨(some 65), _, _, _, _, _⟩) (v := .bool true) rfl (by kernel_rfl) (by kernel_rfl) (by kernel_rfl) (fun _ _ _ h => h) (Or.inl ⟨by rfl, ?yr1_62⟩) hHeld ?_
                    case yr1_62 => (intro W0 hSw; go_simp; try with_reducible rfl)
                    try simp only [pu]
                    refine wpAnyH_done (by kernel_rfl) ?_ _
                    go_wp2
                    go_ret
                    exact ⟨ret_bool (by rw [HG.out]; simp), below_next hbW hbW.size hHeld⟩
                  · skip
                    by_cases t9 : 200 < a.val.size
                    · skip
                      refine wp_region_held_drew (S := fun W' => Below W.heap.size W W') (by kernel_rfl) ((Below.refl _ _).drew) (fun hHeld => ?_)
                      refine wpAnyH_take (i := 0) (oi := ⟨(some 3), _, _, _, _, _⟩) (v := .pointer (some ⟨w.heap.size, 0, none⟩)) rfl (by kernel_rfl) (by kernel_rfl) (by kernel_rfl) (fun _ _ _ h => h) (Or.inl ⟨by rfl, ?yr1_0⟩) hHeld ?_
                      case yr1_0 => (intro W0 hSw; go_simp; try with_reducible rfl)
                      try simp only [pu]
                      refine wpAnyH_take (i := 1) (oi := ⟨(some 4), _, _, _, _, _⟩) (v := .pointer (some ⟨w.heap.size, 0, none⟩)) rfl (by kernel_rfl) (by kernel_rfl) (by kernel_rfl) (fun _ _ _ h => h) (Or.inl ⟨by rfl, ?yr1_1⟩) hHeld ?_
                      case yr1_1 => (intro W0 hSw; go_simp; try with_reducible rfl)
                      try simp only [pu]
                      refine wpAnyH_take (i := 2) (oi := ⟨(some 5), _, _, _, _, _⟩) (v := .int .i64 a.dev) rfl (by kernel_rfl) (by kernel_rfl) (by kernel_rfl) (fun _ _ _ h => h) (Or.inl ⟨by rfl, ?yr1_2⟩) hHeld ?_
                      case yr1_2 => (intro W0 hSw; have cc := ed_dev (row_next2 hgA hSw); go_simp; try with_reducible rfl)
                      try simp only [pu]
                      refine wpAnyH_take (i := 3) (oi := ⟨(some 6), _, _, _, _, _⟩) (v := .bool false) rfl (by kernel_rfl) (by kernel_rfl) (by kernel_rfl) (fun _ _ _ h => h) (Or.inl ⟨by rfl, ?yr1_3⟩) hHeld ?_
                      case yr1_3 => (intro W0 hSw; go_simp; (try simp [t0]); (try omega))
                      try simp only [pu]
                      refine wpAnyH_take (i := 4) (oi := ⟨(some 7), _, _, _, _, _⟩) (v := .bool false) rfl (by kernel_rfl) (by kernel_rfl) (by kernel_rfl) (fun _ _ _ h => h) (Or.inl ⟨by rfl, ?yr1_4⟩) hHeld ?_
                      case yr1_4 => (intro W0 hSw; go_simp; try with_reducible rfl)
                      try simp only [pu]
                      refine wpAnyH_take (i := 5) (oi := ⟨(some 8), _, _, _, _, _⟩) (v := .pointer (some ⟨w.heap.size, 0, none⟩)) rfl (by kernel_rfl) (by kernel_rfl) (by kernel_rfl) (fun _ _ _ h => h) (Or.inl ⟨by rfl, ?yr1_5⟩) hHeld ?_
                      case yr1_5 => (intro W0 hSw; go_simp; try with_reducible rfl)
                      try simp only [pu]
                      refine wpAnyH_take (i := 6) (oi := ⟨(some 9), _, _, _, _, _⟩) (v := .pointer (some ⟨w.heap.size, 0, none⟩)) rfl (by kernel_rfl) (by kernel_rfl) (by kernel_rfl) (fun _ _ _ h => h) (Or.inl ⟨by rfl, ?yr1_6⟩) hHeld ?_
                      case yr1_6 => (intro W0 hSw; go_simp; try with_reducible rfl)
                      try simp only [pu]
                      refine wpAnyH_take (i := 7) (oi := ⟨(some 10), _, _, _, _, _⟩) (v := .int .i64 a.dev) rfl (by kernel_rfl) (by kernel_rfl) (by kernel_rfl) (fun _ _ _ h => h) (Or.inl ⟨by rfl, ?yr1_7⟩) hHeld ?_
                      case yr1_7 => (intro W0 hSw; have cc := ed_dev (row_next2 hgA hSw); go_simp; try with_reducible rfl)
                      try simp only [pu]
                      refine wpAnyH_take (i := 8) (oi := ⟨(some 11), _, _, _, _, _⟩) (v := .bool false) rfl (by kernel_rfl) (by kernel_rfl) (by kernel_rfl) (fun _ _ _ h => h) (Or.inl ⟨by rfl, ?yr1_8⟩) hHeld ?_
                      case yr1_8 => (intro W0 hSw; go_simp; (try simp [t1]); (try omega))
                      try simp only [pu]
                      refine wpAnyH_take (i := 9) (oi := ⟨(some 12), _, _, _, _, _⟩) (v := .bool false) rfl (by kernel_rfl) (by kernel_rfl) (by kernel_rfl) (fun _ _ _ h => h) (Or.inl ⟨by rfl, ?yr1_9⟩) hHeld ?_
                      case yr1_9 => (intro W0 hSw; go_simp; try with_reducible rfl)
                      try simp only [pu]
                      refine wpAnyH_take (i := 10) (oi := ⟨(some 13), _, _, _, _, _⟩) (v := .bool false) rfl (by kernel_rfl) (by kernel_rfl) (by kernel_rfl) (fun _ _ _ h => h) (Or.inl ⟨by rfl, ?yr1_10⟩) hHeld ?_
                      case yr1_10 => (intro W0 hSw; go_simp; try with_reducible rfl)
                      try simp only [pu]
                      refine wpAnyH_take (i := 11) (oi := ⟨(some 14), _, _, _, _, _⟩) (v := .pointer (some ⟨w.heap.size, 0, none⟩)) rfl (by kernel_rfl) (by kernel_rfl) (by kernel_rfl) (fun _ _ _ h => h) (Or.inl ⟨by rfl, ?yr1_11⟩) hHeld ?_
                      case yr1_11 => (intro W0 hSw; go_simp; try with_reducible rfl)
                      try simp only [pu]
                      refine wpAnyH_take (i := 12) (oi := ⟨(some 15), _, _, _, _, _⟩) (v := .pointer (some ⟨w.heap.size, 1, none⟩)) rfl (by kernel_rfl) (by kernel_rfl) (by kernel_rfl) (fun _ _ _ h => h) (Or.inl ⟨by rfl, ?yr1_12⟩) hHeld ?_
                      case yr1_12 => (intro W0 hSw; go_simp; try with_reducible rfl)
                      try simp only [pu]
                      refine wpAnyH_take (i := 13) (oi := ⟨(some 16), _, _, _, _, _⟩) (v := .int .i64 a.num) rfl (by kernel_rfl) (by kernel_rfl) (by kernel_rfl) (fun _ _ _ h => h) (Or.inl ⟨by rfl, ?yr1_13⟩) hHeld ?_
                      case yr1_13 => (intro W0 hSw; have cc := ed_num (row_next2 hgA hSw); go_simp; try with_reducible rfl)
                      try simp only [pu]
                      refine wpAnyH_take (i := 14) (oi := ⟨(some 17), _, _, _, _, _⟩) (v := .bool false) rfl (by kernel_rfl) (by kernel_rfl) (by kernel_rfl) (fun _ _ _ h => h) (Or.inl ⟨by rfl, ?yr1_14⟩) hHeld ?_
                      case yr1_14 => (intro W0 hSw; go_simp; (try simp [t2]); (try omega))
                      try simp only [pu]
                      refine wpAnyH_take (i := 15) (oi := ⟨(some 18), _, _, _, _, _⟩) (v := .bool false) rfl (by kernel_rfl) (by kernel_rfl) (by kernel_rfl) (fun _ _ _ h => h) (Or.inl ⟨by rfl, ?yr1_15⟩) hHeld ?_
                      case yr1_15 => (intro W0 hSw; go_simp; try with_reducible rfl)
                      try simp only [pu]
                      refine wpAnyH_take (i := 16) (oi := ⟨(some 19), _, _, _, _, _⟩) (v := .bool false) rfl (by kernel_rfl) (by kernel_rfl) (by kernel_rfl) (fun _ _ _ h => h) (Or.inl ⟨by rfl, ?yr1_16⟩) hHeld ?_
                      case yr1_16 => (intro W0 hSw; go_simp; try with_reducible rfl)
                      try simp only [pu]
                      refine wpAnyH_take (i := 17) (oi := ⟨(some 20), _, _, _, _, _⟩) (v := .pointer (some ⟨w.heap.size, 0, none⟩)) rfl (by kernel_rfl) (by kernel_rfl) (by kernel_rfl) (fun _ _ _ h => h) (Or.inl ⟨by rfl, ?yr1_17⟩) hHeld ?_
                      case yr1_17 => (intro W0 hSw; go_simp; try with_reducible rfl)
                      try simp only [pu]
                      refine wpAnyH_take (i := 18) (oi := ⟨(some 21), _, _, _, _, _⟩) (v := .pointer (some ⟨w.heap.size, 1, none⟩)) rfl (by kernel_rfl) (by kernel_rfl) (by kernel_rfl) (fun _ _ _ h => h) (Or.inl ⟨by rfl, ?yr1_18⟩) hHeld ?_
                      case yr1_18 => (intro W0 hSw; go_simp; try with_reducible rfl)
                      try simp only [pu]
                      refine wpAnyH_take (i := 19) (oi := ⟨(some 22), _, _, _, _, _⟩) (v := .int .i64 a.num) rfl (by kernel_rfl) (by kernel_rfl) (by kernel_rfl) (fun _ _ _ h => h) (Or.inl ⟨by rfl, ?yr1_19⟩) hHeld ?_
                      case yr1_19 => (intro W0 hSw; have cc := ed_num (row_next2 hgA hSw); go_simp; try with_reducible rfl)
                      try simp only [pu]
                      refine wpAnyH_take (i := 20) (oi := ⟨(some 23), _, _, _, _, _⟩) (v := .bool false) rfl (by kernel_rfl) (by kernel_rfl) (by kernel_rfl) (fun _ _ _ h => h) (Or.inl ⟨by rfl, ?yr1_20⟩) hHeld ?_
                      case yr1_20 => (intro W0 hSw; go_simp; (try simp [t3]); (try omega))
                      try simp only [pu]
                      refine wpAnyH_take (i := 21) (oi := ⟨(some 24), _, _, _, _, _⟩) (v := .bool false) rfl (by kernel_rfl) (by kernel_rfl) (by kernel_rfl) (fun _ _ _ h => h) (Or.inl ⟨by rfl, ?yr1_21⟩) hHeld ?_
                      case yr1_21 => (intro W0 hSw; go_simp; try with_reducible rfl)
                      try simp only [pu]
                      refine wpAnyH_take (i := 22) (oi := ⟨(some 25), _, _, _, _, _⟩) (v := .bool false) rfl (by kernel_rfl) (by kernel_rfl) (by kernel_rfl) (fun _ _ _ h => h) (Or.inl ⟨by rfl, ?yr1_22⟩) hHeld ?_
                      case yr1_22 => (intro W0 hSw; go_simp; try with_reducible rfl)
                      try simp only [pu]
                      refine wpAnyH_take (i := 23) (oi := ⟨(some 26), _, _, _, _, _⟩) (v := .pointer (some ⟨w.heap.size, 2, none⟩)) rfl (by kernel_rfl) (by kernel_rfl) (by kernel_rfl) (fun _ _ _ h => h) (Or.inl ⟨by rfl, ?yr1_23⟩) hHeld ?_
                      case yr1_23 => (intro W0 hSw; go_simp; try with_reducible rfl)
                      try simp only [pu]
                      refine wpAnyH_take (i := 24) (oi := ⟨(some 27), _, _, _, _, _⟩) (v := .agg (i64v a.seen).toArray) rfl (by kernel_rfl) (by kernel_rfl) (by kernel_rfl) (fun _ _ _ h => h) (yieldsIf_load_mid (by rfl) _ _ rfl (w.heap.size) 2 rfl (i64v a.seen) _ (fun W' hW' => ed_seenR (row_next2 hgA hW')) (Try.underlying36) rfl (by rw [i64v_len, HA.out]; kernel_rfl)) hHeld ?_
                      try simp only [pu]
                      refine wpAnyH_ready (rs := [25]) (by kernel_rfl) (by simp) ?_
                      refine AllReadyH.cons (i := 25) (o := ⟨(some 28), _, _, _, _, _⟩) rfl (fun K hK => ?_) AllReadyH.nil
                      go_simp
                      refine (d1 _).mono ?_
                      rintro e r1W1 ⟨rfl, r1h1⟩
                      refine hK.out _ _ (below_next hHeld hHeld.size r1h1) (fun hHeld => ?_)
                      clear hK K r1h1
                      try simp only [pu]
                      refine wpAnyH_take (i := 26) (oi := ⟨(some 29), _, _, _, _, _⟩) (v := .bool false) rfl (by kernel_rfl) (by kernel_rfl) (by kernel_rfl) (fun _ _ _ h => h) (Or.inl ⟨by rfl, ?yr1_26⟩) hHeld ?_
                      case yr1_26 => (intro W0 hSw; go_simp; try with_reducible rfl)
                      try simp only [pu]
                      refine wpAnyH_take (i := 27) (oi := ⟨(some 30), _, _, _, _, _⟩) (v := .bool false) rfl (by kernel_rfl) (by kernel_rfl) (by kernel_rfl) (fun _ _ _ h => h) (Or.inl ⟨by rfl, ?yr1_27⟩) hHeld ?_
                      case yr1_27 => (intro W0 hSw; go_simp; try with_reducible rfl)
                      try simp only [pu]
                      refine wpAnyH_take (i := 28) (oi := ⟨(some 31), _, _, _, _, _⟩) (v := .bool false) rfl (by kernel_rfl) (by kernel_rfl) (by kernel_rfl) (fun _ _ _ h => h) (Or.inl ⟨by rfl, ?yr1_28⟩) hHeld ?_
                      case yr1_28 => (intro W0 hSw; go_simp; try with_reducible rfl)
                      try simp only [pu]
                      refine wpAnyH_take (i := 29) (oi := ⟨(some 32), _, _, _, _, _⟩) (v := .pointer (some ⟨w.heap.size, 0, none⟩)) rfl (by kernel_rfl) (by kernel_rfl) (by kernel_rfl) (fun _ _ _ h => h) (Or.inl ⟨by rfl, ?yr1_29⟩) hHeld ?_
                      case yr1_29 => (intro W0 hSw; go_simp; try with_reducible rfl)
                      try simp only [pu]
                      refine wpAnyH_take (i := 30) (oi := ⟨(some 33), _, _, _, _, _⟩) (v := .pointer (some ⟨w.heap.size, 0, none⟩)) rfl (by kernel_rfl) (by kernel_rfl) (by kernel_rfl) (fun _ _ _ h => h) (Or.inl ⟨by rfl, ?yr1_30⟩) hHeld ?_
                      case yr1_30 => (intro W0 hSw; go_simp; try with_reducible rfl)
                      try simp only [pu]
                      refine wpAnyH_take (i := 31) (oi := ⟨(some 34), _, _, _, _, _⟩) (v := .int .i64 a.dev) rfl (by kernel_rfl) (by kernel_rfl) (by kernel_rfl) (fun _ _ _ h => h) (Or.inl ⟨by rfl, ?yr1_31⟩) hHeld ?_
                      case yr1_31 => (intro W0 hSw; have cc := ed_dev (row_next2 hgA hSw); go_simp; try with_reducible rfl)
                      try simp only [pu]
                      refine wpAnyH_take (i := 32) (oi := ⟨(some 35), _, _, _, _, _⟩) (v := .pointer (some ⟨w.heap.size, 2, none⟩)) rfl (by kernel_rfl) (by kernel_rfl) (by kernel_rfl) (fun _ _ _ h => h) (Or.inl ⟨by rfl, ?yr1_32⟩) hHeld ?_
                      case yr1_32 => (intro W0 hSw; go_simp; try with_reducible rfl)
                      try simp only [pu]
                      refine wpAnyH_take (i := 33) (oi := ⟨(some 36), _, _, _, _, _⟩) (v := .pointer (some ⟨w.heap.size, 2 + k, none⟩)) rfl (by kernel_rfl) (by kernel_rfl) (by kernel_rfl) (fun _ _ _ h => h) (Or.inl ⟨by rfl, ?yr1_33⟩) hHeld ?_
                      case yr1_33 => (intro W0 hSw; skip; go_simp; try (intro hc; omega))
                      try simp only [pu]
                      refine wpAnyH_take (i := 34) (oi := ⟨(some 37), _, _, _, _, _⟩) (v := .int .i64 (iat a.seen k)) rfl (by kernel_rfl) (by kernel_rfl) (by kernel_rfl) (fun _ _ _ h => h) (Or.inl ⟨by rfl, ?yr1_34⟩) hHeld ?_
                      case yr1_34 => (intro W0 hSw; have cc := ed_seen (row_next2 hgA hSw) k (by rw [HA.out]; omega); go_simp; try with_reducible rfl)
                      try simp only [pu]
                      refine wpAnyH_take (i := 35) (oi := ⟨(some 38), _, _, _, _, _⟩) (v := .pointer (some ⟨w.heap.size, 0, none⟩)) rfl (by kernel_rfl) (by kernel_rfl) (by kernel_rfl) (fun _ _ _ h => h) (Or.inl ⟨by rfl, ?yr1_35⟩) hHeld ?_
                      case yr1_35 => (intro W0 hSw; go_simp; try with_reducible rfl)
                      try simp only [pu]
                      refine wpAnyH_take (i := 36) (oi := ⟨(some 39), _, _, _, _, _⟩) (v := .pointer (some ⟨w.heap.size, 1, none⟩)) rfl (by kernel_rfl) (by kernel_rfl) (by kernel_rfl) (fun _ _ _ h => h) (Or.inl ⟨by rfl, ?yr1_36⟩) hHeld ?_
                      case yr1_36 => (intro W0 hSw; go_simp; try with_reducible rfl)
                      try simp only [pu]
                      refine wpAnyH_take (i := 37) (oi := ⟨(some 40), _, _, _, _, _⟩) (v := .int .i64 a.num) rfl (by kernel_rfl) (by kernel_rfl) (by kernel_rfl) (fun _ _ _ h => h) (Or.inl ⟨by rfl, ?yr1_37⟩) hHeld ?_
                      case yr1_37 => (intro W0 hSw; have cc := ed_num (row_next2 hgA hSw); go_simp; try with_reducible rfl)
                      try simp only [pu]
                      refine wpAnyH_take (i := 38) (oi := ⟨(some 41), _, _, _, _, _⟩) (v := .int .i64 (a.num - 1)) rfl (by kernel_rfl) (by kernel_rfl) (by kernel_rfl) (fun _ _ _ h => h) (Or.inl ⟨by rfl, ?yr1_38⟩) hHeld ?_
                      case yr1_38 => (intro W0 hSw; go_simp; try simp only [hw]; try with_reducible rfl)
                      try simp only [pu]
                      refine wpAnyH_take (i := 39) (oi := ⟨(some 42), _, _, _, _, _⟩) (v := .bool false) rfl (by kernel_rfl) (by kernel_rfl) (by kernel_rfl) (fun _ _ _ h => h) (Or.inl ⟨by rfl, ?yr1_39⟩) hHeld ?_
                      case yr1_39 => (intro W0 hSw; go_simp; (try simp [t5]); (try omega))
                      try simp only [pu]
                      refine wpAnyH_take (i := 40) (oi := ⟨(some 43), _, _, _, _, _⟩) (v := .bool false) rfl (by kernel_rfl) (by kernel_rfl) (by kernel_rfl) (fun _ _ _ h => h) (Or.inl ⟨by rfl, ?yr1_40⟩) hHeld ?_
                      case yr1_40 => (intro W0 hSw; go_simp; try with_reducible rfl)
                      try simp only [pu]
                      refine wpAnyH_take (i := 41) (oi := ⟨(some 44), _, _, _, _, _⟩) (v := .bool false) rfl (by kernel_rfl) (by kernel_rfl) (by kernel_rfl) (fun _ _ _ h => h) (Or.inl ⟨by rfl, ?yr1_41⟩) hHeld ?_
                      case yr1_41 => (intro W0 hSw; go_simp; try with_reducible rfl)
                      try simp only [pu]
                      refine wpAnyH_take (i := 42) (oi := ⟨(some 45), _, _, _, _, _⟩) (v := .pointer (some ⟨w.heap.size, 14, none⟩)) rfl (by kernel_rfl) (by kernel_rfl) (by kernel_rfl) (fun _ _ _ h => h) (Or.inl ⟨by rfl, ?yr1_42⟩) hHeld ?_
                      case yr1_42 => (intro W0 hSw; go_simp; try with_reducible rfl)
                      try simp only [pu]
                      refine wpAnyH_take (i := 43) (oi := ⟨(some 46), _, _, _, _, _⟩) (v := .int .i64 a.time) rfl (by kernel_rfl) (by kernel_rfl) (by kernel_rfl) (fun _ _ _ h => h) (Or.inl ⟨by rfl, ?yr1_43⟩) hHeld ?_
                      case yr1_43 => (intro W0 hSw; have cc := ed_time (row_next2 hgA hSw) HA.out; go_simp; try with_reducible rfl)
                      try simp only [pu]
                      refine wpAnyH_take (i := 44) (oi := ⟨(some 47), _, _, _, _, _⟩) (v := .bool false) rfl (by kernel_rfl) (by kernel_rfl) (by kernel_rfl) (fun _ _ _ h => h) (Or.inl ⟨by rfl, ?yr1_44⟩) hHeld ?_
                      case yr1_44 => (intro W0 hSw; go_simp; (try simp [t6]); (try omega))
                      try simp only [pu]
                      refine wpAnyH_take (i := 45) (oi := ⟨(some 48), _, _, _, _, _⟩) (v := .bool false) rfl (by kernel_rfl) (by kernel_rfl) (by kernel_rfl) (fun _ _ _ h => h) (Or.inl ⟨by rfl, ?yr1_45⟩) hHeld ?_
                      case yr1_45 => (intro W0 hSw; go_simp; try with_reducible rfl)
                      try simp only [pu]
                      refine wpAnyH_take (i := 46) (oi := ⟨(some 49), _, _, _, _, _⟩) (v := .bool false) rfl (by kernel_rfl) (by kernel_rfl) (by kernel_rfl) (fun _ _ _ h => h) (Or.inl ⟨by rfl, ?yr1_46⟩) hHeld ?_
                      case yr1_46 => (intro W0 hSw; go_simp; try with_reducible rfl)
                      try simp only [pu]
                      refine wpAnyH_take (i := 47) (oi := ⟨(some 50), _, _, _, _, _⟩) (v := .pointer (some ⟨w.heap.size, 14, none⟩)) rfl (by kernel_rfl) (by kernel_rfl) (by kernel_rfl) (fun _ _ _ h => h) (Or.inl ⟨by rfl, ?yr1_47⟩) hHeld ?_
                      case yr1_47 => (intro W0 hSw; go_simp; try with_reducible rfl)
                      try simp only [pu]
                      refine wpAnyH_take (i := 48) (oi := ⟨(some 51), _, _, _, _, _⟩) (v := .int .i64 a.time) rfl (by kernel_rfl) (by kernel_rfl) (by kernel_rfl) (fun _ _ _ h => h) (Or.inl ⟨by rfl, ?yr1_48⟩) hHeld ?_
                      case yr1_48 => (intro W0 hSw; have cc := ed_time (row_next2 hgA hSw) HA.out; go_simp; try with_reducible rfl)
                      try simp only [pu]
                      refine wpAnyH_take (i := 49) (oi := ⟨(some 52), _, _, _, _, _⟩) (v := .bool false) rfl (by kernel_rfl) (by kernel_rfl) (by kernel_rfl) (fun _ _ _ h => h) (Or.inl ⟨by rfl, ?yr1_49⟩) hHeld ?_
                      case yr1_49 => (intro W0 hSw; go_simp; (try simp [t7]); (try omega))
                      try simp only [pu]
                      refine wpAnyH_take (i := 50) (oi := ⟨(some 53), _, _, _, _, _⟩) (v := .bool false) rfl (by kernel_rfl) (by kernel_rfl) (by kernel_rfl) (fun _ _ _ h => h) (Or.inl ⟨by rfl, ?yr1_50⟩) hHeld ?_
                      case yr1_50 => (intro W0 hSw; go_simp; try with_reducible rfl)
                      try simp only [pu]
                      refine wpAnyH_take (i := 51) (oi := ⟨(some 54), _, _, _, _, _⟩) (v := .bool false) rfl (by kernel_rfl) (by kernel_rfl) (by kernel_rfl) (fun _ _ _ h => h) (Or.inl ⟨by rfl, ?yr1_51⟩) hHeld ?_
                      case yr1_51 => (intro W0 hSw; go_simp; try with_reducible rfl)
                      try simp only [pu]
                      refine wpAnyH_take (i := 52) (oi := ⟨(some 55), _, _, _, _, _⟩) (v := .pointer (some ⟨w.heap.size, 11, none⟩)) rfl (by kernel_rfl) (by kernel_rfl) (by kernel_rfl) (fun _ _ _ h => h) (Or.inl ⟨by rfl, ?yr1_52⟩) hHeld ?_
                      case yr1_52 => (intro W0 hSw; go_simp; try with_reducible rfl)
                      try simp only [pu]
                      refine wpAnyH_take (i := 53) (oi := ⟨(some 56), _, _, _, _, _⟩) (v := .string a.con) rfl (by kernel_rfl) (by kernel_rfl) (by kernel_rfl) (fun _ _ _ h => h) (Or.inl ⟨by rfl, ?yr1_53⟩) hHeld ?_
                      case yr1_53 => (intro W0 hSw; have cc := ed_con (row_next2 hgA hSw) HA.out; go_simp; try with_reducible rfl)
                      try simp only [pu]
                      refine wpAnyH_ready (rs := [54]) (by kernel_rfl) (by simp) ?_
                      refine AllReadyH.cons (i := 54) (o := ⟨(some 57), _, _, _, _, _⟩) rfl (fun K hK => ?_) AllReadyH.nil
                      go_simp
                      refine (d2 _).mono ?_
                      rintro e r1W2 ⟨rfl, r1h2⟩
                      refine hK.out _ _ (r1h2 ▸ hHeld) (fun hHeld => ?_)
                      clear hK K r1h2
                      try simp only [pu]
                      refine wpAnyH_take (i := 55) (oi := ⟨(some 58), _, _, _, _, _⟩) (v := .bool false) rfl (by kernel_rfl) (by kernel_rfl) (by kernel_rfl) (fun _ _ _ h => h) (Or.inl ⟨by rfl, ?yr1_55⟩) hHeld ?_
                      case yr1_55 => (intro W0 hSw; go_simp; try with_reducible rfl)
                      try simp only [pu]
                      refine wpAnyH_take (i := 56) (oi := ⟨(some 59), _, _, _, _, _⟩) (v := .bool false) rfl (by kernel_rfl) (by kernel_rfl) (by kernel_rfl) (fun _ _ _ h => h) (Or.inl ⟨by rfl, ?yr1_56⟩) hHeld ?_
                      case yr1_56 => (intro W0 hSw; go_simp; try with_reducible rfl)
                      try simp only [pu]
                      refine wpAnyH_take (i := 57) (oi := ⟨(some 60), _, _, _, _, _⟩) (v := .bool false) rfl (by kernel_rfl) (by kernel_rfl) (by kernel_rfl) (fun _ _ _ h => h) (Or.inl ⟨by rfl, ?yr1_57⟩) hHeld ?_
                      case yr1_57 => (intro W0 hSw; go_simp; try with_reducible rfl)
                      try simp only [pu]
                      refine wpAnyH_take (i := 58) (oi := ⟨(some 61), _, _, _, _, _⟩) (v := .pointer (some ⟨w.heap.size, 13, none⟩)) rfl (by kernel_rfl) (by kernel_rfl) (by kernel_rfl) (fun _ _ _ h => h) (Or.inl ⟨by rfl, ?yr1_58⟩) hHeld ?_
                      case yr1_58 => (intro W0 hSw; go_simp; try with_reducible rfl)
                      try simp only [pu]
                      refine wpAnyH_take (i := 59) (oi := ⟨(some 62), _, _, _, _, _⟩) (v := .string a.val) rfl (by kernel_rfl) (by kernel_rfl) (by kernel_rfl) (fun _ _ _ h => h) (Or.inl ⟨by rfl, ?yr1_59⟩) hHeld ?_
                      case yr1_59 => (intro W0 hSw; have cc := ed_val (row_next2 hgA hSw) HA.out; go_simp; try with_reducible rfl)
                      try simp only [pu]
                      refine wpAnyH_take (i := 60) (oi := ⟨(some 63), _, _, _, _, _⟩) (v := .int .i64 (a.val.size : Int)) rfl (by kernel_rfl) (by kernel_rfl) (by kernel_rfl) (fun _ _ _ h => h) (Or.inl ⟨by rfl, ?yr1_60⟩) hHeld ?_
                      case yr1_60 => (intro W0 hSw; go_simp; try with_reducible rfl)
                      try simp only [pu]
                      refine wpAnyH_take (i := 61) (oi := ⟨(some 64), _, _, _, _, _⟩) (v := .bool true) rfl (by kernel_rfl) (by kernel_rfl) (by kernel_rfl) (fun _ _ _ h => h) (Or.inl ⟨by rfl, ?yr1_61⟩) hHeld ?_
                      case yr1_61 => (intro W0 hSw; go_simp; (try simp [t9]); (try omega))
                      try simp only [pu]
                      refine wpAnyH_take (i := 62) (oi := ⟨(some 65), _, _, _, _, _⟩) (v := .bool true) rfl (by kernel_rfl) (by kernel_rfl) (by kernel_rfl) (fun _ _ _ h => h) (Or.inl ⟨by rfl, ?yr1_62⟩) hHeld ?_
                      case yr1_62 => (intro W0 hSw; go_simp; try with_reducible rfl)
                      try simp only [pu]
                      refine wpAnyH_done (by kernel_rfl) ?_ _
                      go_wp2
                      go_ret
                      exact ⟨ret_bool (by rw [HG.out, tsays_long t9]; simp), below_next hbW hbW.size hHeld⟩
                    · skip
                      refine wp_region_held_drew (S := fun W' => Below W.heap.size W W') (by kernel_rfl) ((Below.refl _ _).drew) (fun hHeld => ?_)
                      refine wpAnyH_take (i := 0) (oi := ⟨(some 3), _, _, _, _, _⟩) (v := .pointer (some ⟨w.heap.size, 0, none⟩)) rfl (by kernel_rfl) (by kernel_rfl) (by kernel_rfl) (fun _ _ _ h => h) (Or.inl ⟨by rfl, ?yr1_0⟩) hHeld ?_
                      case yr1_0 => (intro W0 hSw; go_simp; try with_reducible rfl)
                      try simp only [pu]
                      refine wpAnyH_take (i := 1) (oi := ⟨(some 4), _, _, _, _, _⟩) (v := .pointer (some ⟨w.heap.size, 0, none⟩)) rfl (by kernel_rfl) (by kernel_rfl) (by kernel_rfl) (fun _ _ _ h => h) (Or.inl ⟨by rfl, ?yr1_1⟩) hHeld ?_
                      case yr1_1 => (intro W0 hSw; go_simp; try with_reducible rfl)
                      try simp only [pu]
                      refine wpAnyH_take (i := 2) (oi := ⟨(some 5), _, _, _, _, _⟩) (v := .int .i64 a.dev) rfl (by kernel_rfl) (by kernel_rfl) (by kernel_rfl) (fun _ _ _ h => h) (Or.inl ⟨by rfl, ?yr1_2⟩) hHeld ?_
                      case yr1_2 => (intro W0 hSw; have cc := ed_dev (row_next2 hgA hSw); go_simp; try with_reducible rfl)
                      try simp only [pu]
                      refine wpAnyH_take (i := 3) (oi := ⟨(some 6), _, _, _, _, _⟩) (v := .bool false) rfl (by kernel_rfl) (by kernel_rfl) (by kernel_rfl) (fun _ _ _ h => h) (Or.inl ⟨by rfl, ?yr1_3⟩) hHeld ?_
                      case yr1_3 => (intro W0 hSw; go_simp; (try simp [t0]); (try omega))
                      try simp only [pu]
                      refine wpAnyH_take (i := 4) (oi := ⟨(some 7), _, _, _, _, _⟩) (v := .bool false) rfl (by kernel_rfl) (by kernel_rfl) (by kernel_rfl) (fun _ _ _ h => h) (Or.inl ⟨by rfl, ?yr1_4⟩) hHeld ?_
                      case yr1_4 => (intro W0 hSw; go_simp; try with_reducible rfl)
                      try simp only [pu]
                      refine wpAnyH_take (i := 5) (oi := ⟨(some 8), _, _, _, _, _⟩) (v := .pointer (some ⟨w.heap.size, 0, none⟩)) rfl (by kernel_rfl) (by kernel_rfl) (by kernel_rfl) (fun _ _ _ h => h) (Or.inl ⟨by rfl, ?yr1_5⟩) hHeld ?_
                      case yr1_5 => (intro W0 hSw; go_simp; try with_reducible rfl)
                      try simp only [pu]
                      refine wpAnyH_take (i := 6) (oi := ⟨(some 9), _, _, _, _, _⟩) (v := .pointer (some ⟨w.heap.size, 0, none⟩)) rfl (by kernel_rfl) (by kernel_rfl) (by kernel_rfl) (fun _ _ _ h => h) (Or.inl ⟨by rfl, ?yr1_6⟩) hHeld ?_
                      case yr1_6 => (intro W0 hSw; go_simp; try with_reducible rfl)
                      try simp only [pu]
                      refine wpAnyH_take (i := 7) (oi := ⟨(some 10), _, _, _, _, _⟩) (v := .int .i64 a.dev) rfl (by kernel_rfl) (by kernel_rfl) (by kernel_rfl) (fun _ _ _ h => h) (Or.inl ⟨by rfl, ?yr1_7⟩) hHeld ?_
                      case yr1_7 => (intro W0 hSw; have cc := ed_dev (row_next2 hgA hSw); go_simp; try with_reducible rfl)
                      try simp only [pu]
                      refine wpAnyH_take (i := 8) (oi := ⟨(some 11), _, _, _, _, _⟩) (v := .bool false) rfl (by kernel_rfl) (by kernel_rfl) (by kernel_rfl) (fun _ _ _ h => h) (Or.inl ⟨by rfl, ?yr1_8⟩) hHeld ?_
                      case yr1_8 => (intro W0 hSw; go_simp; (try simp [t1]); (try omega))
                      try simp only [pu]
                      refine wpAnyH_take (i := 9) (oi := ⟨(some 12), _, _, _, _, _⟩) (v := .bool false) rfl (by kernel_rfl) (by kernel_rfl) (by kernel_rfl) (fun _ _ _ h => h) (Or.inl ⟨by rfl, ?yr1_9⟩) hHeld ?_
                      case yr1_9 => (intro W0 hSw; go_simp; try with_reducible rfl)
                      try simp only [pu]
                      refine wpAnyH_take (i := 10) (oi := ⟨(some 13), _, _, _, _, _⟩) (v := .bool false) rfl (by kernel_rfl) (by kernel_rfl) (by kernel_rfl) (fun _ _ _ h => h) (Or.inl ⟨by rfl, ?yr1_10⟩) hHeld ?_
                      case yr1_10 => (intro W0 hSw; go_simp; try with_reducible rfl)
                      try simp only [pu]
                      refine wpAnyH_take (i := 11) (oi := ⟨(some 14), _, _, _, _, _⟩) (v := .pointer (some ⟨w.heap.size, 0, none⟩)) rfl (by kernel_rfl) (by kernel_rfl) (by kernel_rfl) (fun _ _ _ h => h) (Or.inl ⟨by rfl, ?yr1_11⟩) hHeld ?_
                      case yr1_11 => (intro W0 hSw; go_simp; try with_reducible rfl)
                      try simp only [pu]
                      refine wpAnyH_take (i := 12) (oi := ⟨(some 15), _, _, _, _, _⟩) (v := .pointer (some ⟨w.heap.size, 1, none⟩)) rfl (by kernel_rfl) (by kernel_rfl) (by kernel_rfl) (fun _ _ _ h => h) (Or.inl ⟨by rfl, ?yr1_12⟩) hHeld ?_
                      case yr1_12 => (intro W0 hSw; go_simp; try with_reducible rfl)
                      try simp only [pu]
                      refine wpAnyH_take (i := 13) (oi := ⟨(some 16), _, _, _, _, _⟩) (v := .int .i64 a.num) rfl (by kernel_rfl) (by kernel_rfl) (by kernel_rfl) (fun _ _ _ h => h) (Or.inl ⟨by rfl, ?yr1_13⟩) hHeld ?_
                      case yr1_13 => (intro W0 hSw; have cc := ed_num (row_next2 hgA hSw); go_simp; try with_reducible rfl)
                      try simp only [pu]
                      refine wpAnyH_take (i := 14) (oi := ⟨(some 17), _, _, _, _, _⟩) (v := .bool false) rfl (by kernel_rfl) (by kernel_rfl) (by kernel_rfl) (fun _ _ _ h => h) (Or.inl ⟨by rfl, ?yr1_14⟩) hHeld ?_
                      case yr1_14 => (intro W0 hSw; go_simp; (try simp [t2]); (try omega))
                      try simp only [pu]
                      refine wpAnyH_take (i := 15) (oi := ⟨(some 18), _, _, _, _, _⟩) (v := .bool false) rfl (by kernel_rfl) (by kernel_rfl) (by kernel_rfl) (fun _ _ _ h => h) (Or.inl ⟨by rfl, ?yr1_15⟩) hHeld ?_
                      case yr1_15 => (intro W0 hSw; go_simp; try with_reducible rfl)
                      try simp only [pu]
                      refine wpAnyH_take (i := 16) (oi := ⟨(some 19), _, _, _, _, _⟩) (v := .bool false) rfl (by kernel_rfl) (by kernel_rfl) (by kernel_rfl) (fun _ _ _ h => h) (Or.inl ⟨by rfl, ?yr1_16⟩) hHeld ?_
                      case yr1_16 => (intro W0 hSw; go_simp; try with_reducible rfl)
                      try simp only [pu]
                      refine wpAnyH_take (i := 17) (oi := ⟨(some 20), _, _, _, _, _⟩) (v := .pointer (some ⟨w.heap.size, 0, none⟩)) rfl (by kernel_rfl) (by kernel_rfl) (by kernel_rfl) (fun _ _ _ h => h) (Or.inl ⟨by rfl, ?yr1_17⟩) hHeld ?_
                      case yr1_17 => (intro W0 hSw; go_simp; try with_reducible rfl)
                      try simp only [pu]
                      refine wpAnyH_take (i := 18) (oi := ⟨(some 21), _, _, _, _, _⟩) (v := .pointer (some ⟨w.heap.size, 1, none⟩)) rfl (by kernel_rfl) (by kernel_rfl) (by kernel_rfl) (fun _ _ _ h => h) (Or.inl ⟨by rfl, ?yr1_18⟩) hHeld ?_
                      case yr1_18 => (intro W0 hSw; go_simp; try with_reducible rfl)
                      try simp only [pu]
                      refine wpAnyH_take (i := 19) (oi := ⟨(some 22), _, _, _, _, _⟩) (v := .int .i64 a.num) rfl (by kernel_rfl) (by kernel_rfl) (by kernel_rfl) (fun _ _ _ h => h) (Or.inl ⟨by rfl, ?yr1_19⟩) hHeld ?_
                      case yr1_19 => (intro W0 hSw; have cc := ed_num (row_next2 hgA hSw); go_simp; try with_reducible rfl)
                      try simp only [pu]
                      refine wpAnyH_take (i := 20) (oi := ⟨(some 23), _, _, _, _, _⟩) (v := .bool false) rfl (by kernel_rfl) (by kernel_rfl) (by kernel_rfl) (fun _ _ _ h => h) (Or.inl ⟨by rfl, ?yr1_20⟩) hHeld ?_
                      case yr1_20 => (intro W0 hSw; go_simp; (try simp [t3]); (try omega))
                      try simp only [pu]
                      refine wpAnyH_take (i := 21) (oi := ⟨(some 24), _, _, _, _, _⟩) (v := .bool false) rfl (by kernel_rfl) (by kernel_rfl) (by kernel_rfl) (fun _ _ _ h => h) (Or.inl ⟨by rfl, ?yr1_21⟩) hHeld ?_
                      case yr1_21 => (intro W0 hSw; go_simp; try with_reducible rfl)
                      try simp only [pu]
                      refine wpAnyH_take (i := 22) (oi := ⟨(some 25), _, _, _, _, _⟩) (v := .bool false) rfl (by kernel_rfl) (by kernel_rfl) (by kernel_rfl) (fun _ _ _ h => h) (Or.inl ⟨by rfl, ?yr1_22⟩) hHeld ?_
                      case yr1_22 => (intro W0 hSw; go_simp; try with_reducible rfl)
                      try simp only [pu]
                      refine wpAnyH_take (i := 23) (oi := ⟨(some 26), _, _, _, _, _⟩) (v := .pointer (some ⟨w.heap.size, 2, none⟩)) rfl (by kernel_rfl) (by kernel_rfl) (by kernel_rfl) (fun _ _ _ h => h) (Or.inl ⟨by rfl, ?yr1_23⟩) hHeld ?_
                      case yr1_23 => (intro W0 hSw; go_simp; try with_reducible rfl)
                      try simp only [pu]
                      refine wpAnyH_take (i := 24) (oi := ⟨(some 27), _, _, _, _, _⟩) (v := .agg (i64v a.seen).toArray) rfl (by kernel_rfl) (by kernel_rfl) (by kernel_rfl) (fun _ _ _ h => h) (yieldsIf_load_mid (by rfl) _ _ rfl (w.heap.size) 2 rfl (i64v a.seen) _ (fun W' hW' => ed_seenR (row_next2 hgA hW')) (Try.underlying36) rfl (by rw [i64v_len, HA.out]; kernel_rfl)) hHeld ?_
                      try simp only [pu]
                      refine wpAnyH_ready (rs := [25]) (by kernel_rfl) (by simp) ?_
                      refine AllReadyH.cons (i := 25) (o := ⟨(some 28), _, _, _, _, _⟩) rfl (fun K hK => ?_) AllReadyH.nil
                      go_simp
                      refine (d1 _).mono ?_
                      rintro e r1W1 ⟨rfl, r1h1⟩
                      refine hK.out _ _ (below_next hHeld hHeld.size r1h1) (fun hHeld => ?_)
                      clear hK K r1h1
                      try simp only [pu]
                      refine wpAnyH_take (i := 26) (oi := ⟨(some 29), _, _, _, _, _⟩) (v := .bool false) rfl (by kernel_rfl) (by kernel_rfl) (by kernel_rfl) (fun _ _ _ h => h) (Or.inl ⟨by rfl, ?yr1_26⟩) hHeld ?_
                      case yr1_26 => (intro W0 hSw; go_simp; try with_reducible rfl)
                      try simp only [pu]
                      refine wpAnyH_take (i := 27) (oi := ⟨(some 30), _, _, _, _, _⟩) (v := .bool false) rfl (by kernel_rfl) (by kernel_rfl) (by kernel_rfl) (fun _ _ _ h => h) (Or.inl ⟨by rfl, ?yr1_27⟩) hHeld ?_
                      case yr1_27 => (intro W0 hSw; go_simp; try with_reducible rfl)
                      try simp only [pu]
                      refine wpAnyH_take (i := 28) (oi := ⟨(some 31), _, _, _, _, _⟩) (v := .bool false) rfl (by kernel_rfl) (by kernel_rfl) (by kernel_rfl) (fun _ _ _ h => h) (Or.inl ⟨by rfl, ?yr1_28⟩) hHeld ?_
                      case yr1_28 => (intro W0 hSw; go_simp; try with_reducible rfl)
                      try simp only [pu]
                      refine wpAnyH_take (i := 29) (oi := ⟨(some 32), _, _, _, _, _⟩) (v := .pointer (some ⟨w.heap.size, 0, none⟩)) rfl (by kernel_rfl) (by kernel_rfl) (by kernel_rfl) (fun _ _ _ h => h) (Or.inl ⟨by rfl, ?yr1_29⟩) hHeld ?_
                      case yr1_29 => (intro W0 hSw; go_simp; try with_reducible rfl)
                      try simp only [pu]
                      refine wpAnyH_take (i := 30) (oi := ⟨(some 33), _, _, _, _, _⟩) (v := .pointer (some ⟨w.heap.size, 0, none⟩)) rfl (by kernel_rfl) (by kernel_rfl) (by kernel_rfl) (fun _ _ _ h => h) (Or.inl ⟨by rfl, ?yr1_30⟩) hHeld ?_
                      case yr1_30 => (intro W0 hSw; go_simp; try with_reducible rfl)
                      try simp only [pu]
                      refine wpAnyH_take (i := 31) (oi := ⟨(some 34), _, _, _, _, _⟩) (v := .int .i64 a.dev) rfl (by kernel_rfl) (by kernel_rfl) (by kernel_rfl) (fun _ _ _ h => h) (Or.inl ⟨by rfl, ?yr1_31⟩) hHeld ?_
                      case yr1_31 => (intro W0 hSw; have cc := ed_dev (row_next2 hgA hSw); go_simp; try with_reducible rfl)
                      try simp only [pu]
                      refine wpAnyH_take (i := 32) (oi := ⟨(some 35), _, _, _, _, _⟩) (v := .pointer (some ⟨w.heap.size, 2, none⟩)) rfl (by kernel_rfl) (by kernel_rfl) (by kernel_rfl) (fun _ _ _ h => h) (Or.inl ⟨by rfl, ?yr1_32⟩) hHeld ?_
                      case yr1_32 => (intro W0 hSw; go_simp; try with_reducible rfl)
                      try simp only [pu]
                      refine wpAnyH_take (i := 33) (oi := ⟨(some 36), _, _, _, _, _⟩) (v := .pointer (some ⟨w.heap.size, 2 + k, none⟩)) rfl (by kernel_rfl) (by kernel_rfl) (by kernel_rfl) (fun _ _ _ h => h) (Or.inl ⟨by rfl, ?yr1_33⟩) hHeld ?_
                      case yr1_33 => (intro W0 hSw; skip; go_simp; try (intro hc; omega))
                      try simp only [pu]
                      refine wpAnyH_take (i := 34) (oi := ⟨(some 37), _, _, _, _, _⟩) (v := .int .i64 (iat a.seen k)) rfl (by kernel_rfl) (by kernel_rfl) (by kernel_rfl) (fun _ _ _ h => h) (Or.inl ⟨by rfl, ?yr1_34⟩) hHeld ?_
                      case yr1_34 => (intro W0 hSw; have cc := ed_seen (row_next2 hgA hSw) k (by rw [HA.out]; omega); go_simp; try with_reducible rfl)
                      try simp only [pu]
                      refine wpAnyH_take (i := 35) (oi := ⟨(some 38), _, _, _, _, _⟩) (v := .pointer (some ⟨w.heap.size, 0, none⟩)) rfl (by kernel_rfl) (by kernel_rfl) (by kernel_rfl) (fun _ _ _ h => h) (Or.inl ⟨by rfl, ?yr1_35⟩) hHeld ?_
                      case yr1_35 => (intro W0 hSw; go_simp; try with_reducible rfl)
                      try simp only [pu]
                      refine wpAnyH_take (i := 36) (oi := ⟨(some 39), _, _, _, _, _⟩) (v := .pointer (some ⟨w.heap.size, 1, none⟩)) rfl (by kernel_rfl) (by kernel_rfl) (by kernel_rfl) (fun _ _ _ h => h) (Or.inl ⟨by rfl, ?yr1_36⟩) hHeld ?_
                      case yr1_36 => (intro W0 hSw; go_simp; try with_reducible rfl)
                      try simp only [pu]
                      refine wpAnyH_take (i := 37) (oi := ⟨(some 40), _, _, _, _, _⟩) (v := .int .i64 a.num) rfl (by kernel_rfl) (by kernel_rfl) (by kernel_rfl) (fun _ _ _ h => h) (Or.inl ⟨by rfl, ?yr1_37⟩) hHeld ?_
                      case yr1_37 => (intro W0 hSw; have cc := ed_num (row_next2 hgA hSw); go_simp; try with_reducible rfl)
                      try simp only [pu]
                      refine wpAnyH_take (i := 38) (oi := ⟨(some 41), _, _, _, _, _⟩) (v := .int .i64 (a.num - 1)) rfl (by kernel_rfl) (by kernel_rfl) (by kernel_rfl) (fun _ _ _ h => h) (Or.inl ⟨by rfl, ?yr1_38⟩) hHeld ?_
                      case yr1_38 => (intro W0 hSw; go_simp; try simp only [hw]; try with_reducible rfl)
                      try simp only [pu]
                      refine wpAnyH_take (i := 39) (oi := ⟨(some 42), _, _, _, _, _⟩) (v := .bool false) rfl (by kernel_rfl) (by kernel_rfl) (by kernel_rfl) (fun _ _ _ h => h) (Or.inl ⟨by rfl, ?yr1_39⟩) hHeld ?_
                      case yr1_39 => (intro W0 hSw; go_simp; (try simp [t5]); (try omega))
                      try simp only [pu]
                      refine wpAnyH_take (i := 40) (oi := ⟨(some 43), _, _, _, _, _⟩) (v := .bool false) rfl (by kernel_rfl) (by kernel_rfl) (by kernel_rfl) (fun _ _ _ h => h) (Or.inl ⟨by rfl, ?yr1_40⟩) hHeld ?_
                      case yr1_40 => (intro W0 hSw; go_simp; try with_reducible rfl)
                      try simp only [pu]
                      refine wpAnyH_take (i := 41) (oi := ⟨(some 44), _, _, _, _, _⟩) (v := .bool false) rfl (by kernel_rfl) (by kernel_rfl) (by kernel_rfl) (fun _ _ _ h => h) (Or.inl ⟨by rfl, ?yr1_41⟩) hHeld ?_
                      case yr1_41 => (intro W0 hSw; go_simp; try with_reducible rfl)
                      try simp only [pu]
                      refine wpAnyH_take (i := 42) (oi := ⟨(some 45), _, _, _, _, _⟩) (v := .pointer (some ⟨w.heap.size, 14, none⟩)) rfl (by kernel_rfl) (by kernel_rfl) (by kernel_rfl) (fun _ _ _ h => h) (Or.inl ⟨by rfl, ?yr1_42⟩) hHeld ?_
                      case yr1_42 => (intro W0 hSw; go_simp; try with_reducible rfl)
                      try simp only [pu]
                      refine wpAnyH_take (i := 43) (oi := ⟨(some 46), _, _, _, _, _⟩) (v := .int .i64 a.time) rfl (by kernel_rfl) (by kernel_rfl) (by kernel_rfl) (fun _ _ _ h => h) (Or.inl ⟨by rfl, ?yr1_43⟩) hHeld ?_
                      case yr1_43 => (intro W0 hSw; have cc := ed_time (row_next2 hgA hSw) HA.out; go_simp; try with_reducible rfl)
                      try simp only [pu]
                      refine wpAnyH_take (i := 44) (oi := ⟨(some 47), _, _, _, _, _⟩) (v := .bool false) rfl (by kernel_rfl) (by kernel_rfl) (by kernel_rfl) (fun _ _ _ h => h) (Or.inl ⟨by rfl, ?yr1_44⟩) hHeld ?_
                      case yr1_44 => (intro W0 hSw; go_simp; (try simp [t6]); (try omega))
                      try simp only [pu]
                      refine wpAnyH_take (i := 45) (oi := ⟨(some 48), _, _, _, _, _⟩) (v := .bool false) rfl (by kernel_rfl) (by kernel_rfl) (by kernel_rfl) (fun _ _ _ h => h) (Or.inl ⟨by rfl, ?yr1_45⟩) hHeld ?_
                      case yr1_45 => (intro W0 hSw; go_simp; try with_reducible rfl)
                      try simp only [pu]
                      refine wpAnyH_take (i := 46) (oi := ⟨(some 49), _, _, _, _, _⟩) (v := .bool false) rfl (by kernel_rfl) (by kernel_rfl) (by kernel_rfl) (fun _ _ _ h => h) (Or.inl ⟨by rfl, ?yr1_46⟩) hHeld ?_
                      case yr1_46 => (intro W0 hSw; go_simp; try with_reducible rfl)
                      try simp only [pu]
                      refine wpAnyH_take (i := 47) (oi := ⟨(some 50), _, _, _, _, _⟩) (v := .pointer (some ⟨w.heap.size, 14, none⟩)) rfl (by kernel_rfl) (by kernel_rfl) (by kernel_rfl) (fun _ _ _ h => h) (Or.inl ⟨by rfl, ?yr1_47⟩) hHeld ?_
                      case yr1_47 => (intro W0 hSw; go_simp; try with_reducible rfl)
                      try simp only [pu]
                      refine wpAnyH_take (i := 48) (oi := ⟨(some 51), _, _, _, _, _⟩) (v := .int .i64 a.time) rfl (by kernel_rfl) (by kernel_rfl) (by kernel_rfl) (fun _ _ _ h => h) (Or.inl ⟨by rfl, ?yr1_48⟩) hHeld ?_
                      case yr1_48 => (intro W0 hSw; have cc := ed_time (row_next2 hgA hSw) HA.out; go_simp; try with_reducible rfl)
                      try simp only [pu]
                      refine wpAnyH_take (i := 49) (oi := ⟨(some 52), _, _, _, _, _⟩) (v := .bool false) rfl (by kernel_rfl) (by kernel_rfl) (by kernel_rfl) (fun _ _ _ h => h) (Or.inl ⟨by rfl, ?yr1_49⟩) hHeld ?_
                      case yr1_49 => (intro W0 hSw; go_simp; (try simp [t7]); (try omega))
                      try simp only [pu]
                      refine wpAnyH_take (i := 50) (oi := ⟨(some 53), _, _, _, _, _⟩) (v := .bool false) rfl (by kernel_rfl) (by kernel_rfl) (by kernel_rfl) (fun _ _ _ h => h) (Or.inl ⟨by rfl, ?yr1_50⟩) hHeld ?_
                      case yr1_50 => (intro W0 hSw; go_simp; try with_reducible rfl)
                      try simp only [pu]
                      refine wpAnyH_take (i := 51) (oi := ⟨(some 54), _, _, _, _, _⟩) (v := .bool false) rfl (by kernel_rfl) (by kernel_rfl) (by kernel_rfl) (fun _ _ _ h => h) (Or.inl ⟨by rfl, ?yr1_51⟩) hHeld ?_
                      case yr1_51 => (intro W0 hSw; go_simp; try with_reducible rfl)
                      try simp only [pu]
                      refine wpAnyH_take (i := 52) (oi := ⟨(some 55), _, _, _, _, _⟩) (v := .pointer (some ⟨w.heap.size, 11, none⟩)) rfl (by kernel_rfl) (by kernel_rfl) (by kernel_rfl) (fun _ _ _ h => h) (Or.inl ⟨by rfl, ?yr1_52⟩) hHeld ?_
                      case yr1_52 => (intro W0 hSw; go_simp; try with_reducible rfl)
                      try simp only [pu]
                      refine wpAnyH_take (i := 53) (oi := ⟨(some 56), _, _, _, _, _⟩) (v := .string a.con) rfl (by kernel_rfl) (by kernel_rfl) (by kernel_rfl) (fun _ _ _ h => h) (Or.inl ⟨by rfl, ?yr1_53⟩) hHeld ?_
                      case yr1_53 => (intro W0 hSw; have cc := ed_con (row_next2 hgA hSw) HA.out; go_simp; try with_reducible rfl)
                      try simp only [pu]
                      refine wpAnyH_ready (rs := [54]) (by kernel_rfl) (by simp) ?_
                      refine AllReadyH.cons (i := 54) (o := ⟨(some 57), _, _, _, _, _⟩) rfl (fun K hK => ?_) AllReadyH.nil
                      go_simp
                      refine (d2 _).mono ?_
                      rintro e r1W2 ⟨rfl, r1h2⟩
                      refine hK.out _ _ (r1h2 ▸ hHeld) (fun hHeld => ?_)
                      clear hK K r1h2
                      try simp only [pu]
                      refine wpAnyH_take (i := 55) (oi := ⟨(some 58), _, _, _, _, _⟩) (v := .bool false) rfl (by kernel_rfl) (by kernel_rfl) (by kernel_rfl) (fun _ _ _ h => h) (Or.inl ⟨by rfl, ?yr1_55⟩) hHeld ?_
                      case yr1_55 => (intro W0 hSw; go_simp; try with_reducible rfl)
                      try simp only [pu]
                      refine wpAnyH_take (i := 56) (oi := ⟨(some 59), _, _, _, _, _⟩) (v := .bool false) rfl (by kernel_rfl) (by kernel_rfl) (by kernel_rfl) (fun _ _ _ h => h) (Or.inl ⟨by rfl, ?yr1_56⟩) hHeld ?_
                      case yr1_56 => (intro W0 hSw; go_simp; try with_reducible rfl)
                      try simp only [pu]
                      refine wpAnyH_take (i := 57) (oi := ⟨(some 60), _, _, _, _, _⟩) (v := .bool false) rfl (by kernel_rfl) (by kernel_rfl) (by kernel_rfl) (fun _ _ _ h => h) (Or.inl ⟨by rfl, ?yr1_57⟩) hHeld ?_
                      case yr1_57 => (intro W0 hSw; go_simp; try with_reducible rfl)
                      try simp only [pu]
                      refine wpAnyH_take (i := 58) (oi := ⟨(some 61), _, _, _, _, _⟩) (v := .pointer (some ⟨w.heap.size, 13, none⟩)) rfl (by kernel_rfl) (by kernel_rfl) (by kernel_rfl) (fun _ _ _ h => h) (Or.inl ⟨by rfl, ?yr1_58⟩) hHeld ?_
                      case yr1_58 => (intro W0 hSw; go_simp; try with_reducible rfl)
                      try simp only [pu]
                      refine wpAnyH_take (i := 59) (oi := ⟨(some 62), _, _, _, _, _⟩) (v := .string a.val) rfl (by kernel_rfl) (by kernel_rfl) (by kernel_rfl) (fun _ _ _ h => h) (Or.inl ⟨by rfl, ?yr1_59⟩) hHeld ?_
                      case yr1_59 => (intro W0 hSw; have cc := ed_val (row_next2 hgA hSw) HA.out; go_simp; try with_reducible rfl)
                      try simp only [pu]
                      refine wpAnyH_take (i := 60) (oi := ⟨(some 63), _, _, _, _, _⟩) (v := .int .i64 (a.val.size : Int)) rfl (by kernel_rfl) (by kernel_rfl) (by kernel_rfl) (fun _ _ _ h => h) (Or.inl ⟨by rfl, ?yr1_60⟩) hHeld ?_
                      case yr1_60 => (intro W0 hSw; go_simp; try with_reducible rfl)
                      try simp only [pu]
                      refine wpAnyH_take (i := 61) (oi := ⟨(some 64), _, _, _, _, _⟩) (v := .bool false) rfl (by kernel_rfl) (by kernel_rfl) (by kernel_rfl) (fun _ _ _ h => h) (Or.inl ⟨by rfl, ?yr1_61⟩) hHeld ?_
                      case yr1_61 => (intro W0 hSw; go_simp; (try simp [t9]); (try omega))
                      try simp only [pu]
                      refine wpAnyH_take (i := 62) (oi := ⟨(some 65), _, _, _, _, _⟩) (v := .bool false) rfl (by kernel_rfl) (by kernel_rfl) (by kernel_rfl) (fun _ _ _ h => h) (Or.inl ⟨by rfl, ?yr1_62⟩) hHeld ?_
                      case yr1_62 => (intro W0 hSw; go_simp; try with_reducible rfl)
                      try simp only [pu]
                      refine wpAnyH_done (by kernel_rfl) ?_ _
                      obtain ⟨V, hV⟩ : ∃ V, V = r1W2 := ⟨_, rfl⟩
                      subst hV
                      have hgV := row_next2 hgA hHeld
                      have hbV := below_next hbW hbW.size hHeld
                      have ck := ed_kind hgV HA.out
                      have cf := ed_fld hgV HA.out
                      have cv := ed_val hgV HA.out
                      have HT := vlt (show o = tsays a.kind a.fld a.val by rw [HG.out, decide_eq_true ⟨by omega, by omega, by omega, by omega⟩, decide_eq_true t5z, decide_eq_true ⟨by omega, by omega⟩]; rfl)
                      have hv9 : a.val.size ≤ 200 := by omega
                      clear hHeld hgA hgV HG HA hbW
                      generalize a.kind = kd at *
                      generalize a.fld = f at *
                      generalize a.val = v at *
                      by_cases k2 : kd = 2
                      · subst k2
                        have HV := vlt (show o = (decide (f.size = 0) && decide (v.size = 0)) by rw [HT.out]; rfl)
                        clear HT H3 d1 d2 d3
                        go_wp2
                        · go_ret
                          rename_i h
                          rw [empty_iff] at h
                          exact ⟨ret_bool (by rw [HV.out, empty_is, h]; rfl), hbV⟩
                        · go_ret
                          rename_i h
                          rw [empty_iff] at h
                          exact ⟨ret_bool (by rw [HV.out, decide_eq_false h]; rfl), hbV⟩
                      · have k2' : (kd == 2) = false := by simp [k2]
                        by_cases k1 : kd = 1
                        · subst k1
                          have HV := vlt (show o = x3 by rw [HT.out, H3.out, tsays, if_pos rfl, decide_eq_true hv9]; simp)
                          clear HT H3 d1 d2
                          go_wp2_with fail
                          refine (d3 _).mono ?_
                          rintro e w3 ⟨rfl, rfl⟩
                          go_wp2
                          go_ret
                          exact ⟨ret_bool HV.out.symm, hbV⟩
                        · have k1' : (kd == 1) = false := by simp [k1]
                          have HV := vlt (show o = false by rw [HT.out, tsays, if_neg k1, if_neg k2])
                          clear HT H3 d1 d2 d3
                          go_wp2
                          go_ret
                          exact ⟨ret_bool HV.out.symm, hbV⟩
            · have t5y : ¬ iat a.seen a.dev.toNat = a.num - 1 := by rw [← HKN.out]; exact t5
              refine wp_region_held_drew (S := fun W' => Below W.heap.size W W') (by kernel_rfl) ((Below.refl _ _).drew) (fun hHeld => ?_)
              refine wpAnyH_take (i := 0) (oi := ⟨(some 3), _, _, _, _, _⟩) (v := .pointer (some ⟨w.heap.size, 0, none⟩)) rfl (by kernel_rfl) (by kernel_rfl) (by kernel_rfl) (fun _ _ _ h => h) (Or.inl ⟨by rfl, ?yr1_0⟩) hHeld ?_
              case yr1_0 => (intro W0 hSw; go_simp; try with_reducible rfl)
              try simp only [pu]
              refine wpAnyH_take (i := 1) (oi := ⟨(some 4), _, _, _, _, _⟩) (v := .pointer (some ⟨w.heap.size, 0, none⟩)) rfl (by kernel_rfl) (by kernel_rfl) (by kernel_rfl) (fun _ _ _ h => h) (Or.inl ⟨by rfl, ?yr1_1⟩) hHeld ?_
              case yr1_1 => (intro W0 hSw; go_simp; try with_reducible rfl)
              try simp only [pu]
              refine wpAnyH_take (i := 2) (oi := ⟨(some 5), _, _, _, _, _⟩) (v := .int .i64 a.dev) rfl (by kernel_rfl) (by kernel_rfl) (by kernel_rfl) (fun _ _ _ h => h) (Or.inl ⟨by rfl, ?yr1_2⟩) hHeld ?_
              case yr1_2 => (intro W0 hSw; have cc := ed_dev (row_next2 hgA hSw); go_simp; try with_reducible rfl)
              try simp only [pu]
              refine wpAnyH_take (i := 3) (oi := ⟨(some 6), _, _, _, _, _⟩) (v := .bool false) rfl (by kernel_rfl) (by kernel_rfl) (by kernel_rfl) (fun _ _ _ h => h) (Or.inl ⟨by rfl, ?yr1_3⟩) hHeld ?_
              case yr1_3 => (intro W0 hSw; go_simp; (try simp [t0]); (try omega))
              try simp only [pu]
              refine wpAnyH_take (i := 4) (oi := ⟨(some 7), _, _, _, _, _⟩) (v := .bool false) rfl (by kernel_rfl) (by kernel_rfl) (by kernel_rfl) (fun _ _ _ h => h) (Or.inl ⟨by rfl, ?yr1_4⟩) hHeld ?_
              case yr1_4 => (intro W0 hSw; go_simp; try with_reducible rfl)
              try simp only [pu]
              refine wpAnyH_take (i := 5) (oi := ⟨(some 8), _, _, _, _, _⟩) (v := .pointer (some ⟨w.heap.size, 0, none⟩)) rfl (by kernel_rfl) (by kernel_rfl) (by kernel_rfl) (fun _ _ _ h => h) (Or.inl ⟨by rfl, ?yr1_5⟩) hHeld ?_
              case yr1_5 => (intro W0 hSw; go_simp; try with_reducible rfl)
              try simp only [pu]
              refine wpAnyH_take (i := 6) (oi := ⟨(some 9), _, _, _, _, _⟩) (v := .pointer (some ⟨w.heap.size, 0, none⟩)) rfl (by kernel_rfl) (by kernel_rfl) (by kernel_rfl) (fun _ _ _ h => h) (Or.inl ⟨by rfl, ?yr1_6⟩) hHeld ?_
              case yr1_6 => (intro W0 hSw; go_simp; try with_reducible rfl)
              try simp only [pu]
              refine wpAnyH_take (i := 7) (oi := ⟨(some 10), _, _, _, _, _⟩) (v := .int .i64 a.dev) rfl (by kernel_rfl) (by kernel_rfl) (by kernel_rfl) (fun _ _ _ h => h) (Or.inl ⟨by rfl, ?yr1_7⟩) hHeld ?_
              case yr1_7 => (intro W0 hSw; have cc := ed_dev (row_next2 hgA hSw); go_simp; try with_reducible rfl)
              try simp only [pu]
              refine wpAnyH_take (i := 8) (oi := ⟨(some 11), _, _, _, _, _⟩) (v := .bool false) rfl (by kernel_rfl) (by kernel_rfl) (by kernel_rfl) (fun _ _ _ h => h) (Or.inl ⟨by rfl, ?yr1_8⟩) hHeld ?_
              case yr1_8 => (intro W0 hSw; go_simp; (try simp [t1]); (try omega))
              try simp only [pu]
              refine wpAnyH_take (i := 9) (oi := ⟨(some 12), _, _, _, _, _⟩) (v := .bool false) rfl (by kernel_rfl) (by kernel_rfl) (by kernel_rfl) (fun _ _ _ h => h) (Or.inl ⟨by rfl, ?yr1_9⟩) hHeld ?_
              case yr1_9 => (intro W0 hSw; go_simp; try with_reducible rfl)
              try simp only [pu]
              refine wpAnyH_take (i := 10) (oi := ⟨(some 13), _, _, _, _, _⟩) (v := .bool false) rfl (by kernel_rfl) (by kernel_rfl) (by kernel_rfl) (fun _ _ _ h => h) (Or.inl ⟨by rfl, ?yr1_10⟩) hHeld ?_
              case yr1_10 => (intro W0 hSw; go_simp; try with_reducible rfl)
              try simp only [pu]
              refine wpAnyH_take (i := 11) (oi := ⟨(some 14), _, _, _, _, _⟩) (v := .pointer (some ⟨w.heap.size, 0, none⟩)) rfl (by kernel_rfl) (by kernel_rfl) (by kernel_rfl) (fun _ _ _ h => h) (Or.inl ⟨by rfl, ?yr1_11⟩) hHeld ?_
              case yr1_11 => (intro W0 hSw; go_simp; try with_reducible rfl)
              try simp only [pu]
              refine wpAnyH_take (i := 12) (oi := ⟨(some 15), _, _, _, _, _⟩) (v := .pointer (some ⟨w.heap.size, 1, none⟩)) rfl (by kernel_rfl) (by kernel_rfl) (by kernel_rfl) (fun _ _ _ h => h) (Or.inl ⟨by rfl, ?yr1_12⟩) hHeld ?_
              case yr1_12 => (intro W0 hSw; go_simp; try with_reducible rfl)
              try simp only [pu]
              refine wpAnyH_take (i := 13) (oi := ⟨(some 16), _, _, _, _, _⟩) (v := .int .i64 a.num) rfl (by kernel_rfl) (by kernel_rfl) (by kernel_rfl) (fun _ _ _ h => h) (Or.inl ⟨by rfl, ?yr1_13⟩) hHeld ?_
              case yr1_13 => (intro W0 hSw; have cc := ed_num (row_next2 hgA hSw); go_simp; try with_reducible rfl)
              try simp only [pu]
              refine wpAnyH_take (i := 14) (oi := ⟨(some 17), _, _, _, _, _⟩) (v := .bool false) rfl (by kernel_rfl) (by kernel_rfl) (by kernel_rfl) (fun _ _ _ h => h) (Or.inl ⟨by rfl, ?yr1_14⟩) hHeld ?_
              case yr1_14 => (intro W0 hSw; go_simp; (try simp [t2]); (try omega))
              try simp only [pu]
              refine wpAnyH_take (i := 15) (oi := ⟨(some 18), _, _, _, _, _⟩) (v := .bool false) rfl (by kernel_rfl) (by kernel_rfl) (by kernel_rfl) (fun _ _ _ h => h) (Or.inl ⟨by rfl, ?yr1_15⟩) hHeld ?_
              case yr1_15 => (intro W0 hSw; go_simp; try with_reducible rfl)
              try simp only [pu]
              refine wpAnyH_take (i := 16) (oi := ⟨(some 19), _, _, _, _, _⟩) (v := .bool false) rfl (by kernel_rfl) (by kernel_rfl) (by kernel_rfl) (fun _ _ _ h => h) (Or.inl ⟨by rfl, ?yr1_16⟩) hHeld ?_
              case yr1_16 => (intro W0 hSw; go_simp; try with_reducible rfl)
              try simp only [pu]
              refine wpAnyH_take (i := 17) (oi := ⟨(some 20), _, _, _, _, _⟩) (v := .pointer (some ⟨w.heap.size, 0, none⟩)) rfl (by kernel_rfl) (by kernel_rfl) (by kernel_rfl) (fun _ _ _ h => h) (Or.inl ⟨by rfl, ?yr1_17⟩) hHeld ?_
              case yr1_17 => (intro W0 hSw; go_simp; try with_reducible rfl)
              try simp only [pu]
              refine wpAnyH_take (i := 18) (oi := ⟨(some 21), _, _, _, _, _⟩) (v := .pointer (some ⟨w.heap.size, 1, none⟩)) rfl (by kernel_rfl) (by kernel_rfl) (by kernel_rfl) (fun _ _ _ h => h) (Or.inl ⟨by rfl, ?yr1_18⟩) hHeld ?_
              case yr1_18 => (intro W0 hSw; go_simp; try with_reducible rfl)
              try simp only [pu]
              refine wpAnyH_take (i := 19) (oi := ⟨(some 22), _, _, _, _, _⟩) (v := .int .i64 a.num) rfl (by kernel_rfl) (by kernel_rfl) (by kernel_rfl) (fun _ _ _ h => h) (Or.inl ⟨by rfl, ?yr1_19⟩) hHeld ?_
              case yr1_19 => (intro W0 hSw; have cc := ed_num (row_next2 hgA hSw); go_simp; try with_reducible rfl)
              try simp only [pu]
              refine wpAnyH_take (i := 20) (oi := ⟨(some 23), _, _, _, _, _⟩) (v := .bool false) rfl (by kernel_rfl) (by kernel_rfl) (by kernel_rfl) (fun _ _ _ h => h) (Or.inl ⟨by rfl, ?yr1_20⟩) hHeld ?_
              case yr1_20 => (intro W0 hSw; go_simp; (try simp [t3]); (try omega))
              try simp only [pu]
              refine wpAnyH_take (i := 21) (oi := ⟨(some 24), _, _, _, _, _⟩) (v := .bool false) rfl (by kernel_rfl) (by kernel_rfl) (by kernel_rfl) (fun _ _ _ h => h) (Or.inl ⟨by rfl, ?yr1_21⟩) hHeld ?_
              case yr1_21 => (intro W0 hSw; go_simp; try with_reducible rfl)
              try simp only [pu]
              refine wpAnyH_take (i := 22) (oi := ⟨(some 25), _, _, _, _, _⟩) (v := .bool false) rfl (by kernel_rfl) (by kernel_rfl) (by kernel_rfl) (fun _ _ _ h => h) (Or.inl ⟨by rfl, ?yr1_22⟩) hHeld ?_
              case yr1_22 => (intro W0 hSw; go_simp; try with_reducible rfl)
              try simp only [pu]
              refine wpAnyH_take (i := 23) (oi := ⟨(some 26), _, _, _, _, _⟩) (v := .pointer (some ⟨w.heap.size, 2, none⟩)) rfl (by kernel_rfl) (by kernel_rfl) (by kernel_rfl) (fun _ _ _ h => h) (Or.inl ⟨by rfl, ?yr1_23⟩) hHeld ?_
              case yr1_23 => (intro W0 hSw; go_simp; try with_reducible rfl)
              try simp only [pu]
              refine wpAnyH_take (i := 24) (oi := ⟨(some 27), _, _, _, _, _⟩) (v := .agg (i64v a.seen).toArray) rfl (by kernel_rfl) (by kernel_rfl) (by kernel_rfl) (fun _ _ _ h => h) (yieldsIf_load_mid (by rfl) _ _ rfl (w.heap.size) 2 rfl (i64v a.seen) _ (fun W' hW' => ed_seenR (row_next2 hgA hW')) (Try.underlying36) rfl (by rw [i64v_len, HA.out]; kernel_rfl)) hHeld ?_
              try simp only [pu]
              refine wpAnyH_ready (rs := [25]) (by kernel_rfl) (by simp) ?_
              refine AllReadyH.cons (i := 25) (o := ⟨(some 28), _, _, _, _, _⟩) rfl (fun K hK => ?_) AllReadyH.nil
              go_simp
              refine (d1 _).mono ?_
              rintro e r1W1 ⟨rfl, r1h1⟩
              refine hK.out _ _ (below_next hHeld hHeld.size r1h1) (fun hHeld => ?_)
              clear hK K r1h1
              try simp only [pu]
              refine wpAnyH_take (i := 26) (oi := ⟨(some 29), _, _, _, _, _⟩) (v := .bool false) rfl (by kernel_rfl) (by kernel_rfl) (by kernel_rfl) (fun _ _ _ h => h) (Or.inl ⟨by rfl, ?yr1_26⟩) hHeld ?_
              case yr1_26 => (intro W0 hSw; go_simp; try with_reducible rfl)
              try simp only [pu]
              refine wpAnyH_take (i := 27) (oi := ⟨(some 30), _, _, _, _, _⟩) (v := .bool false) rfl (by kernel_rfl) (by kernel_rfl) (by kernel_rfl) (fun _ _ _ h => h) (Or.inl ⟨by rfl, ?yr1_27⟩) hHeld ?_
              case yr1_27 => (intro W0 hSw; go_simp; try with_reducible rfl)
              try simp only [pu]
              refine wpAnyH_take (i := 28) (oi := ⟨(some 31), _, _, _, _, _⟩) (v := .bool false) rfl (by kernel_rfl) (by kernel_rfl) (by kernel_rfl) (fun _ _ _ h => h) (Or.inl ⟨by rfl, ?yr1_28⟩) hHeld ?_
              case yr1_28 => (intro W0 hSw; go_simp; try with_reducible rfl)
              try simp only [pu]
              refine wpAnyH_take (i := 29) (oi := ⟨(some 32), _, _, _, _, _⟩) (v := .pointer (some ⟨w.heap.size, 0, none⟩)) rfl (by kernel_rfl) (by kernel_rfl) (by kernel_rfl) (fun _ _ _ h => h) (Or.inl ⟨by rfl, ?yr1_29⟩) hHeld ?_
              case yr1_29 => (intro W0 hSw; go_simp; try with_reducible rfl)
              try simp only [pu]
              refine wpAnyH_take (i := 30) (oi := ⟨(some 33), _, _, _, _, _⟩) (v := .pointer (some ⟨w.heap.size, 0, none⟩)) rfl (by kernel_rfl) (by kernel_rfl) (by kernel_rfl) (fun _ _ _ h => h) (Or.inl ⟨by rfl, ?yr1_30⟩) hHeld ?_
              case yr1_30 => (intro W0 hSw; go_simp; try with_reducible rfl)
              try simp only [pu]
              refine wpAnyH_take (i := 31) (oi := ⟨(some 34), _, _, _, _, _⟩) (v := .int .i64 a.dev) rfl (by kernel_rfl) (by kernel_rfl) (by kernel_rfl) (fun _ _ _ h => h) (Or.inl ⟨by rfl, ?yr1_31⟩) hHeld ?_
              case yr1_31 => (intro W0 hSw; have cc := ed_dev (row_next2 hgA hSw); go_simp; try with_reducible rfl)
              try simp only [pu]
              refine wpAnyH_take (i := 32) (oi := ⟨(some 35), _, _, _, _, _⟩) (v := .pointer (some ⟨w.heap.size, 2, none⟩)) rfl (by kernel_rfl) (by kernel_rfl) (by kernel_rfl) (fun _ _ _ h => h) (Or.inl ⟨by rfl, ?yr1_32⟩) hHeld ?_
              case yr1_32 => (intro W0 hSw; go_simp; try with_reducible rfl)
              try simp only [pu]
              refine wpAnyH_take (i := 33) (oi := ⟨(some 36), _, _, _, _, _⟩) (v := .pointer (some ⟨w.heap.size, 2 + k, none⟩)) rfl (by kernel_rfl) (by kernel_rfl) (by kernel_rfl) (fun _ _ _ h => h) (Or.inl ⟨by rfl, ?yr1_33⟩) hHeld ?_
              case yr1_33 => (intro W0 hSw; skip; go_simp; try (intro hc; omega))
              try simp only [pu]
              refine wpAnyH_take (i := 34) (oi := ⟨(some 37), _, _, _, _, _⟩) (v := .int .i64 (iat a.seen k)) rfl (by kernel_rfl) (by kernel_rfl) (by kernel_rfl) (fun _ _ _ h => h) (Or.inl ⟨by rfl, ?yr1_34⟩) hHeld ?_
              case yr1_34 => (intro W0 hSw; have cc := ed_seen (row_next2 hgA hSw) k (by rw [HA.out]; omega); go_simp; try with_reducible rfl)
              try simp only [pu]
              refine wpAnyH_take (i := 35) (oi := ⟨(some 38), _, _, _, _, _⟩) (v := .pointer (some ⟨w.heap.size, 0, none⟩)) rfl (by kernel_rfl) (by kernel_rfl) (by kernel_rfl) (fun _ _ _ h => h) (Or.inl ⟨by rfl, ?yr1_35⟩) hHeld ?_
              case yr1_35 => (intro W0 hSw; go_simp; try with_reducible rfl)
              try simp only [pu]
              refine wpAnyH_take (i := 36) (oi := ⟨(some 39), _, _, _, _, _⟩) (v := .pointer (some ⟨w.heap.size, 1, none⟩)) rfl (by kernel_rfl) (by kernel_rfl) (by kernel_rfl) (fun _ _ _ h => h) (Or.inl ⟨by rfl, ?yr1_36⟩) hHeld ?_
              case yr1_36 => (intro W0 hSw; go_simp; try with_reducible rfl)
              try simp only [pu]
              refine wpAnyH_take (i := 37) (oi := ⟨(some 40), _, _, _, _, _⟩) (v := .int .i64 a.num) rfl (by kernel_rfl) (by kernel_rfl) (by kernel_rfl) (fun _ _ _ h => h) (Or.inl ⟨by rfl, ?yr1_37⟩) hHeld ?_
              case yr1_37 => (intro W0 hSw; have cc := ed_num (row_next2 hgA hSw); go_simp; try with_reducible rfl)
              try simp only [pu]
              refine wpAnyH_take (i := 38) (oi := ⟨(some 41), _, _, _, _, _⟩) (v := .int .i64 (a.num - 1)) rfl (by kernel_rfl) (by kernel_rfl) (by kernel_rfl) (fun _ _ _ h => h) (Or.inl ⟨by rfl, ?yr1_38⟩) hHeld ?_
              case yr1_38 => (intro W0 hSw; go_simp; try simp only [hw]; try with_reducible rfl)
              try simp only [pu]
              refine wpAnyH_take (i := 39) (oi := ⟨(some 42), _, _, _, _, _⟩) (v := .bool true) rfl (by kernel_rfl) (by kernel_rfl) (by kernel_rfl) (fun _ _ _ h => h) (Or.inl ⟨by rfl, ?yr1_39⟩) hHeld ?_
              case yr1_39 => (intro W0 hSw; go_simp; (try simp [t5]); (try omega))
              try simp only [pu]
              refine wpAnyH_take (i := 40) (oi := ⟨(some 43), _, _, _, _, _⟩) (v := .bool true) rfl (by kernel_rfl) (by kernel_rfl) (by kernel_rfl) (fun _ _ _ h => h) (Or.inl ⟨by rfl, ?yr1_40⟩) hHeld ?_
              case yr1_40 => (intro W0 hSw; go_simp; try with_reducible rfl)
              try simp only [pu]
              refine wpAnyH_take (i := 41) (oi := ⟨(some 44), _, _, _, _, _⟩) (v := .bool true) rfl (by kernel_rfl) (by kernel_rfl) (by kernel_rfl) (fun _ _ _ h => h) (Or.inl ⟨by rfl, ?yr1_41⟩) hHeld ?_
              case yr1_41 => (intro W0 hSw; go_simp; try with_reducible rfl)
              try simp only [pu]
              refine wpAnyH_take (i := 42) (oi := ⟨(some 45), _, _, _, _, _⟩) (v := undef) rfl (by kernel_rfl) (by kernel_rfl) (by kernel_rfl) (fun _ _ _ h => h) (Or.inr ⟨by rfl, rfl⟩) hHeld ?_
              try simp only [pu]
              refine wpAnyH_take (i := 43) (oi := ⟨(some 46), _, _, _, _, _⟩) (v := undef) rfl (by kernel_rfl) (by kernel_rfl) (by kernel_rfl) (fun _ _ _ h => h) (Or.inr ⟨by rfl, rfl⟩) hHeld ?_
              try simp only [pu]
              refine wpAnyH_take (i := 44) (oi := ⟨(some 47), _, _, _, _, _⟩) (v := undef) rfl (by kernel_rfl) (by kernel_rfl) (by kernel_rfl) (fun _ _ _ h => h) (Or.inr ⟨by rfl, rfl⟩) hHeld ?_
              try simp only [pu]
              refine wpAnyH_take (i := 45) (oi := ⟨(some 48), _, _, _, _, _⟩) (v := .bool true) rfl (by kernel_rfl) (by kernel_rfl) (by kernel_rfl) (fun _ _ _ h => h) (Or.inl ⟨by rfl, ?yr1_45⟩) hHeld ?_
              case yr1_45 => (intro W0 hSw; go_simp; try with_reducible rfl)
              try simp only [pu]
              refine wpAnyH_take (i := 46) (oi := ⟨(some 49), _, _, _, _, _⟩) (v := .bool true) rfl (by kernel_rfl) (by kernel_rfl) (by kernel_rfl) (fun _ _ _ h => h) (Or.inl ⟨by rfl, ?yr1_46⟩) hHeld ?_
              case yr1_46 => (intro W0 hSw; go_simp; try with_reducible rfl)
              try simp only [pu]
              refine wpAnyH_take (i := 47) (oi := ⟨(some 50), _, _, _, _, _⟩) (v := undef) rfl (by kernel_rfl) (by kernel_rfl) (by kernel_rfl) (fun _ _ _ h => h) (Or.inr ⟨by rfl, rfl⟩) hHeld ?_
              try simp only [pu]
              refine wpAnyH_take (i := 48) (oi := ⟨(some 51), _, _, _, _, _⟩) (v := undef) rfl (by kernel_rfl) (by kernel_rfl) (by kernel_rfl) (fun _ _ _ h => h) (Or.inr ⟨by rfl, rfl⟩) hHeld ?_
              try simp only [pu]
              refine wpAnyH_take (i := 49) (oi := ⟨(some 52), _, _, _, _, _⟩) (v := undef) rfl (by kernel_rfl) (by kernel_rfl) (by kernel_rfl) (fun _ _ _ h => h) (Or.inr ⟨by rfl, rfl⟩) hHeld ?_
              try simp only [pu]
              refine wpAnyH_take (i := 50) (oi := ⟨(some 53), _, _, _, _, _⟩) (v := .bool true) rfl (by kernel_rfl) (by kernel_rfl) (by kernel_rfl) (fun _ _ _ h => h) (Or.inl ⟨by rfl, ?yr1_50⟩) hHeld ?_
              case yr1_50 => (intro W0 hSw; go_simp; try with_reducible rfl)
              try simp only [pu]
              refine wpAnyH_take (i := 51) (oi := ⟨(some 54), _, _, _, _, _⟩) (v := .bool true) rfl (by kernel_rfl) (by kernel_rfl) (by kernel_rfl) (fun _ _ _ h => h) (Or.inl ⟨by rfl, ?yr1_51⟩) hHeld ?_
              case yr1_51 => (intro W0 hSw; go_simp; try with_reducible rfl)
              try simp only [pu]
              refine wpAnyH_take (i := 52) (oi := ⟨(some 55), _, _, _, _, _⟩) (v := undef) rfl (by kernel_rfl) (by kernel_rfl) (by kernel_rfl) (fun _ _ _ h => h) (Or.inr ⟨by rfl, rfl⟩) hHeld ?_
              try simp only [pu]
              refine wpAnyH_take (i := 53) (oi := ⟨(some 56), _, _, _, _, _⟩) (v := undef) rfl (by kernel_rfl) (by kernel_rfl) (by kernel_rfl) (fun _ _ _ h => h) (Or.inr ⟨by rfl, rfl⟩) hHeld ?_
              try simp only [pu]
              refine wpAnyH_take (i := 54) (oi := ⟨(some 57), _, _, _, _, _⟩) (v := undef) rfl (by kernel_rfl) (by kernel_rfl) (by kernel_rfl) (fun _ _ _ h => h) (Or.inr ⟨by rfl, rfl⟩) hHeld ?_
              try simp only [pu]
              refine wpAnyH_take (i := 55) (oi := ⟨(some 58), _, _, _, _, _⟩) (v := undef) rfl (by kernel_rfl) (by kernel_rfl) (by kernel_rfl) (fun _ _ _ h => h) (Or.inr ⟨by rfl, rfl⟩) hHeld ?_
              try simp only [pu]
              refine wpAnyH_take (i := 56) (oi := ⟨(some 59), _, _, _, _, _⟩) (v := .bool true) rfl (by kernel_rfl) (by kernel_rfl) (by kernel_rfl) (fun _ _ _ h => h) (Or.inl ⟨by rfl, ?yr1_56⟩) hHeld ?_
              case yr1_56 => (intro W0 hSw; go_simp; try with_reducible rfl)
              try simp only [pu]
              refine wpAnyH_take (i := 57) (oi := ⟨(some 60), _, _, _, _, _⟩) (v := .bool true) rfl (by kernel_rfl) (by kernel_rfl) (by kernel_rfl) (fun _ _ _ h => h) (Or.inl ⟨by rfl, ?yr1_57⟩) hHeld ?_
              case yr1_57 => (intro W0 hSw; go_simp; try with_reducible rfl)
              try simp only [pu]
              refine wpAnyH_take (i := 58) (oi := ⟨(some 61), _, _, _, _, _⟩) (v := undef) rfl (by kernel_rfl) (by kernel_rfl) (by kernel_rfl) (fun _ _ _ h => h) (Or.inr ⟨by rfl, rfl⟩) hHeld ?_
              try simp only [pu]
              refine wpAnyH_take (i := 59) (oi := ⟨(some 62), _, _, _, _, _⟩) (v := undef) rfl (by kernel_rfl) (by kernel_rfl) (by kernel_rfl) (fun _ _ _ h => h) (Or.inr ⟨by rfl, rfl⟩) hHeld ?_
              try simp only [pu]
              refine wpAnyH_take (i := 60) (oi := ⟨(some 63), _, _, _, _, _⟩) (v := undef) rfl (by kernel_rfl) (by kernel_rfl) (by kernel_rfl) (fun _ _ _ h => h) (Or.inr ⟨by rfl, rfl⟩) hHeld ?_
              try simp only [pu]
              refine wpAnyH_take (i := 61) (oi := ⟨(some 64), _, _, _, _, _⟩) (v := undef) rfl (by kernel_rfl) (by kernel_rfl) (by kernel_rfl) (fun _ _ _ h => h) (Or.inr ⟨by rfl, rfl⟩) hHeld ?_
              try simp only [pu]
              refine wpAnyH_take (i := 62) (oi := ⟨(some 65), _, _, _, _, _⟩) (v := .bool true) rfl (by kernel_rfl) (by kernel_rfl) (by kernel_rfl) (fun _ _ _ h => h) (Or.inl ⟨by rfl, ?yr1_62⟩) hHeld ?_
              case yr1_62 => (intro W0 hSw; go_simp; try with_reducible rfl)
              try simp only [pu]
              refine wpAnyH_done (by kernel_rfl) ?_ _
              go_wp2
              go_ret
              exact ⟨ret_bool (by rw [HG.out, decide_eq_false (p := iat a.seen a.dev.toNat = a.num - 1) t5y]; simp), below_next hbW hbW.size hHeld⟩
end Go.Proofs.Ytabgkkdgamacnaa
