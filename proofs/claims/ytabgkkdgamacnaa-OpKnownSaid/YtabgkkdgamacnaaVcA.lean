/-
  Contract of vec's Good. Conditions: arrays of eight numbers.
-/
import Derived.Test.YtabgkkdgamacnaaVcM
namespace Go.Proofs.Ytabgkkdgamacnaa
open Go.RowKit

theorem good_no {a : List Int} {m : Int} (h : m ∈ a) (h0 : ¬ 0 ≤ m) : vgood a = false := by
  rw [vgood, decide_eq_false_iff_not]
  exact fun hh => h0 (hh m h).1
theorem good_of {a : List Int} {m x : Int} (h1 : m ∈ a ∧ ∀ y ∈ a, m ≤ y) (h2 : x ∈ a ∧ ∀ y ∈ a, y ≤ x) (h0 : 0 ≤ m) : decide (x ≤ 1099511627776) = vgood a := by
  rw [vgood]
  apply decide_eq_decide.2
  constructor
  · intro h y hy
    have := h1.2 y hy
    have := h2.2 y hy
    omega
  · intro h
    exact (h x h2.1).2
set_option maxRecDepth 100000 in
theorem vgood_any (w : World) (a : List Int) (ha : a.length = 8) :
    Calls Try.prog 52 #[.agg (i64v a).toArray] w fun e w' => e = .returned (.bool (vgood a)) ∧ Below w.heap.size w w' := by
  obtain ⟨W, hW, hgW, hbW, hsW⟩ := one_new w (i64v a).toArray 26
  have HW := Lib.hid hW
  have hmn := smin_any W w.heap.size _ a hgW ha
  have hmx := smax_any W w.heap.size _ a hgW ha
  have hcut := cut_all (P := Try.prog) Try.underlying26 Try.sizeByte w.heap.size 0 (by decide)
  obtain ⟨o, ho⟩ : ∃ o, o = vgood a := ⟨_, rfl⟩
  have HO := vlt ho
  rw [← ho]
  clear hW ha ho
  go_enter Try.func52, Try.ntmps52
  go_upto_region 1 with fail
  rw [HW.out]
  go_wp2_with fail
  refine hmn.mono ?_
  rintro e w1 ⟨m, rfl, HM, rfl⟩
  clear hmn
  by_cases h0 : 0 ≤ m
  · go_wp2_with fail
    refine hmx.mono ?_
    rintro e w2 ⟨x, rfl, HX, rfl⟩
    have HG := Lib.hid ((good_of HM.out HX.out h0).trans HO.out.symm)
    clear hmx
    go_wp2
    go_ret
    exact ⟨ret_bool HG.out, hbW⟩
  · have HG := Lib.hid (HO.out.trans (good_no HM.out.1 h0))
    clear hmx
    go_wp2
    go_ret
    exact ⟨ret_bool HG.out.symm, hbW⟩
def z8 : List Int := List.replicate 8 0
theorem zero_vec (w : World) : (zeroValue 26).run Try.prog w = .ok (.agg (i64v z8).toArray) w := by kernel_rfl
theorem int8_size {l : List Int} (h : l.length = 8) : (i64v l).toArray.size = 8 := by simp [i64v_len, h]
end Go.Proofs.Ytabgkkdgamacnaa
