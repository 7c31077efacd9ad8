/-
  Contracts of vec's Sum and Has. Conditions: arrays of eight numbers.
-/
import Derived.Test.YtkenldlhkmocjaaVcA
namespace Go.Proofs.Ytkenldlhkmocjaa
open Go.RowKit

theorem vsum_no {a : List Int} (h : vgood a = false) : vsum a = -1 := by rw [vsum, if_neg (by rw [h]; exact Bool.false_ne_true)]
theorem vsum_yes {a : List Int} (h : vgood a = true) (hl : a.length = 8) : vup a 8 = vsum a := by rw [vsum, if_pos h, vup_all hl]
theorem vup_small {a : List Int} (h : vgood a = true) (hl : a.length = 8) {k : Nat} (hk : k ≤ 8) : 0 ≤ vup a k ∧ vup a k ≤ 8796093022208 := by
  have := vup_bound (a := a) (by rw [vgood, decide_eq_true_iff] at h; exact h) k (by omega)
  omega

set_option maxRecDepth 100000 in
theorem vsum_any (w : World) (a : List Int) (ha : a.length = 8) :
    Calls Try.prog 12 #[.agg (i64v a).toArray] w fun e w' => e = .returned (.int .i64 (vsum a)) ∧ Below w.heap.size w w' := by
  obtain ⟨W, hW, hgW, hbW, hsW⟩ := one_new w (i64v a).toArray 27
  have HW := Lib.hid hW
  have HA := Lib.hid ha
  have hgd := vgood_any W a ha
  obtain ⟨o, ho⟩ : ∃ o, o = vgood a := ⟨_, rfl⟩
  have HO := vlt ho
  rw [← ho] at hgd
  obtain ⟨v, hv⟩ : ∃ v, v = vsum a := ⟨_, rfl⟩
  have HV := vlt hv
  rw [← hv]
  clear hW ha ho hv
  go_enter Try.func12, Try.ntmps12
  go_upto_region 1 with fail
  rw [HW.out]
  go_wp2_with (with_reducible refine wpList_load_row rfl 27 (.tmp 1) rfl w.heap.size rfl 27 (i64v a).toArray (0, 0) _ hgW.out Try.underlying27 rfl (by rw [int8_size HA.out]; kernel_rfl) ?_)
  refine hgd.mono ?_
  rintro e w1 ⟨rfl, hb1⟩
  have hg1 := row_next2 hgW hb1
  have hbw1 := below_next hbW hbW.size hb1
  clear hgd hgW HW
  cases o
  · have HV2 := vlt (HV.out.trans (vsum_no HO.out.symm))
    clear HO HV
    go_wp2
    go_ret
    exact ⟨by rw [HV2.out]; rfl, hbw1⟩
  · go_wp2_with (with_reducible refine wpList_load_row rfl 27 (.tmp 1) rfl w.heap.size rfl 27 (i64v a).toArray (0, 0) _ hg1.out Try.underlying27 rfl (by rw [int8_size HA.out]; kernel_rfl) ?_)
    go_loopw [3, 10] (fun s i wr => ∃ (k : Nat) (x : Int), k ≤ 8 ∧ s = .int .i64 x ∧ i = .int .i64 (k : Int) ∧ Vlt (x = vup a k) ∧ wr = w1) (fun _ i _ => 8 - (intOf i).toNat)
    case atStart => exact ⟨0, 0, by omega, rfl, rfl, vlt rfl, rfl⟩
    case round =>
      obtain ⟨k, x, hk, rfl, rfl, HX, rfl⟩ := hrel
      by_cases hlt : k < 8
      · have hn := vlt (vup_next (a := a) (k := k) (by rw [HA.out]; exact hlt))
        have hx1 := vup_small HO.out.symm HA.out (k := k) (by omega)
        have hx2 := vup_small HO.out.symm HA.out (k := k + 1) (by omega)
        have hat := iat_at (l := a) (k := k) (by rw [HA.out]; exact hlt)
        have hcell : (i64v a)[k]? = some (.int .i64 (iat a k)) := by rw [i64v_at, hat]; rfl
        rw [← HX.out] at hn hx1
        rw [hn.out] at hx2
        generalize iat a k = y at hn hx2 hcell
        have HX2 := vlt hn.out.symm
        have hix := fun W => at_agg (P := Try.prog) Try.underlying27 Try.sizeI64 Try.underlying2 (i64v a) k _ (k : Int) rfl hlt hcell W
        clear hn HX hat hcell
        go_wp2
        go_roundw
        case rel => exact ⟨k + 1, x + y, by omega, rfl, by go_num, HX2, trivial⟩
        case measure => simp [intOf]; omega
      · obtain rfl : k = 8 := by omega
        have HE := vlt ((HX.out.trans (vsum_yes HO.out.symm HA.out)).trans HV.out.symm)
        clear HX
        go_wp2
        go_ret
        exact ⟨by rw [← HE.out]; rfl, hbw1⟩

theorem Below.toN {B : Nat} {w w' : World} (h : Below B w w') (k : Nat) : Below B w (w'.drewN k) := ⟨h.os, h.tape, h.output, h.size, h.block⟩
/-- One dot of api: its device, its number. -/
theorem vhas_dev {a : List Int} {d n : Int} (h : ¬ (0 ≤ d ∧ d < 8)) : vhas a d n = false := by
  rw [vhas, decide_eq_false_iff_not]; omega
theorem vhas_num {a : List Int} {d n : Int} (h : ¬ 1 ≤ n) : vhas a d n = false := by
  rw [vhas, decide_eq_false_iff_not]; omega
theorem vhas_in {a : List Int} {k : Nat} {n : Int} (hk : k < 8) (h : 1 ≤ n) : vhas a (k : Int) n = decide (n ≤ iat a k) := by
  rw [vhas]
  apply decide_eq_decide.2
  rw [show ((k : Int)).toNat = k by omega]
  omega
set_option maxRecDepth 100000 in
theorem vhas_any (w : World) (a : List Int) (ha : a.length = 8) (d n : Int) :
    Calls Try.prog 13 #[.agg (i64v a).toArray, .agg #[.int .i64 d, .int .i64 n]] w fun e w' => e = .returned (.bool (vhas a d n)) ∧ Below w.heap.size w w' := by
  obtain ⟨W, hW, hgA, hgD, hbW, hsW⟩ := pair_new w (i64v a).toArray #[.int .i64 d, .int .i64 n] 27 33
  have HW := Lib.hid hW
  have HA := Lib.hid ha
  have c0 : W.cell? ⟨w.heap.size + 1, 0, none⟩ = some (.int .i64 d) := by rw [cell_of_row _ _ _ _ _ _ hgD.out]; rfl
  have c1 : W.cell? ⟨w.heap.size + 1, 1, none⟩ = some (.int .i64 n) := by rw [cell_of_row _ _ _ _ _ _ hgD.out]; rfl
  obtain ⟨o, ho⟩ : ∃ o, o = vhas a d n := ⟨_, rfl⟩
  have HO := vlt ho
  rw [← ho]
  clear hW ha ho hgD hsW
  go_enter Try.func13, Try.ntmps13
  go_upto_region 1 with fail
  rw [HW.out]
  clear HW
  by_cases h0 : 0 ≤ d ∧ d < 8
  · by_cases h1 : 1 ≤ n
    · obtain ⟨k, rfl⟩ : ∃ k : Nat, d = (k : Int) := ⟨d.toNat, by omega⟩
      obtain ⟨_, h2⟩ := h0
      have hk : k < 8 := by omega
      have HV := vlt (HO.out.trans (vhas_in hk h1))
      have ck := int_at hgA.out k (by rw [HA.out]; exact hk)
      generalize iat a k = y at HV ck
      clear HO hgA
      go_quiet (fail)
      go_wp2
      go_ret
      exact ⟨ret_bool HV.out.symm, Below.toN hbW _⟩
    · have HV := vlt (HO.out.trans (vhas_num h1))
      obtain ⟨h3, h4⟩ := h0
      clear HO hgA
      go_quiet (fail)
      go_wp2
      go_ret
      exact ⟨ret_bool HV.out.symm, Below.toN hbW _⟩
  · have HV := vlt (HO.out.trans (vhas_dev h0))
    clear HO hgA
    by_cases h1 : d < 0
    · have h2 : ¬ 0 ≤ d := by omega
      clear h0 h1
      go_quiet (fail)
      go_wp2
      go_ret
      exact ⟨ret_bool HV.out.symm, Below.toN hbW _⟩
    · have h2 : 0 ≤ d := by omega
      have h3 : ¬ d < 8 := by omega
      clear h0 h1
      go_quiet (fail)
      go_wp2
      go_ret
      exact ⟨ret_bool HV.out.symm, Below.toN hbW _⟩
end Go.Proofs.Ytkenldlhkmocjaa
