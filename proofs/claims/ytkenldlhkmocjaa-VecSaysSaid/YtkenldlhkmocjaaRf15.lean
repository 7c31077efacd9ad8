/-
  Contracts of the document's own answers for chapter 15: GoodVec, Has, Merge, Le. Conditions: arrays of eight numbers.
-/
import Derived.Test.YtkenldlhkmocjaaVcC
namespace Go.Proofs.Ytkenldlhkmocjaa
open Go.RowKit

set_option maxRecDepth 100000 in
theorem rvhas_any (w : World) (a : List Int) (ha : a.length = 8) (d n : Int) :
    Calls Try.prog 20 #[.agg (i64v a).toArray, .agg #[.int .i64 d, .int .i64 n]] w fun e w' => e = .returned (.bool (vhas a d n)) ∧ Below w.heap.size w w' := by
  obtain ⟨W, hW, hgA, hgD, hbW, hsW⟩ := pair_new w (i64v a).toArray #[.int .i64 d, .int .i64 n] 35 33
  have HW := Lib.hid hW
  have HA := Lib.hid ha
  have c0 : W.cell? ⟨w.heap.size + 1, 0, none⟩ = some (.int .i64 d) := by rw [cell_of_row _ _ _ _ _ _ hgD.out]; rfl
  have c1 : W.cell? ⟨w.heap.size + 1, 1, none⟩ = some (.int .i64 n) := by rw [cell_of_row _ _ _ _ _ _ hgD.out]; rfl
  obtain ⟨o, ho⟩ : ∃ o, o = vhas a d n := ⟨_, rfl⟩
  have HO := vlt ho
  rw [← ho]
  clear hW ha ho hgD hsW
  go_enter Try.func20, Try.ntmps20
  go_upto_region 1 with fail
  rw [HW.out]
  clear HW
  by_cases h0 : 0 ≤ d ∧ d < 8
  · by_cases h1 : 1 ≤ n
    · obtain ⟨k, rfl⟩ : ∃ k : Nat, d = (k : Int) := ⟨d.toNat, by omega⟩
      obtain ⟨_, h2⟩ := h0
      have hk : k < 8 := by omega
      have HV := vlt (HO.out.trans (vhas_in hk h1))
      have ck := int_at hgA.out k (by rw [HA.out]; exact hk)
      generalize iat a k = y at HV ck
      clear HO hgA
      go_quiet (fail)
      go_wp2
      go_ret
      exact ⟨ret_bool HV.out.symm, Below.toN hbW _⟩
    · have HV := vlt (HO.out.trans (vhas_num h1))
      obtain ⟨h3, h4⟩ := h0
      clear HO hgA
      go_quiet (fail)
      go_wp2
      go_ret
      exact ⟨ret_bool HV.out.symm, Below.toN hbW _⟩
  · have HV := vlt (HO.out.trans (vhas_dev h0))
    clear HO hgA
    by_cases h1 : d < 0
    · have h2 : ¬ 0 ≤ d := by omega
      clear h0 h1
      go_quiet (fail)
      go_wp2
      go_ret
      exact ⟨ret_bool HV.out.symm, Below.toN hbW _⟩
    · have h2 : 0 ≤ d := by omega
      have h3 : ¬ d < 8 := by omega
      clear h0 h1
      go_quiet (fail)
      go_wp2
      go_ret
      exact ⟨ret_bool HV.out.symm, Below.toN hbW _⟩

theorem zero_rvec (w : World) : (zeroValue 35).run Try.prog w = .ok (.agg (i64v z8).toArray) w := by kernel_rfl
set_option maxRecDepth 100000 in
theorem rvgood_any (w : World) (a : List Int) (ha : a.length = 8) :
    Calls Try.prog 19 #[.agg (i64v a).toArray] w fun e w' => e = .returned (.bool (vgood a)) ∧ Below w.heap.size w w' := by
  obtain ⟨W, hW, hgW, hbW, hsW⟩ := one_new w (i64v a).toArray 35
  have HW := Lib.hid hW
  have HA := Lib.hid ha
  obtain ⟨o, ho⟩ : ∃ o, o = vgood a := ⟨_, rfl⟩
  have HO := vlt ho
  rw [← ho]
  clear hW ha ho
  go_enter Try.func19, Try.ntmps19
  go_upto_region 1 with fail
  rw [HW.out]
  clear HW
  go_wp2_with fail
  go_loopw [3] (fun i wr => ∃ (k : Nat), k ≤ 8 ∧ i = .int .i64 (k : Int) ∧ Vlt (∀ j, j < k → 0 ≤ iat a j ∧ iat a j ≤ 1099511627776) ∧ wr = W) (fun i _ => 8 - (intOf i).toNat)
  case atStart => exact ⟨0, by omega, rfl, vlt (fun j hj => absurd hj (Nat.not_lt_zero _)), rfl⟩
  case round =>
    obtain ⟨k, hk, rfl, HX, rfl⟩ := hrel
    by_cases hlt : k < 8
    · have hkl : k < a.length := by rw [HA.out]; exact hlt
      have ck := int_at hgW.out k hkl
      have hno := fun h : ¬ (0 ≤ iat a k ∧ iat a k ≤ 1099511627776) => vlt (show o = false by
        rw [HO.out]
        exact Bool.eq_false_iff.2 fun hg => h ((vgood_iff a).1 hg k hkl))
      have hyes := fun h : 0 ≤ iat a k ∧ iat a k ≤ 1099511627776 => vlt (show ∀ j, j < k + 1 → 0 ≤ iat a j ∧ iat a j ≤ 1099511627776 from fun j hj => by
        by_cases hjk : j = k
        · subst hjk; exact h
        · exact HX.out j (by omega))
      by_cases h1 : iat a k < 0
      · have HV := hno (by omega)
        clear hno hyes
        generalize iat a k = y at ck h1
        go_wp2
        go_ret
        exact ⟨ret_bool HV.out.symm, hbW⟩
      · by_cases h2 : 1099511627776 < iat a k
        · have HV := hno (by omega)
          clear hno hyes
          generalize iat a k = y at ck h1 h2
          go_wp2
          go_ret
          exact ⟨ret_bool HV.out.symm, hbW⟩
        · have HV := hyes (by omega)
          clear hno hyes
          generalize hy : iat a k = y at ck h1 h2
          clear hy
          go_wp2
          go_roundw
          case rel => exact ⟨k + 1, by omega, by go_num, HV, trivial⟩
          case measure => simp [intOf]; omega
    · obtain rfl : k = 8 := by omega
      have HV := vlt (HO.out.trans ((vgood_iff a).2 (by rw [HA.out]; exact HX.out)))
      go_wp2
      go_ret
      exact ⟨ret_bool HV.out.symm, hbW⟩

set_option maxRecDepth 100000 in
theorem rvle_any (w : World) (a b : List Int) (ha : a.length = 8) (hb : b.length = 8) :
    Calls Try.prog 24 #[.agg (i64v a).toArray, .agg (i64v b).toArray] w fun e w' => e = .returned (.bool (vle a b)) ∧ Below w.heap.size w w' := by
  obtain ⟨W, hW, hgA, hgB, hbW, hsW⟩ := pair_new w (i64v a).toArray (i64v b).toArray 35 35
  have HW := Lib.hid hW
  have HA := Lib.hid ha
  have HB := Lib.hid hb
  obtain ⟨o, ho⟩ : ∃ o, o = vle a b := ⟨_, rfl⟩
  have HO := vlt ho
  rw [← ho]
  clear hW ha hb hsW ho
  go_enter Try.func24, Try.ntmps24
  go_upto_region 1 with fail
  rw [HW.out]
  clear HW
  go_wp2_with fail
  go_loopw [5] (fun i wr => ∃ (k : Nat), k ≤ 8 ∧ i = .int .i64 (k : Int) ∧ Vlt (∀ j, j < k → iat a j ≤ iat b j) ∧ (∃ n, wr = W.drewN n)) (fun i _ => 8 - (intOf i).toNat)
  case atStart => exact ⟨0, by omega, rfl, vlt (fun j hj => absurd hj (Nat.not_lt_zero _)), ⟨0, rfl⟩⟩
  case round =>
    obtain ⟨k, hk, rfl, HX, n, rfl⟩ := hrel
    by_cases hlt : k < 8
    · have ck := int_at hgA.out k (by rw [HA.out]; exact hlt)
      have cb := int_at hgB.out k (by rw [HB.out]; exact hlt)
      by_cases h1 : iat b k < iat a k
      · have HV := vlt (show o = false by
          rw [HO.out]
          exact Bool.eq_false_iff.2 fun hg => absurd ((vle_iff HA.out HB.out).1 hg k hlt) (by omega))
        generalize iat a k = y at ck h1
        generalize iat b k = x at cb h1
        clear HO HX
        go_wp2_with fail
        go_quiet (fail)
        go_wp2
        go_ret
        exact ⟨ret_bool HV.out.symm, Below.toN (Below.toN hbW _) _⟩
      · have HV := vlt (show ∀ j, j < k + 1 → iat a j ≤ iat b j from fun j hj => by
          by_cases hjk : j = k
          · subst hjk; omega
          · exact HX.out j (by omega))
        generalize hy : iat a k = y at ck h1
        generalize hx : iat b k = x at cb h1
        clear HX hy hx
        go_wp2_with fail
        go_quiet (fail)
        go_wp2
        go_roundw
        case rel => exact ⟨k + 1, by omega, by go_num, HV, ⟨_, rfl⟩⟩
        case measure => simp [intOf]; omega
    · obtain rfl : k = 8 := by omega
      have HV := vlt (HO.out.trans ((vle_iff HA.out HB.out).2 HX.out))
      go_wp2
      go_ret
      exact ⟨ret_bool HV.out.symm, Below.toN hbW _⟩
end Go.Proofs.Ytkenldlhkmocjaa
