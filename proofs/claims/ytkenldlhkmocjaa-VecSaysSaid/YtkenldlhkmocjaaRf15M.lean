/-
  Contracts of the document's own answers for chapter 15: Merge, PutVec. Conditions: arrays of eight numbers of 64 bits; fewer than 2^44 bytes ahead.
-/
import Derived.Test.YtkenldlhkmocjaaRf15
import Derived.Test.YtkenldlhkmocjaaRf11I
import Derived.Test.YtkenldlhkmocjaaVcD
namespace Go.Proofs.Ytkenldlhkmocjaa
open Go.RowKit

/-- Merged below i, the first one's own from there on. -/
structure MrgR (o a b : List Int) (i : Nat) : Prop where
  len : o.length = 8
  val : ∀ j, j < i → iat o j = iat (vmx a b) j
  own : ∀ j, i ≤ j → iat o j = iat a j
theorem MrgR.step {o a b : List Int} {i : Nat} (h : MrgR o a b i) (hi : i < 8) (x : Int) (hx : x = iat (vmx a b) i) : MrgR (o.set i x) a b (i + 1) :=
  ⟨by rw [List.length_set, h.len], fun j hj => by
    by_cases hji : j = i
    · subst hji; rw [iat_set_same _ _ _ (by rw [h.len]; exact hi), hx]
    · rw [iat_set_other _ _ _ _ (fun e => hji e.symm)]; exact h.val j (by omega),
  fun j hj => by rw [iat_set_other _ _ _ _ (by omega)]; exact h.own j (by omega)⟩
theorem MrgR.stay {o a b : List Int} {i : Nat} (h : MrgR o a b i) (hx : iat a i = iat (vmx a b) i) : MrgR o a b (i + 1) :=
  ⟨h.len, fun j hj => by
    by_cases hji : j = i
    · subst hji; rw [h.own _ (Nat.le_refl _), hx]
    · exact h.val j (by omega),
  fun j hj => h.own j (by omega)⟩
theorem MrgR.all {o a b : List Int} (h : MrgR o a b 8) (ha : a.length = 8) (hb : b.length = 8) : o = vmx a b :=
  list_iat (by rw [h.len, vmx_len ha hb]) fun k hk => h.val k (by rw [h.len] at hk; exact hk)

set_option maxRecDepth 100000 in
set_option maxHeartbeats 1000000 in
theorem rvmerge_any (w : World) (a b : List Int) (ha : a.length = 8) (hb : b.length = 8) :
    Calls Try.prog 22 #[.agg (i64v a).toArray, .agg (i64v b).toArray] w fun e w' => e = .returned (.agg (i64v (vmx a b)).toArray) ∧ Below w.heap.size w w' := by
  have hzf := zero_rvec
  obtain ⟨W, hW, hgA, hgB, hgZ, hbW, hsW⟩ := three_new w (i64v a).toArray (i64v b).toArray (i64v z8).toArray 35 35 35
  have HW := Lib.hid hW
  have HA := Lib.hid ha
  have HB := Lib.hid hb
  obtain ⟨m, hm⟩ : ∃ m, m = vmx a b := ⟨_, rfl⟩
  have HM := vlt hm
  rw [← hm]
  clear hW ha hb hsW hm
  go_enter Try.func22, Try.ntmps22
  go_upto_region 1 with fail
  rw [HW.out]
  clear HW
  go_wp2_with fail
  go_loopw [5] (fun s wr => ∃ (i : Nat) (o : List Int), i ≤ 8 ∧ s = .int .i64 (i : Int) ∧ Hid (wr.heap[w.heap.size]? = some (.cells (i64v o).toArray 35 (0, 0))) ∧ Vlt (MrgR o a b i) ∧ But w.heap.size W wr) (fun s _ => 8 - (intOf s).toNat)
  case atStart => exact ⟨0, a, by omega, rfl, hgA, vlt ⟨HA.out, fun j hj => absurd hj (Nat.not_lt_zero _), fun _ _ => rfl⟩, But.refl _ _⟩
  case round =>
    obtain ⟨i, o, hi, rfl, hg, hF, hbt⟩ := hrel
    have hgB := row_but hgB hbt (by omega)
    by_cases hlt : i < 8
    · have hmx := vlt (vmx_at (a := a) (b := b) (k := i) (by rw [HA.out]; exact hlt) (by rw [HB.out]; exact hlt))
      have c0 := int_at hg.out i (by rw [hF.out.len]; exact hlt)
      rw [hF.out.own i (Nat.le_refl _)] at c0
      have c1 := int_at hgB.out i (by rw [HB.out]; exact hlt)
      have f0 : wr.frozen? ⟨w.heap.size, i, none⟩ = false := frozen_of_row _ _ _ _ _ hg.out
      by_cases h1 : iat a i < iat b i
      · have hs2 := world_set_cell (w := wr.drew) hg.out i (.int .i64 (iat b i))
        rw [i64v_set] at hs2
        have hb2 := hbt.drew.set (i := i) (.int .i64 (iat b i))
        have hF2 := vlt (hF.out.step hlt (iat b i) (by rw [hmx.out]; omega))
        generalize iat a i = x at c0 h1
        generalize iat b i = y at c1 hs2 hb2 hF2 h1
        clear hmx
        go_wp2_with fail
        go_region
        go_wp2
        go_roundw
        case rel => exact ⟨i + 1, _, by omega, by go_num, hs2, hF2, hb2⟩
        case measure => simp [intOf]; omega
      · have hF2 := vlt (hF.out.stay (by rw [hmx.out]; omega))
        generalize iat a i = x at c0 h1
        generalize iat b i = y at c1 h1
        clear hmx
        go_wp2_with fail
        go_region
        go_wp2
        go_roundw
        case rel => exact ⟨i + 1, o, by omega, by go_num, hg, hF2, hbt.drew⟩
        case measure => simp [intOf]; omega
    · obtain rfl : i = 8 := by omega
      have HE := vlt ((hF.out.all HA.out HB.out).trans HM.out.symm)
      have hsz := Lib.hid (int8_size hF.out.len)
      have hz := row_but hgZ hbt (by omega)
      have hbw : Below w.heap.size w wr := But.below hbW hbt (by omega) hbW.size
      go_wp2_with (first
        | (with_reducible refine wpList_load_row rfl 35 (.tmp 2) rfl w.heap.size rfl 35 (i64v o).toArray (0, 0) _ hg.out Try.underlying35 rfl (by rw [hsz.out]; kernel_rfl) ?_)
        | (with_reducible refine wpList_store_row rfl 35 (.tmp 4) (.tmp 22) rfl (w.heap.size + 2) (i64v o).toArray rfl rfl 35 _ hz.out (by rw [hsz.out]; kernel_rfl) (by rw [hsz.out]; kernel_rfl) (all_oneCell_toArray (i64v_one _)) ?_))
      refine bodyPost_ret (v := .agg (i64v o).toArray) (results_cell_row Try.results22 _ _ (w.heap.size + 2) 35 _ (0, 0) _ rfl (setRow_heap _ _ _ _ _ _ hz.out) Try.underlying35 rfl (by rw [hsz.out]; kernel_rfl)) rfl ⟨by rw [HE.out], below_setRow hbw (by omega) _⟩

set_option maxRecDepth 100000 in
set_option maxHeartbeats 1000000 in
theorem rvput_any (w : World) (A : Option Addr) (l : List UInt8) (n c : Nat) (a : List Int) (hA : Byt w w.heap.size A l) (hl : l.length = n) (hn : n ≤ 17592186044416) (ha : a.length = 8) (hr : Hid (I64s a)) :
    Calls Try.prog 27 #[.slice A n c, .agg (i64v a).toArray] w fun e w' => ∃ A' m c', e = .returned (.slice A' m c') ∧ Byt w' w'.heap.size A' (l ++ vput a) ∧ Hid (m = (l ++ vput a).length) ∧ Below w.heap.size w w' := by
  obtain ⟨W, hW, hgW, hbW, hsW⟩ := one_new w (i64v a).toArray 35
  have HW := Lib.hid hW
  have HA := Lib.hid ha
  have HL := Lib.hid hl
  have hAW := (hA.below hbW).up hbW.size
  clear hW ha hl hA hsW
  go_enter Try.func27, Try.ntmps27
  go_upto_region 1 with fail
  rw [HW.out]
  clear HW
  go_wp2_with fail
  go_loopw [0, 5] (fun s i wr => ∃ (k m c' : Nat) (D : Option Addr), k ≤ 8 ∧ s = .slice D m c' ∧ i = .int .i64 (k : Int) ∧ m ≤ n + 72 ∧ Hid (Byt wr wr.heap.size D (l ++ vpt a k)) ∧ Hid ((l ++ vpt a k).length = m) ∧ Below W.heap.size W wr) (fun _ i _ => 8 - (intOf i).toNat)
  case atStart => exact ⟨0, n, c, A, by omega, rfl, rfl, by omega, by rw [vpt_zero, List.append_nil]; exact hAW, by rw [vpt_zero, List.append_nil]; exact HL, Below.refl _ _⟩
  case round =>
    obtain ⟨k, m, c', D, hk, rfl, rfl, hm, HR, HML, hb⟩ := hrel
    by_cases hlt : k < 8
    · have hkl : k < a.length := by rw [HA.out]; exact hlt
      have hgr := row_next2 hgW hb
      have ck := int_at hgr.out k hkl
      have hnum := rfnum_int wr D (l ++ vpt a k) m c' (iat a k) (iat a k).toNat HR.out HML.out (by omega) (hr.out.at_ hkl).1 (hr.out.at_ hkl).2
      rw [List.append_assoc, ← vpt_next hkl] at hnum
      have HLE := Lib.hid (vpt_le a (k + 1) (by rw [HA.out]; omega))
      generalize iat a k = y at hnum ck
      clear HR HML
      go_wp2_with fail
      refine hnum.mono ?_
      rintro e w1 ⟨D1, m1, c1, rfl, hr1, hb1⟩
      have HML1 := Lib.hid hr1.len
      have hm1 : m1 ≤ n + 72 := by
        have h1 := HML1.out
        rw [List.length_append, HL.out] at h1
        have h2 := HLE.out
        omega
      have HR1 := Lib.hid hr1.byt
      have hb2 := below_next hb hb.size hb1
      clear hnum hr1 hb1 ck hgr
      go_wp2
      go_roundw
      case rel => exact ⟨k + 1, m1, c1, D1, by omega, rfl, by go_num, hm1, HR1, HML1, hb2⟩
      case measure => simp [intOf]; omega
    · obtain rfl : k = 8 := by omega
      have HR8 := HR
      have HML8 := HML
      rw [vpt_all HA.out] at HR8 HML8
      have hbw := below_next hbW hbW.size hb
      clear HR HML
      go_wp2
      go_ret
      exact ⟨D, m, c', rfl, HR8.out, HML8.out.symm, hbw⟩
end Go.Proofs.Ytkenldlhkmocjaa
