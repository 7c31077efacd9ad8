/-
  Contract of the document's own answer for chapter 15: Cmp. Conditions: arrays of eight numbers.
-/
import Derived.Test.YtkenldlhkmocjaaRf15
import Derived.Test.YtkenldlhkmocjaaMix
import Derived.Test.YtkenldlhkmocjaaRng
namespace Go.Proofs.Ytkenldlhkmocjaa
open Go.RowKit

theorem vcmp_of {a b : List Int} {p q : Bool} (hp : p = vle a b) (hq : q = vle b a) : vcmp a b = if p = true then (if q = true then 0 else -1) else if q = true then 1 else 2 := by
  rw [vcmp]
  by_cases h : a = b
  · subst h
    rw [if_pos rfl, hp, hq, vle_same]; rfl
  · rw [if_neg h, ← hp, ← hq]
    cases p
    · rfl
    · cases q
      · rfl
      · exact absurd (vle_anti hp.symm hq.symm) h
set_option maxRecDepth 100000 in
theorem rvcmp_any (w : World) (a b : List Int) (ha : a.length = 8) (hb : b.length = 8) :
    Calls Try.prog 26 #[.agg (i64v a).toArray, .agg (i64v b).toArray] w fun e w' => e = .returned (.int .i64 (vcmp a b)) ∧ Below w.heap.size w w' := by
  obtain ⟨W, hW, hgA, hgB, hbW, hsW⟩ := pair_new w (i64v a).toArray (i64v b).toArray 35 35
  have HW := Lib.hid hW
  have HA := Lib.hid ha
  have HB := Lib.hid hb
  have hs : w.heap.size + 1 < W.heap.size := by have := hsW.out; omega
  have hs0 : w.heap.size < W.heap.size := by omega
  obtain ⟨p, hp⟩ : ∃ p, p = vle a b := ⟨_, rfl⟩
  obtain ⟨q, hq⟩ : ∃ q, q = vle b a := ⟨_, rfl⟩
  have HV := vlt (vcmp_of hp hq)
  generalize vcmp a b = v at HV
  have hle1 := fun w => rvle_any w a b ha hb
  have hle2 := fun w => rvle_any w b a hb ha
  rw [← hp] at hle1
  rw [← hq] at hle2
  clear hp hq
  clear hW ha hb hsW
  go_enter Try.func26, Try.ntmps26
  go_upto_region 1 with fail
  rw [HW.out]
  clear HW
  refine wp_region_held_drew (S := fun W' => Below W.heap.size W W') (by kernel_rfl) ((Below.refl _ _).drew) (fun hHeld => ?_)
  refine wpAnyH_take (i := 0) (oi := ⟨(some 7), _, _, _, _, _⟩) (v := .agg (i64v a).toArray) rfl (by kernel_rfl) (by kernel_rfl) (by kernel_rfl) (fun _ _ _ h => h) (yieldsIf_load_mid (by rfl) _ _ rfl w.heap.size 0 rfl (i64v a) _ (fun W' hW' => range_row ((hW'.block _ hs0).trans hgA.out)) (Try.underlying35) rfl (by rw [i64v_len, HA.out]; kernel_rfl)) hHeld ?_
  try simp only [pu]
  refine wpAnyH_take (i := 1) (oi := ⟨(some 8), _, _, _, _, _⟩) (v := .agg (i64v b).toArray) rfl (by kernel_rfl) (by kernel_rfl) (by kernel_rfl) (fun _ _ _ h => h) (yieldsIf_load_mid (by rfl) _ _ rfl (w.heap.size + 1) 0 rfl (i64v b) _ (fun W' hW' => range_row ((hW'.block _ hs).trans hgB.out)) (Try.underlying35) rfl (by rw [i64v_len, HB.out]; kernel_rfl)) hHeld ?_
  try simp only [pu]
  refine wpAnyH_take (i := 3) (oi := ⟨(some 10), _, _, _, _, _⟩) (v := .agg (i64v b).toArray) rfl (by kernel_rfl) (by kernel_rfl) (by kernel_rfl) (fun _ _ _ h => h) (yieldsIf_load_mid (by rfl) _ _ rfl (w.heap.size + 1) 0 rfl (i64v b) _ (fun W' hW' => range_row ((hW'.block _ hs).trans hgB.out)) (Try.underlying35) rfl (by rw [i64v_len, HB.out]; kernel_rfl)) hHeld ?_
  try simp only [pu]
  refine wpAnyH_take (i := 4) (oi := ⟨(some 11), _, _, _, _, _⟩) (v := .agg (i64v a).toArray) rfl (by kernel_rfl) (by kernel_rfl) (by kernel_rfl) (fun _ _ _ h => h) (yieldsIf_load_mid (by rfl) _ _ rfl w.heap.size 0 rfl (i64v a) _ (fun W' hW' => range_row ((hW'.block _ hs0).trans hgA.out)) (Try.underlying35) rfl (by rw [i64v_len, HA.out]; kernel_rfl)) hHeld ?_
  try simp only [pu]
  refine wpAnyH_ready (rs := [2]) (by kernel_rfl) (by simp) ?_
  refine AllReadyH.cons (i := 2) (o := ⟨(some 9), _, _, _, _, _⟩) rfl (fun K hK => ?_) AllReadyH.nil
  go_simp
  refine (hle1 _).mono ?_
  rintro e r1W1 ⟨rfl, r1h1⟩
  refine hK.out _ _ (below_next hHeld hHeld.size r1h1) (fun hHeld => ?_)
  clear hK K r1h1
  try simp only [pu]
  refine wpAnyH_ready (rs := [5]) (by kernel_rfl) (by simp) ?_
  refine AllReadyH.cons (i := 5) (o := ⟨(some 12), _, _, _, _, _⟩) rfl (fun K hK => ?_) AllReadyH.nil
  go_simp
  refine (hle2 _).mono ?_
  rintro e r1W2 ⟨rfl, r1h2⟩
  refine hK.out _ _ (below_next hHeld hHeld.size r1h2) (fun hHeld => ?_)
  clear hK K r1h2
  try simp only [pu]
  refine wpAnyH_take (i := 6) (oi := ⟨(some 5), _, _, _, _, _⟩) (v := .bool p) rfl (by kernel_rfl) (by kernel_rfl) (by kernel_rfl) (fun _ _ _ h => h) (Or.inl ⟨by rfl, ?yr1_6⟩) hHeld ?_
  case yr1_6 => (intro W0 hSw; go_simp; try with_reducible rfl)
  try simp only [pu]
  refine wpAnyH_take (i := 7) (oi := ⟨(some 6), _, _, _, _, _⟩) (v := .bool q) rfl (by kernel_rfl) (by kernel_rfl) (by kernel_rfl) (fun _ _ _ h => h) (Or.inl ⟨by rfl, ?yr1_7⟩) hHeld ?_
  case yr1_7 => (intro W0 hSw; go_simp; try with_reducible rfl)
  try simp only [pu]
  refine wpAnyH_done (by kernel_rfl) ?_ _
  have hbw := below_next hbW hbW.size hHeld
  clear hHeld hbW hle1 hle2 hgA hgB
  cases p <;> cases q
  · have HV2 := vlt (show v = 2 from HV.out)
    clear HV
    go_wp2
    go_ret
    exact ⟨by rw [HV2.out]; rfl, hbw⟩
  · have HV2 := vlt (show v = 1 from HV.out)
    clear HV
    go_wp2
    go_ret
    exact ⟨by rw [HV2.out]; rfl, hbw⟩
  · have HV2 := vlt (show v = -1 from HV.out)
    clear HV
    go_wp2
    go_ret
    exact ⟨by rw [HV2.out]; rfl, hbw⟩
  · have HV2 := vlt (show v = 0 from HV.out)
    clear HV
    go_wp2
    go_ret
    exact ⟨by rw [HV2.out]; rfl, hbw⟩
end Go.Proofs.Ytkenldlhkmocjaa
