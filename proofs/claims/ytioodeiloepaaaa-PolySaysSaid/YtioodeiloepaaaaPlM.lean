/-
  Contract of poly's mix. Conditions: the sum lies in a block of its own; the pieces are small; a top of at most one.
-/
import Derived.Test.YtioodeiloepaaaaPlO
import Derived.Test.YtioodeiloepaaaaRegC
namespace Go.Proofs.Ytioodeiloepaaaa
open Go.RowKit

theorem nplus5 (w : World) (a0 a1 a2 a3 a4 b0 b1 b2 b3 b4 : Nat) (ha : a0 < 67108870 ∧ a1 < 67108864 ∧ a2 < 67108864 ∧ a3 < 67108864 ∧ a4 < 67108864) (hb : b0 < 67108864 ∧ b1 < 67108864 ∧ b2 < 67108864 ∧ b3 < 67108864 ∧ b4 < 67108864) :
    Calls Try.prog 27 #[.agg (u64v [a0, a1, a2, a3, a4]).toArray, .agg (u64v [b0, b1, b2, b3, b4]).toArray] w fun e w' => e = .returned (.agg (u64v [a0 + b0, a1 + b1, a2 + b2, a3 + b3, a4 + b4]).toArray) ∧ Below w.heap.size w w' := by
  have h := nplus_any w [a0, a1, a2, a3, a4] [b0, b1, b2, b3, b4] rfl rfl (by intro x hx; simp only [List.mem_cons, List.not_mem_nil, or_false] at hx; omega) (by intro x hx; simp only [List.mem_cons, List.not_mem_nil, or_false] at hx; omega)
  rw [addK_five] at h
  exact h
theorem range_below {w w' : World} {B g o : Nat} {cs : List Value} (h : w.rangeAt g o cs) (hg : g < B) (hb : Below B w w') : w'.rangeAt g o cs := fun j v hj => (hb.cell (p := ⟨g, o + j, none⟩) hg).trans (h j v hj)
set_option maxRecDepth 100000 in
set_option maxHeartbeats 2000000 in
theorem pmix_any (w : World) (g : Nat) (r0 r1 r2 r3 r4 t0 t1 t2 t3 t4 : Nat) (rest : List UInt8) (n top : Nat) (h : PObj w g [r0, r1, r2, r3, r4] [t0, t1, t2, t3, t4] rest n)
    (hr : r0 < 67108864 ∧ r1 < 67108864 ∧ r2 < 67108864 ∧ r3 < 67108864 ∧ r4 < 67108864) (ht : t0 < 67108870 ∧ t1 < 67108864 ∧ t2 < 67108864 ∧ t3 < 67108864 ∧ t4 < 67108864) (htop : top ≤ 1) :
    Calls Try.prog 24 #[.pointer (some ⟨g, 0, none⟩), .int .u64 (top : Int)] w fun e w' => e = .returned (.tuple #[]) ∧ (∃ u0 u1 u2 u3 u4, PObj w' g [r0, r1, r2, r3, r4] [u0, u1, u2, u3, u4] rest n ∧
      Vlt (nv u0 u1 u2 u3 u4 % PP = (nv t0 t1 t2 t3 t4 + (ln rest + 340282366920938463463374607431768211456 * top)) * nv r0 r1 r2 r3 r4 % PP) ∧ (u0 < 67108870 ∧ u1 < 67108864 ∧ u2 < 67108864 ∧ u3 < 67108864 ∧ u4 < 67108864)) ∧ But g w w' := by
  have HO := Lib.hid h
  have hgl := h.lt
  have hf := h.factor
  have htt := h.total
  have hrr := h.wait
  have HRL := Lib.hid h.2.2.2
  have HR := Lib.hid hr
  have HT := Lib.hid ht
  have lr : (u64v [r0, r1, r2, r3, r4]).length = 5 := rfl
  have lt : (u64v [t0, t1, t2, t3, t4]).length = 5 := rfl
  have lb : (bv rest).length = 16 := by rw [bv_len]; exact HRL.out
  have HLR := Lib.hid lr
  have HLT := Lib.hid lt
  have HLB := Lib.hid lb
  clear h hr ht lr lt lb
  go_enter Try.func24, Try.ntmps24
  go_wp2_with fail
  have HF := Lib.hid hf
  have HTT := Lib.hid htt
  have HRR := Lib.hid hrr
  clear hf htt hrr
  refine c_start (S := (fun W' => Below w.heap.size w W' ∧ W'.rangeAt g 0 (u64v [r0, r1, r2, r3, r4]) ∧ W'.rangeAt g 5 (u64v [t0, t1, t2, t3, t4]) ∧ W'.rangeAt g 10 (bv rest))) 19 (by kernel_rfl) (⟨(Below.refl _ _).drew, HF.out, HTT.out, HRR.out⟩) (fun hHeld => ?_)
  refine c_take (i := 0) (oi := ⟨(some 4), _, _, _, _, _⟩) (v := ?vq1_0) rfl (by decide) (by kernel_rfl) (by kernel_rfl) (by kernel_rfl) (fun _ _ _ h => h) (Or.inl ⟨by rfl, ?yq1_0⟩) hHeld ?_
  case yq1_0 => (intro W0 hSw; go_simp; try with_reducible rfl)
  try simp only [Act.put, List.setIfInBounds_toArray, List.set_cons_zero, List.set_cons_succ]
  refine c_take (i := 1) (oi := ⟨(some 5), _, _, _, _, _⟩) (v := ?vq1_1) rfl (by decide) (by kernel_rfl) (by kernel_rfl) (by kernel_rfl) (fun _ _ _ h => h) (Or.inl ⟨by rfl, ?yq1_1⟩) hHeld ?_
  case yq1_1 => (intro W0 hSw; go_simp; try with_reducible rfl)
  try simp only [Act.put, List.setIfInBounds_toArray, List.set_cons_zero, List.set_cons_succ]
  refine c_take (i := 2) (oi := ⟨(some 6), _, _, _, _, _⟩) (v := ?vq1_2) rfl (by decide) (by kernel_rfl) (by kernel_rfl) (by kernel_rfl) (fun _ _ _ h => h) (Or.inl ⟨by rfl, ?yq1_2⟩) hHeld ?_
  case yq1_2 => (intro W0 hSw; go_simp; try with_reducible rfl)
  try simp only [Act.put, List.setIfInBounds_toArray, List.set_cons_zero, List.set_cons_succ]
  refine c_take (i := 3) (oi := ⟨(some 7), _, _, _, _, _⟩) (v := ?vq1_3) rfl (by decide) (by kernel_rfl) (by kernel_rfl) (by kernel_rfl) (fun _ _ _ h => h) (Or.inl ⟨by rfl, ?yq1_3⟩) hHeld ?_
  case yq1_3 => (intro W0 hSw; go_simp; try with_reducible rfl)
  try simp only [Act.put, List.setIfInBounds_toArray, List.set_cons_zero, List.set_cons_succ]
  refine c_read (i := 4) (oi := ⟨(some 8), _, _, _, _, _⟩) (v := _) rfl (by decide) (by kernel_rfl) (by kernel_rfl) (by kernel_rfl) (by kernel_rfl) (by kernel_rfl) (fun _ _ _ h => h) (yieldsIf_load_mid (by rfl) _ _ rfl g 5 rfl (u64v [t0, t1, t2, t3, t4]) _ ((fun _ h => h.2.2.1)) (Try.underlying41) (rfl) (by kernel_rfl)) hHeld ?_
  try simp only [Act.put, List.setIfInBounds_toArray, List.set_cons_zero, List.set_cons_succ]
  refine c_take (i := 5) (oi := ⟨(some 9), _, _, _, _, _⟩) (v := ?vq1_4) rfl (by decide) (by kernel_rfl) (by kernel_rfl) (by kernel_rfl) (fun _ _ _ h => h) (Or.inl ⟨by rfl, ?yq1_4⟩) hHeld ?_
  case yq1_4 => (intro W0 hSw; go_simp; try with_reducible rfl)
  try simp only [Act.put, List.setIfInBounds_toArray, List.set_cons_zero, List.set_cons_succ]
  refine c_take (i := 6) (oi := ⟨(some 10), _, _, _, _, _⟩) (v := ?vq1_5) rfl (by decide) (by kernel_rfl) (by kernel_rfl) (by kernel_rfl) (fun _ _ _ h => h) (Or.inl ⟨by rfl, ?yq1_5⟩) hHeld ?_
  case yq1_5 => (intro W0 hSw; go_simp; try with_reducible rfl)
  try simp only [Act.put, List.setIfInBounds_toArray, List.set_cons_zero, List.set_cons_succ]
  refine c_take (i := 7) (oi := ⟨(some 11), _, _, _, _, _⟩) (v := ?vq1_6) rfl (by decide) (by kernel_rfl) (by kernel_rfl) (by kernel_rfl) (fun _ _ _ h => h) (Or.inl ⟨by rfl, ?yq1_6⟩) hHeld ?_
  case yq1_6 => (intro W0 hSw; go_simp; try with_reducible rfl)
  try simp only [Act.put, List.setIfInBounds_toArray, List.set_cons_zero, List.set_cons_succ]
  refine c_read (i := 8) (oi := ⟨(some 12), _, _, _, _, _⟩) (v := _) rfl (by decide) (by kernel_rfl) (by kernel_rfl) (by kernel_rfl) (by kernel_rfl) (by kernel_rfl) (fun _ _ _ h => h) (yieldsIf_load_mid (by rfl) _ _ rfl g 10 rfl (bv rest) _ ((fun _ h => h.2.2.2)) (Try.underlying23) (rfl) (by rw [HLB.out]; kernel_rfl)) hHeld ?_
  try simp only [Act.put, List.setIfInBounds_toArray, List.set_cons_zero, List.set_cons_succ]
  refine c_take (i := 9) (oi := ⟨(some 13), _, _, _, _, _⟩) (v := ?vq1_7) rfl (by decide) (by kernel_rfl) (by kernel_rfl) (by kernel_rfl) (fun _ _ _ h => h) (Or.inl ⟨by rfl, ?yq1_7⟩) hHeld ?_
  case yq1_7 => (intro W0 hSw; go_simp; try with_reducible rfl)
  try simp only [Act.put, List.setIfInBounds_toArray, List.set_cons_zero, List.set_cons_succ]
  refine c_take (i := 12) (oi := ⟨(some 16), _, _, _, _, _⟩) (v := ?vq1_8) rfl (by decide) (by kernel_rfl) (by kernel_rfl) (by kernel_rfl) (fun _ _ _ h => h) (Or.inl ⟨by rfl, ?yq1_8⟩) hHeld ?_
  case yq1_8 => (intro W0 hSw; go_simp; try with_reducible rfl)
  try simp only [Act.put, List.setIfInBounds_toArray, List.set_cons_zero, List.set_cons_succ]
  refine c_take (i := 13) (oi := ⟨(some 17), _, _, _, _, _⟩) (v := ?vq1_9) rfl (by decide) (by kernel_rfl) (by kernel_rfl) (by kernel_rfl) (fun _ _ _ h => h) (Or.inl ⟨by rfl, ?yq1_9⟩) hHeld ?_
  case yq1_9 => (intro W0 hSw; go_simp; try with_reducible rfl)
  try simp only [Act.put, List.setIfInBounds_toArray, List.set_cons_zero, List.set_cons_succ]
  refine c_take (i := 14) (oi := ⟨(some 18), _, _, _, _, _⟩) (v := ?vq1_10) rfl (by decide) (by kernel_rfl) (by kernel_rfl) (by kernel_rfl) (fun _ _ _ h => h) (Or.inl ⟨by rfl, ?yq1_10⟩) hHeld ?_
  case yq1_10 => (intro W0 hSw; go_simp; try with_reducible rfl)
  try simp only [Act.put, List.setIfInBounds_toArray, List.set_cons_zero, List.set_cons_succ]
  refine c_read (i := 15) (oi := ⟨(some 19), _, _, _, _, _⟩) (v := _) rfl (by decide) (by kernel_rfl) (by kernel_rfl) (by kernel_rfl) (by kernel_rfl) (by kernel_rfl) (fun _ _ _ h => h) (yieldsIf_load_mid (by rfl) _ _ rfl g 0 rfl (u64v [r0, r1, r2, r3, r4]) _ ((fun _ h => h.2.1)) (Try.underlying41) (rfl) (by kernel_rfl)) hHeld ?_
  try simp only [Act.put, List.setIfInBounds_toArray, List.set_cons_zero, List.set_cons_succ]
  refine c_step (i := 10) (o := ⟨(some 14), _, _, _, _, _⟩) (by kernel_rfl) rfl (fun K hK => ?_)
  go_simp
  refine (numberOf_any _ rest top HRL.out htop).mono ?_
  rintro e w2 ⟨p0, p1, p2, p3, p4, rfl, hp, lp, hb2⟩
  have hb2' : Below w.heap.size w w2 := below_undrew hb2
  refine hK.out _ _ (⟨hb2', range_below HF.out hgl hb2', range_below HTT.out hgl hb2', range_below HRR.out hgl hb2'⟩) (fun hHeld => ?_)
  clear hK K
  try simp only [Act.put, List.setIfInBounds_toArray, List.set_cons_zero, List.set_cons_succ]
  refine c_step (i := 11) (o := ⟨(some 15), _, _, _, _, _⟩) (by kernel_rfl) rfl (fun K hK => ?_)
  go_simp
  refine (nplus5 w2 t0 t1 t2 t3 t4 p0 p1 p2 p3 p4 (by have := HT.out; omega) lp).mono ?_
  rintro e w3 ⟨rfl, hb3⟩
  have hb3' : Below w.heap.size w w3 := below_next hb2' hb2'.size hb3
  refine hK.out _ _ (⟨hb3', range_below HF.out hgl hb3', range_below HTT.out hgl hb3', range_below HRR.out hgl hb3'⟩) (fun hHeld => ?_)
  clear hK K
  try simp only [Act.put, List.setIfInBounds_toArray, List.set_cons_zero, List.set_cons_succ]
  refine c_step (i := 16) (o := ⟨(some 20), _, _, _, _, _⟩) (by kernel_rfl) rfl (fun K hK => ?_)
  go_simp
  refine (ntimes_any w3 (t0 + p0) (t1 + p1) (t2 + p2) (t3 + p3) (t4 + p4) r0 r1 r2 r3 r4 (by have := HT.out; omega) (by have := HT.out; omega) (by have := HT.out; omega) (by have := HT.out; omega) (by have := HT.out; omega) HR.out.1 HR.out.2.1 HR.out.2.2.1 HR.out.2.2.2.1 HR.out.2.2.2.2).mono ?_
  rintro e w4 ⟨u0, u1, u2, u3, u4, rfl, hu, lu, hb4⟩
  have hb4' : Below w.heap.size w w4 := below_next hb3' hb3'.size hb4
  refine hK.out _ _ (⟨hb4', range_below HF.out hgl hb4', range_below HTT.out hgl hb4', range_below HRR.out hgl hb4'⟩) (fun hHeld => ?_)
  clear hK K
  try simp only [Act.put, List.setIfInBounds_toArray, List.set_cons_zero, List.set_cons_succ]
  refine c_take (i := 17) (oi := ⟨(some 21), _, _, _, _, _⟩) (v := ?vq1_11) rfl (by decide) (by kernel_rfl) (by kernel_rfl) (by kernel_rfl) (fun _ _ _ h => h) (Or.inl ⟨by rfl, ?yq1_11⟩) hHeld ?_
  case yq1_11 => (intro W0 hSw; go_simp; try with_reducible rfl)
  try simp only [Act.put, List.setIfInBounds_toArray, List.set_cons_zero, List.set_cons_succ]
  refine c_take (i := 18) (oi := ⟨(some 22), _, _, _, _, _⟩) (v := ?vq1_12) rfl (by decide) (by kernel_rfl) (by kernel_rfl) (by kernel_rfl) (fun _ _ _ h => h) (Or.inl ⟨by rfl, ?yq1_12⟩) hHeld ?_
  case yq1_12 => (intro W0 hSw; go_simp; try with_reducible rfl)
  try simp only [Act.put, List.setIfInBounds_toArray, List.set_cons_zero, List.set_cons_succ]
  have hobj := Lib.hid (HO.out.below hgl hb4')
  have hbut : But g w w4 := But.of_below hb4' (Nat.le_refl _)
  refine c_call (S' := (fun _ => True)) (o := ⟨none, _, _, _, _, _⟩) (by kernel_rfl) (by kernel_rfl) rfl (fun K hK => ?_)
  clear hHeld
  refine step_store_mid rfl 41 (.tmp 22) (.tmp 20) rfl g 5 (u64v [u0, u1, u2, u3, u4]) (by rfl) (by rfl) (sumP [r0, r1, r2, r3, r4] [t0, t1, t2, t3, t4] rest n) 44 hobj.out.1 (by rw [sumP_len rfl rfl HRL.out]; exact (by decide : 5 + 5 ≤ 27)) (by kernel_rfl) (u64v_one _) w hbut ?_
  intro w5 hg5 hb5
  refine hK.out _ _ (trivial) (fun hHeld => ?_)
  clear hK K
  try simp only [Act.put]
  refine wpAnyH_done (by kernel_rfl) ?_ _
  have hfin : PObj w5 g [r0, r1, r2, r3, r4] [u0, u1, u2, u3, u4] rest n := by
    have h1 := hg5.out
    rw [sumP_total rfl _ rfl rfl] at h1
    exact ⟨h1, rfl, rfl, HRL.out⟩
  have hval : Vlt (nv u0 u1 u2 u3 u4 % PP = (nv t0 t1 t2 t3 t4 + (ln rest + 340282366920938463463374607431768211456 * top)) * nv r0 r1 r2 r3 r4 % PP) := vlt (by
    rw [hu.out, ← hp.out]
    congr 2
    simp only [nv]; omega)
  clear hu hp hg5 hobj
  go_wp2
  go_end0
  exact ⟨rfl, ⟨u0, u1, u2, u3, u4, hfin, hval, lu⟩, hb5⟩
end Go.Proofs.Ytioodeiloepaaaa
