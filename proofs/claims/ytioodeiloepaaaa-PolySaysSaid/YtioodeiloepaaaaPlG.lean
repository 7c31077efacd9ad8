/-
  Contract of poly's tag: the sum is ended. Conditions: the sum lies in a block of its own.
-/
import Derived.Test.YtioodeiloepaaaaPlD
namespace Go.Proofs.Ytioodeiloepaaaa
open Go.RowKit

theorem zeroCells_one (v : Value) (n : Nat) : (Builtin.zeroCells #[v] n).toList = List.replicate n v := by
  apply List.ext_getElem
  · simp [Builtin.zeroCells]
  · intro i h1 h2
    simp [Builtin.zeroCells, Nat.mod_one]
/-- clear of a piece of a block that is known whole, as one step of a region that draws its order. -/
theorem step_clear {P : Program} {ops : Array Oper} {o : Oper} {a : Act} {w : World} {K : Act → World → Prop} {Q : Exit → Act → World → Prop} {E : Prop} (hgd : o.guard = none) (x : Operand) (T : TypeId)
    (ho : o.op = .call { callee := .builtin .clear, args := #[x], argTypes := #[T] }) (elem : TypeId) (hu : P.underlying T = some (.slice elem)) (hz : ∀ w, (zeroValue elem).run P w = .ok (.int .u8 0) w)
    (g off n c : Nat) (hx : a.eval x = .slice (some ⟨g, off, none⟩) n c) (hn : 0 < n) (cur : List Value) (t : TypeId) (hg : w.heap[g]? = some (.cells cur.toArray t (0, 0))) (hfit : off + n ≤ cur.length) (w0 : World) (hb : But g w0 w)
    (h : ∀ w', Hid (w'.heap[g]? = some (.cells (splice cur off (bv (List.replicate n 0))).toArray t (0, 0))) → But g w0 w' → K (a.put o.dst (.tuple #[])) w') :
    if Region.wanted o (yielded ops a.tmps) = true then Oper.wp P o a w K Q else E := by
  have hw : Region.wanted o (yielded ops a.tmps) = true := by simp [Region.wanted, hgd]
  rw [if_pos hw]
  obtain ⟨m, rfl⟩ : ∃ m, n = m + 1 := ⟨n - 1, by omega⟩
  have hst := run_storeCells_at P g off t (bv (List.replicate (m + 1) 0)) 0 cur.toArray w hg (by simp [bv_len]; omega) (bv_one _)
  have hcl : (Value.int .u8 0).cells = #[Value.int .u8 0] := rfl
  have hzc : (Builtin.zeroCells (Value.int .u8 0).cells (m + 1)).toList = bv (List.replicate (m + 1) 0) := by rw [hcl, zeroCells_one, bv_rep]
  unfold Oper.wp
  simp [execOp, ho, resolve, invoke, builtin, hx, Builtin.clear_, run_underlying hu, hz, hzc, hst, Result.andThen]
  exact h _ (show _ = _ by simpa [splice] using setRow_heap w g _ _ t _ hg) (hb.row _)
theorem cut_end {P : Program} {t e n : Nat} (hu : P.underlying t = some (.array n e)) (hs : (P.info? e).map (·.size) = some 1) (g o : Nat) : ∃ A, ∀ w, (Instr.sliceAt t (.pointer (some ⟨g, o, none⟩)) (some (.int .i64 (n : Int))) none none).run P w = .ok (.slice A 0 0) w := by
  obtain ⟨i, hi', hi2⟩ := Option.map_eq_some_iff.1 hs
  have ht : P.underlying t = some (.array (P.arrayLen t) (P.elem t)) := by simp [Program.arrayLen, Program.elem, hu]
  have hn : P.arrayLen t = n := by simp [Program.arrayLen, hu]
  have he : P.elem t = e := by simp [Program.elem, hu]
  refine ⟨some ⟨g, o, none⟩, fun w => ?_⟩
  rw [run_sliceAt_array_l w t _ ht .i64 _ (by omega) (by omega), hn, he]
  simp [sizeOf, typeInfo, hi', hi2, slicedAt]
theorem step_clear_none {P : Program} {ops : Array Oper} {o : Oper} {a : Act} {w : World} {K : Act → World → Prop} {Q : Exit → Act → World → Prop} {E : Prop} (hgd : o.guard = none) (x : Operand) (T : TypeId)
    (ho : o.op = .call { callee := .builtin .clear, args := #[x], argTypes := #[T] }) (elem : TypeId) (hu : P.underlying T = some (.slice elem)) (A : Option Addr) (c : Nat) (hx : a.eval x = .slice A 0 c) (h : K (a.put o.dst (.tuple #[])) w) :
    if Region.wanted o (yielded ops a.tmps) = true then Oper.wp P o a w K Q else E := by
  have hw : Region.wanted o (yielded ops a.tmps) = true := by simp [Region.wanted, hgd]
  rw [if_pos hw]
  unfold Oper.wp
  cases A <;> simp [execOp, ho, resolve, invoke, builtin, hx, Builtin.clear_, run_underlying hu] <;> exact h
theorem zero_byte (w : World) : (zeroValue 5).run Try.prog w = .ok (.int .u8 0) w := by kernel_rfl
theorem ln_app (a b : List UInt8) : ln (a ++ b) = ln a + 256 ^ a.length * ln b := by
  have h := ln_split (a ++ b) a.length (by simp)
  rw [List.take_left, List.drop_left] at h
  exact h.symm
theorem ln_zeros (n : Nat) : ln (List.replicate n 0) = 0 := by
  induction n with
  | zero => rfl
  | succ n ih => rw [List.replicate_succ, ln, ih]; rfl
/-- The last block, with its bit and noughts behind it. -/
def lastB (rest : List UInt8) (N : Nat) : List UInt8 := (rest.set N 1).take (N + 1) ++ (List.replicate (15 - N) 0 ++ (rest.set N 1).drop (N + 1 + (15 - N)))
theorem lastB_len (rest : List UInt8) (N : Nat) (h : rest.length = 16) (hN : N < 16) : (lastB rest N).length = 16 := by simp [lastB, h]; omega
theorem lastB_ln (rest : List UInt8) (N : Nat) (h : rest.length = 16) (hN : N < 16) : ln (lastB rest N) = ln (rest.take N) + 256 ^ N := by
  have e : lastB rest N = rest.take N ++ (1 :: List.replicate (15 - N) 0) := by
    rw [lastB, List.drop_eq_nil_of_le (by rw [List.length_set]; omega), List.append_nil, List.take_set, List.take_succ_eq_append_getElem (by omega), List.set_append_right _ _ (by simp; omega)]
    have e2 : N - (rest.take N).length = 0 := by simp; omega
    rw [e2, List.set_cons_zero, List.append_assoc]
    rfl
  rw [e, ln_app, ln, ln_zeros, List.length_take, show min N rest.length = N by omega]
  simp
theorem p_last {l rest : List UInt8} {r t T : Nat} (hr : rest.length = 16) (hN : 0 < l.length % 16) (htk : rest.take (l.length % 16) = l.drop (16 * (l.length / 16))) (ht : t % PP = accR r l (l.length / 16))
    (hT : T % PP = (t + (ln (lastB rest (l.length % 16)) + 340282366920938463463374607431768211456 * 0)) * r % PP) : T % PP = polyOf r l := by
  have e1 : (l.length + 15) / 16 = l.length / 16 + 1 := by omega
  have e2 : blkAt l (l.length / 16) = rest.take (l.length % 16) := by
    rw [blkAt, htk, List.take_of_length_le (by simp; omega)]
  have e3 : (rest.take (l.length % 16)).length = l.length % 16 := by simp; omega
  rw [hT, polyOf, e1, accR, e2, e3, lastB_ln rest _ hr (by omega), acc_mod, ht]
  rfl
theorem p_none {l : List UInt8} {r : Nat} (hN : l.length % 16 = 0) : polyOf r l = accR r l (l.length / 16) := by
  rw [polyOf, show (l.length + 15) / 16 = l.length / 16 by omega]

set_option maxRecDepth 100000 in
set_option maxHeartbeats 1000000 in
/-- The sum's end: what has been mixed is told. -/
theorem ptag_any (w : World) (g r0 r1 r2 r3 r4 b0 b1 b2 b3 b4 : Nat) (l : List UInt8) (hS : SumP w g r0 r1 r2 r3 r4 l) (hr : r0 < 67108864 ∧ r1 < 67108864 ∧ r2 < 67108864 ∧ r3 < 67108864 ∧ r4 < 67108864) (hb : b0 < 67108864 ∧ b1 < 67108864 ∧ b2 < 67108864 ∧ b3 < 67108864 ∧ b4 < 67108864) :
    Calls Try.prog 18 #[.pointer (some ⟨g, 0, none⟩), .agg (u64v [b0, b1, b2, b3, b4]).toArray] w fun e w' =>
      e = .returned (.agg (bv (le ((polyOf (nv r0 r1 r2 r3 r4) l + nv b0 b1 b2 b3 b4) % 340282366920938463463374607431768211456) 16)).toArray) ∧ But g w w' := by
  have hz16 := zero_b16
  obtain ⟨out, hout⟩ : ∃ out, out = le ((polyOf (nv r0 r1 r2 r3 r4) l + nv b0 b1 b2 b3 b4) % 340282366920938463463374607431768211456) 16 := ⟨_, rfl⟩
  rw [← hout]
  have HOUT := vlt hout
  have HR := Lib.hid hr
  have HB := Lib.hid hb
  clear hout hr hb
  have hgl := hS.lt
  obtain ⟨W, hW, hgB, hgZ, hbW, hsW⟩ := pair_new w (u64v [b0, b1, b2, b3, b4]).toArray (bv z16).toArray 41 23
  have hs1 : w.heap.size + 1 < W.heap.size := by have := hsW.out; omega
  have hSW := hS.below hgl hbW
  have HW := Lib.hid hW
  clear hW hS
  obtain ⟨t0, t1, t2, t3, t4, rest, hob, hts, hval, htk⟩ := hSW
  obtain ⟨N, hN⟩ : ∃ N, N = l.length % 16 := ⟨_, rfl⟩
  have hN16 : N < 16 := by omega
  rw [← hN] at hob htk
  have HN := Lib.hid hN
  have HRL := Lib.hid hob.2.2.2
  have c26 := hob.cnt
  clear hN
  by_cases h0 : 0 < N
  · have hNi : (N : Int) < 16 := by omega
    have f26 := hob.frozen (10 + N)
    obtain ⟨x, cN⟩ : ∃ x : UInt8, W.cell? ⟨g, 10 + N, none⟩ = some (.int .u8 (x.toNat : Int)) := by
      have h1 := hob.wait N (.int .u8 (((rest[N]'(by rw [HRL.out]; exact hN16)).toNat : Nat) : Int)) (by rw [bv_at, List.getElem?_eq_getElem (by rw [HRL.out]; exact hN16)]; rfl)
      exact ⟨_, h1⟩
    have hob2 := hob.byte N 1 hN16
    rw [show (((1 : UInt8).toNat : Nat) : Int) = 1 from rfl] at hob2
    go_enter Try.func18, Try.ntmps18
    go_upto_region 1 with fail
    rw [HW.out]
    go_wp2_with fail
    go_region
    have hob2' : PObj (W.setCell ⟨g, 10 + N, none⟩ (.int .u8 1)).drew g [r0, r1, r2, r3, r4] [t0, t1, t2, t3, t4] (rest.set N 1) N := hob2
    have hb2 : But g W (W.setCell ⟨g, 10 + N, none⟩ (.int .u8 1)).drew := ((But.refl g W).set _).drew
    generalize (W.setCell ⟨g, 10 + N, none⟩ (.int .u8 1)).drew = w2 at *
    have c26' := hob2'.cnt
    clear cN f26 hob2 hob c26
    go_wp2
    by_cases h15 : N = 15
    · obtain ⟨AE, hcut⟩ := cut_end Try.underlying23 Try.sizeByte g 10
      have hcut16 : ∀ w, (Instr.sliceAt 23 (.pointer (some ⟨g, 10, none⟩)) (some (.int .i64 16)) none none).run Try.prog w = .ok (.slice AE 0 0) w := hcut
      have hw16 : IntKind.i64.wrap ((N : Int) + 1) = 16 := by rw [IntWalk.i64_in _ (by omega)]; omega
      have hl15 : lastB rest N = rest.set N 1 := by
        rw [lastB, h15, List.take_of_length_le (by rw [List.length_set, HRL.out]; decide), List.drop_eq_nil_of_le (by rw [List.length_set, HRL.out]; decide)]
        simp
      have HL15 := Lib.hid hl15
      clear hl15 hcut h15
      go_region_law ((refine step_clear_none rfl (.tmp 26) 27 rfl 5 Try.underlying27 AE 0 (by rfl) ?_))
      have hob3 : PObj w2.drew g [r0, r1, r2, r3, r4] [t0, t1, t2, t3, t4] (lastB rest N) N := by rw [HL15.out]; exact hob2'
      have hb3 : But g W w2.drew := hb2.drew
      clear hcut16 hw16
      generalize w2.drew = w3 at *
      have hfin : ∀ u0 u1 u2 u3 u4 : Nat, nv u0 u1 u2 u3 u4 % PP = (nv t0 t1 t2 t3 t4 + (ln (lastB rest N) + 340282366920938463463374607431768211456 * 0)) * nv r0 r1 r2 r3 r4 % PP → nv u0 u1 u2 u3 u4 % PP = polyOf (nv r0 r1 r2 r3 r4) l := by
        intro u0 u1 u2 u3 u4 h2
        exact p_last (rest := rest) HRL.out (by rw [← HN.out]; exact h0) (by rw [← HN.out]; exact htk.out) hval.out (by rw [← HN.out]; exact h2)
      have HFIN := Lib.hid hfin
      clear hfin hval htk
      go_wp2_with fail
      refine (pmix_any w3 g r0 r1 r2 r3 r4 t0 t1 t2 t3 t4 _ N 0 hob3 HR.out hts (Nat.zero_le _)).mono ?_
      rintro e V ⟨rfl, ⟨u0, u1, u2, u3, u4, VO, hu, VL⟩, hb4⟩
      have VV := vlt (HFIN.out u0 u1 u2 u3 u4 hu.out)
      have VB : But g W V := hb3.trans hb4
      clear HFIN hu hob3 hob2' hb2 hb3 hb4 hts
      have hgV := VO.lt
      have hzV : Hid (V.heap[w.heap.size + 1]? = some (.cells (bv z16).toArray 23 (0, 0))) := (VB.block _ (by omega) (by intro e; injection e; omega)).trans hgZ.out
      have hbV : Hid (V.heap[w.heap.size]? = some (.cells (u64v [b0, b1, b2, b3, b4]).toArray 41 (0, 0))) := (VB.block _ (by omega) (by intro e; injection e; omega)).trans hgB.out
      have HTT := Lib.hid VO.total
      have HBB := Lib.hid (range_part [] (u64v [b0, b1, b2, b3, b4]) [] (by rw [List.append_nil]; exact hbV.out) 0 rfl)
      have hVs := VB.size
      have htold := told_any V.drew u0 u1 u2 u3 u4 b0 b1 b2 b3 b4 VL HB.out
      rw [VV.out, ← HOUT.out] at htold
      have HOS := Lib.hid (show (bv out).toArray.size = 16 by simp [bv_len, HOUT.out, le_len])
      have HZ16 := Lib.hid (show (bv z16).toArray.size = 16 from rfl)
      go_wp2_with fail
      refine c_start (S := (fun W' => Below V.heap.size V W' ∧ W'.rangeAt g 5 (u64v [u0, u1, u2, u3, u4]) ∧ W'.rangeAt w.heap.size 0 (u64v [b0, b1, b2, b3, b4]))) 6 (by kernel_rfl) (⟨(Below.refl _ _).drew, HTT.out, HBB.out⟩) (fun hHeld => ?_)
      refine c_take (i := 0) (oi := ⟨(some 29), _, _, _, _, _⟩) (v := ?vq1_0) rfl (by decide) (by kernel_rfl) (by kernel_rfl) (by kernel_rfl) (fun _ _ _ h => h) (Or.inl ⟨by rfl, ?yq1_0⟩) hHeld ?_
      case yq1_0 => (intro W0 hSw; go_simp; try with_reducible rfl)
      try simp only [Act.put, List.setIfInBounds_toArray, List.set_cons_zero, List.set_cons_succ]
      refine c_take (i := 1) (oi := ⟨(some 30), _, _, _, _, _⟩) (v := ?vq1_1) rfl (by decide) (by kernel_rfl) (by kernel_rfl) (by kernel_rfl) (fun _ _ _ h => h) (Or.inl ⟨by rfl, ?yq1_1⟩) hHeld ?_
      case yq1_1 => (intro W0 hSw; go_simp; try with_reducible rfl)
      try simp only [Act.put, List.setIfInBounds_toArray, List.set_cons_zero, List.set_cons_succ]
      refine c_take (i := 2) (oi := ⟨(some 31), _, _, _, _, _⟩) (v := ?vq1_2) rfl (by decide) (by kernel_rfl) (by kernel_rfl) (by kernel_rfl) (fun _ _ _ h => h) (Or.inl ⟨by rfl, ?yq1_2⟩) hHeld ?_
      case yq1_2 => (intro W0 hSw; go_simp; try with_reducible rfl)
      try simp only [Act.put, List.setIfInBounds_toArray, List.set_cons_zero, List.set_cons_succ]
      refine c_read (i := 3) (oi := ⟨(some 32), _, _, _, _, _⟩) (v := _) rfl (by decide) (by kernel_rfl) (by kernel_rfl) (by kernel_rfl) (by kernel_rfl) (by kernel_rfl) (fun _ _ _ h => h) (yieldsIf_load_mid (by rfl) _ _ rfl g 5 rfl (u64v [u0, u1, u2, u3, u4]) _ ((fun _ h => h.2.1)) (Try.underlying41) (rfl) (by kernel_rfl)) hHeld ?_
      try simp only [Act.put, List.setIfInBounds_toArray, List.set_cons_zero, List.set_cons_succ]
      refine c_read (i := 4) (oi := ⟨(some 33), _, _, _, _, _⟩) (v := _) rfl (by decide) (by kernel_rfl) (by kernel_rfl) (by kernel_rfl) (by kernel_rfl) (by kernel_rfl) (fun _ _ _ h => h) (yieldsIf_load_mid (by rfl) _ _ rfl w.heap.size 0 rfl (u64v [b0, b1, b2, b3, b4]) _ ((fun _ h => h.2.2)) (Try.underlying41) (rfl) (by kernel_rfl)) hHeld ?_
      try simp only [Act.put, List.setIfInBounds_toArray, List.set_cons_zero, List.set_cons_succ]
      refine c_step (i := 5) (o := ⟨(some 34), _, _, _, _, _⟩) (by kernel_rfl) rfl (fun K hK => ?_)
      go_simp
      refine htold.mono ?_
      rintro e w8 ⟨rfl, hb8⟩
      have hb8' : Below V.heap.size V w8 := below_undrew hb8
      refine hK.out _ _ (⟨hb8', range_below HTT.out hgV hb8', range_below HBB.out (by omega) hb8'⟩) (fun hHeld => ?_)
      clear hK K
      try simp only [Act.put, List.setIfInBounds_toArray, List.set_cons_zero, List.set_cons_succ]
      have hz8 : Hid (w8.heap[w.heap.size + 1]? = some (.cells (bv z16).toArray 23 (0, 0))) := (hb8'.block _ (by omega)).trans hzV.out
      refine c_call (S' := (fun _ => True)) (o := ⟨none, _, _, _, _, _⟩) (by kernel_rfl) (by kernel_rfl) rfl (fun K hK => ?_)
      clear hHeld
      refine step_store_row rfl 23 (.tmp 4) (.tmp 34) rfl (w.heap.size + 1) (bv out).toArray (by rfl) (by rfl) 23 _ hz8.out (by rw [HOS.out]; kernel_rfl) (by rw [HOS.out]; exact HZ16.out) (all_oneCell_toArray (bv_one _)) ?_
      refine hK.out _ _ (trivial) (fun hHeld => ?_)
      clear hK K
      try simp only [Act.put]
      refine wpAnyH_done (by kernel_rfl) ?_ _
      have hbfin : But g w (w8.setRow (w.heap.size + 1) (bv out).toArray) := by
        have h1 : But g w w8 := ((But.of_below hbW (Nat.le_refl _)).trans VB).trans (But.of_below hb8' (Nat.le_refl _))
        exact ⟨h1.os, h1.tape, h1.output, by have := h1.size; simpa [World.setRow] using this, fun k hk hn => (setRow_other w8 _ k _ (by omega)).trans (h1.block k hk hn)⟩
      go_wp2
      refine bodyPost_ret (v := .agg (bv out).toArray) (results_cell_row Try.results18 _ _ (w.heap.size + 1) 23 _ (0, 0) _ rfl (setRow_heap _ _ _ _ _ _ hz8.out) Try.underlying23 rfl (by rw [HOS.out]; kernel_rfl)) rfl ⟨rfl, hbfin⟩
    · have hcut := cut_l Try.underlying23 Try.sizeByte g 10 (N + 1) ((N : Int) + 1) (by omega) (by omega)
      have hw1 : IntKind.i64.wrap ((N : Int) + 1) = (N : Int) + 1 := IntWalk.i64_in _ (by omega)
      go_region_law ((refine step_clear rfl (.tmp 26) 27 rfl 5 Try.underlying27 zero_byte g (10 + (N + 1)) (15 - N) (15 - N) (by rfl) (by omega) (sumP [r0, r1, r2, r3, r4] [t0, t1, t2, t3, t4] (rest.set N 1) N) 44 hob2'.1 (by rw [sumP_len rfl rfl hob2'.2.2.2]; omega) w2 (But.refl g w2).drew ?_; intro w3 hg3 hb3'))
      have hob3 : PObj w3 g [r0, r1, r2, r3, r4] [t0, t1, t2, t3, t4] (lastB rest N) N := by
        have h1 := hg3.out
        rw [sumP_rest rfl rfl (N + 1) (List.replicate (15 - N) 0) hob2'.2.2.2 (by simp; omega), List.length_replicate] at h1
        exact ⟨h1, rfl, rfl, lastB_len rest N HRL.out hN16⟩
      have hb3 : But g W w3 := hb2.trans hb3'
      clear hcut hg3 hb3' hw1
      have hfin : ∀ u0 u1 u2 u3 u4 : Nat, nv u0 u1 u2 u3 u4 % PP = (nv t0 t1 t2 t3 t4 + (ln (lastB rest N) + 340282366920938463463374607431768211456 * 0)) * nv r0 r1 r2 r3 r4 % PP → nv u0 u1 u2 u3 u4 % PP = polyOf (nv r0 r1 r2 r3 r4) l := by
        intro u0 u1 u2 u3 u4 h2
        exact p_last (rest := rest) HRL.out (by rw [← HN.out]; exact h0) (by rw [← HN.out]; exact htk.out) hval.out (by rw [← HN.out]; exact h2)
      have HFIN := Lib.hid hfin
      clear hfin hval htk
      go_wp2_with fail
      refine (pmix_any w3 g r0 r1 r2 r3 r4 t0 t1 t2 t3 t4 _ N 0 hob3 HR.out hts (Nat.zero_le _)).mono ?_
      rintro e V ⟨rfl, ⟨u0, u1, u2, u3, u4, VO, hu, VL⟩, hb4⟩
      have VV := vlt (HFIN.out u0 u1 u2 u3 u4 hu.out)
      have VB : But g W V := hb3.trans hb4
      clear HFIN hu hob3 hob2' hb2 hb3 hb4 hts
      have hgV := VO.lt
      have hzV : Hid (V.heap[w.heap.size + 1]? = some (.cells (bv z16).toArray 23 (0, 0))) := (VB.block _ (by omega) (by intro e; injection e; omega)).trans hgZ.out
      have hbV : Hid (V.heap[w.heap.size]? = some (.cells (u64v [b0, b1, b2, b3, b4]).toArray 41 (0, 0))) := (VB.block _ (by omega) (by intro e; injection e; omega)).trans hgB.out
      have HTT := Lib.hid VO.total
      have HBB := Lib.hid (range_part [] (u64v [b0, b1, b2, b3, b4]) [] (by rw [List.append_nil]; exact hbV.out) 0 rfl)
      have hVs := VB.size
      have htold := told_any V.drew u0 u1 u2 u3 u4 b0 b1 b2 b3 b4 VL HB.out
      rw [VV.out, ← HOUT.out] at htold
      have HOS := Lib.hid (show (bv out).toArray.size = 16 by simp [bv_len, HOUT.out, le_len])
      have HZ16 := Lib.hid (show (bv z16).toArray.size = 16 from rfl)
      go_wp2_with fail
      refine c_start (S := (fun W' => Below V.heap.size V W' ∧ W'.rangeAt g 5 (u64v [u0, u1, u2, u3, u4]) ∧ W'.rangeAt w.heap.size 0 (u64v [b0, b1, b2, b3, b4]))) 6 (by kernel_rfl) (⟨(Below.refl _ _).drew, HTT.out, HBB.out⟩) (fun hHeld => ?_)
      refine c_take (i := 0) (oi := ⟨(some 29), _, _, _, _, _⟩) (v := ?vq2_0) rfl (by decide) (by kernel_rfl) (by kernel_rfl) (by kernel_rfl) (fun _ _ _ h => h) (Or.inl ⟨by rfl, ?yq2_0⟩) hHeld ?_
      case yq2_0 => (intro W0 hSw; go_simp; try with_reducible rfl)
      try simp only [Act.put, List.setIfInBounds_toArray, List.set_cons_zero, List.set_cons_succ]
      refine c_take (i := 1) (oi := ⟨(some 30), _, _, _, _, _⟩) (v := ?vq2_1) rfl (by decide) (by kernel_rfl) (by kernel_rfl) (by kernel_rfl) (fun _ _ _ h => h) (Or.inl ⟨by rfl, ?yq2_1⟩) hHeld ?_
      case yq2_1 => (intro W0 hSw; go_simp; try with_reducible rfl)
      try simp only [Act.put, List.setIfInBounds_toArray, List.set_cons_zero, List.set_cons_succ]
      refine c_take (i := 2) (oi := ⟨(some 31), _, _, _, _, _⟩) (v := ?vq2_2) rfl (by decide) (by kernel_rfl) (by kernel_rfl) (by kernel_rfl) (fun _ _ _ h => h) (Or.inl ⟨by rfl, ?yq2_2⟩) hHeld ?_
      case yq2_2 => (intro W0 hSw; go_simp; try with_reducible rfl)
      try simp only [Act.put, List.setIfInBounds_toArray, List.set_cons_zero, List.set_cons_succ]
      refine c_read (i := 3) (oi := ⟨(some 32), _, _, _, _, _⟩) (v := _) rfl (by decide) (by kernel_rfl) (by kernel_rfl) (by kernel_rfl) (by kernel_rfl) (by kernel_rfl) (fun _ _ _ h => h) (yieldsIf_load_mid (by rfl) _ _ rfl g 5 rfl (u64v [u0, u1, u2, u3, u4]) _ ((fun _ h => h.2.1)) (Try.underlying41) (rfl) (by kernel_rfl)) hHeld ?_
      try simp only [Act.put, List.setIfInBounds_toArray, List.set_cons_zero, List.set_cons_succ]
      refine c_read (i := 4) (oi := ⟨(some 33), _, _, _, _, _⟩) (v := _) rfl (by decide) (by kernel_rfl) (by kernel_rfl) (by kernel_rfl) (by kernel_rfl) (by kernel_rfl) (fun _ _ _ h => h) (yieldsIf_load_mid (by rfl) _ _ rfl w.heap.size 0 rfl (u64v [b0, b1, b2, b3, b4]) _ ((fun _ h => h.2.2)) (Try.underlying41) (rfl) (by kernel_rfl)) hHeld ?_
      try simp only [Act.put, List.setIfInBounds_toArray, List.set_cons_zero, List.set_cons_succ]
      refine c_step (i := 5) (o := ⟨(some 34), _, _, _, _, _⟩) (by kernel_rfl) rfl (fun K hK => ?_)
      go_simp
      refine htold.mono ?_
      rintro e w8 ⟨rfl, hb8⟩
      have hb8' : Below V.heap.size V w8 := below_undrew hb8
      refine hK.out _ _ (⟨hb8', range_below HTT.out hgV hb8', range_below HBB.out (by omega) hb8'⟩) (fun hHeld => ?_)
      clear hK K
      try simp only [Act.put, List.setIfInBounds_toArray, List.set_cons_zero, List.set_cons_succ]
      have hz8 : Hid (w8.heap[w.heap.size + 1]? = some (.cells (bv z16).toArray 23 (0, 0))) := (hb8'.block _ (by omega)).trans hzV.out
      refine c_call (S' := (fun _ => True)) (o := ⟨none, _, _, _, _, _⟩) (by kernel_rfl) (by kernel_rfl) rfl (fun K hK => ?_)
      clear hHeld
      refine step_store_row rfl 23 (.tmp 4) (.tmp 34) rfl (w.heap.size + 1) (bv out).toArray (by rfl) (by rfl) 23 _ hz8.out (by rw [HOS.out]; kernel_rfl) (by rw [HOS.out]; exact HZ16.out) (all_oneCell_toArray (bv_one _)) ?_
      refine hK.out _ _ (trivial) (fun hHeld => ?_)
      clear hK K
      try simp only [Act.put]
      refine wpAnyH_done (by kernel_rfl) ?_ _
      have hbfin : But g w (w8.setRow (w.heap.size + 1) (bv out).toArray) := by
        have h1 : But g w w8 := ((But.of_below hbW (Nat.le_refl _)).trans VB).trans (But.of_below hb8' (Nat.le_refl _))
        exact ⟨h1.os, h1.tape, h1.output, by have := h1.size; simpa [World.setRow] using this, fun k hk hn => (setRow_other w8 _ k _ (by omega)).trans (h1.block k hk hn)⟩
      go_wp2
      refine bodyPost_ret (v := .agg (bv out).toArray) (results_cell_row Try.results18 _ _ (w.heap.size + 1) 23 _ (0, 0) _ rfl (setRow_heap _ _ _ _ _ _ hz8.out) Try.underlying23 rfl (by rw [HOS.out]; kernel_rfl)) rfl ⟨rfl, hbfin⟩
  · have hN0 : N = 0 := by omega
    have WB : But g W W := But.refl g W
    have WV := vlt (show nv t0 t1 t2 t3 t4 % PP = polyOf (nv r0 r1 r2 r3 r4) l by rw [p_none (by rw [← HN.out]; exact hN0)]; exact hval.out)
    have WO := hob
    have WL := hts
    have hgt : ¬ (0 < (N : Int)) := by omega
    clear hval htk hob hts
    go_enter Try.func18, Try.ntmps18
    go_upto_region 1 with fail
    rw [HW.out]
    have hgV := WO.lt
    have hzV : Hid (W.heap[w.heap.size + 1]? = some (.cells (bv z16).toArray 23 (0, 0))) := (WB.block _ (by omega) (by intro e; injection e; omega)).trans hgZ.out
    have hbV : Hid (W.heap[w.heap.size]? = some (.cells (u64v [b0, b1, b2, b3, b4]).toArray 41 (0, 0))) := (WB.block _ (by omega) (by intro e; injection e; omega)).trans hgB.out
    have HTT := Lib.hid WO.total
    have HBB := Lib.hid (range_part [] (u64v [b0, b1, b2, b3, b4]) [] (by rw [List.append_nil]; exact hbV.out) 0 rfl)
    have hVs := WB.size
    have htold := told_any W.drew t0 t1 t2 t3 t4 b0 b1 b2 b3 b4 WL HB.out
    rw [WV.out, ← HOUT.out] at htold
    have HOS := Lib.hid (show (bv out).toArray.size = 16 by simp [bv_len, HOUT.out, le_len])
    have HZ16 := Lib.hid (show (bv z16).toArray.size = 16 from rfl)
    go_wp2_with fail
    refine c_start (S := (fun W' => Below W.heap.size W W' ∧ W'.rangeAt g 5 (u64v [t0, t1, t2, t3, t4]) ∧ W'.rangeAt w.heap.size 0 (u64v [b0, b1, b2, b3, b4]))) 6 (by kernel_rfl) (⟨(Below.refl _ _).drew, HTT.out, HBB.out⟩) (fun hHeld => ?_)
    refine c_take (i := 0) (oi := ⟨(some 29), _, _, _, _, _⟩) (v := ?vq3_0) rfl (by decide) (by kernel_rfl) (by kernel_rfl) (by kernel_rfl) (fun _ _ _ h => h) (Or.inl ⟨by rfl, ?yq3_0⟩) hHeld ?_
    case yq3_0 => (intro W0 hSw; go_simp; try with_reducible rfl)
    try simp only [Act.put, List.setIfInBounds_toArray, List.set_cons_zero, List.set_cons_succ]
    refine c_take (i := 1) (oi := ⟨(some 30), _, _, _, _, _⟩) (v := ?vq3_1) rfl (by decide) (by kernel_rfl) (by kernel_rfl) (by kernel_rfl) (fun _ _ _ h => h) (Or.inl ⟨by rfl, ?yq3_1⟩) hHeld ?_
    case yq3_1 => (intro W0 hSw; go_simp; try with_reducible rfl)
    try simp only [Act.put, List.setIfInBounds_toArray, List.set_cons_zero, List.set_cons_succ]
    refine c_take (i := 2) (oi := ⟨(some 31), _, _, _, _, _⟩) (v := ?vq3_2) rfl (by decide) (by kernel_rfl) (by kernel_rfl) (by kernel_rfl) (fun _ _ _ h => h) (Or.inl ⟨by rfl, ?yq3_2⟩) hHeld ?_
    case yq3_2 => (intro W0 hSw; go_simp; try with_reducible rfl)
    try simp only [Act.put, List.setIfInBounds_toArray, List.set_cons_zero, List.set_cons_succ]
    refine c_read (i := 3) (oi := ⟨(some 32), _, _, _, _, _⟩) (v := _) rfl (by decide) (by kernel_rfl) (by kernel_rfl) (by kernel_rfl) (by kernel_rfl) (by kernel_rfl) (fun _ _ _ h => h) (yieldsIf_load_mid (by rfl) _ _ rfl g 5 rfl (u64v [t0, t1, t2, t3, t4]) _ ((fun _ h => h.2.1)) (Try.underlying41) (rfl) (by kernel_rfl)) hHeld ?_
    try simp only [Act.put, List.setIfInBounds_toArray, List.set_cons_zero, List.set_cons_succ]
    refine c_read (i := 4) (oi := ⟨(some 33), _, _, _, _, _⟩) (v := _) rfl (by decide) (by kernel_rfl) (by kernel_rfl) (by kernel_rfl) (by kernel_rfl) (by kernel_rfl) (fun _ _ _ h => h) (yieldsIf_load_mid (by rfl) _ _ rfl w.heap.size 0 rfl (u64v [b0, b1, b2, b3, b4]) _ ((fun _ h => h.2.2)) (Try.underlying41) (rfl) (by kernel_rfl)) hHeld ?_
    try simp only [Act.put, List.setIfInBounds_toArray, List.set_cons_zero, List.set_cons_succ]
    refine c_step (i := 5) (o := ⟨(some 34), _, _, _, _, _⟩) (by kernel_rfl) rfl (fun K hK => ?_)
    go_simp
    refine htold.mono ?_
    rintro e w8 ⟨rfl, hb8⟩
    have hb8' : Below W.heap.size W w8 := below_undrew hb8
    refine hK.out _ _ (⟨hb8', range_below HTT.out hgV hb8', range_below HBB.out (by omega) hb8'⟩) (fun hHeld => ?_)
    clear hK K
    try simp only [Act.put, List.setIfInBounds_toArray, List.set_cons_zero, List.set_cons_succ]
    have hz8 : Hid (w8.heap[w.heap.size + 1]? = some (.cells (bv z16).toArray 23 (0, 0))) := (hb8'.block _ (by omega)).trans hzV.out
    refine c_call (S' := (fun _ => True)) (o := ⟨none, _, _, _, _, _⟩) (by kernel_rfl) (by kernel_rfl) rfl (fun K hK => ?_)
    clear hHeld
    refine step_store_row rfl 23 (.tmp 4) (.tmp 34) rfl (w.heap.size + 1) (bv out).toArray (by rfl) (by rfl) 23 _ hz8.out (by rw [HOS.out]; kernel_rfl) (by rw [HOS.out]; exact HZ16.out) (all_oneCell_toArray (bv_one _)) ?_
    refine hK.out _ _ (trivial) (fun hHeld => ?_)
    clear hK K
    try simp only [Act.put]
    refine wpAnyH_done (by kernel_rfl) ?_ _
    have hbfin : But g w (w8.setRow (w.heap.size + 1) (bv out).toArray) := by
      have h1 : But g w w8 := ((But.of_below hbW (Nat.le_refl _)).trans WB).trans (But.of_below hb8' (Nat.le_refl _))
      exact ⟨h1.os, h1.tape, h1.output, by have := h1.size; simpa [World.setRow] using this, fun k hk hn => (setRow_other w8 _ k _ (by omega)).trans (h1.block k hk hn)⟩
    go_wp2
    refine bodyPost_ret (v := .agg (bv out).toArray) (results_cell_row Try.results18 _ _ (w.heap.size + 1) 23 _ (0, 0) _ rfl (setRow_heap _ _ _ _ _ _ hz8.out) Try.underlying23 rfl (by rw [HOS.out]; kernel_rfl)) rfl ⟨rfl, hbfin⟩
end Go.Proofs.Ytioodeiloepaaaa
