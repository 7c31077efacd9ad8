/-
  Contract of poly's add: the sum has taken the bytes besides. Conditions: the sum lies in a block of its own, apart from the bytes.
-/
import Derived.Test.YtioodeiloepaaaaPlM
namespace Go.Proofs.Ytioodeiloepaaaa
open Go.RowKit

/-- The sum by the factor r has taken the bytes l. -/
def SumP (w : World) (g r0 r1 r2 r3 r4 : Nat) (l : List UInt8) : Prop :=
  ∃ t0 t1 t2 t3 t4 rest, PObj w g [r0, r1, r2, r3, r4] [t0, t1, t2, t3, t4] rest (l.length % 16) ∧ (t0 < 67108870 ∧ t1 < 67108864 ∧ t2 < 67108864 ∧ t3 < 67108864 ∧ t4 < 67108864) ∧
    Vlt (nv t0 t1 t2 t3 t4 % PP = accR (nv r0 r1 r2 r3 r4) l (l.length / 16)) ∧ Hid (rest.take (l.length % 16) = l.drop (16 * (l.length / 16)))
section
variable {w w' : World} {g r0 r1 r2 r3 r4 B : Nat} {l : List UInt8}
theorem SumP.lt (h : SumP w g r0 r1 r2 r3 r4 l) : g < w.heap.size := by obtain ⟨_, _, _, _, _, _, h, _⟩ := h; exact h.lt
theorem SumP.keep (h : SumP w g r0 r1 r2 r3 r4 l) (hb : w'.heap[g]? = w.heap[g]?) : SumP w' g r0 r1 r2 r3 r4 l := by
  obtain ⟨t0, t1, t2, t3, t4, rest, h, h2⟩ := h
  exact ⟨t0, t1, t2, t3, t4, rest, h.keep hb, h2⟩
theorem SumP.below (h : SumP w g r0 r1 r2 r3 r4 l) (hB : g < B) (hb : Below B w w') : SumP w' g r0 r1 r2 r3 r4 l := h.keep (hb.block g hB)
end
theorem acc_mod (t c r : Nat) : (t + c) * r % PP = (t % PP + c) * r % PP := by
  rw [Nat.mul_mod, Nat.mul_mod (t % PP + c), Nat.mod_add_mod]
theorem p_more {l x rest : List UInt8} {r : Nat} (hr : rest.length = 16) (htk : rest.take (l.length % 16) = l.drop (16 * (l.length / 16))) (hx : l.length % 16 + x.length < 16) :
    (l ++ x).length % 16 = l.length % 16 + x.length ∧ accR r (l ++ x) ((l ++ x).length / 16) = accR r l (l.length / 16) ∧
      (rest.take (l.length % 16) ++ (x ++ rest.drop (l.length % 16 + x.length))).take ((l ++ x).length % 16) = (l ++ x).drop (16 * ((l ++ x).length / 16)) := by
  have e1 : (l ++ x).length / 16 = l.length / 16 := by rw [List.length_append]; omega
  have e2 : (l ++ x).length % 16 = l.length % 16 + x.length := by rw [List.length_append]; omega
  refine ⟨e2, by rw [e1, accR_app r l x _ (by omega)], ?_⟩
  rw [e1, e2, List.drop_append_of_le_length (by omega), ← htk, ← List.append_assoc, List.take_append_of_le_length (by simp; omega), List.take_of_length_le (by simp; omega)]
theorem p_whole {l x rest : List UInt8} {r t T : Nat} (hr : rest.length = 16) (htk : rest.take (l.length % 16) = l.drop (16 * (l.length / 16))) (hx : l.length % 16 + x.length = 16) (ht : t % PP = accR r l (l.length / 16))
    (hT : T % PP = (t + (ln (rest.take (l.length % 16) ++ (x ++ rest.drop (l.length % 16 + x.length))) + 340282366920938463463374607431768211456 * 1)) * r % PP) :
    (l ++ x).length % 16 = 0 ∧ T % PP = accR r (l ++ x) ((l ++ x).length / 16) ∧ (l ++ x).drop (16 * ((l ++ x).length / 16)) = [] := by
  have e0 : (l ++ x).length = 16 * (l.length / 16 + 1) := by rw [List.length_append]; omega
  have e1 : (l ++ x).length / 16 = l.length / 16 + 1 := by omega
  have e2 : (l ++ x).length % 16 = 0 := by omega
  have e3 : rest.take (l.length % 16) ++ (x ++ rest.drop (l.length % 16 + x.length)) = blkAt (l ++ x) (l.length / 16) := by
    rw [hx, List.drop_eq_nil_of_le (show rest.length ≤ 16 by omega), List.append_nil, blkAt, List.drop_append_of_le_length (by omega), ← htk]
    exact (List.take_of_length_le (by rw [List.length_append, List.length_take]; omega)).symm
  have e4 : (blkAt (l ++ x) (l.length / 16)).length = 16 := by rw [← e3]; simp; omega
  refine ⟨e2, ?_, List.drop_eq_nil_of_le (by omega)⟩
  rw [hT, e1, accR, e3, e4, accR_app r l x _ (by omega), acc_mod, ht]
def lenOfP : Value → Nat | .slice _ n _ => n | _ => 0

set_option maxRecDepth 100000 in
set_option maxHeartbeats 1000000 in
theorem padd_any (w : World) (g r0 r1 r2 r3 r4 : Nat) (l m : List UInt8) (A : Option Addr) (n c : Nat) (hS : SumP w g r0 r1 r2 r3 r4 l) (hr : r0 < 67108864 ∧ r1 < 67108864 ∧ r2 < 67108864 ∧ r3 < 67108864 ∧ r4 < 67108864) (hA : Src w g A m) (hm : m.length = n) (hc : n ≤ c) (hbig : n ≤ 1152921504606846976) :
    Calls Try.prog 17 #[.pointer (some ⟨g, 0, none⟩), .slice A n c] w fun e w' => e = .returned (.tuple #[]) ∧ SumP w' g r0 r1 r2 r3 r4 (l ++ m) ∧ But g w w' := by
  have HM := Lib.hid hm
  have HR := Lib.hid hr
  clear hm hr
  go_enter Try.func17, Try.ntmps17
  go_wp2
  go_loopw [1] (fun b wr => ∃ (l' r : List UInt8) (A' : Option Addr) (n' c' : Nat), b = .slice A' n' c' ∧ Hid (r.length = n') ∧ n' ≤ c' ∧ n' ≤ n ∧ Hid (l' ++ r = l ++ m) ∧ SumP wr g r0 r1 r2 r3 r4 l' ∧ Src wr g A' r ∧ But g w wr) (fun b _ => lenOfP b)
  case atStart => exact ⟨l, m, A, n, c, rfl, HM, hc, Nat.le_refl _, rfl, hS, hA, But.refl _ _⟩
  case round =>
    obtain ⟨l', r, A', n', c', rfl, hr, hc', hn', hlr, hsum, hsrc, hbut⟩ := hrel
    clear hS hA
    have hgl := hsum.lt
    have hsum0 := Lib.hid hsum
    obtain ⟨t0, t1, t2, t3, t4, rest, hob, hts, hval, htk⟩ := hsum
    obtain ⟨N, hN⟩ : ∃ N, N = l'.length % 16 := ⟨_, rfl⟩
    have hN16 : N < 16 := by omega
    rw [← hN] at hob htk
    have HN := Lib.hid hN
    have HRL := Lib.hid hob.2.2.2
    have hnb : n' ≤ 1152921504606846976 := by omega
    clear hN
    by_cases h0 : 0 < n'
    · have c26 := hob.cnt
      have hcut := cut_l Try.underlying23 Try.sizeByte g 10 N (N : Int) rfl hN16
      go_wp2_with fail
      go_region_law ((refine step_copy_but rfl (.tmp 15) (.tmp 16) 27 rfl 5 Try.underlying27 Try.sizeByte g (10 + N) (16 - N) (16 - N) n' c' A' (by rfl) (by rfl) (sumP [r0, r1, r2, r3, r4] [t0, t1, t2, t3, t4] rest N) 44 hob.1 r wr.heap.size hsrc.byt hr.out h0 (by rw [sumP_len rfl rfl HRL.out]; omega) wr (But.refl g wr).drew ?_; intro w2 hg2' hb2))
      clear hcut c26
      have hxl : (r.take (16 - N)).length = min n' (16 - N) := by rw [List.length_take, hr.out]; exact Nat.min_comm _ _
      generalize ht : min n' (16 - N) = t at *
      have ht1 : 0 < t := by omega
      have ht2 : t ≤ n' := by omega
      have ht3 : N + t ≤ 16 := by omega
      have htx : r.take (16 - N) = r.take t := by
        by_cases hq : 16 - N ≤ n'
        · rw [show t = 16 - N by omega]
        · rw [show t = n' by omega, List.take_of_length_le (by rw [hr.out]; omega), List.take_of_length_le (by rw [hr.out]; exact Nat.le_refl _)]
      rw [htx] at hxl
      have hob2 : PObj w2 g [r0, r1, r2, r3, r4] [t0, t1, t2, t3, t4] (rest.take N ++ (r.take t ++ rest.drop (N + t))) N := by
        have h1 := hg2'.out
        rw [htx, sumP_rest rfl rfl N (r.take t) HRL.out (by rw [hxl]; exact ht3), hxl] at h1
        refine ⟨h1, rfl, rfl, ?_⟩
        have := HRL.out
        rw [List.length_append, List.length_append, hxl, List.length_take, List.length_drop]; omega
      have hsrc2 := (hsrc.but hb2).cut t c' (by rw [hr.out]; exact hc')
      have hcut2 := run_cut_l Try.underlying27 Try.sizeByte A' n' c' t (t : Int) rfl ht2
      generalize hA2 : (if c' = t then A' else A'.map (·.add t)) = A2 at *
      have HXL := Lib.hid hxl
      clear hxl ht htx hA2 hg2'
      have c26 := hob2.cnt
      have f26 := hob2.frozen 26
      have hob3 : PObj (w2.setCell ⟨g, 26, none⟩ (.int .i64 ((N : Int) + (t : Int)))) g [r0, r1, r2, r3, r4] [t0, t1, t2, t3, t4] (rest.take N ++ (r.take t ++ rest.drop (N + t))) (N + t) := by
        have h1 := hob2.count (N + t)
        rwa [Int.natCast_add] at h1
      have hb3 : But g wr (w2.setCell ⟨g, 26, none⟩ (.int .i64 ((N : Int) + (t : Int)))) := hb2.set _
      have hlr2 : Hid ((l' ++ r.take t) ++ r.drop t = l ++ m) := by
        show _ = _
        rw [List.append_assoc, List.take_append_drop]; exact hlr.out
      have hrl : Hid ((r.drop t).length = n' - t) := by
        show _ = _
        rw [List.length_drop, hr.out]
      by_cases hz : N + t = 16
      · have hzb : (((N : Int) + (t : Int)) == 16) = true := by simp; omega
        have hfin : ∀ u0 u1 u2 u3 u4 w', PObj w' g [r0, r1, r2, r3, r4] [u0, u1, u2, u3, u4] (rest.take N ++ (r.take t ++ rest.drop (N + t))) 0 → nv u0 u1 u2 u3 u4 % PP = (nv t0 t1 t2 t3 t4 + (ln (rest.take N ++ (r.take t ++ rest.drop (N + t))) + 340282366920938463463374607431768211456 * 1)) * nv r0 r1 r2 r3 r4 % PP →
            (u0 < 67108870 ∧ u1 < 67108864 ∧ u2 < 67108864 ∧ u3 < 67108864 ∧ u4 < 67108864) → SumP w' g r0 r1 r2 r3 r4 (l' ++ r.take t) := by
          intro u0 u1 u2 u3 u4 w' h1 h2 h3
          have hp := p_whole (l := l') (x := r.take t) (rest := rest) (r := nv r0 r1 r2 r3 r4) (t := nv t0 t1 t2 t3 t4) (T := nv u0 u1 u2 u3 u4) HRL.out (by rw [← HN.out]; exact htk.out) (by rw [← HN.out, HXL.out]; exact hz) hval.out (by rw [← HN.out, HXL.out]; exact h2)
          refine ⟨u0, u1, u2, u3, u4, _, by rw [hp.1]; exact h1, h3, vlt hp.2.1, show _ = _ from ?_⟩
          rw [hp.1, hp.2.2, List.take_zero]
        have HFIN := Lib.hid hfin
        clear hfin hval htk hsum0
        go_wp2_with fail
        refine (pmix_any _ g r0 r1 r2 r3 r4 t0 t1 t2 t3 t4 _ (N + t) 1 hob3 HR.out hts (Nat.le_refl _)).mono ?_
        rintro e w4 ⟨rfl, ⟨u0, u1, u2, u3, u4, hob4, hu, lu⟩, hb4⟩
        have c26' := hob4.cnt
        have f26' := hob4.frozen 26
        have hsum5 : SumP (w4.setCell ⟨g, 26, none⟩ (.int .i64 0)) g r0 r1 r2 r3 r4 (l' ++ r.take t) := HFIN.out u0 u1 u2 u3 u4 _ (hob4.count 0) hu.out lu
        have hb5 : But g w2 (w4.setCell ⟨g, 26, none⟩ (.int .i64 0)) := (((But.refl g w2).set _).trans hb4).set _
        have hsrc5 := hsrc2.but hb5
        have hbut5 : But g w (w4.setCell ⟨g, 26, none⟩ (.int .i64 0)) := (hbut.trans hb2).trans hb5
        clear hob3 hob2 hob4 hb3 hb4 hu HFIN
        go_wp2
        exact ⟨⟨_, _, A2, n' - t, c' - t, rfl, hrl, by omega, by omega, hlr2, hsum5, hsrc5, hbut5⟩, by simp [lenOfP]; omega⟩
      · have hzb : (((N : Int) + (t : Int)) == 16) = false := by simp; omega
        have hp := p_more (l := l') (x := r.take t) (rest := rest) (r := nv r0 r1 r2 r3 r4) HRL.out (by rw [← HN.out]; exact htk.out) (by rw [← HN.out, HXL.out]; omega)
        rw [← HN.out, HXL.out] at hp
        have hsum3 : SumP (w2.setCell ⟨g, 26, none⟩ (.int .i64 ((N : Int) + (t : Int)))) g r0 r1 r2 r3 r4 (l' ++ r.take t) := by
          refine ⟨t0, t1, t2, t3, t4, _, by rw [hp.1]; exact hob3, hts, vlt (by rw [hp.2.1]; exact hval.out), show _ = _ from ?_⟩
          exact hp.2.2
        have hsrc3 := hsrc2.but ((But.refl g w2).set (i := 26) (.int .i64 ((N : Int) + (t : Int))))
        clear hp hval htk hob2 hob3 hsum0
        go_wp2
        exact ⟨⟨_, _, A2, n' - t, c' - t, rfl, hrl, by omega, by omega, hlr2, hsum3, hsrc3, hbut.trans hb3⟩, by simp [lenOfP]; omega⟩
    · have hr0 : r = [] := List.eq_nil_of_length_eq_zero (by rw [hr.out]; omega)
      have hl0 : l' = l ++ m := by rw [← hlr.out, hr0, List.append_nil]
      have hsumf : SumP wr g r0 r1 r2 r3 r4 (l ++ m) := by rw [← hl0]; exact hsum0.out
      have hn0 : n' = 0 := by omega
      subst hn0
      clear hl0 hr0 hval htk hob hsum0
      go_wp2
      go_end0
      exact ⟨rfl, hsumf, hbut⟩
end Go.Proofs.Ytioodeiloepaaaa
