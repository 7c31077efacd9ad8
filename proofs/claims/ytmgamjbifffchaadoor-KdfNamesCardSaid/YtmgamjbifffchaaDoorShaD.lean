/-
  Contract of sha's Add: the object has taken the bytes besides. Conditions: the object lies in a block of its own, apart from the bytes; the tables lie as the program lays them; there were fewer than 2^60 bytes in all.
-/
import Derived.Test.YtmgamjbifffchaaDoorShaX
import Derived.Deep.RegionLaw
namespace Go.Proofs.YtmgamjbifffchaaDoor
open Go.RowKit

/-- Bytes that lie outside block g. -/
def Src (w : World) (g : Nat) (A : Option Addr) (m : List UInt8) : Prop :=
  m = [] ∨ ∃ b o, A = some ⟨b, o, none⟩ ∧ b ≠ g ∧ b < w.heap.size ∧ ∀ j x, m[j]? = some x → w.cell? ⟨b, o + j, none⟩ = some (.int .u8 (x.toNat : Int))
section
variable {w w' : World} {g B : Nat} {A : Option Addr} {m : List UInt8}
theorem Src.but (h : Src w g A m) (hb : But g w w') : Src w' g A m := by
  rcases h with h | ⟨b, o, hA, hne, hlt, hc⟩
  · exact .inl h
  · exact .inr ⟨b, o, hA, hne, Nat.lt_of_lt_of_le hlt hb.size, fun j x hj => (World.cell?_of_block (w := w) (hb.block b hlt (fun e => hne (by injection e)))).trans (hc j x hj)⟩
theorem Src.byt (h : Src w g A m) : Byt w w.heap.size A m := by
  rcases h with h | ⟨b, o, hA, hne, hlt, hc⟩
  · exact .inl h
  · exact .inr ⟨b, o, hA, hlt, hc⟩
theorem Byt.toSrc (h : Byt w B A m) (hB : B ≤ w.heap.size) (hg : B ≤ g) : Src w g A m := by
  rcases h with h | ⟨b, o, hA, hlt, hc⟩
  · exact .inl h
  · exact .inr ⟨b, o, hA, by omega, by omega, hc⟩
/-- The rest of a slice. -/
theorem Src.cut (h : Src w g A m) (t c : Nat) (hc : m.length ≤ c) : Src w g (if c = t then A else A.map (·.add t)) (m.drop t) := by
  rcases h with h | ⟨b, o, rfl, hne, hlt, hcell⟩
  · subst h; exact .inl (by simp)
  · by_cases ht : c = t
    · exact .inl (List.drop_eq_nil_of_le (by omega))
    · rw [if_neg ht]
      refine .inr ⟨b, o + t, by rw [Option.map_some, addr_add], hne, hlt, fun j x hj => ?_⟩
      rw [List.getElem?_drop] at hj
      rw [Nat.add_assoc]; exact hcell _ x hj
end
theorem run_cut_l {P : Program} {T E : TypeId} (hT : P.underlying T = some (.slice E)) (hs : (P.info? E).map (·.size) = some 1) (A : Option Addr) (n c t : Nat) (L : Int) (hL : L = (t : Int)) (ht : t ≤ n) (w : World) :
    (Instr.slice T (.slice A n c) (some (.int .i64 L)) none none).run P w = .ok (.slice (if c = t then A else A.map (·.add t)) (n - t) (c - t)) w := by
  subst hL
  obtain ⟨i, hi', hi2⟩ := Option.map_eq_some_iff.1 hs
  have he : P.elem T = E := by simp [Program.elem, hT]
  rw [run_slice_l w T A n c (by rw [he]; exact hT) .i64 _ (by omega) (by omega), he]
  simp [sizeOf, typeInfo, hi', hi2, sliced]

theorem sumc_splice (s : St) (rest x : List UInt8) (n r : Nat) (hr : rest.length = 64) (h : r + x.length ≤ 64) :
    splice (sumc s rest n) (8 + r) (bv x) = sumc s (rest.take r ++ (x ++ rest.drop (r + x.length))) n := by
  have e : (u32v s.list).length = 8 := rfl
  have h1 : List.take (8 + r) (sumc s rest n) = u32v s.list ++ bv (rest.take r) := by
    rw [sumc, List.take_append, e, List.take_of_length_le (by omega), Nat.add_sub_cancel_left, List.take_append_of_le_length (by rw [bv_len]; omega), bv_take]
  have h2 : List.drop (8 + r + (bv x).length) (sumc s rest n) = bv (rest.drop (r + x.length)) ++ [.int .i64 (n : Int)] := by
    rw [sumc, List.drop_append, e, List.drop_of_length_le (by omega), bv_len, List.nil_append, show 8 + r + x.length - 8 = r + x.length by omega, List.drop_append_of_le_length (by rw [bv_len]; omega)]
    simp [bv, List.map_drop]
  rw [splice, h1, h2, sumc]
  simp [bv_app]
theorem sumc_count (s : St) (rest : List UInt8) (n k : Nat) (hr : rest.length = 64) : (sumc s rest n).set 72 (.int .i64 (k : Int)) = sumc s rest k := by
  have e : (u32v s.list).length = 8 := rfl
  rw [sumc, List.set_append_right _ _ (by omega), e, List.set_append_right _ _ (by rw [bv_len]; omega), bv_len, hr]
  rfl
theorem SObj.count {w : World} {g n : Nat} {s : St} {rest : List UInt8} (h : SObj w g s rest n) (k : Nat) : SObj (w.setCell ⟨g, 72, none⟩ (.int .i64 (k : Int))) g s rest k := by
  refine ⟨(heap_setCell_same w g 72 _ _ _ h.1).trans ?_, h.2⟩
  rw [← sumc_count s rest n k h.2]
  simp
/-- Some bytes more wait, or the block is whole. -/
theorem sum_more {w : World} {g : Nat} {l x rest : List UInt8} (hr : rest.length = 64) (htk : rest.take (l.length % 64) = l.drop (64 * (l.length / 64))) (hx : l.length % 64 + x.length < 64)
    (h : SObj w g (blks l (l.length / 64)) (rest.take (l.length % 64) ++ (x ++ rest.drop (l.length % 64 + x.length))) (l.length + x.length)) : SumAt w g (l ++ x) := by
  have e1 : (l ++ x).length / 64 = l.length / 64 := by rw [List.length_append]; omega
  have e2 : (l ++ x).length % 64 = l.length % 64 + x.length := by rw [List.length_append]; omega
  refine ⟨rest.take (l.length % 64) ++ (x ++ rest.drop (l.length % 64 + x.length)), ?_, ?_⟩
  · rw [e1, blks_app l x _ (by omega), List.length_append]; exact h
  · rw [e1, e2, List.drop_append_of_le_length (by omega), ← htk, ← List.append_assoc, List.take_append_of_le_length (by simp; omega), List.take_of_length_le (by simp; omega)]
theorem sum_whole {w : World} {g : Nat} {l x rest : List UInt8} (hr : rest.length = 64) (htk : rest.take (l.length % 64) = l.drop (64 * (l.length / 64))) (hx : l.length % 64 + x.length = 64)
    (h : SObj w g (comp (blks l (l.length / 64)) (rest.take (l.length % 64) ++ (x ++ rest.drop (l.length % 64 + x.length)))) (rest.take (l.length % 64) ++ (x ++ rest.drop (l.length % 64 + x.length))) (l.length + x.length)) : SumAt w g (l ++ x) := by
  have e0 : (l ++ x).length = 64 * (l.length / 64 + 1) := by rw [List.length_append]; omega
  have e1 : (l ++ x).length / 64 = l.length / 64 + 1 := by omega
  have e2 : (l ++ x).length % 64 = 0 := by omega
  have e3 : rest.take (l.length % 64) ++ (x ++ rest.drop (l.length % 64 + x.length)) = ((l ++ x).drop (64 * (l.length / 64))).take 64 := by
    rw [hx, List.drop_eq_nil_of_le (show rest.length ≤ 64 by omega), List.append_nil, List.drop_append_of_le_length (by omega), ← htk]
    exact (List.take_of_length_le (by rw [List.length_append, List.length_take]; omega)).symm
  refine ⟨rest.take (l.length % 64) ++ (x ++ rest.drop (l.length % 64 + x.length)), ?_, ?_⟩
  · rw [e1, blks, blks_app l x _ (by omega), ← e3, List.length_append]; exact h
  · rw [e1, e2, List.take_zero, List.drop_eq_nil_of_le (by omega)]

/-- copy into a block that is known whole, as one step of a region that draws its order. -/
theorem step_copy_but {P : Program} {ops : Array Oper} {o : Oper} {a : Act} {w : World} {K : Act → World → Prop} {Q : Exit → Act → World → Prop} {E : Prop} (hgd : o.guard = none) (d s : Operand) (T : TypeId)
    (ho : o.op = .call { callee := .builtin .copy, args := #[d, s], argTypes := #[T, T] }) (elem : TypeId) (hu : P.underlying T = some (.slice elem)) (hsz : (P.info? elem).map (·.size) = some 1)
    (g off dLen dCap sLen sCap : Nat) (A : Option Addr) (hd : a.eval d = .slice (some ⟨g, off, none⟩) dLen dCap) (hs : a.eval s = .slice A sLen sCap)
    (cur : List Value) (t : TypeId) (hg : w.heap[g]? = some (.cells cur.toArray t (0, 0))) (m : List UInt8) (B : Nat) (hA : Byt w B A m) (hm : m.length = sLen) (hs0 : 0 < sLen)
    (hfit : off + dLen ≤ cur.length) (w0 : World) (hb : But g w0 w)
    (h : ∀ w', Hid (w'.heap[g]? = some (.cells (splice cur off (bv (m.take dLen))).toArray t (0, 0))) → But g w0 w' → K (a.put o.dst (.int .i64 ((min sLen dLen : Nat) : Int))) w') :
    if Region.wanted o (yielded ops a.tmps) = true then Oper.wp P o a w K Q else E := by
  have hw : Region.wanted o (yielded ops a.tmps) = true := by simp [Region.wanted, hgd]
  rw [if_pos hw]
  rcases hA with h0 | ⟨b, o', rfl, hlt, hc⟩
  · subst h0; simp at hm; omega
  · have hlen : (bv (m.take dLen)).length = Nat.min sLen dLen := by rw [bv_len, List.length_take, hm]; exact Nat.min_comm _ _
    have hsrc : ∀ j v, (bv (m.take dLen))[j]? = some v → w.cell? ((⟨b, o', none⟩ : Addr).add j) = some v := by
      intro j v hj
      rw [bv_at] at hj
      obtain ⟨x, hx, rfl⟩ := Option.map_eq_some_iff.1 hj
      rw [addr_add]
      refine hc j x ?_
      have hjl : j < dLen := by
        have := (List.getElem?_eq_some_iff.1 hx).1
        simp at this; omega
      rwa [List.getElem?_take_of_lt hjl] at hx
    have hl2 : (bv (m.take dLen)).length = min sLen dLen := hlen
    have hrun := run_copy_row (P := P) w T T o.type elem g off dLen dCap ⟨b, o', none⟩ sLen sCap cur.toArray t (bv (m.take dLen)) hu hsz hg hlen hsrc (by simp only [List.size_toArray]; omega) (bv_one _)
    unfold Oper.wp
    simp [execOp, ho, resolve, invoke, builtin, hd, hs, hrun, Result.andThen]
    have h3 := h _ (show _ = _ by simpa [splice] using setRow_heap w g _ _ t _ hg) (hb.row _)
    rw [hl2] at h3 ⊢
    exact h3
theorem tmod64 (N : Nat) : (N : Int).tmod 64 = ((N % 64 : Nat) : Int) := by rw [Int.tmod_eq_emod_of_nonneg (by omega)]; omega
theorem sumc_len (s : St) (rest : List UInt8) (n : Nat) (h : rest.length = 64) : (sumc s rest n).length = 73 := by simp [sumc, u32v_len, bv_len, h, St.list]
def lenOf : Value → Nat | .slice _ n _ => n | _ => 0

set_option maxRecDepth 100000 in
set_option maxHeartbeats 1000000 in
theorem add_any (w : World) (g : Nat) (l m : List UInt8) (A : Option Addr) (n c : Nat) (hS : SumAt w g l) (hl : Laid w) (hg2 : 2 ≤ g) (hA : Src w g A m) (hm : m.length = n) (hc : n ≤ c) (hbig : l.length + n ≤ 1152921504606846976) :
    Calls Tryd.prog 12 #[.pointer (some ⟨g, 0, none⟩), .slice A n c] w fun e w' => e = .returned (.tuple #[]) ∧ SumAt w' g (l ++ m) ∧ But g w w' := by
  have HM := Lib.hid hm
  clear hm
  go_enter Tryd.func12, Tryd.ntmps12
  go_wp2
  go_loopw [1] (fun b wr => ∃ (l' r : List UInt8) (A' : Option Addr) (n' c' : Nat), b = .slice A' n' c' ∧ Hid (r.length = n') ∧ n' ≤ c' ∧ n' ≤ n ∧ Hid (l' ++ r = l ++ m) ∧ SumAt wr g l' ∧ Src wr g A' r ∧ But g w wr) (fun b _ => lenOf b)
  case atStart => exact ⟨l, m, A, n, c, rfl, HM, hc, Nat.le_refl _, rfl, hS, hA, But.refl _ _⟩
  case round =>
    obtain ⟨l', r, A', n', c', rfl, hr, hc', hn', hlr, hsum, hsrc, hbut⟩ := hrel
    clear hS hA
    have hgl := hsum.lt
    obtain ⟨rest, hob, htk⟩ := hsum
    have hlen : l'.length + n' = l.length + n := by
      have := congrArg List.length hlr.out
      rw [List.length_append, List.length_append, hr.out, HM.out] at this
      exact this
    obtain ⟨N, hN⟩ : ∃ N, N = l'.length := ⟨_, rfl⟩
    obtain ⟨st, hst⟩ : ∃ st, st = blks l' (l'.length / 64) := ⟨_, rfl⟩
    have hok : st.ok := by rw [hst]; exact blks_ok _ _
    rw [← hst, ← hN] at hob
    rw [← hN] at hlen
    have HN := Lib.hid hN
    have HST := Lib.hid hst
    have HTK := Lib.hid htk
    have HLEN := Lib.hid hlen
    have hNb : N ≤ 1152921504606846976 := by omega
    have hnb : n' ≤ 1152921504606846976 := by omega
    have hNn : N + n' ≤ 1152921504606846976 := by omega
    clear hN hst htk hlen
    by_cases h0 : 0 < n'
    · have c72 := hob.cnt
      have hcut := cut_l Tryd.underlying37 Tryd.sizeByte g 8 (N % 64) ((N : Int).tmod 64) (tmod64 N) (by omega)
      go_wp2_with fail
      go_region_law ((refine step_copy_but rfl (.tmp 16) (.tmp 17) 24 rfl 5 Tryd.underlying24 Tryd.sizeByte g (8 + N % 64) (64 - N % 64) (64 - N % 64) n' c' A' (by rfl) (by rfl) (sumc st rest N) 48 hob.1 r wr.heap.size hsrc.byt hr.out h0 (by have := sumc_len st rest N hob.2; omega) wr (But.refl g wr).drew ?_; intro w2 hg2' hb2))
      clear hcut c72
      have hxl : (r.take (64 - N % 64)).length = min n' (64 - N % 64) := by rw [List.length_take, hr.out]; exact Nat.min_comm _ _
      generalize ht : min n' (64 - N % 64) = t at *
      have ht1 : 0 < t := by omega
      have ht2 : t ≤ n' := by omega
      have ht3 : N % 64 + t ≤ 64 := by omega
      have htx : r.take (64 - N % 64) = r.take t := by
        by_cases hq : 64 - N % 64 ≤ n'
        · rw [show t = 64 - N % 64 by omega]
        · rw [show t = n' by omega, List.take_of_length_le (by rw [hr.out]; omega), List.take_of_length_le (by rw [hr.out]; exact Nat.le_refl _)]
      rw [htx] at hxl
      have hob2 : SObj w2 g st (rest.take (N % 64) ++ (r.take t ++ rest.drop (N % 64 + (r.take t).length))) N := by
        refine ⟨?_, ?_⟩
        · have h1 := hg2'.out
          rw [htx, sumc_splice st rest (r.take t) N (N % 64) hob.2 (by rw [hxl]; exact ht3)] at h1
          exact h1
        · have := hob.2
          simp only [List.length_append, List.length_take, List.length_drop, hr.out]; omega
      have hsrc2 := (hsrc.but hb2).cut t c' (by rw [hr.out]; exact hc')
      have hcut2 := run_cut_l Tryd.underlying24 Tryd.sizeByte A' n' c' t (t : Int) rfl ht2
      generalize hA2 : (if c' = t then A' else A'.map (·.add t)) = A2 at *
      have HXL := Lib.hid hxl
      clear hxl ht htx hA2 hg2'
      have c72 := hob2.cnt
      have f72 := hob2.frozen 72
      have hob3 : SObj (w2.setCell ⟨g, 72, none⟩ (.int .i64 ((N : Int) + (t : Int)))) g st (rest.take (N % 64) ++ (r.take t ++ rest.drop (N % 64 + (r.take t).length))) (N + t) := by
        have h1 := hob2.count (N + t)
        rwa [Int.natCast_add] at h1
      have hb3 : But g wr (w2.setCell ⟨g, 72, none⟩ (.int .i64 ((N : Int) + (t : Int)))) := hb2.set _
      have hlr2 : Hid ((l' ++ r.take t) ++ r.drop t = l ++ m) := by
        show _ = _
        rw [List.append_assoc, List.take_append_drop]; exact hlr.out
      have hrl : Hid ((r.drop t).length = n' - t) := by
        show _ = _
        rw [List.length_drop, hr.out]
      by_cases hz : (N + t) % 64 = 0
      · have hzb : (((N : Int) + (t : Int)) % 64 == 0) = true := by simp; omega
        go_wp2_with fail
        refine (mix_any _ g st _ (N + t) hob3 (hl.but hg2 (hbut.trans hb3)) hok).mono ?_
        rintro e w4 ⟨rfl, hob4, hb4⟩
        have hsum : SumAt w4 g (l' ++ r.take t) := by
          refine sum_whole (rest := rest) hob.2 HTK.out ?_ ?_
          · rw [← HN.out, HXL.out]; omega
          · rw [← HST.out, ← HN.out, HXL.out]
            have h1 := hob4
            rw [HXL.out] at h1
            exact h1
        go_wp2
        go_roundw
        case rel => exact ⟨_, _, A2, n' - t, c' - t, rfl, hrl, by omega, by omega, hlr2, hsum, hsrc2.but ((But.refl g w2).set _ |>.trans hb4), (hbut.trans hb3).trans hb4⟩
        case measure => simp [lenOf]; omega
      · have hzb : (((N : Int) + (t : Int)) % 64 == 0) = false := by simp; omega
        have hsum : SumAt (w2.setCell ⟨g, 72, none⟩ (.int .i64 ((N : Int) + (t : Int)))) g (l' ++ r.take t) := by
          refine sum_more (rest := rest) hob.2 HTK.out ?_ ?_
          · rw [← HN.out, HXL.out]; omega
          · rw [← HST.out, ← HN.out, HXL.out]
            have h1 := hob3
            rw [HXL.out] at h1
            exact h1
        go_wp2
        go_roundw
        case rel => exact ⟨_, _, A2, n' - t, c' - t, rfl, hrl, by omega, by omega, hlr2, hsum, hsrc2.but ((But.refl g w2).set _), hbut.trans hb3⟩
        case measure => simp [lenOf]; omega
    · have hr0 : r = [] := List.eq_nil_of_length_eq_zero (by rw [hr.out]; omega)
      have hl0 : l' = l ++ m := by rw [← hlr.out, hr0, List.append_nil]
      have hsum : SumAt wr g (l ++ m) := by
        rw [← hl0]
        refine ⟨rest, ?_, HTK.out⟩
        rw [← HST.out, ← HN.out]; exact hob
      have hn0 : n' = 0 := by omega
      subst hn0
      clear hl0 hr0
      go_wp2
      go_end0
      exact ⟨rfl, hsum, hbut⟩
end Go.Proofs.YtmgamjbifffchaaDoor
