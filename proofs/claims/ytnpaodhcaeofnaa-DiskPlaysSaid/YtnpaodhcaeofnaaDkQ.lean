/-
  The contracts of a disk's calls remove, Rename, Drop. Conditions: names up to 2^47 bytes, fewer than 2^40 calls.
-/
import Derived.Test.YtnpaodhcaeofnaaDkP
namespace Go.Proofs.Ytnpaodhcaeofnaa
open Go.RowKit

set_option maxRecDepth 100000 in
theorem remove_at (w : World) (O : Nat → Option Nat) (d m N : Nat) (S : Dk) (L : List (ByteArray × Nat × Fl)) (hat : DkAt w O d m N S.room S.size S.on S.lives L) (hC : onL (·.2) L = S.C) (hfull : S.size ≤ S.room) (hfew : S.room ≤ 1048576) (s : ByteArray) (hs : s.size ≤ 140737488355328) :
    Calls Try.prog 29 #[.pointer (some ⟨d, 0, none⟩), .string s] w fun e w' => e = .returned (.tuple #[]) ∧ DkAt w' O d m N S.room (sumL fsz (del S.C s)) S.on S.lives (del L s) ∧ Off (fun i => O i ≠ none) w w' := by
  obtain ⟨⟨c0, c1, c2, c3, c4⟩, f1, f3, f4⟩ := row5 hat.row
  have hlk := hat.map.look (s := s) (by unfold maxLen; omega)
  cases hg : getL L s with
  | none =>
    have hpg : ptrs L s = none := by unfold ptrs; rw [hg]; rfl
    rw [hpg] at hlk
    simp only [ptrV] at hlk
    have hd : del S.C s = S.C := del_none (by rw [← hC, getL_onL, hg]; rfl)
    have HM := Lib.hid (show DkAt w O d m N S.room (sumL fsz (del S.C s)) S.on S.lives (del L s) by rw [hd, del_none hg]; exact hat)
    clear hat hC hg hpg hd
    go_enter Try.func29, Try.ntmps29
    go_wp2
    go_end0
    exact ⟨rfl, HM.out, Off.refl _ _⟩
  | some y =>
    obtain ⟨g, f⟩ := y
    have hpg : ptrs L s = some g := by unfold ptrs; rw [hg]; rfl
    rw [hpg] at hlk
    simp only [ptrV] at hlk
    have hgC : getL S.C s = some f := by rw [← hC, getL_onL, hg]; rfl
    have hfile := hat.file _ (mem_getL hg)
    obtain ⟨hlen, hK, A, n, c, A2, n2, c2', hgr, h1, h2, h3, h4⟩ := hfile
    obtain ⟨d0, d1, e0, e1⟩ := row2 hgr
    have hs1 := owns_size h1
    rw [bv_len] at hs1
    have hnn : f.all.length = n := hs1.1
    have hfs : f.all.length ≤ S.size := sumL_get fsz hgC
    have hdl : sumL fsz (del S.C s) + f.all.length = S.size := sumL_del fsz (hC ▸ hat.one.onL (·.2) : One S.C) hgC
    have hsz : S.size ≤ 1048576 := by omega
    have hnz : n ≤ S.size := by omega
    have HC := vlt hC
    have HF := Lib.hid hfull
    have HD := vlt hdl
    have HG := vlt hg
    have HNN := Lib.hid hnn
    obtain ⟨z, hz⟩ : ∃ z, z = S.size := ⟨_, rfl⟩
    rw [← hz] at hat hsz hnz c1
    have HZ := vlt hz
    clear hgr h1 h2 h3 h4 hg hgC hpg hC hs1 hfs hnn hdl hz hfull
    go_enter Try.func29, Try.ntmps29
    go_upto_region 2 with fail
    go_region
    have hat2 : DkAt (w.setCell ⟨d, 1, none⟩ (.int .i64 ((z : Int) - (n : Int)))).drew O d m N S.room (z - n) S.on S.lives L :=
      (hat.setSize (z' := z - n) (by omega)).off (G := fun _ => False) ((Off.refl _ _).drew) fun _ _ h => h
    have hoff2 := ((Off.refl (fun i => O i ≠ none) w).set (i := 1) (.inl (show O d ≠ none by rw [hat.od]; simp)) (.int .i64 ((z : Int) - (n : Int)))).drew
    generalize (w.setCell ⟨d, 1, none⟩ (.int .i64 ((z : Int) - (n : Int)))).drew = w2 at hat2 hoff2 ⊢
    clear c0 c1 c2 c3 c4 f1 f3 f4
    obtain ⟨⟨c0, c1, c2, c3, c4⟩, f1, f3, f4⟩ := row5 hat2.row
    obtain ⟨w3, hdl, hm3, hgr3, _⟩ := hat2.map.drop (s := s) (by unfold maxLen; omega) 0
    have hp : (fun t => if t = s then none else ptrs L t) = ptrs (del L s) := by
      funext t
      unfold ptrs
      rw [getL_del]
      by_cases e : t = s <;> simp [e]
    rw [hp] at hm3
    have hat3 := hat2.remap hgr3 hm3 (hat2.one.del s) (fun x hx => ⟨x, (List.mem_filter.1 hx).1, rfl⟩) (fun x hx y hy e => hat2.gds x (List.mem_filter.1 hx).1 y (List.mem_filter.1 hy).1 e)
    have hoff3 : Off (fun i => O i ≠ none) w w3 := hoff2.trans (G := fun i => i = m) ⟨hgr3.os, hgr3.tape, hgr3.output, hgr3.size, fun k hk hn => hgr3.block k hk (fun e => hn (by injection e))⟩ fun i h => .inl (by rw [h, hat2.om]; simp)
    have HEND := Lib.hid (show DkAt w3 O d m N S.room (sumL fsz (del S.C s)) S.on S.lives (del L s) by
      have e1 : sumL fsz (del S.C s) = z - n := by
        have := HD.out
        have := HNN.out
        have := HZ.out
        omega
      rw [e1]; exact hat3)
    clear hat2 hat3 hoff2 hm3 hgr3 hp hat
    go_wp2
    go_end0
    exact ⟨rfl, HEND.out, hoff3⟩

theorem sumL_del_le (C : List (ByteArray × Fl)) (s : ByteArray) : sumL fsz (del C s) ≤ sumL fsz C := by
  induction C with
  | nil => exact Nat.le_refl _
  | cons x C ih =>
    have e2 : sumL fsz (x :: C) = fsz x.2 + sumL fsz C := by simp [sumL]
    by_cases e : x.1 = s
    · have e3 : del (x :: C) s = del C s := by simp [del, e]
      rw [e3, e2]; omega
    · have e3 : del (x :: C) s = x :: del C s := by simp [del, e]
      have e4 : sumL fsz (x :: del C s) = fsz x.2 + sumL fsz (del C s) := by simp [sumL]
      rw [e3, e2, e4]; omega
theorem remove_any (w : World) (O : Nat → Option Nat) (d N : Nat) (S : Dk) (h : DkIs w O d N S) (s : ByteArray) (hs : s.size ≤ 140737488355328) :
    Calls Try.prog 29 #[.pointer (some ⟨d, 0, none⟩), .string s] w fun e w' => e = .returned (.tuple #[]) ∧ DkIs w' O d N { S with C := del S.C s } ∧ Off (fun i => O i ≠ none) w w' := by
  obtain ⟨⟨m, L, hat, hC⟩, hfull, hfew⟩ := h
  refine (remove_at w O d m N S L hat hC hfull hfew s hs).mono ?_
  rintro e w' ⟨rfl, h1, h2⟩
  exact ⟨rfl, ⟨⟨m, del L s, h1, by rw [onL_del, hC]⟩, Nat.le_trans (sumL_del_le _ _) hfull, hfew⟩, h2⟩
def Dk.drp (S : Dk) (s : ByteArray) : Dk := if askE S s = 0 then { S with C := del S.C s } else S
set_option maxRecDepth 100000 in
theorem ddrop_any (w : World) (O : Nat → Option Nat) (d N : Nat) (S : Dk) (h : DkIs w O d N S) (s : ByteArray) (hs : s.size ≤ 140737488355328) :
    Calls Try.prog 12 #[.pointer (some ⟨d, 0, none⟩), .string s] w fun e w' => e = .returned (.int .i64 (askE S s)) ∧ (∃ O', DkIs w' O' d (N + 1) (S.drp s) ∧ Own O O' w.heap.size) ∧ Off (fun i => O i ≠ none) w w' := by
  have hrm := remove_any w O d N S h s hs
  have hm1 := h.more
  obtain ⟨⟨m, L, hat, hC⟩, hfull, hfew⟩ := h
  obtain ⟨⟨c0, c1, c2, c3, c4⟩, f1, f3, f4⟩ := row5 hat.row
  have hr := find_any w d m N S.on (ptrs L) s c2 c3 hat.map hs
  rw [findE_is hC] at hr
  generalize ptrV (findP S.on s (ptrs L s)) = pv at hr
  by_cases h0 : askE S s = 0
  · rw [h0] at hr
    have HE := Lib.hid h0
    have HS := vlt (show S.drp s = { S with C := del S.C s } by unfold Dk.drp; rw [if_pos h0])
    clear hat hC h0 hm1
    go_enter Try.func12, Try.ntmps12
    go_wp2_with fail
    refine hr.mono ?_
    rintro e w2 ⟨rfl, rfl⟩
    clear hr
    go_wp2_with fail
    refine hrm.mono ?_
    rintro e w3 ⟨rfl, h3, hoff3⟩
    clear hrm
    have HEND := Lib.hid h3.more
    clear h3
    go_wp2
    go_ret
    exact ⟨by rw [HE.out]; rfl, ⟨O, by rw [HS.out]; exact HEND.out, Own.refl⟩, hoff3⟩
  · have HS := vlt (show S.drp s = S by unfold Dk.drp; rw [if_neg h0])
    have HM := Lib.hid hm1
    generalize askE S s = v at *
    clear hat hC hrm
    go_enter Try.func12, Try.ntmps12
    go_wp2_with fail
    refine hr.mono ?_
    rintro e w2 ⟨rfl, rfl⟩
    clear hr
    go_wp2
    go_ret
    exact ⟨rfl, ⟨O, by rw [HS.out]; exact HM.out, Own.refl⟩, Off.refl _ _⟩

def renE (S : Dk) (s t : ByteArray) : Int := if readyE S.on t = 0 then askE S s else readyE S.on t
def Dk.ren (S : Dk) (s t : ByteArray) : Dk := if renE S s t = 0 then (if s = t then S else match getL S.C s with | some f => { S with C := del (del S.C s) t ++ [(t, f)] } | none => S) else S
theorem bytes_ne {s t : ByteArray} (h : ¬ s = t) : (s.toList == t.toList) = false := by
  rw [ByteArray.toList_eq, ByteArray.toList_eq, beq_eq_false_iff_ne]
  intro e
  have e2 : s.data = t.data := Array.toList_inj.1 e
  exact h (ByteArray.ext e2)
theorem del_comm {α : Type} (L : List (ByteArray × α)) (s t : ByteArray) : del (del L s) t = del (del L t) s := by
  simp only [del, List.filter_filter]
  refine List.filter_congr fun x _ => by rw [Bool.and_comm]
set_option maxRecDepth 100000 in
set_option maxHeartbeats 1000000 in
theorem drename_any (w : World) (O : Nat → Option Nat) (d N : Nat) (S : Dk) (h : DkIs w O d N S) (s t : ByteArray) (hs : s.size ≤ 140737488355328) (ht : t.size ≤ 140737488355328) (hN : N ≤ 1099511627776) :
    Calls Try.prog 10 #[.pointer (some ⟨d, 0, none⟩), .string s, .string t] w fun e w' => e = .returned (.int .i64 (renE S s t)) ∧ (∃ O', DkIs w' O' d (N + 1) (S.ren s t) ∧ Own O O' w.heap.size) ∧ Off (fun i => O i ≠ none) w w' := by
  have hm1 := h.more
  obtain ⟨⟨m, L, hat, hC⟩, hfull, hfew⟩ := h
  obtain ⟨⟨c0, c1, c2, c3, c4⟩, f1, f3, f4⟩ := row5 hat.row
  have hr := find_any w d m N S.on (ptrs L) s c2 c3 hat.map hs
  rw [findE_is hC] at hr
  have hy := ready_any w d S.on t c3 ht
  have hrm := remove_at w O d m N S L hat hC hfull hfew t ht
  by_cases h0 : readyE S.on t = 0
  · rw [h0] at hy
    by_cases h1 : askE S s = 0
    · obtain ⟨g, f, hg, hgC, hp⟩ := findP_yes hC h1
      rw [h1, hp] at hr
      simp only [ptrV] at hr
      have HE := Lib.hid (show renE S s t = 0 by simp [renE, h0, h1])
      by_cases hst : s = t
      · subst hst
        have HS := vlt (show S.ren s s = S by unfold Dk.ren; rw [HE.out, if_pos rfl, if_pos rfl])
        have HM := Lib.hid hm1
        clear hat hC h0 hm1 hrm h1 hg hgC hp
        go_enter Try.func10, Try.ntmps10
        go_wp2_with fail
        refine hy.mono ?_
        rintro e w2 ⟨rfl, rfl⟩
        clear hy
        go_wp2_with fail
        refine hr.mono ?_
        rintro e w2 ⟨rfl, rfl⟩
        clear hr
        go_wp2
        go_ret
        exact ⟨by rw [HE.out]; rfl, ⟨O, by rw [HS.out]; exact HM.out, Own.refl⟩, Off.refl _ _⟩
      · have HS := vlt (show S.ren s t = { S with C := del (del S.C s) t ++ [(t, f)] } by unfold Dk.ren; rw [HE.out, if_pos rfl, if_neg hst, hgC])
        have HC := vlt hC
        have HF := Lib.hid hfull
        have HG := vlt hg
        have HGC := vlt hgC
        have hone := hat.one
        have hom := hat.om
        have hgds := hat.gds
        have hst2 := bytes_ne hst
        clear hat hC h0 hm1 h1 hg hgC hp hfull
        go_enter Try.func10, Try.ntmps10
        go_wp2_with fail
        refine hy.mono ?_
        rintro e w2 ⟨rfl, rfl⟩
        clear hy
        go_wp2_with fail
        refine hr.mono ?_
        rintro e w2 ⟨rfl, rfl⟩
        clear hr
        go_wp2_with fail
        refine hrm.mono ?_
        rintro e w3 ⟨rfl, hat3, hoff3⟩
        clear hrm c0 c1 c2 c3 c4 f1 f3 f4
        obtain ⟨⟨c0, c1, c2, c3, c4⟩, f1, f3, f4⟩ := row5 hat3.row
        obtain ⟨w4, hst4, hm4, hgr4, _⟩ := hat3.map.store (s := t) (by unfold maxLen; omega) (by unfold maxLen; omega) g
        obtain ⟨w5, hdl5, hm5, hgr5, _⟩ := hm4.drop (s := s) (by unfold maxLen; omega) 0
        have c24 : w4.cell? ⟨d, 2, none⟩ = some (.map (some m)) := (World.cell?_of_block (hgr4.block d hat3.ltd (fun e => hat3.map.ne hat3.row (by injection e)))).trans c2
        have hgr : w3.grownBy w5 (some m) := But.trans (g := m) hgr4 hgr5
        have hgt : getL (del L t) s = some (g, f) := by rw [getL_del, if_neg hst, HG.out]
        have hp : (fun u => if u = s then none else if u = t then some g else ptrs (del L t) u) = ptrs (del (del L s) t ++ [(t, g, f)]) := by
          funext u
          unfold ptrs
          rw [getL_app, getL_del, getL_del, getL_del, getL_cons, getL_nil]
          by_cases e1 : u = s
          · subst e1
            have e2 : ¬ t = u := fun e => hst e.symm
            simp [hst, e2]
          · by_cases e2 : u = t
            · subst e2; simp [e1]
            · have e3 : ¬ t = u := fun e => e2 e.symm
              simp [e1, e2, e3]
        rw [hp] at hm5
        have hmem : ∀ x ∈ del (del L s) t, x ∈ L := fun x hx => (List.mem_filter.1 (List.mem_filter.1 hx).1).1
        have hnot : ∀ x ∈ del (del L s) t, x.1 ≠ s := fun x hx => by
          have h := (List.mem_filter.1 (List.mem_filter.1 hx).1).2
          simpa using h
        have hat5 := hat3.remap (L' := del (del L s) t ++ [(t, g, f)]) hgr hm5 (((hone.del s).del t).snoc (by rw [getL_del, if_pos rfl]) _) (fun x hx => by
            rcases List.mem_append.1 hx with hx | hx
            · refine ⟨x, ?_, rfl⟩
              rw [del_comm] at hx
              exact (List.mem_filter.1 hx).1
            · rw [List.mem_singleton] at hx
              subst hx
              exact ⟨_, mem_getL hgt, rfl⟩) (fun x hx y hy e => by
            have key : ∀ x ∈ del (del L s) t, x.2.1 ≠ g := fun x hx e => hnot x hx (hgds x (hmem x hx) (s, g, f) (mem_getL HG.out) e)
            rcases List.mem_append.1 hx with hx | hx <;> rcases List.mem_append.1 hy with hy | hy
            · exact hgds x (hmem x hx) y (hmem y hy) e
            · rw [List.mem_singleton] at hy
              subst hy
              exact absurd e (key x hx)
            · rw [List.mem_singleton] at hx
              subst hx
              exact absurd e.symm (key y hy)
            · rw [List.mem_singleton] at hx hy
              subst hx hy; rfl)
        have hoff5 : Off (fun i => O i ≠ none) w2 w5 := hoff3.trans (G := fun i => i = m) ⟨hgr.os, hgr.tape, hgr.output, hgr.size, fun k hk hn => hgr.block k hk (fun e => hn (by injection e))⟩ fun i h => .inl (by rw [h, hom]; simp)
        have HEND := Lib.hid (show DkIs w5 O d (N + 1) { S with C := del (del S.C s) t ++ [(t, f)] } by
          have e1 : ({ S with C := del (del S.C s) t ++ [(t, f)] } : Dk).size = sumL fsz (del S.C t) := by
            show sumL fsz (del (del S.C s) t ++ [(t, f)]) = sumL fsz (del S.C t)
            rw [del_comm, sumL_app]
            have h7 := sumL_del fsz (((HC.out ▸ hone.onL (·.2) : One S.C)).del t) (s := s) (a := f) (by rw [getL_del, if_neg hst, HGC.out])
            rw [← h7]
            simp [sumL]
          refine ⟨⟨m, del (del L s) t ++ [(t, g, f)], ?_, by rw [onL_app, onL_del, onL_del, HC.out]; rfl⟩, ?_, hfew⟩
          · rw [e1]; exact hat5
          · rw [e1]
            exact Nat.le_trans (sumL_del_le _ _) HF.out)
        clear hat3 hat5 hoff3 hm4 hm5 hgr4 hgr5 hgr hp hone hom hgds hgt hmem hnot
        go_wp2
        go_ret
        exact ⟨by rw [HE.out]; rfl, ⟨O, by rw [HS.out]; exact HEND.out, Own.refl⟩, hoff5⟩
    · have HE := Lib.hid (show renE S s t = askE S s by simp [renE, h0])
      have HS := vlt (show S.ren s t = S by unfold Dk.ren; rw [HE.out, if_neg h1])
      have HM := Lib.hid hm1
      generalize ptrV (findP S.on s (ptrs L s)) = pv at hr
      generalize askE S s = v at *
      clear hat hC hrm h0 hm1
      go_enter Try.func10, Try.ntmps10
      go_wp2_with fail
      refine hy.mono ?_
      rintro e w2 ⟨rfl, rfl⟩
      clear hy
      go_wp2_with fail
      refine hr.mono ?_
      rintro e w2 ⟨rfl, rfl⟩
      clear hr
      go_wp2
      go_ret
      exact ⟨by rw [HE.out]; rfl, ⟨O, by rw [HS.out]; exact HM.out, Own.refl⟩, Off.refl _ _⟩
  · have HE := Lib.hid (show renE S s t = readyE S.on t by simp [renE, h0])
    have HS := vlt (show S.ren s t = S by unfold Dk.ren; rw [HE.out, if_neg h0])
    have HM := Lib.hid hm1
    generalize readyE S.on t = v at *
    clear hat hC hrm hr hm1
    go_enter Try.func10, Try.ntmps10
    go_wp2_with fail
    refine hy.mono ?_
    rintro e w2 ⟨rfl, rfl⟩
    clear hy
    go_wp2
    go_ret
    exact ⟨by rw [HE.out]; rfl, ⟨O, by rw [HS.out]; exact HM.out, Own.refl⟩, Off.refl _ _⟩
end Go.Proofs.Ytnpaodhcaeofnaa
