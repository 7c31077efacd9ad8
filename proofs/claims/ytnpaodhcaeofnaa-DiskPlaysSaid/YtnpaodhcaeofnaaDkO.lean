/-
  The contracts of a disk's calls New, Append, Sync, Read. Conditions: names and bytes up to 2^40, fewer than 2^40 calls.
-/
import Derived.Test.YtnpaodhcaeofnaaDkD
import Derived.Test.YtnpaodhcaeofnaaDkC
import Derived.Carry
namespace Go.Proofs.Ytnpaodhcaeofnaa
open Go.RowKit

def putW (C : List (ByteArray × Fl)) (s : ByteArray) (b : List UInt8) : List (ByteArray × Fl) :=
  if (getL C s).isSome then upd C s (·.write b) else C ++ [(s, (⟨[], []⟩ : Fl).write b)]
def appE (S : Dk) (s : ByteArray) (n : Nat) : Int := if readyE S.on s = 0 then (if S.room - S.size < n then 6 else 0) else readyE S.on s
def Dk.app (S : Dk) (s : ByteArray) (b : List UInt8) : Dk := if appE S s b.length = 0 then { S with C := putW S.C s b } else S
theorem DkAt.more {w : World} {O : Nat → Option Nat} {d m N room z lives : Nat} {on : Bool} {L : List (ByteArray × Nat × Fl)} (h : DkAt w O d m N room z on lives L) : DkAt w O d m (N + 1) room z on lives L :=
  ⟨h.row, h.map.mono (Nat.le_succ _), h.file, h.one, h.gds, h.od, h.om, h.low⟩
theorem DkIs.more {w : World} {O : Nat → Option Nat} {d N : Nat} {S : Dk} (h : DkIs w O d N S) : DkIs w O d (N + 1) S := by
  obtain ⟨⟨m, L, h1, h2⟩, h3, h4⟩ := h
  exact ⟨⟨m, L, h1.more, h2⟩, h3, h4⟩
theorem DkIs.off {w w' : World} {O : Nat → Option Nat} {d N : Nat} {S : Dk} {G : Nat → Prop} (h : DkIs w O d N S) (hb : Off G w w') (hd : ∀ i, O i ≠ none → ¬ G i) : DkIs w' O d N S := by
  obtain ⟨⟨m, L, h1, h2⟩, h3, h4⟩ := h
  exact ⟨⟨m, L, h1.off hb hd, h2⟩, h3, h4⟩
theorem Off.drewN {F : Nat → Prop} {a w : World} (h : Off F a w) (k : Nat) : Off F a (w.drewN k) := ⟨h.os, h.tape, h.output, h.size, h.block⟩
theorem off_drewN (F : Nat → Prop) (w : World) (k : Nat) : Off F w (w.drewN k) := (Off.refl F w).drewN k
theorem DkIs.drewN {w : World} {O : Nat → Option Nat} {d N : Nat} {S : Dk} (h : DkIs w O d N S) (k : Nat) : DkIs (w.drewN k) O d N S := h.off (G := fun _ => False) (off_drewN _ w k) fun _ _ h => h
theorem DkAt.drewN {w : World} {O : Nat → Option Nat} {d m N room z lives : Nat} {on : Bool} {L : List (ByteArray × Nat × Fl)} (h : DkAt w O d m N room z on lives L) (k : Nat) : DkAt (w.drewN k) O d m N room z on lives L := h.off (G := fun _ => False) (off_drewN _ w k) fun _ _ h => h
section
variable {w : World} {O : Nat → Option Nat} {d m N room z lives : Nat} {on : Bool} {L : List (ByteArray × Nat × Fl)}
theorem DkAt.setSize (h : DkAt w O d m N room z on lives L) {z' : Nat} {v : Int} (hv : v = (z' : Int)) : DkAt (w.setCell ⟨d, 1, none⟩ (.int .i64 v)) O d m N room z' on lives L := by
  subst hv
  exact h.cells ((But.refl d w).set _) (world_set_cell (cs := [_, _, _, _, _]) h.row 1 (.int .i64 (z' : Int))).out
theorem DkAt.setOn (h : DkAt w O d m N room z on lives L) (on' : Bool) : DkAt (w.setCell ⟨d, 3, none⟩ (.bool on')) O d m N room z on' lives L :=
  h.cells ((But.refl d w).set _) (world_set_cell (cs := [_, _, _, _, _]) h.row 3 (.bool on')).out
theorem DkAt.setLives (h : DkAt w O d m N room z on lives L) {z' : Nat} {v : Int} (hv : v = (z' : Int)) : DkAt (w.setCell ⟨d, 4, none⟩ (.int .i64 v)) O d m N room z on z' L := by
  subst hv
  exact h.cells ((But.refl d w).set _) (world_set_cell (cs := [_, _, _, _, _]) h.row 4 (.int .i64 (z' : Int))).out
theorem DkAt.offd (h : DkAt w O d m N room z on lives L) (i : Nat) (v : Value) {a : World} (h2 : Off (fun i => O i ≠ none) a w) : Off (fun i => O i ≠ none) a (w.setCell ⟨d, i, none⟩ v) :=
  h2.set (.inl (by rw [h.od]; simp)) v
end
theorem putW_some {L : List (ByteArray × Nat × Fl)} {C : List (ByteArray × Fl)} {s : ByteArray} {g : Nat} {f : Fl} (l : List UInt8) (h1 : One L) (hC : onL (·.2) L = C) (hg : getL L s = some (g, f)) :
    onL (·.2) (upd L s fun _ => (g, f.write l)) = putW C s l ∧ sumL fsz (putW C s l) = sumL fsz C + l.length := by
  have hgC : getL C s = some f := by rw [← hC, getL_onL, hg]; rfl
  have e : putW C s l = upd C s (·.write l) := by unfold putW; rw [hgC]; rfl
  rw [e]
  refine ⟨?_, ?_⟩
  · rw [onL_upd_at (·.2) L s _ (·.write l) (fun a ha => by rw [hg] at ha; injection ha with ha; subst ha; rfl) h1, hC]
  · have h2 := sumL_upd fsz (hC ▸ h1.onL (·.2) : One C) hgC (·.write l)
    have h3 : fsz (f.write l) = fsz f + l.length := by unfold fsz; rw [write_all, List.length_append]
    rw [h3] at h2; omega
theorem putW_none {L : List (ByteArray × Nat × Fl)} {C : List (ByteArray × Fl)} {s : ByteArray} {g : Nat} (l : List UInt8) (hC : onL (·.2) L = C) (hg : getL L s = none) :
    onL (·.2) (L ++ [(s, g, (⟨[], []⟩ : Fl).write l)]) = putW C s l ∧ sumL fsz (putW C s l) = sumL fsz C + l.length := by
  have hgC : getL C s = none := by rw [← hC, getL_onL, hg]; rfl
  have e : putW C s l = C ++ [(s, (⟨[], []⟩ : Fl).write l)] := by unfold putW; rw [hgC]; rfl
  rw [e]
  refine ⟨by rw [onL_app, hC]; rfl, ?_⟩
  rw [sumL_app]
  have h3 : fsz ((⟨[], []⟩ : Fl).write l) = l.length := by unfold fsz; rw [write_all]; rfl
  simp [sumL, h3]
theorem upd_new {L : List (ByteArray × Nat × Fl)} {s : ByteArray} {g : Nat} {f f' : Fl} (hg : getL L s = none) : upd (L ++ [(s, g, f)]) s (fun _ => (g, f')) = L ++ [(s, g, f')] := by
  have e : upd L s (fun _ => (g, f')) = L := by
    unfold upd
    conv => rhs; rw [← List.map_id L]
    refine List.map_congr_left fun y hy => ?_
    have : ¬ y.1 = s := fun e => by
      rw [getL, Option.map_eq_none_iff, List.find?_eq_none] at hg
      exact hg y hy (by simp [e])
    simp [this]
  have e2 : upd (L ++ [(s, g, f)]) s (fun _ => (g, f')) = upd L s (fun _ => (g, f')) ++ [(s, g, f')] := by simp [upd]
  rw [e2, e]
theorem write_nil (b : List UInt8) : ((⟨[], []⟩ : Fl).write b).all = b := by rw [write_all]; rfl

set_option maxRecDepth 100000 in
set_option maxHeartbeats 1000000 in
theorem dappend_any (w : World) (O : Nat → Option Nat) (d N : Nat) (S : Dk) (h : DkIs w O d N S) (s : ByteArray) (hs : s.size ≤ 140737488355328) (B : Option Addr) (l : List UInt8) (n cB : Nat) (hb : BytF w (fun i => O i = none) B l) (hl : l.length = n) (hn : n ≤ 1099511627776) (hN : N ≤ 1099511627776) :
    Calls Try.prog 6 #[.pointer (some ⟨d, 0, none⟩), .string s, .slice B n cB] w fun e w' => e = .returned (.int .i64 (appE S s n)) ∧ (∃ O', DkIs w' O' d (N + 1) (S.app s l) ∧ Own O O' w.heap.size) ∧ Off (fun i => O i ≠ none) w w' := by
  have hm1 := h.more
  obtain ⟨⟨m, L, hat, hC⟩, hfull, hfew⟩ := h
  obtain ⟨⟨c0, c1, c2, c3, c4⟩, f1, f3, f4⟩ := row5 hat.row
  have hr := ready_any w d S.on s c3 hs
  by_cases h0 : readyE S.on s = 0
  · rw [h0] at hr
    by_cases hbig : S.room - S.size < n
    · have HE := Lib.hid (show appE S s n = 6 by simp [appE, h0, hbig])
      have HS := vlt (show S.app s l = S by
        unfold Dk.app
        rw [hl, HE.out]; rfl)
      have hbig' : (S.room : Int) - (S.size : Int) < (n : Int) := by omega
      have HM := Lib.hid hm1
      have hsz : S.size ≤ 1048576 := by omega
      generalize S.size = z at *
      generalize S.room = r at *
      clear hat hC h0 hbig hl hb
      go_enter Try.func6, Try.ntmps6
      go_wp2_with fail
      refine hr.mono ?_
      rintro e w2 ⟨rfl, rfl⟩
      clear hr
      go_upto_region 4 with fail
      go_quiet (fail)
      go_wp2
      go_ret
      exact ⟨by rw [HE.out]; rfl, ⟨O, by rw [HS.out]; exact HM.out.drewN _, Own.refl⟩, off_drewN _ _ _⟩
    · have HE := Lib.hid (show appE S s n = 0 by simp [appE, h0, hbig])
      have HS := vlt (show S.app s l = { S with C := putW S.C s l } by
        unfold Dk.app
        rw [hl, HE.out, if_pos rfl])
      have hbig' : ¬ (S.room : Int) - (S.size : Int) < (n : Int) := by omega
      have hsz : S.size ≤ 1048576 := by omega
      have HL := Lib.hid hl
      have HC := vlt hC
      have HF := Lib.hid hfull
      have HW := Lib.hid hfew
      have hroom : S.size + n ≤ S.room := by omega
      clear hm1 h0 hbig hl hC hfull hfew
      cases hg : getL L s with
      | none =>
        have hpg : ptrs L s = none := by unfold ptrs; rw [hg]; rfl
        obtain ⟨z, hz⟩ : ∃ z, z = S.size := ⟨_, rfl⟩
        obtain ⟨r, hrm⟩ : ∃ r, r = S.room := ⟨_, rfl⟩
        rw [← hz] at hat hsz hroom hbig' c1
        rw [← hrm] at hat hroom hbig' c0
        have HZ := vlt hz
        have HR := vlt hrm
        have hr6 : r ≤ 1048576 := by rw [hrm]; exact HW.out
        clear hz hrm
        go_enter Try.func6, Try.ntmps6
        go_wp2_with fail
        refine hr.mono ?_
        rintro e w2 ⟨rfl, rfl⟩
        clear hr
        go_upto_region 4 with fail
        go_quiet (fail)
        have hat3 := hat.drewN nq
        have hoff3 := off_drewN (fun i => O i ≠ none) w2 nq
        generalize hw3 : World.drewN w2 nq = w3 at hat3 hoff3 ⊢
        have hb3 := hb.off hoff3 (fun i _ h h2 => h2 h)
        clear c0 c1 c2 c3 c4 f1 f3 f4
        obtain ⟨⟨c0, c1, c2, c3, c4⟩, f1, f3, f4⟩ := row5 hat3.row
        have hlk := hat3.map.look (s := s) (by unfold maxLen; omega)
        rw [hpg] at hlk
        simp only [ptrV] at hlk
        have HG := vlt hg
        clear hg hpg hat hb
        go_upto_region 9 with fail
        have hlt3 := hat3.ltd
        have hmA : MapIs (w3.alloc (.cells #[.slice none 0 0, .slice none 0 0] 50)) m N (ptrs L) := hat3.map.block (heap_alloc_old w3 _ hat3.map.lt)
        obtain ⟨w4, hst, hm4, hgr4, hsz4⟩ := hmA.store (s := s) (by unfold maxLen; omega) (by unfold maxLen; omega) w3.heap.size
        have hat4 := hat3.add HG.out hm4 hgr4
        have hoff4 : Off (fun i => O i ≠ none) w3 w4 := ((Off.refl _ w3).alloc _).trans (G := fun i => i = m) ⟨hgr4.os, hgr4.tape, hgr4.output, hgr4.size, fun k hk hn => hgr4.block k hk (fun e => hn (by injection e))⟩ fun i h => .inl (by rw [h, hat3.om]; simp)
        have hsz34 : w3.heap.size ≤ w4.heap.size := hoff4.size
        have hb4 : BytF w4 (fun i => ¬ paint O w3.heap.size w4.heap.size w3.heap.size i = some w3.heap.size) B l := by
          refine ((hb3.mono (G := fun i => O i = none ∧ i < w3.heap.size) fun i hi h => ⟨h, hi⟩).off hoff4 fun i _ h h2 => h2 h.1).mono fun i _ h h2 => ?_
          unfold paint at h2
          rw [if_neg (by omega), h.1] at h2
          cases h2
        have cA : (w3.alloc (.cells #[.slice none 0 0, .slice none 0 0] 50)).cell? ⟨d, 2, none⟩ = some (.map (some m)) := (World.cell?_of_block (heap_alloc_old w3 _ hlt3)).trans c2
        generalize w3.alloc (.cells #[.slice none 0 0, .slice none 0 0] 50) = wa at hst cA ⊢
        obtain ⟨g, hgd⟩ : ∃ g, g = w3.heap.size := ⟨_, rfl⟩
        rw [← hgd] at hst hat4 hb4 ⊢
        have hown4 : Own O (paint O g w4.heap.size g) w2.heap.size := by rw [hgd, ← hw3]; exact Own.paint
        have hgn : getL (L ++ [(s, g, (⟨[], []⟩ : Fl))]) s = some (g, ⟨[], []⟩) := by rw [getL_app, HG.out, getL_cons, if_pos rfl]; rfl
        have hwr := write_any w4 (fun i => paint O g w4.heap.size g i = some g) g ⟨[], []⟩ (hat4.file (s, g, ⟨[], []⟩) (by simp)) B l n cB hb4 HL.out (by simp [Fl.all]; omega)
        clear c0 c1 c2 c3 c4 f1 f3 f4 hmA hm4 hgr4 hb3 hb4 hgd
        go_wp2_with fail
        refine hwr.mono ?_
        rintro e w5 ⟨rfl, hf5, hoff5⟩
        clear hwr hlk hst cA
        have hat5 := hat4.turn hgn hoff5 hf5
        rw [upd_new HG.out] at hat5
        clear hf5
        obtain ⟨⟨c0, c1, c2, c3, c4⟩, f1, f3, f4⟩ := row5 hat5.row
        have hoff6 : Off (fun i => O i ≠ none) w2 w5 := (hoff3.trans (hoff4.mono fun i _ h => h) fun i h => .inl h).trans (hoff5.mono (G := fun i => paint O g w4.heap.size g i ≠ none) fun i _ h => by rw [h]; simp) fun i h => hown4 i h
        have hoff7 := hoff6.set (i := 1) (.inl (show O d ≠ none by rw [hat3.od]; simp)) (.int .i64 ((z : Int) + (n : Int)))
        obtain ⟨hq1, hq2⟩ := putW_none (g := g) l HC.out HG.out
        have hend : DkIs (w5.setCell ⟨d, 1, none⟩ (.int .i64 ((z : Int) + (n : Int)))) (paint (paint O g w4.heap.size g) w4.heap.size w5.heap.size g) d (N + 1) { S with C := putW S.C s l } := by
          have e1 : ({ S with C := putW S.C s l } : Dk).size = z + n := by
            show sumL fsz (putW S.C s l) = z + n
            rw [hq2, HZ.out, HL.out]; rfl
          refine ⟨⟨m, _, ?_, hq1⟩, by rw [e1]; show z + n ≤ S.room; rw [← HR.out]; exact hroom, HW.out⟩
          rw [e1]
          show DkAt _ _ d m (N + 1) S.room (z + n) S.on S.lives _
          rw [← HR.out]
          exact hat5.setSize (by simp)
        have hown5 : Own O (paint (paint O g w4.heap.size g) w4.heap.size w5.heap.size g) w2.heap.size := fun i hi => by
          rcases Own.paint i hi with h | h
          · exact hown4 i h
          · have := hoff4.size
            have := hoff3.size
            exact .inr (by omega)
        have HEND := Lib.hid hend
        clear hend hq1 hq2 hat4 hat3 hat5 hoff4 hoff5 hoff6 hoff3 hw3 hgn hown4 hsz4
        go_wp2
        go_ret
        exact ⟨by rw [HE.out]; rfl, ⟨_, by rw [HS.out]; exact HEND.out, hown5⟩, hoff7⟩
      | some y =>
        obtain ⟨g, f⟩ := y
        have hpg : ptrs L s = some g := by unfold ptrs; rw [hg]; rfl
        have hfs : f.all.length ≤ S.size := by
          have h5 := sumL_get (fun (a : Nat × Fl) => fsz a.2) hg
          rw [← sumL_onL fsz (·.2) L, HC.out] at h5
          exact h5
        obtain ⟨z, hz⟩ : ∃ z, z = S.size := ⟨_, rfl⟩
        obtain ⟨r, hrm⟩ : ∃ r, r = S.room := ⟨_, rfl⟩
        rw [← hz] at hat hfs hsz hroom hbig' c1
        rw [← hrm] at hat hroom hbig' c0
        have HZ := vlt hz
        have HR := vlt hrm
        have hr6 : r ≤ 1048576 := by rw [hrm]; exact HW.out
        clear hz hrm
        go_enter Try.func6, Try.ntmps6
        go_wp2_with fail
        refine hr.mono ?_
        rintro e w2 ⟨rfl, rfl⟩
        clear hr
        go_upto_region 4 with fail
        go_quiet (fail)
        have hat3 := hat.drewN nq
        have hoff3 := off_drewN (fun i => O i ≠ none) w2 nq
        generalize hw3 : World.drewN w2 nq = w3 at hat3 hoff3 ⊢
        have hb3 := hb.off hoff3 (fun i _ h h2 => h2 h)
        clear c0 c1 c2 c3 c4 f1 f3 f4
        obtain ⟨⟨c0, c1, c2, c3, c4⟩, f1, f3, f4⟩ := row5 hat3.row
        have hlk := hat3.map.look (s := s) (by unfold maxLen; omega)
        rw [hpg] at hlk
        simp only [ptrV] at hlk
        have hwr := write_any w3 (fun i => O i = some g) g f (hat3.file _ (mem_getL hg)) B l n cB (hb3.mono fun i _ h h2 => by rw [h] at h2; cases h2) HL.out (by omega)
        have hgr := hg
        have HG := vlt hg
        clear hg hgr hpg hat hb
        go_wp2_with fail
        refine hwr.mono ?_
        rintro e w4 ⟨rfl, hf4, hoff4⟩
        clear hwr hlk
        have hat4 := hat3.turn HG.out hoff4 hf4
        clear c0 c1 c2 c3 c4 f1 f3 f4 hf4
        obtain ⟨⟨c0, c1, c2, c3, c4⟩, f1, f3, f4⟩ := row5 hat4.row
        have hoff5 : Off (fun i => O i ≠ none) w2 w4 := hoff3.trans (hoff4.mono (G := fun i => O i ≠ none) fun i _ h => by rw [h]; simp) fun i h => .inl h
        obtain ⟨hq1, hq2⟩ := putW_some l hat3.one HC.out HG.out
        have hend : DkIs (w4.setCell ⟨d, 1, none⟩ (.int .i64 ((z : Int) + (n : Int)))) (paint O w3.heap.size w4.heap.size g) d (N + 1) { S with C := putW S.C s l } := by
          have e1 : ({ S with C := putW S.C s l } : Dk).size = z + n := by
            show sumL fsz (putW S.C s l) = z + n
            rw [hq2, HZ.out, HL.out]; rfl
          refine ⟨⟨m, _, ?_, hq1⟩, by rw [e1]; show z + n ≤ S.room; rw [← HR.out]; exact hroom, HW.out⟩
          rw [e1]
          show DkAt _ _ d m (N + 1) S.room (z + n) S.on S.lives _
          rw [← HR.out]
          exact (hat4.setSize (by simp)).more
        have hown : Own O (paint O w3.heap.size w4.heap.size g) w2.heap.size := by rw [← hw3]; exact Own.paint
        have hoff6 := hoff5.set (i := 1) (.inl (show O d ≠ none by rw [hat3.od]; simp)) (.int .i64 ((z : Int) + (n : Int)))
        have HEND := Lib.hid hend
        clear hend hq1 hq2 hat4 hat3 hoff4 hoff5 hoff3 hb3 hw3
        go_wp2
        go_ret
        exact ⟨by rw [HE.out]; rfl, ⟨_, by rw [HS.out]; exact HEND.out, hown⟩, hoff6⟩
  · have HE := Lib.hid (show appE S s n = readyE S.on s by simp [appE, h0])
    have HS := vlt (show S.app s l = S by
      unfold Dk.app
      rw [hl, HE.out, if_neg h0])
    have HM := Lib.hid hm1
    generalize readyE S.on s = v at *
    clear hat hC hl hb
    go_enter Try.func6, Try.ntmps6
    go_wp2_with fail
    refine hr.mono ?_
    rintro e w2 ⟨rfl, rfl⟩
    clear hr
    go_wp2
    go_ret
    exact ⟨by rw [HE.out]; rfl, ⟨O, by rw [HS.out]; exact HM.out, Own.refl⟩, Off.refl _ _⟩
end Go.Proofs.Ytnpaodhcaeofnaa
