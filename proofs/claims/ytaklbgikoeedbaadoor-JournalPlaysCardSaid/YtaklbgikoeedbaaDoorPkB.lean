/-
  Words and contracts that other texts share, several in one text. No statement of the seat is proved here. Conditions: as each contract says.
  The contracts of a disk's calls New, Append, Sync, Read. Conditions: names and bytes up to 2^40, fewer than 2^40 calls.
  The contracts of a disk's calls New, Sync, Read, Size, On, Power, Lives. Conditions: names up to 2^47 bytes, fewer than 2^40 calls.
  The contracts of a disk's calls remove, Rename, Drop. Conditions: names up to 2^47 bytes, fewer than 2^40 calls.
  The contracts of a disk's calls Crash, New. Conditions: fewer than 2^40 calls.
  The contract of disk.New. Conditions: none.
  Bytes and rows in a later world. No statement is proved here. Conditions: none.
  A disk that a law has made, beside another object (P) and bytes that are kept (xs): the contracts of its calls once more, with all that is the law's own in new blocks. Conditions: as each says.
-/
import Derived.Test.YtaklbgikoeedbaaDoorPkA
import Derived.Carry
namespace Go.Proofs.YtaklbgikoeedbaaDoor
open Go.RowKit

def putW (C : List (ByteArray × Fl)) (s : ByteArray) (b : List UInt8) : List (ByteArray × Fl) :=
  if (getL C s).isSome then upd C s (·.write b) else C ++ [(s, (⟨[], []⟩ : Fl).write b)]
def appE (S : Dk) (s : ByteArray) (n : Nat) : Int := if readyE S.on s = 0 then (if S.room - S.size < n then 6 else 0) else readyE S.on s
def Dk.app (S : Dk) (s : ByteArray) (b : List UInt8) : Dk := if appE S s b.length = 0 then { S with C := putW S.C s b } else S
theorem DkAt.more {w : World} {O : Nat → Option Nat} {d m N room z lives : Nat} {on : Bool} {L : List (ByteArray × Nat × Fl)} (h : DkAt w O d m N room z on lives L) : DkAt w O d m (N + 1) room z on lives L :=
  ⟨h.row, h.map.mono (Nat.le_succ _), h.file, h.one, h.gds, h.od, h.om, h.low⟩
theorem DkIs.more {w : World} {O : Nat → Option Nat} {d N : Nat} {S : Dk} (h : DkIs w O d N S) : DkIs w O d (N + 1) S := by
  obtain ⟨⟨m, L, h1, h2⟩, h3, h4⟩ := h
  exact ⟨⟨m, L, h1.more, h2⟩, h3, h4⟩
theorem DkIs.off {w w' : World} {O : Nat → Option Nat} {d N : Nat} {S : Dk} {G : Nat → Prop} (h : DkIs w O d N S) (hb : Off G w w') (hd : ∀ i, O i ≠ none → ¬ G i) : DkIs w' O d N S := by
  obtain ⟨⟨m, L, h1, h2⟩, h3, h4⟩ := h
  exact ⟨⟨m, L, h1.off hb hd, h2⟩, h3, h4⟩
theorem Off.drewN {F : Nat → Prop} {a w : World} (h : Off F a w) (k : Nat) : Off F a (w.drewN k) := ⟨h.os, h.tape, h.output, h.size, h.block⟩
theorem off_drewN (F : Nat → Prop) (w : World) (k : Nat) : Off F w (w.drewN k) := (Off.refl F w).drewN k
theorem DkIs.drewN {w : World} {O : Nat → Option Nat} {d N : Nat} {S : Dk} (h : DkIs w O d N S) (k : Nat) : DkIs (w.drewN k) O d N S := h.off (G := fun _ => False) (off_drewN _ w k) fun _ _ h => h
theorem DkAt.drewN {w : World} {O : Nat → Option Nat} {d m N room z lives : Nat} {on : Bool} {L : List (ByteArray × Nat × Fl)} (h : DkAt w O d m N room z on lives L) (k : Nat) : DkAt (w.drewN k) O d m N room z on lives L := h.off (G := fun _ => False) (off_drewN _ w k) fun _ _ h => h
section
variable {w : World} {O : Nat → Option Nat} {d m N room z lives : Nat} {on : Bool} {L : List (ByteArray × Nat × Fl)}
theorem DkAt.setSize (h : DkAt w O d m N room z on lives L) {z' : Nat} {v : Int} (hv : v = (z' : Int)) : DkAt (w.setCell ⟨d, 1, none⟩ (.int .i64 v)) O d m N room z' on lives L := by
  subst hv
  exact h.cells ((But.refl d w).set _) (world_set_cell (cs := [_, _, _, _, _]) h.row 1 (.int .i64 (z' : Int))).out
theorem DkAt.setOn (h : DkAt w O d m N room z on lives L) (on' : Bool) : DkAt (w.setCell ⟨d, 3, none⟩ (.bool on')) O d m N room z on' lives L :=
  h.cells ((But.refl d w).set _) (world_set_cell (cs := [_, _, _, _, _]) h.row 3 (.bool on')).out
theorem DkAt.setLives (h : DkAt w O d m N room z on lives L) {z' : Nat} {v : Int} (hv : v = (z' : Int)) : DkAt (w.setCell ⟨d, 4, none⟩ (.int .i64 v)) O d m N room z on z' L := by
  subst hv
  exact h.cells ((But.refl d w).set _) (world_set_cell (cs := [_, _, _, _, _]) h.row 4 (.int .i64 (z' : Int))).out
theorem DkAt.offd (h : DkAt w O d m N room z on lives L) (i : Nat) (v : Value) {a : World} (h2 : Off (fun i => O i ≠ none) a w) : Off (fun i => O i ≠ none) a (w.setCell ⟨d, i, none⟩ v) :=
  h2.set (.inl (by rw [h.od]; simp)) v
end
theorem putW_some {L : List (ByteArray × Nat × Fl)} {C : List (ByteArray × Fl)} {s : ByteArray} {g : Nat} {f : Fl} (l : List UInt8) (h1 : One L) (hC : onL (·.2) L = C) (hg : getL L s = some (g, f)) :
    onL (·.2) (upd L s fun _ => (g, f.write l)) = putW C s l ∧ sumL fsz (putW C s l) = sumL fsz C + l.length := by
  have hgC : getL C s = some f := by rw [← hC, getL_onL, hg]; rfl
  have e : putW C s l = upd C s (·.write l) := by unfold putW; rw [hgC]; rfl
  rw [e]
  refine ⟨?_, ?_⟩
  · rw [onL_upd_at (·.2) L s _ (·.write l) (fun a ha => by rw [hg] at ha; injection ha with ha; subst ha; rfl) h1, hC]
  · have h2 := sumL_upd fsz (hC ▸ h1.onL (·.2) : One C) hgC (·.write l)
    have h3 : fsz (f.write l) = fsz f + l.length := by unfold fsz; rw [write_all, List.length_append]
    rw [h3] at h2; omega
theorem putW_none {L : List (ByteArray × Nat × Fl)} {C : List (ByteArray × Fl)} {s : ByteArray} {g : Nat} (l : List UInt8) (hC : onL (·.2) L = C) (hg : getL L s = none) :
    onL (·.2) (L ++ [(s, g, (⟨[], []⟩ : Fl).write l)]) = putW C s l ∧ sumL fsz (putW C s l) = sumL fsz C + l.length := by
  have hgC : getL C s = none := by rw [← hC, getL_onL, hg]; rfl
  have e : putW C s l = C ++ [(s, (⟨[], []⟩ : Fl).write l)] := by unfold putW; rw [hgC]; rfl
  rw [e]
  refine ⟨by rw [onL_app, hC]; rfl, ?_⟩
  rw [sumL_app]
  have h3 : fsz ((⟨[], []⟩ : Fl).write l) = l.length := by unfold fsz; rw [write_all]; rfl
  simp [sumL, h3]
theorem upd_new {L : List (ByteArray × Nat × Fl)} {s : ByteArray} {g : Nat} {f f' : Fl} (hg : getL L s = none) : upd (L ++ [(s, g, f)]) s (fun _ => (g, f')) = L ++ [(s, g, f')] := by
  have e : upd L s (fun _ => (g, f')) = L := by
    unfold upd
    conv => rhs; rw [← List.map_id L]
    refine List.map_congr_left fun y hy => ?_
    have : ¬ y.1 = s := fun e => by
      rw [getL, Option.map_eq_none_iff, List.find?_eq_none] at hg
      exact hg y hy (by simp [e])
    simp [this]
  have e2 : upd (L ++ [(s, g, f)]) s (fun _ => (g, f')) = upd L s (fun _ => (g, f')) ++ [(s, g, f')] := by simp [upd]
  rw [e2, e]
theorem write_nil (b : List UInt8) : ((⟨[], []⟩ : Fl).write b).all = b := by rw [write_all]; rfl

set_option maxRecDepth 100000 in
set_option maxHeartbeats 1000000 in
theorem dappend_any (w : World) (O : Nat → Option Nat) (d N : Nat) (S : Dk) (h : DkIs w O d N S) (s : ByteArray) (hs : s.size ≤ 140737488355328) (B : Option Addr) (l : List UInt8) (n cB : Nat) (hb : BytF w (fun i => O i = none) B l) (hl : l.length = n) (hn : n ≤ 1099511627776) (hN : N ≤ 1099511627776) :
    Calls Tryd.prog 29 #[.pointer (some ⟨d, 0, none⟩), .string s, .slice B n cB] w fun e w' => e = .returned (.int .i64 (appE S s n)) ∧ (∃ O', DkIs w' O' d (N + 1) (S.app s l) ∧ Own O O' w.heap.size) ∧ Off (fun i => O i ≠ none) w w' := by
  have hm1 := h.more
  obtain ⟨⟨m, L, hat, hC⟩, hfull, hfew⟩ := h
  obtain ⟨⟨c0, c1, c2, c3, c4⟩, f1, f3, f4⟩ := row5 hat.row
  have hr := ready_any w d S.on s c3 hs
  by_cases h0 : readyE S.on s = 0
  · rw [h0] at hr
    by_cases hbig : S.room - S.size < n
    · have HE := Lib.hid (show appE S s n = 6 by simp [appE, h0, hbig])
      have HS := vlt (show S.app s l = S by
        unfold Dk.app
        rw [hl, HE.out]; rfl)
      have hbig' : (S.room : Int) - (S.size : Int) < (n : Int) := by omega
      have HM := Lib.hid hm1
      have hsz : S.size ≤ 1048576 := by omega
      generalize S.size = z at *
      generalize S.room = r at *
      clear hat hC h0 hbig hl hb
      go_enter Tryd.func29, Tryd.ntmps29
      go_wp2_with fail
      refine hr.mono ?_
      rintro e w2 ⟨rfl, rfl⟩
      clear hr
      go_upto_region 4 with fail
      go_quiet (fail)
      go_wp2
      go_ret
      exact ⟨by rw [HE.out]; rfl, ⟨O, by rw [HS.out]; exact HM.out.drewN _, Own.refl⟩, off_drewN _ _ _⟩
    · have HE := Lib.hid (show appE S s n = 0 by simp [appE, h0, hbig])
      have HS := vlt (show S.app s l = { S with C := putW S.C s l } by
        unfold Dk.app
        rw [hl, HE.out, if_pos rfl])
      have hbig' : ¬ (S.room : Int) - (S.size : Int) < (n : Int) := by omega
      have hsz : S.size ≤ 1048576 := by omega
      have HL := Lib.hid hl
      have HC := vlt hC
      have HF := Lib.hid hfull
      have HW := Lib.hid hfew
      have hroom : S.size + n ≤ S.room := by omega
      clear hm1 h0 hbig hl hC hfull hfew
      cases hg : getL L s with
      | none =>
        have hpg : ptrs L s = none := by unfold ptrs; rw [hg]; rfl
        obtain ⟨z, hz⟩ : ∃ z, z = S.size := ⟨_, rfl⟩
        obtain ⟨r, hrm⟩ : ∃ r, r = S.room := ⟨_, rfl⟩
        rw [← hz] at hat hsz hroom hbig' c1
        rw [← hrm] at hat hroom hbig' c0
        have HZ := vlt hz
        have HR := vlt hrm
        have hr6 : r ≤ 1048576 := by rw [hrm]; exact HW.out
        clear hz hrm
        go_enter Tryd.func29, Tryd.ntmps29
        go_wp2_with fail
        refine hr.mono ?_
        rintro e w2 ⟨rfl, rfl⟩
        clear hr
        go_upto_region 4 with fail
        go_quiet (fail)
        have hat3 := hat.drewN nq
        have hoff3 := off_drewN (fun i => O i ≠ none) w2 nq
        generalize hw3 : World.drewN w2 nq = w3 at hat3 hoff3 ⊢
        have hb3 := hb.off hoff3 (fun i _ h h2 => h2 h)
        clear c0 c1 c2 c3 c4 f1 f3 f4
        obtain ⟨⟨c0, c1, c2, c3, c4⟩, f1, f3, f4⟩ := row5 hat3.row
        have hlk := hat3.map.look (s := s) (by unfold maxLen; omega)
        rw [hpg] at hlk
        simp only [ptrV] at hlk
        have HG := vlt hg
        clear hg hpg hat hb
        go_upto_region 9 with fail
        have hlt3 := hat3.ltd
        have hmA : MapIs (w3.alloc (.cells #[.slice none 0 0, .slice none 0 0] 65)) m N (ptrs L) := hat3.map.block (heap_alloc_old w3 _ hat3.map.lt)
        obtain ⟨w4, hst, hm4, hgr4, hsz4⟩ := hmA.store (s := s) (by unfold maxLen; omega) (by unfold maxLen; omega) w3.heap.size
        have hat4 := hat3.add HG.out hm4 hgr4
        have hoff4 : Off (fun i => O i ≠ none) w3 w4 := ((Off.refl _ w3).alloc _).trans (G := fun i => i = m) ⟨hgr4.os, hgr4.tape, hgr4.output, hgr4.size, fun k hk hn => hgr4.block k hk (fun e => hn (by injection e))⟩ fun i h => .inl (by rw [h, hat3.om]; simp)
        have hsz34 : w3.heap.size ≤ w4.heap.size := hoff4.size
        have hb4 : BytF w4 (fun i => ¬ paint O w3.heap.size w4.heap.size w3.heap.size i = some w3.heap.size) B l := by
          refine ((hb3.mono (G := fun i => O i = none ∧ i < w3.heap.size) fun i hi h => ⟨h, hi⟩).off hoff4 fun i _ h h2 => h2 h.1).mono fun i _ h h2 => ?_
          unfold paint at h2
          rw [if_neg (by omega), h.1] at h2
          cases h2
        have cA : (w3.alloc (.cells #[.slice none 0 0, .slice none 0 0] 65)).cell? ⟨d, 2, none⟩ = some (.map (some m)) := (World.cell?_of_block (heap_alloc_old w3 _ hlt3)).trans c2
        generalize w3.alloc (.cells #[.slice none 0 0, .slice none 0 0] 65) = wa at hst cA ⊢
        obtain ⟨g, hgd⟩ : ∃ g, g = w3.heap.size := ⟨_, rfl⟩
        rw [← hgd] at hst hat4 hb4 ⊢
        have hown4 : Own O (paint O g w4.heap.size g) w2.heap.size := by rw [hgd, ← hw3]; exact Own.paint
        have hgn : getL (L ++ [(s, g, (⟨[], []⟩ : Fl))]) s = some (g, ⟨[], []⟩) := by rw [getL_app, HG.out, getL_cons, if_pos rfl]; rfl
        have hwr := write_any w4 (fun i => paint O g w4.heap.size g i = some g) g ⟨[], []⟩ (hat4.file (s, g, ⟨[], []⟩) (by simp)) B l n cB hb4 HL.out (by simp [Fl.all]; omega)
        clear c0 c1 c2 c3 c4 f1 f3 f4 hmA hm4 hgr4 hb3 hb4 hgd
        go_wp2_with fail
        refine hwr.mono ?_
        rintro e w5 ⟨rfl, hf5, hoff5⟩
        clear hwr hlk hst cA
        have hat5 := hat4.turn hgn hoff5 hf5
        rw [upd_new HG.out] at hat5
        clear hf5
        obtain ⟨⟨c0, c1, c2, c3, c4⟩, f1, f3, f4⟩ := row5 hat5.row
        have hoff6 : Off (fun i => O i ≠ none) w2 w5 := (hoff3.trans (hoff4.mono fun i _ h => h) fun i h => .inl h).trans (hoff5.mono (G := fun i => paint O g w4.heap.size g i ≠ none) fun i _ h => by rw [h]; simp) fun i h => hown4 i h
        have hoff7 := hoff6.set (i := 1) (.inl (show O d ≠ none by rw [hat3.od]; simp)) (.int .i64 ((z : Int) + (n : Int)))
        obtain ⟨hq1, hq2⟩ := putW_none (g := g) l HC.out HG.out
        have hend : DkIs (w5.setCell ⟨d, 1, none⟩ (.int .i64 ((z : Int) + (n : Int)))) (paint (paint O g w4.heap.size g) w4.heap.size w5.heap.size g) d (N + 1) { S with C := putW S.C s l } := by
          have e1 : ({ S with C := putW S.C s l } : Dk).size = z + n := by
            show sumL fsz (putW S.C s l) = z + n
            rw [hq2, HZ.out, HL.out]; rfl
          refine ⟨⟨m, _, ?_, hq1⟩, by rw [e1]; show z + n ≤ S.room; rw [← HR.out]; exact hroom, HW.out⟩
          rw [e1]
          show DkAt _ _ d m (N + 1) S.room (z + n) S.on S.lives _
          rw [← HR.out]
          exact hat5.setSize (by simp)
        have hown5 : Own O (paint (paint O g w4.heap.size g) w4.heap.size w5.heap.size g) w2.heap.size := fun i hi => by
          rcases Own.paint i hi with h | h
          · exact hown4 i h
          · have := hoff4.size
            have := hoff3.size
            exact .inr (by omega)
        have HEND := Lib.hid hend
        clear hend hq1 hq2 hat4 hat3 hat5 hoff4 hoff5 hoff6 hoff3 hw3 hgn hown4 hsz4
        go_wp2
        go_ret
        exact ⟨by rw [HE.out]; rfl, ⟨_, by rw [HS.out]; exact HEND.out, hown5⟩, hoff7⟩
      | some y =>
        obtain ⟨g, f⟩ := y
        have hpg : ptrs L s = some g := by unfold ptrs; rw [hg]; rfl
        have hfs : f.all.length ≤ S.size := by
          have h5 := sumL_get (fun (a : Nat × Fl) => fsz a.2) hg
          rw [← sumL_onL fsz (·.2) L, HC.out] at h5
          exact h5
        obtain ⟨z, hz⟩ : ∃ z, z = S.size := ⟨_, rfl⟩
        obtain ⟨r, hrm⟩ : ∃ r, r = S.room := ⟨_, rfl⟩
        rw [← hz] at hat hfs hsz hroom hbig' c1
        rw [← hrm] at hat hroom hbig' c0
        have HZ := vlt hz
        have HR := vlt hrm
        have hr6 : r ≤ 1048576 := by rw [hrm]; exact HW.out
        clear hz hrm
        go_enter Tryd.func29, Tryd.ntmps29
        go_wp2_with fail
        refine hr.mono ?_
        rintro e w2 ⟨rfl, rfl⟩
        clear hr
        go_upto_region 4 with fail
        go_quiet (fail)
        have hat3 := hat.drewN nq
        have hoff3 := off_drewN (fun i => O i ≠ none) w2 nq
        generalize hw3 : World.drewN w2 nq = w3 at hat3 hoff3 ⊢
        have hb3 := hb.off hoff3 (fun i _ h h2 => h2 h)
        clear c0 c1 c2 c3 c4 f1 f3 f4
        obtain ⟨⟨c0, c1, c2, c3, c4⟩, f1, f3, f4⟩ := row5 hat3.row
        have hlk := hat3.map.look (s := s) (by unfold maxLen; omega)
        rw [hpg] at hlk
        simp only [ptrV] at hlk
        have hwr := write_any w3 (fun i => O i = some g) g f (hat3.file _ (mem_getL hg)) B l n cB (hb3.mono fun i _ h h2 => by rw [h] at h2; cases h2) HL.out (by omega)
        have hgr := hg
        have HG := vlt hg
        clear hg hgr hpg hat hb
        go_wp2_with fail
        refine hwr.mono ?_
        rintro e w4 ⟨rfl, hf4, hoff4⟩
        clear hwr hlk
        have hat4 := hat3.turn HG.out hoff4 hf4
        clear c0 c1 c2 c3 c4 f1 f3 f4 hf4
        obtain ⟨⟨c0, c1, c2, c3, c4⟩, f1, f3, f4⟩ := row5 hat4.row
        have hoff5 : Off (fun i => O i ≠ none) w2 w4 := hoff3.trans (hoff4.mono (G := fun i => O i ≠ none) fun i _ h => by rw [h]; simp) fun i h => .inl h
        obtain ⟨hq1, hq2⟩ := putW_some l hat3.one HC.out HG.out
        have hend : DkIs (w4.setCell ⟨d, 1, none⟩ (.int .i64 ((z : Int) + (n : Int)))) (paint O w3.heap.size w4.heap.size g) d (N + 1) { S with C := putW S.C s l } := by
          have e1 : ({ S with C := putW S.C s l } : Dk).size = z + n := by
            show sumL fsz (putW S.C s l) = z + n
            rw [hq2, HZ.out, HL.out]; rfl
          refine ⟨⟨m, _, ?_, hq1⟩, by rw [e1]; show z + n ≤ S.room; rw [← HR.out]; exact hroom, HW.out⟩
          rw [e1]
          show DkAt _ _ d m (N + 1) S.room (z + n) S.on S.lives _
          rw [← HR.out]
          exact (hat4.setSize (by simp)).more
        have hown : Own O (paint O w3.heap.size w4.heap.size g) w2.heap.size := by rw [← hw3]; exact Own.paint
        have hoff6 := hoff5.set (i := 1) (.inl (show O d ≠ none by rw [hat3.od]; simp)) (.int .i64 ((z : Int) + (n : Int)))
        have HEND := Lib.hid hend
        clear hend hq1 hq2 hat4 hat3 hoff4 hoff5 hoff3 hb3 hw3
        go_wp2
        go_ret
        exact ⟨by rw [HE.out]; rfl, ⟨_, by rw [HS.out]; exact HEND.out, hown⟩, hoff6⟩
  · have HE := Lib.hid (show appE S s n = readyE S.on s by simp [appE, h0])
    have HS := vlt (show S.app s l = S by
      unfold Dk.app
      rw [hl, HE.out, if_neg h0])
    have HM := Lib.hid hm1
    generalize readyE S.on s = v at *
    clear hat hC hl hb
    go_enter Tryd.func29, Tryd.ntmps29
    go_wp2_with fail
    refine hr.mono ?_
    rintro e w2 ⟨rfl, rfl⟩
    clear hr
    go_wp2
    go_ret
    exact ⟨by rw [HE.out]; rfl, ⟨O, by rw [HS.out]; exact HM.out, Own.refl⟩, Off.refl _ _⟩
end Go.Proofs.YtaklbgikoeedbaaDoor
namespace Go.Proofs.YtaklbgikoeedbaaDoor
open Go.RowKit

def askE (S : Dk) (s : ByteArray) : Int := if readyE S.on s = 0 then (if (getL S.C s).isSome then 0 else 4) else readyE S.on s
def readB (S : Dk) (s : ByteArray) : List UInt8 := if askE S s = 0 then ((getL S.C s).map Fl.all).getD [] else []
def Dk.syn (S : Dk) (s : ByteArray) : Dk := if askE S s = 0 then { S with C := upd S.C s Fl.sync } else S
def Dk.siz (S : Dk) : Int := if S.on then (S.size : Int) else 0
theorem findE_is {S : Dk} {L : List (ByteArray × Nat × Fl)} (hC : onL (·.2) L = S.C) (s : ByteArray) : findE S.on s (ptrs L s) = askE S s := by
  unfold findE askE ptrs
  rw [← hC, getL_onL]
  cases getL L s <;> rfl
theorem askE_yes {S : Dk} {s : ByteArray} (h : askE S s = 0) : readyE S.on s = 0 ∧ ∃ f, getL S.C s = some f := by
  unfold askE at h
  by_cases h0 : readyE S.on s = 0
  · rw [if_pos h0] at h
    cases hg : getL S.C s with
    | none => rw [hg] at h; exact absurd h (by decide)
    | some f => exact ⟨h0, f, rfl⟩
  · rw [if_neg h0] at h; exact absurd h h0
theorem findP_yes {S : Dk} {s : ByteArray} {L : List (ByteArray × Nat × Fl)} (hC : onL (·.2) L = S.C) (h : askE S s = 0) : ∃ g f, getL L s = some (g, f) ∧ getL S.C s = some f ∧ findP S.on s (ptrs L s) = some g := by
  obtain ⟨h0, f, hf⟩ := askE_yes h
  rw [← hC, getL_onL] at hf
  cases hg : getL L s with
  | none => rw [hg] at hf; cases hf
  | some y =>
    obtain ⟨g, f'⟩ := y
    refine ⟨g, f', rfl, by rw [← hC, getL_onL, hg]; rfl, ?_⟩
    unfold findP ptrs
    rw [if_pos h0, hg]; rfl

set_option maxRecDepth 100000 in
theorem dsync_any (w : World) (O : Nat → Option Nat) (d N : Nat) (S : Dk) (h : DkIs w O d N S) (s : ByteArray) (hs : s.size ≤ 140737488355328) :
    Calls Tryd.prog 24 #[.pointer (some ⟨d, 0, none⟩), .string s] w fun e w' => e = .returned (.int .i64 (askE S s)) ∧ (∃ O', DkIs w' O' d (N + 1) (S.syn s) ∧ Own O O' w.heap.size) ∧ Off (fun i => O i ≠ none) w w' := by
  have hm1 := h.more
  obtain ⟨⟨m, L, hat, hC⟩, hfull, hfew⟩ := h
  obtain ⟨⟨c0, c1, c2, c3, c4⟩, f1, f3, f4⟩ := row5 hat.row
  have hr := find_any w d m N S.on (ptrs L) s c2 c3 hat.map hs
  rw [findE_is hC] at hr
  by_cases h0 : askE S s = 0
  · obtain ⟨g, f, hg, hgC, hp⟩ := findP_yes hC h0
    rw [h0, hp] at hr
    simp only [ptrV] at hr
    have HE := Lib.hid h0
    have HS := vlt (show S.syn s = { S with C := upd S.C s Fl.sync } by unfold Dk.syn; rw [if_pos h0])
    have hfile := hat.file _ (mem_getL hg)
    obtain ⟨hlen, hK, A, n, c, A2, n2, c2', hgr, h1, h2, h3, h4⟩ := hfile
    obtain ⟨d0, d1, e0, e1⟩ := row2 hgr
    have hset := world_set_cell (cs := [.slice A n c, .slice A2 n2 c2']) hgr 1 (.slice none 0 0)
    have hoff1 : Off (fun i => O i = some g) w (w.setCell ⟨g, 1, none⟩ (.slice none 0 0)) := off_set (i := 1) (.slice none 0 0) hK
    have hf1 : FileIs (w.setCell ⟨g, 1, none⟩ (.slice none 0 0)) (fun i => O i = some g ∨ w.heap.size ≤ i) g f.sync := by
      refine ⟨by simp [Fl.sync], .inl hK, A, n, c, none, 0, 0, hset.out, ?_, ?_, h3.mono fun i h => .inl h, AtF.none_ _⟩
      · rw [sync_all]; exact own_set h1 (owns_ne h1 hgr (by decide)) _
      · rw [sync_st]; exact World.ownsRow_nil _ _ _ _
    have hat1 := (hat.turn hg hoff1 hf1).more
    have hend : DkIs (w.setCell ⟨g, 1, none⟩ (.slice none 0 0)) (paint O w.heap.size (w.setCell ⟨g, 1, none⟩ (.slice none 0 0)).heap.size g) d (N + 1) { S with C := upd S.C s Fl.sync } := by
      have e1 : ({ S with C := upd S.C s Fl.sync } : Dk).size = S.size := by
        have h5 := sumL_upd fsz (hC ▸ hat.one.onL (·.2) : One S.C) hgC Fl.sync
        have h6 : fsz f.sync = fsz f := by unfold fsz; rw [sync_all]
        show sumL fsz (upd S.C s Fl.sync) = sumL fsz S.C
        omega
      refine ⟨⟨m, upd L s fun _ => (g, f.sync), ?_, ?_⟩, by rw [e1]; exact hfull, hfew⟩
      · rw [e1]; exact hat1
      · rw [onL_upd_at (·.2) L s _ Fl.sync (fun a ha => by rw [hg] at ha; injection ha with ha; subst ha; rfl) hat.one, hC]
    have HEND := Lib.hid hend
    have hoff2 : Off (fun i => O i ≠ none) w (w.setCell ⟨g, 1, none⟩ (.slice none 0 0)) := hoff1.mono fun i _ h => by rw [h]; simp
    clear hend hat1 hf1 hoff1 hset hgr h1 h2 h3 h4 hg hgC hp hat hC h0 hm1
    go_enter Tryd.func24, Tryd.ntmps24
    go_wp2_with fail
    refine hr.mono ?_
    rintro e w2 ⟨rfl, rfl⟩
    clear hr
    go_wp2
    go_ret
    exact ⟨by rw [HE.out]; rfl, ⟨_, by rw [HS.out]; exact HEND.out, Own.paint⟩, hoff2⟩
  · have HS := vlt (show S.syn s = S by unfold Dk.syn; rw [if_neg h0])
    have HM := Lib.hid hm1
    generalize askE S s = v at *
    generalize ptrV (findP S.on s (ptrs L s)) = pv at hr
    clear hat hC
    go_enter Tryd.func24, Tryd.ntmps24
    go_wp2_with fail
    refine hr.mono ?_
    rintro e w2 ⟨rfl, rfl⟩
    clear hr
    go_wp2
    go_ret
    exact ⟨rfl, ⟨O, by rw [HS.out]; exact HM.out, Own.refl⟩, Off.refl _ _⟩

set_option maxRecDepth 100000 in
theorem dread_any (w : World) (O : Nat → Option Nat) (d N : Nat) (S : Dk) (h : DkIs w O d N S) (s : ByteArray) (hs : s.size ≤ 140737488355328) :
    Calls Tryd.prog 34 #[.pointer (some ⟨d, 0, none⟩), .string s] w fun e w' => ∃ A n c l, e = .returned (.tuple #[.slice A n c, .int .i64 (askE S s)]) ∧ Vlt (l = readB S s) ∧ Res w' w.heap.size 5 A n c l ∧ DkIs w' O d N S ∧ Below w.heap.size w w' := by
  have hh := h
  obtain ⟨⟨m, L, hat, hC⟩, hfull, hfew⟩ := h
  obtain ⟨⟨c0, c1, c2, c3, c4⟩, f1, f3, f4⟩ := row5 hat.row
  have hr := find_any w d m N S.on (ptrs L) s c2 c3 hat.map hs
  rw [findE_is hC] at hr
  by_cases h0 : askE S s = 0
  · obtain ⟨g, f, hg, hgC, hp⟩ := findP_yes hC h0
    rw [h0, hp] at hr
    simp only [ptrV] at hr
    have HE := Lib.hid h0
    have HB := vlt (show f.all = readB S s by unfold readB; rw [if_pos h0, hgC]; rfl)
    have hfile := hat.file _ (mem_getL hg)
    obtain ⟨hlen, hK, A, n, c, A2, n2, c2', hgr, h1, h2, h3, h4⟩ := hfile
    obtain ⟨d0, d1, e0, e1⟩ := row2 hgr
    have hs1 := owns_size h1
    rw [bv_len] at hs1
    have hfs : f.all.length ≤ S.size := by
      have h5 := sumL_get fsz hgC
      exact h5
    have hnn : f.all.length = n := hs1.1
    have hn6 : n ≤ 1048576 := by omega
    have hcl := bclone_any w A f.all n c (Byt.of_own h1) hnn (by omega)
    have HH := Lib.hid hh
    clear hgr h1 h2 h3 h4 hg hgC hp hat hC h0 hh hs1 hfs hnn
    go_enter Tryd.func34, Tryd.ntmps34
    go_wp2_with fail
    refine hr.mono ?_
    rintro e w2 ⟨rfl, rfl⟩
    clear hr
    go_wp2_with fail
    refine hcl.mono ?_
    rintro e w3 ⟨A', c', rfl, hr3, hb3⟩
    clear hcl
    go_wp2
    go_ret2
    exact ⟨A', n, c', f.all, by rw [HE.out]; rfl, HB, hr3, HH.out.off (Off.of_below (F := fun _ => False) hb3 fun i h1 h2 => by omega) fun _ _ h => h, hb3⟩
  · have HB := vlt (show [] = readB S s by unfold readB; rw [if_neg h0])
    have HH := Lib.hid hh
    generalize askE S s = v at *
    generalize ptrV (findP S.on s (ptrs L s)) = pv at hr
    clear hat hC hh
    go_enter Tryd.func34, Tryd.ntmps34
    go_wp2_with fail
    refine hr.mono ?_
    rintro e w2 ⟨rfl, rfl⟩
    clear hr
    go_wp2
    go_ret2
    exact ⟨none, 0, 0, [], rfl, HB, World.ownsRow_nil _ _ _ _, HH.out, Below.refl _ _⟩

set_option maxRecDepth 100000 in
theorem dsize_any (w : World) (O : Nat → Option Nat) (d N : Nat) (S : Dk) (h : DkIs w O d N S) :
    Calls Tryd.prog 36 #[.pointer (some ⟨d, 0, none⟩)] w fun e w' => e = .returned (.int .i64 S.siz) ∧ w' = w := by
  obtain ⟨⟨m, L, hat, hC⟩, hfull, hfew⟩ := h
  obtain ⟨⟨c0, c1, c2, c3, c4⟩, f1, f3, f4⟩ := row5 hat.row
  unfold Dk.siz
  generalize S.size = z at *
  clear hat hC
  cases hon : S.on with
  | true =>
    rw [hon] at c3
    go_enter Tryd.func36, Tryd.ntmps36
    go_wp2
    go_ret
    exact ⟨rfl, rfl⟩
  | false =>
    rw [hon] at c3
    go_enter Tryd.func36, Tryd.ntmps36
    go_wp2
    go_ret
    exact ⟨rfl, rfl⟩
set_option maxRecDepth 100000 in
theorem dpower_any (w : World) (O : Nat → Option Nat) (d N : Nat) (S : Dk) (h : DkIs w O d N S) :
    Calls Tryd.prog 21 #[.pointer (some ⟨d, 0, none⟩)] w fun e w' => e = .returned (.bool S.on) ∧ w' = w := by
  obtain ⟨⟨m, L, hat, hC⟩, hfull, hfew⟩ := h
  obtain ⟨⟨c0, c1, c2, c3, c4⟩, f1, f3, f4⟩ := row5 hat.row
  clear hat hC
  go_enter Tryd.func21, Tryd.ntmps21
  go_wp2
  go_ret
  exact ⟨rfl, rfl⟩
set_option maxRecDepth 100000 in
theorem dlives_any (w : World) (O : Nat → Option Nat) (d N : Nat) (S : Dk) (h : DkIs w O d N S) :
    Calls Tryd.prog 22 #[.pointer (some ⟨d, 0, none⟩)] w fun e w' => e = .returned (.int .i64 (S.lives : Int)) ∧ w' = w := by
  obtain ⟨⟨m, L, hat, hC⟩, hfull, hfew⟩ := h
  obtain ⟨⟨c0, c1, c2, c3, c4⟩, f1, f3, f4⟩ := row5 hat.row
  clear hat hC
  go_enter Tryd.func22, Tryd.ntmps22
  go_wp2
  go_ret
  exact ⟨rfl, rfl⟩
def Dk.awake (S : Dk) : Dk := { S with on := true, lives := S.lives + 1 }
set_option maxRecDepth 100000 in
theorem don_any (w : World) (O : Nat → Option Nat) (d N : Nat) (S : Dk) (h : DkIs w O d N S) (hl : S.lives ≤ 1099511627776) :
    Calls Tryd.prog 17 #[.pointer (some ⟨d, 0, none⟩)] w fun e w' => e = .returned (.tuple #[]) ∧ (∃ O', DkIs w' O' d (N + 1) S.awake ∧ Own O O' w.heap.size) ∧ Off (fun i => O i ≠ none) w w' := by
  obtain ⟨⟨m, L, hat, hC⟩, hfull, hfew⟩ := h
  obtain ⟨⟨c0, c1, c2, c3, c4⟩, f1, f3, f4⟩ := row5 hat.row
  have hat2 := ((hat.setOn true).setLives (z' := S.lives + 1) (v := (S.lives : Int) + 1) (by simp)).more
  have hoff2 := ((Off.refl (fun i => O i ≠ none) w).set (i := 3) (.inl (show O d ≠ none by rw [hat.od]; simp)) (.bool true)).set (i := 4) (.inl (show O d ≠ none by rw [hat.od]; simp)) (.int .i64 ((S.lives : Int) + 1))
  have HEND := Lib.hid (show DkIs _ O d (N + 1) S.awake from ⟨⟨m, L, hat2, hC⟩, hfull, hfew⟩)
  have HS := vlt hC
  clear hat hat2 hC
  generalize hlv : S.lives = lv at *
  go_enter Tryd.func17, Tryd.ntmps17
  go_wp2
  go_end0
  exact ⟨rfl, ⟨O, HEND.out, Own.refl⟩, hoff2⟩
end Go.Proofs.YtaklbgikoeedbaaDoor
namespace Go.Proofs.YtaklbgikoeedbaaDoor
open Go.RowKit

set_option maxRecDepth 100000 in
theorem remove_at (w : World) (O : Nat → Option Nat) (d m N : Nat) (S : Dk) (L : List (ByteArray × Nat × Fl)) (hat : DkAt w O d m N S.room S.size S.on S.lives L) (hC : onL (·.2) L = S.C) (hfull : S.size ≤ S.room) (hfew : S.room ≤ 1048576) (s : ByteArray) (hs : s.size ≤ 140737488355328) :
    Calls Tryd.prog 39 #[.pointer (some ⟨d, 0, none⟩), .string s] w fun e w' => e = .returned (.tuple #[]) ∧ DkAt w' O d m N S.room (sumL fsz (del S.C s)) S.on S.lives (del L s) ∧ Off (fun i => O i ≠ none) w w' := by
  obtain ⟨⟨c0, c1, c2, c3, c4⟩, f1, f3, f4⟩ := row5 hat.row
  have hlk := hat.map.look (s := s) (by unfold maxLen; omega)
  cases hg : getL L s with
  | none =>
    have hpg : ptrs L s = none := by unfold ptrs; rw [hg]; rfl
    rw [hpg] at hlk
    simp only [ptrV] at hlk
    have hd : del S.C s = S.C := del_none (by rw [← hC, getL_onL, hg]; rfl)
    have HM := Lib.hid (show DkAt w O d m N S.room (sumL fsz (del S.C s)) S.on S.lives (del L s) by rw [hd, del_none hg]; exact hat)
    clear hat hC hg hpg hd
    go_enter Tryd.func39, Tryd.ntmps39
    go_wp2
    go_end0
    exact ⟨rfl, HM.out, Off.refl _ _⟩
  | some y =>
    obtain ⟨g, f⟩ := y
    have hpg : ptrs L s = some g := by unfold ptrs; rw [hg]; rfl
    rw [hpg] at hlk
    simp only [ptrV] at hlk
    have hgC : getL S.C s = some f := by rw [← hC, getL_onL, hg]; rfl
    have hfile := hat.file _ (mem_getL hg)
    obtain ⟨hlen, hK, A, n, c, A2, n2, c2', hgr, h1, h2, h3, h4⟩ := hfile
    obtain ⟨d0, d1, e0, e1⟩ := row2 hgr
    have hs1 := owns_size h1
    rw [bv_len] at hs1
    have hnn : f.all.length = n := hs1.1
    have hfs : f.all.length ≤ S.size := sumL_get fsz hgC
    have hdl : sumL fsz (del S.C s) + f.all.length = S.size := sumL_del fsz (hC ▸ hat.one.onL (·.2) : One S.C) hgC
    have hsz : S.size ≤ 1048576 := by omega
    have hnz : n ≤ S.size := by omega
    have HC := vlt hC
    have HF := Lib.hid hfull
    have HD := vlt hdl
    have HG := vlt hg
    have HNN := Lib.hid hnn
    obtain ⟨z, hz⟩ : ∃ z, z = S.size := ⟨_, rfl⟩
    rw [← hz] at hat hsz hnz c1
    have HZ := vlt hz
    clear hgr h1 h2 h3 h4 hg hgC hpg hC hs1 hfs hnn hdl hz hfull
    go_enter Tryd.func39, Tryd.ntmps39
    go_upto_region 2 with fail
    go_region
    have hat2 : DkAt (w.setCell ⟨d, 1, none⟩ (.int .i64 ((z : Int) - (n : Int)))).drew O d m N S.room (z - n) S.on S.lives L :=
      (hat.setSize (z' := z - n) (by omega)).off (G := fun _ => False) ((Off.refl _ _).drew) fun _ _ h => h
    have hoff2 := ((Off.refl (fun i => O i ≠ none) w).set (i := 1) (.inl (show O d ≠ none by rw [hat.od]; simp)) (.int .i64 ((z : Int) - (n : Int)))).drew
    generalize (w.setCell ⟨d, 1, none⟩ (.int .i64 ((z : Int) - (n : Int)))).drew = w2 at hat2 hoff2 ⊢
    clear c0 c1 c2 c3 c4 f1 f3 f4
    obtain ⟨⟨c0, c1, c2, c3, c4⟩, f1, f3, f4⟩ := row5 hat2.row
    obtain ⟨w3, hdl, hm3, hgr3, _⟩ := hat2.map.drop (s := s) (by unfold maxLen; omega) 0
    have hp : (fun t => if t = s then none else ptrs L t) = ptrs (del L s) := by
      funext t
      unfold ptrs
      rw [getL_del]
      by_cases e : t = s <;> simp [e]
    rw [hp] at hm3
    have hat3 := hat2.remap hgr3 hm3 (hat2.one.del s) (fun x hx => ⟨x, (List.mem_filter.1 hx).1, rfl⟩) (fun x hx y hy e => hat2.gds x (List.mem_filter.1 hx).1 y (List.mem_filter.1 hy).1 e)
    have hoff3 : Off (fun i => O i ≠ none) w w3 := hoff2.trans (G := fun i => i = m) ⟨hgr3.os, hgr3.tape, hgr3.output, hgr3.size, fun k hk hn => hgr3.block k hk (fun e => hn (by injection e))⟩ fun i h => .inl (by rw [h, hat2.om]; simp)
    have HEND := Lib.hid (show DkAt w3 O d m N S.room (sumL fsz (del S.C s)) S.on S.lives (del L s) by
      have e1 : sumL fsz (del S.C s) = z - n := by
        have := HD.out
        have := HNN.out
        have := HZ.out
        omega
      rw [e1]; exact hat3)
    clear hat2 hat3 hoff2 hm3 hgr3 hp hat
    go_wp2
    go_end0
    exact ⟨rfl, HEND.out, hoff3⟩

theorem sumL_del_le (C : List (ByteArray × Fl)) (s : ByteArray) : sumL fsz (del C s) ≤ sumL fsz C := by
  induction C with
  | nil => exact Nat.le_refl _
  | cons x C ih =>
    have e2 : sumL fsz (x :: C) = fsz x.2 + sumL fsz C := by simp [sumL]
    by_cases e : x.1 = s
    · have e3 : del (x :: C) s = del C s := by simp [del, e]
      rw [e3, e2]; omega
    · have e3 : del (x :: C) s = x :: del C s := by simp [del, e]
      have e4 : sumL fsz (x :: del C s) = fsz x.2 + sumL fsz (del C s) := by simp [sumL]
      rw [e3, e2, e4]; omega
theorem remove_any (w : World) (O : Nat → Option Nat) (d N : Nat) (S : Dk) (h : DkIs w O d N S) (s : ByteArray) (hs : s.size ≤ 140737488355328) :
    Calls Tryd.prog 39 #[.pointer (some ⟨d, 0, none⟩), .string s] w fun e w' => e = .returned (.tuple #[]) ∧ DkIs w' O d N { S with C := del S.C s } ∧ Off (fun i => O i ≠ none) w w' := by
  obtain ⟨⟨m, L, hat, hC⟩, hfull, hfew⟩ := h
  refine (remove_at w O d m N S L hat hC hfull hfew s hs).mono ?_
  rintro e w' ⟨rfl, h1, h2⟩
  exact ⟨rfl, ⟨⟨m, del L s, h1, by rw [onL_del, hC]⟩, Nat.le_trans (sumL_del_le _ _) hfull, hfew⟩, h2⟩
def Dk.drp (S : Dk) (s : ByteArray) : Dk := if askE S s = 0 then { S with C := del S.C s } else S
set_option maxRecDepth 100000 in
theorem ddrop_any (w : World) (O : Nat → Option Nat) (d N : Nat) (S : Dk) (h : DkIs w O d N S) (s : ByteArray) (hs : s.size ≤ 140737488355328) :
    Calls Tryd.prog 27 #[.pointer (some ⟨d, 0, none⟩), .string s] w fun e w' => e = .returned (.int .i64 (askE S s)) ∧ (∃ O', DkIs w' O' d (N + 1) (S.drp s) ∧ Own O O' w.heap.size) ∧ Off (fun i => O i ≠ none) w w' := by
  have hrm := remove_any w O d N S h s hs
  have hm1 := h.more
  obtain ⟨⟨m, L, hat, hC⟩, hfull, hfew⟩ := h
  obtain ⟨⟨c0, c1, c2, c3, c4⟩, f1, f3, f4⟩ := row5 hat.row
  have hr := find_any w d m N S.on (ptrs L) s c2 c3 hat.map hs
  rw [findE_is hC] at hr
  generalize ptrV (findP S.on s (ptrs L s)) = pv at hr
  by_cases h0 : askE S s = 0
  · rw [h0] at hr
    have HE := Lib.hid h0
    have HS := vlt (show S.drp s = { S with C := del S.C s } by unfold Dk.drp; rw [if_pos h0])
    clear hat hC h0 hm1
    go_enter Tryd.func27, Tryd.ntmps27
    go_wp2_with fail
    refine hr.mono ?_
    rintro e w2 ⟨rfl, rfl⟩
    clear hr
    go_wp2_with fail
    refine hrm.mono ?_
    rintro e w3 ⟨rfl, h3, hoff3⟩
    clear hrm
    have HEND := Lib.hid h3.more
    clear h3
    go_wp2
    go_ret
    exact ⟨by rw [HE.out]; rfl, ⟨O, by rw [HS.out]; exact HEND.out, Own.refl⟩, hoff3⟩
  · have HS := vlt (show S.drp s = S by unfold Dk.drp; rw [if_neg h0])
    have HM := Lib.hid hm1
    generalize askE S s = v at *
    clear hat hC hrm
    go_enter Tryd.func27, Tryd.ntmps27
    go_wp2_with fail
    refine hr.mono ?_
    rintro e w2 ⟨rfl, rfl⟩
    clear hr
    go_wp2
    go_ret
    exact ⟨rfl, ⟨O, by rw [HS.out]; exact HM.out, Own.refl⟩, Off.refl _ _⟩

def renE (S : Dk) (s t : ByteArray) : Int := if readyE S.on t = 0 then askE S s else readyE S.on t
def Dk.ren (S : Dk) (s t : ByteArray) : Dk := if renE S s t = 0 then (if s = t then S else match getL S.C s with | some f => { S with C := del (del S.C s) t ++ [(t, f)] } | none => S) else S
theorem bytes_ne {s t : ByteArray} (h : ¬ s = t) : (s.toList == t.toList) = false := by
  rw [ByteArray.toList_eq, ByteArray.toList_eq, beq_eq_false_iff_ne]
  intro e
  have e2 : s.data = t.data := Array.toList_inj.1 e
  exact h (ByteArray.ext e2)
theorem del_comm {α : Type} (L : List (ByteArray × α)) (s t : ByteArray) : del (del L s) t = del (del L t) s := by
  simp only [del, List.filter_filter]
  refine List.filter_congr fun x _ => by rw [Bool.and_comm]
set_option maxRecDepth 100000 in
set_option maxHeartbeats 1000000 in
theorem drename_any (w : World) (O : Nat → Option Nat) (d N : Nat) (S : Dk) (h : DkIs w O d N S) (s t : ByteArray) (hs : s.size ≤ 140737488355328) (ht : t.size ≤ 140737488355328) (hN : N ≤ 1099511627776) :
    Calls Tryd.prog 31 #[.pointer (some ⟨d, 0, none⟩), .string s, .string t] w fun e w' => e = .returned (.int .i64 (renE S s t)) ∧ (∃ O', DkIs w' O' d (N + 1) (S.ren s t) ∧ Own O O' w.heap.size) ∧ Off (fun i => O i ≠ none) w w' := by
  have hm1 := h.more
  obtain ⟨⟨m, L, hat, hC⟩, hfull, hfew⟩ := h
  obtain ⟨⟨c0, c1, c2, c3, c4⟩, f1, f3, f4⟩ := row5 hat.row
  have hr := find_any w d m N S.on (ptrs L) s c2 c3 hat.map hs
  rw [findE_is hC] at hr
  have hy := ready_any w d S.on t c3 ht
  have hrm := remove_at w O d m N S L hat hC hfull hfew t ht
  by_cases h0 : readyE S.on t = 0
  · rw [h0] at hy
    by_cases h1 : askE S s = 0
    · obtain ⟨g, f, hg, hgC, hp⟩ := findP_yes hC h1
      rw [h1, hp] at hr
      simp only [ptrV] at hr
      have HE := Lib.hid (show renE S s t = 0 by simp [renE, h0, h1])
      by_cases hst : s = t
      · subst hst
        have HS := vlt (show S.ren s s = S by unfold Dk.ren; rw [HE.out, if_pos rfl, if_pos rfl])
        have HM := Lib.hid hm1
        clear hat hC h0 hm1 hrm h1 hg hgC hp
        go_enter Tryd.func31, Tryd.ntmps31
        go_wp2_with fail
        refine hy.mono ?_
        rintro e w2 ⟨rfl, rfl⟩
        clear hy
        go_wp2_with fail
        refine hr.mono ?_
        rintro e w2 ⟨rfl, rfl⟩
        clear hr
        go_wp2
        go_ret
        exact ⟨by rw [HE.out]; rfl, ⟨O, by rw [HS.out]; exact HM.out, Own.refl⟩, Off.refl _ _⟩
      · have HS := vlt (show S.ren s t = { S with C := del (del S.C s) t ++ [(t, f)] } by unfold Dk.ren; rw [HE.out, if_pos rfl, if_neg hst, hgC])
        have HC := vlt hC
        have HF := Lib.hid hfull
        have HG := vlt hg
        have HGC := vlt hgC
        have hone := hat.one
        have hom := hat.om
        have hgds := hat.gds
        have hst2 := bytes_ne hst
        clear hat hC h0 hm1 h1 hg hgC hp hfull
        go_enter Tryd.func31, Tryd.ntmps31
        go_wp2_with fail
        refine hy.mono ?_
        rintro e w2 ⟨rfl, rfl⟩
        clear hy
        go_wp2_with fail
        refine hr.mono ?_
        rintro e w2 ⟨rfl, rfl⟩
        clear hr
        go_wp2_with fail
        refine hrm.mono ?_
        rintro e w3 ⟨rfl, hat3, hoff3⟩
        clear hrm c0 c1 c2 c3 c4 f1 f3 f4
        obtain ⟨⟨c0, c1, c2, c3, c4⟩, f1, f3, f4⟩ := row5 hat3.row
        obtain ⟨w4, hst4, hm4, hgr4, _⟩ := hat3.map.store (s := t) (by unfold maxLen; omega) (by unfold maxLen; omega) g
        obtain ⟨w5, hdl5, hm5, hgr5, _⟩ := hm4.drop (s := s) (by unfold maxLen; omega) 0
        have c24 : w4.cell? ⟨d, 2, none⟩ = some (.map (some m)) := (World.cell?_of_block (hgr4.block d hat3.ltd (fun e => hat3.map.ne hat3.row (by injection e)))).trans c2
        have hgr : w3.grownBy w5 (some m) := But.trans (g := m) hgr4 hgr5
        have hgt : getL (del L t) s = some (g, f) := by rw [getL_del, if_neg hst, HG.out]
        have hp : (fun u => if u = s then none else if u = t then some g else ptrs (del L t) u) = ptrs (del (del L s) t ++ [(t, g, f)]) := by
          funext u
          unfold ptrs
          rw [getL_app, getL_del, getL_del, getL_del, getL_cons, getL_nil]
          by_cases e1 : u = s
          · subst e1
            have e2 : ¬ t = u := fun e => hst e.symm
            simp [hst, e2]
          · by_cases e2 : u = t
            · subst e2; simp [e1]
            · have e3 : ¬ t = u := fun e => e2 e.symm
              simp [e1, e2, e3]
        rw [hp] at hm5
        have hmem : ∀ x ∈ del (del L s) t, x ∈ L := fun x hx => (List.mem_filter.1 (List.mem_filter.1 hx).1).1
        have hnot : ∀ x ∈ del (del L s) t, x.1 ≠ s := fun x hx => by
          have h := (List.mem_filter.1 (List.mem_filter.1 hx).1).2
          simpa using h
        have hat5 := hat3.remap (L' := del (del L s) t ++ [(t, g, f)]) hgr hm5 (((hone.del s).del t).snoc (by rw [getL_del, if_pos rfl]) _) (fun x hx => by
            rcases List.mem_append.1 hx with hx | hx
            · refine ⟨x, ?_, rfl⟩
              rw [del_comm] at hx
              exact (List.mem_filter.1 hx).1
            · rw [List.mem_singleton] at hx
              subst hx
              exact ⟨_, mem_getL hgt, rfl⟩) (fun x hx y hy e => by
            have key : ∀ x ∈ del (del L s) t, x.2.1 ≠ g := fun x hx e => hnot x hx (hgds x (hmem x hx) (s, g, f) (mem_getL HG.out) e)
            rcases List.mem_append.1 hx with hx | hx <;> rcases List.mem_append.1 hy with hy | hy
            · exact hgds x (hmem x hx) y (hmem y hy) e
            · rw [List.mem_singleton] at hy
              subst hy
              exact absurd e (key x hx)
            · rw [List.mem_singleton] at hx
              subst hx
              exact absurd e.symm (key y hy)
            · rw [List.mem_singleton] at hx hy
              subst hx hy; rfl)
        have hoff5 : Off (fun i => O i ≠ none) w2 w5 := hoff3.trans (G := fun i => i = m) ⟨hgr.os, hgr.tape, hgr.output, hgr.size, fun k hk hn => hgr.block k hk (fun e => hn (by injection e))⟩ fun i h => .inl (by rw [h, hom]; simp)
        have HEND := Lib.hid (show DkIs w5 O d (N + 1) { S with C := del (del S.C s) t ++ [(t, f)] } by
          have e1 : ({ S with C := del (del S.C s) t ++ [(t, f)] } : Dk).size = sumL fsz (del S.C t) := by
            show sumL fsz (del (del S.C s) t ++ [(t, f)]) = sumL fsz (del S.C t)
            rw [del_comm, sumL_app]
            have h7 := sumL_del fsz (((HC.out ▸ hone.onL (·.2) : One S.C)).del t) (s := s) (a := f) (by rw [getL_del, if_neg hst, HGC.out])
            rw [← h7]
            simp [sumL]
          refine ⟨⟨m, del (del L s) t ++ [(t, g, f)], ?_, by rw [onL_app, onL_del, onL_del, HC.out]; rfl⟩, ?_, hfew⟩
          · rw [e1]; exact hat5
          · rw [e1]
            exact Nat.le_trans (sumL_del_le _ _) HF.out)
        clear hat3 hat5 hoff3 hm4 hm5 hgr4 hgr5 hgr hp hone hom hgds hgt hmem hnot
        go_wp2
        go_ret
        exact ⟨by rw [HE.out]; rfl, ⟨O, by rw [HS.out]; exact HEND.out, Own.refl⟩, hoff5⟩
    · have HE := Lib.hid (show renE S s t = askE S s by simp [renE, h0])
      have HS := vlt (show S.ren s t = S by unfold Dk.ren; rw [HE.out, if_neg h1])
      have HM := Lib.hid hm1
      generalize ptrV (findP S.on s (ptrs L s)) = pv at hr
      generalize askE S s = v at *
      clear hat hC hrm h0 hm1
      go_enter Tryd.func31, Tryd.ntmps31
      go_wp2_with fail
      refine hy.mono ?_
      rintro e w2 ⟨rfl, rfl⟩
      clear hy
      go_wp2_with fail
      refine hr.mono ?_
      rintro e w2 ⟨rfl, rfl⟩
      clear hr
      go_wp2
      go_ret
      exact ⟨by rw [HE.out]; rfl, ⟨O, by rw [HS.out]; exact HM.out, Own.refl⟩, Off.refl _ _⟩
  · have HE := Lib.hid (show renE S s t = readyE S.on t by simp [renE, h0])
    have HS := vlt (show S.ren s t = S by unfold Dk.ren; rw [HE.out, if_neg h0])
    have HM := Lib.hid hm1
    generalize readyE S.on t = v at *
    clear hat hC hrm hr hm1
    go_enter Tryd.func31, Tryd.ntmps31
    go_wp2_with fail
    refine hy.mono ?_
    rintro e w2 ⟨rfl, rfl⟩
    clear hy
    go_wp2
    go_ret
    exact ⟨by rw [HE.out]; rfl, ⟨O, by rw [HS.out]; exact HM.out, Own.refl⟩, Off.refl _ _⟩
end Go.Proofs.YtaklbgikoeedbaaDoor
namespace Go.Proofs.YtaklbgikoeedbaaDoor
open Go.RowKit

theorem fallen_le (keep torn : Nat) (f : Fl) : (fallen keep torn f).length ≤ f.all.length := by
  unfold fallen
  rw [List.length_take, List.length_append, zs_flat_len, all_len]
  omega
/-- The files, those that are still to come as they were. -/
def fallL (keep torn : Nat) (todo : ByteArray → Bool) (L : List (ByteArray × Nat × Fl)) : List (ByteArray × Nat × Fl) := L.map fun x => if todo x.1 then x else (x.1, x.2.1, x.2.2.fall keep torn)
def fallZ (keep torn : Nat) (todo : ByteArray → Bool) (L : List (ByteArray × Nat × Fl)) : Nat := (L.map fun x => if !todo x.1 then (fun (a : Nat × Fl) => (fallen keep torn a.2).length) x.2 else 0).sum
section
variable {keep torn : Nat} {todo todo' : ByteArray → Bool} {L : List (ByteArray × Nat × Fl)} {s : ByteArray} {g : Nat} {f : Fl}
theorem fallL_get (s : ByteArray) : getL (fallL keep torn todo L) s = (getL L s).map fun a => if todo s then a else (a.1, a.2.fall keep torn) := by
  induction L with
  | nil => rfl
  | cons x L ih =>
    have e : fallL keep torn todo (x :: L) = (if todo x.1 then x else (x.1, x.2.1, x.2.2.fall keep torn)) :: fallL keep torn todo L := rfl
    rw [e, getL_cons, getL_cons, ih]
    have e2 : (if todo x.1 then x else (x.1, x.2.1, x.2.2.fall keep torn)).1 = x.1 := by split <;> rfl
    rw [e2]
    by_cases h : x.1 = s
    · rw [if_pos h, if_pos h, h]
      cases todo s <;> rfl
    · rw [if_neg h, if_neg h]
theorem fallL_start (h : ∀ x ∈ L, todo x.1 = true) : fallL keep torn todo L = L := by
  unfold fallL
  conv => rhs; rw [← List.map_id L]
  exact List.map_congr_left fun x hx => by simp [h x hx]
theorem fallL_end (h : ∀ s, todo s = false) : onL (·.2) (fallL keep torn todo L) = onL (Fl.fall keep torn) (onL (·.2) L) := by
  simp only [onL, fallL, List.map_map]
  exact List.map_congr_left fun x _ => by simp [h]
theorem fallL_step (h1 : One L) (hg : getL L s = some (g, f)) (h2 : ∀ t, todo' t = (todo t && !decide (t = s))) : upd (fallL keep torn todo L) s (fun _ => (g, f.fall keep torn)) = fallL keep torn todo' L := by
  unfold upd fallL
  rw [List.map_map]
  refine List.map_congr_left fun x hx => ?_
  have e2 : (if todo x.1 then x else (x.1, x.2.1, x.2.2.fall keep torn)).1 = x.1 := by split <;> rfl
  have hx2 := getL_mem h1 hx
  simp only [Function.comp, e2, h2]
  by_cases h : x.1 = s
  · rw [if_pos h]
    rw [h, hg] at hx2
    injection hx2 with hx2
    simp [h, ← hx2]
  · rw [if_neg h]; simp [h]
theorem fallZ_step (h1 : One L) (hg : getL L s = some (g, f)) (hs : todo s = true) (h2 : ∀ t, todo' t = (todo t && !decide (t = s))) : fallZ keep torn todo' L = fallZ keep torn todo L + (fallen keep torn f).length := by
  unfold fallZ
  have h := sumL_some (fun (a : Nat × Fl) => (fallen keep torn a.2).length) h1 (fun t => !todo t) (fun t => !todo' t) hg (by simp [hs]) (fun t => by rw [h2]; simp)
  exact h
theorem fallZ_le : fallZ keep torn todo L ≤ sumL (fun a => fsz a.2) L := by
  induction L with
  | nil => exact Nat.le_refl _
  | cons x L ih =>
    have h5 := fallen_le keep torn x.2.2
    simp only [fallZ, sumL, List.map_cons, List.sum_cons, fsz] at ih ⊢
    split <;> omega
theorem fallZ_start (h : ∀ x ∈ L, todo x.1 = true) : fallZ keep torn todo L = 0 := by
  induction L with
  | nil => rfl
  | cons x L ih =>
    have h5 := ih fun y hy => h y (List.mem_cons_of_mem _ hy)
    simp only [fallZ, List.map_cons, List.sum_cons] at h5 ⊢
    rw [h5, h x List.mem_cons_self]; rfl
theorem fallZ_end (h : ∀ s, todo s = false) : fallZ keep torn todo L = sumL fsz (onL (Fl.fall keep torn) (onL (·.2) L)) := by
  simp only [fallZ, sumL, onL, List.map_map]
  congr 1
  exact List.map_congr_left fun x _ => by simp [h, fsz, fall_all]
end
def Dk.crs (S : Dk) (keep torn : Nat) : Dk := { S with on := false, C := onL (Fl.fall keep torn) S.C }

set_option maxRecDepth 100000 in
set_option maxHeartbeats 1000000 in
theorem dcrash_any (w : World) (O : Nat → Option Nat) (d N : Nat) (S : Dk) (h : DkIs w O d N S) (keep tn : Nat) (torn : Int) (hk : keep < 18446744073709551616) (ht : tn = torn.toNat) (ht2 : torn < 9223372036854775808) (ht3 : -9223372036854775808 ≤ torn) :
    Calls Tryd.prog 16 #[.pointer (some ⟨d, 0, none⟩), .int .u64 (keep : Int), .int .i64 torn] w fun e w' => e = .returned (.tuple #[]) ∧ (∃ O', DkIs w' O' d (N + 1) (S.crs keep tn) ∧ Own O O' w.heap.size) ∧ Off (fun i => O i ≠ none) w w' := by
  obtain ⟨⟨m, L, hat, hC⟩, hfull, hfew⟩ := h
  obtain ⟨⟨c0, c1, c2, c3, c4⟩, f1, f3, f4⟩ := row5 hat.row
  have hat2 := (hat.setOn false).setSize (z' := 0) (v := 0) rfl
  have hoff2 := ((Off.refl (fun i => O i ≠ none) w).set (i := 3) (.inl (show O d ≠ none by rw [hat.od]; simp)) (.bool false)).set (i := 1) (.inl (show O d ≠ none by rw [hat.od]; simp)) (.int .i64 0)
  have HC := vlt hC
  have HF := Lib.hid hfull
  have HW := Lib.hid hfew
  have hone := hat.one
  have hB : fallZ keep tn (fun _ => false) L ≤ 1048576 := by
    have h1 := fallZ_le (keep := keep) (torn := tn) (todo := fun _ => false) (L := L)
    have h2 : sumL (fun a => fsz a.2) L = S.size := by rw [← sumL_onL fsz (·.2) L, hC]; rfl
    omega
  have hBB : ∀ todo, fallZ keep tn todo L ≤ 1048576 := fun todo => by
    have h1 := fallZ_le (keep := keep) (torn := tn) (todo := todo) (L := L)
    have h2 : sumL (fun a => fsz a.2) L = S.size := by rw [← sumL_onL fsz (·.2) L, hC]; rfl
    omega
  have hfl : ∀ s g f, getL L s = some (g, f) → f.all.length ≤ 1048576 := fun s g f hg => by
    have h1 := sumL_get (fun (a : Nat × Fl) => fsz a.2) hg
    have h2 : sumL (fun a => fsz a.2) L = S.size := by rw [← sumL_onL fsz (·.2) L, hC]; rfl
    have h3 : fsz f = f.all.length := rfl
    simp only at h1
    omega
  clear hat hC hfull hfew hB
  go_enter Tryd.func16, Tryd.ntmps16
  go_upto_region 2 with fail
  generalize World.setCell (w.setCell ⟨d, 3, none⟩ (.bool false)) ⟨d, 1, none⟩ (.int .i64 0) = w2 at hat2 hoff2 ⊢
  clear c0 c1 c2 c3 c4 f1 f3 f4
  obtain ⟨⟨c0, c1, c2, c3, c4⟩, f1, f3, f4⟩ := row5 hat2.row
  go_wp2_with (at_range; refine wp_range_map _ rfl _ rfl rfl m N (ptrs L) rfl hat2.map ?_)
  intro w3 cnt3 hrg3 hgr3 hsz3
  have hat3 : DkAt w3 O d m N S.room 0 false S.lives L := hat2.off (G := fun _ => False) ⟨hgr3.out.os, hgr3.out.tape, hgr3.out.output, hgr3.out.size, fun k hk _ => hgr3.out.block k hk (by simp)⟩ fun _ _ h => h
  have hoff3 : Off (fun i => O i ≠ none) w w3 := hoff2.trans (G := fun _ => False) ⟨hgr3.out.os, hgr3.out.tape, hgr3.out.output, hgr3.out.size, fun k hk _ => hgr3.out.block k hk (by simp)⟩ fun _ h => h.elim
  have hall : ∀ x ∈ L, (ptrs L x.1).isSome = true := fun x hx => by unfold ptrs; rw [getL_mem hone hx]; rfl
  obtain ⟨r, hr⟩ : ∃ r, r = w2.heap.size := ⟨_, rfl⟩
  rw [← hr] at hrg3 ⊢
  have hOr : O r = none := by
    cases hO : O r with
    | none => rfl
    | some y => have := hat2.low r (by rw [hO]; simp); omega
  have hrnew : w.heap.size ≤ r := by rw [hr]; exact hoff2.size
  have hod : O d = some d := hat2.od
  clear hr
  go_wp2
  go_loopw [7] (fun _ wr => ∃ todo cnt O', Hid (RangeIs wr m r N (ptrs L) todo cnt) ∧ Hid (DkAt wr O' d m N S.room (fallZ keep tn todo L) false S.lives (fallL keep tn todo L)) ∧ Hid (Off (fun i => O i ≠ none) w wr) ∧ Hid (Own O O' w.heap.size) ∧ Hid (O' r = none) ∧ Hid (∀ s, todo s = true → (ptrs L s).isSome = true)) (fun _ wr => wr.rangeLeft m r)
  case atStart => exact ⟨_, cnt3, O, Lib.hid hrg3, Lib.hid (by rw [fallZ_start hall, fallL_start hall]; exact hat3), Lib.hid hoff3, Lib.hid Own.refl, Lib.hid hOr, Lib.hid fun _ h => h⟩
  case round =>
    obtain ⟨todo, cnt, O', hrg, hat4, hoff4, hown, hor, hT⟩ := hrel
    clear c0 c1 c2 c3 c4 f1 f3 f4
    have hmeas := hrg.out.left_eq
    go_wp2_with (at_next; refine wp_next_map _ rfl _ rfl rfl m r N cnt (ptrs L) todo rfl hrg.out hT.out ?_ ?_)
    · intro hdone
      have HEND := Lib.hid (show DkIs wr O' d (N + 1) (S.crs keep tn) by
        have e1 : (S.crs keep tn).size = fallZ keep tn todo L := by
          rw [fallZ_end hdone.out, HC.out]; rfl
        refine ⟨⟨m, fallL keep tn todo L, ?_, by rw [fallL_end hdone.out, HC.out]; rfl⟩, ?_, HW.out⟩
        · rw [e1]; exact hat4.out.more
        · rw [e1]
          show fallZ keep tn todo L ≤ S.room
          have h1 := fallZ_le (keep := keep) (torn := tn) (todo := todo) (L := L)
          have h2 : sumL (fun a => fsz a.2) L = S.size := by rw [← sumL_onL fsz (·.2) L, HC.out]; rfl
          have := HF.out
          omega)
      clear hat4 hrg hT hdone hmeas hor
      go_wp2
      go_end0
      exact ⟨rfl, ⟨O', HEND.out, hown.out⟩, hoff4.out⟩
    · intro s g w5 cnt5 htodo hptr hrg5 hlt5 hgr5 hen
      have hL : ∃ f, getL L s = some (g, f) := by
        have h := hptr.out
        unfold ptrs at h
        cases hg : getL L s with
        | none => rw [hg] at h; cases h
        | some y =>
          obtain ⟨g', f⟩ := y
          rw [hg] at h
          injection h with h
          exact ⟨f, by rw [show g' = g from h]⟩
      obtain ⟨f, hgL⟩ := hL
      have hgetLt : getL (fallL keep tn todo L) s = some (g, f) := by rw [fallL_get, hgL, htodo.out]; rfl
      have hoffr : Off (fun i => i = r) wr w5 := ⟨hgr5.out.os, hgr5.out.tape, hgr5.out.output, hgr5.out.size, fun k hk hn => hgr5.out.block k hk (fun e => hn (by injection e))⟩
      have hat5 := hat4.out.off hoffr fun i h1 h2 => h1 (by rw [h2]; exact hor.out)
      have hoff5 : Off (fun i => O i ≠ none) w w5 := hoff4.out.trans hoffr fun i h => .inr (by rw [h]; exact hrnew)
      have hgd : g ≠ d := hat5.ned (mem_getL hgetLt)
      have hfl6 := hfl s g f hgL
      have hcr := crash_any w5 (fun i => O' i = some g) g f (hat5.file (s, g, f) (mem_getL hgetLt)) keep tn hk (by omega) (by omega)
      by_cases hneg : torn < 0
      · have h0 : tn = 0 := by omega
        have hcv : ((tn : Nat) : Int) = 0 := by omega
        rw [hcv] at hcr
        go_wp2_with fail
        refine hcr.mono ?_
        rintro e w6 ⟨rfl, hf6, hoff6⟩
        clear hcr hen
        have hat6 := hat5.turn hgetLt hoff6 hf6
        rw [fallL_step hone hgL (todo' := fun t => todo t && !decide (t = s)) fun t => rfl] at hat6
        have hrg6 := hrg5.blocks (hoff6.block m hrg5.map.lt (by rw [hat5.om]; simp; exact fun e => hgd e.symm)) (hoff6.block r hrg5.lt (by rw [hor.out]; simp))
        have hfile6 := hat6.file (s, g, f.fall keep tn) (mem_getL (by rw [fallL_get, hgL]; simp))
        obtain ⟨_, _, A, n, c, A2, n2, c2', hgr, h1, h2, h3, h4⟩ := hfile6
        have hs1 := owns_size h1
        rw [bv_len] at hs1
        have hnn : (fallen keep tn f).length = n := by rw [← fall_all]; exact hs1.1
        have hn6 : n ≤ 1048576 := by have := fallen_le keep tn f; omega
        obtain ⟨d0, d1, e0, e1⟩ := row2 hgr
        obtain ⟨⟨c0, c1, c2, c3, c4⟩, f1, f3, f4⟩ := row5 hat6.row
        obtain ⟨z, hz⟩ : ∃ z, z = fallZ keep tn todo L := ⟨_, rfl⟩
        have hz6 : z ≤ 1048576 := by rw [hz]; exact hBB todo
        rw [← hz] at hat6 c1
        have hor6 : paint O' w5.heap.size w6.heap.size g r = none := by
          unfold paint
          have := hrg5.lt
          rw [if_neg (by omega)]; exact hor.out
        have hown6 : Own O (paint O' w5.heap.size w6.heap.size g) w.heap.size := fun i hi => by
          rcases Own.paint i hi with h | h
          · exact hown.out i h
          · have := hoff5.size; exact .inr (by omega)
        have hoff7 : Off (fun i => O i ≠ none) w w6 := hoff5.trans (hoff6.mono (G := fun i => O' i ≠ none) fun i _ h => by rw [h]; simp) fun i h => hown.out i h
        have HZ := vlt (show fallZ keep tn (fun t => todo t && !decide (t = s)) L = z + n by rw [fallZ_step hone hgL htodo.out (fun t => rfl), hz, hnn])
        have HG6 := vlt hgr
        have HRG := Lib.hid hrg6
        have HAT := Lib.hid hat6
        have HT2 := Lib.hid (show ∀ t, (todo t && !decide (t = s)) = true → (ptrs L t).isSome = true from fun t h => hT.out t (by simp at h; exact h.1))
        have hodd : O' d = some d := hat5.od
        clear hat5 hat6 hrg5 hrg6 hoff6 hf6 hgetLt hgL hz hnn hs1 h1 h2 h3 h4 hgr htodo hptr hat4 hT
        go_upto_region 6 with fail
        go_region
        have hat8 : DkAt (w6.setCell ⟨d, 1, none⟩ (.int .i64 ((z : Int) + (n : Int)))).drew (paint O' w5.heap.size w6.heap.size g) d m N S.room (z + n) false S.lives (fallL keep tn (fun t => todo t && !decide (t = s)) L) :=
          (HAT.out.setSize (z' := z + n) (by omega)).off (G := fun _ => False) ((Off.refl _ _).drew) fun _ _ h => h
        have hrg8 : RangeIs (w6.setCell ⟨d, 1, none⟩ (.int .i64 ((z : Int) + (n : Int)))).drew m r N (ptrs L) (fun t => todo t && !decide (t = s)) cnt5 :=
          HRG.out.blocks (((But.refl d w6).set (i := 1) _).drew.block m HRG.out.map.lt (fun e => by injection e with e; exact HRG.out.map.ne HAT.out.row e.symm)) (((But.refl d w6).set (i := 1) _).drew.block r HRG.out.lt (fun e => by injection e with e; exact HRG.out.ne HAT.out.row e.symm))
        have hoff8 := (hoff7.set (i := 1) (.inl (show O d ≠ none by rw [hod]; simp)) (.int .i64 ((z : Int) + (n : Int)))).drew
        have hmeas8 := hrg8.left_eq
        clear c0 c1 c2 c3 c4 f1 f3 f4 d0 d1 e0 e1
        go_wp2
        go_roundw
        case rel => exact ⟨fun t => todo t && !decide (t = s), cnt5, _, Lib.hid hrg8, Lib.hid (by rw [HZ.out]; exact hat8), Lib.hid hoff8, Lib.hid hown6, Lib.hid hor6, HT2⟩
        case measure => rw [hmeas8, hmeas]; exact hlt5
      · have hcv : ((tn : Nat) : Int) = torn := by omega
        have hpos : 0 ≤ torn := by omega
        rw [hcv] at hcr
        go_wp2_with fail
        refine hcr.mono ?_
        rintro e w6 ⟨rfl, hf6, hoff6⟩
        clear hcr hen
        have hat6 := hat5.turn hgetLt hoff6 hf6
        rw [fallL_step hone hgL (todo' := fun t => todo t && !decide (t = s)) fun t => rfl] at hat6
        have hrg6 := hrg5.blocks (hoff6.block m hrg5.map.lt (by rw [hat5.om]; simp; exact fun e => hgd e.symm)) (hoff6.block r hrg5.lt (by rw [hor.out]; simp))
        have hfile6 := hat6.file (s, g, f.fall keep tn) (mem_getL (by rw [fallL_get, hgL]; simp))
        obtain ⟨_, _, A, n, c, A2, n2, c2', hgr, h1, h2, h3, h4⟩ := hfile6
        have hs1 := owns_size h1
        rw [bv_len] at hs1
        have hnn : (fallen keep tn f).length = n := by rw [← fall_all]; exact hs1.1
        have hn6 : n ≤ 1048576 := by have := fallen_le keep tn f; omega
        obtain ⟨d0, d1, e0, e1⟩ := row2 hgr
        obtain ⟨⟨c0, c1, c2, c3, c4⟩, f1, f3, f4⟩ := row5 hat6.row
        obtain ⟨z, hz⟩ : ∃ z, z = fallZ keep tn todo L := ⟨_, rfl⟩
        have hz6 : z ≤ 1048576 := by rw [hz]; exact hBB todo
        rw [← hz] at hat6 c1
        have hor6 : paint O' w5.heap.size w6.heap.size g r = none := by
          unfold paint
          have := hrg5.lt
          rw [if_neg (by omega)]; exact hor.out
        have hown6 : Own O (paint O' w5.heap.size w6.heap.size g) w.heap.size := fun i hi => by
          rcases Own.paint i hi with h | h
          · exact hown.out i h
          · have := hoff5.size; exact .inr (by omega)
        have hoff7 : Off (fun i => O i ≠ none) w w6 := hoff5.trans (hoff6.mono (G := fun i => O' i ≠ none) fun i _ h => by rw [h]; simp) fun i h => hown.out i h
        have HZ := vlt (show fallZ keep tn (fun t => todo t && !decide (t = s)) L = z + n by rw [fallZ_step hone hgL htodo.out (fun t => rfl), hz, hnn])
        have HG6 := vlt hgr
        have HRG := Lib.hid hrg6
        have HAT := Lib.hid hat6
        have HT2 := Lib.hid (show ∀ t, (todo t && !decide (t = s)) = true → (ptrs L t).isSome = true from fun t h => hT.out t (by simp at h; exact h.1))
        have hodd : O' d = some d := hat5.od
        clear hat5 hat6 hrg5 hrg6 hoff6 hf6 hgetLt hgL hz hnn hs1 h1 h2 h3 h4 hgr htodo hptr hat4 hT
        go_upto_region 6 with fail
        go_region
        have hat8 : DkAt (w6.setCell ⟨d, 1, none⟩ (.int .i64 ((z : Int) + (n : Int)))).drew (paint O' w5.heap.size w6.heap.size g) d m N S.room (z + n) false S.lives (fallL keep tn (fun t => todo t && !decide (t = s)) L) :=
          (HAT.out.setSize (z' := z + n) (by omega)).off (G := fun _ => False) ((Off.refl _ _).drew) fun _ _ h => h
        have hrg8 : RangeIs (w6.setCell ⟨d, 1, none⟩ (.int .i64 ((z : Int) + (n : Int)))).drew m r N (ptrs L) (fun t => todo t && !decide (t = s)) cnt5 :=
          HRG.out.blocks (((But.refl d w6).set (i := 1) _).drew.block m HRG.out.map.lt (fun e => by injection e with e; exact HRG.out.map.ne HAT.out.row e.symm)) (((But.refl d w6).set (i := 1) _).drew.block r HRG.out.lt (fun e => by injection e with e; exact HRG.out.ne HAT.out.row e.symm))
        have hoff8 := (hoff7.set (i := 1) (.inl (show O d ≠ none by rw [hod]; simp)) (.int .i64 ((z : Int) + (n : Int)))).drew
        have hmeas8 := hrg8.left_eq
        clear c0 c1 c2 c3 c4 f1 f3 f4 d0 d1 e0 e1
        go_wp2
        go_roundw
        case rel => exact ⟨fun t => todo t && !decide (t = s), cnt5, _, Lib.hid hrg8, Lib.hid (by rw [HZ.out]; exact hat8), Lib.hid hoff8, Lib.hid hown6, Lib.hid hor6, HT2⟩
        case measure => rw [hmeas8, hmeas]; exact hlt5
end Go.Proofs.YtaklbgikoeedbaaDoor
namespace Go.Proofs.YtaklbgikoeedbaaDoor
open Go.RowKit

set_option maxRecDepth 100000 in
theorem dnew_no (w : World) (room : Int) (h : room < 64 ∨ 1048576 < room) :
    Calls Tryd.prog 10 #[.int .i64 room] w fun e w' => e = .returned (.tuple #[.pointer none, .int .i64 1]) ∧ w' = w := by
  by_cases h1 : room < 64
  · clear h
    go_enter Tryd.func10, Tryd.ntmps10
    go_wp2
    go_ret2
    exact ⟨rfl, rfl⟩
  · have h2 : 1048576 < room := by omega
    clear h
    go_enter Tryd.func10, Tryd.ntmps10
    go_wp2
    go_ret2
    exact ⟨rfl, rfl⟩

set_option maxRecDepth 100000 in
theorem dnew_ok (w : World) (room : Nat) (h1 : 64 ≤ room) (h2 : room ≤ 1048576) :
    Calls Tryd.prog 10 #[.int .i64 (room : Int)] w fun e w' => ∃ d O, e = .returned (.tuple #[.pointer (some ⟨d, 0, none⟩), .int .i64 0]) ∧ DkIs w' O d 0 ⟨room, true, 1, []⟩ ∧ Own (fun _ => none) O w.heap.size ∧ Below w.heap.size w w' := by
  have hmm := @run_makeMap Tryd.prog
  have h1' : ¬ (room : Int) < 64 := by omega
  have h2' : ¬ (1048576 : Int) < (room : Int) := by omega
  go_enter Tryd.func10, Tryd.ntmps10
  go_wp2
  go_ret2
  have hb : Below w.heap.size w ((w.alloc (.map #[] 0)).alloc (.cells #[.int .i64 (room : Int), .int .i64 0, .map (some w.heap.size), .bool true, .int .i64 1] 50)) := ((Below.refl _ _).alloc (Nat.le_refl _) _).alloc (by simp) _
  have hsz : (w.alloc (.map #[] 0)).heap.size = w.heap.size + 1 := by simp
  have hD : DkAt ((w.alloc (.map #[] 0)).alloc (.cells #[.int .i64 (room : Int), .int .i64 0, .map (some w.heap.size), .bool true, .int .i64 1] 50)) (fun i => if w.heap.size ≤ i ∧ i < w.heap.size + 2 then some (w.heap.size + 1) else none) (w.heap.size + 1) w.heap.size 0 room 0 true 1 [] := by
    refine ⟨?_, ?_, fun x hx => (List.not_mem_nil hx).elim, List.Pairwise.nil, fun x hx => (List.not_mem_nil hx).elim, ?_, ?_, fun i hi => ?_⟩
    · rw [← hsz]; exact heap_alloc_new _ _
    · exact (MapIs.made w).block (heap_alloc_old _ _ (by simp))
    · show (if _ then _ else _) = _
      rw [if_pos (by omega)]
    · show (if _ then _ else _) = _
      rw [if_pos (by omega)]
    · have : w.heap.size ≤ i ∧ i < w.heap.size + 2 := by
        by_cases h : w.heap.size ≤ i ∧ i < w.heap.size + 2
        · exact h
        · exact absurd (if_neg h) hi
      simp; omega
  exact ⟨w.heap.size + 1, rfl, _, ⟨⟨w.heap.size, [], hD, rfl⟩, Nat.zero_le _, h2⟩, fun i hi => by
    by_cases h : w.heap.size ≤ i ∧ i < w.heap.size + 2
    · exact .inr h.1
    · exact absurd (if_neg h) hi, hb⟩
end Go.Proofs.YtaklbgikoeedbaaDoor
namespace Go.Proofs.YtaklbgikoeedbaaDoor
open Go.RowKit

theorem Byt.next {w w' : World} {A : Option Addr} {l : List UInt8} (h : Byt w w.heap.size A l) (hb : Below w.heap.size w w') : Byt w' w'.heap.size A l := (h.below hb).up hb.size
theorem row_next {w w' : World} {g : Nat} {cs : Array Value} {t : TypeId} (h : Hid (w.heap[g]? = some (.cells cs t (0, 0)))) (hb : Below w.heap.size w w') : Hid (w'.heap[g]? = some (.cells cs t (0, 0))) :=
  (hb.block _ (Array.getElem?_eq_some_iff.1 h.out).1).trans h.out
end Go.Proofs.YtaklbgikoeedbaaDoor
namespace Go.Proofs.YtaklbgikoeedbaaDoor
open Go.RowKit

/-- An object that stays when its own blocks stay. -/
structure Obj2 (P : World → (Nat → Prop) → Prop) : Prop where
  off : ∀ {W W' : World} {F G : Nat → Prop}, P W G → Off F W W' → (∀ i, G i → ¬ F i) → P W' G
  low : ∀ {W : World} {G : Nat → Prop}, P W G → ∀ i, G i → i < W.heap.size
def NoObj : World → (Nat → Prop) → Prop := fun _ G => ∀ i, ¬ G i
theorem noObj : Obj2 NoObj := ⟨fun h _ _ => h, fun h i hi => absurd hi (h i)⟩
/-- A disk of a call's own, beside P, in blocks that were not there when it began (w0). -/
def Mine (w0 W : World) (d N : Nat) (S : Dk) (P : World → (Nat → Prop) → Prop) (xs : List (Option Addr × List UInt8)) : Prop :=
  ∃ O G, DkIs W O d N S ∧ P W G ∧ (∀ i, G i → O i = none) ∧ (∀ i, O i ≠ none → w0.heap.size ≤ i) ∧ (∀ i, G i → w0.heap.size ≤ i) ∧ Below w0.heap.size w0 W ∧ ∀ p ∈ xs, BytF W (fun i => O i = none ∧ ¬ G i) p.1 p.2
section
variable {w0 W W' : World} {d N : Nat} {S : Dk} {O : Nat → Option Nat} {P : World → (Nat → Prop) → Prop} {xs : List (Option Addr × List UInt8)}
theorem DkIs.low (h : DkIs W O d N S) : ∀ i, O i ≠ none → i < W.heap.size := by
  obtain ⟨⟨m, L, h1, _⟩, _⟩ := h
  exact h1.low
theorem Mine.bel (h : Mine w0 W d N S P xs) : Below w0.heap.size w0 W := by obtain ⟨O, G, _, _, _, _, _, h, _⟩ := h; exact h
theorem Mine.off (hP : Obj2 P) (h : Mine w0 W d N S P xs) (hb : Off (fun _ => False) W W') : Mine w0 W' d N S P xs := by
  obtain ⟨O, G, h1, h2, h3, h4, h5, h6, h7⟩ := h
  exact ⟨O, G, h1.off hb fun _ _ h => h, hP.off h2 hb fun _ _ h => h, h3, h4, h5, hb.below h6 (fun _ h => h.elim) h6.size, fun p hp => (h7 p hp).off hb fun _ _ _ h => h⟩
theorem Mine.next (hP : Obj2 P) (h : Mine w0 W d N S P xs) (hb : Below W.heap.size W W') : Mine w0 W' d N S P xs := h.off hP (Off.of_below hb fun i a b => by omega)
theorem Mine.alloc (hP : Obj2 P) (h : Mine w0 W d N S P xs) (o : Obj) : Mine w0 (W.alloc o) d N S P xs := h.next hP ((Below.refl _ _).alloc (Nat.le_refl _) o)
theorem Mine.drew (hP : Obj2 P) (h : Mine w0 W d N S P xs) : Mine w0 W.drew d N S P xs := h.off hP (Off.refl _ _).drew
theorem Mine.drewN (hP : Obj2 P) (h : Mine w0 W d N S P xs) (k : Nat) : Mine w0 (W.drewN k) d N S P xs := h.off hP (off_drewN _ _ k)
theorem Mine.byt (h : Mine w0 W d N S P xs) {p : Option Addr × List UInt8} (hp : p ∈ xs) : Byt W W.heap.size p.1 p.2 := by
  obtain ⟨O, G, _, _, _, _, _, _, h7⟩ := h
  exact (h7 p hp).byt
/-- Bytes that came in. -/
theorem Mine.arg (h : Mine w0 W d N S P xs) {B : Option Addr} {l : List UInt8} (hb : Byt w0 w0.heap.size B l) : Mine w0 W d N S P ((B, l) :: xs) := by
  obtain ⟨O, G, h1, h2, h3, h4, h5, h6, h7⟩ := h
  refine ⟨O, G, h1, h2, h3, h4, h5, h6, fun p hp => ?_⟩
  rcases List.mem_cons.1 hp with rfl | hp
  · rcases hb.below h6 with h | ⟨g, o, hA, hg, hc⟩
    · exact .inl h
    · refine .inr ⟨g, o, hA, ⟨?_, fun hG => by have := h5 g hG; omega⟩, Nat.lt_of_lt_of_le hg h6.size, hc⟩
      cases hO : O g with
      | none => rfl
      | some y => have := h4 g (by rw [hO]; simp); omega
  · exact h7 p hp
/-- Bytes in a new block. -/
theorem Mine.fresh (hP : Obj2 P) (h : Mine w0 W d N S P xs) (hb : Below W.heap.size W W') {A : Option Addr} {l : List UInt8} (hB : Byt W' W'.heap.size A l) (hg : ∀ a, A = some a → W.heap.size ≤ a.block) : Mine w0 W' d N S P ((A, l) :: xs) := by
  have hlow : ∀ O, DkIs W O d N S → ∀ i, O i ≠ none → i < W.heap.size := fun O h => h.low
  obtain ⟨O, G, h1, h2, h3, h4, h5, h6, h7⟩ := h
  have hof : Off (fun _ => False) W W' := Off.of_below hb fun i a b => by omega
  refine ⟨O, G, h1.off hof fun _ _ h => h, hP.off h2 hof fun _ _ h => h, h3, h4, h5, hof.below h6 (fun _ h => h.elim) h6.size, fun p hp => ?_⟩
  rcases List.mem_cons.1 hp with rfl | hp
  · rcases hB with h | ⟨g, o, hA, hgl, hc⟩
    · exact .inl h
    · have hge := hg _ hA
      refine .inr ⟨g, o, hA, ⟨?_, fun hG => by have := hP.low h2 g hG; simp at hge; omega⟩, hgl, hc⟩
      cases hO : O g with
      | none => rfl
      | some y => have := hlow O h1 g (by rw [hO]; simp); simp at hge; omega
  · exact (h7 p hp).off hof fun _ _ _ h => h
theorem Mine.lit (hP : Obj2 P) (h : Mine w0 W d N S P xs) (E : TypeId) (cs : Array Value) (fr : Nat × Nat) (l : List UInt8) (hcs : cs.toList = bv l) : Mine w0 (W.alloc (.cells cs E fr)) d N S P ((some ⟨W.heap.size, 0, none⟩, l) :: xs) :=
  h.fresh hP ((Below.refl _ _).alloc (Nat.le_refl _) _) (Byt.lit_cold W E cs fr l hcs) fun a ha => by injection ha with ha; subst ha; exact Nat.le_refl _
/-- A call of the disk. -/
theorem Mine.call (hP : Obj2 P) {G : Nat → Prop} (h1 : P W G) (h2 : ∀ i, G i → O i = none) (h3 : ∀ i, O i ≠ none → w0.heap.size ≤ i) (h4 : ∀ i, G i → w0.heap.size ≤ i) (h5 : Below w0.heap.size w0 W) (h6 : ∀ p ∈ xs, BytF W (fun i => O i = none ∧ ¬ G i) p.1 p.2)
    {N' : Nat} {S' : Dk} {w' : World} (h7 : ∃ O', DkIs w' O' d N' S' ∧ Own O O' W.heap.size) (h8 : Off (fun i => O i ≠ none) W w') : Mine w0 w' d N' S' P xs := by
  obtain ⟨O', h9, h10⟩ := h7
  have hO' : ∀ i, i < W.heap.size → O i = none → O' i = none := fun i hi h => by
    cases hq : O' i with
    | none => rfl
    | some y => rcases h10 i (by rw [hq]; simp) with h' | h'; exact absurd h h'; omega
  refine ⟨O', G, h9, hP.off h1 h8 fun i hi h => h (h2 i hi), fun i hi => hO' i (hP.low h1 i hi) (h2 i hi), fun i hi => ?_, h4, h8.below h5 h3 h5.size, fun p hp => ?_⟩
  · rcases h10 i hi with h | h
    · exact h3 i h
    · exact Nat.le_trans h5.size h
  · have hpB := h6 p hp
    have h12 : BytF W (fun i => (O i = none ∧ ¬ G i) ∧ i < W.heap.size) p.1 p.2 := hpB.mono fun i hi h => ⟨h, hi⟩
    exact (h12.off h8 fun i _ h h' => h' h.1.1).mono fun i _ h => ⟨hO' i h.2 h.1.1, h.1.2⟩
theorem Mine.fewer (h : Mine w0 W d N S P xs) {ys : List (Option Addr × List UInt8)} (hy : ∀ p ∈ ys, p ∈ xs) : Mine w0 W d N S P ys := by
  obtain ⟨O, G, h1, h2, h3, h4, h5, h6, h7⟩ := h
  exact ⟨O, G, h1, h2, h3, h4, h5, h6, fun p hp => h7 p (hy p hp)⟩
theorem mine_new (w : World) (room : Nat) (h1 : 64 ≤ room) (h2 : room ≤ 1048576) :
    Calls Tryd.prog 10 #[.int .i64 (room : Int)] w fun e w' => ∃ d, e = .returned (.tuple #[.pointer (some ⟨d, 0, none⟩), .int .i64 0]) ∧ Mine w w' d 0 ⟨room, true, 1, []⟩ NoObj [] := by
  refine (dnew_ok w room h1 h2).mono ?_
  rintro e w' ⟨d, O, rfl, h3, h4, h5⟩
  exact ⟨d, rfl, O, fun _ => False, h3, fun _ h => h, fun _ h => h.elim, fun i hi => by
    rcases h4 i hi with h | h
    · exact absurd rfl h
    · exact h, fun _ h => h.elim, h5, fun p hp => (List.not_mem_nil hp).elim⟩
theorem mine_append (hP : Obj2 P) (h : Mine w0 W d N S P xs) (s : ByteArray) (hs : s.size ≤ 140737488355328) (B : Option Addr) (l : List UInt8) (n cB : Nat) (hm : (B, l) ∈ xs) (hl : l.length = n) (hn : n ≤ 1099511627776) (hN : N ≤ 1099511627776) :
    Calls Tryd.prog 29 #[.pointer (some ⟨d, 0, none⟩), .string s, .slice B n cB] W fun e w' => e = .returned (.int .i64 (appE S s n)) ∧ Mine w0 w' d (N + 1) (S.app s l) P xs := by
  obtain ⟨O, G, h1, h2, h3, h4, h5, h6, h7⟩ := h
  have hbF : BytF W (fun i => O i = none) B l := (h7 _ hm).mono fun i _ h => h.1
  refine (dappend_any W O d N S h1 s hs B l n cB hbF hl hn hN).mono ?_
  rintro e w' ⟨rfl, h8, h9⟩
  exact ⟨rfl, Mine.call hP h2 h3 h4 h5 h6 h7 h8 h9⟩
theorem mine_none (hP : Obj2 P) (h : Mine w0 W d N S P xs) (s : ByteArray) (hs : s.size ≤ 140737488355328) (c : Nat) (hN : N ≤ 1099511627776) :
    Calls Tryd.prog 29 #[.pointer (some ⟨d, 0, none⟩), .string s, .slice none 0 c] W fun e w' => e = .returned (.int .i64 (appE S s 0)) ∧ Mine w0 w' d (N + 1) (S.app s []) P xs := by
  refine (mine_append hP (h.arg (B := none) (l := []) Byt.none_) s hs none [] 0 c List.mem_cons_self rfl (by decide) hN).mono ?_
  rintro e w' ⟨rfl, O, G, h1, h2, h3, h4, h5, h6, h7⟩
  exact ⟨rfl, O, G, h1, h2, h3, h4, h5, h6, fun p hp => h7 p (List.mem_cons_of_mem _ hp)⟩
theorem mine_sync (hP : Obj2 P) (h : Mine w0 W d N S P xs) (s : ByteArray) (hs : s.size ≤ 140737488355328) :
    Calls Tryd.prog 24 #[.pointer (some ⟨d, 0, none⟩), .string s] W fun e w' => e = .returned (.int .i64 (askE S s)) ∧ Mine w0 w' d (N + 1) (S.syn s) P xs := by
  obtain ⟨O, G, h1, h2, h3, h4, h5, h6, h7⟩ := h
  refine (dsync_any W O d N S h1 s hs).mono ?_
  rintro e w' ⟨rfl, h8, h9⟩
  exact ⟨rfl, Mine.call hP h2 h3 h4 h5 h6 h7 h8 h9⟩
theorem mine_drop (hP : Obj2 P) (h : Mine w0 W d N S P xs) (s : ByteArray) (hs : s.size ≤ 140737488355328) :
    Calls Tryd.prog 27 #[.pointer (some ⟨d, 0, none⟩), .string s] W fun e w' => e = .returned (.int .i64 (askE S s)) ∧ Mine w0 w' d (N + 1) (S.drp s) P xs := by
  obtain ⟨O, G, h1, h2, h3, h4, h5, h6, h7⟩ := h
  refine (ddrop_any W O d N S h1 s hs).mono ?_
  rintro e w' ⟨rfl, h8, h9⟩
  exact ⟨rfl, Mine.call hP h2 h3 h4 h5 h6 h7 h8 h9⟩
theorem mine_ren (hP : Obj2 P) (h : Mine w0 W d N S P xs) (s t : ByteArray) (hs : s.size ≤ 140737488355328) (ht : t.size ≤ 140737488355328) (hN : N ≤ 1099511627776) :
    Calls Tryd.prog 31 #[.pointer (some ⟨d, 0, none⟩), .string s, .string t] W fun e w' => e = .returned (.int .i64 (renE S s t)) ∧ Mine w0 w' d (N + 1) (S.ren s t) P xs := by
  obtain ⟨O, G, h1, h2, h3, h4, h5, h6, h7⟩ := h
  refine (drename_any W O d N S h1 s t hs ht hN).mono ?_
  rintro e w' ⟨rfl, h8, h9⟩
  exact ⟨rfl, Mine.call hP h2 h3 h4 h5 h6 h7 h8 h9⟩
theorem mine_crash (hP : Obj2 P) (h : Mine w0 W d N S P xs) (keep tn : Nat) (torn : Int) (hk : keep < 18446744073709551616) (ht : tn = torn.toNat) (ht2 : torn < 9223372036854775808) (ht3 : -9223372036854775808 ≤ torn) :
    Calls Tryd.prog 16 #[.pointer (some ⟨d, 0, none⟩), .int .u64 (keep : Int), .int .i64 torn] W fun e w' => e = .returned (.tuple #[]) ∧ Mine w0 w' d (N + 1) (S.crs keep tn) P xs := by
  obtain ⟨O, G, h1, h2, h3, h4, h5, h6, h7⟩ := h
  refine (dcrash_any W O d N S h1 keep tn torn hk ht ht2 ht3).mono ?_
  rintro e w' ⟨rfl, h8, h9⟩
  exact ⟨rfl, Mine.call hP h2 h3 h4 h5 h6 h7 h8 h9⟩
theorem mine_on (hP : Obj2 P) (h : Mine w0 W d N S P xs) (hl : S.lives ≤ 1099511627776) :
    Calls Tryd.prog 17 #[.pointer (some ⟨d, 0, none⟩)] W fun e w' => e = .returned (.tuple #[]) ∧ Mine w0 w' d (N + 1) S.awake P xs := by
  obtain ⟨O, G, h1, h2, h3, h4, h5, h6, h7⟩ := h
  refine (don_any W O d N S h1 hl).mono ?_
  rintro e w' ⟨rfl, h8, h9⟩
  exact ⟨rfl, Mine.call hP h2 h3 h4 h5 h6 h7 h8 h9⟩
theorem mine_read (hP : Obj2 P) (h : Mine w0 W d N S P xs) (s : ByteArray) (hs : s.size ≤ 140737488355328) :
    Calls Tryd.prog 34 #[.pointer (some ⟨d, 0, none⟩), .string s] W fun e w' => ∃ A n c l, e = .returned (.tuple #[.slice A n c, .int .i64 (askE S s)]) ∧ Vlt (l = readB S s) ∧ Hid (l.length = n) ∧ n ≤ c ∧ Mine w0 w' d N S P ((A, l) :: xs) ∧ Below W.heap.size W w' := by
  have hh := h
  obtain ⟨O, G, h1, h2, h3, h4, h5, h6, h7⟩ := h
  refine (dread_any W O d N S h1 s hs).mono ?_
  rintro e w' ⟨A, n, c, l, rfl, h8, h9, h10, h11⟩
  exact ⟨A, n, c, l, rfl, h8, Lib.hid h9.len, h9.cap, hh.fresh hP h11 h9.byt (fun a ha => by subst ha; exact (World.ownsRow.lt h9 a.block rfl).1), h11⟩
theorem mine_size (h : Mine w0 W d N S P xs) : Calls Tryd.prog 36 #[.pointer (some ⟨d, 0, none⟩)] W fun e w' => e = .returned (.int .i64 S.siz) ∧ w' = W := by
  obtain ⟨O, G, h1, _⟩ := h
  exact dsize_any W O d N S h1
theorem mine_power (h : Mine w0 W d N S P xs) : Calls Tryd.prog 21 #[.pointer (some ⟨d, 0, none⟩)] W fun e w' => e = .returned (.bool S.on) ∧ w' = W := by
  obtain ⟨O, G, h1, _⟩ := h
  exact dpower_any W O d N S h1
theorem mine_lives (h : Mine w0 W d N S P xs) : Calls Tryd.prog 22 #[.pointer (some ⟨d, 0, none⟩)] W fun e w' => e = .returned (.int .i64 (S.lives : Int)) ∧ w' = W := by
  obtain ⟨O, G, h1, _⟩ := h
  exact dlives_any W O d N S h1
end
end Go.Proofs.YtaklbgikoeedbaaDoor
