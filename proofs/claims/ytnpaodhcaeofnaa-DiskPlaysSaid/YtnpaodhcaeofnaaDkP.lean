/-
  The contracts of a disk's calls New, Sync, Read, Size, On, Power, Lives. Conditions: names up to 2^47 bytes, fewer than 2^40 calls.
-/
import Derived.Test.YtnpaodhcaeofnaaDkO
namespace Go.Proofs.Ytnpaodhcaeofnaa
open Go.RowKit

def askE (S : Dk) (s : ByteArray) : Int := if readyE S.on s = 0 then (if (getL S.C s).isSome then 0 else 4) else readyE S.on s
def readB (S : Dk) (s : ByteArray) : List UInt8 := if askE S s = 0 then ((getL S.C s).map Fl.all).getD [] else []
def Dk.syn (S : Dk) (s : ByteArray) : Dk := if askE S s = 0 then { S with C := upd S.C s Fl.sync } else S
def Dk.siz (S : Dk) : Int := if S.on then (S.size : Int) else 0
theorem findE_is {S : Dk} {L : List (ByteArray × Nat × Fl)} (hC : onL (·.2) L = S.C) (s : ByteArray) : findE S.on s (ptrs L s) = askE S s := by
  unfold findE askE ptrs
  rw [← hC, getL_onL]
  cases getL L s <;> rfl
theorem askE_yes {S : Dk} {s : ByteArray} (h : askE S s = 0) : readyE S.on s = 0 ∧ ∃ f, getL S.C s = some f := by
  unfold askE at h
  by_cases h0 : readyE S.on s = 0
  · rw [if_pos h0] at h
    cases hg : getL S.C s with
    | none => rw [hg] at h; exact absurd h (by decide)
    | some f => exact ⟨h0, f, rfl⟩
  · rw [if_neg h0] at h; exact absurd h h0
theorem findP_yes {S : Dk} {s : ByteArray} {L : List (ByteArray × Nat × Fl)} (hC : onL (·.2) L = S.C) (h : askE S s = 0) : ∃ g f, getL L s = some (g, f) ∧ getL S.C s = some f ∧ findP S.on s (ptrs L s) = some g := by
  obtain ⟨h0, f, hf⟩ := askE_yes h
  rw [← hC, getL_onL] at hf
  cases hg : getL L s with
  | none => rw [hg] at hf; cases hf
  | some y =>
    obtain ⟨g, f'⟩ := y
    refine ⟨g, f', rfl, by rw [← hC, getL_onL, hg]; rfl, ?_⟩
    unfold findP ptrs
    rw [if_pos h0, hg]; rfl

set_option maxRecDepth 100000 in
theorem dsync_any (w : World) (O : Nat → Option Nat) (d N : Nat) (S : Dk) (h : DkIs w O d N S) (s : ByteArray) (hs : s.size ≤ 140737488355328) :
    Calls Try.prog 8 #[.pointer (some ⟨d, 0, none⟩), .string s] w fun e w' => e = .returned (.int .i64 (askE S s)) ∧ (∃ O', DkIs w' O' d (N + 1) (S.syn s) ∧ Own O O' w.heap.size) ∧ Off (fun i => O i ≠ none) w w' := by
  have hm1 := h.more
  obtain ⟨⟨m, L, hat, hC⟩, hfull, hfew⟩ := h
  obtain ⟨⟨c0, c1, c2, c3, c4⟩, f1, f3, f4⟩ := row5 hat.row
  have hr := find_any w d m N S.on (ptrs L) s c2 c3 hat.map hs
  rw [findE_is hC] at hr
  by_cases h0 : askE S s = 0
  · obtain ⟨g, f, hg, hgC, hp⟩ := findP_yes hC h0
    rw [h0, hp] at hr
    simp only [ptrV] at hr
    have HE := Lib.hid h0
    have HS := vlt (show S.syn s = { S with C := upd S.C s Fl.sync } by unfold Dk.syn; rw [if_pos h0])
    have hfile := hat.file _ (mem_getL hg)
    obtain ⟨hlen, hK, A, n, c, A2, n2, c2', hgr, h1, h2, h3, h4⟩ := hfile
    obtain ⟨d0, d1, e0, e1⟩ := row2 hgr
    have hset := world_set_cell (cs := [.slice A n c, .slice A2 n2 c2']) hgr 1 (.slice none 0 0)
    have hoff1 : Off (fun i => O i = some g) w (w.setCell ⟨g, 1, none⟩ (.slice none 0 0)) := off_set (i := 1) (.slice none 0 0) hK
    have hf1 : FileIs (w.setCell ⟨g, 1, none⟩ (.slice none 0 0)) (fun i => O i = some g ∨ w.heap.size ≤ i) g f.sync := by
      refine ⟨by simp [Fl.sync], .inl hK, A, n, c, none, 0, 0, hset.out, ?_, ?_, h3.mono fun i h => .inl h, AtF.none_ _⟩
      · rw [sync_all]; exact own_set h1 (owns_ne h1 hgr (by decide)) _
      · rw [sync_st]; exact World.ownsRow_nil _ _ _ _
    have hat1 := (hat.turn hg hoff1 hf1).more
    have hend : DkIs (w.setCell ⟨g, 1, none⟩ (.slice none 0 0)) (paint O w.heap.size (w.setCell ⟨g, 1, none⟩ (.slice none 0 0)).heap.size g) d (N + 1) { S with C := upd S.C s Fl.sync } := by
      have e1 : ({ S with C := upd S.C s Fl.sync } : Dk).size = S.size := by
        have h5 := sumL_upd fsz (hC ▸ hat.one.onL (·.2) : One S.C) hgC Fl.sync
        have h6 : fsz f.sync = fsz f := by unfold fsz; rw [sync_all]
        show sumL fsz (upd S.C s Fl.sync) = sumL fsz S.C
        omega
      refine ⟨⟨m, upd L s fun _ => (g, f.sync), ?_, ?_⟩, by rw [e1]; exact hfull, hfew⟩
      · rw [e1]; exact hat1
      · rw [onL_upd_at (·.2) L s _ Fl.sync (fun a ha => by rw [hg] at ha; injection ha with ha; subst ha; rfl) hat.one, hC]
    have HEND := Lib.hid hend
    have hoff2 : Off (fun i => O i ≠ none) w (w.setCell ⟨g, 1, none⟩ (.slice none 0 0)) := hoff1.mono fun i _ h => by rw [h]; simp
    clear hend hat1 hf1 hoff1 hset hgr h1 h2 h3 h4 hg hgC hp hat hC h0 hm1
    go_enter Try.func8, Try.ntmps8
    go_wp2_with fail
    refine hr.mono ?_
    rintro e w2 ⟨rfl, rfl⟩
    clear hr
    go_wp2
    go_ret
    exact ⟨by rw [HE.out]; rfl, ⟨_, by rw [HS.out]; exact HEND.out, Own.paint⟩, hoff2⟩
  · have HS := vlt (show S.syn s = S by unfold Dk.syn; rw [if_neg h0])
    have HM := Lib.hid hm1
    generalize askE S s = v at *
    generalize ptrV (findP S.on s (ptrs L s)) = pv at hr
    clear hat hC
    go_enter Try.func8, Try.ntmps8
    go_wp2_with fail
    refine hr.mono ?_
    rintro e w2 ⟨rfl, rfl⟩
    clear hr
    go_wp2
    go_ret
    exact ⟨rfl, ⟨O, by rw [HS.out]; exact HM.out, Own.refl⟩, Off.refl _ _⟩

set_option maxRecDepth 100000 in
theorem dread_any (w : World) (O : Nat → Option Nat) (d N : Nat) (S : Dk) (h : DkIs w O d N S) (s : ByteArray) (hs : s.size ≤ 140737488355328) :
    Calls Try.prog 18 #[.pointer (some ⟨d, 0, none⟩), .string s] w fun e w' => ∃ A n c l, e = .returned (.tuple #[.slice A n c, .int .i64 (askE S s)]) ∧ Vlt (l = readB S s) ∧ Res w' w.heap.size 5 A n c l ∧ DkIs w' O d N S ∧ Below w.heap.size w w' := by
  have hh := h
  obtain ⟨⟨m, L, hat, hC⟩, hfull, hfew⟩ := h
  obtain ⟨⟨c0, c1, c2, c3, c4⟩, f1, f3, f4⟩ := row5 hat.row
  have hr := find_any w d m N S.on (ptrs L) s c2 c3 hat.map hs
  rw [findE_is hC] at hr
  by_cases h0 : askE S s = 0
  · obtain ⟨g, f, hg, hgC, hp⟩ := findP_yes hC h0
    rw [h0, hp] at hr
    simp only [ptrV] at hr
    have HE := Lib.hid h0
    have HB := vlt (show f.all = readB S s by unfold readB; rw [if_pos h0, hgC]; rfl)
    have hfile := hat.file _ (mem_getL hg)
    obtain ⟨hlen, hK, A, n, c, A2, n2, c2', hgr, h1, h2, h3, h4⟩ := hfile
    obtain ⟨d0, d1, e0, e1⟩ := row2 hgr
    have hs1 := owns_size h1
    rw [bv_len] at hs1
    have hfs : f.all.length ≤ S.size := by
      have h5 := sumL_get fsz hgC
      exact h5
    have hnn : f.all.length = n := hs1.1
    have hn6 : n ≤ 1048576 := by omega
    have hcl := bclone_any w A f.all n c (Byt.of_own h1) hnn (by omega)
    have HH := Lib.hid hh
    clear hgr h1 h2 h3 h4 hg hgC hp hat hC h0 hh hs1 hfs hnn
    go_enter Try.func18, Try.ntmps18
    go_wp2_with fail
    refine hr.mono ?_
    rintro e w2 ⟨rfl, rfl⟩
    clear hr
    go_wp2_with fail
    refine hcl.mono ?_
    rintro e w3 ⟨A', c', rfl, hr3, hb3⟩
    clear hcl
    go_wp2
    go_ret2
    exact ⟨A', n, c', f.all, by rw [HE.out]; rfl, HB, hr3, HH.out.off (Off.of_below (F := fun _ => False) hb3 fun i h1 h2 => by omega) fun _ _ h => h, hb3⟩
  · have HB := vlt (show [] = readB S s by unfold readB; rw [if_neg h0])
    have HH := Lib.hid hh
    generalize askE S s = v at *
    generalize ptrV (findP S.on s (ptrs L s)) = pv at hr
    clear hat hC hh
    go_enter Try.func18, Try.ntmps18
    go_wp2_with fail
    refine hr.mono ?_
    rintro e w2 ⟨rfl, rfl⟩
    clear hr
    go_wp2
    go_ret2
    exact ⟨none, 0, 0, [], rfl, HB, World.ownsRow_nil _ _ _ _, HH.out, Below.refl _ _⟩

set_option maxRecDepth 100000 in
theorem dsize_any (w : World) (O : Nat → Option Nat) (d N : Nat) (S : Dk) (h : DkIs w O d N S) :
    Calls Try.prog 20 #[.pointer (some ⟨d, 0, none⟩)] w fun e w' => e = .returned (.int .i64 S.siz) ∧ w' = w := by
  obtain ⟨⟨m, L, hat, hC⟩, hfull, hfew⟩ := h
  obtain ⟨⟨c0, c1, c2, c3, c4⟩, f1, f3, f4⟩ := row5 hat.row
  unfold Dk.siz
  generalize S.size = z at *
  clear hat hC
  cases hon : S.on with
  | true =>
    rw [hon] at c3
    go_enter Try.func20, Try.ntmps20
    go_wp2
    go_ret
    exact ⟨rfl, rfl⟩
  | false =>
    rw [hon] at c3
    go_enter Try.func20, Try.ntmps20
    go_wp2
    go_ret
    exact ⟨rfl, rfl⟩
set_option maxRecDepth 100000 in
theorem dpower_any (w : World) (O : Nat → Option Nat) (d N : Nat) (S : Dk) (h : DkIs w O d N S) :
    Calls Try.prog 22 #[.pointer (some ⟨d, 0, none⟩)] w fun e w' => e = .returned (.bool S.on) ∧ w' = w := by
  obtain ⟨⟨m, L, hat, hC⟩, hfull, hfew⟩ := h
  obtain ⟨⟨c0, c1, c2, c3, c4⟩, f1, f3, f4⟩ := row5 hat.row
  clear hat hC
  go_enter Try.func22, Try.ntmps22
  go_wp2
  go_ret
  exact ⟨rfl, rfl⟩
set_option maxRecDepth 100000 in
theorem dlives_any (w : World) (O : Nat → Option Nat) (d N : Nat) (S : Dk) (h : DkIs w O d N S) :
    Calls Try.prog 23 #[.pointer (some ⟨d, 0, none⟩)] w fun e w' => e = .returned (.int .i64 (S.lives : Int)) ∧ w' = w := by
  obtain ⟨⟨m, L, hat, hC⟩, hfull, hfew⟩ := h
  obtain ⟨⟨c0, c1, c2, c3, c4⟩, f1, f3, f4⟩ := row5 hat.row
  clear hat hC
  go_enter Try.func23, Try.ntmps23
  go_wp2
  go_ret
  exact ⟨rfl, rfl⟩
def Dk.awake (S : Dk) : Dk := { S with on := true, lives := S.lives + 1 }
set_option maxRecDepth 100000 in
theorem don_any (w : World) (O : Nat → Option Nat) (d N : Nat) (S : Dk) (h : DkIs w O d N S) (hl : S.lives ≤ 1099511627776) :
    Calls Try.prog 16 #[.pointer (some ⟨d, 0, none⟩)] w fun e w' => e = .returned (.tuple #[]) ∧ (∃ O', DkIs w' O' d (N + 1) S.awake ∧ Own O O' w.heap.size) ∧ Off (fun i => O i ≠ none) w w' := by
  obtain ⟨⟨m, L, hat, hC⟩, hfull, hfew⟩ := h
  obtain ⟨⟨c0, c1, c2, c3, c4⟩, f1, f3, f4⟩ := row5 hat.row
  have hat2 := ((hat.setOn true).setLives (z' := S.lives + 1) (v := (S.lives : Int) + 1) (by simp)).more
  have hoff2 := ((Off.refl (fun i => O i ≠ none) w).set (i := 3) (.inl (show O d ≠ none by rw [hat.od]; simp)) (.bool true)).set (i := 4) (.inl (show O d ≠ none by rw [hat.od]; simp)) (.int .i64 ((S.lives : Int) + 1))
  have HEND := Lib.hid (show DkIs _ O d (N + 1) S.awake from ⟨⟨m, L, hat2, hC⟩, hfull, hfew⟩)
  have HS := vlt hC
  clear hat hat2 hC
  generalize hlv : S.lives = lv at *
  go_enter Try.func16, Try.ntmps16
  go_wp2
  go_end0
  exact ⟨rfl, ⟨O, HEND.out, Own.refl⟩, hoff2⟩
end Go.Proofs.Ytnpaodhcaeofnaa
