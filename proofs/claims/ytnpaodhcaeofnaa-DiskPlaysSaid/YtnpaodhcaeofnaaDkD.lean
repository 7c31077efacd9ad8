/-
  A disk in memory: its own blocks, painted by the file that each belongs to; how it turns. No statement is proved here. Conditions: as each says.
-/
import Derived.Test.YtnpaodhcaeofnaaDkN
import Derived.Test.YtnpaodhcaeofnaaDkL
namespace Go.Proofs.Ytnpaodhcaeofnaa
open Go.RowKit

/-- What was new lies in g's colour. -/
def paint (O : Nat → Option Nat) (a b g : Nat) : Nat → Option Nat := fun i => if a ≤ i ∧ i < b then some g else O i
def ptrs (L : List (ByteArray × Nat × Fl)) (s : ByteArray) : Option Nat := (getL L s).map (·.1)
/-- A disk at d: its files L (name, block, content), its number z. -/
structure DkAt (w : World) (O : Nat → Option Nat) (d m N room z : Nat) (on : Bool) (lives : Nat) (L : List (ByteArray × Nat × Fl)) : Prop where
  row : w.heap[d]? = some (.cells #[.int .i64 (room : Int), .int .i64 (z : Int), .map (some m), .bool on, .int .i64 (lives : Int)] 46 (0, 0))
  map : MapIs w m N (ptrs L)
  file : ∀ x ∈ L, FileIs w (fun i => O i = some x.2.1) x.2.1 x.2.2
  one : One L
  gds : ∀ x ∈ L, ∀ y ∈ L, x.2.1 = y.2.1 → x.1 = y.1
  od : O d = some d
  om : O m = some d
  low : ∀ i, O i ≠ none → i < w.heap.size
section
variable {w w' : World} {O : Nat → Option Nat} {d m N room z lives : Nat} {on : Bool} {L : List (ByteArray × Nat × Fl)}
theorem row5 {t : Nat} {a b c e f : Value} (h : w.heap[d]? = some (.cells #[a, b, c, e, f] t (0, 0))) : (w.cell? ⟨d, 0, none⟩ = some a ∧ w.cell? ⟨d, 1, none⟩ = some b ∧ w.cell? ⟨d, 2, none⟩ = some c ∧ w.cell? ⟨d, 3, none⟩ = some e ∧ w.cell? ⟨d, 4, none⟩ = some f) ∧ w.frozen? ⟨d, 1, none⟩ = false ∧ w.frozen? ⟨d, 3, none⟩ = false ∧ w.frozen? ⟨d, 4, none⟩ = false :=
  ⟨⟨by rw [cell_of_row _ _ _ _ _ _ h]; rfl, by rw [cell_of_row _ _ _ _ _ _ h]; rfl, by rw [cell_of_row _ _ _ _ _ _ h]; rfl, by rw [cell_of_row _ _ _ _ _ _ h]; rfl, by rw [cell_of_row _ _ _ _ _ _ h]; rfl⟩, frozen_of_row _ _ _ _ _ h, frozen_of_row _ _ _ _ _ h, frozen_of_row _ _ _ _ _ h⟩
theorem DkAt.ltd (h : DkAt w O d m N room z on lives L) : d < w.heap.size := (Array.getElem?_eq_some_iff.1 h.row).1
/-- A file's block is not the disk's. -/
theorem DkAt.ned (h : DkAt w O d m N room z on lives L) {x : ByteArray × Nat × Fl} (hx : x ∈ L) : x.2.1 ≠ d := by
  obtain ⟨_, _, A, n, c, A2, n2, c2, hg, _⟩ := h.file x hx
  intro e
  rw [e, h.row] at hg
  injection hg with hg
  injection hg with _ hg _
  exact absurd hg (by decide)
/-- All of it stays, whatever turns elsewhere. -/
theorem DkAt.off {G : Nat → Prop} (h : DkAt w O d m N room z on lives L) (hb : Off G w w') (hd : ∀ i, O i ≠ none → ¬ G i) : DkAt w' O d m N room z on lives L where
  row := (hb.block d h.ltd (hd d (by rw [h.od]; simp))).trans h.row
  map := h.map.block (hb.block m h.map.lt (hd m (by rw [h.om]; simp)))
  file := fun x hx => (h.file x hx).off hb fun i _ hi => hd i (by rw [hi]; simp)
  one := h.one
  gds := h.gds
  od := h.od
  om := h.om
  low := fun i hi => Nat.lt_of_lt_of_le (h.low i hi) hb.size
/-- One file has turned, in its own blocks and new ones. -/
theorem DkAt.turn (h : DkAt w O d m N room z on lives L) {s : ByteArray} {g : Nat} {f f' : Fl} (hs : getL L s = some (g, f)) (hb : Off (fun i => O i = some g) w w') (hf : FileIs w' (fun i => O i = some g ∨ w.heap.size ≤ i) g f') :
    DkAt w' (paint O w.heap.size w'.heap.size g) d m N room z on lives (upd L s fun _ => (g, f')) := by
  have hx := mem_getL hs
  have hgd : g ≠ d := h.ned hx
  have hO : ∀ i, i < w.heap.size → paint O w.heap.size w'.heap.size g i = O i := fun i hi => by
    unfold paint; rw [if_neg (by omega)]
  have hp : ptrs (upd L s fun _ => (g, f')) = ptrs L := by
    funext t
    unfold ptrs
    rw [getL_upd]
    by_cases e : t = s
    · subst e; rw [if_pos rfl, hs]; rfl
    · rw [if_neg e]
  refine ⟨(hb.block d h.ltd (by rw [h.od]; simp; exact hgd.symm)).trans h.row, by rw [hp]; exact h.map.block (hb.block m h.map.lt (by rw [h.om]; simp; exact hgd.symm)), fun y hy => ?_, h.one.upd s _, fun x hx' y hy' e => ?_, by rw [hO d h.ltd, h.od], by rw [hO m h.map.lt, h.om], fun i hi => ?_⟩
  · obtain ⟨x, hxL, rfl⟩ := List.mem_map.1 hy
    by_cases e : x.1 = s
    · simp only [e, if_true]
      refine hf.mono fun i hi hi2 => ?_
      rcases hi2 with h2 | h2
      · have := h.low i (by rw [h2]; simp)
        rw [hO i this]; exact h2
      · unfold paint; rw [if_pos ⟨h2, hi⟩]
    · simp only [e, if_false]
      have hne : x.2.1 ≠ g := fun e2 => e (h.gds x hxL (s, g, f) hx e2)
      refine ((h.file x hxL).off hb fun i _ h1 h2 => hne (by rw [h1] at h2; injection h2)).mono fun i _ h1 => ?_
      rw [hO i (h.low i (by rw [h1]; simp))]; exact h1
  · obtain ⟨x0, hx0, rfl⟩ := List.mem_map.1 hx'
    obtain ⟨y0, hy0, rfl⟩ := List.mem_map.1 hy'
    have key : ∀ u ∈ L, (if u.1 = s then (u.1, (g, f')) else u).1 = u.1 ∧ (if u.1 = s then (u.1, (g, f')) else u).2.1 = u.2.1 := fun u hu => by
      by_cases e1 : u.1 = s
      · simp only [e1, if_true]
        have h3 := getL_mem h.one hu
        rw [e1, hs] at h3
        injection h3 with h3
        exact ⟨trivial, by rw [← h3]⟩
      · simp only [e1, if_false]; exact ⟨trivial, trivial⟩
    rw [(key x0 hx0).1, (key y0 hy0).1]
    rw [(key x0 hx0).2, (key y0 hy0).2] at e
    exact h.gds x0 hx0 y0 hy0 e
  · unfold paint at hi
    by_cases h1 : w.heap.size ≤ i ∧ i < w'.heap.size
    · exact h1.2
    · rw [if_neg h1] at hi
      exact Nat.lt_of_lt_of_le (h.low i hi) hb.size
/-- The map has turned: it leads to files that were there. -/
theorem DkAt.remap (h : DkAt w O d m N room z on lives L) {N' : Nat} {L' : List (ByteArray × Nat × Fl)} (hb : w.grownBy w' (some m)) (hm : MapIs w' m N' (ptrs L')) (h1 : One L') (hL : ∀ x ∈ L', ∃ y ∈ L, y.2 = x.2) (hg : ∀ x ∈ L', ∀ y ∈ L', x.2.1 = y.2.1 → x.1 = y.1) : DkAt w' O d m N' room z on lives L' where
  row := (hb.block d h.ltd (fun e => h.map.ne h.row (by injection e))).trans h.row
  map := hm
  file := fun x hx => by
    obtain ⟨y, hy, e⟩ := hL x hx
    have h2 := h.file y hy
    rw [e] at h2
    exact h2.off (G := fun i => i = m) ⟨hb.os, hb.tape, hb.output, hb.size, fun k hk hn => hb.block k hk (fun e => hn (by injection e))⟩ fun i hi h3 e3 => by
      rw [e3, h.om] at h3
      have h4 := h.ned hy
      rw [e] at h4
      injection h3 with h3
      exact h4 h3.symm
  one := h1
  gds := hg
  od := h.od
  om := h.om
  low := fun i hi => Nat.lt_of_lt_of_le (h.low i hi) hb.size
/-- One of the disk's own cells has turned. -/
theorem DkAt.cells (h : DkAt w O d m N room z on lives L) {z' lives' : Nat} {on' : Bool} (hb : But d w w') (hr : w'.heap[d]? = some (.cells #[.int .i64 (room : Int), .int .i64 (z' : Int), .map (some m), .bool on', .int .i64 (lives' : Int)] 46 (0, 0))) : DkAt w' O d m N room z' on' lives' L where
  row := hr
  map := h.map.block (hb.block m h.map.lt (fun e => h.map.ne h.row (by injection e with e; exact e.symm)))
  file := fun x hx => (h.file x hx).off (Off.of_but (F := fun i => i = d) hb rfl) fun i _ h1 h2 => by
    rw [h2, h.od] at h1
    injection h1 with h1
    exact h.ned hx h1.symm
  one := h.one
  gds := h.gds
  od := h.od
  om := h.om
  low := fun i hi => Nat.lt_of_lt_of_le (h.low i hi) hb.size
/-- A new file, of nothing. -/
theorem DkAt.add (h : DkAt w O d m N room z on lives L) {s : ByteArray} (hs : getL L s = none) (hm : MapIs w' m (N + 1) fun t => if t = s then some w.heap.size else ptrs L t) (hb : (w.alloc (.cells #[.slice none 0 0, .slice none 0 0] 50)).grownBy w' (some m)) :
    DkAt w' (paint O w.heap.size w'.heap.size w.heap.size) d m (N + 1) room z on lives (L ++ [(s, w.heap.size, ⟨[], []⟩)]) := by
  have hoff : Off (fun i => i = m) w w' := ((Off.refl _ w).alloc _).trans (G := fun i => i = m) ⟨hb.os, hb.tape, hb.output, hb.size, fun k hk hn => hb.block k hk (fun e => hn (by injection e))⟩ fun i h => .inl h
  have hsz : w.heap.size < w'.heap.size := by have := hb.size; simp at this; omega
  have hml := h.map.lt
  have hO : ∀ i, i < w.heap.size → paint O w.heap.size w'.heap.size w.heap.size i = O i := fun i hi => by
    unfold paint; rw [if_neg (by omega)]
  have hnew : w'.heap[w.heap.size]? = some (.cells #[.slice none 0 0, .slice none 0 0] 50 (0, 0)) := by
    rw [hb.block w.heap.size (by simp) (fun e => by injection e; omega)]
    exact heap_alloc_new w _
  have hp : ptrs (L ++ [(s, w.heap.size, ⟨[], []⟩)]) = fun t => if t = s then some w.heap.size else ptrs L t := by
    funext t
    unfold ptrs
    rw [getL_app, getL_cons, getL_nil]
    by_cases e : t = s
    · subst e; rw [hs]; simp
    · have e2 : ¬ s = t := fun h => e h.symm
      simp [e, e2]
  refine ⟨(hoff.block d h.ltd (h.map.ne h.row)).trans h.row, by rw [hp]; exact hm, fun y hy => ?_, h.one.snoc hs _, fun x hx y hy e => ?_, by rw [hO d h.ltd, h.od], by rw [hO m h.map.lt, h.om], fun i hi => ?_⟩
  · rcases List.mem_append.1 hy with hy | hy
    · refine ((h.file y hy).off hoff fun i _ h1 h2 => ?_).mono fun i _ h1 => ?_
      · rw [h2, h.om] at h1
        injection h1 with h1
        exact h.ned hy h1.symm
      · rw [hO i (h.low i (by rw [h1]; simp))]; exact h1
    · rw [List.mem_singleton] at hy
      subst hy
      refine ⟨by simp, ?_, none, 0, 0, none, 0, 0, hnew, World.ownsRow_nil _ _ _ _, World.ownsRow_nil _ _ _ _, AtF.none_ _, AtF.none_ _⟩
      show paint O w.heap.size w'.heap.size w.heap.size w.heap.size = some w.heap.size
      unfold paint; rw [if_pos ⟨Nat.le_refl _, hsz⟩]
  · rcases List.mem_append.1 hx with hx | hx <;> rcases List.mem_append.1 hy with hy | hy
    · exact h.gds x hx y hy e
    · rw [List.mem_singleton] at hy
      subst hy
      have := (h.file x hx).2.lt
      rw [e] at this; simp at this
    · rw [List.mem_singleton] at hx
      subst hx
      have := (h.file y hy).2.lt
      rw [← e] at this; simp at this
    · rw [List.mem_singleton] at hx hy
      subst hx hy; rfl
  · unfold paint at hi
    by_cases h1 : w.heap.size ≤ i ∧ i < w'.heap.size
    · exact h1.2
    · rw [if_neg h1] at hi
      exact Nat.lt_of_lt_of_le (h.low i hi) hoff.size
end
/-- What is said of a disk: its room, whether the power is on, how often it came on, its files. -/
structure Dk where
  room : Nat
  on : Bool
  lives : Nat
  C : List (ByteArray × Fl)
def fsz (f : Fl) : Nat := f.all.length
def Dk.size (S : Dk) : Nat := sumL fsz S.C
structure DkIs (w : World) (O : Nat → Option Nat) (d N : Nat) (S : Dk) : Prop where
  at_ : ∃ m L, DkAt w O d m N S.room S.size S.on S.lives L ∧ onL (·.2) L = S.C
  full : S.size ≤ S.room
  few : S.room ≤ 1048576
/-- What is the disk's own behind a call: what was, and what is new. -/
def Own (O O' : Nat → Option Nat) (B : Nat) : Prop := ∀ i, O' i ≠ none → O i ≠ none ∨ B ≤ i
theorem Own.paint {O : Nat → Option Nat} {a b g : Nat} : Own O (paint O a b g) a := fun i hi => by
  unfold Go.Proofs.Ytnpaodhcaeofnaa.paint at hi
  by_cases h : a ≤ i ∧ i < b
  · exact .inr h.1
  · rw [if_neg h] at hi; exact .inl hi
theorem Own.refl {O : Nat → Option Nat} {a : Nat} : Own O O a := fun _ hi => .inl hi
end Go.Proofs.Ytnpaodhcaeofnaa
