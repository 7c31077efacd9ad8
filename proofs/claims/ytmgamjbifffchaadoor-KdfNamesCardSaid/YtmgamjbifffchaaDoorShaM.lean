/-
  The object of a sum in memory, and the two tables: words that the contracts of sha share. No statement is proved here. Conditions: none.
-/
import Derived.Test.YtmgamjbifffchaaDoorShaA
import Derived.Laws.Rows
import Derived.Laws.Tables
import Derived.Deep.MidRow
import Derived.Deep.WholeRow
namespace Go.Proofs.YtmgamjbifffchaaDoor
open Go.RowKit


section
variable {P : Program} {t e n : Nat} (hu : P.underlying t = some (.array n e)) (hs : (P.info? e).map (·.size) = some 1) (g o : Nat)
include hu hs
theorem cut_lh (lo hi : Nat) (L H : Int) (hL : L = (lo : Int)) (hH : H = (hi : Int)) (h1 : lo ≤ hi) (h2 : hi ≤ n) (h3 : lo < n) (w : World) :
    (Instr.sliceAt t (.pointer (some ⟨g, o, none⟩)) (some (.int .i64 L)) (some (.int .i64 H)) none).run P w = .ok (.slice (some ⟨g, o + lo, none⟩) (hi - lo) (n - lo)) w := by
  subst hL hH
  obtain ⟨i, hi', hi2⟩ := Option.map_eq_some_iff.1 hs
  have ht : P.underlying t = some (.array (P.arrayLen t) (P.elem t)) := by simp [Program.arrayLen, Program.elem, hu]
  have hn : P.arrayLen t = n := by simp [Program.arrayLen, hu]
  have he : P.elem t = e := by simp [Program.elem, hu]
  rw [run_sliceAt_array_lh w t _ ht .i64 .i64 _ _ (by omega) (by omega) (by omega), hn, he]
  simp [sizeOf, typeInfo, hi', hi2, slicedAt, addr_add, show ¬ n = lo by omega]
theorem cut_l (lo : Nat) (L : Int) (hL : L = (lo : Int)) (h3 : lo < n) (w : World) :
    (Instr.sliceAt t (.pointer (some ⟨g, o, none⟩)) (some (.int .i64 L)) none none).run P w = .ok (.slice (some ⟨g, o + lo, none⟩) (n - lo) (n - lo)) w := by
  subst hL
  obtain ⟨i, hi', hi2⟩ := Option.map_eq_some_iff.1 hs
  have ht : P.underlying t = some (.array (P.arrayLen t) (P.elem t)) := by simp [Program.arrayLen, Program.elem, hu]
  have hn : P.arrayLen t = n := by simp [Program.arrayLen, hu]
  have he : P.elem t = e := by simp [Program.elem, hu]
  rw [run_sliceAt_array_l w t _ ht .i64 _ (by omega) (by omega), hn, he]
  simp [sizeOf, typeInfo, hi', hi2, slicedAt, addr_add, show ¬ n = lo by omega]
theorem cut_all (h3 : 0 < n) (w : World) :
    (Instr.sliceAt t (.pointer (some ⟨g, o, none⟩)) none none none).run P w = .ok (.slice (some ⟨g, o, none⟩) n n) w := by
  obtain ⟨i, hi', hi2⟩ := Option.map_eq_some_iff.1 hs
  have ht : P.underlying t = some (.array (P.arrayLen t) (P.elem t)) := by simp [Program.arrayLen, Program.elem, hu]
  have hn : P.arrayLen t = n := by simp [Program.arrayLen, hu]
  have he : P.elem t = e := by simp [Program.elem, hu]
  rw [run_sliceAt_array_all w t _ ht, hn, he]
  simp [sizeOf, typeInfo, hi', hi2, slicedAt, addr_add, show ¬ n = 0 by omega]
end
theorem Tryd.sizeByte : (Tryd.prog.info? 5).map (·.size) = some 1 := by kernel_rfl
theorem Tryd.sizeU32 : (Tryd.prog.info? 45).map (·.size) = some 1 := by kernel_rfl
/-- The element of an array's value. -/
theorem at_agg {P : Program} {t e n : Nat} {k : IntKind} (hu : P.underlying t = some (.array n e)) (hs : (P.info? e).map (·.size) = some 1) (he : P.underlying e = some (.int k)) (cs : List Value) (j : Nat) (v : Value) (I : Int) (hI : I = (j : Int)) (hj : j < n) (hv : cs[j]? = some v) (w : World) :
    (Instr.index t (.agg cs.toArray) (.int .i64 I)).run P w = .ok v w := by
  subst hI
  obtain ⟨i, hi', hi2⟩ := Option.map_eq_some_iff.1 hs
  simp [Instr.index, asIntOf, run_underlying hu, sizeOf, typeInfo, hi', hi2, part, isAgg, run_underlying he, hv, hj]
/-- The tables lie in their blocks. -/
def Laid (w : World) : Prop := (∀ k x : Nat, starts[k]? = some x → w.cell? ⟨0, k, none⟩ = some (.int .u64 (x : Int))) ∧ (∀ k x : Nat, table[k]? = some x → w.cell? ⟨1, k, none⟩ = some (.int .u64 (x : Int))) ∧ 2 ≤ w.heap.size
theorem Laid.keep {w w' : World} (h : Laid w) (hs : w.heap.size ≤ w'.heap.size) (hb : ∀ k, k < 2 → w'.heap[k]? = w.heap[k]?) : Laid w' := by
  refine ⟨fun k x hx => ?_, fun k x hx => ?_, Nat.le_trans h.2.2 hs⟩
  · rw [World.cell?_of_block (w := w) (hb 0 (by decide))]; exact h.1 k x hx
  · rw [World.cell?_of_block (w := w) (hb 1 (by decide))]; exact h.2.1 k x hx
theorem Laid.below {w w' : World} {B : Nat} (h : Laid w) (hB : 2 ≤ B) (hb : Below B w w') : Laid w' := h.keep hb.size fun k hk => hb.block k (by omega)
def startAt (k : Nat) : Nat := starts.getD k 0
def roundAt (k : Nat) : Nat := table.getD k 0
theorem getD_lt {l : List Nat} {B : Nat} (h : ∀ x ∈ l, x < B) (h0 : 0 < B) (k : Nat) : l.getD k 0 < B := by
  rw [List.getD_eq_getElem?_getD]
  by_cases hk : k < l.length
  · rw [List.getElem?_eq_getElem hk]; exact h _ (List.getElem_mem hk)
  · rw [List.getElem?_eq_none (by omega)]; exact h0
theorem startAt_lt (k : Nat) : startAt k < 18446744073709551616 := getD_lt (by decide) (by decide) k
theorem roundAt_lt (k : Nat) : roundAt k < 18446744073709551616 := getD_lt table_lt (by decide) k
theorem Laid.start {w : World} (h : Laid w) (k : Nat) (hk : k < 8) : w.cell? ⟨0, k, none⟩ = some (.int .u64 ((startAt k : Nat) : Int)) := by
  have e : starts[k]? = some (startAt k) := by
    have hl : k < starts.length := hk
    simp [startAt, List.getElem?_eq_getElem hl]
  exact h.1 k _ e
theorem Laid.round {w : World} (h : Laid w) (k : Nat) (hk : k < 80) : w.cell? ⟨1, k, none⟩ = some (.int .u64 ((roundAt k : Nat) : Int)) := by
  have e : table[k]? = some (roundAt k) := by
    have hl : k < table.length := by rw [table_len]; exact hk
    simp [roundAt, List.getElem?_eq_getElem hl]
  exact h.2.1 k _ e

/-- The object: the state, the bytes that wait, how many there were. -/
def u32v (l : List Nat) : List Value := l.map fun (x : Nat) => Value.int .u32 (x : Int)
def St.list (s : St) : List Nat := [s.a, s.b, s.c, s.d, s.e, s.f, s.g, s.h]
def St.at_ (s : St) (k : Nat) : Nat := s.list.getD k 0
def sumc (s : St) (rest : List UInt8) (n : Nat) : List Value := u32v s.list ++ (bv rest ++ [.int .i64 (n : Int)])
def SObj (w : World) (g : Nat) (s : St) (rest : List UInt8) (n : Nat) : Prop := w.heap[g]? = some (.cells (sumc s rest n).toArray 48 (0, 0)) ∧ rest.length = 64
/-- It has taken the bytes l. -/
def SumAt (w : World) (g : Nat) (l : List UInt8) : Prop := ∃ rest, SObj w g (blks l (l.length / 64)) rest l.length ∧ rest.take (l.length % 64) = l.drop (64 * (l.length / 64))
section
variable {w w' : World} {g n B : Nat} {s : St} {rest l : List UInt8}
theorem SObj.lt (h : SObj w g s rest n) : g < w.heap.size := (Array.getElem?_eq_some_iff.1 h.1).1
theorem SObj.keep (h : SObj w g s rest n) (hb : w'.heap[g]? = w.heap[g]?) : SObj w' g s rest n := ⟨hb.trans h.1, h.2⟩
theorem SObj.below (h : SObj w g s rest n) (hB : g < B) (hb : Below B w w') : SObj w' g s rest n := h.keep (hb.block g hB)
theorem SObj.cell (h : SObj w g s rest n) (j : Nat) : w.cell? ⟨g, j, none⟩ = (sumc s rest n)[j]? := by rw [cell_of_row w g j _ _ _ h.1]; simp
theorem SObj.frozen (h : SObj w g s rest n) (j : Nat) : w.frozen? ⟨g, j, none⟩ = false := frozen_of_row w g j _ _ h.1
theorem sumc_n (h : rest.length = 64) : (sumc s rest n)[72]? = some (.int .i64 (n : Int)) := by
  simp [sumc, u32v, St.list, bv_len, h]
theorem SObj.cnt (h : SObj w g s rest n) : w.cell? ⟨g, 72, none⟩ = some (.int .i64 (n : Int)) := by rw [h.cell, sumc_n h.2]
theorem sumc_st (k : Nat) (hk : k < 8) : (sumc s rest n)[k]? = some (.int .u32 ((s.at_ k : Nat) : Int)) := by
  have hl : k < s.list.length := hk
  simp [sumc, u32v, St.at_, List.getElem?_append, hl]
theorem SObj.st (h : SObj w g s rest n) (k : Nat) (hk : k < 8) : w.cell? ⟨g, k, none⟩ = some (.int .u32 ((s.at_ k : Nat) : Int)) := by rw [h.cell, sumc_st k hk]
theorem sumc_rest (hr : rest.length = 64) (j : Nat) (hj : j < 64) : (sumc s rest n)[8 + j]? = (bv rest)[j]? := by
  have e : (u32v s.list).length = 8 := rfl
  rw [sumc, List.getElem?_append_right (by omega), e, Nat.add_sub_cancel_left, List.getElem?_append_left (by rw [bv_len]; omega)]
/-- The waiting bytes from k on, m of them. -/
theorem SObj.byt (h : SObj w g s rest n) (k m : Nat) (hB : g < B) (hk : k + m ≤ 64) : Byt w B (some ⟨g, 8 + k, none⟩) ((rest.drop k).take m) := by
  refine .inr ⟨g, 8 + k, rfl, hB, fun j b hj => ?_⟩
  have hj2 : j < m := by
    have := (List.getElem?_eq_some_iff.1 hj).1
    simp at this; omega
  rw [Nat.add_assoc, h.cell, sumc_rest h.2 _ (by omega), bv_at]
  rw [List.getElem?_take_of_lt hj2, List.getElem?_drop] at hj
  rw [hj]; rfl
theorem SumAt.lt (h : SumAt w g l) : g < w.heap.size := by obtain ⟨r, h, _⟩ := h; exact h.lt
theorem SumAt.keep (h : SumAt w g l) (hb : w'.heap[g]? = w.heap[g]?) : SumAt w' g l := by obtain ⟨r, h, h2⟩ := h; exact ⟨r, h.keep hb, h2⟩
theorem SumAt.below (h : SumAt w g l) (hB : g < B) (hb : Below B w w') : SumAt w' g l := h.keep (hb.block g hB)
end
/-- What a new variable holds. -/
def z32 : List UInt8 := List.replicate 32 0
def z64 : List UInt8 := List.replicate 64 0
theorem z32_len : z32.length = 32 := rfl
theorem z64_len : z64.length = 64 := rfl
theorem zero_word (w : World) : (zeroValue 23).run Tryd.prog w = .ok (.agg (bv z32).toArray) w := by kernel_rfl
theorem zero_blk (w : World) : (zeroValue 37).run Tryd.prog w = .ok (.agg (bv z64).toArray) w := by kernel_rfl
theorem zero_w64 (w : World) : (zeroValue 53).run Tryd.prog w = .ok (.agg (u32v (List.replicate 64 0)).toArray) w := by kernel_rfl
def zero73 : List Value := List.replicate 8 (.int .u32 0) ++ (List.replicate 64 (.int .u8 0) ++ [.int .i64 0])
theorem zero_sum (w : World) : (zeroValue 48).run Tryd.prog w = .ok (.agg zero73.toArray) w := by kernel_rfl
/-- Of what was there nothing but block g has turned. -/
def But (g : Nat) (w w' : World) : Prop := w.grownBy w' (some g)
theorem But.refl (g : Nat) (w : World) : But g w w := ⟨rfl, rfl, rfl, Nat.le_refl _, fun _ _ _ => rfl⟩
theorem But.trans {g : Nat} {a b c : World} (h : But g a b) (k : But g b c) : But g a c :=
  ⟨k.os.trans h.os, k.tape.trans h.tape, k.output.trans h.output, Nat.le_trans h.size k.size, fun i hi hn => (k.block i (Nat.lt_of_lt_of_le hi h.size) hn).trans (h.block i hi hn)⟩
theorem But.of_below {g B : Nat} {w w' : World} (h : Below B w w') (hB : w.heap.size ≤ B) : But g w w' := ⟨h.os, h.tape, h.output, h.size, fun i hi _ => h.block i (by omega)⟩
theorem But.below {g B : Nat} {a w w' : World} (h : Below B a w) (k : But g w w') (hB : B ≤ g) (hs : B ≤ w.heap.size) : Below B a w' :=
  h.trans ⟨k.os, k.tape, k.output, k.size, fun i hi => k.block i (by omega) (fun e => by injection e; omega)⟩
theorem But.below_to {g B : Nat} {a b c : World} (h : But g a b) (k : Below B b c) (hB : b.heap.size ≤ B) : But g a c := h.trans (But.of_below k hB)
theorem But.set {g i : Nat} {a w : World} (h : But g a w) (u : Value) : But g a (w.setCell ⟨g, i, none⟩ u) :=
  h.trans ⟨rfl, rfl, rfl, by simp [World.setCell], fun k _ hn => heap_setCell_other w _ k u (fun e => hn (by rw [e]))⟩
theorem But.alloc {g : Nat} {a w : World} (h : But g a w) (o : Obj) : But g a (w.alloc o) := h.trans (World.grownBy_alloc w o _)
theorem But.drew {g : Nat} {a w : World} (h : But g a w) : But g a w.drew := ⟨h.os, h.tape, h.output, h.size, h.block⟩
theorem But.row {g : Nat} {a w : World} (h : But g a w) (cs : Array Value) : But g a (w.setRow g cs) :=
  h.trans ⟨rfl, rfl, rfl, by simp [World.setRow], fun k _ hn => setRow_other w g k cs (fun e => hn (by rw [e]))⟩
theorem Laid.but {w w' : World} {g : Nat} (h : Laid w) (hg : 2 ≤ g) (hb : But g w w') : Laid w' :=
  h.keep hb.size fun k hk => hb.block k (by have := h.2.2; omega) (fun e => by injection e; omega)
theorem Byt.but {w w' : World} {g B : Nat} {A : Option Addr} {l : List UInt8} (h : Byt w B A l) (hb : But g w w') (hB : B ≤ w.heap.size) (hg : B ≤ g) : Byt w' B A l :=
  h.keep fun p hp => World.cell?_of_block (hb.block p.block (by omega) (fun e => by injection e; omega))
end Go.Proofs.YtmgamjbifffchaaDoor
