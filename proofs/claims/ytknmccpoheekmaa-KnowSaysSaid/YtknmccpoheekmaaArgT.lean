/-
  A list of things, a list of numbers as arguments: how the row's reading tells them. No statement is proved here. Conditions: none.
-/
import Derived.Test.YtknmccpoheekmaaKnM
import Derived.Test.YtknmccpoheekmaaArg
import Derived.ChangeSlices
namespace Go.Proofs.Ytknmccpoheekmaa
open Go.ChangeShapes Go.WideShapes Go.RowKit

theorem each_at {α : Type} {Q : Nat → α → Prop} : ∀ n : Nat, (∀ i, i < n → ∃ p, Q i p) → ∃ ps : List α, ps.length = n ∧ ∀ i p, ps[i]? = some p → Q i p
  | 0, _ => ⟨[], rfl, fun i p h => by simp at h⟩
  | n + 1, h => by
    obtain ⟨ps, hl, hq⟩ := each_at n (fun i hi => h i (by omega))
    obtain ⟨p, hp⟩ := h n (by omega)
    refine ⟨ps ++ [p], by simp [hl], fun i q hi => ?_⟩
    by_cases hin : i < n
    · rw [List.getElem?_append_left (by omega)] at hi; exact hq i q hi
    · have hi2 := (List.getElem?_eq_some_iff.1 hi).1
      simp [hl] at hi2
      have : i = n := by omega
      subst this
      rw [List.getElem?_append_right (by omega), hl, Nat.sub_self] at hi
      simp at hi
      subst hi; exact hp
section
variable {H : Type} {enc : TypeId × Value → H} {w : World} {base : Nat} {sp : Nat → Bool} {held : Bool}
set_option maxRecDepth 100000 in
theorem thing_cells {fuel : Nat} {cs : List Value} {y : DataW H × List MemPlace} (h : DataW.trod enc Try.prog w base sp held fuel 24 cs = some y) : ∃ x : Th, cs = x.cells := by
  have hci : Try.prog.cellsOf 3 = 1 := by kernel_rfl
  have hce : Try.prog.cellsOf 24 = 4 := by kernel_rfl
  obtain ⟨xs, n2, _, _, hlc, hxl, hfs⟩ := DataW.trod_struct Try.underlying24 h
  rw [hce] at hlc
  match cs, hlc, xs, hxl with
  | [v0, v1, v2, v3], _, [y0, y1, y2, y3], _ =>
    have h0 : DataW.trod enc Try.prog w base sp held n2 3 [v0] = some y0 := by have h := hfs 0 _ rfl; simpa [hci] using h
    have h1 : DataW.trod enc Try.prog w base sp held n2 3 [v1] = some y1 := by have h := hfs 1 _ rfl; simpa [hci] using h
    have h2 : DataW.trod enc Try.prog w base sp held n2 3 [v2] = some y2 := by have h := hfs 2 _ rfl; simpa [hci] using h
    have h3 : DataW.trod enc Try.prog w base sp held n2 3 [v3] = some y3 := by have h := hfs 3 _ rfl; simpa [hci] using h
    obtain ⟨q0, e0, _, _⟩ := DataW.trod_int Try.underlying3 h0
    obtain ⟨q1, e1, _, _⟩ := DataW.trod_int Try.underlying3 h1
    obtain ⟨q2, e2, _, _⟩ := DataW.trod_int Try.underlying3 h2
    obtain ⟨q3, e3, _, _⟩ := DataW.trod_int Try.underlying3 h3
    simp only [List.cons.injEq, and_true] at e0 e1 e2 e3
    subst e0 e1 e2 e3
    exact ⟨⟨q0, q1, q2, q3⟩, rfl⟩
set_option maxRecDepth 100000 in
theorem open_things {w : World} {t : TypeId} {a : Option Addr} {len cap : Nat} {d : DataW H} {p : List MemPlace} (ht : Try.prog.underlying t = some (.slice 24)) (h : DataW.Trod enc Try.prog w 0 (fun _ => true) held t (.slice a len cap) d p) :
    ∃ l : List Th, ThP w w.heap.size a l ∧ l.length = len ∧ len ≤ cap := by
  have hce : Try.prog.cellsOf 24 = 4 := by kernel_rfl
  obtain ⟨fuel, hf⟩ := h
  rcases DataW.trod_slice ht hf with ⟨hcs, _⟩ | ⟨x, l, c, elems, rest, n, _, hcs, _, _, hl, _, hlen, hel, _⟩
  · simp [Value.cells] at hcs
    obtain ⟨rfl, rfl, rfl⟩ := hcs
    exact ⟨[], .inl rfl, rfl, Nat.le_refl _⟩
  · simp [Value.cells] at hcs
    obtain ⟨rfl, rfl, rfl⟩ := hcs
    have each : ∀ i, i < len → ∃ e : Th, ∀ j v, e.cells[j]? = some v → w.cell? ((x.add (i * 4)).add j) = some v := by
      intro i hi
      have hE := hel i hi
      rw [hce, List.getElem?_eq_getElem (by omega), Option.bind_eq_some_iff] at hE
      obtain ⟨c1, hc1, hy⟩ := hE
      obtain ⟨_, hlc, hcell⟩ := World.cells?_some hc1
      obtain ⟨e, he⟩ := thing_cells hy
      refine ⟨e, fun j v hj => ?_⟩
      have hj4 : j < 4 := (List.getElem?_eq_some_iff.1 hj).1
      rw [hcell j hj4, he]
      exact hj
    obtain ⟨es, hal, has⟩ := each_at len each
    refine ⟨es, ?_, hal, hl⟩
    rcases Nat.eq_zero_or_pos len with h0 | h0
    · exact .inl (List.eq_nil_of_length_eq_zero (by omega))
    · obtain ⟨e, hv⟩ := each 0 h0
      have hv0 := hv 0 (.int .i64 e.kind) rfl
      obtain ⟨b, off, spot⟩ := x
      have hspot : spot = none := by simpa [Addr.add] using World.cell?_spot hv0
      subst hspot
      refine .inr ⟨b, off, rfl, World.block_lt_of_cell? w _ hv0, fun j e hj => ?_⟩
      have h := has j e hj
      simp only [addr_add] at h
      exact ⟨h 0 _ rfl, h 1 _ rfl, h 2 _ rfl, h 3 _ rfl⟩
set_option maxRecDepth 100000 in
theorem open_nums {w : World} {t : TypeId} {a : Option Addr} {len cap : Nat} {d : DataW H} {p : List MemPlace} (ht : Try.prog.underlying t = some (.slice 3)) (h : DataW.Trod enc Try.prog w 0 (fun _ => true) held t (.slice a len cap) d p) :
    ∃ l : List Int, InP w w.heap.size a l ∧ l.length = len ∧ len ≤ cap := by
  have hci : Try.prog.cellsOf 3 = 1 := by kernel_rfl
  obtain ⟨fuel, hf⟩ := h
  rcases DataW.trod_slice ht hf with ⟨hcs, _⟩ | ⟨x, l, c, elems, rest, n, _, hcs, _, _, hl, _, hlen, hel, _⟩
  · simp [Value.cells] at hcs
    obtain ⟨rfl, rfl, rfl⟩ := hcs
    exact ⟨[], .inl rfl, rfl, Nat.le_refl _⟩
  · simp [Value.cells] at hcs
    obtain ⟨rfl, rfl, rfl⟩ := hcs
    have each : ∀ i, i < len → ∃ q : Int, w.cell? (x.add i) = some (.int .i64 q) := by
      intro i hi
      have hE := hel i hi
      rw [hci, Nat.mul_one, List.getElem?_eq_getElem (by omega), Option.bind_eq_some_iff] at hE
      obtain ⟨c1, hc1, hy⟩ := hE
      obtain ⟨_, hlc, hcell⟩ := World.cells?_some hc1
      obtain ⟨q, e1, _, _⟩ := DataW.trod_int Try.underlying3 hy
      refine ⟨q, ?_⟩
      have h0 := hcell 0 (by omega)
      rw [show (x.add i).add 0 = x.add i from rfl, e1] at h0
      exact h0
    obtain ⟨es, hal, has⟩ := each_at len each
    refine ⟨es, ?_, hal, hl⟩
    rcases Nat.eq_zero_or_pos len with h0 | h0
    · exact .inl (List.eq_nil_of_length_eq_zero (by omega))
    · obtain ⟨e, hv⟩ := each 0 h0
      obtain ⟨b, off, spot⟩ := x
      have hspot : spot = none := by simpa [Addr.add] using World.cell?_spot hv
      subst hspot
      refine .inr ⟨b, off, rfl, World.block_lt_of_cell? w _ hv, fun j e hj => ?_⟩
      have h := has j e hj
      rw [addr_add] at h
      exact h
end
end Go.Proofs.Ytknmccpoheekmaa
