/-
  An edit as an argument: how the row's reading tells it. No statement is proved here. Conditions: none.
-/
import Derived.Test.YtabgkkdgamacnaaArgI
import Derived.Test.YtabgkkdgamacnaaOpM
namespace Go.Proofs.Ytabgkkdgamacnaa
open Go.ChangeShapes Go.WideShapes Go.RowKit

section
variable {H : Type} {enc : TypeId × Value → H} {P : Program} {w : World} {base : Nat} {sp : Nat → Bool} {held : Bool} {fuel : Nat}
theorem longs_cells {t e : TypeId} {n : Nat} {cs : List Value} {y : DataW H × List MemPlace} (ht : P.underlying t = some (.array n e)) (he : P.underlying e = some (.int .i64)) (hc : P.cellsOf e = 1) (hn : P.cellsOf t = n)
    (hf : DataW.trod enc P w base sp held fuel t cs = some y) : ∃ l : List Int, cs = i64v l ∧ l.length = n := by
  obtain ⟨xs, m, rfl, _, hlen, hxl, hel⟩ := DataW.trod_array ht hf
  rw [hn] at hlen
  have hat : ∀ k, k < n → ∃ b : Int, cs[k]? = some (.int .i64 b) := by
    intro k hk
    have h2 := hel k hk
    rw [hc, Nat.mul_one] at h2
    have h3 : xs[k]? = some (xs[k]'(by omega)) := List.getElem?_eq_getElem (by omega)
    rw [h3] at h2
    obtain ⟨q, e1, _, hw⟩ := DataW.trod_int he h2
    exact ⟨q, one_of_slice e1⟩
  refine ⟨cs.map fun v => match v with | .int _ q => q | _ => 0, ?_, by simpa using hlen⟩
  simp only [i64v, List.map_map]
  apply List.ext_getElem?
  intro k
  rw [List.getElem?_map]
  by_cases hk : k < n
  · obtain ⟨b, hb⟩ := hat k hk
    rw [hb]
    simp
  · rw [List.getElem?_eq_none (by omega)]
    rfl
end
section
variable {H : Type} {enc : TypeId × Value → H} {w : World} {base : Nat} {sp : Nat → Bool} {held : Bool}
theorem edit_cells {fuel : Nat} {cs : List Value} {y : DataW H × List MemPlace} (h : DataW.trod enc Try.prog w base sp held fuel 28 cs = some y) : ∃ e : Ed, cs = e.cells ∧ e.seen.length = 8 := by
  have hci : Try.prog.cellsOf 3 = 1 := by kernel_rfl
  have hcl : Try.prog.cellsOf 2 = 1 := by kernel_rfl
  have hcs1 : Try.prog.cellsOf 9 = 1 := by kernel_rfl
  have hcd : Try.prog.cellsOf 24 = 2 := by kernel_rfl
  have hcv : Try.prog.cellsOf 26 = 8 := by kernel_rfl
  have hce : Try.prog.cellsOf 28 = 15 := by kernel_rfl
  obtain ⟨xs, n2, _, _, hlc, hxl, hfs⟩ := DataW.trod_struct Try.underlying28 h
  rw [hce] at hlc
  match cs, hlc, xs, hxl with
  | [v0, v1, v2, v3, v4, v5, v6, v7, v8, v9, v10, v11, v12, v13, v14], _, [y0, y1, y2, y3, y4, y5, y6], _ =>
    have h0 : DataW.trod enc Try.prog w base sp held n2 24 [v0, v1] = some y0 := by have h := hfs 0 _ rfl; simpa [hcd] using h
    have h1 : DataW.trod enc Try.prog w base sp held n2 26 [v2, v3, v4, v5, v6, v7, v8, v9] = some y1 := by have h := hfs 1 _ rfl; simpa [hcv] using h
    have h2 : DataW.trod enc Try.prog w base sp held n2 3 [v10] = some y2 := by have h := hfs 2 _ rfl; simpa [hci] using h
    have h3 : DataW.trod enc Try.prog w base sp held n2 9 [v11] = some y3 := by have h := hfs 3 _ rfl; simpa [hcs1] using h
    have h4 : DataW.trod enc Try.prog w base sp held n2 9 [v12] = some y4 := by have h := hfs 4 _ rfl; simpa [hcs1] using h
    have h5 : DataW.trod enc Try.prog w base sp held n2 9 [v13] = some y5 := by have h := hfs 5 _ rfl; simpa [hcs1] using h
    have h6 : DataW.trod enc Try.prog w base sp held n2 2 [v14] = some y6 := by have h := hfs 6 _ rfl; simpa [hcl] using h
    obtain ⟨a0, a1, m, _, _, k0, k1⟩ := trod_struct2 Try.underlying24 h0
    simp only [hci, hcl, List.drop_zero, List.take_succ_cons, List.take_zero, List.drop_succ_cons] at k0 k1
    obtain ⟨q0, e0, _, _⟩ := DataW.trod_int Try.underlying3 k0
    obtain ⟨q1, e1, _, _⟩ := DataW.trod_int Try.underlying2 k1
    obtain ⟨l, hl, hl8⟩ := longs_cells Try.underlying26 Try.underlying2 hcl hcv h1
    obtain ⟨q2, e2, _, _⟩ := DataW.trod_int Try.underlying3 h2
    obtain ⟨q3, e3, _, _⟩ := DataW.trod_string Try.underlying9 h3
    obtain ⟨q4, e4, _, _⟩ := DataW.trod_string Try.underlying9 h4
    obtain ⟨q5, e5, _, _⟩ := DataW.trod_string Try.underlying9 h5
    obtain ⟨q6, e6, _, _⟩ := DataW.trod_int Try.underlying2 h6
    simp only [List.cons.injEq, and_true] at e0 e1 e2 e3 e4 e5 e6
    subst e0 e1 e2 e3 e4 e5 e6
    refine ⟨⟨q0, q1, l, q2, q3, q4, q5, q6⟩, ?_, hl8⟩
    rw [Ed.cells, ← hl]; rfl
theorem open_edit {bb : Nat} {r : Reach} {v : Value} {d : DataW H} {p : List MemPlace} (hv : Value.okWide Try.prog w r bb 28 v) (h : DataW.Trod enc Try.prog w base sp held 28 v d p) : ∃ e : Ed, v = .agg e.cells.toArray ∧ e.seen.length = 8 := by
  obtain ⟨cs, rfl, _⟩ := okWide_struct Try.underlying28 hv
  obtain ⟨fuel, hf⟩ := h
  obtain ⟨e, he, hl⟩ := edit_cells hf
  refine ⟨e, ?_, hl⟩
  rw [← he]; rfl
end
end Go.Proofs.Ytabgkkdgamacnaa
