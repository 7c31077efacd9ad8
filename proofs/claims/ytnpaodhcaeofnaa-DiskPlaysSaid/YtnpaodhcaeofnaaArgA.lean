/-
  A list of acts as an argument: how the row's reading tells it. No statement is proved here. Conditions: none.
-/
import Derived.Test.YtnpaodhcaeofnaaArgP
namespace Go.Proofs.Ytnpaodhcaeofnaa
open Go.ChangeShapes Go.WideShapes Go.RowKit

structure AcV where
  op : Int
  n : Int
  keep : Nat
  s : ByteArray
  t : ByteArray
  b : List UInt8
def AcV.cells (a : AcV) (Aj : Option Addr) (nj cj : Nat) : List Value := [.int .i64 a.op, .int .i64 a.n, .int .u64 (a.keep : Int), .string a.s, .string a.t, .slice Aj nj cj]
structure AcV.Ok (a : AcV) : Prop where
  n : (Lit.int .i64 a.n).wf = true
  keep : a.keep < 18446744073709551616
  s : a.s.size ≤ maxLen
  t : a.t.size ≤ maxLen
/-- A list of acts that came in. -/
def ActsP (w : World) (B : Nat) (A : Option Addr) (ks : List AcV) : Prop :=
  ks = [] ∨ ∃ g o, A = some ⟨g, o, none⟩ ∧ g < B ∧ ∀ j a, ks[j]? = some a → ∃ Aj nj cj, w.rangeAt g (o + j * 6) (a.cells Aj nj cj) ∧ a.Ok ∧ a.b.length = nj ∧ nj ≤ cj ∧ Byt w B Aj a.b
section
variable {H : Type} {enc : TypeId × Value → H} {w w' : World} {held : Bool} {B : Nat} {A : Option Addr} {ks : List AcV}
theorem ActsP.at_ (h : ActsP w B A ks) {k : Nat} (hk : k < ks.length) : ∃ g o Aj nj cj a, A = some ⟨g, o, none⟩ ∧ g < B ∧ ks[k]? = some a ∧ w.rangeAt g (o + k * 6) (a.cells Aj nj cj) ∧ a.Ok ∧ a.b.length = nj ∧ nj ≤ cj ∧ Byt w B Aj a.b := by
  rcases h with h | ⟨g, o, hA, hg, hc⟩
  · subst h; simp at hk
  · obtain ⟨Aj, nj, cj, h1, h2, h3, h4, h5⟩ := hc k _ (List.getElem?_eq_getElem hk)
    exact ⟨g, o, Aj, nj, cj, _, hA, hg, List.getElem?_eq_getElem hk, h1, h2, h3, h4, h5⟩
theorem range_below {g o : Nat} {cs : List Value} (h : w.rangeAt g o cs) (hb : Below B w w') (hg : g < B) : w'.rangeAt g o cs := fun j v hj => (hb.cell (p := ⟨g, o + j, none⟩) hg).trans (h j v hj)
theorem ActsP.below (h : ActsP w B A ks) (hb : Below B w w') : ActsP w' B A ks := by
  rcases h with h | ⟨g, o, hA, hg, hc⟩
  · exact .inl h
  · refine .inr ⟨g, o, hA, hg, fun j a hj => ?_⟩
    obtain ⟨Aj, nj, cj, h1, h2, h3, h4, h5⟩ := hc j a hj
    exact ⟨Aj, nj, cj, range_below h1 hb hg, h2, h3, h4, h5.below hb⟩
theorem ActsP.up {B' : Nat} (h : ActsP w B A ks) (hB : B ≤ B') : ActsP w B' A ks := by
  rcases h with h | ⟨g, o, hA, hg, hc⟩
  · exact .inl h
  · refine .inr ⟨g, o, hA, by omega, fun j a hj => ?_⟩
    obtain ⟨Aj, nj, cj, h1, h2, h3, h4, h5⟩ := hc j a hj
    exact ⟨Aj, nj, cj, h1, h2, h3, h4, h5.up hB⟩
theorem open_acts {a : Option Addr} {len cap : Nat} {d : DataW H} {p : List MemPlace} (h : DataW.Trod enc Try.prog w 0 (fun _ => true) held 22 (.slice a len cap) d p) : ∃ ks : List AcV, ActsP w w.heap.size a ks ∧ ks.length = len ∧ len ≤ cap := by
  have hc6 : Try.prog.cellsOf 35 = 6 := by kernel_rfl
  have hci : Try.prog.cellsOf 3 = 1 := by kernel_rfl
  have hcu : Try.prog.cellsOf 32 = 1 := by kernel_rfl
  have hcs1 : Try.prog.cellsOf 9 = 1 := by kernel_rfl
  have hcb : Try.prog.cellsOf 33 = 1 := by kernel_rfl
  have hc8 : Try.prog.cellsOf 5 = 1 := by kernel_rfl
  obtain ⟨fuel, hf⟩ := h
  rcases DataW.trod_slice Try.underlying22 hf with ⟨hcs, _⟩ | ⟨x, l, c, elems, rest, n, _, hcs, _, _, hl, _, hlen, hel, _⟩
  · simp [Value.cells] at hcs
    obtain ⟨rfl, rfl, rfl⟩ := hcs
    exact ⟨[], .inl rfl, rfl, Nat.le_refl _⟩
  · simp [Value.cells] at hcs
    obtain ⟨rfl, rfl, rfl⟩ := hcs
    have each : ∀ i, i < len → ∃ q : AcV, ∃ Aj nj cj, (∀ j v, (q.cells Aj nj cj)[j]? = some v → w.cell? ((x.add (i * 6)).add j) = some v) ∧ q.Ok ∧ q.b.length = nj ∧ nj ≤ cj ∧ Byt w w.heap.size Aj q.b := by
      intro i hi
      have hE := hel i hi
      rw [hc6, List.getElem?_eq_getElem (by omega), Option.bind_eq_some_iff] at hE
      obtain ⟨c1, hc1, hy⟩ := hE
      obtain ⟨_, hlc, hcell⟩ := World.cells?_some hc1
      obtain ⟨xs, n2, _, _, _, hxl, hfs⟩ := DataW.trod_struct Try.underlying35 hy
      match c1, hlc, xs, hxl with
      | [v0, v1, v2, v3, v4, v5], _, [y0, y1, y2, y3, y4, y5], _ =>
        have h0 : DataW.trod enc Try.prog w 0 (fun _ => true) held n2 3 [v0] = some y0 := by have h := hfs 0 _ rfl; simpa [hci] using h
        have h1 : DataW.trod enc Try.prog w 0 (fun _ => true) held n2 3 [v1] = some y1 := by have h := hfs 1 _ rfl; simpa [hci] using h
        have h2 : DataW.trod enc Try.prog w 0 (fun _ => true) held n2 32 [v2] = some y2 := by have h := hfs 2 _ rfl; simpa [hcu] using h
        have h3 : DataW.trod enc Try.prog w 0 (fun _ => true) held n2 9 [v3] = some y3 := by have h := hfs 3 _ rfl; simpa [hcs1] using h
        have h4 : DataW.trod enc Try.prog w 0 (fun _ => true) held n2 9 [v4] = some y4 := by have h := hfs 4 _ rfl; simpa [hcs1] using h
        have h5 : DataW.trod enc Try.prog w 0 (fun _ => true) held n2 33 [v5] = some y5 := by have h := hfs 5 _ rfl; simpa [hcb] using h
        obtain ⟨q0, e0, _, _⟩ := DataW.trod_int Try.underlying3 h0
        obtain ⟨q1, e1, _, f1⟩ := DataW.trod_int Try.underlying3 h1
        obtain ⟨q2, e2, _, f2⟩ := DataW.trod_int Try.underlying32 h2
        obtain ⟨q3, e3, _, f3⟩ := DataW.trod_string Try.underlying9 h3
        obtain ⟨q4, e4, _, f4⟩ := DataW.trod_string Try.underlying9 h4
        obtain ⟨u2, rfl, o2⟩ := u64_of_wf f2
        obtain ⟨q, Aj, nj, cj, e5, hq1, hq2, hq3⟩ : ∃ q Aj nj cj, v5 = .slice Aj nj cj ∧ q.length = nj ∧ nj ≤ cj ∧ Byt w w.heap.size Aj q := by
          rcases open_ints Try.underlying33 Try.underlying5 hc8 h5 with ⟨hcs, _⟩ | ⟨x2, l2, c2, zs, hcs, _, hl2, hm2, hz, _, hcell2, hwz⟩
          · simp at hcs
            subst hcs
            exact ⟨[], none, 0, 0, rfl, rfl, Nat.le_refl _, Byt.none_⟩
          · simp at hcs
            subst hcs
            obtain ⟨q, hq1, hq2⟩ := bytes_of_row (.inr ⟨x2, rfl, hl2, hm2, by simpa using hz, hcell2, hwz⟩)
            exact ⟨q, some x2, l2, c2, rfl, hq2, hl2, hq1⟩
        simp only [List.cons.injEq, and_true] at e0 e1 e2 e3 e4
        subst e0 e1 e2 e3 e4 e5
        refine ⟨⟨q0, q1, u2, q3, q4, q⟩, Aj, nj, cj, fun j v hj => ?_, ⟨f1, o2, f3, f4⟩, hq1, hq2, hq3⟩
        have hj6 : j < 6 := by
          have := (List.getElem?_eq_some_iff.1 hj).1
          simpa [AcV.cells] using this
        rw [hcell j hj6]
        exact hj
    obtain ⟨ks, hal, has⟩ := each_list len each
    refine ⟨ks, ?_, hal, hl⟩
    rcases Nat.eq_zero_or_pos len with h0 | h0
    · exact .inl (List.eq_nil_of_length_eq_zero (by omega))
    · obtain ⟨q, Aj, nj, cj, hv, _⟩ := each 0 h0
      have hv0 := hv 0 _ rfl
      obtain ⟨b, off, spot⟩ := x
      have hspot : spot = none := by simpa [Addr.add] using World.cell?_spot hv0
      subst hspot
      refine .inr ⟨b, off, rfl, ?_, fun j a hj => ?_⟩
      · exact World.block_lt_of_cell? w _ hv0
      · obtain ⟨Aj, nj, cj, h1, h2, h3, h4, h5⟩ := has j a hj
        refine ⟨Aj, nj, cj, fun k v hk => ?_, h2, h3, h4, h5⟩
        have h := h1 k v hk
        rw [addr_add, addr_add] at h
        exact h
end
end Go.Proofs.Ytnpaodhcaeofnaa
