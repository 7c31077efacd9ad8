/-
  A list of a journal's acts as an argument: how the row's reading tells it. No statement is proved here. Conditions: none.
-/
import Derived.Test.YtaklbgikoeedbaaDoorPkF
namespace Go.Proofs.YtaklbgikoeedbaaDoor
open Go.ChangeShapes Go.WideShapes Go.RowKit

structure AcJ where
  op : Int
  n : Int
  mask : Nat
  b : List UInt8
  l : List (List UInt8)
structure AcR where
  Ab : Option Addr
  nb : Nat
  cb : Nat
  Al : Option Addr
  nl : Nat
  cl : Nat
def AcJ.cells (a : AcJ) (r : AcR) : List Value := [.int .i64 a.op, .int .i64 a.n, .int .u64 (a.mask : Int), .slice r.Ab r.nb r.cb, .slice r.Al r.nl r.cl]
structure AcJ.Ok (a : AcJ) : Prop where
  n : (Lit.int .i64 a.n).wf = true
  mask : a.mask < 18446744073709551616
structure AcAt (w : World) (B : Nat) (a : AcJ) (r : AcR) : Prop where
  bl : a.b.length = r.nb
  bc : r.nb ≤ r.cb
  bb : Byt w B r.Ab a.b
  ll : a.l.length = r.nl
  lc : r.nl ≤ r.cl
  lp : Prt w B r.Al a.l
/-- A list of acts that came in. -/
def ActJP (w : World) (B : Nat) (A : Option Addr) (ks : List AcJ) : Prop :=
  ks = [] ∨ ∃ g o, A = some ⟨g, o, none⟩ ∧ g < B ∧ ∀ j a, ks[j]? = some a → ∃ r, w.rangeAt g (o + j * 5) (a.cells r) ∧ a.Ok ∧ AcAt w B a r
theorem rangeJ_below {w w' : World} {B g o : Nat} {cs : List Value} (h : w.rangeAt g o cs) (hb : Below B w w') (hg : g < B) : w'.rangeAt g o cs := fun j v hj => (hb.cell (p := ⟨g, o + j, none⟩) hg).trans (h j v hj)
theorem AcAt.below {w w' : World} {B : Nat} {a : AcJ} {r : AcR} (h : AcAt w B a r) (hb : Below B w w') : AcAt w' B a r := ⟨h.bl, h.bc, h.bb.below hb, h.ll, h.lc, h.lp.below hb⟩
theorem AcAt.up {w : World} {B B' : Nat} {a : AcJ} {r : AcR} (h : AcAt w B a r) (hB : B ≤ B') : AcAt w B' a r := ⟨h.bl, h.bc, h.bb.up hB, h.ll, h.lc, h.lp.up hB⟩
section
variable {H : Type} {enc : TypeId × Value → H} {w w' : World} {held : Bool} {B : Nat} {A : Option Addr} {ks : List AcJ}
theorem ActJP.at_ (h : ActJP w B A ks) {k : Nat} (hk : k < ks.length) : ∃ g o r a, A = some ⟨g, o, none⟩ ∧ g < B ∧ ks[k]? = some a ∧ w.rangeAt g (o + k * 5) (a.cells r) ∧ a.Ok ∧ AcAt w B a r := by
  rcases h with h | ⟨g, o, hA, hg, hc⟩
  · subst h; simp at hk
  · obtain ⟨r, h1, h2, h3⟩ := hc k _ (List.getElem?_eq_getElem hk)
    exact ⟨g, o, r, _, hA, hg, List.getElem?_eq_getElem hk, h1, h2, h3⟩
theorem ActJP.below (h : ActJP w B A ks) (hb : Below B w w') : ActJP w' B A ks := by
  rcases h with h | ⟨g, o, hA, hg, hc⟩
  · exact .inl h
  · refine .inr ⟨g, o, hA, hg, fun j a hj => ?_⟩
    obtain ⟨r, h1, h2, h3⟩ := hc j a hj
    exact ⟨r, rangeJ_below h1 hb hg, h2, h3.below hb⟩
theorem ActJP.up {B' : Nat} (h : ActJP w B A ks) (hB : B ≤ B') : ActJP w B' A ks := by
  rcases h with h | ⟨g, o, hA, hg, hc⟩
  · exact .inl h
  · refine .inr ⟨g, o, hA, by omega, fun j a hj => ?_⟩
    obtain ⟨r, h1, h2, h3⟩ := hc j a hj
    exact ⟨r, h1, h2, h3.up hB⟩
theorem open_bytesN {y : DataW H × List MemPlace} {n : Nat} {v : Value} (h : DataW.trod enc Tryd.prog w 0 (fun _ => true) held n 31 [v] = some y) : ∃ q Aj nj cj, v = .slice Aj nj cj ∧ q.length = nj ∧ nj ≤ cj ∧ Byt w w.heap.size Aj q := by
  have hc8 : Tryd.prog.cellsOf 5 = 1 := by kernel_rfl
  rcases open_ints Tryd.underlying31 Tryd.underlying5 hc8 h with ⟨hcs, _⟩ | ⟨x2, l2, c2, zs, hcs, _, hl2, hm2, hz, _, hcell2, hwz⟩
  · simp at hcs
    subst hcs
    exact ⟨[], none, 0, 0, rfl, rfl, Nat.le_refl _, Byt.none_⟩
  · simp at hcs
    subst hcs
    obtain ⟨q, hq1, hq2⟩ := bytes_of_row (.inr ⟨x2, rfl, hl2, hm2, by simpa using hz, hcell2, hwz⟩)
    exact ⟨q, some x2, l2, c2, rfl, hq2, hl2, hq1⟩
theorem open_partsN {y : DataW H × List MemPlace} {fuel : Nat} {v : Value} (h : DataW.trod enc Tryd.prog w 0 (fun _ => true) held fuel 32 [v] = some y) : ∃ q Aj nj cj, v = .slice Aj nj cj ∧ q.length = nj ∧ nj ≤ cj ∧ Prt w w.heap.size Aj q := by
  have hcb : Tryd.prog.cellsOf 31 = 1 := by kernel_rfl
  rcases DataW.trod_slice Tryd.underlying32 h with ⟨hcs, _⟩ | ⟨x, l, c, elems, rest, n, _, hcs, _, _, hl, _, hlen, hel, _⟩
  · simp at hcs
    subst hcs
    exact ⟨[], none, 0, 0, rfl, rfl, Nat.le_refl _, .inl rfl⟩
  · simp at hcs
    subst hcs
    have each : ∀ i, i < l → ∃ q : List UInt8, ∃ Aj nj cj, w.cell? (x.add i) = some (.slice Aj nj cj) ∧ q.length = nj ∧ nj ≤ cj ∧ Byt w w.heap.size Aj q := by
      intro i hi
      have hE := hel i hi
      rw [hcb, Nat.mul_one, List.getElem?_eq_getElem (by omega), Option.bind_eq_some_iff] at hE
      obtain ⟨c1, hc1, hy⟩ := hE
      have hone : ∃ v, c1 = [v] ∧ w.cell? (x.add i) = some v := by
        obtain ⟨h1, h2, h3⟩ := World.cells?_some hc1
        match c1, h2 with
        | [v], _ => exact ⟨v, rfl, cell_of_cells?_one hc1⟩
      obtain ⟨v, rfl, hv⟩ := hone
      obtain ⟨q, Aj, nj, cj, rfl, h1, h2, h3⟩ := open_bytesN hy
      exact ⟨q, Aj, nj, cj, hv, h1, h2, h3⟩
    obtain ⟨ps, hpl, hps⟩ := each_list l each
    refine ⟨ps, some x, l, c, rfl, hpl, hl, ?_⟩
    rcases Nat.eq_zero_or_pos l with h0 | h0
    · exact .inl (List.eq_nil_of_length_eq_zero (by omega))
    · obtain ⟨q, Aj, nj, cj, hv, _⟩ := each 0 h0
      obtain ⟨b, off, spot⟩ := x
      have hspot : spot = none := by simpa [Addr.add] using World.cell?_spot hv
      subst hspot
      refine .inr ⟨b, off, rfl, ?_, fun j q hj => ?_⟩
      · exact World.block_lt_of_cell? w _ hv
      · obtain ⟨Aj, nj, cj, h1, h2, h3, h4⟩ := hps j q hj
        rw [addr_add] at h1
        exact ⟨Aj, nj, cj, h1, h2, h3, h4⟩
set_option maxRecDepth 100000 in
theorem open_acts {a : Option Addr} {len cap : Nat} {d : DataW H} {p : List MemPlace} (h : DataW.Trod enc Tryd.prog w 0 (fun _ => true) held 40 (.slice a len cap) d p) : ∃ ks : List AcJ, ActJP w w.heap.size a ks ∧ ks.length = len ∧ len ≤ cap := by
  have hc5 : Tryd.prog.cellsOf 42 = 5 := by kernel_rfl
  have hci : Tryd.prog.cellsOf 3 = 1 := by kernel_rfl
  have hcu : Tryd.prog.cellsOf 37 = 1 := by kernel_rfl
  have hcb : Tryd.prog.cellsOf 31 = 1 := by kernel_rfl
  have hcp : Tryd.prog.cellsOf 32 = 1 := by kernel_rfl
  obtain ⟨fuel, hf⟩ := h
  rcases DataW.trod_slice Tryd.underlying40 hf with ⟨hcs, _⟩ | ⟨x, l, c, elems, rest, n, _, hcs, _, _, hl, _, hlen, hel, _⟩
  · simp [Value.cells] at hcs
    obtain ⟨rfl, rfl, rfl⟩ := hcs
    exact ⟨[], .inl rfl, rfl, Nat.le_refl _⟩
  · simp [Value.cells] at hcs
    obtain ⟨rfl, rfl, rfl⟩ := hcs
    have each : ∀ i, i < len → ∃ q : AcJ, ∃ r : AcR, (∀ j v, (q.cells r)[j]? = some v → w.cell? ((x.add (i * 5)).add j) = some v) ∧ q.Ok ∧ AcAt w w.heap.size q r := by
      intro i hi
      have hE := hel i hi
      rw [hc5, List.getElem?_eq_getElem (by omega), Option.bind_eq_some_iff] at hE
      obtain ⟨c1, hc1, hy⟩ := hE
      obtain ⟨_, hlc, hcell⟩ := World.cells?_some hc1
      obtain ⟨xs, n2, _, _, _, hxl, hfs⟩ := DataW.trod_struct Tryd.underlying42 hy
      match c1, hlc, xs, hxl with
      | [v0, v1, v2, v3, v4], _, [y0, y1, y2, y3, y4], _ =>
        have h0 : DataW.trod enc Tryd.prog w 0 (fun _ => true) held n2 3 [v0] = some y0 := by have h := hfs 0 _ rfl; simpa [hci] using h
        have h1 : DataW.trod enc Tryd.prog w 0 (fun _ => true) held n2 3 [v1] = some y1 := by have h := hfs 1 _ rfl; simpa [hci] using h
        have h2 : DataW.trod enc Tryd.prog w 0 (fun _ => true) held n2 37 [v2] = some y2 := by have h := hfs 2 _ rfl; simpa [hcu] using h
        have h3 : DataW.trod enc Tryd.prog w 0 (fun _ => true) held n2 31 [v3] = some y3 := by have h := hfs 3 _ rfl; simpa [hcb] using h
        have h4 : DataW.trod enc Tryd.prog w 0 (fun _ => true) held n2 32 [v4] = some y4 := by have h := hfs 4 _ rfl; simpa [hcp] using h
        obtain ⟨q0, e0, _, _⟩ := DataW.trod_int Tryd.underlying3 h0
        obtain ⟨q1, e1, _, f1⟩ := DataW.trod_int Tryd.underlying3 h1
        obtain ⟨q2, e2, _, f2⟩ := DataW.trod_int Tryd.underlying37 h2
        obtain ⟨u2, rfl, o2⟩ := u64_of_wf f2
        obtain ⟨qb, Ab, nb, cb, e3, hb1, hb2, hb3⟩ := open_bytesN h3
        obtain ⟨ql, Al, nl, cl, e4, hl1, hl2, hl3⟩ := open_partsN h4
        simp only [List.cons.injEq, and_true] at e0 e1 e2
        subst e0 e1 e2 e3 e4
        refine ⟨⟨q0, q1, u2, qb, ql⟩, ⟨Ab, nb, cb, Al, nl, cl⟩, fun j v hj => ?_, ⟨f1, o2⟩, ⟨hb1, hb2, hb3, hl1, hl2, hl3⟩⟩
        have hj5 : j < 5 := by
          have := (List.getElem?_eq_some_iff.1 hj).1
          simpa [AcJ.cells] using this
        rw [hcell j hj5]
        exact hj
    obtain ⟨ks, hal, has⟩ := each_list len each
    refine ⟨ks, ?_, hal, hl⟩
    rcases Nat.eq_zero_or_pos len with h0 | h0
    · exact .inl (List.eq_nil_of_length_eq_zero (by omega))
    · obtain ⟨q, r, hv, _⟩ := each 0 h0
      have hv0 := hv 0 _ rfl
      obtain ⟨b, off, spot⟩ := x
      have hspot : spot = none := by simpa [Addr.add] using World.cell?_spot hv0
      subst hspot
      refine .inr ⟨b, off, rfl, ?_, fun j a hj => ?_⟩
      · exact World.block_lt_of_cell? w _ hv0
      · obtain ⟨r, h1, h2, h3⟩ := has j a hj
        refine ⟨r, fun k v hk => ?_, h2, h3⟩
        have h := h1 k v hk
        rw [addr_add, addr_add] at h
        exact h
end
end Go.Proofs.YtaklbgikoeedbaaDoor
