/-
  A list of lists of bytes as an argument: how the row's reading tells it. No statement is proved here. Conditions: none.
-/
import Derived.Test.YtnpaodhcaeofnaaArg
import Derived.Test.YtnpaodhcaeofnaaPrt
import Derived.ChangeSlices
namespace Go.Proofs.Ytnpaodhcaeofnaa
open Go.ChangeShapes Go.WideShapes Go.RowKit

theorem each_list {α : Type} {Q : Nat → α → Prop} : ∀ n : Nat, (∀ i, i < n → ∃ p, Q i p) → ∃ ps : List α, ps.length = n ∧ ∀ i p, ps[i]? = some p → Q i p
  | 0, _ => ⟨[], rfl, fun i p h => by simp at h⟩
  | n + 1, h => by
    obtain ⟨ps, hl, hq⟩ := each_list n (fun i hi => h i (by omega))
    obtain ⟨p, hp⟩ := h n (by omega)
    refine ⟨ps ++ [p], by simp [hl], fun i q hi => ?_⟩
    by_cases hin : i < n
    · rw [List.getElem?_append_left (by omega)] at hi; exact hq i q hi
    · have hi2 := (List.getElem?_eq_some_iff.1 hi).1
      simp [hl] at hi2
      have : i = n := by omega
      subst this
      rw [List.getElem?_append_right (by omega), hl, Nat.sub_self] at hi
      simp at hi
      subst hi; exact hp
section
variable {H : Type} {enc : TypeId × Value → H} {P : Program} {w : World} {held : Bool}
theorem open_parts {t e u : TypeId} {a : Option Addr} {len cap : Nat} {d : DataW H} {p : List MemPlace} (ht : P.underlying t = some (.slice e)) (he : P.underlying e = some (.slice u)) (hu : P.underlying u = some (.int .u8)) (hce : P.cellsOf e = 1) (hcu : P.cellsOf u = 1)
    (h : DataW.Trod enc P w 0 (fun _ => true) held t (.slice a len cap) d p) : ∃ ps : List (List UInt8), Prt w w.heap.size a ps ∧ ps.length = len ∧ len ≤ cap := by
  obtain ⟨fuel, hf⟩ := h
  rcases DataW.trod_slice ht hf with ⟨hcs, _⟩ | ⟨x, l, c, elems, rest, n, _, hcs, _, _, hl, _, hlen, hel, _⟩
  · simp [Value.cells] at hcs
    obtain ⟨rfl, rfl, rfl⟩ := hcs
    exact ⟨[], .inl rfl, rfl, Nat.le_refl _⟩
  · simp [Value.cells] at hcs
    obtain ⟨rfl, rfl, rfl⟩ := hcs
    have each : ∀ i, i < len → ∃ q : List UInt8, ∃ Aj nj cj, w.cell? (x.add i) = some (.slice Aj nj cj) ∧ q.length = nj ∧ nj ≤ cj ∧ Byt w w.heap.size Aj q := by
      intro i hi
      have hE := hel i hi
      rw [hce, Nat.mul_one, List.getElem?_eq_getElem (by omega), Option.bind_eq_some_iff] at hE
      obtain ⟨c1, hc1, hy⟩ := hE
      have hone : ∃ v, c1 = [v] ∧ w.cell? (x.add i) = some v := by
        obtain ⟨h1, h2, h3⟩ := World.cells?_some hc1
        match c1, h2 with
        | [v], _ => exact ⟨v, rfl, cell_of_cells?_one hc1⟩
      obtain ⟨v, rfl, hv⟩ := hone
      rcases open_ints he hu hcu hy with ⟨hcs, _⟩ | ⟨x2, l2, c2, zs, hcs, _, hl2, hm2, hz, _, hcell, hwz⟩
      · simp at hcs
        subst hcs
        exact ⟨[], none, 0, 0, hv, rfl, Nat.le_refl _, Byt.none_⟩
      · simp at hcs
        subst hcs
        obtain ⟨q, hq1, hq2⟩ := bytes_of_row (.inr ⟨x2, rfl, hl2, hm2, by simpa using hz, hcell, hwz⟩)
        exact ⟨q, some x2, l2, c2, hv, hq2, hl2, hq1⟩
    obtain ⟨ps, hpl, hps⟩ := each_list len each
    refine ⟨ps, ?_, hpl, hl⟩
    rcases Nat.eq_zero_or_pos len with h0 | h0
    · exact .inl (List.eq_nil_of_length_eq_zero (by omega))
    · obtain ⟨q, Aj, nj, cj, hv, _⟩ := each 0 h0
      obtain ⟨b, off, spot⟩ := x
      have hspot : spot = none := by simpa [Addr.add] using World.cell?_spot hv
      subst hspot
      refine .inr ⟨b, off, rfl, ?_, fun j q hj => ?_⟩
      · exact World.block_lt_of_cell? w _ hv
      · obtain ⟨Aj, nj, cj, h1, h2, h3, h4⟩ := hps j q hj
        rw [addr_add] at h1
        exact ⟨Aj, nj, cj, h1, h2, h3, h4⟩
end
end Go.Proofs.Ytnpaodhcaeofnaa
