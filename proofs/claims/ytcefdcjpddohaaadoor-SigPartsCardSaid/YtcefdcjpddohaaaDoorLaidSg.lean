/-
  What the row's condition on the packages' own numbers gives the walks. No statement is proved here. Conditions: none.
-/
import Derived.Test.YtcefdcjpddohaaaDoorRows
import Derived.Test.YtcefdcjpddohaaaDoorPkL
import Derived.Test.YtcefdcjpddohaaaDoorArg
import Derived.ProofKit
import Derived.LaidMore
import Derived.OpenShut
import Derived.Stop.Joined
namespace Go.Proofs.YtcefdcjpddohaaaDoor
open Go.ChangeShapes Go.WideShapes Go.RowKit

section
variable {H : Type} {enc : TypeId × Value → H} {P : Program} {w : World} {base : Nat} {sp : Nat → Bool} {held : Bool} {fuel : Nat}
/-- The cells of a struct of numbers that reads as a list. -/
theorem u64_parts {t : TypeId} {fs : Array Field} {cs : Array Value} {D : DataW H} {p : List MemPlace} (ht : P.underlying t = some (.struct fs))
    (hall : ∀ i, i < fs.size → ∃ f, fs[i]? = some f ∧ f.offset = i ∧ P.underlying f.type = some (.int .u64) ∧ P.cellsOf f.type = 1)
    (hd : DataW.trod enc P w base sp held fuel t cs.toList = some (D, p)) (zs : List Nat) (hD : D = .agg (zs.map fun (z : Nat) => .lit (.int .u64 (z : Int)))) (k z : Nat) (hz : zs[k]? = some z) : cs[k]? = some (.int .u64 (z : Int)) := by
  obtain ⟨xs, m, rfl, hx, hlen, hn, hel⟩ := DataW.trod_struct ht hd
  simp only [Prod.mk.injEq] at hx
  have h1 : zs.map (fun (z : Nat) => (DataW.lit (H := H) (.int .u64 (z : Int)))) = xs.map (·.1) := by
    have := hD.symm.trans hx.1
    injection this
  have hl : zs.length = xs.length := by have := congrArg List.length h1; simpa using this
  have hk : k < zs.length := (List.getElem?_eq_some_iff.1 hz).1
  obtain ⟨f, hf, ho, he, hc⟩ := hall k (by omega)
  have h2 := hel k f hf
  rw [hc, ho] at h2
  have h3 : xs[k]? = some (xs[k]'(by omega)) := List.getElem?_eq_getElem (by omega)
  rw [h3] at h2
  obtain ⟨q, e1, e2, _⟩ := DataW.trod_int he h2
  have h4 := congrArg (·[k]?) h1
  simp only [List.getElem?_map, hz, h3, e2, Option.map_some, Option.some.injEq, DataW.lit.injEq, Lit.int.injEq, true_and] at h4
  rw [← h4] at e1
  have h5 := one_of_slice e1
  simpa using h5
theorem u8_cells {t e : TypeId} {n : Nat} {cs : Array Value} {D : DataW H} {p : List MemPlace} (ht : P.underlying t = some (.array n e)) (he : P.underlying e = some (.int .u8)) (hc : P.cellsOf e = 1)
    (hd : DataW.trod enc P w base sp held fuel t cs.toList = some (D, p)) (zs : List Nat) (hD : D = .agg (zs.map fun (z : Nat) => .lit (.int .u8 (z : Int)))) (k z : Nat) (hz : zs[k]? = some z) : cs[k]? = some (.int .u8 (z : Int)) := by
  obtain ⟨xs, m, rfl, hx, hlen, hn, hel⟩ := DataW.trod_array ht hd
  simp only [Prod.mk.injEq] at hx
  have h1 : zs.map (fun (z : Nat) => (DataW.lit (H := H) (.int .u8 (z : Int)))) = xs.map (·.1) := by
    have := hD.symm.trans hx.1
    injection this
  have hl : zs.length = xs.length := by have := congrArg List.length h1; simpa using this
  have hk : k < zs.length := (List.getElem?_eq_some_iff.1 hz).1
  have h2 := hel k (by omega)
  rw [hc, Nat.mul_one] at h2
  have h3 : xs[k]? = some (xs[k]'(by omega)) := List.getElem?_eq_getElem (by omega)
  rw [h3] at h2
  obtain ⟨q, e1, e2, _⟩ := DataW.trod_int he h2
  have h4 := congrArg (·[k]?) h1
  simp only [List.getElem?_map, hz, h3, e2, Option.map_some, Option.some.injEq, DataW.lit.injEq, Lit.int.injEq, true_and] at h4
  rw [← h4] at e1
  have h5 := one_of_slice e1
  simpa using h5
end
/-- What the row lists. -/
def laid2 : List (String × DataW Unit) := Rows.sigPartsRow.laid
theorem tTurn : (Tryd.prog.globals[4]?).map (·.type) = some 96 := by kernel_rfl
theorem dTurn {H : Type} : (Rows.laid_bandbox_field_turn : DataW H) = .agg (turnL.map fun (z : Nat) => .lit (.int .u64 (z : Int))) := by rfl
theorem tBend : (Tryd.prog.globals[1]?).map (·.type) = some 23 := by kernel_rfl
theorem dBend {H : Type} : (Rows.laid_bandbox_point_bend : DataW H) = .agg ((bendL.map UInt8.toNat).map fun (z : Nat) => .lit (.int .u8 (z : Int))) := by rfl
theorem tOrder : (Tryd.prog.globals[2]?).map (·.type) = some 54 := by kernel_rfl
theorem dOrder {H : Type} : (Rows.laid_bandbox_scalar_order : DataW H) = .agg (oL.map fun (z : Nat) => .lit (.int .u64 (z : Int))) := by rfl
theorem tStarts : (Tryd.prog.globals[0]?).map (·.type) = some 55 := by kernel_rfl
theorem dStarts {H : Type} : (Rows.laid_bandbox_sha_starts : DataW H) = .agg (startsL.map fun (z : Nat) => .lit (.int .u64 (z : Int))) := by rfl
theorem tRounds : (Tryd.prog.globals[3]?).map (·.type) = some 101 := by kernel_rfl
theorem dRounds {H : Type} : (Rows.laid_bandbox_sha_rounds : DataW H) = .agg (tableL.map fun (z : Nat) => .lit (.int .u64 (z : Int))) := by rfl
theorem laid_of {W : World} (h : laidMetH Tryd.prog laid2 W) : LaidG W := by
  rw [MakeChecks.laidMetH_plain _ _ _ (by kernel_rfl)] at h
  obtain ⟨ps, ⟨g0, t0, cs0, f0, p0, q0, hg0, ht0, hv0, hd0, ⟨g1, t1, cs1, f1, p1, q1, hg1, ht1, hv1, hd1, ⟨g2, t2, cs2, f2, p2, q2, hg2, ht2, hv2, hd2, ⟨g3, t3, cs3, f3, p3, q3, hg3, ht3, hv3, hd3, ⟨g4, t4, cs4, f4, p4, q4, hg4, ht4, hv4, hd4, _, _⟩, _⟩, _⟩, _⟩, _⟩, _, _⟩ := h
  obtain rfl := Option.some.inj ((show Tryd.prog.globalNamed _ = some 4 by kernel_rfl).symm.trans hg0)
  obtain rfl := Option.some.inj (tTurn.symm.trans ht0)
  obtain rfl := Option.some.inj ((show Tryd.prog.globalNamed _ = some 1 by kernel_rfl).symm.trans hg1)
  obtain rfl := Option.some.inj (tBend.symm.trans ht1)
  obtain rfl := Option.some.inj ((show Tryd.prog.globalNamed _ = some 2 by kernel_rfl).symm.trans hg2)
  obtain rfl := Option.some.inj (tOrder.symm.trans ht2)
  obtain rfl := Option.some.inj ((show Tryd.prog.globalNamed _ = some 0 by kernel_rfl).symm.trans hg3)
  obtain rfl := Option.some.inj (tStarts.symm.trans ht3)
  obtain rfl := Option.some.inj ((show Tryd.prog.globalNamed _ = some 3 by kernel_rfl).symm.trans hg4)
  obtain rfl := Option.some.inj (tRounds.symm.trans ht4)
  have a0 : ∀ k x : Nat, turnL[k]? = some x → W.cell? ⟨4, k, none⟩ = some (.int .u64 (x : Int)) := fun k x hx =>
    (World.var?_cell hg0 hv0 k).trans (u64_parts Tryd.underlying96
      (fun i hi => by
        match i, hi with
        | 0, _ => exact ⟨_, rfl, rfl, Tryd.underlying52, by kernel_rfl⟩
        | 1, _ => exact ⟨_, rfl, rfl, Tryd.underlying52, by kernel_rfl⟩
        | 2, _ => exact ⟨_, rfl, rfl, Tryd.underlying52, by kernel_rfl⟩
        | 3, _ => exact ⟨_, rfl, rfl, Tryd.underlying52, by kernel_rfl⟩) hd0 turnL dTurn k x hx)
  have a1 : ∀ (k : Nat) (x : UInt8), bendL[k]? = some x → W.cell? ⟨1, k, none⟩ = some (.int .u8 (x.toNat : Int)) := fun k x hx =>
    (World.var?_cell hg1 hv1 k).trans (u8_cells Tryd.underlying23 Tryd.underlying5 (by kernel_rfl) hd1 (bendL.map UInt8.toNat) dBend k x.toNat (by rw [List.getElem?_map, hx]; rfl))
  have a2 : ∀ k x : Nat, oL[k]? = some x → W.cell? ⟨2, k, none⟩ = some (.int .u64 (x : Int)) := fun k x hx =>
    (World.var?_cell hg2 hv2 k).trans (u64_cells Tryd.underlying54 Tryd.underlying52 (by kernel_rfl) hd2 oL dOrder k x hx)
  have a3 : ∀ k x : Nat, startsL[k]? = some x → W.cell? ⟨0, k, none⟩ = some (.int .u64 (x : Int)) := fun k x hx =>
    (World.var?_cell hg3 hv3 k).trans (u64_cells Tryd.underlying55 Tryd.underlying52 (by kernel_rfl) hd3 startsL dStarts k x hx)
  have a4 : ∀ k x : Nat, tableL[k]? = some x → W.cell? ⟨3, k, none⟩ = some (.int .u64 (x : Int)) := fun k x hx =>
    (World.var?_cell hg4 hv4 k).trans (u64_cells Tryd.underlying101 Tryd.underlying52 (by kernel_rfl) hd4 tableL dRounds k x hx)
  exact ⟨⟨⟨a0, World.block_lt_of_cell? W _ (a0 0 _ rfl)⟩, a1, World.block_lt_of_cell? W _ (a1 0 _ rfl)⟩, ⟨a2, World.block_lt_of_cell? W _ (a2 0 _ rfl)⟩, a3, a4, World.block_lt_of_cell? W _ (a3 0 _ rfl), World.block_lt_of_cell? W _ (a4 0 _ rfl)⟩
end Go.Proofs.YtcefdcjpddohaaaDoor
