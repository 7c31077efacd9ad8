/-
  What the row's condition on the packages' own numbers gives the walks. No statement is proved here. Conditions: none.
-/
import Derived.Test.YtehkalbiomagjaaDoorRows
import Derived.Test.YtehkalbiomagjaaDoorPkD
import Derived.Test.YtehkalbiomagjaaDoorArg
import Derived.ProofKit
import Derived.LaidMore
import Derived.OpenShut
import Derived.Stop.Joined
namespace Go.Proofs.YtehkalbiomagjaaDoor
open Go.ChangeShapes Go.WideShapes Go.RowKit

section
variable {H : Type} {enc : TypeId × Value → H} {P : Program} {w : World} {base : Nat} {sp : Nat → Bool} {held : Bool} {fuel : Nat}
/-- The cells of a struct of numbers that reads as a list. -/
theorem u64_parts {t : TypeId} {fs : Array Field} {cs : Array Value} {D : DataW H} {p : List MemPlace} (ht : P.underlying t = some (.struct fs))
    (hall : ∀ i, i < fs.size → ∃ f, fs[i]? = some f ∧ f.offset = i ∧ P.underlying f.type = some (.int .u64) ∧ P.cellsOf f.type = 1)
    (hd : DataW.trod enc P w base sp held fuel t cs.toList = some (D, p)) (zs : List Nat) (hD : D = .agg (zs.map fun (z : Nat) => .lit (.int .u64 (z : Int)))) (k z : Nat) (hz : zs[k]? = some z) : cs[k]? = some (.int .u64 (z : Int)) := by
  obtain ⟨xs, m, rfl, hx, hlen, hn, hel⟩ := DataW.trod_struct ht hd
  simp only [Prod.mk.injEq] at hx
  have h1 : zs.map (fun (z : Nat) => (DataW.lit (H := H) (.int .u64 (z : Int)))) = xs.map (·.1) := by
    have := hD.symm.trans hx.1
    injection this
  have hl : zs.length = xs.length := by have := congrArg List.length h1; simpa using this
  have hk : k < zs.length := (List.getElem?_eq_some_iff.1 hz).1
  obtain ⟨f, hf, ho, he, hc⟩ := hall k (by omega)
  have h2 := hel k f hf
  rw [hc, ho] at h2
  have h3 : xs[k]? = some (xs[k]'(by omega)) := List.getElem?_eq_getElem (by omega)
  rw [h3] at h2
  obtain ⟨q, e1, e2, _⟩ := DataW.trod_int he h2
  have h4 := congrArg (·[k]?) h1
  simp only [List.getElem?_map, hz, h3, e2, Option.map_some, Option.some.injEq, DataW.lit.injEq, Lit.int.injEq, true_and] at h4
  rw [← h4] at e1
  have h5 := one_of_slice e1
  simpa using h5
theorem u8_cells {t e : TypeId} {n : Nat} {cs : Array Value} {D : DataW H} {p : List MemPlace} (ht : P.underlying t = some (.array n e)) (he : P.underlying e = some (.int .u8)) (hc : P.cellsOf e = 1)
    (hd : DataW.trod enc P w base sp held fuel t cs.toList = some (D, p)) (zs : List Nat) (hD : D = .agg (zs.map fun (z : Nat) => .lit (.int .u8 (z : Int)))) (k z : Nat) (hz : zs[k]? = some z) : cs[k]? = some (.int .u8 (z : Int)) := by
  obtain ⟨xs, m, rfl, hx, hlen, hn, hel⟩ := DataW.trod_array ht hd
  simp only [Prod.mk.injEq] at hx
  have h1 : zs.map (fun (z : Nat) => (DataW.lit (H := H) (.int .u8 (z : Int)))) = xs.map (·.1) := by
    have := hD.symm.trans hx.1
    injection this
  have hl : zs.length = xs.length := by have := congrArg List.length h1; simpa using this
  have hk : k < zs.length := (List.getElem?_eq_some_iff.1 hz).1
  have h2 := hel k (by omega)
  rw [hc, Nat.mul_one] at h2
  have h3 : xs[k]? = some (xs[k]'(by omega)) := List.getElem?_eq_getElem (by omega)
  rw [h3] at h2
  obtain ⟨q, e1, e2, _⟩ := DataW.trod_int he h2
  have h4 := congrArg (·[k]?) h1
  simp only [List.getElem?_map, hz, h3, e2, Option.map_some, Option.some.injEq, DataW.lit.injEq, Lit.int.injEq, true_and] at h4
  rw [← h4] at e1
  have h5 := one_of_slice e1
  simpa using h5
end
/-- What the row lists. -/
def laid2 : List (String × DataW Unit) := Rows.pointSaysRow.laid
theorem tTurn : (Tryd.prog.globals[2]?).map (·.type) = some 77 := by kernel_rfl
theorem dTurn {H : Type} : (Rows.laid_bandbox_field_turn : DataW H) = .agg (turnL.map fun (z : Nat) => .lit (.int .u64 (z : Int))) := by rfl
theorem tBend : (Tryd.prog.globals[0]?).map (·.type) = some 23 := by kernel_rfl
theorem dBend {H : Type} : (Rows.laid_bandbox_point_bend : DataW H) = .agg ((bendL.map UInt8.toNat).map fun (z : Nat) => .lit (.int .u8 (z : Int))) := by rfl
theorem laid_of {W : World} (h : laidMetH Tryd.prog laid2 W) : LaidP W := by
  rw [MakeChecks.laidMetH_plain _ _ _ (by kernel_rfl)] at h
  obtain ⟨ps, ⟨g0, t0, cs0, f0, p0, q0, hg0, ht0, hv0, hd0, ⟨g1, t1, cs1, f1, p1, q1, hg1, ht1, hv1, hd1, _, _⟩, _⟩, _, _⟩ := h
  obtain rfl := Option.some.inj ((show Tryd.prog.globalNamed _ = some 2 by kernel_rfl).symm.trans hg0)
  obtain rfl := Option.some.inj (tTurn.symm.trans ht0)
  obtain rfl := Option.some.inj ((show Tryd.prog.globalNamed _ = some 0 by kernel_rfl).symm.trans hg1)
  obtain rfl := Option.some.inj (tBend.symm.trans ht1)
  have a0 : ∀ k x : Nat, turnL[k]? = some x → W.cell? ⟨2, k, none⟩ = some (.int .u64 (x : Int)) := fun k x hx =>
    (World.var?_cell hg0 hv0 k).trans (u64_parts Tryd.underlying77
      (fun i hi => by
        match i, hi with
        | 0, _ => exact ⟨_, rfl, rfl, Tryd.underlying45, by kernel_rfl⟩
        | 1, _ => exact ⟨_, rfl, rfl, Tryd.underlying45, by kernel_rfl⟩
        | 2, _ => exact ⟨_, rfl, rfl, Tryd.underlying45, by kernel_rfl⟩
        | 3, _ => exact ⟨_, rfl, rfl, Tryd.underlying45, by kernel_rfl⟩) hd0 turnL dTurn k x hx)
  have a1 : ∀ (k : Nat) (x : UInt8), bendL[k]? = some x → W.cell? ⟨0, k, none⟩ = some (.int .u8 (x.toNat : Int)) := fun k x hx =>
    (World.var?_cell hg1 hv1 k).trans (u8_cells Tryd.underlying23 Tryd.underlying5 (by kernel_rfl) hd1 (bendL.map UInt8.toNat) dBend k x.toNat (by rw [List.getElem?_map, hx]; rfl))
  exact ⟨⟨a0, World.block_lt_of_cell? W _ (a0 0 _ rfl)⟩, a1, World.block_lt_of_cell? W _ (a1 0 _ rfl)⟩
end Go.Proofs.YtehkalbiomagjaaDoor
