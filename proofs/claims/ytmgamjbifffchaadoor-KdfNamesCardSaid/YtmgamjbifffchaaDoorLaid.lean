/-
  What the row's condition on the two tables gives the walks, and arrays of bytes as arguments. No statement is proved here. Conditions: none.
-/
import Derived.Test.YtmgamjbifffchaaDoorRows
import Derived.Test.YtmgamjbifffchaaDoorShaM
import Derived.ProofKit
import Derived.LaidMore
import Derived.OpenShut
import Derived.Stop.Joined
namespace Go.Proofs.YtmgamjbifffchaaDoor
open Go.ChangeShapes Go.WideShapes Go.RowKit

section
variable {H : Type} {enc : TypeId × Value → H} {P : Program} {w : World} {base : Nat} {sp : Nat → Bool} {held : Bool} {fuel : Nat}
theorem one_of_slice {cs : List Value} {k : Nat} {v : Value} (h : (cs.drop k).take 1 = [v]) : cs[k]? = some v := by
  have h1 : ((cs.drop k).take 1)[0]? = some v := by rw [h]; rfl
  simpa [List.getElem?_take, List.getElem?_drop] using h1
/-- The cells of a table of numbers that reads as a list. -/
theorem u64_cells {t e : TypeId} {n : Nat} {cs : Array Value} {D : DataW H} {p : List MemPlace} (ht : P.underlying t = some (.array n e)) (he : P.underlying e = some (.int .u64)) (hc : P.cellsOf e = 1)
    (hd : DataW.trod enc P w base sp held fuel t cs.toList = some (D, p)) (zs : List Nat) (hD : D = .agg (zs.map fun (z : Nat) => .lit (.int .u64 (z : Int)))) (k z : Nat) (hz : zs[k]? = some z) : cs[k]? = some (.int .u64 (z : Int)) := by
  obtain ⟨xs, m, rfl, hx, hlen, hn, hel⟩ := DataW.trod_array ht hd
  simp only [Prod.mk.injEq] at hx
  have h1 : zs.map (fun (z : Nat) => (DataW.lit (H := H) (.int .u64 (z : Int)))) = xs.map (·.1) := by
    have := hD.symm.trans hx.1
    injection this
  have hl : zs.length = xs.length := by have := congrArg List.length h1; simpa using this
  have hk : k < zs.length := (List.getElem?_eq_some_iff.1 hz).1
  have h2 := hel k (by omega)
  rw [hc, Nat.mul_one] at h2
  have h3 : xs[k]? = some (xs[k]'(by omega)) := List.getElem?_eq_getElem (by omega)
  rw [h3] at h2
  obtain ⟨q, e1, e2, _⟩ := DataW.trod_int he h2
  have h4 := congrArg (·[k]?) h1
  simp only [List.getElem?_map, hz, h3, e2, Option.map_some, Option.some.injEq, DataW.lit.injEq, Lit.int.injEq, true_and] at h4
  rw [← h4] at e1
  have h5 := one_of_slice e1
  simpa using h5
/-- An array of bytes by value. -/
theorem open_bytes {t e : TypeId} {n b0 : Nat} {r : Reach} {v : Value} {d : DataW H} {p : List MemPlace} (ht : P.underlying t = some (.array n e)) (he : P.underlying e = some (.int .u8)) (hc : P.cellsOf e = 1) (hn : P.cellsOf t = n)
    (hv : Value.okWide P w r b0 t v) (h : DataW.Trod enc P w base sp held t v d p) : ∃ l : List UInt8, v = .agg (bv l).toArray ∧ l.length = n := by
  obtain ⟨cs, rfl⟩ : ∃ cs, v = .agg cs := by
    simp only [Value.okWide, ht] at hv
    obtain ⟨cs, h1, _⟩ := hv
    exact ⟨cs, h1⟩
  obtain ⟨fuel, hf⟩ := h
  obtain ⟨xs, m, rfl, _, hlen, hxl, hel⟩ := DataW.trod_array ht hf
  rw [hn] at hlen
  have hlen' : cs.size = n := by simpa [Value.cells] using hlen
  have hat : ∀ k, k < n → ∃ b : UInt8, cs[k]? = some (.int .u8 (b.toNat : Int)) := by
    intro k hk
    have h2 := hel k hk
    rw [hc, Nat.mul_one] at h2
    have h3 : xs[k]? = some (xs[k]'(by omega)) := List.getElem?_eq_getElem (by omega)
    rw [h3] at h2
    obtain ⟨q, e1, _, hw⟩ := DataW.trod_int he h2
    have h5 := one_of_slice e1
    have h6 : 0 ≤ q ∧ q ≤ 255 := by simpa [Lit.wf, IntKind.min, IntKind.max, IntKind.signed, IntKind.bits] using hw
    refine ⟨UInt8.ofNat q.toNat, ?_⟩
    have h7 : cs[k]? = some (.int .u8 q) := by simpa [Value.cells] using h5
    rw [h7]
    congr 2
    simp
    omega
  refine ⟨cs.toList.map fun v => match v with | .int _ q => UInt8.ofNat q.toNat | _ => 0, ?_, by simpa using hlen'⟩
  congr 1
  apply Array.ext'
  simp only [bv, List.map_map]
  apply List.ext_getElem?
  intro k
  rw [List.getElem?_map]
  by_cases hk : k < n
  · obtain ⟨b, hb⟩ := hat k hk
    have hb' : cs.toList[k]? = some (.int .u8 (b.toNat : Int)) := by simpa using hb
    rw [hb']
    simp
  · rw [List.getElem?_eq_none (by simp; omega)]
    rfl
end

/-- What the row lists. -/
def laid2 : List (String × DataW Unit) := Rows.kdfBeginsRow.laid
theorem tStarts : (Tryd.prog.globals[0]?).map (·.type) = some 50 := by kernel_rfl
theorem tRounds : (Tryd.prog.globals[1]?).map (·.type) = some 55 := by kernel_rfl
theorem dStarts {H : Type} : (Rows.laid_bandbox_sha_starts : DataW H) = .agg (starts.map fun (z : Nat) => .lit (.int .u64 (z : Int))) := by rfl
theorem dRounds {H : Type} : (Rows.laid_bandbox_sha_rounds : DataW H) = .agg (table.map fun (z : Nat) => .lit (.int .u64 (z : Int))) := by rfl
theorem laid_of {W : World} (h : laidMetH Tryd.prog laid2 W) : Laid W := by
  rw [MakeChecks.laidMetH_plain _ _ _ (by kernel_rfl)] at h
  obtain ⟨ps, ⟨g0, t0, cs0, f0, p0, q0, hg0, ht0, hv0, hd0, ⟨g1, t1, cs1, f1, p1, q1, hg1, ht1, hv1, hd1, _, _⟩, _⟩, _, _⟩ := h
  obtain rfl := Option.some.inj ((show Tryd.prog.globalNamed _ = some 0 by kernel_rfl).symm.trans hg0)
  obtain rfl := Option.some.inj ((show Tryd.prog.globalNamed _ = some 1 by kernel_rfl).symm.trans hg1)
  obtain rfl := Option.some.inj (tStarts.symm.trans ht0)
  obtain rfl := Option.some.inj (tRounds.symm.trans ht1)
  have a0 : ∀ k x : Nat, starts[k]? = some x → W.cell? ⟨0, k, none⟩ = some (.int .u64 (x : Int)) := fun k x hx =>
    (World.var?_cell hg0 hv0 k).trans (u64_cells Tryd.underlying50 Tryd.underlying49 (by kernel_rfl) hd0 starts dStarts k x hx)
  have a1 : ∀ k x : Nat, table[k]? = some x → W.cell? ⟨1, k, none⟩ = some (.int .u64 (x : Int)) := fun k x hx =>
    (World.var?_cell hg1 hv1 k).trans (u64_cells Tryd.underlying55 Tryd.underlying49 (by kernel_rfl) hd1 table dRounds k x hx)
  refine ⟨a0, a1, ?_⟩
  have := World.block_lt_of_cell? W _ (a1 0 _ rfl)
  exact this
end Go.Proofs.YtmgamjbifffchaaDoor
