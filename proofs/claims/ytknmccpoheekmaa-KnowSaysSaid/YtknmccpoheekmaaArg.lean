/-
  Arrays as arguments: how the row's reading tells them. No statement is proved here. Conditions: none.
-/
import Derived.Test.YtknmccpoheekmaaMem
import Derived.ProofKit
import Derived.LaidMore
import Derived.OpenShut
import Derived.Stop.Joined
namespace Go.Proofs.Ytknmccpoheekmaa
open Go.ChangeShapes Go.WideShapes Go.RowKit

section
variable {H : Type} {enc : TypeId × Value → H} {P : Program} {w : World} {base : Nat} {sp : Nat → Bool} {held : Bool} {fuel : Nat}
theorem one_of_slice {cs : List Value} {k : Nat} {v : Value} (h : (cs.drop k).take 1 = [v]) : cs[k]? = some v := by
  have h1 : ((cs.drop k).take 1)[0]? = some v := by rw [h]; rfl
  simpa [List.getElem?_take, List.getElem?_drop] using h1
/-- The cells of a table of numbers that reads as a list. -/
theorem u64_cells {t e : TypeId} {n : Nat} {cs : Array Value} {D : DataW H} {p : List MemPlace} (ht : P.underlying t = some (.array n e)) (he : P.underlying e = some (.int .u64)) (hc : P.cellsOf e = 1)
    (hd : DataW.trod enc P w base sp held fuel t cs.toList = some (D, p)) (zs : List Nat) (hD : D = .agg (zs.map fun (z : Nat) => .lit (.int .u64 (z : Int)))) (k z : Nat) (hz : zs[k]? = some z) : cs[k]? = some (.int .u64 (z : Int)) := by
  obtain ⟨xs, m, rfl, hx, hlen, hn, hel⟩ := DataW.trod_array ht hd
  simp only [Prod.mk.injEq] at hx
  have h1 : zs.map (fun (z : Nat) => (DataW.lit (H := H) (.int .u64 (z : Int)))) = xs.map (·.1) := by
    have := hD.symm.trans hx.1
    injection this
  have hl : zs.length = xs.length := by have := congrArg List.length h1; simpa using this
  have hk : k < zs.length := (List.getElem?_eq_some_iff.1 hz).1
  have h2 := hel k (by omega)
  rw [hc, Nat.mul_one] at h2
  have h3 : xs[k]? = some (xs[k]'(by omega)) := List.getElem?_eq_getElem (by omega)
  rw [h3] at h2
  obtain ⟨q, e1, e2, _⟩ := DataW.trod_int he h2
  have h4 := congrArg (·[k]?) h1
  simp only [List.getElem?_map, hz, h3, e2, Option.map_some, Option.some.injEq, DataW.lit.injEq, Lit.int.injEq, true_and] at h4
  rw [← h4] at e1
  have h5 := one_of_slice e1
  simpa using h5
/-- An array of bytes by value. -/
theorem open_bytes {t e : TypeId} {n b0 : Nat} {r : Reach} {v : Value} {d : DataW H} {p : List MemPlace} (ht : P.underlying t = some (.array n e)) (he : P.underlying e = some (.int .u8)) (hc : P.cellsOf e = 1) (hn : P.cellsOf t = n)
    (hv : Value.okWide P w r b0 t v) (h : DataW.Trod enc P w base sp held t v d p) : ∃ l : List UInt8, v = .agg (bv l).toArray ∧ l.length = n := by
  obtain ⟨cs, rfl⟩ : ∃ cs, v = .agg cs := by
    simp only [Value.okWide, ht] at hv
    obtain ⟨cs, h1, _⟩ := hv
    exact ⟨cs, h1⟩
  obtain ⟨fuel, hf⟩ := h
  obtain ⟨xs, m, rfl, _, hlen, hxl, hel⟩ := DataW.trod_array ht hf
  rw [hn] at hlen
  have hlen' : cs.size = n := by simpa [Value.cells] using hlen
  have hat : ∀ k, k < n → ∃ b : UInt8, cs[k]? = some (.int .u8 (b.toNat : Int)) := by
    intro k hk
    have h2 := hel k hk
    rw [hc, Nat.mul_one] at h2
    have h3 : xs[k]? = some (xs[k]'(by omega)) := List.getElem?_eq_getElem (by omega)
    rw [h3] at h2
    obtain ⟨q, e1, _, hw⟩ := DataW.trod_int he h2
    have h5 := one_of_slice e1
    have h6 : 0 ≤ q ∧ q ≤ 255 := by simpa [Lit.wf, IntKind.min, IntKind.max, IntKind.signed, IntKind.bits] using hw
    refine ⟨UInt8.ofNat q.toNat, ?_⟩
    have h7 : cs[k]? = some (.int .u8 q) := by simpa [Value.cells] using h5
    rw [h7]
    congr 2
    simp
    omega
  refine ⟨cs.toList.map fun v => match v with | .int _ q => UInt8.ofNat q.toNat | _ => 0, ?_, by simpa using hlen'⟩
  congr 1
  apply Array.ext'
  simp only [bv, List.map_map]
  apply List.ext_getElem?
  intro k
  rw [List.getElem?_map]
  by_cases hk : k < n
  · obtain ⟨b, hb⟩ := hat k hk
    have hb' : cs.toList[k]? = some (.int .u8 (b.toNat : Int)) := by simpa using hb
    rw [hb']
    simp
  · rw [List.getElem?_eq_none (by simp; omega)]
    rfl
/-- An array of words by value. -/
theorem open_words {t e : TypeId} {n b0 : Nat} {r : Reach} {v : Value} {d : DataW H} {p : List MemPlace} (ht : P.underlying t = some (.array n e)) (he : P.underlying e = some (.int .u32)) (hc : P.cellsOf e = 1) (hn : P.cellsOf t = n)
    (hv : Value.okWide P w r b0 t v) (h : DataW.Trod enc P w base sp held t v d p) : ∃ l : List Nat, v = .agg (u32v l).toArray ∧ l.length = n ∧ ∀ x ∈ l, x < 4294967296 := by
  obtain ⟨cs, rfl⟩ : ∃ cs, v = .agg cs := by
    simp only [Value.okWide, ht] at hv
    obtain ⟨cs, h1, _⟩ := hv
    exact ⟨cs, h1⟩
  obtain ⟨fuel, hf⟩ := h
  obtain ⟨xs, m, rfl, _, hlen, hxl, hel⟩ := DataW.trod_array ht hf
  rw [hn] at hlen
  have hlen' : cs.size = n := by simpa [Value.cells] using hlen
  have hat : ∀ k, k < n → ∃ b : Nat, b < 4294967296 ∧ cs[k]? = some (.int .u32 (b : Int)) := by
    intro k hk
    have h2 := hel k hk
    rw [hc, Nat.mul_one] at h2
    have h3 : xs[k]? = some (xs[k]'(by omega)) := List.getElem?_eq_getElem (by omega)
    rw [h3] at h2
    obtain ⟨q, e1, _, hw⟩ := DataW.trod_int he h2
    have h5 := one_of_slice e1
    have h6 : 0 ≤ q ∧ q ≤ 4294967295 := by simpa [Lit.wf, IntKind.min, IntKind.max, IntKind.signed, IntKind.bits] using hw
    refine ⟨q.toNat, by omega, ?_⟩
    have h7 : cs[k]? = some (.int .u32 q) := by simpa [Value.cells] using h5
    rw [h7]
    congr 2
    omega
  refine ⟨cs.toList.map fun v => match v with | .int _ q => q.toNat | _ => 0, ?_, by simpa using hlen', ?_⟩
  · congr 1
    apply Array.ext'
    simp only [u32v, List.map_map]
    apply List.ext_getElem?
    intro k
    rw [List.getElem?_map]
    by_cases hk : k < n
    · obtain ⟨b, _, hb⟩ := hat k hk
      have hb' : cs.toList[k]? = some (.int .u32 (b : Int)) := by simpa using hb
      rw [hb']
      simp
    · rw [List.getElem?_eq_none (by simp; omega)]
      rfl
  · intro x hx
    obtain ⟨v, hv2, rfl⟩ := List.mem_map.1 hx
    obtain ⟨k, hk, rfl⟩ := List.mem_iff_getElem.1 hv2
    have hk' : k < n := by simpa [hlen'] using hk
    obtain ⟨b, hb1, hb2⟩ := hat k hk'
    have hb' : cs.toList[k]? = some (.int .u32 (b : Int)) := by simpa using hb2
    rw [List.getElem?_eq_getElem hk] at hb'
    injection hb' with hb'
    rw [hb']
    simpa using hb1
end

theorem u32_of_wf {a : Int} (h : (Lit.int .u32 a).wf = true) : ∃ v : Nat, a = (v : Int) ∧ v < 4294967296 := by
  have h2 : 0 ≤ a ∧ a ≤ 4294967295 := by simpa [Lit.wf, IntKind.min, IntKind.max, IntKind.signed, IntKind.bits] using h
  exact ⟨a.toNat, by omega, by omega⟩
end Go.Proofs.Ytknmccpoheekmaa
