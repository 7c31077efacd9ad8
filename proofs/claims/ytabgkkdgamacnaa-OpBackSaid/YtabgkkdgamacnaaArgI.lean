/-
  Arrays of numbers with a sign, and pairs of them, as arguments: how the row's reading tells them. No statement is proved here. Conditions: none.
-/
import Derived.Test.YtabgkkdgamacnaaArg
import Derived.Test.YtabgkkdgamacnaaVcD
import Derived.WideShapes
namespace Go.Proofs.Ytabgkkdgamacnaa
open Go.ChangeShapes Go.WideShapes Go.RowKit

theorem i64_wf_in {a : Int} (h : (Lit.int .i64 a).wf = true) : -9223372036854775808 ≤ a ∧ a < 9223372036854775808 := by
  have h2 : -9223372036854775808 ≤ a ∧ a ≤ 9223372036854775807 := by simpa [Lit.wf, IntKind.min, IntKind.max, IntKind.signed, IntKind.bits] using h
  omega
section
variable {H : Type} {enc : TypeId × Value → H} {P : Program} {w : World} {base : Nat} {sp : Nat → Bool} {held : Bool} {fuel : Nat}
/-- An array of numbers by value. -/
theorem open_longs {t e : TypeId} {n b0 : Nat} {r : Reach} {v : Value} {d : DataW H} {p : List MemPlace} (ht : P.underlying t = some (.array n e)) (he : P.underlying e = some (.int .i64)) (hc : P.cellsOf e = 1) (hn : P.cellsOf t = n)
    (hv : Value.okWide P w r b0 t v) (h : DataW.Trod enc P w base sp held t v d p) : ∃ l : List Int, v = .agg (i64v l).toArray ∧ l.length = n ∧ Hid (I64s l) := by
  obtain ⟨cs, rfl⟩ : ∃ cs, v = .agg cs := by
    simp only [Value.okWide, ht] at hv
    obtain ⟨cs, h1, _⟩ := hv
    exact ⟨cs, h1⟩
  obtain ⟨fuel, hf⟩ := h
  obtain ⟨xs, m, rfl, _, hlen, hxl, hel⟩ := DataW.trod_array ht hf
  rw [hn] at hlen
  have hlen' : cs.size = n := by simpa [Value.cells] using hlen
  have hat : ∀ k, k < n → ∃ b : Int, (-9223372036854775808 ≤ b ∧ b < 9223372036854775808) ∧ cs[k]? = some (.int .i64 b) := by
    intro k hk
    have h2 := hel k hk
    rw [hc, Nat.mul_one] at h2
    have h3 : xs[k]? = some (xs[k]'(by omega)) := List.getElem?_eq_getElem (by omega)
    rw [h3] at h2
    obtain ⟨q, e1, _, hw⟩ := DataW.trod_int he h2
    have h5 := one_of_slice e1
    exact ⟨q, i64_wf_in hw, by simpa [Value.cells] using h5⟩
  refine ⟨cs.toList.map fun v => match v with | .int _ q => q | _ => 0, ?_, by simpa using hlen', ?_⟩
  · congr 1
    apply Array.ext'
    simp only [i64v, List.map_map]
    apply List.ext_getElem?
    intro k
    rw [List.getElem?_map]
    by_cases hk : k < n
    · obtain ⟨b, _, hb⟩ := hat k hk
      have hb' : cs.toList[k]? = some (.int .i64 b) := by simpa using hb
      rw [hb']
      simp
    · rw [List.getElem?_eq_none (by simp; omega)]
      rfl
  · intro x hx
    obtain ⟨v, hv2, rfl⟩ := List.mem_map.1 hx
    obtain ⟨k, hk, rfl⟩ := List.mem_iff_getElem.1 hv2
    have hk' : k < n := by simpa [hlen'] using hk
    obtain ⟨b, hb1, hb2⟩ := hat k hk'
    have hb' : cs.toList[k]? = some (.int .i64 b) := by simpa using hb2
    rw [List.getElem?_eq_getElem hk] at hb'
    injection hb' with hb'
    rw [hb']
    simpa using hb1
/-- A pair of numbers by value. -/
theorem open_pair {t : TypeId} {f0 f1 : Field} {bb : Nat} {r : Reach} {v : Value} {d : DataW H} {p : List MemPlace} (ht : P.underlying t = some (.struct #[f0, f1])) (he : P.underlying f0.type = some (.int .i64)) (hf : P.underlying f1.type = some (.int .i64)) (ho : f0.offset = 0 ∧ f1.offset = 1) (hc : P.cellsOf f0.type = 1) (hc2 : P.cellsOf f1.type = 1) (hn : P.cellsOf t = 2)
    (hv : Value.okWide P w r bb t v) (h : DataW.Trod enc P w base sp held t v d p) : ∃ x y : Int, v = .agg #[.int .i64 x, .int .i64 y] ∧ (-9223372036854775808 ≤ x ∧ x < 9223372036854775808) ∧ (-9223372036854775808 ≤ y ∧ y < 9223372036854775808) := by
  obtain ⟨cs, rfl, hcs⟩ := okWide_struct ht hv
  obtain ⟨fuel, hf'⟩ := h
  obtain ⟨y0, y1, m, _, hl, h0, h1⟩ := trod_struct2 ht hf'
  obtain ⟨l⟩ := cs
  match l, hcs with
  | [v0, v1], _ =>
    simp only [hc, hc2, ho.1, ho.2, Value.cells, List.drop_zero, List.take_succ_cons, List.take_zero, List.drop_succ_cons] at h0 h1
    obtain ⟨q0, e0, _, w0⟩ := DataW.trod_int he h0
    obtain ⟨q1, e1, _, w1⟩ := DataW.trod_int hf h1
    simp only [List.cons.injEq, and_true] at e0 e1
    subst e0 e1
    exact ⟨q0, q1, rfl, i64_wf_in w0, i64_wf_in w1⟩
  | [], h => rw [hn] at h; exact absurd h (by simp)
  | [_], h => rw [hn] at h; exact absurd h (by simp)
  | _ :: _ :: _ :: _, h => rw [hn] at h; exact absurd h (by simp)
end
end Go.Proofs.Ytabgkkdgamacnaa
