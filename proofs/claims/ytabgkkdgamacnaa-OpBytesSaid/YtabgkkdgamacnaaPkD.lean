/-
  Words and contracts that other texts share, several in one text. No statement of the seat is proved here. Conditions: as each contract says.
  Arrays as arguments: how the row's reading tells them. No statement is proved here. Conditions: none.
  Arrays of numbers with a sign, and pairs of them, as arguments: how the row's reading tells them. No statement is proved here. Conditions: none.
  An edit as an argument: how the row's reading tells it. No statement is proved here. Conditions: none.
-/
import Derived.Test.YtabgkkdgamacnaaPkA
import Derived.ProofKit
import Derived.LaidMore
import Derived.OpenShut
import Derived.Stop.Joined
import Derived.Test.YtabgkkdgamacnaaPkB
import Derived.WideShapes
namespace Go.Proofs.Ytabgkkdgamacnaa
open Go.ChangeShapes Go.WideShapes Go.RowKit

section
variable {H : Type} {enc : TypeId × Value → H} {P : Program} {w : World} {base : Nat} {sp : Nat → Bool} {held : Bool} {fuel : Nat}
theorem one_of_slice {cs : List Value} {k : Nat} {v : Value} (h : (cs.drop k).take 1 = [v]) : cs[k]? = some v := by
  have h1 : ((cs.drop k).take 1)[0]? = some v := by rw [h]; rfl
  simpa [List.getElem?_take, List.getElem?_drop] using h1
/-- The cells of a table of numbers that reads as a list. -/
theorem u64_cells {t e : TypeId} {n : Nat} {cs : Array Value} {D : DataW H} {p : List MemPlace} (ht : P.underlying t = some (.array n e)) (he : P.underlying e = some (.int .u64)) (hc : P.cellsOf e = 1)
    (hd : DataW.trod enc P w base sp held fuel t cs.toList = some (D, p)) (zs : List Nat) (hD : D = .agg (zs.map fun (z : Nat) => .lit (.int .u64 (z : Int)))) (k z : Nat) (hz : zs[k]? = some z) : cs[k]? = some (.int .u64 (z : Int)) := by
  obtain ⟨xs, m, rfl, hx, hlen, hn, hel⟩ := DataW.trod_array ht hd
  simp only [Prod.mk.injEq] at hx
  have h1 : zs.map (fun (z : Nat) => (DataW.lit (H := H) (.int .u64 (z : Int)))) = xs.map (·.1) := by
    have := hD.symm.trans hx.1
    injection this
  have hl : zs.length = xs.length := by have := congrArg List.length h1; simpa using this
  have hk : k < zs.length := (List.getElem?_eq_some_iff.1 hz).1
  have h2 := hel k (by omega)
  rw [hc, Nat.mul_one] at h2
  have h3 : xs[k]? = some (xs[k]'(by omega)) := List.getElem?_eq_getElem (by omega)
  rw [h3] at h2
  obtain ⟨q, e1, e2, _⟩ := DataW.trod_int he h2
  have h4 := congrArg (·[k]?) h1
  simp only [List.getElem?_map, hz, h3, e2, Option.map_some, Option.some.injEq, DataW.lit.injEq, Lit.int.injEq, true_and] at h4
  rw [← h4] at e1
  have h5 := one_of_slice e1
  simpa using h5
/-- An array of bytes by value. -/
theorem open_bytes {t e : TypeId} {n b0 : Nat} {r : Reach} {v : Value} {d : DataW H} {p : List MemPlace} (ht : P.underlying t = some (.array n e)) (he : P.underlying e = some (.int .u8)) (hc : P.cellsOf e = 1) (hn : P.cellsOf t = n)
    (hv : Value.okWide P w r b0 t v) (h : DataW.Trod enc P w base sp held t v d p) : ∃ l : List UInt8, v = .agg (bv l).toArray ∧ l.length = n := by
  obtain ⟨cs, rfl⟩ : ∃ cs, v = .agg cs := by
    simp only [Value.okWide, ht] at hv
    obtain ⟨cs, h1, _⟩ := hv
    exact ⟨cs, h1⟩
  obtain ⟨fuel, hf⟩ := h
  obtain ⟨xs, m, rfl, _, hlen, hxl, hel⟩ := DataW.trod_array ht hf
  rw [hn] at hlen
  have hlen' : cs.size = n := by simpa [Value.cells] using hlen
  have hat : ∀ k, k < n → ∃ b : UInt8, cs[k]? = some (.int .u8 (b.toNat : Int)) := by
    intro k hk
    have h2 := hel k hk
    rw [hc, Nat.mul_one] at h2
    have h3 : xs[k]? = some (xs[k]'(by omega)) := List.getElem?_eq_getElem (by omega)
    rw [h3] at h2
    obtain ⟨q, e1, _, hw⟩ := DataW.trod_int he h2
    have h5 := one_of_slice e1
    have h6 : 0 ≤ q ∧ q ≤ 255 := by simpa [Lit.wf, IntKind.min, IntKind.max, IntKind.signed, IntKind.bits] using hw
    refine ⟨UInt8.ofNat q.toNat, ?_⟩
    have h7 : cs[k]? = some (.int .u8 q) := by simpa [Value.cells] using h5
    rw [h7]
    congr 2
    simp
    omega
  refine ⟨cs.toList.map fun v => match v with | .int _ q => UInt8.ofNat q.toNat | _ => 0, ?_, by simpa using hlen'⟩
  congr 1
  apply Array.ext'
  simp only [bv, List.map_map]
  apply List.ext_getElem?
  intro k
  rw [List.getElem?_map]
  by_cases hk : k < n
  · obtain ⟨b, hb⟩ := hat k hk
    have hb' : cs.toList[k]? = some (.int .u8 (b.toNat : Int)) := by simpa using hb
    rw [hb']
    simp
  · rw [List.getElem?_eq_none (by simp; omega)]
    rfl
/-- An array of words by value. -/
theorem open_words {t e : TypeId} {n b0 : Nat} {r : Reach} {v : Value} {d : DataW H} {p : List MemPlace} (ht : P.underlying t = some (.array n e)) (he : P.underlying e = some (.int .u32)) (hc : P.cellsOf e = 1) (hn : P.cellsOf t = n)
    (hv : Value.okWide P w r b0 t v) (h : DataW.Trod enc P w base sp held t v d p) : ∃ l : List Nat, v = .agg (u32v l).toArray ∧ l.length = n ∧ ∀ x ∈ l, x < 4294967296 := by
  obtain ⟨cs, rfl⟩ : ∃ cs, v = .agg cs := by
    simp only [Value.okWide, ht] at hv
    obtain ⟨cs, h1, _⟩ := hv
    exact ⟨cs, h1⟩
  obtain ⟨fuel, hf⟩ := h
  obtain ⟨xs, m, rfl, _, hlen, hxl, hel⟩ := DataW.trod_array ht hf
  rw [hn] at hlen
  have hlen' : cs.size = n := by simpa [Value.cells] using hlen
  have hat : ∀ k, k < n → ∃ b : Nat, b < 4294967296 ∧ cs[k]? = some (.int .u32 (b : Int)) := by
    intro k hk
    have h2 := hel k hk
    rw [hc, Nat.mul_one] at h2
    have h3 : xs[k]? = some (xs[k]'(by omega)) := List.getElem?_eq_getElem (by omega)
    rw [h3] at h2
    obtain ⟨q, e1, _, hw⟩ := DataW.trod_int he h2
    have h5 := one_of_slice e1
    have h6 : 0 ≤ q ∧ q ≤ 4294967295 := by simpa [Lit.wf, IntKind.min, IntKind.max, IntKind.signed, IntKind.bits] using hw
    refine ⟨q.toNat, by omega, ?_⟩
    have h7 : cs[k]? = some (.int .u32 q) := by simpa [Value.cells] using h5
    rw [h7]
    congr 2
    omega
  refine ⟨cs.toList.map fun v => match v with | .int _ q => q.toNat | _ => 0, ?_, by simpa using hlen', ?_⟩
  · congr 1
    apply Array.ext'
    simp only [u32v, List.map_map]
    apply List.ext_getElem?
    intro k
    rw [List.getElem?_map]
    by_cases hk : k < n
    · obtain ⟨b, _, hb⟩ := hat k hk
      have hb' : cs.toList[k]? = some (.int .u32 (b : Int)) := by simpa using hb
      rw [hb']
      simp
    · rw [List.getElem?_eq_none (by simp; omega)]
      rfl
  · intro x hx
    obtain ⟨v, hv2, rfl⟩ := List.mem_map.1 hx
    obtain ⟨k, hk, rfl⟩ := List.mem_iff_getElem.1 hv2
    have hk' : k < n := by simpa [hlen'] using hk
    obtain ⟨b, hb1, hb2⟩ := hat k hk'
    have hb' : cs.toList[k]? = some (.int .u32 (b : Int)) := by simpa using hb2
    rw [List.getElem?_eq_getElem hk] at hb'
    injection hb' with hb'
    rw [hb']
    simpa using hb1
end

theorem u32_of_wf {a : Int} (h : (Lit.int .u32 a).wf = true) : ∃ v : Nat, a = (v : Int) ∧ v < 4294967296 := by
  have h2 : 0 ≤ a ∧ a ≤ 4294967295 := by simpa [Lit.wf, IntKind.min, IntKind.max, IntKind.signed, IntKind.bits] using h
  exact ⟨a.toNat, by omega, by omega⟩
end Go.Proofs.Ytabgkkdgamacnaa
namespace Go.Proofs.Ytabgkkdgamacnaa
open Go.ChangeShapes Go.WideShapes Go.RowKit

theorem i64_wf_in {a : Int} (h : (Lit.int .i64 a).wf = true) : -9223372036854775808 ≤ a ∧ a < 9223372036854775808 := by
  have h2 : -9223372036854775808 ≤ a ∧ a ≤ 9223372036854775807 := by simpa [Lit.wf, IntKind.min, IntKind.max, IntKind.signed, IntKind.bits] using h
  omega
section
variable {H : Type} {enc : TypeId × Value → H} {P : Program} {w : World} {base : Nat} {sp : Nat → Bool} {held : Bool} {fuel : Nat}
/-- An array of numbers by value. -/
theorem open_longs {t e : TypeId} {n b0 : Nat} {r : Reach} {v : Value} {d : DataW H} {p : List MemPlace} (ht : P.underlying t = some (.array n e)) (he : P.underlying e = some (.int .i64)) (hc : P.cellsOf e = 1) (hn : P.cellsOf t = n)
    (hv : Value.okWide P w r b0 t v) (h : DataW.Trod enc P w base sp held t v d p) : ∃ l : List Int, v = .agg (i64v l).toArray ∧ l.length = n ∧ Hid (I64s l) := by
  obtain ⟨cs, rfl⟩ : ∃ cs, v = .agg cs := by
    simp only [Value.okWide, ht] at hv
    obtain ⟨cs, h1, _⟩ := hv
    exact ⟨cs, h1⟩
  obtain ⟨fuel, hf⟩ := h
  obtain ⟨xs, m, rfl, _, hlen, hxl, hel⟩ := DataW.trod_array ht hf
  rw [hn] at hlen
  have hlen' : cs.size = n := by simpa [Value.cells] using hlen
  have hat : ∀ k, k < n → ∃ b : Int, (-9223372036854775808 ≤ b ∧ b < 9223372036854775808) ∧ cs[k]? = some (.int .i64 b) := by
    intro k hk
    have h2 := hel k hk
    rw [hc, Nat.mul_one] at h2
    have h3 : xs[k]? = some (xs[k]'(by omega)) := List.getElem?_eq_getElem (by omega)
    rw [h3] at h2
    obtain ⟨q, e1, _, hw⟩ := DataW.trod_int he h2
    have h5 := one_of_slice e1
    exact ⟨q, i64_wf_in hw, by simpa [Value.cells] using h5⟩
  refine ⟨cs.toList.map fun v => match v with | .int _ q => q | _ => 0, ?_, by simpa using hlen', ?_⟩
  · congr 1
    apply Array.ext'
    simp only [i64v, List.map_map]
    apply List.ext_getElem?
    intro k
    rw [List.getElem?_map]
    by_cases hk : k < n
    · obtain ⟨b, _, hb⟩ := hat k hk
      have hb' : cs.toList[k]? = some (.int .i64 b) := by simpa using hb
      rw [hb']
      simp
    · rw [List.getElem?_eq_none (by simp; omega)]
      rfl
  · intro x hx
    obtain ⟨v, hv2, rfl⟩ := List.mem_map.1 hx
    obtain ⟨k, hk, rfl⟩ := List.mem_iff_getElem.1 hv2
    have hk' : k < n := by simpa [hlen'] using hk
    obtain ⟨b, hb1, hb2⟩ := hat k hk'
    have hb' : cs.toList[k]? = some (.int .i64 b) := by simpa using hb2
    rw [List.getElem?_eq_getElem hk] at hb'
    injection hb' with hb'
    rw [hb']
    simpa using hb1
/-- A pair of numbers by value. -/
theorem open_pair {t : TypeId} {f0 f1 : Field} {bb : Nat} {r : Reach} {v : Value} {d : DataW H} {p : List MemPlace} (ht : P.underlying t = some (.struct #[f0, f1])) (he : P.underlying f0.type = some (.int .i64)) (hf : P.underlying f1.type = some (.int .i64)) (ho : f0.offset = 0 ∧ f1.offset = 1) (hc : P.cellsOf f0.type = 1) (hc2 : P.cellsOf f1.type = 1) (hn : P.cellsOf t = 2)
    (hv : Value.okWide P w r bb t v) (h : DataW.Trod enc P w base sp held t v d p) : ∃ x y : Int, v = .agg #[.int .i64 x, .int .i64 y] ∧ (-9223372036854775808 ≤ x ∧ x < 9223372036854775808) ∧ (-9223372036854775808 ≤ y ∧ y < 9223372036854775808) := by
  obtain ⟨cs, rfl, hcs⟩ := okWide_struct ht hv
  obtain ⟨fuel, hf'⟩ := h
  obtain ⟨y0, y1, m, _, hl, h0, h1⟩ := trod_struct2 ht hf'
  obtain ⟨l⟩ := cs
  match l, hcs with
  | [v0, v1], _ =>
    simp only [hc, hc2, ho.1, ho.2, Value.cells, List.drop_zero, List.take_succ_cons, List.take_zero, List.drop_succ_cons] at h0 h1
    obtain ⟨q0, e0, _, w0⟩ := DataW.trod_int he h0
    obtain ⟨q1, e1, _, w1⟩ := DataW.trod_int hf h1
    simp only [List.cons.injEq, and_true] at e0 e1
    subst e0 e1
    exact ⟨q0, q1, rfl, i64_wf_in w0, i64_wf_in w1⟩
  | [], h => rw [hn] at h; exact absurd h (by simp)
  | [_], h => rw [hn] at h; exact absurd h (by simp)
  | _ :: _ :: _ :: _, h => rw [hn] at h; exact absurd h (by simp)
end
end Go.Proofs.Ytabgkkdgamacnaa
namespace Go.Proofs.Ytabgkkdgamacnaa
open Go.ChangeShapes Go.WideShapes Go.RowKit

section
variable {H : Type} {enc : TypeId × Value → H} {P : Program} {w : World} {base : Nat} {sp : Nat → Bool} {held : Bool} {fuel : Nat}
theorem longs_cells {t e : TypeId} {n : Nat} {cs : List Value} {y : DataW H × List MemPlace} (ht : P.underlying t = some (.array n e)) (he : P.underlying e = some (.int .i64)) (hc : P.cellsOf e = 1) (hn : P.cellsOf t = n)
    (hf : DataW.trod enc P w base sp held fuel t cs = some y) : ∃ l : List Int, cs = i64v l ∧ l.length = n := by
  obtain ⟨xs, m, rfl, _, hlen, hxl, hel⟩ := DataW.trod_array ht hf
  rw [hn] at hlen
  have hat : ∀ k, k < n → ∃ b : Int, cs[k]? = some (.int .i64 b) := by
    intro k hk
    have h2 := hel k hk
    rw [hc, Nat.mul_one] at h2
    have h3 : xs[k]? = some (xs[k]'(by omega)) := List.getElem?_eq_getElem (by omega)
    rw [h3] at h2
    obtain ⟨q, e1, _, hw⟩ := DataW.trod_int he h2
    exact ⟨q, one_of_slice e1⟩
  refine ⟨cs.map fun v => match v with | .int _ q => q | _ => 0, ?_, by simpa using hlen⟩
  simp only [i64v, List.map_map]
  apply List.ext_getElem?
  intro k
  rw [List.getElem?_map]
  by_cases hk : k < n
  · obtain ⟨b, hb⟩ := hat k hk
    rw [hb]
    simp
  · rw [List.getElem?_eq_none (by omega)]
    rfl
end
section
variable {H : Type} {enc : TypeId × Value → H} {w : World} {base : Nat} {sp : Nat → Bool} {held : Bool}
theorem edit_cells {fuel : Nat} {cs : List Value} {y : DataW H × List MemPlace} (h : DataW.trod enc Try.prog w base sp held fuel 28 cs = some y) : ∃ e : Ed, cs = e.cells ∧ e.seen.length = 8 := by
  have hci : Try.prog.cellsOf 3 = 1 := by kernel_rfl
  have hcl : Try.prog.cellsOf 2 = 1 := by kernel_rfl
  have hcs1 : Try.prog.cellsOf 9 = 1 := by kernel_rfl
  have hcd : Try.prog.cellsOf 24 = 2 := by kernel_rfl
  have hcv : Try.prog.cellsOf 26 = 8 := by kernel_rfl
  have hce : Try.prog.cellsOf 28 = 15 := by kernel_rfl
  obtain ⟨xs, n2, _, _, hlc, hxl, hfs⟩ := DataW.trod_struct Try.underlying28 h
  rw [hce] at hlc
  match cs, hlc, xs, hxl with
  | [v0, v1, v2, v3, v4, v5, v6, v7, v8, v9, v10, v11, v12, v13, v14], _, [y0, y1, y2, y3, y4, y5, y6], _ =>
    have h0 : DataW.trod enc Try.prog w base sp held n2 24 [v0, v1] = some y0 := by have h := hfs 0 _ rfl; simpa [hcd] using h
    have h1 : DataW.trod enc Try.prog w base sp held n2 26 [v2, v3, v4, v5, v6, v7, v8, v9] = some y1 := by have h := hfs 1 _ rfl; simpa [hcv] using h
    have h2 : DataW.trod enc Try.prog w base sp held n2 3 [v10] = some y2 := by have h := hfs 2 _ rfl; simpa [hci] using h
    have h3 : DataW.trod enc Try.prog w base sp held n2 9 [v11] = some y3 := by have h := hfs 3 _ rfl; simpa [hcs1] using h
    have h4 : DataW.trod enc Try.prog w base sp held n2 9 [v12] = some y4 := by have h := hfs 4 _ rfl; simpa [hcs1] using h
    have h5 : DataW.trod enc Try.prog w base sp held n2 9 [v13] = some y5 := by have h := hfs 5 _ rfl; simpa [hcs1] using h
    have h6 : DataW.trod enc Try.prog w base sp held n2 2 [v14] = some y6 := by have h := hfs 6 _ rfl; simpa [hcl] using h
    obtain ⟨a0, a1, m, _, _, k0, k1⟩ := trod_struct2 Try.underlying24 h0
    simp only [hci, hcl, List.drop_zero, List.take_succ_cons, List.take_zero, List.drop_succ_cons] at k0 k1
    obtain ⟨q0, e0, _, _⟩ := DataW.trod_int Try.underlying3 k0
    obtain ⟨q1, e1, _, _⟩ := DataW.trod_int Try.underlying2 k1
    obtain ⟨l, hl, hl8⟩ := longs_cells Try.underlying26 Try.underlying2 hcl hcv h1
    obtain ⟨q2, e2, _, _⟩ := DataW.trod_int Try.underlying3 h2
    obtain ⟨q3, e3, _, _⟩ := DataW.trod_string Try.underlying9 h3
    obtain ⟨q4, e4, _, _⟩ := DataW.trod_string Try.underlying9 h4
    obtain ⟨q5, e5, _, _⟩ := DataW.trod_string Try.underlying9 h5
    obtain ⟨q6, e6, _, _⟩ := DataW.trod_int Try.underlying2 h6
    simp only [List.cons.injEq, and_true] at e0 e1 e2 e3 e4 e5 e6
    subst e0 e1 e2 e3 e4 e5 e6
    refine ⟨⟨q0, q1, l, q2, q3, q4, q5, q6⟩, ?_, hl8⟩
    rw [Ed.cells, ← hl]; rfl
theorem open_edit {bb : Nat} {r : Reach} {v : Value} {d : DataW H} {p : List MemPlace} (hv : Value.okWide Try.prog w r bb 28 v) (h : DataW.Trod enc Try.prog w base sp held 28 v d p) : ∃ e : Ed, v = .agg e.cells.toArray ∧ e.seen.length = 8 := by
  obtain ⟨cs, rfl, _⟩ := okWide_struct Try.underlying28 hv
  obtain ⟨fuel, hf⟩ := h
  obtain ⟨e, he, hl⟩ := edit_cells hf
  refine ⟨e, ?_, hl⟩
  rw [← he]; rfl
end
end Go.Proofs.Ytabgkkdgamacnaa
