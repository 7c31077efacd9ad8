/-
  Words and contracts that other texts share, several in one text. No statement of the seat is proved here. Conditions: as each contract says.
  Arrays as arguments: how the row's reading tells them. No statement is proved here. Conditions: none.
  Numbers of 64 bits with a sign. No statement is proved here. Conditions: none.
  Arrays of numbers with a sign, and pairs of them, as arguments: how the row's reading tells them. No statement is proved here. Conditions: none.
  An edit as an argument: how the row's reading tells it. No statement is proved here. Conditions: none.
  Lists of lists of bytes that came in: words that other texts share. No statement is proved here. Conditions: none.
  A list of lists of bytes as an argument: how the row's reading tells it. No statement is proved here. Conditions: none.
  A list of texts in memory. No statement is proved here. Conditions: none.
  A list of edits, a list of texts as arguments: how the row's reading tells them. No statement is proved here. Conditions: none.
  Several books in one memory: which blocks are whose. No statement is proved here. Conditions: none.
  What a book among several tells. No statement is proved here. Conditions: none.
-/
import Derived.Test.YtncjobhpiohkkaaPkA
import Derived.ProofKit
import Derived.LaidMore
import Derived.OpenShut
import Derived.Stop.Joined
import Derived.WideShapes
import Derived.ChangeSlices
import Derived.Test.YtncjobhpiohkkaaPkE
namespace Go.Proofs.Ytncjobhpiohkkaa
open Go.ChangeShapes Go.WideShapes Go.RowKit

section
variable {H : Type} {enc : TypeId × Value → H} {P : Program} {w : World} {base : Nat} {sp : Nat → Bool} {held : Bool} {fuel : Nat}
theorem one_of_slice {cs : List Value} {k : Nat} {v : Value} (h : (cs.drop k).take 1 = [v]) : cs[k]? = some v := by
  have h1 : ((cs.drop k).take 1)[0]? = some v := by rw [h]; rfl
  simpa [List.getElem?_take, List.getElem?_drop] using h1
/-- The cells of a table of numbers that reads as a list. -/
theorem u64_cells {t e : TypeId} {n : Nat} {cs : Array Value} {D : DataW H} {p : List MemPlace} (ht : P.underlying t = some (.array n e)) (he : P.underlying e = some (.int .u64)) (hc : P.cellsOf e = 1)
    (hd : DataW.trod enc P w base sp held fuel t cs.toList = some (D, p)) (zs : List Nat) (hD : D = .agg (zs.map fun (z : Nat) => .lit (.int .u64 (z : Int)))) (k z : Nat) (hz : zs[k]? = some z) : cs[k]? = some (.int .u64 (z : Int)) := by
  obtain ⟨xs, m, rfl, hx, hlen, hn, hel⟩ := DataW.trod_array ht hd
  simp only [Prod.mk.injEq] at hx
  have h1 : zs.map (fun (z : Nat) => (DataW.lit (H := H) (.int .u64 (z : Int)))) = xs.map (·.1) := by
    have := hD.symm.trans hx.1
    injection this
  have hl : zs.length = xs.length := by have := congrArg List.length h1; simpa using this
  have hk : k < zs.length := (List.getElem?_eq_some_iff.1 hz).1
  have h2 := hel k (by omega)
  rw [hc, Nat.mul_one] at h2
  have h3 : xs[k]? = some (xs[k]'(by omega)) := List.getElem?_eq_getElem (by omega)
  rw [h3] at h2
  obtain ⟨q, e1, e2, _⟩ := DataW.trod_int he h2
  have h4 := congrArg (·[k]?) h1
  simp only [List.getElem?_map, hz, h3, e2, Option.map_some, Option.some.injEq, DataW.lit.injEq, Lit.int.injEq, true_and] at h4
  rw [← h4] at e1
  have h5 := one_of_slice e1
  simpa using h5
/-- An array of bytes by value. -/
theorem open_bytes {t e : TypeId} {n b0 : Nat} {r : Reach} {v : Value} {d : DataW H} {p : List MemPlace} (ht : P.underlying t = some (.array n e)) (he : P.underlying e = some (.int .u8)) (hc : P.cellsOf e = 1) (hn : P.cellsOf t = n)
    (hv : Value.okWide P w r b0 t v) (h : DataW.Trod enc P w base sp held t v d p) : ∃ l : List UInt8, v = .agg (bv l).toArray ∧ l.length = n := by
  obtain ⟨cs, rfl⟩ : ∃ cs, v = .agg cs := by
    simp only [Value.okWide, ht] at hv
    obtain ⟨cs, h1, _⟩ := hv
    exact ⟨cs, h1⟩
  obtain ⟨fuel, hf⟩ := h
  obtain ⟨xs, m, rfl, _, hlen, hxl, hel⟩ := DataW.trod_array ht hf
  rw [hn] at hlen
  have hlen' : cs.size = n := by simpa [Value.cells] using hlen
  have hat : ∀ k, k < n → ∃ b : UInt8, cs[k]? = some (.int .u8 (b.toNat : Int)) := by
    intro k hk
    have h2 := hel k hk
    rw [hc, Nat.mul_one] at h2
    have h3 : xs[k]? = some (xs[k]'(by omega)) := List.getElem?_eq_getElem (by omega)
    rw [h3] at h2
    obtain ⟨q, e1, _, hw⟩ := DataW.trod_int he h2
    have h5 := one_of_slice e1
    have h6 : 0 ≤ q ∧ q ≤ 255 := by simpa [Lit.wf, IntKind.min, IntKind.max, IntKind.signed, IntKind.bits] using hw
    refine ⟨UInt8.ofNat q.toNat, ?_⟩
    have h7 : cs[k]? = some (.int .u8 q) := by simpa [Value.cells] using h5
    rw [h7]
    congr 2
    simp
    omega
  refine ⟨cs.toList.map fun v => match v with | .int _ q => UInt8.ofNat q.toNat | _ => 0, ?_, by simpa using hlen'⟩
  congr 1
  apply Array.ext'
  simp only [bv, List.map_map]
  apply List.ext_getElem?
  intro k
  rw [List.getElem?_map]
  by_cases hk : k < n
  · obtain ⟨b, hb⟩ := hat k hk
    have hb' : cs.toList[k]? = some (.int .u8 (b.toNat : Int)) := by simpa using hb
    rw [hb']
    simp
  · rw [List.getElem?_eq_none (by simp; omega)]
    rfl
/-- An array of words by value. -/
theorem open_words {t e : TypeId} {n b0 : Nat} {r : Reach} {v : Value} {d : DataW H} {p : List MemPlace} (ht : P.underlying t = some (.array n e)) (he : P.underlying e = some (.int .u32)) (hc : P.cellsOf e = 1) (hn : P.cellsOf t = n)
    (hv : Value.okWide P w r b0 t v) (h : DataW.Trod enc P w base sp held t v d p) : ∃ l : List Nat, v = .agg (u32v l).toArray ∧ l.length = n ∧ ∀ x ∈ l, x < 4294967296 := by
  obtain ⟨cs, rfl⟩ : ∃ cs, v = .agg cs := by
    simp only [Value.okWide, ht] at hv
    obtain ⟨cs, h1, _⟩ := hv
    exact ⟨cs, h1⟩
  obtain ⟨fuel, hf⟩ := h
  obtain ⟨xs, m, rfl, _, hlen, hxl, hel⟩ := DataW.trod_array ht hf
  rw [hn] at hlen
  have hlen' : cs.size = n := by simpa [Value.cells] using hlen
  have hat : ∀ k, k < n → ∃ b : Nat, b < 4294967296 ∧ cs[k]? = some (.int .u32 (b : Int)) := by
    intro k hk
    have h2 := hel k hk
    rw [hc, Nat.mul_one] at h2
    have h3 : xs[k]? = some (xs[k]'(by omega)) := List.getElem?_eq_getElem (by omega)
    rw [h3] at h2
    obtain ⟨q, e1, _, hw⟩ := DataW.trod_int he h2
    have h5 := one_of_slice e1
    have h6 : 0 ≤ q ∧ q ≤ 4294967295 := by simpa [Lit.wf, IntKind.min, IntKind.max, IntKind.signed, IntKind.bits] using hw
    refine ⟨q.toNat, by omega, ?_⟩
    have h7 : cs[k]? = some (.int .u32 q) := by simpa [Value.cells] using h5
    rw [h7]
    congr 2
    omega
  refine ⟨cs.toList.map fun v => match v with | .int _ q => q.toNat | _ => 0, ?_, by simpa using hlen', ?_⟩
  · congr 1
    apply Array.ext'
    simp only [u32v, List.map_map]
    apply List.ext_getElem?
    intro k
    rw [List.getElem?_map]
    by_cases hk : k < n
    · obtain ⟨b, _, hb⟩ := hat k hk
      have hb' : cs.toList[k]? = some (.int .u32 (b : Int)) := by simpa using hb
      rw [hb']
      simp
    · rw [List.getElem?_eq_none (by simp; omega)]
      rfl
  · intro x hx
    obtain ⟨v, hv2, rfl⟩ := List.mem_map.1 hx
    obtain ⟨k, hk, rfl⟩ := List.mem_iff_getElem.1 hv2
    have hk' : k < n := by simpa [hlen'] using hk
    obtain ⟨b, hb1, hb2⟩ := hat k hk'
    have hb' : cs.toList[k]? = some (.int .u32 (b : Int)) := by simpa using hb2
    rw [List.getElem?_eq_getElem hk] at hb'
    injection hb' with hb'
    rw [hb']
    simpa using hb1
end

theorem u32_of_wf {a : Int} (h : (Lit.int .u32 a).wf = true) : ∃ v : Nat, a = (v : Int) ∧ v < 4294967296 := by
  have h2 : 0 ≤ a ∧ a ≤ 4294967295 := by simpa [Lit.wf, IntKind.min, IntKind.max, IntKind.signed, IntKind.bits] using h
  exact ⟨a.toNat, by omega, by omega⟩
end Go.Proofs.Ytncjobhpiohkkaa
namespace Go.Proofs.Ytncjobhpiohkkaa
open Go.RowKit

/-- Numbers of 64 bits with a sign. -/
def I64s (a : List Int) : Prop := ∀ x ∈ a, -9223372036854775808 ≤ x ∧ x < 9223372036854775808
theorem I64s.at_ {a : List Int} (h : I64s a) {k : Nat} (hk : k < a.length) : (iat a k).toNat < 9223372036854775808 ∧ max (iat a k) 0 = ((iat a k).toNat : Int) := by
  have := h _ (mem_iat hk)
  omega
end Go.Proofs.Ytncjobhpiohkkaa
namespace Go.Proofs.Ytncjobhpiohkkaa
open Go.ChangeShapes Go.WideShapes Go.RowKit

theorem i64_wf_in {a : Int} (h : (Lit.int .i64 a).wf = true) : -9223372036854775808 ≤ a ∧ a < 9223372036854775808 := by
  have h2 : -9223372036854775808 ≤ a ∧ a ≤ 9223372036854775807 := by simpa [Lit.wf, IntKind.min, IntKind.max, IntKind.signed, IntKind.bits] using h
  omega
section
variable {H : Type} {enc : TypeId × Value → H} {P : Program} {w : World} {base : Nat} {sp : Nat → Bool} {held : Bool} {fuel : Nat}
/-- An array of numbers by value. -/
theorem open_longs {t e : TypeId} {n b0 : Nat} {r : Reach} {v : Value} {d : DataW H} {p : List MemPlace} (ht : P.underlying t = some (.array n e)) (he : P.underlying e = some (.int .i64)) (hc : P.cellsOf e = 1) (hn : P.cellsOf t = n)
    (hv : Value.okWide P w r b0 t v) (h : DataW.Trod enc P w base sp held t v d p) : ∃ l : List Int, v = .agg (i64v l).toArray ∧ l.length = n ∧ Hid (I64s l) := by
  obtain ⟨cs, rfl⟩ : ∃ cs, v = .agg cs := by
    simp only [Value.okWide, ht] at hv
    obtain ⟨cs, h1, _⟩ := hv
    exact ⟨cs, h1⟩
  obtain ⟨fuel, hf⟩ := h
  obtain ⟨xs, m, rfl, _, hlen, hxl, hel⟩ := DataW.trod_array ht hf
  rw [hn] at hlen
  have hlen' : cs.size = n := by simpa [Value.cells] using hlen
  have hat : ∀ k, k < n → ∃ b : Int, (-9223372036854775808 ≤ b ∧ b < 9223372036854775808) ∧ cs[k]? = some (.int .i64 b) := by
    intro k hk
    have h2 := hel k hk
    rw [hc, Nat.mul_one] at h2
    have h3 : xs[k]? = some (xs[k]'(by omega)) := List.getElem?_eq_getElem (by omega)
    rw [h3] at h2
    obtain ⟨q, e1, _, hw⟩ := DataW.trod_int he h2
    have h5 := one_of_slice e1
    exact ⟨q, i64_wf_in hw, by simpa [Value.cells] using h5⟩
  refine ⟨cs.toList.map fun v => match v with | .int _ q => q | _ => 0, ?_, by simpa using hlen', ?_⟩
  · congr 1
    apply Array.ext'
    simp only [i64v, List.map_map]
    apply List.ext_getElem?
    intro k
    rw [List.getElem?_map]
    by_cases hk : k < n
    · obtain ⟨b, _, hb⟩ := hat k hk
      have hb' : cs.toList[k]? = some (.int .i64 b) := by simpa using hb
      rw [hb']
      simp
    · rw [List.getElem?_eq_none (by simp; omega)]
      rfl
  · intro x hx
    obtain ⟨v, hv2, rfl⟩ := List.mem_map.1 hx
    obtain ⟨k, hk, rfl⟩ := List.mem_iff_getElem.1 hv2
    have hk' : k < n := by simpa [hlen'] using hk
    obtain ⟨b, hb1, hb2⟩ := hat k hk'
    have hb' : cs.toList[k]? = some (.int .i64 b) := by simpa using hb2
    rw [List.getElem?_eq_getElem hk] at hb'
    injection hb' with hb'
    rw [hb']
    simpa using hb1
/-- A pair of numbers by value. -/
theorem open_pair {t : TypeId} {f0 f1 : Field} {bb : Nat} {r : Reach} {v : Value} {d : DataW H} {p : List MemPlace} (ht : P.underlying t = some (.struct #[f0, f1])) (he : P.underlying f0.type = some (.int .i64)) (hf : P.underlying f1.type = some (.int .i64)) (ho : f0.offset = 0 ∧ f1.offset = 1) (hc : P.cellsOf f0.type = 1) (hc2 : P.cellsOf f1.type = 1) (hn : P.cellsOf t = 2)
    (hv : Value.okWide P w r bb t v) (h : DataW.Trod enc P w base sp held t v d p) : ∃ x y : Int, v = .agg #[.int .i64 x, .int .i64 y] ∧ (-9223372036854775808 ≤ x ∧ x < 9223372036854775808) ∧ (-9223372036854775808 ≤ y ∧ y < 9223372036854775808) := by
  obtain ⟨cs, rfl, hcs⟩ := okWide_struct ht hv
  obtain ⟨fuel, hf'⟩ := h
  obtain ⟨y0, y1, m, _, hl, h0, h1⟩ := trod_struct2 ht hf'
  obtain ⟨l⟩ := cs
  match l, hcs with
  | [v0, v1], _ =>
    simp only [hc, hc2, ho.1, ho.2, Value.cells, List.drop_zero, List.take_succ_cons, List.take_zero, List.drop_succ_cons] at h0 h1
    obtain ⟨q0, e0, _, w0⟩ := DataW.trod_int he h0
    obtain ⟨q1, e1, _, w1⟩ := DataW.trod_int hf h1
    simp only [List.cons.injEq, and_true] at e0 e1
    subst e0 e1
    exact ⟨q0, q1, rfl, i64_wf_in w0, i64_wf_in w1⟩
  | [], h => rw [hn] at h; exact absurd h (by simp)
  | [_], h => rw [hn] at h; exact absurd h (by simp)
  | _ :: _ :: _ :: _, h => rw [hn] at h; exact absurd h (by simp)
end
end Go.Proofs.Ytncjobhpiohkkaa
namespace Go.Proofs.Ytncjobhpiohkkaa
open Go.ChangeShapes Go.WideShapes Go.RowKit

section
variable {H : Type} {enc : TypeId × Value → H} {P : Program} {w : World} {base : Nat} {sp : Nat → Bool} {held : Bool} {fuel : Nat}
theorem longs_cells {t e : TypeId} {n : Nat} {cs : List Value} {y : DataW H × List MemPlace} (ht : P.underlying t = some (.array n e)) (he : P.underlying e = some (.int .i64)) (hc : P.cellsOf e = 1) (hn : P.cellsOf t = n)
    (hf : DataW.trod enc P w base sp held fuel t cs = some y) : ∃ l : List Int, cs = i64v l ∧ l.length = n := by
  obtain ⟨xs, m, rfl, _, hlen, hxl, hel⟩ := DataW.trod_array ht hf
  rw [hn] at hlen
  have hat : ∀ k, k < n → ∃ b : Int, cs[k]? = some (.int .i64 b) := by
    intro k hk
    have h2 := hel k hk
    rw [hc, Nat.mul_one] at h2
    have h3 : xs[k]? = some (xs[k]'(by omega)) := List.getElem?_eq_getElem (by omega)
    rw [h3] at h2
    obtain ⟨q, e1, _, hw⟩ := DataW.trod_int he h2
    exact ⟨q, one_of_slice e1⟩
  refine ⟨cs.map fun v => match v with | .int _ q => q | _ => 0, ?_, by simpa using hlen⟩
  simp only [i64v, List.map_map]
  apply List.ext_getElem?
  intro k
  rw [List.getElem?_map]
  by_cases hk : k < n
  · obtain ⟨b, hb⟩ := hat k hk
    rw [hb]
    simp
  · rw [List.getElem?_eq_none (by omega)]
    rfl
end
section
variable {H : Type} {enc : TypeId × Value → H} {w : World} {base : Nat} {sp : Nat → Bool} {held : Bool}
set_option maxRecDepth 100000 in
theorem edit_cells {fuel : Nat} {cs : List Value} {y : DataW H × List MemPlace} (h : DataW.trod enc Try.prog w base sp held fuel 32 cs = some y) : ∃ e : Ed, cs = e.cells ∧ e.seen.length = 8 := by
  have hci : Try.prog.cellsOf 3 = 1 := by kernel_rfl
  have hcl : Try.prog.cellsOf 2 = 1 := by kernel_rfl
  have hcs1 : Try.prog.cellsOf 9 = 1 := by kernel_rfl
  have hcd : Try.prog.cellsOf 28 = 2 := by kernel_rfl
  have hcv : Try.prog.cellsOf 30 = 8 := by kernel_rfl
  have hce : Try.prog.cellsOf 32 = 15 := by kernel_rfl
  obtain ⟨xs, n2, _, _, hlc, hxl, hfs⟩ := DataW.trod_struct Try.underlying32 h
  rw [hce] at hlc
  match cs, hlc, xs, hxl with
  | [v0, v1, v2, v3, v4, v5, v6, v7, v8, v9, v10, v11, v12, v13, v14], _, [y0, y1, y2, y3, y4, y5, y6], _ =>
    have h0 : DataW.trod enc Try.prog w base sp held n2 28 [v0, v1] = some y0 := by have h := hfs 0 _ rfl; simpa [hcd] using h
    have h1 : DataW.trod enc Try.prog w base sp held n2 30 [v2, v3, v4, v5, v6, v7, v8, v9] = some y1 := by have h := hfs 1 _ rfl; simpa [hcv] using h
    have h2 : DataW.trod enc Try.prog w base sp held n2 3 [v10] = some y2 := by have h := hfs 2 _ rfl; simpa [hci] using h
    have h3 : DataW.trod enc Try.prog w base sp held n2 9 [v11] = some y3 := by have h := hfs 3 _ rfl; simpa [hcs1] using h
    have h4 : DataW.trod enc Try.prog w base sp held n2 9 [v12] = some y4 := by have h := hfs 4 _ rfl; simpa [hcs1] using h
    have h5 : DataW.trod enc Try.prog w base sp held n2 9 [v13] = some y5 := by have h := hfs 5 _ rfl; simpa [hcs1] using h
    have h6 : DataW.trod enc Try.prog w base sp held n2 2 [v14] = some y6 := by have h := hfs 6 _ rfl; simpa [hcl] using h
    obtain ⟨a0, a1, m, _, _, k0, k1⟩ := trod_struct2 Try.underlying28 h0
    simp only [hci, hcl, List.drop_zero, List.take_succ_cons, List.take_zero, List.drop_succ_cons] at k0 k1
    obtain ⟨q0, e0, _, _⟩ := DataW.trod_int Try.underlying3 k0
    obtain ⟨q1, e1, _, _⟩ := DataW.trod_int Try.underlying2 k1
    obtain ⟨l, hl, hl8⟩ := longs_cells Try.underlying30 Try.underlying2 hcl hcv h1
    obtain ⟨q2, e2, _, _⟩ := DataW.trod_int Try.underlying3 h2
    obtain ⟨q3, e3, _, _⟩ := DataW.trod_string Try.underlying9 h3
    obtain ⟨q4, e4, _, _⟩ := DataW.trod_string Try.underlying9 h4
    obtain ⟨q5, e5, _, _⟩ := DataW.trod_string Try.underlying9 h5
    obtain ⟨q6, e6, _, _⟩ := DataW.trod_int Try.underlying2 h6
    simp only [List.cons.injEq, and_true] at e0 e1 e2 e3 e4 e5 e6
    subst e0 e1 e2 e3 e4 e5 e6
    refine ⟨⟨q0, q1, l, q2, q3, q4, q5, q6⟩, ?_, hl8⟩
    rw [Ed.cells, ← hl]; rfl
set_option maxRecDepth 100000 in
theorem open_edit {bb : Nat} {r : Reach} {v : Value} {d : DataW H} {p : List MemPlace} (hv : Value.okWide Try.prog w r bb 32 v) (h : DataW.Trod enc Try.prog w base sp held 32 v d p) : ∃ e : Ed, v = .agg e.cells.toArray ∧ e.seen.length = 8 := by
  obtain ⟨cs, rfl, _⟩ := okWide_struct Try.underlying32 hv
  obtain ⟨fuel, hf⟩ := h
  obtain ⟨e, he, hl⟩ := edit_cells hf
  refine ⟨e, ?_, hl⟩
  rw [← he]; rfl
end
end Go.Proofs.Ytncjobhpiohkkaa
namespace Go.Proofs.Ytncjobhpiohkkaa
open Go.RowKit

/-- A list of lists of bytes that came in. -/
def Prt (w : World) (B : Nat) (A : Option Addr) (ps : List (List UInt8)) : Prop :=
  ps = [] ∨ ∃ b o, A = some ⟨b, o, none⟩ ∧ b < B ∧ ∀ j p, ps[j]? = some p → ∃ Aj nj cj, w.cell? ⟨b, o + j, none⟩ = some (.slice Aj nj cj) ∧ p.length = nj ∧ nj ≤ cj ∧ Byt w B Aj p
section
variable {w w' : World} {B B' : Nat} {A : Option Addr} {ps : List (List UInt8)}
theorem Prt.below (h : Prt w B A ps) (hb : Below B w w') : Prt w' B A ps := by
  rcases h with h | ⟨b, o, hA, hlt, hc⟩
  · exact .inl h
  · refine .inr ⟨b, o, hA, hlt, fun j p hj => ?_⟩
    obtain ⟨Aj, nj, cj, h1, h2, h3, h4⟩ := hc j p hj
    exact ⟨Aj, nj, cj, (hb.cell (p := ⟨b, o + j, none⟩) hlt).trans h1, h2, h3, h4.below hb⟩
theorem Prt.up (h : Prt w B A ps) (hB : B ≤ B') : Prt w B' A ps := by
  rcases h with h | ⟨b, o, hA, hlt, hc⟩
  · exact .inl h
  · refine .inr ⟨b, o, hA, by omega, fun j p hj => ?_⟩
    obtain ⟨Aj, nj, cj, h1, h2, h3, h4⟩ := hc j p hj
    exact ⟨Aj, nj, cj, h1, h2, h3, h4.up hB⟩
theorem Prt.at_ (h : Prt w B A ps) {k : Nat} (hk : k < ps.length) : ∃ b o Aj nj cj p, A = some ⟨b, o, none⟩ ∧ b < B ∧ w.cell? ⟨b, o + k, none⟩ = some (.slice Aj nj cj) ∧ Hid (ps[k]? = some p) ∧ Hid (p.length = nj) ∧ nj ≤ cj ∧ Byt w B Aj p := by
  rcases h with h | ⟨b, o, hA, hlt, hc⟩
  · subst h; simp at hk
  · obtain ⟨Aj, nj, cj, h1, h2, h3, h4⟩ := hc k _ (List.getElem?_eq_getElem hk)
    exact ⟨b, o, Aj, nj, cj, _, hA, hlt, h1, List.getElem?_eq_getElem hk, h2, h3, h4⟩
end
theorem flat_take {ps : List (List UInt8)} {k : Nat} {p : List UInt8} (h : ps[k]? = some p) : (ps.take (k + 1)).flatten = (ps.take k).flatten ++ p := by
  obtain ⟨hk, rfl⟩ := List.getElem?_eq_some_iff.1 h
  rw [List.take_succ_eq_append_getElem hk, List.flatten_append, List.flatten_cons, List.flatten_nil, List.append_nil]
theorem flat_le (ps : List (List UInt8)) (k : Nat) : (ps.take k).flatten.length ≤ ps.flatten.length := by
  have h : ps.flatten.length = ((ps.take k) ++ (ps.drop k)).flatten.length := by rw [List.take_append_drop]
  rw [h, List.flatten_append, List.length_append]; omega
/-- A list of one list. -/
theorem Prt.one {w : World} {E : TypeId} {A : Option Addr} {l : List UInt8} {n c : Nat} (ha : Byt w w.heap.size A l) (hl : l.length = n) (hc : n ≤ c) :
    Prt (w.alloc (.cells #[.slice A n c] E)) (w.alloc (.cells #[.slice A n c] E)).heap.size (some ⟨w.heap.size, 0, none⟩) [l] := by
  refine .inr ⟨w.heap.size, 0, rfl, by simp, fun j p hj => ?_⟩
  match j, hj with
  | 0, hj =>
    simp at hj
    subst hj
    exact ⟨A, n, c, by simp, hl, hc, (ha.alloc (Nat.le_refl _) _).up (by simp)⟩
/-- A list of two lists. -/
theorem Prt.two {w : World} {E : TypeId} {A D : Option Addr} {l m : List UInt8} {n c k d : Nat} (ha : Byt w w.heap.size A l) (hl : l.length = n) (hc : n ≤ c) (hd : Byt w w.heap.size D m) (hm : m.length = k) (hk : k ≤ d) :
    Prt (w.alloc (.cells #[.slice A n c, .slice D k d] E)) (w.alloc (.cells #[.slice A n c, .slice D k d] E)).heap.size (some ⟨w.heap.size, 0, none⟩) [l, m] := by
  refine .inr ⟨w.heap.size, 0, rfl, by simp, fun j p hj => ?_⟩
  match j, hj with
  | 0, hj =>
    simp at hj
    subst hj
    exact ⟨A, n, c, by simp, hl, hc, (ha.alloc (Nat.le_refl _) _).up (by simp)⟩
  | 1, hj =>
    simp at hj
    subst hj
    exact ⟨D, k, d, by simp, hm, hk, (hd.alloc (Nat.le_refl _) _).up (by simp)⟩
theorem Prt.next {w w' : World} {A : Option Addr} {ps : List (List UInt8)} (h : Prt w w.heap.size A ps) (hb : Below w.heap.size w w') : Prt w' w'.heap.size A ps := (h.below hb).up hb.size
end Go.Proofs.Ytncjobhpiohkkaa
namespace Go.Proofs.Ytncjobhpiohkkaa
open Go.ChangeShapes Go.WideShapes Go.RowKit

theorem each_list {α : Type} {Q : Nat → α → Prop} : ∀ n : Nat, (∀ i, i < n → ∃ p, Q i p) → ∃ ps : List α, ps.length = n ∧ ∀ i p, ps[i]? = some p → Q i p
  | 0, _ => ⟨[], rfl, fun i p h => by simp at h⟩
  | n + 1, h => by
    obtain ⟨ps, hl, hq⟩ := each_list n (fun i hi => h i (by omega))
    obtain ⟨p, hp⟩ := h n (by omega)
    refine ⟨ps ++ [p], by simp [hl], fun i q hi => ?_⟩
    by_cases hin : i < n
    · rw [List.getElem?_append_left (by omega)] at hi; exact hq i q hi
    · have hi2 := (List.getElem?_eq_some_iff.1 hi).1
      simp [hl] at hi2
      have : i = n := by omega
      subst this
      rw [List.getElem?_append_right (by omega), hl, Nat.sub_self] at hi
      simp at hi
      subst hi; exact hp
section
variable {H : Type} {enc : TypeId × Value → H} {P : Program} {w : World} {held : Bool}
theorem open_parts {t e u : TypeId} {a : Option Addr} {len cap : Nat} {d : DataW H} {p : List MemPlace} (ht : P.underlying t = some (.slice e)) (he : P.underlying e = some (.slice u)) (hu : P.underlying u = some (.int .u8)) (hce : P.cellsOf e = 1) (hcu : P.cellsOf u = 1)
    (h : DataW.Trod enc P w 0 (fun _ => true) held t (.slice a len cap) d p) : ∃ ps : List (List UInt8), Prt w w.heap.size a ps ∧ ps.length = len ∧ len ≤ cap := by
  obtain ⟨fuel, hf⟩ := h
  rcases DataW.trod_slice ht hf with ⟨hcs, _⟩ | ⟨x, l, c, elems, rest, n, _, hcs, _, _, hl, _, hlen, hel, _⟩
  · simp [Value.cells] at hcs
    obtain ⟨rfl, rfl, rfl⟩ := hcs
    exact ⟨[], .inl rfl, rfl, Nat.le_refl _⟩
  · simp [Value.cells] at hcs
    obtain ⟨rfl, rfl, rfl⟩ := hcs
    have each : ∀ i, i < len → ∃ q : List UInt8, ∃ Aj nj cj, w.cell? (x.add i) = some (.slice Aj nj cj) ∧ q.length = nj ∧ nj ≤ cj ∧ Byt w w.heap.size Aj q := by
      intro i hi
      have hE := hel i hi
      rw [hce, Nat.mul_one, List.getElem?_eq_getElem (by omega), Option.bind_eq_some_iff] at hE
      obtain ⟨c1, hc1, hy⟩ := hE
      have hone : ∃ v, c1 = [v] ∧ w.cell? (x.add i) = some v := by
        obtain ⟨h1, h2, h3⟩ := World.cells?_some hc1
        match c1, h2 with
        | [v], _ => exact ⟨v, rfl, cell_of_cells?_one hc1⟩
      obtain ⟨v, rfl, hv⟩ := hone
      rcases open_ints he hu hcu hy with ⟨hcs, _⟩ | ⟨x2, l2, c2, zs, hcs, _, hl2, hm2, hz, _, hcell, hwz⟩
      · simp at hcs
        subst hcs
        exact ⟨[], none, 0, 0, hv, rfl, Nat.le_refl _, Byt.none_⟩
      · simp at hcs
        subst hcs
        obtain ⟨q, hq1, hq2⟩ := bytes_of_row (.inr ⟨x2, rfl, hl2, hm2, by simpa using hz, hcell, hwz⟩)
        exact ⟨q, some x2, l2, c2, hv, hq2, hl2, hq1⟩
    obtain ⟨ps, hpl, hps⟩ := each_list len each
    refine ⟨ps, ?_, hpl, hl⟩
    rcases Nat.eq_zero_or_pos len with h0 | h0
    · exact .inl (List.eq_nil_of_length_eq_zero (by omega))
    · obtain ⟨q, Aj, nj, cj, hv, _⟩ := each 0 h0
      obtain ⟨b, off, spot⟩ := x
      have hspot : spot = none := by simpa [Addr.add] using World.cell?_spot hv
      subst hspot
      refine .inr ⟨b, off, rfl, ?_, fun j q hj => ?_⟩
      · exact World.block_lt_of_cell? w _ hv
      · obtain ⟨Aj, nj, cj, h1, h2, h3, h4⟩ := hps j q hj
        rw [addr_add] at h1
        exact ⟨Aj, nj, cj, h1, h2, h3, h4⟩
end
end Go.Proofs.Ytncjobhpiohkkaa
namespace Go.Proofs.Ytncjobhpiohkkaa
open Go.RowKit

/-- A list of texts that came in. -/
def Txt (w : World) (B : Nat) (A : Option Addr) (ss : List ByteArray) : Prop :=
  ss = [] ∨ ∃ b o, A = some ⟨b, o, none⟩ ∧ b < B ∧ ∀ j s, ss[j]? = some s → w.cell? ⟨b, o + j, none⟩ = some (.string s)
theorem Txt.below {w w' : World} {B : Nat} {A : Option Addr} {ss : List ByteArray} (h : Txt w B A ss) (hb : Below B w w') : Txt w' B A ss := by
  rcases h with h | ⟨b, o, hA, hlt, hc⟩
  · exact .inl h
  · exact .inr ⟨b, o, hA, hlt, fun j s hj => (hb.cell (p := ⟨b, o + j, none⟩) hlt).trans (hc j s hj)⟩
theorem Txt.at_ {w : World} {B : Nat} {A : Option Addr} {ss : List ByteArray} (h : Txt w B A ss) {k : Nat} (hk : k < ss.length) : ∃ b o s, A = some ⟨b, o, none⟩ ∧ b < B ∧ w.cell? ⟨b, o + k, none⟩ = some (.string s) ∧ Hid (ss[k]? = some s) := by
  rcases h with h | ⟨b, o, hA, hlt, hc⟩
  · subst h; simp at hk
  · exact ⟨b, o, _, hA, hlt, hc k _ (List.getElem?_eq_getElem hk), List.getElem?_eq_getElem hk⟩
theorem Txt.up {w : World} {B B' : Nat} {A : Option Addr} {ss : List ByteArray} (h : Txt w B A ss) (hB : B ≤ B') : Txt w B' A ss := by
  rcases h with h | ⟨b, o, hA, hlt, hc⟩
  · exact .inl h
  · exact .inr ⟨b, o, hA, by omega, hc⟩
theorem Txt.next {w w' : World} {A : Option Addr} {ss : List ByteArray} (h : Txt w w.heap.size A ss) (hb : Below w.heap.size w w') : Txt w' w'.heap.size A ss := (h.below hb).up hb.size
end Go.Proofs.Ytncjobhpiohkkaa
namespace Go.Proofs.Ytncjobhpiohkkaa
open Go.ChangeShapes Go.WideShapes Go.RowKit

/-- A list of edits that came in. -/
def EdsP (w : World) (B : Nat) (A : Option Addr) (es : List Ed) : Prop :=
  es = [] ∨ ∃ g o, A = some ⟨g, o, none⟩ ∧ g < B ∧ ∀ j e, es[j]? = some e → w.rangeAt g (o + j * 15) e.cells ∧ e.seen.length = 8
section
variable {w w' : World} {B B' : Nat} {A : Option Addr} {es : List Ed}
theorem EdsP.below (h : EdsP w B A es) (hb : Below B w w') : EdsP w' B A es := by
  rcases h with h | ⟨g, o, hA, hg, hc⟩
  · exact .inl h
  · exact .inr ⟨g, o, hA, hg, fun j e hj => ⟨fun i v hv => (hb.cell (p := ⟨g, o + j * 15 + i, none⟩) hg).trans ((hc j e hj).1 i v hv), (hc j e hj).2⟩⟩
theorem EdsP.up (h : EdsP w B A es) (hB : B ≤ B') : EdsP w B' A es := by
  rcases h with h | ⟨g, o, hA, hg, hc⟩
  · exact .inl h
  · exact .inr ⟨g, o, hA, by omega, hc⟩
theorem EdsP.next (h : EdsP w w.heap.size A es) (hb : Below w.heap.size w w') : EdsP w' w'.heap.size A es := (h.below hb).up hb.size
theorem EdsP.at_ (h : EdsP w B A es) {k : Nat} (hk : k < es.length) : ∃ g o e, A = some ⟨g, o, none⟩ ∧ g < B ∧ w.rangeAt g (o + k * 15) e.cells ∧ Hid (e.seen.length = 8) ∧ Hid (es[k]? = some e) := by
  rcases h with h | ⟨g, o, hA, hg, hc⟩
  · subst h; simp at hk
  · have h1 := hc k _ (List.getElem?_eq_getElem hk)
    exact ⟨g, o, _, hA, hg, h1.1, h1.2, List.getElem?_eq_getElem hk⟩
end
section
variable {H : Type} {enc : TypeId × Value → H} {w : World} {held : Bool}
set_option maxRecDepth 100000 in
theorem open_edits {t : TypeId} {a : Option Addr} {len cap : Nat} {d : DataW H} {p : List MemPlace} (ht : Try.prog.underlying t = some (.slice 32)) (h : DataW.Trod enc Try.prog w 0 (fun _ => true) held t (.slice a len cap) d p) :
    ∃ es : List Ed, EdsP w w.heap.size a es ∧ es.length = len ∧ len ≤ cap := by
  have hce : Try.prog.cellsOf 32 = 15 := by kernel_rfl
  obtain ⟨fuel, hf⟩ := h
  rcases DataW.trod_slice ht hf with ⟨hcs, _⟩ | ⟨x, l, c, elems, rest, n, _, hcs, _, _, hl, _, hlen, hel, _⟩
  · simp [Value.cells] at hcs
    obtain ⟨rfl, rfl, rfl⟩ := hcs
    exact ⟨[], .inl rfl, rfl, Nat.le_refl _⟩
  · simp [Value.cells] at hcs
    obtain ⟨rfl, rfl, rfl⟩ := hcs
    have each : ∀ i, i < len → ∃ e : Ed, (∀ j v, e.cells[j]? = some v → w.cell? ((x.add (i * 15)).add j) = some v) ∧ e.seen.length = 8 := by
      intro i hi
      have hE := hel i hi
      rw [hce, List.getElem?_eq_getElem (by omega), Option.bind_eq_some_iff] at hE
      obtain ⟨c1, hc1, hy⟩ := hE
      obtain ⟨_, hlc, hcell⟩ := World.cells?_some hc1
      obtain ⟨e, he, hl8⟩ := edit_cells hy
      refine ⟨e, fun j v hj => ?_, hl8⟩
      have hj15 : j < 15 := by
        have := (List.getElem?_eq_some_iff.1 hj).1
        rw [Ed.cells_len hl8] at this; exact this
      rw [hcell j hj15, he]
      exact hj
    obtain ⟨es, hal, has⟩ := each_list len each
    refine ⟨es, ?_, hal, hl⟩
    rcases Nat.eq_zero_or_pos len with h0 | h0
    · exact .inl (List.eq_nil_of_length_eq_zero (by omega))
    · obtain ⟨e, hv, _⟩ := each 0 h0
      have hv0 := hv 0 (.int .i64 e.dev) rfl
      obtain ⟨b, off, spot⟩ := x
      have hspot : spot = none := by simpa [Addr.add] using World.cell?_spot hv0
      subst hspot
      refine .inr ⟨b, off, rfl, World.block_lt_of_cell? w _ hv0, fun j e hj => ⟨fun k v hk => ?_, (has j e hj).2⟩⟩
      have h := (has j e hj).1 k v hk
      rw [addr_add, addr_add] at h
      exact h
theorem open_texts {P : Program} {t e : TypeId} {a : Option Addr} {len cap : Nat} {d : DataW H} {p : List MemPlace} (ht : P.underlying t = some (.slice e)) (he : P.underlying e = some .string) (hce : P.cellsOf e = 1) (h : DataW.Trod enc P w 0 (fun _ => true) held t (.slice a len cap) d p) :
    ∃ ss : List ByteArray, Txt w w.heap.size a ss ∧ ss.length = len ∧ len ≤ cap ∧ ∀ s ∈ ss, s.size ≤ maxLen := by
  obtain ⟨fuel, hf⟩ := h
  rcases DataW.trod_slice ht hf with ⟨hcs, _⟩ | ⟨x, l, c, elems, rest, n, _, hcs, _, _, hl, _, hlen, hel, _⟩
  · simp [Value.cells] at hcs
    obtain ⟨rfl, rfl, rfl⟩ := hcs
    exact ⟨[], .inl rfl, rfl, Nat.le_refl _, fun s hs => absurd hs (by simp)⟩
  · simp [Value.cells] at hcs
    obtain ⟨rfl, rfl, rfl⟩ := hcs
    have each : ∀ i, i < len → ∃ s : ByteArray, w.cell? (x.add i) = some (.string s) ∧ s.size ≤ maxLen := by
      intro i hi
      have hE := hel i hi
      rw [hce, Nat.mul_one, List.getElem?_eq_getElem (by omega), Option.bind_eq_some_iff] at hE
      obtain ⟨c1, hc1, hy⟩ := hE
      obtain ⟨h1, h2, h3⟩ := World.cells?_some hc1
      match c1, h2 with
      | [v], _ =>
        obtain ⟨s, e1, _, hw⟩ := DataW.trod_string he hy
        simp only [List.cons.injEq, and_true] at e1
        subst e1
        exact ⟨s, cell_of_cells?_one hc1, hw⟩
    obtain ⟨ss, hal, has⟩ := each_list len each
    refine ⟨ss, ?_, hal, hl, fun s hs => ?_⟩
    · rcases Nat.eq_zero_or_pos len with h0 | h0
      · exact .inl (List.eq_nil_of_length_eq_zero (by omega))
      · obtain ⟨s, hv, _⟩ := each 0 h0
        obtain ⟨b, off, spot⟩ := x
        have hspot : spot = none := by simpa [Addr.add] using World.cell?_spot hv
        subst hspot
        refine .inr ⟨b, off, rfl, World.block_lt_of_cell? w _ hv, fun j s hj => ?_⟩
        have h := (has j s hj).1
        rw [addr_add] at h
        exact h
    · obtain ⟨k, hk, rfl⟩ := List.mem_iff_getElem.1 hs
      exact (has k _ (List.getElem?_eq_getElem hk)).2
end
end Go.Proofs.Ytncjobhpiohkkaa
namespace Go.Proofs.Ytncjobhpiohkkaa
open Go.RowKit

/-- The k-th book lies in the blocks of colour k, all above B. -/
def Bks (B : Nat) (w : World) (S : List (Nat × List Ed)) : Prop := ∃ O : Nat → Nat, ∀ k b L, S[k]? = some (b, L) → BkF w (fun i => O i = k ∧ B ≤ i) b L
section
variable {B : Nat} {w w' : World} {S : List (Nat × List Ed)} {k b : Nat} {L M : List Ed}
theorem Bks.nil (B : Nat) (w : World) : Bks B w [] := ⟨fun _ => 0, fun k b L h => by simp at h⟩
theorem Bks.get (h : Bks B w S) (hk : S[k]? = some (b, L)) : ∃ F : Nat → Prop, BkF w F b L ∧ ∀ i, F i → B ≤ i := by
  obtain ⟨O, hO⟩ := h
  exact ⟨_, hO k b L hk, fun i h => h.2⟩
theorem Bks.good (h : Bks B w S) (hk : S[k]? = some (b, L)) : BGood L := by
  obtain ⟨F, hb, _⟩ := h.get hk
  exact hb.good
theorem Bks.next (h : Bks B w S) (hb : Below w.heap.size w w') : Bks B w' S := by
  obtain ⟨O, hO⟩ := h
  exact ⟨O, fun k b L hk => (hO k b L hk).next hb⟩
theorem Bks.more (h : Bks B w S) (hB : B ≤ w.heap.size) (hb : Below w.heap.size w w') (hN : BkF w' (fun i => w.heap.size ≤ i) b L) : Bks B w' (S ++ [(b, L)]) := by
  obtain ⟨O, hO⟩ := h
  refine ⟨fun i => if i < w.heap.size then O i else S.length, fun k c M hk => ?_⟩
  rcases Nat.lt_or_ge k S.length with hlt | hge
  · rw [List.getElem?_append_left hlt] at hk
    refine ((hO k c M hk).mono (G := fun i => (if i < w.heap.size then O i else S.length) = k ∧ B ≤ i) fun i hi hF => ?_).next hb
    show (if i < w.heap.size then O i else S.length) = k ∧ B ≤ i
    rw [if_pos hi]; exact hF
  · rw [List.getElem?_append_right hge] at hk
    have h0 : k - S.length = 0 := by
      rcases Nat.eq_zero_or_pos (k - S.length) with h0 | h0
      · exact h0
      · rw [List.getElem?_eq_none (by simp; omega)] at hk; cases hk
    rw [h0] at hk
    simp only [List.getElem?_cons_zero, Option.some.injEq, Prod.mk.injEq] at hk
    obtain ⟨rfl, rfl⟩ := hk
    refine hN.mono fun i _ hF => ?_
    show (if i < w.heap.size then O i else S.length) = k ∧ B ≤ i
    rw [if_neg (by omega)]
    exact ⟨by omega, by omega⟩
/-- One of them turns. -/
theorem Bks.turn (h : Bks B w S) (hk : S[k]? = some (b, L)) (hc : ∀ F : Nat → Prop, BkF w F b L → BkF w' (fun i => F i ∨ w.heap.size ≤ i) b M ∧ Off F w w') (hB : B ≤ w.heap.size) : Bks B w' (S.set k (b, M)) := by
  obtain ⟨O, hO⟩ := h
  obtain ⟨h1, h2⟩ := hc _ (hO k b L hk)
  have hlk : k < S.length := (List.getElem?_eq_some_iff.1 hk).1
  refine ⟨fun i => if i < w.heap.size then O i else k, fun j c P hj => ?_⟩
  by_cases hjk : k = j
  · subst hjk
    rw [List.getElem?_set_self hlk] at hj
    simp only [Option.some.injEq, Prod.mk.injEq] at hj
    obtain ⟨rfl, rfl⟩ := hj
    refine h1.mono fun i _ hF => ?_
    show (if i < w.heap.size then O i else k) = k ∧ B ≤ i
    by_cases hi : i < w.heap.size
    · rw [if_pos hi]
      rcases hF with hF | hF
      · exact hF
      · omega
    · rw [if_neg hi]
      exact ⟨rfl, by omega⟩
  · rw [List.getElem?_set_ne hjk] at hj
    refine ((hO j c P hj).mono (G := fun i => (if i < w.heap.size then O i else k) = j ∧ B ≤ i) fun i hi hF => ?_).off h2 fun i hi hF hG => ?_
    · show (if i < w.heap.size then O i else k) = j ∧ B ≤ i
      rw [if_pos hi]; exact hF
    · have hF1 := hF.1
      rw [if_pos hi] at hF1
      exact hjk (hG.1.symm.trans hF1)
end
section
variable {w0 w : World} {S : List (Nat × List Ed)} {b : Nat} {L M : List Ed} {r : Int} (h : Bks w0.heap.size w S) (hl : Below w0.heap.size w0 w)
include h hl
theorem new_bs : Calls Try.prog 10 #[] w fun x w' => ∃ N, x = .returned (.pointer (some ⟨N, 0, none⟩)) ∧ Bks w0.heap.size w' (S ++ [(N, [])]) ∧ Below w0.heap.size w0 w' ∧ Below w.heap.size w w' := by
  refine (new_any w).mono ?_
  rintro x w' ⟨N, rfl, h1, h2⟩
  exact ⟨N, rfl, h.more hl.size h2 h1, below_next hl hl.size h2, h2⟩
variable (k : Nat) (hk : S[k]? = some (b, L))
include hk
theorem copy_bs : Calls Try.prog 14 #[.pointer (some ⟨b, 0, none⟩)] w fun x w' => ∃ N, x = .returned (.pointer (some ⟨N, 0, none⟩)) ∧ Bks w0.heap.size w' (S ++ [(N, L)]) ∧ Below w0.heap.size w0 w' := by
  obtain ⟨F, hb, _⟩ := h.get hk
  refine (copy_any hb).mono ?_
  rintro x w' ⟨N, rfl, h1, h2⟩
  exact ⟨N, rfl, h.more hl.size h2 h1, below_next hl hl.size h2⟩
theorem add_bs (e : Ed) (he : e.seen.length = 8) (hr : badd L e = (M, r)) :
    Calls Try.prog 11 #[.pointer (some ⟨b, 0, none⟩), .agg e.cells.toArray] w fun x w' => x = .returned (.int .i64 r) ∧ Bks w0.heap.size w' (S.set k (b, M)) ∧ Below w0.heap.size w0 w' := by
  obtain ⟨O, hO⟩ := h
  refine (add_any (hO k b L hk) e he).mono ?_
  rintro x w' ⟨rfl, h1, h2⟩
  rw [hr] at h1 ⊢
  refine ⟨rfl, ?_, h2.below hl (fun i hi => hi.2) hl.size⟩
  have hlk : k < S.length := (List.getElem?_eq_some_iff.1 hk).1
  refine ⟨fun i => if i < w.heap.size then O i else k, fun j c P hj => ?_⟩
  by_cases hjk : k = j
  · subst hjk
    rw [List.getElem?_set_self hlk] at hj
    simp only [Option.some.injEq, Prod.mk.injEq] at hj
    obtain ⟨rfl, rfl⟩ := hj
    refine h1.mono fun i _ hF => ?_
    show (if i < w.heap.size then O i else k) = k ∧ w0.heap.size ≤ i
    have hs := hl.size
    by_cases hi : i < w.heap.size
    · rw [if_pos hi]
      rcases hF with hF | hF
      · exact hF
      · omega
    · rw [if_neg hi]
      exact ⟨rfl, by omega⟩
  · rw [List.getElem?_set_ne hjk] at hj
    refine ((hO j c P hj).mono (G := fun i => (if i < w.heap.size then O i else k) = j ∧ w0.heap.size ≤ i) fun i hi hF => ?_).off h2 fun i hi hF hG => ?_
    · show (if i < w.heap.size then O i else k) = j ∧ w0.heap.size ≤ i
      rw [if_pos hi]; exact hF
    · have hF1 := hF.1
      rw [if_pos hi] at hF1
      exact hjk (hG.1.symm.trans hF1)
theorem merge_bs {k2 b2 : Nat} {L2 : List Ed} (hk2 : S[k2]? = some (b2, L2)) (hr : bmerge L L2 = (M, r)) :
    Calls Try.prog 16 #[.pointer (some ⟨b, 0, none⟩), .pointer (some ⟨b2, 0, none⟩)] w fun x w' => x = .returned (.int .i64 r) ∧ Bks w0.heap.size w' (S.set k (b, M)) ∧ Below w0.heap.size w0 w' := by
  obtain ⟨O, hO⟩ := h
  have hFb := (hO k b L hk).1
  refine (merge_any (hO k b L hk) (hO k2 b2 L2 hk2)).mono ?_
  rintro x w' ⟨rfl, h1, h3⟩
  have h2 : Off (fun i => O i = k ∧ w0.heap.size ≤ i) w w' := h3.mono fun i hi hF => by subst hF; exact hFb
  rw [hr] at h1 ⊢
  refine ⟨rfl, ?_, h2.below hl (fun i hi => hi.2) hl.size⟩
  have hlk : k < S.length := (List.getElem?_eq_some_iff.1 hk).1
  refine ⟨fun i => if i < w.heap.size then O i else k, fun j c P hj => ?_⟩
  by_cases hjk : k = j
  · subst hjk
    rw [List.getElem?_set_self hlk] at hj
    simp only [Option.some.injEq, Prod.mk.injEq] at hj
    obtain ⟨rfl, rfl⟩ := hj
    refine h1.mono fun i _ hF => ?_
    show (if i < w.heap.size then O i else k) = k ∧ w0.heap.size ≤ i
    have hs := hl.size
    by_cases hi : i < w.heap.size
    · rw [if_pos hi]
      rcases hF with hF | hF
      · exact hF
      · omega
    · rw [if_neg hi]
      exact ⟨rfl, by omega⟩
  · rw [List.getElem?_set_ne hjk] at hj
    refine ((hO j c P hj).mono (G := fun i => (if i < w.heap.size then O i else k) = j ∧ w0.heap.size ≤ i) fun i hi hF => ?_).off h2 fun i hi hF hG => ?_
    · show (if i < w.heap.size then O i else k) = j ∧ w0.heap.size ≤ i
      rw [if_pos hi]; exact hF
    · have hF1 := hF.1
      rw [if_pos hi] at hF1
      exact hjk (hG.1.symm.trans hF1)
theorem same_bs {k2 b2 : Nat} {L2 : List Ed} (hk2 : S[k2]? = some (b2, L2)) (o : Bool) (ho : decide (L = L2) = o) :
    Calls Try.prog 15 #[.pointer (some ⟨b, 0, none⟩), .pointer (some ⟨b2, 0, none⟩)] w fun x w' => x = .returned (.bool o) ∧ Bks w0.heap.size w' S ∧ Below w0.heap.size w0 w' := by
  obtain ⟨F, hb, _⟩ := h.get hk
  obtain ⟨F2, hb2, _⟩ := h.get hk2
  refine (same_any hb hb2 o ho).mono ?_
  rintro x w' ⟨rfl, h2⟩
  exact ⟨rfl, h.next h2, below_next hl hl.size h2⟩
theorem edits_bs : Calls Try.prog 22 #[.pointer (some ⟨b, 0, none⟩)] w fun x w' => ∃ A c, x = .returned (.slice A L.length c) ∧ ER w' A L ∧ Bks w0.heap.size w' S ∧ Below w0.heap.size w0 w' := by
  obtain ⟨F, hb, _⟩ := h.get hk
  refine (edits_any hb).mono ?_
  rintro x w' ⟨A, c, rfl, h1, h2, _⟩
  exact ⟨A, c, rfl, own_er h1 rfl, h.next h2, below_next hl hl.size h2⟩
end
/-- One more, in a book that has all that is new. -/
theorem add_fence {w : World} {F : Nat → Prop} {b : Nat} {L M : List Ed} {r : Int} (hb : BkF w F b L) (e : Ed) (he : e.seen.length = 8) (hF : ∀ i, w.heap.size ≤ i → F i) (hr : badd L e = (M, r)) :
    Calls Try.prog 11 #[.pointer (some ⟨b, 0, none⟩), .agg e.cells.toArray] w fun x w' => x = .returned (.int .i64 r) ∧ BkF w' F b M ∧ Off F w w' := by
  refine (add_any hb e he).mono ?_
  rintro x w' ⟨rfl, h1, h2⟩
  rw [hr] at h1 ⊢
  exact ⟨rfl, h1.mono fun i _ h => h.elim id (hF i), h2⟩
/-- An edit of a list that came in. -/
theorem EdsP.rng {w : World} {A : Option Addr} {es : List Ed} (h : EdsP w w.heap.size A es) {i : Nat} (hi : i < es.length) : ∃ g o e, A = some ⟨g, o, none⟩ ∧ Hid (es[i]? = some e) ∧ Hid (e.seen.length = 8) ∧ ∀ w', Below w.heap.size w w' → w'.rangeAt g (o + i * 15) e.cells := by
  rcases h with h | ⟨g, o, hA, hg, hc⟩
  · subst h; simp at hi
  · refine ⟨g, o, es[i], hA, List.getElem?_eq_getElem hi, (hc i _ (List.getElem?_eq_getElem hi)).2, fun w' hb j v hj => ?_⟩
    exact (hb.cell (p := ⟨g, o + i * 15 + j, none⟩) hg).trans ((hc i _ (List.getElem?_eq_getElem hi)).1 j v hj)
theorem badds_step {L : List Ed} {es : List Ed} {i : Nat} {e : Ed} (hx : es[i]? = some e) : badds L (es.take (i + 1)) = (badd (badds L (es.take i)) e).1 := by
  rw [List.take_add_one, hx, badds, badds, List.foldl_append]; rfl
theorem badds_few {es : List Ed} : ∀ {L : List Ed}, (badds L es).length ≤ L.length + es.length := by
  induction es with
  | nil => intro L; simp [badds]
  | cons e es ih =>
    intro L
    have h1 := ih (L := (badd L e).1)
    have h2 := badd_len (L := L) (e := e)
    rw [show badds L (e :: es) = badds (badd L e).1 es from rfl, List.length_cons]
    omega
end Go.Proofs.Ytncjobhpiohkkaa
namespace Go.Proofs.Ytncjobhpiohkkaa
open Go.RowKit

theorem contacts_rd {B : Nat} {w : World} {S : List (Nat × List Ed)} {b : Nat} {L : List Ed} (h : Bks B w S) (k : Nat) (hk : S[k]? = some (b, L)) : Calls Try.prog 19 #[.pointer (some ⟨b, 0, none⟩)] w fun x w' => ∃ A c, x = .returned (.slice A (bcons L).length c) ∧ TR w' A (bcons L) ∧ Below w.heap.size w w' := by
  obtain ⟨F, hb, _⟩ := h.get hk
  exact contacts_any hb
theorem fields_rd {B : Nat} {w : World} {S : List (Nat × List Ed)} {b : Nat} {L : List Ed} (h : Bks B w S) (k : Nat) (hk : S[k]? = some (b, L)) (q : ByteArray) : Calls Try.prog 20 #[.pointer (some ⟨b, 0, none⟩), .string q] w fun x w' => ∃ A c, x = .returned (.slice A (bflds L q).length c) ∧ TR w' A (bflds L q) ∧ Below w.heap.size w w' := by
  obtain ⟨F, hb, _⟩ := h.get hk
  exact fields_any hb q
theorem all_rd {B : Nat} {w : World} {S : List (Nat × List Ed)} {b : Nat} {L : List Ed} (h : Bks B w S) (k : Nat) (hk : S[k]? = some (b, L)) (q f : ByteArray) {n : Nat} (hn : (ball L q f).length = n) : Calls Try.prog 25 #[.pointer (some ⟨b, 0, none⟩), .string q, .string f] w fun x w' => (∃ A c, x = .returned (.slice A n c) ∧ TR w' A (ball L q f)) ∧ Below w.heap.size w w' := by
  obtain ⟨F, hb, _⟩ := h.get hk
  refine (all_any hb q f).mono ?_
  rintro x w' ⟨A, c, rfl, h1, h2⟩
  exact ⟨⟨A, c, by rw [hn], h1⟩, h2⟩
theorem vec_rd {B : Nat} {w : World} {S : List (Nat × List Ed)} {b : Nat} {L : List Ed} (h : Bks B w S) (k : Nat) (hk : S[k]? = some (b, L)) : Calls Try.prog 17 #[.pointer (some ⟨b, 0, none⟩)] w fun x w' => x = .returned (.agg (i64v (bvec L)).toArray) ∧ Below w.heap.size w w' := by
  obtain ⟨F, hb, _⟩ := h.get hk
  exact vec_any hb
theorem edits_rd {B : Nat} {w : World} {S : List (Nat × List Ed)} {b : Nat} {L : List Ed} (h : Bks B w S) (k : Nat) (hk : S[k]? = some (b, L)) : Calls Try.prog 22 #[.pointer (some ⟨b, 0, none⟩)] w fun x w' => ∃ A c, x = .returned (.slice A L.length c) ∧ ER w' A L ∧ Below w.heap.size w w' := by
  obtain ⟨F, hb, _⟩ := h.get hk
  refine (edits_any hb).mono ?_
  rintro x w' ⟨A, c, rfl, h1, h2, _⟩
  exact ⟨A, c, rfl, own_er h1 rfl, h2⟩
theorem badd_stays {L M : List Ed} {e : Ed} {r : Int} (h : badd L e = (M, r)) (hr : r ≠ 0) : M = L := by
  rw [badd] at h
  split at h
  · split at h
    · cases h; exact absurd rfl hr
    · split at h
      · cases h; rfl
      · split at h
        · cases h; rfl
        · cases h; exact absurd rfl hr
  · cases h; rfl
end Go.Proofs.Ytncjobhpiohkkaa
