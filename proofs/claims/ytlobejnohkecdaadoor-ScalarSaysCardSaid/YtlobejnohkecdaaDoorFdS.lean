/-
  Numbers in four pieces of 64 bits: words that the contracts of field share. No statement is proved here. Conditions: none.
-/
import Derived.Test.YtlobejnohkecdaaDoorOctBD
import Derived.Test.YtlobejnohkecdaaDoorOctCD
import Derived.Test.YtlobejnohkecdaaDoorNew
import Derived.Laws.Externs
import Derived.Laws.ResultCell
import Derived.Lib.Mul64
namespace Go.Proofs.YtlobejnohkecdaaDoor
open Go.RowKit

/-- The prime; 2^64; 2^256. -/
def FP : Nat := 57896044618658097711785492504343953926634992332820282019728792003956564819949
theorem fp_eq : FP = 57896044618658097711785492504343953926634992332820282019728792003956564819949 := rfl
/-- A number in four pieces. -/
def n4 (a b c d : Nat) : Nat := a + 18446744073709551616 * b + 340282366920938463463374607431768211456 * c + 6277101735386680763835789423207666416102355444464034512896 * d
abbrev B64 : Nat := 18446744073709551616
theorem n4_lt (a b c d : Nat) (ha : a < B64) (hb : b < B64) (hc : c < B64) (hd : d < B64) : n4 a b c d < 115792089237316195423570985008687907853269984665640564039457584007913129639936 := by
  simp only [n4, B64] at *; omega
/-- The pieces of a number. -/
theorem n4_split (N : Nat) (h : N < 115792089237316195423570985008687907853269984665640564039457584007913129639936) :
    ∃ a b c d, n4 a b c d = N ∧ a < B64 ∧ b < B64 ∧ c < B64 ∧ d < B64 :=
  ⟨N % B64, N / B64 % B64, N / B64 / B64 % B64, N / B64 / B64 / B64, by simp only [n4, B64]; omega, by simp only [B64]; omega, by simp only [B64]; omega, by simp only [B64]; omega, by simp only [B64]; omega⟩
theorem n4_inj {a b c d a' b' c' d' : Nat} (ha : a < B64) (hb : b < B64) (hc : c < B64) (ha' : a' < B64) (hb' : b' < B64) (hc' : c' < B64)
    (h : n4 a b c d = n4 a' b' c' d') : a = a' ∧ b = b' ∧ c = c' ∧ d = d' := by
  simp only [n4, B64] at *; omega
/-- A new number's variable. -/
def z4 : List Nat := List.replicate 4 0
theorem sum4 (a0 a1 a2 a3 b0 b1 b2 b3 c0 c1 c2 c3 o0 o1 o2 o3 : Nat) (h0 : a0 + b0 + 0 = c0 + 18446744073709551616 * o0) (h1 : a1 + b1 + o0 = c1 + 18446744073709551616 * o1) (h2 : a2 + b2 + o1 = c2 + 18446744073709551616 * o2) (h3 : a3 + b3 + o2 = c3 + 18446744073709551616 * o3) :
    n4 c0 c1 c2 c3 + 115792089237316195423570985008687907853269984665640564039457584007913129639936 * o3 = n4 a0 a1 a2 a3 + n4 b0 b1 b2 b3 := by
  simp only [n4]; omega
theorem row4 (v a0 a1 a2 a3 b0 b1 b2 b3 c0 c1 c2 c3 o0 o1 o2 o3 : Nat) (h0 : c0 + 18446744073709551616 * o0 = v * a0 + b0 + 0) (h1 : c1 + 18446744073709551616 * o1 = v * a1 + b1 + o0) (h2 : c2 + 18446744073709551616 * o2 = v * a2 + b2 + o1) (h3 : c3 + 18446744073709551616 * o3 = v * a3 + b3 + o2) :
    n4 c0 c1 c2 c3 + 115792089237316195423570985008687907853269984665640564039457584007913129639936 * o3 = v * n4 a0 a1 a2 a3 + n4 b0 b1 b2 b3 := by
  simp only [n4]; grind
/-- Four cells written. -/
theorem set_four {W : World} {g : Nat} {t : TypeId} {l : List Nat} (hl : l.length = 4) (hg : W.heap[g]? = some (.cells (u64v l).toArray t (0, 0))) (a b c d : Nat) :
    ∃ w3, ((((W.setCell ⟨g, 0, none⟩ (.int .u64 (a : Int))).setCell ⟨g, 1, none⟩ (.int .u64 (b : Int))).setCell ⟨g, 2, none⟩ (.int .u64 (c : Int))).setCell ⟨g, 3, none⟩ (.int .u64 (d : Int))) = w3 ∧
      Hid (w3.heap[g]? = some (.cells (u64v [a, b, c, d]).toArray t (0, 0))) ∧ But g W w3 := by
  refine ⟨_, rfl, ?_, ((((But.refl g W).set _).set _).set _).set _⟩
  have h1 := (world_set_cell (world_set_cell (world_set_cell (world_set_cell hg 0 (.int .u64 (a : Int))).out 1 (.int .u64 (b : Int))).out 2 (.int .u64 (c : Int))).out 3 (.int .u64 (d : Int))).out
  rw [u64v_set, u64v_set, u64v_set, u64v_set] at h1
  match l, hl with
  | [_, _, _, _], _ => exact h1
theorem results_row_tmp {P : Program} {fn : Func} {p u : Tmp} {ty : TypeId} (h : fn.results = #[.cell p ty, .tmp u]) (tmps : Array Value) (w : World) (g : Nat) (t : TypeId) (cs : Array Value) (fr : Nat × Nat) (d : TypeDesc)
    (hp : tmps.getD p undef = .pointer (some ⟨g, 0, none⟩)) (hg : w.heap[g]? = some (.cells cs t fr))
    (hu : P.underlying ty = some d) (hd : (match d with | .struct _ | .array _ _ => true | _ => false) = true) (hi : (P.info? ty).map (·.size) = some cs.size) (v : Value) (hv : tmps.getD u undef = v) :
    (results fn tmps).run P w = .ok (.tuple #[.agg cs, v]) w := by
  rw [results_cell_tmp h, hp, hv]
  simp [asAddr, run_loadVar_row w g t ty cs fr d hg hu hd hi, Result.andThen]
section
variable {P : Program}
theorem add64_ex {f : Nat} (hf : ∀ args w, (callFunc f args).run P w = ((add64Entry args).run P w).andThen fun v w1 => .ok (.value v) w1) (x y c : Nat) (hx : x < B64) (hy : y < B64) (hc : c ≤ 1) :
    ∃ s o : Nat, (∀ w, (callFunc f #[.int .u64 (x : Int), .int .u64 (y : Int), .int .u64 (c : Int)]).run P w = .ok (.value (.tuple #[.int .u64 (s : Int), .int .u64 (o : Int)])) w) ∧ Vlt (x + y + c = s + 18446744073709551616 * o) ∧ s < B64 ∧ o ≤ 1 := by
  refine ⟨(x + y + c) % 18446744073709551616, (x + y + c) / 18446744073709551616, fun w => ?_, vlt (by omega), by simp only [B64] at *; omega, by simp only [B64] at *; omega⟩
  rw [hf, run_add64 x y c (by omega) (by omega) (by omega) (by omega)]
  simp only [Result.andThen]
  congr 5
theorem add64_ex0 {f : Nat} (hf : ∀ args w, (callFunc f args).run P w = ((add64Entry args).run P w).andThen fun v w1 => .ok (.value v) w1) (x y : Nat) (hx : x < B64) (hy : y < B64) :
    ∃ s o : Nat, (∀ w, (callFunc f #[.int .u64 (x : Int), .int .u64 (y : Int), .int .u64 0]).run P w = .ok (.value (.tuple #[.int .u64 (s : Int), .int .u64 (o : Int)])) w) ∧ Vlt (x + y + 0 = s + 18446744073709551616 * o) ∧ s < B64 ∧ o ≤ 1 :=
  add64_ex hf x y 0 hx hy (by decide)
end
end Go.Proofs.YtlobejnohkecdaaDoor
