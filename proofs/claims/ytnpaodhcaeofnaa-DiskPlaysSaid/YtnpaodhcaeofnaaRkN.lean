/-
  What the document's own Crash leaves of a file; the contract of its stays. Conditions: none.
-/
import Derived.Test.YtnpaodhcaeofnaaRkM
namespace Go.Proofs.Ytnpaodhcaeofnaa
open Go.RowKit

/-- One more than the number of the last that stays, of the first k. -/
def lastTo (keep : Nat) : Nat → Nat
  | 0 => 0
  | k + 1 => if stays keep k then k + 1 else lastTo keep k
theorem lastTo_le (keep : Nat) : ∀ k, lastTo keep k ≤ k
  | 0 => Nat.le_refl _
  | k + 1 => by
    unfold lastTo
    split
    · exact Nat.le_refl _
    · exact Nat.le_succ_of_le (lastTo_le keep k)
def zero (keep k : Nat) (w : List UInt8) : List UInt8 := if stays keep k then w else List.replicate w.length 0
def piece (keep tn N k : Nat) (w : List UInt8) : List UInt8 := if k + 1 = N then (zero keep k w).take ((zero keep k w).length - tn) else zero keep k w
def rb (keep tn N : Nat) (safe : List UInt8) (ws : List (List UInt8)) : Nat → List UInt8
  | 0 => safe
  | k + 1 => rb keep tn N safe ws k ++ piece keep tn N k (ws.getD k [])
def Rf.fall (keep tn : Nat) (f : Rf) : Rf := ⟨rb keep tn (lastTo keep f.ws.length) f.safe f.ws (lastTo keep f.ws.length), []⟩
theorem zero_len (keep k : Nat) (w : List UInt8) : (zero keep k w).length = w.length := by unfold zero; split <;> simp
theorem piece_len (keep tn N k : Nat) (w : List UInt8) : (piece keep tn N k w).length ≤ w.length := by
  unfold piece
  split
  · rw [List.length_take, zero_len]; omega
  · rw [zero_len]; exact Nat.le_refl _
theorem rb_len (keep tn N : Nat) (safe : List UInt8) (ws : List (List UInt8)) : ∀ k, k ≤ ws.length → (rb keep tn N safe ws k).length ≤ safe.length + (ws.take k).flatten.length
  | 0, _ => by simp [rb]
  | k + 1, h => by
    have h1 := rb_len keep tn N safe ws k (by omega)
    have h2 := piece_len keep tn N k ws[k]
    have h3 := flat_at ws k (by omega)
    have e : ws.getD k [] = ws[k] := by simp [List.getD, List.getElem?_eq_getElem (show k < ws.length by omega)]
    unfold rb
    rw [List.length_append, e, h3]
    omega
theorem fall_len (keep tn : Nat) (f : Rf) : (f.fall keep tn).all.length ≤ f.all.length := by
  have h1 := rb_len keep tn (lastTo keep f.ws.length) f.safe f.ws _ (lastTo_le keep f.ws.length)
  have h2 := flat_take_le f.ws (lastTo keep f.ws.length)
  simp only [Rf.all, Rf.fall, List.flatten_nil, List.append_nil, List.length_append]
  omega
set_option maxRecDepth 100000 in
theorem stays_any (w : World) (keep k : Nat) (hk : keep < 18446744073709551616) (hk2 : k ≤ 1099511627776) :
    Calls Try.prog 34 #[.int .u64 (keep : Int), .int .i64 (k : Int)] w fun e w' => e = .returned (.bool (stays keep k)) ∧ w' = w := by
  by_cases h63 : k ≤ 63
  · have h63' : ¬ (63 : Int) < (k : Int) := by omega
    have hb := bit_low hk h63
    cases hs : stays keep k with
    | true =>
      rw [hs, if_pos rfl] at hb
      clear hs
      go_enter Try.func34, Try.ntmps34
      go_wp2
      go_ret
      exact ⟨rfl, rfl⟩
    | false =>
      rw [hs, if_neg (by decide)] at hb
      clear hs
      go_enter Try.func34, Try.ntmps34
      go_wp2
      go_ret
      exact ⟨rfl, rfl⟩
  · have h63' : (63 : Int) < (k : Int) := by omega
    have hb := bit_high (k := k) hk (by omega)
    cases hs : stays keep k with
    | true =>
      rw [hs, if_pos rfl] at hb
      clear hs
      go_enter Try.func34, Try.ntmps34
      go_wp2
      go_ret
      exact ⟨rfl, rfl⟩
    | false =>
      rw [hs, if_neg (by decide)] at hb
      clear hs
      go_enter Try.func34, Try.ntmps34
      go_wp2
      go_ret
      exact ⟨rfl, rfl⟩
end Go.Proofs.Ytnpaodhcaeofnaa
