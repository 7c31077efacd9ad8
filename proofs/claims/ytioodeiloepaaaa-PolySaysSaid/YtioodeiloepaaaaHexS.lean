/-
  Digits of bytes: no statement is proved here. Conditions: none.
-/
import Derived.Test.YtioodeiloepaaaaOctA
import Derived.LoopTactic
import Derived.Laws.Shifts
import Derived.Laws.ShiftsVar
import Derived.Laws.BitsAllLaws
namespace Go.Proofs.Ytioodeiloepaaaa
open Go.RowKit

/-- One digit; the digits of bytes. -/
def dg (n : Nat) : UInt8 := if n < 10 then UInt8.ofNat (48 + n) else UInt8.ofNat (87 + n)
def hexd : List UInt8 → List UInt8
  | [] => []
  | b :: r => dg (b.toNat / 16) :: dg (b.toNat % 16) :: hexd r
theorem hexd_len (l : List UInt8) : (hexd l).length = 2 * l.length := by induction l with | nil => rfl | cons b r ih => simp [hexd, ih]; omega
theorem hexd_app (l m : List UInt8) : hexd (l ++ m) = hexd l ++ hexd m := by induction l with | nil => rfl | cons b r ih => simp [hexd, ih]

theorem digit_at : ∀ m : Fin 16, ((⟨#[48, 49, 50, 51, 52, 53, 54, 55, 56, 57, 97, 98, 99, 100, 101, 102]⟩ : ByteArray)[m.val]'(m.isLt)).toNat = (dg m.val).toNat := by decide

theorem dig_hi (x : Nat) (hx : x < 256) {h : ((x : Int) / 16).toNat < (⟨#[48, 49, 50, 51, 52, 53, 54, 55, 56, 57, 97, 98, 99, 100, 101, 102]⟩ : ByteArray).size} :
    (((⟨#[48, 49, 50, 51, 52, 53, 54, 55, 56, 57, 97, 98, 99, 100, 101, 102]⟩ : ByteArray)[((x : Int) / 16).toNat]'h).toNat : Int) = ((dg (x / 16)).toNat : Int) := by
  have h1 := digit_at ⟨x / 16, by omega⟩
  have e : ((x : Int) / 16).toNat = x / 16 := by omega
  simp only [e]; rw [← h1]
theorem dig_lo (x : Nat) {h : ((x : Int) % 16).toNat < (⟨#[48, 49, 50, 51, 52, 53, 54, 55, 56, 57, 97, 98, 99, 100, 101, 102]⟩ : ByteArray).size} :
    (((⟨#[48, 49, 50, 51, 52, 53, 54, 55, 56, 57, 97, 98, 99, 100, 101, 102]⟩ : ByteArray)[((x : Int) % 16).toNat]'h).toNat : Int) = ((dg (x % 16)).toNat : Int) := by
  have h1 := digit_at ⟨x % 16, by omega⟩
  have e : ((x : Int) % 16).toNat = x % 16 := by omega
  simp only [e]; rw [← h1]
end Go.Proofs.Ytioodeiloepaaaa
