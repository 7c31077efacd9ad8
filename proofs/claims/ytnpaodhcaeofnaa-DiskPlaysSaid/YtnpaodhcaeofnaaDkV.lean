/-
  Law 13's awake. Conditions: none.
-/
import Derived.Test.YtnpaodhcaeofnaaDkW
import Derived.Lib.SlBytesConst
namespace Go.Proofs.Ytnpaodhcaeofnaa
open Go.RowKit

def sA : ByteArray := { data := #[97] }
def aw0 : Dk := ⟨64, true, 1, []⟩
def aw1 : Dk := ⟨64, true, 1, [(sA, ⟨[], [[120, 121]]⟩)]⟩
def aw2 : Dk := ⟨64, true, 1, [(sA, ⟨[], [[120, 121], [122]]⟩)]⟩
def aw3 : Dk := ⟨64, false, 1, [(sA, ⟨[0, 0, 122], []⟩)]⟩
def aw4 : Dk := ⟨64, true, 2, [(sA, ⟨[0, 0, 122], []⟩)]⟩
theorem aw_a : appE aw0 sA 2 = 0 ∧ aw0.app sA [120, 121] = aw1 := ⟨by decide +kernel, by kernel_rfl⟩
theorem aw_b : appE aw1 sA 1 = 0 ∧ aw1.app sA [122] = aw2 := ⟨by decide +kernel, by kernel_rfl⟩
theorem aw_c : aw2.crs 2 0 = aw3 := by kernel_rfl
theorem aw_d : askE aw3 sA = 7 := by decide +kernel
theorem aw_e : aw3.awake = aw4 := rfl
theorem aw_f : askE aw4 sA = 0 ∧ readB aw4 sA = [0, 0, 122] := ⟨by decide +kernel, by decide +kernel⟩
set_option maxRecDepth 100000 in
set_option maxHeartbeats 1000000 in
theorem awake13_any (w : World) : Calls Try.prog 4 #[] w fun e w' => e = .returned (.bool true) ∧ Below w.heap.size w w' := by
  have h1 := mine_new w 64 (by decide) (by decide)
  have kc := fun (w : World) (C : Array Value) (n c : Nat) => Lib.run_convert_bytes_const (P := Try.prog) w 33 5 C n c Try.underlying33 Try.underlying5
  go_enter Try.func4, Try.ntmps4
  go_wp2_with fail
  refine h1.mono ?_
  rintro e w1 ⟨d, rfl, hM⟩
  clear h1
  have hc1 := mine_append noObj (hM.lit noObj 5 #[.int .u8 120, .int .u8 121] (2, 3) [120, 121] rfl) sA (by decide) _ [120, 121] 2 2 List.mem_cons_self rfl (by decide) (by decide)
  rw [show (⟨64, true, 1, []⟩ : Dk) = aw0 from rfl, aw_a.1, aw_a.2] at hc1
  go_wp2_with fail
  refine hc1.mono ?_
  rintro e w2 ⟨rfl, hM2⟩
  clear hc1 hM
  have hc2 := mine_append noObj (hM2.lit noObj 5 #[.int .u8 122] (1, 2) [122] rfl) sA (by decide) _ [122] 1 1 List.mem_cons_self rfl (by decide) (by decide)
  rw [aw_b.1, aw_b.2] at hc2
  go_wp2_with fail
  refine hc2.mono ?_
  rintro e w3 ⟨rfl, hM3⟩
  clear hc2 hM2
  have hc3 := mine_crash noObj hM3 2 0 0 (by decide) rfl (by decide) (by decide)
  rw [aw_c] at hc3
  go_wp2_with fail
  refine hc3.mono ?_
  rintro e w4 ⟨rfl, hM4⟩
  clear hc3 hM3
  have hc4 := mine_read noObj hM4 sA (by decide)
  rw [aw_d] at hc4
  go_wp2_with fail
  refine hc4.mono ?_
  rintro e w5 ⟨A5, n5, c5, l5, rfl, _, _, _, hM5, _⟩
  clear hc4 hM4
  have hc5 := mine_on noObj hM5 (by decide)
  rw [aw_e] at hc5
  go_wp2_with fail
  refine hc5.mono ?_
  rintro e w6 ⟨rfl, hM6⟩
  clear hc5 hM5
  have hc6 := mine_read noObj hM6 sA (by decide)
  rw [aw_f.1, aw_f.2] at hc6
  go_wp2_with fail
  refine hc6.mono ?_
  rintro e w7 ⟨A7, n7, c7, l7, rfl, hl7, hn7, _, hM7, _⟩
  have hb7 := hM7.byt (p := (A7, l7)) List.mem_cons_self
  simp only at hb7
  have hcv := conv_bytes (P := Try.prog) Try.underlying33 Try.underlying5 Try.underlying9 hb7 n7 c7 hn7.out
  rw [hl7.out] at hcv
  have hl := mine_lives hM7
  have hp := mine_power hM7
  have hbw := hM7.bel
  clear hc6 hM6 kc hb7 hl7 hM7
  go_wp2_with fail
  refine hl.mono ?_
  rintro e w8 ⟨rfl, rfl⟩
  clear hl
  go_wp2_with fail
  refine hp.mono ?_
  rintro e w9 ⟨rfl, rfl⟩
  clear hp
  go_wp2
  go_ret
  exact ⟨rfl, hbw⟩
end Go.Proofs.Ytnpaodhcaeofnaa
