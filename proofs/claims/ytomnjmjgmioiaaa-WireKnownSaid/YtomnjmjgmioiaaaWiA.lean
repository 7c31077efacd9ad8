/-
  Contract of law 11's awake: it says true. Conditions: none.
-/
import Derived.Test.YtomnjmjgmioiaaaWiT
import Derived.Test.YtomnjmjgmioiaaaWiN
namespace Go.Proofs.Ytomnjmjgmioiaaa
open Go.RowKit

theorem conv_now {w : World} {A : Option Addr} {l : List UInt8} (n c : Nat) (h : Byt w w.heap.size A l) (hn : l.length = n) : (convert 25 9 (.slice A n c)).run Try.prog w = .ok (.string ⟨l.toArray⟩) w :=
  conv_bytes (P := Try.prog) Try.underlying25 Try.underlying5 Try.underlying9 h n c hn
theorem RdIs.as {w : World} {lo hi g : Nat} {l m : List UInt8} {bad : Bool} (h : RdIs w lo hi g l bad) (e : l = m) : RdIs w lo hi g m bad := e ▸ h

set_option maxRecDepth 100000 in
set_option maxHeartbeats 1000000 in
theorem awake11_any (w : World) : Calls Try.prog 6 #[] w fun e w' => e = .returned (.bool true) ∧ Below w.heap.size w w' := by
  have hnum := wnum_any w none [] 0 0 300 300 (.inl rfl) rfl (Nat.le_refl _) (by decide) (by decide) (by decide)
  rw [show [] ++ gr 300 = [172, 2] by decide] at hnum
  go_enter Try.func6, Try.ntmps6
  go_wp2_with fail
  refine hnum.mono ?_
  rintro e w1 ⟨A1, n1, c1, rfl, hr1, hb1⟩
  obtain rfl : n1 = 2 := hr1.len.symm
  have hrd := read_any w1 A1 [172, 2] 2 c1 hr1.byt rfl (by decide)
  go_wp2_with fail
  refine hrd.mono ?_
  rintro e w2 ⟨g, rfl, hr, hb2⟩
  have hcv := conv_now 2 c1 (hr1.byt.next hb2) rfl
  have hnm := num_ok w2 w1.heap.size w2.heap.size g [172, 2] false 300 300 2 hr (vlt (by decide)) (by decide) (by decide)
  have hg1 := hr.1.1
  clear hnum hrd hr1
  go_wp2_with fail
  refine hnm.mono ?_
  rintro e w3 ⟨rfl, hr3, hb3⟩
  have hr4 := hr3.as (show List.drop 2 [172, 2] = [] from rfl)
  have hen := end_any w3 w1.heap.size w2.heap.size g [] false hr4
  have hbd := bad_any w3 w1.heap.size w2.heap.size g [] false hr4
  have hbw : Below w.heap.size w w3 := But.below (below_next hb1 hb1.size hb2) hb3 (Nat.le_trans hb1.size hg1) (Nat.le_trans hb1.size hb2.size)
  clear hcv hnm
  go_wp2_with fail
  refine hen.mono ?_
  rintro e w4 ⟨rfl, rfl⟩
  go_wp2_with fail
  refine hbd.mono ?_
  rintro e w5 ⟨rfl, rfl⟩
  go_wp2
  go_ret
  exact ⟨rfl, hbw⟩
end Go.Proofs.Ytomnjmjgmioiaaa
