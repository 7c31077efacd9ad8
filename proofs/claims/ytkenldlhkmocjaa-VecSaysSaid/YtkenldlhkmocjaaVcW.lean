/-
  Contract of law 15's awake: it says true. Conditions: none.
-/
import Derived.Test.YtkenldlhkmocjaaVcB
import Derived.Test.YtkenldlhkmocjaaVcC
import Derived.Test.YtkenldlhkmocjaaMix
namespace Go.Proofs.Ytkenldlhkmocjaa
open Go.RowKit

def vA : List Int := [1, 0, 0, 0, 0, 0, 0, 0]
theorem built_vA : Try.prog.built 27 [(0, .int .i64 1)] = some (i64v vA).toArray := by kernel_rfl
def vB : List Int := [0, 1, 0, 0, 0, 0, 0, 0]
theorem built_vB : Try.prog.built 27 [(0, .int .i64 0), (1, .int .i64 1)] = some (i64v vB).toArray := by kernel_rfl
def vO : List Int := [0, 0, 0, 0, 0, 0, 0, 0]
theorem built_vO : Try.prog.built 27 [] = some (i64v vO).toArray := by kernel_rfl
def vM : List Int := [1, 1, 0, 0, 0, 0, 0, 0]
theorem built_vM : Try.prog.built 27 [(0, .int .i64 1), (1, .int .i64 1)] = some (i64v vM).toArray := by kernel_rfl
def vS : List Int := [1, 2, 0, 0, 0, 0, 0, 0]
theorem built_vS : Try.prog.built 27 [(0, .int .i64 1), (1, .int .i64 2)] = some (i64v vS).toArray := by kernel_rfl
theorem eql_vec (l m : List Int) (hl : l.length = 8) (hm : m.length = 8) (o : Bool) (ho : decide (l = m) = o) (w : World) : (binOp .eql 27 (.agg (i64v l).toArray) (.agg (i64v m).toArray)).run Try.prog w = .ok (.bool o) w := by
  rw [eql_ints (P := Try.prog) Try.underlying27 Try.underlying2 Try.sizeI64 l m hl hm, ho]
theorem aw_cmp : vcmp vA vB = 2 := by decide +kernel
theorem aw_le : vle vO vA = true := by decide +kernel
theorem aw_mx : vmx vA vB = vM := by decide +kernel
theorem aw_sum : vsum vS = 3 := by decide +kernel

set_option maxRecDepth 100000 in
set_option maxHeartbeats 1000000 in
theorem awake15_any (w : World) : Calls Try.prog 8 #[] w fun e w' => e = .returned (.bool true) ∧ Below w.heap.size w w' := by
  have h1 := fun w => vcmp_any w vA vB rfl rfl
  have h2 := fun w => vle_any w vO vA rfl rfl
  have h3 := fun w => vmerge_any w vA vB rfl rfl
  have h4 := fun w => vsum_any w vS rfl
  simp only [aw_cmp] at h1
  simp only [aw_le] at h2
  simp only [aw_mx] at h3
  simp only [aw_sum] at h4
  have heq : ∀ w, (binOp .eql 27 (.agg (i64v vM).toArray) (.agg (i64v vM).toArray)).run Try.prog w = .ok (.bool true) w := fun w => by
    rw [eql_ints (P := Try.prog) Try.underlying27 Try.underlying2 Try.sizeI64 vM vM rfl rfl]; simp
  go_enter Try.func8, Try.ntmps8
  go_upto_region 1 with fail
  refine plain_start (S := fun W' => Below w.heap.size w W') (by kernel_rfl) (Below.refl _ _) (fun hHeld => ?_)
  refine wpAnyH_take (i := 0) (oi := ⟨(some 1), _, _, _, _, _⟩) (v := .agg (i64v vA).toArray) rfl (by kernel_rfl) (by kernel_rfl) (by kernel_rfl) (fun _ _ _ h => h) (yields_build (by rfl) _ _ rfl [(0, .int .i64 1)] (by rfl) _ built_vA) hHeld ?_
  try simp only [pu]
  refine wpAnyH_take (i := 1) (oi := ⟨(some 2), _, _, _, _, _⟩) (v := .agg (i64v vB).toArray) rfl (by kernel_rfl) (by kernel_rfl) (by kernel_rfl) (fun _ _ _ h => h) (yields_build (by rfl) _ _ rfl [(0, .int .i64 0), (1, .int .i64 1)] (by rfl) _ built_vB) hHeld ?_
  try simp only [pu]
  refine wpAnyH_ready (rs := [2]) (by kernel_rfl) (by simp) ?_
  refine AllReadyH.cons (i := 2) (o := ⟨(some 3), _, _, _, _, _⟩) rfl (fun K hK => ?_) AllReadyH.nil
  go_simp
  refine (h1 _).mono ?_
  rintro e r1W1 ⟨rfl, r1h1⟩
  refine hK.out _ _ (below_next hHeld hHeld.size r1h1) (fun hHeld => ?_)
  clear hK K r1h1
  try simp only [pu]
  refine wpAnyH_take (i := 3) (oi := ⟨(some 4), _, _, _, _, _⟩) (v := .bool true) rfl (by kernel_rfl) (by kernel_rfl) (by kernel_rfl) (fun _ _ _ h => h) (Or.inl ⟨by rfl, ?yr1_3⟩) hHeld ?_
  case yr1_3 => (intro W0 hSw; go_simp; try with_reducible rfl)
  try simp only [pu]
  refine wpAnyH_take (i := 4) (oi := ⟨(some 5), _, _, _, _, _⟩) (v := .bool true) rfl (by kernel_rfl) (by kernel_rfl) (by kernel_rfl) (fun _ _ _ h => h) (Or.inl ⟨by rfl, ?yr1_4⟩) hHeld ?_
  case yr1_4 => (intro W0 hSw; go_simp; try with_reducible rfl)
  try simp only [pu]
  refine wpAnyH_take (i := 5) (oi := ⟨(some 6), _, _, _, _, _⟩) (v := .agg (i64v vO).toArray) rfl (by kernel_rfl) (by kernel_rfl) (by kernel_rfl) (fun _ _ _ h => h) (yields_build (by rfl) _ _ rfl [] (by rfl) _ built_vO) hHeld ?_
  try simp only [pu]
  refine wpAnyH_take (i := 6) (oi := ⟨(some 7), _, _, _, _, _⟩) (v := .agg (i64v vA).toArray) rfl (by kernel_rfl) (by kernel_rfl) (by kernel_rfl) (fun _ _ _ h => h) (yields_build (by rfl) _ _ rfl [(0, .int .i64 1)] (by rfl) _ built_vA) hHeld ?_
  try simp only [pu]
  refine wpAnyH_ready (rs := [7]) (by kernel_rfl) (by simp) ?_
  refine AllReadyH.cons (i := 7) (o := ⟨(some 8), _, _, _, _, _⟩) rfl (fun K hK => ?_) AllReadyH.nil
  go_simp
  refine (h2 _).mono ?_
  rintro e r1W2 ⟨rfl, r1h2⟩
  refine hK.out _ _ (below_next hHeld hHeld.size r1h2) (fun hHeld => ?_)
  clear hK K r1h2
  try simp only [pu]
  refine wpAnyH_take (i := 8) (oi := ⟨(some 9), _, _, _, _, _⟩) (v := .bool true) rfl (by kernel_rfl) (by kernel_rfl) (by kernel_rfl) (fun _ _ _ h => h) (Or.inl ⟨by rfl, ?yr1_8⟩) hHeld ?_
  case yr1_8 => (intro W0 hSw; go_simp; try with_reducible rfl)
  try simp only [pu]
  refine wpAnyH_take (i := 9) (oi := ⟨(some 10), _, _, _, _, _⟩) (v := .bool true) rfl (by kernel_rfl) (by kernel_rfl) (by kernel_rfl) (fun _ _ _ h => h) (Or.inl ⟨by rfl, ?yr1_9⟩) hHeld ?_
  case yr1_9 => (intro W0 hSw; go_simp; try with_reducible rfl)
  try simp only [pu]
  refine wpAnyH_take (i := 10) (oi := ⟨(some 11), _, _, _, _, _⟩) (v := .agg (i64v vA).toArray) rfl (by kernel_rfl) (by kernel_rfl) (by kernel_rfl) (fun _ _ _ h => h) (yields_build (by rfl) _ _ rfl [(0, .int .i64 1)] (by rfl) _ built_vA) hHeld ?_
  try simp only [pu]
  refine wpAnyH_take (i := 11) (oi := ⟨(some 12), _, _, _, _, _⟩) (v := .agg (i64v vB).toArray) rfl (by kernel_rfl) (by kernel_rfl) (by kernel_rfl) (fun _ _ _ h => h) (yields_build (by rfl) _ _ rfl [(0, .int .i64 0), (1, .int .i64 1)] (by rfl) _ built_vB) hHeld ?_
  try simp only [pu]
  refine wpAnyH_take (i := 13) (oi := ⟨(some 14), _, _, _, _, _⟩) (v := .agg (i64v vM).toArray) rfl (by kernel_rfl) (by kernel_rfl) (by kernel_rfl) (fun _ _ _ h => h) (yields_build (by rfl) _ _ rfl [(0, .int .i64 1), (1, .int .i64 1)] (by rfl) _ built_vM) hHeld ?_
  try simp only [pu]
  refine wpAnyH_ready (rs := [12]) (by kernel_rfl) (by simp) ?_
  refine AllReadyH.cons (i := 12) (o := ⟨(some 13), _, _, _, _, _⟩) rfl (fun K hK => ?_) AllReadyH.nil
  go_simp
  refine (h3 _).mono ?_
  rintro e r1W3 ⟨rfl, r1h3⟩
  refine hK.out _ _ (below_next hHeld hHeld.size r1h3) (fun hHeld => ?_)
  clear hK K r1h3
  try simp only [pu]
  refine wpAnyH_take (i := 14) (oi := ⟨(some 15), _, _, _, _, _⟩) (v := .bool true) rfl (by kernel_rfl) (by kernel_rfl) (by kernel_rfl) (fun _ _ _ h => h) (Or.inl ⟨by rfl, ?yr1_14⟩) hHeld ?_
  case yr1_14 => (intro W0 hSw; go_simp; try simp only [heq]; try with_reducible rfl)
  try simp only [pu]
  refine wpAnyH_take (i := 15) (oi := ⟨(some 16), _, _, _, _, _⟩) (v := .bool true) rfl (by kernel_rfl) (by kernel_rfl) (by kernel_rfl) (fun _ _ _ h => h) (Or.inl ⟨by rfl, ?yr1_15⟩) hHeld ?_
  case yr1_15 => (intro W0 hSw; go_simp; try with_reducible rfl)
  try simp only [pu]
  refine wpAnyH_take (i := 16) (oi := ⟨(some 17), _, _, _, _, _⟩) (v := .bool true) rfl (by kernel_rfl) (by kernel_rfl) (by kernel_rfl) (fun _ _ _ h => h) (Or.inl ⟨by rfl, ?yr1_16⟩) hHeld ?_
  case yr1_16 => (intro W0 hSw; go_simp; try with_reducible rfl)
  try simp only [pu]
  refine wpAnyH_take (i := 17) (oi := ⟨(some 18), _, _, _, _, _⟩) (v := .agg (i64v vS).toArray) rfl (by kernel_rfl) (by kernel_rfl) (by kernel_rfl) (fun _ _ _ h => h) (yields_build (by rfl) _ _ rfl [(0, .int .i64 1), (1, .int .i64 2)] (by rfl) _ built_vS) hHeld ?_
  try simp only [pu]
  refine wpAnyH_ready (rs := [18]) (by kernel_rfl) (by simp) ?_
  refine AllReadyH.cons (i := 18) (o := ⟨(some 19), _, _, _, _, _⟩) rfl (fun K hK => ?_) AllReadyH.nil
  go_simp
  refine (h4 _).mono ?_
  rintro e r1W4 ⟨rfl, r1h4⟩
  refine hK.out _ _ (below_next hHeld hHeld.size r1h4) (fun hHeld => ?_)
  clear hK K r1h4
  try simp only [pu]
  refine wpAnyH_take (i := 19) (oi := ⟨(some 20), _, _, _, _, _⟩) (v := .bool true) rfl (by kernel_rfl) (by kernel_rfl) (by kernel_rfl) (fun _ _ _ h => h) (Or.inl ⟨by rfl, ?yr1_19⟩) hHeld ?_
  case yr1_19 => (intro W0 hSw; go_simp; try with_reducible rfl)
  try simp only [pu]
  refine wpAnyH_take (i := 20) (oi := ⟨(some 21), _, _, _, _, _⟩) (v := .bool true) rfl (by kernel_rfl) (by kernel_rfl) (by kernel_rfl) (fun _ _ _ h => h) (Or.inl ⟨by rfl, ?yr1_20⟩) hHeld ?_
  case yr1_20 => (intro W0 hSw; go_simp; try with_reducible rfl)
  try simp only [pu]
  refine wpAnyH_take (i := 21) (oi := ⟨(some 0), _, _, _, _, _⟩) (v := .bool true) rfl (by kernel_rfl) (by kernel_rfl) (by kernel_rfl) (fun _ _ _ h => h) (Or.inl ⟨by rfl, ?yr1_21⟩) hHeld ?_
  case yr1_21 => (intro W0 hSw; go_simp; try with_reducible rfl)
  try simp only [pu]
  refine wpAnyH_done (by kernel_rfl) ?_ _
  go_wp2
  go_ret
  exact ⟨rfl, hHeld⟩
end Go.Proofs.Ytkenldlhkmocjaa
