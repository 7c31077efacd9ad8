/-
  VecKnown: the law's Go text returns true. Conditions: none.
-/
import Derived.Test.YtkenldlhkmocjaaVcW
import Derived.Test.YtkenldlhkmocjaaVcE
import Derived.Test.YtkenldlhkmocjaaWiC
namespace Go.Proofs.Ytkenldlhkmocjaa
open Go.RowKit

def kG : List Int := [1099511627776, 0, 0, 0, 0, 0, 0, 0]
theorem built_kG : Try.prog.built 27 [(0, .int .i64 1099511627776)] = some (i64v kG).toArray := by kernel_rfl
def kH : List Int := [1099511627777, 0, 0, 0, 0, 0, 0, 0]
theorem built_kH : Try.prog.built 27 [(0, .int .i64 1099511627777)] = some (i64v kH).toArray := by kernel_rfl
def kN : List Int := [-1, 0, 0, 0, 0, 0, 0, 0]
theorem built_kN : Try.prog.built 27 [(0, .int .i64 (-1))] = some (i64v kN).toArray := by kernel_rfl
def kT : List Int := [0, 3, 0, 0, 0, 0, 0, 0]
theorem built_kT : Try.prog.built 27 [(0, .int .i64 0), (1, .int .i64 3)] = some (i64v kT).toArray := by kernel_rfl
def kI : List Int := [9, 0, 0, 0, 0, 0, 0, 0]
theorem built_kI : Try.prog.built 27 [(0, .int .i64 9)] = some (i64v kI).toArray := by kernel_rfl
theorem built_dot (x y : Int) : Try.prog.built 33 [(0, .int .i64 x), (1, .int .i64 y)] = some [Value.int .i64 x, .int .i64 y].toArray := by kernel_rfl
theorem built_dot1 (x : Int) : Try.prog.built 33 [(0, .int .i64 x)] = some [Value.int .i64 x, .int .i64 0].toArray := by kernel_rfl
theorem kn_gG : vgood kG = true := by decide +kernel
theorem kn_gH : vgood kH = false := by decide +kernel
theorem kn_gN : vgood kN = false := by decide +kernel
theorem kn_sN : vsum kN = -1 := by decide +kernel
theorem kn_h1 : vhas kT 1 3 = true := by decide +kernel
theorem kn_h2 : vhas kT 1 4 = false := by decide +kernel
theorem kn_h3 : vhas kT 1 0 = false := by decide +kernel
theorem kn_h4 : vhas kI 8 1 = false := by decide +kernel
theorem kn_h5 : vhas kI (-1) 1 = false := by decide +kernel
theorem kn_put : [9] ++ vput vA = [9, 1, 0, 0, 0, 0, 0, 0, 0] := by decide +kernel
theorem kn_in : I64s vA := by
  intro x hx
  simp only [vA, List.mem_cons, List.not_mem_nil, or_false] at hx
  omega
theorem vget_seven (w : World) (lo hi g : Nat) (hr : RdIs w lo hi g [1, 2, 3, 4, 5, 6, 7] false) :
    Calls Try.prog 10 #[.pointer (some ⟨g, 0, none⟩)] w fun e w' => e = .returned (.agg (i64v z8).toArray) ∧ RdIs w' lo hi g [] true ∧ But g w w' := by
  refine (vget_any w lo hi g [1, 2, 3, 4, 5, 6, 7] false hr).mono ?_
  rintro e w' ⟨o, l', b', hv, _, rfl, hr', hb⟩
  have h := hv.out
  rw [vrd_seven] at h
  simp only [Prod.mk.injEq] at h
  obtain ⟨rfl, rfl, rfl⟩ := h
  exact ⟨rfl, hr', hb⟩
theorem bad_yes (w : World) (lo hi g : Nat) (l : List UInt8) (hr : RdIs w lo hi g l true) :
    Calls Try.prog 14 #[.pointer (some ⟨g, 0, none⟩)] w fun e w' => e = .returned (.bool true) ∧ w = w' := bad_any w lo hi g l true hr

set_option maxRecDepth 100000 in
set_option maxHeartbeats 4000000 in
theorem walk_VecKnown (w : World) : Calls Try.prog 3 #[] w fun e w' => e = .returned (.bool true) ∧ Below w.heap.size w w' := by
  go_enter Try.func3, Try.ntmps3
  go_wp2_with fail
  refine (awake15_any w).mono ?_
  rintro e w1 ⟨rfl, hb1⟩
  go_wp2_with fail
  refine (read_any _ _ [1, 2, 3, 4, 5, 6, 7] 7 7 (Byt.lit _ _ _ _ rfl) rfl (by decide)).mono ?_
  rintro e w2 ⟨g, rfl, hr, hb2⟩
  have hbw2 := below_lit hb1 hb1.size hb2
  have hg0 := hr.1.1
  have hbg : w.heap.size ≤ g := Nat.le_trans (hb1.alloc hb1.size _).size hg0
  clear hb1 hb2 hg0
  go_wp2_with fail
  refine (vget_seven _ _ _ g hr).mono ?_
  rintro e w3 ⟨rfl, hr3, hb3⟩
  have hbw3 := But.below hbw2 hb3 hbg hbw2.size
  clear hr hb3 hbw2
  go_upto_region 5 with ((with_reducible refine wpList_store_row rfl 27 (.tmp 2) (.tmp 8) rfl w3.heap.size (i64v z8).toArray rfl rfl 27 _ (heap_alloc_new _ _) (by kernel_rfl) (by kernel_rfl) (all_oneCell_toArray (i64v_one _)) ?_); rw [World.setRow_alloc_new])
  obtain ⟨V, hV⟩ : ∃ V, V = w3.alloc (.cells (i64v z8).toArray 27) := ⟨_, rfl⟩
  rw [← hV]
  have gM : Hid (V.heap[w3.heap.size]? = some (.cells (i64v z8).toArray 27 (0, 0))) := by rw [hV]; exact heap_alloc_new _ _
  have hbV : Below w.heap.size w V := by rw [hV]; exact hbw3.alloc hbw3.size _
  have hrV := hr3.next (show Below w3.heap.size w3 V by rw [hV]; exact (Below.refl _ _).alloc (Nat.le_refl _) _)
  obtain ⟨G, hG⟩ : ∃ G, G = w3.heap.size := ⟨_, rfl⟩
  rw [← hG] at gM ⊢
  clear hV hG hbw3 hr3
  have sM := row_size gM
  have c1 := fun w => vgood_any w kG rfl
  have c2 := fun w => vgood_any w kH rfl
  have c3 := fun w => vgood_any w kN rfl
  have c4 := fun w => vsum_any w kN rfl
  have c5 := fun w => vhas_any w kT rfl 1 3
  have c6 := fun w => vhas_any w kT rfl 1 4
  have c7 := fun w => vhas_any w kT rfl 1 0
  have c8 := fun w => vhas_any w kI rfl 8 1
  have c9 := fun w => vhas_any w kI rfl (-1) 1
  have c10 := fun w A h => vput_any w A [9] 1 1 vA h rfl (Nat.le_refl _) (by decide) rfl kn_in
  simp only [kn_gG] at c1
  simp only [kn_gH] at c2
  simp only [kn_gN] at c3
  simp only [kn_sN] at c4
  simp only [kn_h1] at c5
  simp only [kn_h2] at c6
  simp only [kn_h3] at c7
  simp only [kn_h4] at c8
  simp only [kn_h5] at c9
  simp only [kn_put] at c10
  have q1 := eql_vec z8 vO rfl rfl true (by decide +kernel)
  refine plain_start (S := fun W' => Below V.heap.size V W') (by kernel_rfl) (Below.refl _ _) (fun hHeld => ?_)
  refine wpAnyH_take (i := 0) (oi := ⟨(some 9), _, _, _, _, _⟩) (v := .agg (i64v kG).toArray) rfl (by kernel_rfl) (by kernel_rfl) (by kernel_rfl) (fun _ _ _ h => h) (yields_build (by rfl) _ _ rfl [(0, .int .i64 1099511627776)] (by rfl) _ built_kG) hHeld ?_
  try simp only [pu]
  refine wpAnyH_ready (rs := [1]) (by kernel_rfl) (by simp) ?_
  refine AllReadyH.cons (i := 1) (o := ⟨(some 10), _, _, _, _, _⟩) rfl (fun K hK => ?_) AllReadyH.nil
  go_simp
  refine (c1 _).mono ?_
  rintro e r5W1 ⟨rfl, r5h1⟩
  refine hK.out _ _ (below_next hHeld hHeld.size r5h1) (fun hHeld => ?_)
  clear hK K r5h1
  try simp only [pu]
  refine wpAnyH_take (i := 2) (oi := ⟨(some 11), _, _, _, _, _⟩) (v := .bool true) rfl (by kernel_rfl) (by kernel_rfl) (by kernel_rfl) (fun _ _ _ h => h) (Or.inl ⟨by rfl, ?yr5_2⟩) hHeld ?_
  case yr5_2 => (intro W0 hSw; go_simp; try with_reducible rfl)
  try simp only [pu]
  refine wpAnyH_take (i := 3) (oi := ⟨(some 12), _, _, _, _, _⟩) (v := .agg (i64v kH).toArray) rfl (by kernel_rfl) (by kernel_rfl) (by kernel_rfl) (fun _ _ _ h => h) (yields_build (by rfl) _ _ rfl [(0, .int .i64 1099511627777)] (by rfl) _ built_kH) hHeld ?_
  try simp only [pu]
  refine wpAnyH_ready (rs := [4]) (by kernel_rfl) (by simp) ?_
  refine AllReadyH.cons (i := 4) (o := ⟨(some 13), _, _, _, _, _⟩) rfl (fun K hK => ?_) AllReadyH.nil
  go_simp
  refine (c2 _).mono ?_
  rintro e r5W2 ⟨rfl, r5h2⟩
  refine hK.out _ _ (below_next hHeld hHeld.size r5h2) (fun hHeld => ?_)
  clear hK K r5h2
  try simp only [pu]
  refine wpAnyH_take (i := 5) (oi := ⟨(some 14), _, _, _, _, _⟩) (v := .bool true) rfl (by kernel_rfl) (by kernel_rfl) (by kernel_rfl) (fun _ _ _ h => h) (Or.inl ⟨by rfl, ?yr5_5⟩) hHeld ?_
  case yr5_5 => (intro W0 hSw; go_simp; try with_reducible rfl)
  try simp only [pu]
  refine wpAnyH_take (i := 6) (oi := ⟨(some 15), _, _, _, _, _⟩) (v := .bool true) rfl (by kernel_rfl) (by kernel_rfl) (by kernel_rfl) (fun _ _ _ h => h) (Or.inl ⟨by rfl, ?yr5_6⟩) hHeld ?_
  case yr5_6 => (intro W0 hSw; go_simp; try with_reducible rfl)
  try simp only [pu]
  refine wpAnyH_take (i := 7) (oi := ⟨(some 16), _, _, _, _, _⟩) (v := .bool true) rfl (by kernel_rfl) (by kernel_rfl) (by kernel_rfl) (fun _ _ _ h => h) (Or.inl ⟨by rfl, ?yr5_7⟩) hHeld ?_
  case yr5_7 => (intro W0 hSw; go_simp; try with_reducible rfl)
  try simp only [pu]
  refine wpAnyH_take (i := 8) (oi := ⟨(some 17), _, _, _, _, _⟩) (v := .agg (i64v kN).toArray) rfl (by kernel_rfl) (by kernel_rfl) (by kernel_rfl) (fun _ _ _ h => h) (yields_build (by rfl) _ _ rfl [(0, .int .i64 (-1))] (by rfl) _ built_kN) hHeld ?_
  try simp only [pu]
  refine wpAnyH_ready (rs := [9]) (by kernel_rfl) (by simp) ?_
  refine AllReadyH.cons (i := 9) (o := ⟨(some 18), _, _, _, _, _⟩) rfl (fun K hK => ?_) AllReadyH.nil
  go_simp
  refine (c3 _).mono ?_
  rintro e r5W3 ⟨rfl, r5h3⟩
  refine hK.out _ _ (below_next hHeld hHeld.size r5h3) (fun hHeld => ?_)
  clear hK K r5h3
  try simp only [pu]
  refine wpAnyH_take (i := 10) (oi := ⟨(some 19), _, _, _, _, _⟩) (v := .bool true) rfl (by kernel_rfl) (by kernel_rfl) (by kernel_rfl) (fun _ _ _ h => h) (Or.inl ⟨by rfl, ?yr5_10⟩) hHeld ?_
  case yr5_10 => (intro W0 hSw; go_simp; try with_reducible rfl)
  try simp only [pu]
  refine wpAnyH_take (i := 11) (oi := ⟨(some 20), _, _, _, _, _⟩) (v := .bool true) rfl (by kernel_rfl) (by kernel_rfl) (by kernel_rfl) (fun _ _ _ h => h) (Or.inl ⟨by rfl, ?yr5_11⟩) hHeld ?_
  case yr5_11 => (intro W0 hSw; go_simp; try with_reducible rfl)
  try simp only [pu]
  refine wpAnyH_take (i := 12) (oi := ⟨(some 21), _, _, _, _, _⟩) (v := .bool true) rfl (by kernel_rfl) (by kernel_rfl) (by kernel_rfl) (fun _ _ _ h => h) (Or.inl ⟨by rfl, ?yr5_12⟩) hHeld ?_
  case yr5_12 => (intro W0 hSw; go_simp; try with_reducible rfl)
  try simp only [pu]
  refine wpAnyH_take (i := 13) (oi := ⟨(some 22), _, _, _, _, _⟩) (v := .agg (i64v kN).toArray) rfl (by kernel_rfl) (by kernel_rfl) (by kernel_rfl) (fun _ _ _ h => h) (yields_build (by rfl) _ _ rfl [(0, .int .i64 (-1))] (by rfl) _ built_kN) hHeld ?_
  try simp only [pu]
  refine wpAnyH_ready (rs := [14]) (by kernel_rfl) (by simp) ?_
  refine AllReadyH.cons (i := 14) (o := ⟨(some 23), _, _, _, _, _⟩) rfl (fun K hK => ?_) AllReadyH.nil
  go_simp
  refine (c4 _).mono ?_
  rintro e r5W4 ⟨rfl, r5h4⟩
  refine hK.out _ _ (below_next hHeld hHeld.size r5h4) (fun hHeld => ?_)
  clear hK K r5h4
  try simp only [pu]
  refine wpAnyH_take (i := 15) (oi := ⟨(some 24), _, _, _, _, _⟩) (v := .bool true) rfl (by kernel_rfl) (by kernel_rfl) (by kernel_rfl) (fun _ _ _ h => h) (Or.inl ⟨by rfl, ?yr5_15⟩) hHeld ?_
  case yr5_15 => (intro W0 hSw; go_simp; try with_reducible rfl)
  try simp only [pu]
  refine wpAnyH_take (i := 16) (oi := ⟨(some 25), _, _, _, _, _⟩) (v := .bool true) rfl (by kernel_rfl) (by kernel_rfl) (by kernel_rfl) (fun _ _ _ h => h) (Or.inl ⟨by rfl, ?yr5_16⟩) hHeld ?_
  case yr5_16 => (intro W0 hSw; go_simp; try with_reducible rfl)
  try simp only [pu]
  refine wpAnyH_take (i := 17) (oi := ⟨(some 26), _, _, _, _, _⟩) (v := .bool true) rfl (by kernel_rfl) (by kernel_rfl) (by kernel_rfl) (fun _ _ _ h => h) (Or.inl ⟨by rfl, ?yr5_17⟩) hHeld ?_
  case yr5_17 => (intro W0 hSw; go_simp; try with_reducible rfl)
  try simp only [pu]
  refine wpAnyH_take (i := 18) (oi := ⟨(some 27), _, _, _, _, _⟩) (v := .agg (i64v kT).toArray) rfl (by kernel_rfl) (by kernel_rfl) (by kernel_rfl) (fun _ _ _ h => h) (yields_build (by rfl) _ _ rfl [(0, .int .i64 0), (1, .int .i64 3)] (by rfl) _ built_kT) hHeld ?_
  try simp only [pu]
  refine wpAnyH_take (i := 19) (oi := ⟨(some 28), _, _, _, _, _⟩) (v := .agg [Value.int .i64 1, .int .i64 3].toArray) rfl (by kernel_rfl) (by kernel_rfl) (by kernel_rfl) (fun _ _ _ h => h) (yields_build (by rfl) _ _ rfl [(0, .int .i64 1), (1, .int .i64 3)] (by rfl) _ (built_dot 1 3)) hHeld ?_
  try simp only [pu]
  refine wpAnyH_ready (rs := [20]) (by kernel_rfl) (by simp) ?_
  refine AllReadyH.cons (i := 20) (o := ⟨(some 29), _, _, _, _, _⟩) rfl (fun K hK => ?_) AllReadyH.nil
  go_simp
  refine (c5 _).mono ?_
  rintro e r5W5 ⟨rfl, r5h5⟩
  refine hK.out _ _ (below_next hHeld hHeld.size r5h5) (fun hHeld => ?_)
  clear hK K r5h5
  try simp only [pu]
  refine wpAnyH_take (i := 21) (oi := ⟨(some 30), _, _, _, _, _⟩) (v := .bool true) rfl (by kernel_rfl) (by kernel_rfl) (by kernel_rfl) (fun _ _ _ h => h) (Or.inl ⟨by rfl, ?yr5_21⟩) hHeld ?_
  case yr5_21 => (intro W0 hSw; go_simp; try with_reducible rfl)
  try simp only [pu]
  refine wpAnyH_take (i := 22) (oi := ⟨(some 31), _, _, _, _, _⟩) (v := .bool true) rfl (by kernel_rfl) (by kernel_rfl) (by kernel_rfl) (fun _ _ _ h => h) (Or.inl ⟨by rfl, ?yr5_22⟩) hHeld ?_
  case yr5_22 => (intro W0 hSw; go_simp; try with_reducible rfl)
  try simp only [pu]
  refine wpAnyH_take (i := 23) (oi := ⟨(some 32), _, _, _, _, _⟩) (v := .agg (i64v kT).toArray) rfl (by kernel_rfl) (by kernel_rfl) (by kernel_rfl) (fun _ _ _ h => h) (yields_build (by rfl) _ _ rfl [(0, .int .i64 0), (1, .int .i64 3)] (by rfl) _ built_kT) hHeld ?_
  try simp only [pu]
  refine wpAnyH_take (i := 24) (oi := ⟨(some 33), _, _, _, _, _⟩) (v := .agg [Value.int .i64 1, .int .i64 4].toArray) rfl (by kernel_rfl) (by kernel_rfl) (by kernel_rfl) (fun _ _ _ h => h) (yields_build (by rfl) _ _ rfl [(0, .int .i64 1), (1, .int .i64 4)] (by rfl) _ (built_dot 1 4)) hHeld ?_
  try simp only [pu]
  refine wpAnyH_ready (rs := [25]) (by kernel_rfl) (by simp) ?_
  refine AllReadyH.cons (i := 25) (o := ⟨(some 34), _, _, _, _, _⟩) rfl (fun K hK => ?_) AllReadyH.nil
  go_simp
  refine (c6 _).mono ?_
  rintro e r5W6 ⟨rfl, r5h6⟩
  refine hK.out _ _ (below_next hHeld hHeld.size r5h6) (fun hHeld => ?_)
  clear hK K r5h6
  try simp only [pu]
  refine wpAnyH_take (i := 26) (oi := ⟨(some 35), _, _, _, _, _⟩) (v := .bool true) rfl (by kernel_rfl) (by kernel_rfl) (by kernel_rfl) (fun _ _ _ h => h) (Or.inl ⟨by rfl, ?yr5_26⟩) hHeld ?_
  case yr5_26 => (intro W0 hSw; go_simp; try with_reducible rfl)
  try simp only [pu]
  refine wpAnyH_take (i := 27) (oi := ⟨(some 36), _, _, _, _, _⟩) (v := .bool true) rfl (by kernel_rfl) (by kernel_rfl) (by kernel_rfl) (fun _ _ _ h => h) (Or.inl ⟨by rfl, ?yr5_27⟩) hHeld ?_
  case yr5_27 => (intro W0 hSw; go_simp; try with_reducible rfl)
  try simp only [pu]
  refine wpAnyH_take (i := 28) (oi := ⟨(some 37), _, _, _, _, _⟩) (v := .bool true) rfl (by kernel_rfl) (by kernel_rfl) (by kernel_rfl) (fun _ _ _ h => h) (Or.inl ⟨by rfl, ?yr5_28⟩) hHeld ?_
  case yr5_28 => (intro W0 hSw; go_simp; try with_reducible rfl)
  try simp only [pu]
  refine wpAnyH_take (i := 29) (oi := ⟨(some 38), _, _, _, _, _⟩) (v := .agg (i64v kT).toArray) rfl (by kernel_rfl) (by kernel_rfl) (by kernel_rfl) (fun _ _ _ h => h) (yields_build (by rfl) _ _ rfl [(0, .int .i64 0), (1, .int .i64 3)] (by rfl) _ built_kT) hHeld ?_
  try simp only [pu]
  refine wpAnyH_take (i := 30) (oi := ⟨(some 39), _, _, _, _, _⟩) (v := .agg [Value.int .i64 1, .int .i64 0].toArray) rfl (by kernel_rfl) (by kernel_rfl) (by kernel_rfl) (fun _ _ _ h => h) (yields_build (by rfl) _ _ rfl [(0, .int .i64 1)] (by rfl) _ (built_dot1 1)) hHeld ?_
  try simp only [pu]
  refine wpAnyH_ready (rs := [31]) (by kernel_rfl) (by simp) ?_
  refine AllReadyH.cons (i := 31) (o := ⟨(some 40), _, _, _, _, _⟩) rfl (fun K hK => ?_) AllReadyH.nil
  go_simp
  refine (c7 _).mono ?_
  rintro e r5W7 ⟨rfl, r5h7⟩
  refine hK.out _ _ (below_next hHeld hHeld.size r5h7) (fun hHeld => ?_)
  clear hK K r5h7
  try simp only [pu]
  refine wpAnyH_take (i := 32) (oi := ⟨(some 41), _, _, _, _, _⟩) (v := .bool true) rfl (by kernel_rfl) (by kernel_rfl) (by kernel_rfl) (fun _ _ _ h => h) (Or.inl ⟨by rfl, ?yr5_32⟩) hHeld ?_
  case yr5_32 => (intro W0 hSw; go_simp; try with_reducible rfl)
  try simp only [pu]
  refine wpAnyH_take (i := 33) (oi := ⟨(some 42), _, _, _, _, _⟩) (v := .bool true) rfl (by kernel_rfl) (by kernel_rfl) (by kernel_rfl) (fun _ _ _ h => h) (Or.inl ⟨by rfl, ?yr5_33⟩) hHeld ?_
  case yr5_33 => (intro W0 hSw; go_simp; try with_reducible rfl)
  try simp only [pu]
  refine wpAnyH_take (i := 34) (oi := ⟨(some 43), _, _, _, _, _⟩) (v := .bool true) rfl (by kernel_rfl) (by kernel_rfl) (by kernel_rfl) (fun _ _ _ h => h) (Or.inl ⟨by rfl, ?yr5_34⟩) hHeld ?_
  case yr5_34 => (intro W0 hSw; go_simp; try with_reducible rfl)
  try simp only [pu]
  refine wpAnyH_take (i := 35) (oi := ⟨(some 44), _, _, _, _, _⟩) (v := .agg (i64v kI).toArray) rfl (by kernel_rfl) (by kernel_rfl) (by kernel_rfl) (fun _ _ _ h => h) (yields_build (by rfl) _ _ rfl [(0, .int .i64 9)] (by rfl) _ built_kI) hHeld ?_
  try simp only [pu]
  refine wpAnyH_take (i := 36) (oi := ⟨(some 45), _, _, _, _, _⟩) (v := .agg [Value.int .i64 8, .int .i64 1].toArray) rfl (by kernel_rfl) (by kernel_rfl) (by kernel_rfl) (fun _ _ _ h => h) (yields_build (by rfl) _ _ rfl [(0, .int .i64 8), (1, .int .i64 1)] (by rfl) _ (built_dot 8 1)) hHeld ?_
  try simp only [pu]
  refine wpAnyH_ready (rs := [37]) (by kernel_rfl) (by simp) ?_
  refine AllReadyH.cons (i := 37) (o := ⟨(some 46), _, _, _, _, _⟩) rfl (fun K hK => ?_) AllReadyH.nil
  go_simp
  refine (c8 _).mono ?_
  rintro e r5W8 ⟨rfl, r5h8⟩
  refine hK.out _ _ (below_next hHeld hHeld.size r5h8) (fun hHeld => ?_)
  clear hK K r5h8
  try simp only [pu]
  refine wpAnyH_take (i := 38) (oi := ⟨(some 47), _, _, _, _, _⟩) (v := .bool true) rfl (by kernel_rfl) (by kernel_rfl) (by kernel_rfl) (fun _ _ _ h => h) (Or.inl ⟨by rfl, ?yr5_38⟩) hHeld ?_
  case yr5_38 => (intro W0 hSw; go_simp; try with_reducible rfl)
  try simp only [pu]
  refine wpAnyH_take (i := 39) (oi := ⟨(some 48), _, _, _, _, _⟩) (v := .bool true) rfl (by kernel_rfl) (by kernel_rfl) (by kernel_rfl) (fun _ _ _ h => h) (Or.inl ⟨by rfl, ?yr5_39⟩) hHeld ?_
  case yr5_39 => (intro W0 hSw; go_simp; try with_reducible rfl)
  try simp only [pu]
  refine wpAnyH_take (i := 40) (oi := ⟨(some 49), _, _, _, _, _⟩) (v := .bool true) rfl (by kernel_rfl) (by kernel_rfl) (by kernel_rfl) (fun _ _ _ h => h) (Or.inl ⟨by rfl, ?yr5_40⟩) hHeld ?_
  case yr5_40 => (intro W0 hSw; go_simp; try with_reducible rfl)
  try simp only [pu]
  refine wpAnyH_take (i := 41) (oi := ⟨(some 50), _, _, _, _, _⟩) (v := .agg (i64v kI).toArray) rfl (by kernel_rfl) (by kernel_rfl) (by kernel_rfl) (fun _ _ _ h => h) (yields_build (by rfl) _ _ rfl [(0, .int .i64 9)] (by rfl) _ built_kI) hHeld ?_
  try simp only [pu]
  refine wpAnyH_take (i := 42) (oi := ⟨(some 51), _, _, _, _, _⟩) (v := .agg [Value.int .i64 (-1), .int .i64 1].toArray) rfl (by kernel_rfl) (by kernel_rfl) (by kernel_rfl) (fun _ _ _ h => h) (yields_build (by rfl) _ _ rfl [(0, .int .i64 (-1)), (1, .int .i64 1)] (by rfl) _ (built_dot (-1) 1)) hHeld ?_
  try simp only [pu]
  refine wpAnyH_ready (rs := [43]) (by kernel_rfl) (by simp) ?_
  refine AllReadyH.cons (i := 43) (o := ⟨(some 52), _, _, _, _, _⟩) rfl (fun K hK => ?_) AllReadyH.nil
  go_simp
  refine (c9 _).mono ?_
  rintro e r5W9 ⟨rfl, r5h9⟩
  refine hK.out _ _ (below_next hHeld hHeld.size r5h9) (fun hHeld => ?_)
  clear hK K r5h9
  try simp only [pu]
  refine wpAnyH_take (i := 44) (oi := ⟨(some 53), _, _, _, _, _⟩) (v := .bool true) rfl (by kernel_rfl) (by kernel_rfl) (by kernel_rfl) (fun _ _ _ h => h) (Or.inl ⟨by rfl, ?yr5_44⟩) hHeld ?_
  case yr5_44 => (intro W0 hSw; go_simp; try with_reducible rfl)
  try simp only [pu]
  refine wpAnyH_take (i := 45) (oi := ⟨(some 54), _, _, _, _, _⟩) (v := .bool true) rfl (by kernel_rfl) (by kernel_rfl) (by kernel_rfl) (fun _ _ _ h => h) (Or.inl ⟨by rfl, ?yr5_45⟩) hHeld ?_
  case yr5_45 => (intro W0 hSw; go_simp; try with_reducible rfl)
  try simp only [pu]
  refine wpAnyH_take (i := 46) (oi := ⟨(some 55), _, _, _, _, _⟩) (v := .bool true) rfl (by kernel_rfl) (by kernel_rfl) (by kernel_rfl) (fun _ _ _ h => h) (Or.inl ⟨by rfl, ?yr5_46⟩) hHeld ?_
  case yr5_46 => (intro W0 hSw; go_simp; try with_reducible rfl)
  try simp only [pu]
  refine wpAnyH_take (i := 47) (oi := ⟨(some 56), _, _, _, _, _⟩) (v := .agg (i64v z8).toArray) rfl (by kernel_rfl) (by kernel_rfl) (by kernel_rfl) (fun _ _ _ h => h) (yieldsIf_load_mid (by rfl) _ _ rfl G 0 rfl (i64v z8) _ (fun W' hW' => range_row ((hW'.block _ sM).trans gM.out)) (Try.underlying27) rfl (by kernel_rfl)) hHeld ?_
  try simp only [pu]
  refine wpAnyH_take (i := 48) (oi := ⟨(some 57), _, _, _, _, _⟩) (v := .agg (i64v vO).toArray) rfl (by kernel_rfl) (by kernel_rfl) (by kernel_rfl) (fun _ _ _ h => h) (yields_build (by rfl) _ _ rfl [] (by rfl) _ built_vO) hHeld ?_
  try simp only [pu]
  refine wpAnyH_take (i := 49) (oi := ⟨(some 58), _, _, _, _, _⟩) (v := .bool true) rfl (by kernel_rfl) (by kernel_rfl) (by kernel_rfl) (fun _ _ _ h => h) (Or.inl ⟨by rfl, ?yr5_49⟩) hHeld ?_
  case yr5_49 => (intro W0 hSw; go_simp; try simp only [q1]; try with_reducible rfl)
  try simp only [pu]
  refine wpAnyH_take (i := 50) (oi := ⟨(some 59), _, _, _, _, _⟩) (v := .bool true) rfl (by kernel_rfl) (by kernel_rfl) (by kernel_rfl) (fun _ _ _ h => h) (Or.inl ⟨by rfl, ?yr5_50⟩) hHeld ?_
  case yr5_50 => (intro W0 hSw; go_simp; try with_reducible rfl)
  try simp only [pu]
  refine wpAnyH_take (i := 51) (oi := ⟨(some 60), _, _, _, _, _⟩) (v := .bool true) rfl (by kernel_rfl) (by kernel_rfl) (by kernel_rfl) (fun _ _ _ h => h) (Or.inl ⟨by rfl, ?yr5_51⟩) hHeld ?_
  case yr5_51 => (intro W0 hSw; go_simp; try with_reducible rfl)
  try simp only [pu]
  refine wpAnyH_take (i := 52) (oi := ⟨(some 61), _, _, _, _, _⟩) (v := ?vyr5_52) rfl (by kernel_rfl) (by kernel_rfl) (by kernel_rfl) (fun _ _ _ h => h) (Or.inl ⟨by rfl, ?yr5_52⟩) hHeld ?_
  case yr5_52 => (intro W0 hSw; go_simp; try with_reducible rfl)
  try simp only [pu]
  refine wpAnyH_ready (rs := [53]) (by kernel_rfl) (by simp) ?_
  refine AllReadyH.cons (i := 53) (o := ⟨(some 62), _, _, _, _, _⟩) rfl (fun K hK => ?_) AllReadyH.nil
  go_simp
  refine (bad_yes _ _ _ g _ (hrV.next hHeld)).mono ?_
  rintro e r5W10 ⟨rfl, r5h10⟩
  refine hK.out _ _ (r5h10 ▸ hHeld) (fun hHeld => ?_)
  clear hK K r5h10
  try simp only [pu]
  refine wpAnyH_take (i := 54) (oi := ⟨(some 63), _, _, _, _, _⟩) (v := .bool true) rfl (by kernel_rfl) (by kernel_rfl) (by kernel_rfl) (fun _ _ _ h => h) (Or.inl ⟨by rfl, ?yr5_54⟩) hHeld ?_
  case yr5_54 => (intro W0 hSw; go_simp; try with_reducible rfl)
  try simp only [pu]
  refine wpAnyH_take (i := 55) (oi := ⟨(some 64), _, _, _, _, _⟩) (v := .bool true) rfl (by kernel_rfl) (by kernel_rfl) (by kernel_rfl) (fun _ _ _ h => h) (Or.inl ⟨by rfl, ?yr5_55⟩) hHeld ?_
  case yr5_55 => (intro W0 hSw; go_simp; try with_reducible rfl)
  try simp only [pu]
  refine wpAnyH_take (i := 57) (oi := ⟨(some 66), _, _, _, _, _⟩) (v := .agg (i64v vA).toArray) rfl (by kernel_rfl) (by kernel_rfl) (by kernel_rfl) (fun _ _ _ h => h) (yields_build (by rfl) _ _ rfl [(0, .int .i64 1)] (by rfl) _ built_vA) hHeld ?_
  try simp only [pu]
  refine wpAnyH_ready (rs := [56]) (by kernel_rfl) (by simp) ?_
  refine AllReadyH.cons (i := 56) (o := ⟨(some 65), _, _, _, _, _⟩) rfl (fun K hK => ?_) AllReadyH.nil
  go_simp
  have hlit := Byt.lit r5W10 5 #[.int .u8 9] [9] rfl
  refine hK.out _ _ (hHeld.alloc hHeld.size _) (fun hHeld => ?_)
  clear hK K
  try simp only [pu]
  refine wpAnyH_ready (rs := [58]) (by kernel_rfl) (by simp) ?_
  refine AllReadyH.cons (i := 58) (o := ⟨(some 67), _, _, _, _, _⟩) rfl (fun K hK => ?_) AllReadyH.nil
  go_simp
  refine (c10 _ _ hlit).mono ?_
  rintro e r5W11 ⟨A5, n5, c5, rfl, hr5, r5h11⟩
  have hl5 := hr5.len
  have hcv := conv_now n5 c5 hr5.byt hl5
  refine hK.out _ _ (hHeld.trans (r5h11.mono hHeld.size)) (fun hHeld => ?_)
  clear hK K r5h11
  try simp only [pu]
  refine wpAnyH_ready (rs := [59]) (by kernel_rfl) (by simp) ?_
  refine AllReadyH.cons (i := 59) (o := ⟨(some 68), _, _, _, _, _⟩) rfl (fun K hK => ?_) AllReadyH.nil
  go_simp
  refine hK.out _ _ hHeld (fun hHeld => ?_)
  clear hK K
  try simp only [pu]
  refine wpAnyH_take (i := 60) (oi := ⟨(some 69), _, _, _, _, _⟩) (v := .bool true) rfl (by kernel_rfl) (by kernel_rfl) (by kernel_rfl) (fun _ _ _ h => h) (Or.inl ⟨by rfl, ?yr5_60⟩) hHeld ?_
  case yr5_60 => (intro W0 hSw; go_simp; try with_reducible rfl)
  try simp only [pu]
  refine wpAnyH_take (i := 61) (oi := ⟨(some 70), _, _, _, _, _⟩) (v := .bool true) rfl (by kernel_rfl) (by kernel_rfl) (by kernel_rfl) (fun _ _ _ h => h) (Or.inl ⟨by rfl, ?yr5_61⟩) hHeld ?_
  case yr5_61 => (intro W0 hSw; go_simp; try with_reducible rfl)
  try simp only [pu]
  refine wpAnyH_take (i := 62) (oi := ⟨(some 0), _, _, _, _, _⟩) (v := .bool true) rfl (by kernel_rfl) (by kernel_rfl) (by kernel_rfl) (fun _ _ _ h => h) (Or.inl ⟨by rfl, ?yr5_62⟩) hHeld ?_
  case yr5_62 => (intro W0 hSw; go_simp; try with_reducible rfl)
  try simp only [pu]
  refine wpAnyH_done (by kernel_rfl) ?_ _
  go_wp2
  go_ret
  exact ⟨rfl, below_next hbV hbV.size hHeld⟩
end Go.Proofs.Ytkenldlhkmocjaa
