/-
  The walk of OctetKnown: the law's Go text returns true, and nothing that was there is changed. Conditions: none.
-/
import Derived.Test.YtkiphhabciedjaaLawA
namespace Go.Proofs.Ytkiphhabciedjaa
open Go.RowKit

theorem Byt.lit' (w : World) (E : TypeId) (cs : Array Value) (l : List UInt8) (h : cs.toList = bv l) (g : Nat) (hg : g = w.heap.size) : Byt (w.alloc (.cells cs E)) (w.alloc (.cells cs E)).heap.size (some ⟨g, 0, none⟩) l := by
  subst hg; exact Byt.lit w E cs l h

set_option maxHeartbeats 2000000 in
theorem walk_OctetKnown (w : World) : Calls Try.prog 3 #[] w fun e w' => e = .returned (.bool true) ∧ Below w.heap.size w w' := by
  obtain ⟨i0, hi, hz0, hz1, hz2⟩ := info_parts Try.infoByte
  have hmk := fun W => make_bytes (P := Try.prog) Try.underlying23 hi hz0 hz1 hz2 9 9 (9 : Int) (9 : Int) rfl rfl (by omega) (by omega) W
  have HMK := Lib.hid hmk
  clear hmk hi hz0 hz1 hz2
  go_enter Try.func3, Try.ntmps3
  go_wp2_with fail
  refine (awake_any _).mono ?_
  rintro e w1 ⟨rfl, hb1⟩
  have hz1 := hb1.size
  go_wp2_with fail
  refine (unhex_no _ _ (by decide) (by decide)).mono ?_
  rintro e w2 ⟨rfl, hc2⟩
  have hb2 := below_next hb1 hz1 hc2
  have hz2 := hb2.size
  clear hb1 hz1 hc2
  go_wp2_with fail
  refine (unhex_no _ _ (by decide) (by decide)).mono ?_
  rintro e w3 ⟨rfl, hc3⟩
  have hb3 := below_next hb2 hz2 hc3
  have hz3 := hb3.size
  clear hb2 hz2 hc3
  go_wp2_with fail
  refine (unhex_no _ _ (by decide) (by decide)).mono ?_
  rintro e w4 ⟨rfl, hc4⟩
  have hb4 := below_next hb3 hz3 hc4
  have hz4 := hb4.size
  clear hb3 hz3 hc4
  go_wp2_with fail
  refine (unhex_ok _ [255, 0] _ (by decide) (by decide)).mono ?_
  rintro e w5 ⟨A5, c5, rfl, hr5, hc5⟩
  have hb5 := below_next hb4 hz4 hc5
  have hz5 := hb5.size
  clear hb4 hz4 hc5
  go_wp2_with fail
  refine (fromBig_ok none [] 0 0 _ Byt.none_ rfl (by omega)).mono ?_
  rintro e w' ⟨rfl, rfl⟩
  rw [show ((bn [] : Nat) : Int) = 0 from rfl]
  obtain ⟨w6, hrun6, hg6, hc6, hs6⟩ := HMK.out w5
  go_wp2_with fail
  refine (fromLittle_no _ 9 9 _ (by omega)).mono ?_
  rintro e w' ⟨rfl, rfl⟩
  have hr6 := hr5.keep hc6.out
  have hb6 := below_next hb5 hz5 hc6.out
  have hz6 := hb6.size
  clear hr5 hb5 hz5 hrun6 hg6 hc6 hs6 HMK
  go_wp2_with fail
  refine (fromLittle_ok (some ⟨w6.heap.size, 0, none⟩) [1, 2] 2 2 _ (Byt.lit _ _ _ _ rfl) rfl (by omega)).mono ?_
  rintro e w7 ⟨rfl, hq7⟩
  have hc7 : Below w6.heap.size w6 w7 := by rw [← hq7]; exact (Below.refl _ _).alloc (Nat.le_refl _) _
  rw [show ((ln [1, 2] : Nat) : Int) = 513 from rfl]
  have hr7 := hr6.keep hc7
  have hb7 := below_next hb6 hz6 hc7
  have hz7 := hb7.size
  have hcv := conv_bytes (P := Try.prog) Try.underlying23 Try.underlying5 Try.underlying9 hr7.byt 2 c5 rfl
  clear hr6 hb6 hz6 hc7 hq7
  go_wp2_with fail
  refine (big_any none [] 0 0 5 (-3) _ Byt.none_ rfl (by omega) (by omega)).mono ?_
  rintro e w8 ⟨A8, c8, rfl, _, hc8⟩
  rw [show 0 + wd (-3) = 0 from by decide]
  have hb8 := below_next hb7 hz7 hc8
  have hz8 := hb8.size
  clear hb7 hz7 hc8 hcv hr7
  go_wp2_with fail
  refine (little_any none [] 0 0 5 99 _ Byt.none_ rfl (by omega) (by omega)).mono ?_
  rintro e w9 ⟨A9, c9, rfl, _, hc9⟩
  rw [show 0 + wd 99 = 8 from by decide]
  have hb9 := below_next hb8 hz8 hc9
  have hz9 := hb9.size
  clear hb8 hz8 hc9
  go_wp2_with fail
  refine (equal_core (some ⟨w9.heap.size, 0, none⟩) (some ⟨w9.heap.size + 1, 0, none⟩) [1] [1, 2] 1 2 1 2 1 _ (((Byt.lit w9 5 #[.int .u8 1] [1] rfl).alloc (Nat.le_refl _) _).up (by simp)) (Byt.lit' _ _ _ _ rfl _ (by simp)) rfl rfl (by omega) (by omega) (by omega)).mono ?_
  rintro e w10 ⟨rfl, q10, hq10⟩
  rw [show decide ([1] = ([1, 2] : List UInt8)) = false from by decide]
  have hc10 : Below w9.heap.size w9 w10 := by rw [hq10]; exact below_drewN (((Below.refl _ _).alloc (Nat.le_refl _) _).alloc (by simp) _) _
  have hb10 := below_next hb9 hz9 hc10
  have hz10 := hb10.size
  clear hb9 hz9 hc10 hq10
  go_wp2_with fail
  refine (equal_core none (some ⟨w10.heap.size, 0, none⟩) [] [] 0 0 0 0 0 _ Byt.none_ Byt.none_ rfl rfl (by omega) (by omega) (by omega)).mono ?_
  rintro e w11 ⟨rfl, q11, hq11⟩
  rw [show decide (([] : List UInt8) = []) = true from by decide]
  have hc11 : Below w10.heap.size w10 w11 := by rw [hq11]; exact below_drewN ((Below.refl _ _).alloc (Nat.le_refl _) _) _
  have hb11 := below_next hb10 hz10 hc11
  have hz11 := hb11.size
  clear hb10 hz10 hc11 hq11
  go_wp2_with fail
  refine (xor_core (some ⟨w11.heap.size, 0, none⟩) none [1] [] 1 0 1 0 0 _ (Byt.lit _ _ _ _ rfl) Byt.none_ rfl rfl (by omega) (by omega) (by omega)).mono ?_
  rintro e w12 ⟨A12, c12, rfl, _, hc12⟩
  have hb12 := below_lit hb11 hz11 hc12
  clear hb11 hz11 hc12
  go_wp2
  go_ret
  exact ⟨rfl, hb12⟩
end Go.Proofs.Ytkiphhabciedjaa
