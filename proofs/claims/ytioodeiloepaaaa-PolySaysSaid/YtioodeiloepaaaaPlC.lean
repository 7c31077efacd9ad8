/-
  Contract of poly's times. Conditions: pieces of the one below 2^28, of the other below 2^26.
-/
import Derived.Test.YtioodeiloepaaaaPlB
import Derived.Test.YtioodeiloepaaaaReg
namespace Go.Proofs.Ytioodeiloepaaaa
open Go.RowKit

/-- A product and a sum, as the walk meets them. -/
theorem pr_ex (x y : Nat) (hx : x < 268435456) (hy : y < 335544320) : ∃ p : Nat, IntKind.u64.wrap ((x : Int) * (y : Int)) = (p : Int) ∧ Hid (p = x * y) ∧ p < 90071992547409920 := by
  have h : x * y < 90071992547409920 := Nat.lt_of_le_of_lt (Nat.mul_le_mul (show x ≤ 268435455 by omega) (show y ≤ 335544319 by omega)) (by decide)
  exact ⟨x * y, by rw [← Int.natCast_mul, wrap64, Nat.mod_eq_of_lt (by omega)], rfl, h⟩
theorem sm_ex (x y X Y : Nat) (hx : x < X) (hy : y < Y) (h : X + Y ≤ 9223372036854775808) : ∃ s : Nat, IntKind.u64.wrap ((x : Int) + (y : Int)) = (s : Int) ∧ Hid (s = x + y) ∧ s < X + Y :=
  ⟨x + y, by rw [← Int.natCast_add, wrap64, Nat.mod_eq_of_lt (by omega)], rfl, by omega⟩

set_option maxRecDepth 100000 in
set_option maxHeartbeats 4000000 in
theorem ntimes_any (w : World) (a0 a1 a2 a3 a4 b0 b1 b2 b3 b4 : Nat) (ha0 : a0 < 268435456) (ha1 : a1 < 268435456) (ha2 : a2 < 268435456) (ha3 : a3 < 268435456) (ha4 : a4 < 268435456)
    (hb0 : b0 < 67108864) (hb1 : b1 < 67108864) (hb2 : b2 < 67108864) (hb3 : b3 < 67108864) (hb4 : b4 < 67108864) :
    Calls Try.prog 28 #[.agg (u64v [a0, a1, a2, a3, a4]).toArray, .agg (u64v [b0, b1, b2, b3, b4]).toArray] w fun e w' => ∃ c0 c1 c2 c3 c4, e = .returned (.agg (u64v [c0, c1, c2, c3, c4]).toArray) ∧
      Vlt (nv c0 c1 c2 c3 c4 % PP = nv a0 a1 a2 a3 a4 * nv b0 b1 b2 b3 b4 % PP) ∧ (c0 < 67108870 ∧ c1 < 67108864 ∧ c2 < 67108864 ∧ c3 < 67108864 ∧ c4 < 67108864) ∧ Below w.heap.size w w' := by
  have hzn := zero_num
  obtain ⟨W, hW, hgA, hgB, hgZ, hbW, hsW⟩ := three_new w (u64v [a0, a1, a2, a3, a4]).toArray (u64v [b0, b1, b2, b3, b4]).toArray (u64v z5).toArray 41 41 41
  have HW := Lib.hid hW
  have hs1 : w.heap.size + 2 < W.heap.size := by have := hsW.out; omega
  clear hW
  have ca0 : W.cell? ⟨w.heap.size, 0, none⟩ = some (.int .u64 (a0 : Int)) := long_at hgA.out 0 (by simp)
  have ca1 : W.cell? ⟨w.heap.size, 1, none⟩ = some (.int .u64 (a1 : Int)) := long_at hgA.out 1 (by simp)
  have ca2 : W.cell? ⟨w.heap.size, 2, none⟩ = some (.int .u64 (a2 : Int)) := long_at hgA.out 2 (by simp)
  have ca3 : W.cell? ⟨w.heap.size, 3, none⟩ = some (.int .u64 (a3 : Int)) := long_at hgA.out 3 (by simp)
  have ca4 : W.cell? ⟨w.heap.size, 4, none⟩ = some (.int .u64 (a4 : Int)) := long_at hgA.out 4 (by simp)
  have cb0 : W.cell? ⟨w.heap.size + 1, 0, none⟩ = some (.int .u64 (b0 : Int)) := long_at hgB.out 0 (by simp)
  have cb1 : W.cell? ⟨w.heap.size + 1, 1, none⟩ = some (.int .u64 (b1 : Int)) := long_at hgB.out 1 (by simp)
  have cb2 : W.cell? ⟨w.heap.size + 1, 2, none⟩ = some (.int .u64 (b2 : Int)) := long_at hgB.out 2 (by simp)
  have cb3 : W.cell? ⟨w.heap.size + 1, 3, none⟩ = some (.int .u64 (b3 : Int)) := long_at hgB.out 3 (by simp)
  have cb4 : W.cell? ⟨w.heap.size + 1, 4, none⟩ = some (.int .u64 (b4 : Int)) := long_at hgB.out 4 (by simp)
  obtain ⟨q1, eq1, hq1, lq1⟩ : ∃ q : Nat, (5 : Int) * (b1 : Int) = (q : Int) ∧ Hid (q = 5 * b1) ∧ q < 335544320 := ⟨5 * b1, by omega, rfl, by omega⟩
  have ew1 : IntKind.u64.wrap ((5 : Int) * (b1 : Int)) = (q1 : Int) := by rw [eq1]; exact IntWalk.u64_in _ (by omega)
  obtain ⟨q2, eq2, hq2, lq2⟩ : ∃ q : Nat, (5 : Int) * (b2 : Int) = (q : Int) ∧ Hid (q = 5 * b2) ∧ q < 335544320 := ⟨5 * b2, by omega, rfl, by omega⟩
  have ew2 : IntKind.u64.wrap ((5 : Int) * (b2 : Int)) = (q2 : Int) := by rw [eq2]; exact IntWalk.u64_in _ (by omega)
  obtain ⟨q3, eq3, hq3, lq3⟩ : ∃ q : Nat, (5 : Int) * (b3 : Int) = (q : Int) ∧ Hid (q = 5 * b3) ∧ q < 335544320 := ⟨5 * b3, by omega, rfl, by omega⟩
  have ew3 : IntKind.u64.wrap ((5 : Int) * (b3 : Int)) = (q3 : Int) := by rw [eq3]; exact IntWalk.u64_in _ (by omega)
  obtain ⟨q4, eq4, hq4, lq4⟩ : ∃ q : Nat, (5 : Int) * (b4 : Int) = (q : Int) ∧ Hid (q = 5 * b4) ∧ q < 335544320 := ⟨5 * b4, by omega, rfl, by omega⟩
  have ew4 : IntKind.u64.wrap ((5 : Int) * (b4 : Int)) = (q4 : Int) := by rw [eq4]; exact IntWalk.u64_in _ (by omega)
  go_enter Try.func28, Try.ntmps28
  go_upto_region 1 with fail
  rw [HW.out]
  go_quiet (fail)
  have hbV : Below w.heap.size w (W.drewN nq) := below_drewN hbW nq
  have hzV : Hid ((W.drewN nq).heap[w.heap.size + 2]? = some (.cells (u64v z5).toArray 41 (0, 0))) := hgZ.out
  have hsV : w.heap.size + 2 < (W.drewN nq).heap.size := hs1
  have ca := (show (W.drewN nq).cell? _ = _ from ca0)
  clear ca
  have da0 : (W.drewN nq).cell? ⟨w.heap.size, 0, none⟩ = some (.int .u64 (a0 : Int)) := ca0
  have da1 : (W.drewN nq).cell? ⟨w.heap.size, 1, none⟩ = some (.int .u64 (a1 : Int)) := ca1
  have da2 : (W.drewN nq).cell? ⟨w.heap.size, 2, none⟩ = some (.int .u64 (a2 : Int)) := ca2
  have da3 : (W.drewN nq).cell? ⟨w.heap.size, 3, none⟩ = some (.int .u64 (a3 : Int)) := ca3
  have da4 : (W.drewN nq).cell? ⟨w.heap.size, 4, none⟩ = some (.int .u64 (a4 : Int)) := ca4
  have db0 : (W.drewN nq).cell? ⟨w.heap.size + 1, 0, none⟩ = some (.int .u64 (b0 : Int)) := cb0
  have db1 : (W.drewN nq).cell? ⟨w.heap.size + 1, 1, none⟩ = some (.int .u64 (b1 : Int)) := cb1
  have db2 : (W.drewN nq).cell? ⟨w.heap.size + 1, 2, none⟩ = some (.int .u64 (b2 : Int)) := cb2
  have db3 : (W.drewN nq).cell? ⟨w.heap.size + 1, 3, none⟩ = some (.int .u64 (b3 : Int)) := cb3
  have db4 : (W.drewN nq).cell? ⟨w.heap.size + 1, 4, none⟩ = some (.int .u64 (b4 : Int)) := cb4
  clear ca0 ca1 ca2 ca3 ca4 cb0 cb1 cb2 cb3 cb4
  generalize W.drewN nq = V at *
  clear eq1 eq2 eq3 eq4 ew1 ew2 ew3 ew4
  obtain ⟨p00, ep00, hp00, lp00⟩ := pr_ex a0 b0 ha0 (by omega)
  obtain ⟨p01, ep01, hp01, lp01⟩ := pr_ex a1 q4 ha1 (by omega)
  obtain ⟨p02, ep02, hp02, lp02⟩ := pr_ex a2 q3 ha2 (by omega)
  obtain ⟨p03, ep03, hp03, lp03⟩ := pr_ex a3 q2 ha3 (by omega)
  obtain ⟨p04, ep04, hp04, lp04⟩ := pr_ex a4 q1 ha4 (by omega)
  obtain ⟨p10, ep10, hp10, lp10⟩ := pr_ex a0 b1 ha0 (by omega)
  obtain ⟨p11, ep11, hp11, lp11⟩ := pr_ex a1 b0 ha1 (by omega)
  obtain ⟨p12, ep12, hp12, lp12⟩ := pr_ex a2 q4 ha2 (by omega)
  obtain ⟨p13, ep13, hp13, lp13⟩ := pr_ex a3 q3 ha3 (by omega)
  obtain ⟨p14, ep14, hp14, lp14⟩ := pr_ex a4 q2 ha4 (by omega)
  obtain ⟨p20, ep20, hp20, lp20⟩ := pr_ex a0 b2 ha0 (by omega)
  obtain ⟨p21, ep21, hp21, lp21⟩ := pr_ex a1 b1 ha1 (by omega)
  obtain ⟨p22, ep22, hp22, lp22⟩ := pr_ex a2 b0 ha2 (by omega)
  obtain ⟨p23, ep23, hp23, lp23⟩ := pr_ex a3 q4 ha3 (by omega)
  obtain ⟨p24, ep24, hp24, lp24⟩ := pr_ex a4 q3 ha4 (by omega)
  obtain ⟨p30, ep30, hp30, lp30⟩ := pr_ex a0 b3 ha0 (by omega)
  obtain ⟨p31, ep31, hp31, lp31⟩ := pr_ex a1 b2 ha1 (by omega)
  obtain ⟨p32, ep32, hp32, lp32⟩ := pr_ex a2 b1 ha2 (by omega)
  obtain ⟨p33, ep33, hp33, lp33⟩ := pr_ex a3 b0 ha3 (by omega)
  obtain ⟨p34, ep34, hp34, lp34⟩ := pr_ex a4 q4 ha4 (by omega)
  obtain ⟨p40, ep40, hp40, lp40⟩ := pr_ex a0 b4 ha0 (by omega)
  obtain ⟨p41, ep41, hp41, lp41⟩ := pr_ex a1 b3 ha1 (by omega)
  obtain ⟨p42, ep42, hp42, lp42⟩ := pr_ex a2 b2 ha2 (by omega)
  obtain ⟨p43, ep43, hp43, lp43⟩ := pr_ex a3 b1 ha3 (by omega)
  obtain ⟨p44, ep44, hp44, lp44⟩ := pr_ex a4 b0 ha4 (by omega)
  obtain ⟨s01, es01, hs01, ls01⟩ := sm_ex p00 p01 90071992547409920 90071992547409920 lp00 lp01 (by decide)
  rw [show 90071992547409920 + 90071992547409920 = 180143985094819840 from rfl] at ls01
  obtain ⟨s02, es02, hs02, ls02⟩ := sm_ex s01 p02 180143985094819840 90071992547409920 ls01 lp02 (by decide)
  rw [show 180143985094819840 + 90071992547409920 = 270215977642229760 from rfl] at ls02
  obtain ⟨s03, es03, hs03, ls03⟩ := sm_ex s02 p03 270215977642229760 90071992547409920 ls02 lp03 (by decide)
  rw [show 270215977642229760 + 90071992547409920 = 360287970189639680 from rfl] at ls03
  obtain ⟨s04, es04, hs04, ls04⟩ := sm_ex s03 p04 360287970189639680 90071992547409920 ls03 lp04 (by decide)
  rw [show 360287970189639680 + 90071992547409920 = 450359962737049600 from rfl] at ls04
  obtain ⟨s11, es11, hs11, ls11⟩ := sm_ex p10 p11 90071992547409920 90071992547409920 lp10 lp11 (by decide)
  rw [show 90071992547409920 + 90071992547409920 = 180143985094819840 from rfl] at ls11
  obtain ⟨s12, es12, hs12, ls12⟩ := sm_ex s11 p12 180143985094819840 90071992547409920 ls11 lp12 (by decide)
  rw [show 180143985094819840 + 90071992547409920 = 270215977642229760 from rfl] at ls12
  obtain ⟨s13, es13, hs13, ls13⟩ := sm_ex s12 p13 270215977642229760 90071992547409920 ls12 lp13 (by decide)
  rw [show 270215977642229760 + 90071992547409920 = 360287970189639680 from rfl] at ls13
  obtain ⟨s14, es14, hs14, ls14⟩ := sm_ex s13 p14 360287970189639680 90071992547409920 ls13 lp14 (by decide)
  rw [show 360287970189639680 + 90071992547409920 = 450359962737049600 from rfl] at ls14
  obtain ⟨s21, es21, hs21, ls21⟩ := sm_ex p20 p21 90071992547409920 90071992547409920 lp20 lp21 (by decide)
  rw [show 90071992547409920 + 90071992547409920 = 180143985094819840 from rfl] at ls21
  obtain ⟨s22, es22, hs22, ls22⟩ := sm_ex s21 p22 180143985094819840 90071992547409920 ls21 lp22 (by decide)
  rw [show 180143985094819840 + 90071992547409920 = 270215977642229760 from rfl] at ls22
  obtain ⟨s23, es23, hs23, ls23⟩ := sm_ex s22 p23 270215977642229760 90071992547409920 ls22 lp23 (by decide)
  rw [show 270215977642229760 + 90071992547409920 = 360287970189639680 from rfl] at ls23
  obtain ⟨s24, es24, hs24, ls24⟩ := sm_ex s23 p24 360287970189639680 90071992547409920 ls23 lp24 (by decide)
  rw [show 360287970189639680 + 90071992547409920 = 450359962737049600 from rfl] at ls24
  obtain ⟨s31, es31, hs31, ls31⟩ := sm_ex p30 p31 90071992547409920 90071992547409920 lp30 lp31 (by decide)
  rw [show 90071992547409920 + 90071992547409920 = 180143985094819840 from rfl] at ls31
  obtain ⟨s32, es32, hs32, ls32⟩ := sm_ex s31 p32 180143985094819840 90071992547409920 ls31 lp32 (by decide)
  rw [show 180143985094819840 + 90071992547409920 = 270215977642229760 from rfl] at ls32
  obtain ⟨s33, es33, hs33, ls33⟩ := sm_ex s32 p33 270215977642229760 90071992547409920 ls32 lp33 (by decide)
  rw [show 270215977642229760 + 90071992547409920 = 360287970189639680 from rfl] at ls33
  obtain ⟨s34, es34, hs34, ls34⟩ := sm_ex s33 p34 360287970189639680 90071992547409920 ls33 lp34 (by decide)
  rw [show 360287970189639680 + 90071992547409920 = 450359962737049600 from rfl] at ls34
  obtain ⟨s41, es41, hs41, ls41⟩ := sm_ex p40 p41 90071992547409920 90071992547409920 lp40 lp41 (by decide)
  rw [show 90071992547409920 + 90071992547409920 = 180143985094819840 from rfl] at ls41
  obtain ⟨s42, es42, hs42, ls42⟩ := sm_ex s41 p42 180143985094819840 90071992547409920 ls41 lp42 (by decide)
  rw [show 180143985094819840 + 90071992547409920 = 270215977642229760 from rfl] at ls42
  obtain ⟨s43, es43, hs43, ls43⟩ := sm_ex s42 p43 270215977642229760 90071992547409920 ls42 lp43 (by decide)
  rw [show 270215977642229760 + 90071992547409920 = 360287970189639680 from rfl] at ls43
  obtain ⟨s44, es44, hs44, ls44⟩ := sm_ex s43 p44 360287970189639680 90071992547409920 ls43 lp44 (by decide)
  rw [show 360287970189639680 + 90071992547409920 = 450359962737049600 from rfl] at ls44
  have E0 : (IntKind.u64.wrap ((IntKind.u64.wrap ((IntKind.u64.wrap ((IntKind.u64.wrap ((IntKind.u64.wrap ((a0 : Int) * (b0 : Int))) + (IntKind.u64.wrap ((a1 : Int) * (q4 : Int))))) + (IntKind.u64.wrap ((a2 : Int) * (q3 : Int))))) + (IntKind.u64.wrap ((a3 : Int) * (q2 : Int))))) + (IntKind.u64.wrap ((a4 : Int) * (q1 : Int))))) = (s04 : Int) := by rw [ep00, ep01, es01, ep02, es02, ep03, es03, ep04, es04]
  have E1 : (IntKind.u64.wrap ((IntKind.u64.wrap ((IntKind.u64.wrap ((IntKind.u64.wrap ((IntKind.u64.wrap ((a0 : Int) * (b1 : Int))) + (IntKind.u64.wrap ((a1 : Int) * (b0 : Int))))) + (IntKind.u64.wrap ((a2 : Int) * (q4 : Int))))) + (IntKind.u64.wrap ((a3 : Int) * (q3 : Int))))) + (IntKind.u64.wrap ((a4 : Int) * (q2 : Int))))) = (s14 : Int) := by rw [ep10, ep11, es11, ep12, es12, ep13, es13, ep14, es14]
  have E2 : (IntKind.u64.wrap ((IntKind.u64.wrap ((IntKind.u64.wrap ((IntKind.u64.wrap ((IntKind.u64.wrap ((a0 : Int) * (b2 : Int))) + (IntKind.u64.wrap ((a1 : Int) * (b1 : Int))))) + (IntKind.u64.wrap ((a2 : Int) * (b0 : Int))))) + (IntKind.u64.wrap ((a3 : Int) * (q4 : Int))))) + (IntKind.u64.wrap ((a4 : Int) * (q3 : Int))))) = (s24 : Int) := by rw [ep20, ep21, es21, ep22, es22, ep23, es23, ep24, es24]
  have E3 : (IntKind.u64.wrap ((IntKind.u64.wrap ((IntKind.u64.wrap ((IntKind.u64.wrap ((IntKind.u64.wrap ((a0 : Int) * (b3 : Int))) + (IntKind.u64.wrap ((a1 : Int) * (b2 : Int))))) + (IntKind.u64.wrap ((a2 : Int) * (b1 : Int))))) + (IntKind.u64.wrap ((a3 : Int) * (b0 : Int))))) + (IntKind.u64.wrap ((a4 : Int) * (q4 : Int))))) = (s34 : Int) := by rw [ep30, ep31, es31, ep32, es32, ep33, es33, ep34, es34]
  have E4 : (IntKind.u64.wrap ((IntKind.u64.wrap ((IntKind.u64.wrap ((IntKind.u64.wrap ((IntKind.u64.wrap ((a0 : Int) * (b4 : Int))) + (IntKind.u64.wrap ((a1 : Int) * (b3 : Int))))) + (IntKind.u64.wrap ((a2 : Int) * (b2 : Int))))) + (IntKind.u64.wrap ((a3 : Int) * (b1 : Int))))) + (IntKind.u64.wrap ((a4 : Int) * (b0 : Int))))) = (s44 : Int) := by rw [ep40, ep41, es41, ep42, es42, ep43, es43, ep44, es44]
  have HO0 := vlt (show s04 = a0 * b0 + a1 * (5 * b4) + a2 * (5 * b3) + a3 * (5 * b2) + a4 * (5 * b1) by rw [hs04.out, hs03.out, hs02.out, hs01.out, hp00.out, hp01.out, hp02.out, hp03.out, hp04.out, hq4.out, hq3.out, hq2.out, hq1.out])
  have HO1 := vlt (show s14 = a0 * b1 + a1 * b0 + a2 * (5 * b4) + a3 * (5 * b3) + a4 * (5 * b2) by rw [hs14.out, hs13.out, hs12.out, hs11.out, hp10.out, hp11.out, hp12.out, hp13.out, hp14.out, hq4.out, hq3.out, hq2.out])
  have HO2 := vlt (show s24 = a0 * b2 + a1 * b1 + a2 * b0 + a3 * (5 * b4) + a4 * (5 * b3) by rw [hs24.out, hs23.out, hs22.out, hs21.out, hp20.out, hp21.out, hp22.out, hp23.out, hp24.out, hq4.out, hq3.out])
  have HO3 := vlt (show s34 = a0 * b3 + a1 * b2 + a2 * b1 + a3 * b0 + a4 * (5 * b4) by rw [hs34.out, hs33.out, hs32.out, hs31.out, hp30.out, hp31.out, hp32.out, hp33.out, hp34.out, hq4.out])
  have HO4 := vlt (show s44 = a0 * b4 + a1 * b3 + a2 * b2 + a3 * b1 + a4 * b0 by rw [hs44.out, hs43.out, hs42.out, hs41.out, hp40.out, hp41.out, hp42.out, hp43.out, hp44.out])
  have LS : s04 < 576460752303423488 ∧ s14 < 576460752303423488 ∧ s24 < 576460752303423488 ∧ s34 < 576460752303423488 ∧ s44 < 576460752303423488 := by omega
  clear ep00 hp00 lp00 ep01 hp01 lp01 ep02 hp02 lp02 ep03 hp03 lp03 ep04 hp04 lp04 ep10 hp10 lp10 ep11 hp11 lp11 ep12 hp12 lp12 ep13 hp13 lp13 ep14 hp14 lp14 ep20 hp20 lp20 ep21 hp21 lp21 ep22 hp22 lp22 ep23 hp23 lp23 ep24 hp24 lp24 ep30 hp30 lp30 ep31 hp31 lp31 ep32 hp32 lp32 ep33 hp33 lp33 ep34 hp34 lp34 ep40 hp40 lp40 ep41 hp41 lp41 ep42 hp42 lp42 ep43 hp43 lp43 ep44 hp44 lp44
  clear es01 hs01 ls01 es02 hs02 ls02 es03 hs03 ls03 es04 hs04 ls04 es11 hs11 ls11 es12 hs12 ls12 es13 hs13 ls13 es14 hs14 ls14 es21 hs21 ls21 es22 hs22 ls22 es23 hs23 ls23 es24 hs24 ls24 es31 hs31 ls31 es32 hs32 ls32 es33 hs33 ls33 es34 hs34 ls34 es41 hs41 ls41 es42 hs42 ls42 es43 hs43 ls43 es44 hs44 ls44
  go_upto_region 3 with (first
    | (with_reducible refine wpList_build_to rfl 41 _ rfl [(0, .int .u64 (s04 : Int)), (1, .int .u64 (s14 : Int)), (2, .int .u64 (s24 : Int)), (3, .int .u64 (s34 : Int)), (4, .int .u64 (s44 : Int))] (by rw [← E0, ← E1, ← E2, ← E3, ← E4]; rfl) _ (built_num s04 s14 s24 s34 s44) ?_)
    | ((with_reducible refine wpList_store_row rfl 41 (.tmp 9) (.tmp 157) rfl V.heap.size (u64v [s04, s14, s24, s34, s44]).toArray rfl rfl 41 _ (heap_alloc_new _ _) (by kernel_rfl) (by kernel_rfl) (all_oneCell_toArray (u64v_one _)) ?_); rw [World.setRow_alloc_new]))
  have hg9 := heap_alloc_new V (.cells (u64v [s04, s14, s24, s34, s44]).toArray 41)
  have hb9 : Below w.heap.size w (V.alloc (.cells (u64v [s04, s14, s24, s34, s44]).toArray 41)) := hbV.alloc hbV.size _
  have hz9 : Hid ((V.alloc (.cells (u64v [s04, s14, s24, s34, s44]).toArray 41)).heap[w.heap.size + 2]? = some (.cells (u64v z5).toArray 41 (0, 0))) := (Below.heap_alloc _ _ _ hsV).trans hzV.out
  have hs9 : w.heap.size + 2 < (V.alloc (.cells (u64v [s04, s14, s24, s34, s44]).toArray 41)).heap.size := by simp; omega
  obtain ⟨c0, c1, c2, c3, c4, hcar, hmod, l0, l1, l2, l3, l4, hmid⟩ := car_twice s04 s14 s24 s34 s44 LS.1 LS.2.1 LS.2.2.1 LS.2.2.2.1 LS.2.2.2.2
  have HMOD := vlt (show nv c0 c1 c2 c3 c4 % PP = nv a0 a1 a2 a3 a4 * nv b0 b1 b2 b3 b4 % PP by rw [prod_pieces, Nat.add_mul_mod_self_left, ← HO0.out, ← HO1.out, ← HO2.out, ← HO3.out, ← HO4.out, hmod])
  generalize V.alloc (.cells (u64v [s04, s14, s24, s34, s44]).toArray 41) = w3 at *
  have hcall1 := carried_any w3 [s04, s14, s24, s34, s44] rfl (by intro x hx; simp only [List.mem_cons, List.not_mem_nil, or_false] at hx; omega)
  obtain ⟨M, hM⟩ : ∃ M, M = carOf [s04, s14, s24, s34, s44] := ⟨_, rfl⟩
  rw [← hM] at hcall1 hcar hmid
  have hML : M.length = 5 := by rw [hM, carOf_len]; rfl
  clear hM hmod E0 E1 E2 E3 E4 HO0 HO1 HO2 HO3 HO4
  obtain ⟨L, hL⟩ : ∃ L, L = [s04, s14, s24, s34, s44] := ⟨_, rfl⟩
  rw [← hL] at hg9 hcall1
  have HLS := Lib.hid (show (u64v L).toArray.size = 5 by rw [hL]; rfl)
  have HLL := Lib.hid hL
  clear hL
  go_wp2_with (with_reducible refine wpList_load_row rfl 41 (.tmp 9) rfl V.heap.size rfl 41 (u64v L).toArray (0, 0) _ hg9 Try.underlying41 rfl (by rw [HLS.out]; kernel_rfl) ?_)
  refine hcall1.mono ?_
  rintro e w4 ⟨rfl, hb4⟩
  have hcall2 := carried_any w4 M hML hmid
  rw [hcar] at hcall2
  clear hcall1 hcar hmid hg9
  go_wp2_with fail
  refine hcall2.mono ?_
  rintro e w5 ⟨rfl, hb5⟩
  have hz5' : Hid (w5.heap[w.heap.size + 1 + 1]? = some (.cells (u64v z5).toArray 41 (0, 0))) := (hb5.block _ (by have := hb4.size; omega)).trans ((hb4.block _ hs9).trans hz9.out)
  have hbw := below_next (below_next hb9 hb9.size hb4) (below_next hb9 hb9.size hb4).size hb5
  clear hcall2
  go_wp2_with (with_reducible refine wpList_store_row rfl 41 (.tmp 4) (.tmp 160) rfl (w.heap.size + 1 + 1) (u64v [c0, c1, c2, c3, c4]).toArray rfl rfl 41 _ hz5'.out (by kernel_rfl) (by kernel_rfl) (all_oneCell_toArray (u64v_one _)) ?_)
  refine bodyPost_ret (v := .agg (u64v [c0, c1, c2, c3, c4]).toArray) (results_cell_row Try.results28 _ _ (w.heap.size + 1 + 1) 41 _ (0, 0) _ rfl (setRow_heap _ _ _ _ _ _ hz5'.out) Try.underlying41 rfl (by kernel_rfl)) rfl ⟨c0, c1, c2, c3, c4, rfl, HMOD, ⟨l0, l1, l2, l3, l4⟩, below_setRow hbw (by omega) _⟩
end Go.Proofs.Ytioodeiloepaaaa
