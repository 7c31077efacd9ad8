/-
  DiskKnown: the law's Go text returns true. Conditions: none.
-/
import Derived.Test.YthjdmekelohchaaDkV
namespace Go.Proofs.Ythjdmekelohchaa
open Go.RowKit

def nA : ByteArray := { data := #[97] }
def nB : ByteArray := { data := #[98] }
def nS : ByteArray := { data := #[32] }
def kS0 : Dk := ⟨64, true, 1, []⟩
def kS1 : Dk := ⟨64, true, 1, [(nA, ⟨[], [[111, 110, 101]]⟩)]⟩
def kS2 : Dk := ⟨64, true, 1, [(nA, ⟨[111, 110, 101], []⟩)]⟩
def kS3 : Dk := ⟨64, true, 1, [(nA, ⟨[111, 110, 101], [[116, 119, 111]]⟩)]⟩
def kS4 : Dk := ⟨64, true, 1, [(nB, ⟨[111, 110, 101], [[116, 119, 111]]⟩)]⟩
def kS5 : Dk := ⟨64, false, 1, [(nB, ⟨[111, 110, 101, 116], []⟩)]⟩
def kS6 : Dk := ⟨64, true, 2, [(nB, ⟨[111, 110, 101, 116], []⟩)]⟩
def kS7 : Dk := ⟨64, true, 2, [(nB, ⟨[111, 110, 101, 116], [[113]]⟩)]⟩
def kS8 : Dk := ⟨64, false, 2, [(nB, ⟨[111, 110, 101, 116], []⟩)]⟩
def kS9 : Dk := ⟨64, true, 3, [(nB, ⟨[111, 110, 101, 116], []⟩)]⟩
def kS10 : Dk := ⟨64, true, 3, []⟩
theorem kn0 : appE kS0 nS 0 = 1 ∧ kS0.app nS [] = kS0 := ⟨by decide +kernel, by kernel_rfl⟩
theorem kn1 : appE kS0 nA 65 = 6 ∧ kS0.app nA (List.replicate 65 0) = kS0 := ⟨by decide +kernel, by kernel_rfl⟩
theorem kn2 : askE kS0 nA = 4 ∧ kS0.syn nA = kS0 := ⟨by decide +kernel, by kernel_rfl⟩
theorem kn3 : appE kS0 nA 3 = 0 ∧ kS0.app nA [111, 110, 101] = kS1 := ⟨by decide +kernel, by kernel_rfl⟩
theorem kn4 : askE kS1 nA = 0 ∧ kS1.syn nA = kS2 := ⟨by decide +kernel, by kernel_rfl⟩
theorem kn5 : appE kS2 nA 3 = 0 ∧ kS2.app nA [116, 119, 111] = kS3 := ⟨by decide +kernel, by kernel_rfl⟩
theorem kn6 : renE kS3 nA nB = 0 ∧ kS3.ren nA nB = kS4 := ⟨by decide +kernel, by kernel_rfl⟩
theorem kn7 : kS4.crs 1 2 = kS5 := by kernel_rfl
theorem kn8 : kS5.awake = kS6 := rfl
theorem kn9 : askE kS6 nB = 0 ∧ readB kS6 nB = [111, 110, 101, 116] := ⟨by decide +kernel, by decide +kernel⟩
theorem kn10 : appE kS6 nB 1 = 0 ∧ kS6.app nB [113] = kS7 := ⟨by decide +kernel, by kernel_rfl⟩
theorem kn11 : kS7.crs 1 5 = kS8 := by kernel_rfl
theorem kn12 : kS8.awake = kS9 := rfl
theorem kn13 : askE kS9 nB = 0 ∧ readB kS9 nB = [111, 110, 101, 116] := ⟨by decide +kernel, by decide +kernel⟩
theorem kn14 : askE kS9 nB = 0 ∧ kS9.drp nB = kS10 := ⟨by decide +kernel, by kernel_rfl⟩
theorem kn15 : renE kS10 nB nB = 4 ∧ kS10.ren nB nB = kS10 := ⟨by decide +kernel, by kernel_rfl⟩
theorem kn16 : kS10.siz = 0 := by decide +kernel

set_option maxRecDepth 100000 in
set_option maxHeartbeats 2000000 in
theorem walk_DiskKnown (w : World) : Calls Try.prog 3 #[] w fun e w' => e = .returned (.bool true) ∧ Below w.heap.size w w' := by
  obtain ⟨i0, hi, hz0, hz1, hz2⟩ := info_parts Try.infoByte
  have kc := fun (w : World) (C : Array Value) (n c : Nat) => Lib.run_convert_bytes_const (P := Try.prog) w 28 5 C n c Try.underlying28 Try.underlying5
  go_enter Try.func3, Try.ntmps3
  go_wp2_with fail
  refine (awake13_any w).mono ?_
  rintro e w0 ⟨rfl, hb0⟩
  have hc := dnew_no w0 63 (by decide)
  go_wp2_with fail
  refine hc.mono ?_
  rintro e wa ⟨rfl, rfl⟩
  clear hc
  have hc := dnew_no wa 1048577 (by decide)
  go_wp2_with fail
  refine hc.mono ?_
  rintro e wb ⟨rfl, rfl⟩
  clear hc
  have hc := mine_new wb 64 (by decide) (by decide)
  go_wp2_with fail
  refine hc.mono ?_
  rintro e w1 ⟨d, rfl, hM0⟩
  clear hc
  rw [show (⟨64, true, 1, []⟩ : Dk) = kS0 from rfl] at hM0
  have hc := mine_none noObj hM0 nS (by decide) 0 (by decide)
  rw [kn0.1, kn0.2] at hc
  go_wp2_with fail
  refine hc.mono ?_
  rintro e w2 ⟨rfl, hM1⟩
  clear hM0
  clear hc
  obtain ⟨wm, hrun, hgm, hbm, _⟩ := make_bytes (P := Try.prog) Try.underlying28 hi hz0 hz1 hz2 65 65 65 65 rfl rfl (Nat.le_refl _) (by decide) w2
  have hMm := hM1.fresh noObj hbm.out (byt_row hgm.out) (fun a ha => by injection ha with ha; subst ha; exact Nat.le_refl _)
  clear hM1
  have hc := mine_append noObj hMm nA (by decide) _ (List.replicate 65 0) 65 65 List.mem_cons_self rfl (by decide) (by decide)
  rw [kn1.1, kn1.2] at hc
  go_wp2_with fail
  refine hc.mono ?_
  rintro e w3 ⟨rfl, hM2⟩
  clear hMm hrun hgm hbm
  clear hc
  have hc := mine_sync noObj hM2 nA (by decide)
  rw [kn2.1, kn2.2] at hc
  go_wp2_with fail
  refine hc.mono ?_
  rintro e w4 ⟨rfl, hM3⟩
  clear hM2
  clear hc
  have hc := mine_append noObj (hM3.lit noObj 5 #[.int .u8 111, .int .u8 110, .int .u8 101] (3, 4) [111, 110, 101] rfl) nA (by decide) _ [111, 110, 101] 3 3 List.mem_cons_self rfl (by decide) (by decide)
  rw [kn3.1, kn3.2] at hc
  go_wp2_with fail
  refine hc.mono ?_
  rintro e w5 ⟨rfl, hM4⟩
  clear hM3
  clear hc
  have hc := mine_sync noObj hM4 nA (by decide)
  rw [kn4.1, kn4.2] at hc
  go_wp2_with fail
  refine hc.mono ?_
  rintro e w6 ⟨rfl, hM5⟩
  clear hM4
  clear hc
  have hc := mine_append noObj (hM5.lit noObj 5 #[.int .u8 116, .int .u8 119, .int .u8 111] (3, 4) [116, 119, 111] rfl) nA (by decide) _ [116, 119, 111] 3 3 List.mem_cons_self rfl (by decide) (by decide)
  rw [kn5.1, kn5.2] at hc
  go_wp2_with fail
  refine hc.mono ?_
  rintro e w7 ⟨rfl, hM6⟩
  clear hM5
  clear hc
  have hc := mine_ren noObj hM6 nA nB (by decide) (by decide) (by decide)
  rw [kn6.1, kn6.2] at hc
  go_wp2_with fail
  refine hc.mono ?_
  rintro e w8 ⟨rfl, hM7⟩
  clear hM6
  clear hc
  have hc := mine_crash noObj hM7 1 2 2 (by decide) rfl (by decide) (by decide)
  rw [kn7] at hc
  go_wp2_with fail
  refine hc.mono ?_
  rintro e w9 ⟨rfl, hM8⟩
  clear hM7
  clear hc
  have hc := mine_on noObj hM8 (by decide)
  rw [kn8] at hc
  go_wp2_with fail
  refine hc.mono ?_
  rintro e w10 ⟨rfl, hM9⟩
  clear hM8
  clear hc
  have hc := mine_read noObj hM9 nB (by decide)
  rw [kn9.1, kn9.2] at hc
  go_wp2_with fail
  refine hc.mono ?_
  rintro e w11 ⟨Ax, nx, cx, lx, rfl, hlx, hnx, _, hM10, _⟩
  clear hM9
  clear hc
  have hc := mine_append noObj (hM10.lit noObj 5 #[.int .u8 113] (1, 2) [113] rfl) nB (by decide) _ [113] 1 1 List.mem_cons_self rfl (by decide) (by decide)
  rw [kn10.1, kn10.2] at hc
  go_wp2_with fail
  refine hc.mono ?_
  rintro e w12 ⟨rfl, hM11⟩
  clear hM10
  clear hc
  have hc := mine_crash noObj hM11 1 5 5 (by decide) rfl (by decide) (by decide)
  rw [kn11] at hc
  go_wp2_with fail
  refine hc.mono ?_
  rintro e w13 ⟨rfl, hM12⟩
  clear hM11
  clear hc
  have hc := mine_on noObj hM12 (by decide)
  rw [kn12] at hc
  go_wp2_with fail
  refine hc.mono ?_
  rintro e w14 ⟨rfl, hM13⟩
  clear hM12
  clear hc
  have hc := mine_read noObj hM13 nB (by decide)
  rw [kn13.1, kn13.2] at hc
  go_wp2_with fail
  refine hc.mono ?_
  rintro e w15 ⟨Ay, ny, cy, ly, rfl, hly, hny, _, hM14, _⟩
  clear hM13
  clear hc
  have hc := mine_drop noObj hM14 nB (by decide)
  rw [kn14.1, kn14.2] at hc
  go_wp2_with fail
  refine hc.mono ?_
  rintro e w16 ⟨rfl, hM15⟩
  clear hM14
  clear hc
  have hc := mine_ren noObj hM15 nB nB (by decide) (by decide) (by decide)
  rw [kn15.1, kn15.2] at hc
  go_wp2_with fail
  refine hc.mono ?_
  rintro e w17 ⟨rfl, hM16⟩
  clear hM15
  clear hc
  have hx := hM16.byt (p := (Ax, lx)) (by simp)
  have hy := hM16.byt (p := (Ay, ly)) (by simp)
  simp only at hx hy
  have hcx := conv_bytes (P := Try.prog) Try.underlying28 Try.underlying5 Try.underlying9 hx nx cx hnx.out
  have hcy := conv_bytes (P := Try.prog) Try.underlying28 Try.underlying5 Try.underlying9 hy ny cy hny.out
  rw [hlx.out] at hcx
  rw [hly.out] at hcy
  have hbw := hM16.bel
  have hc := mine_size hM16
  rw [kn16] at hc
  clear hlx hly hx hy hM16 kc
  go_wp2_with fail
  refine hc.mono ?_
  rintro e wz ⟨rfl, rfl⟩
  clear hc
  go_wp2
  go_ret
  exact ⟨rfl, below_next hb0 hb0.size hbw⟩
end Go.Proofs.Ythjdmekelohchaa
