/-
  DiskSafe: for every input the law's Go text returns true. Conditions: none.
-/
import Derived.Test.YthjdmekelohchaaDkE
import Derived.Test.YthjdmekelohchaaDkV
import Derived.Test.YthjdmekelohchaaPrt
import Derived.BigQuiet
namespace Go.Proofs.Ythjdmekelohchaa
open Go.RowKit

def sF : ByteArray := { data := #[102] }
theorem sF_may : may sF = true := by decide +kernel
theorem cat_bytes (x y : List UInt8) : (⟨x.toArray⟩ : ByteArray) ++ ⟨y.toArray⟩ = ⟨(x ++ y).toArray⟩ := by
  apply ByteArray.ext
  simp

set_option maxRecDepth 100000 in
set_option maxHeartbeats 4000000 in
theorem walk_DiskSafe (w : World) (A : Option Addr) (a : List UInt8) (n c : Nat) (ha : Byt w w.heap.size A a) (hal : a.length = n) (_ : n ≤ c) (B : Option Addr) (ps : List (List UInt8)) (m cB : Nat) (hps : Prt w w.heap.size B ps) (hpl : ps.length = m) (_ : m ≤ cB)
    (keep : Nat) (hk : keep < 18446744073709551616) (torn : Int) (htw : (Lit.int .i64 torn).wf = true) :
    Calls Try.prog 5 #[.slice A n c, .slice B m cB, .int .u64 (keep : Int), .int .i64 torn] w fun e w' => e = .returned (.bool true) ∧ Below w.heap.size w w' := by
  have HAL := Lib.hid hal
  have HPL := Lib.hid hpl
  clear hal hpl
  have ht : -9223372036854775808 ≤ torn ∧ torn < 9223372036854775808 := by
    have h : -9223372036854775808 ≤ torn ∧ torn ≤ 9223372036854775807 := by simpa [Lit.wf, IntKind.min, IntKind.max, IntKind.signed, IntKind.bits] using htw
    omega
  by_cases hbig : n ≤ 200
  · by_cases hm20 : m ≤ 20
    · have hbig' : ¬ (200 : Int) < (n : Int) := by omega
      have hm20' : ¬ (20 : Int) < (m : Int) := by omega
      go_enter Try.func5, Try.ntmps5
      go_wp2_with fail
      refine (awake13_any w).mono ?_
      rintro e w0 ⟨rfl, hb0⟩
      have hn0 := mine_new w0 10000 (by decide) (by decide)
      go_wp2_with fail
      refine hn0.mono ?_
      rintro e w1 ⟨d, rfl, hM0⟩
      clear hn0
      have ha0 : Byt w0 w0.heap.size A a := (ha.below hb0).up hb0.size
      have hc := mine_append noObj (hM0.arg ha0) sF (by decide) A a n c List.mem_cons_self HAL.out (by omega) (by decide)
      rw [newF_appE sF_may (by omega), newF_app sF_may (by rw [HAL.out]; omega)] at hc
      go_wp2_with fail
      refine hc.mono ?_
      rintro e w2 ⟨rfl, hM1⟩
      clear hc hM0
      have hc := mine_sync noObj hM1 sF (by decide)
      rw [oneF_askE sF_may, oneF_syn sF_may] at hc
      go_wp2_with fail
      refine hc.mono ?_
      rintro e w3 ⟨rfl, hM2⟩
      clear hc hM1
      have hcv := conv_bytes (P := Try.prog) Try.underlying28 Try.underlying5 Try.underlying9 (ha0.below hM2.bel) n c HAL.out
      have hf0 : (⟨[], [a]⟩ : Fl).sync = ⟨a, gsOf (ps.take 0)⟩ := by simp [Fl.sync, Fl.all, gsOf]
      rw [hf0] at hM2
      have HM2 := Lib.hid hM2
      have hps0 : Prt w0 w0.heap.size B ps := (hps.below hb0).up hb0.size
      clear hf0 hM2 hps ha
      go_wp2
      go_loopw [11, 12] (fun al i wr => ∃ (k N : Nat) (x : List UInt8), i = .int .i64 (k : Int) ∧ k ≤ m ∧ al = .string ⟨x.toArray⟩ ∧ Vlt (x = a ++ (ps.take k).flatten) ∧ Hid (x.length ≤ 200 + 200 * k) ∧ Hid (N ≤ 100 + k) ∧ Hid (Mine w0 wr d N (oneF true 1 sF ⟨a, gsOf (ps.take k)⟩) NoObj [(A, a)])) (fun _ i _ => m - (intOf i).toNat)
      case atStart => exact ⟨0, _, a, rfl, Nat.zero_le _, rfl, vlt (by simp), Lib.hid (by rw [HAL.out]; omega), Lib.hid (by decide), HM2⟩
      case round =>
        obtain ⟨k, N, x, rfl, hkm, rfl, hx, hxl, hN, hM⟩ := hrel
        clear hcv HM2
        by_cases hlt : k < m
        · obtain ⟨b, o, Aj, nj, cj, p, rfl, hblt, hcell, hget, hpl, hle, hbp⟩ := hps0.at_ (k := k) (by rw [HPL.out]; exact hlt)
          have hcr : wr.cell? ⟨b, o + k, none⟩ = some (.slice Aj nj cj) := (hM.out.bel.cell (p := ⟨b, o + k, none⟩) hblt).trans hcell
          have hbw := below_next hb0 hb0.size hM.out.bel
          by_cases h200 : nj ≤ 200
          · have h200' : ¬ (200 : Int) < (nj : Int) := by omega
            have hsum : (⟨a, gsOf (ps.take k)⟩ : Fl).all.length + nj ≤ 10000 := by
              have h1 := hxl.out
              have h2 := congrArg List.length hx.out
              simp only [Fl.all, gsOf_flat]
              rw [List.length_append] at h2 ⊢
              omega
            have hc := mine_append noObj (hM.out.arg hbp) sF (by decide) Aj p nj cj List.mem_cons_self hpl.out (by omega) (by have := hN.out; omega)
            rw [oneF_appE sF_may hsum, oneF_app sF_may (by rw [hpl.out]; exact hsum)] at hc
            have hf1 : (⟨a, gsOf (ps.take k)⟩ : Fl).write p = ⟨a, gsOf (ps.take (k + 1))⟩ := by
              rw [List.take_add_one, hget.out]
              simp [Fl.write, gsOf_snoc]
            rw [hf1] at hc
            clear hf1 hsum
            go_wp2_with fail
            refine hc.mono ?_
            rintro e w5 ⟨rfl, hM5⟩
            clear hc
            have hcr5 : w5.cell? ⟨b, o + k, none⟩ = some (.slice Aj nj cj) := (hM5.bel.cell (p := ⟨b, o + k, none⟩) hblt).trans hcell
            have hcv := conv_bytes (P := Try.prog) Try.underlying28 Try.underlying5 Try.underlying9 (hbp.below hM5.bel) nj cj hpl.out
            have hcat := cat_bytes x p
            have HM5 := Lib.hid (hM5.fewer (ys := [(A, a)]) (by simp))
            have hadd : ¬ 9223372036854775807 < x.length + p.length := by have := hxl.out; have := hpl.out; omega
            have HX := vlt (show x ++ p = a ++ (ps.take (k + 1)).flatten by
              rw [hx.out, List.take_add_one, hget.out]; simp)
            have HXL := Lib.hid (show (x ++ p).length ≤ 200 + 200 * (k + 1) by
              rw [List.length_append]
              have := hxl.out
              have := hpl.out
              omega)
            have HN := Lib.hid (show N + 1 ≤ 100 + (k + 1) by have := hN.out; omega)
            clear hM5 hcr hx hxl hN hM
            go_wp2
            go_roundw
            case rel => exact ⟨k + 1, N + 1, x ++ p, by go_num, by omega, rfl, HX, HXL, HN, HM5⟩
            case measure => simp [intOf]; omega
          · have h200' : (200 : Int) < (nj : Int) := by omega
            clear hM hx hxl hN
            go_wp2
            go_ret
            exact ⟨rfl, hbw⟩
        · obtain rfl : k = m := by omega
          have htake : ps.take k = ps := List.take_of_length_le (by rw [HPL.out]; exact Nat.le_refl _)
          rw [htake] at hM hx
          have hc := mine_crash noObj hM.out keep torn.toNat torn hk rfl ht.2 ht.1
          rw [oneF_crs] at hc
          obtain ⟨f, hf⟩ : ∃ f : Fl, f = ⟨a, gsOf ps⟩ := ⟨_, rfl⟩
          rw [← hf] at hc
          have HF := vlt hf
          clear hM hf hN htake
          go_wp2_with fail
          refine hc.mono ?_
          rintro e w5 ⟨rfl, hM5⟩
          clear hc
          have hc := mine_on noObj hM5 (show (1 : Nat) ≤ _ by decide)
          rw [oneF_awake] at hc
          go_wp2_with fail
          refine hc.mono ?_
          rintro e w6 ⟨rfl, hM6⟩
          clear hc hM5
          have hc := mine_read noObj hM6 sF (by decide)
          rw [oneF_askE sF_may, oneF_readB sF_may, fall_all] at hc
          go_wp2_with fail
          refine hc.mono ?_
          rintro e w7 ⟨Ay, ny, cy, y, rfl, hy, hyn, hyc, hM7, _⟩
          clear hc hM6
          have hyb := hM7.byt (p := (Ay, y)) List.mem_cons_self
          have hab := hM7.byt (p := (A, a)) (by simp)
          have hbel := below_next hb0 hb0.size hM7.bel
          simp only at hyb hab
          have h1 : n ≤ ny := by
            have h := fallen_lo keep torn.toNat f
            rw [← fallen_len, ← hy.out, hyn.out, HF.out] at h
            have := HAL.out
            simp only at h
            omega
          have hxa : x = f.all := by rw [hx.out, HF.out]; simp [Fl.all, gsOf_flat]
          have h2 : ny ≤ x.length := by
            have h := fallen_le keep torn.toNat f
            rw [← hy.out, hyn.out, ← hxa] at h
            exact h
          have h3 : y.take n = a := by
            have h := fallen_pre keep torn.toNat f
            rw [← hy.out, HF.out] at h
            simp only at h
            rw [HAL.out] at h
            exact h
          have hcvA := fun j => conv_bytes (P := Try.prog) Try.underlying28 Try.underlying5 Try.underlying9 (hab.drewN j) n c HAL.out
          have hcvT := fun j => conv_bytes (P := Try.prog) Try.underlying28 Try.underlying5 Try.underlying9 ((hyb.take n).drewN j) n cy (by rw [List.length_take, hyn.out, Nat.min_eq_left h1])
          rw [h3] at hcvT
          have hcut := run_cut_h (P := Try.prog) Try.underlying28 Try.sizeByte Ay ny cy n (n : Int) rfl (by omega)
          have hcvY := fun j => conv_bytes (P := Try.prog) Try.underlying28 Try.underlying5 Try.underlying9 (hyb.drewN j) ny cy hyn.out
          have hyall : keep = 18446744073709551615 → torn ≤ 0 → y = x := fun hk1 ht1 => by
            have h0 : torn.toNat = 0 := by omega
            rw [hy.out, hxa, hk1, h0]
            exact fallen_all _ _ stays_ones
          have hyno : keep = 0 → y = a := fun hk1 => by
            rw [hy.out, hk1, fallen_no _ _ _ stays_none, HF.out]
          have HYB := Lib.hid hyb
          clear hab h3 hy hxa hx hxl hM7 hyb HF hyn
          have h1' : (n : Int) ≤ (ny : Int) := by omega
          have h2' : (ny : Int) ≤ (x.length : Int) := by omega
          by_cases hk0 : keep = 0
          · have hya := hyno hk0
            subst hk0 hya
            clear hyall hyno
            by_cases htp : 0 < torn
            · clear htw ht hbig hm20 hbig' hm20' ha0 hps0 hk hb0 h1 h2
              go_upto_region 19 with fail
              go_quiet (fail)
              go_wp2
              go_ret
              exact ⟨rfl, ⟨hbel.os, hbel.tape, hbel.output, hbel.size, hbel.block⟩⟩
            · clear htw ht hbig hm20 hbig' hm20' ha0 hps0 hk hb0 h1 h2
              go_upto_region 19 with fail
              go_quiet (fail)
              go_wp2
              go_ret
              exact ⟨rfl, ⟨hbel.os, hbel.tape, hbel.output, hbel.size, hbel.block⟩⟩
          · have hk0' : ¬ (keep : Int) = 0 := by omega
            by_cases htp : 0 < torn
            · clear hyall hyno
              clear htw ht hbig hm20 hbig' hm20' ha0 hps0 hk hb0 h1 h2
              go_upto_region 19 with fail
              go_quiet (fail)
              go_wp2
              go_ret
              exact ⟨rfl, ⟨hbel.os, hbel.tape, hbel.output, hbel.size, hbel.block⟩⟩
            · by_cases hkm : keep = 18446744073709551615
              · have hyx := hyall hkm (by omega)
                subst hkm hyx
                clear hyall hyno
                clear htw ht hbig hm20 hbig' hm20' ha0 hps0 hk hb0 h1 h2
                go_upto_region 19 with fail
                go_quiet (fail)
                go_wp2
                go_ret
                exact ⟨rfl, ⟨hbel.os, hbel.tape, hbel.output, hbel.size, hbel.block⟩⟩
              · have hkm' : ¬ (keep : Int) = 18446744073709551615 := by omega
                clear hyall hyno
                clear htw ht hbig hm20 hbig' hm20' ha0 hps0 hk hb0 h1 h2
                go_upto_region 19 with fail
                go_quiet (fail)
                go_wp2
                go_ret
                exact ⟨rfl, ⟨hbel.os, hbel.tape, hbel.output, hbel.size, hbel.block⟩⟩
    · have hm20' : (20 : Int) < (m : Int) := by omega
      have hbig' : ¬ (200 : Int) < (n : Int) := by omega
      go_enter Try.func5, Try.ntmps5
      go_wp2_with fail
      refine (awake13_any w).mono ?_
      rintro e w0 ⟨rfl, hb0⟩
      go_wp2
      go_ret
      exact ⟨rfl, hb0⟩
  · have hbig' : (200 : Int) < (n : Int) := by omega
    go_enter Try.func5, Try.ntmps5
    go_wp2_with fail
    refine (awake13_any w).mono ?_
    rintro e w0 ⟨rfl, hb0⟩
    go_wp2
    go_ret
    exact ⟨rfl, hb0⟩
end Go.Proofs.Ythjdmekelohchaa
