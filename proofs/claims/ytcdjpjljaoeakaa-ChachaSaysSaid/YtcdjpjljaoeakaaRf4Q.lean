/-
  Contracts of the document's own answer for chapter 4, first part: left, Quarter, word. Conditions: the words are below 2^32; the turns are from 1 to 31; four bytes at least.
-/
import Derived.Test.YtcdjpjljaoeakaaChQ
import Derived.Test.YtcdjpjljaoeakaaRefB
import Derived.Test.YtcdjpjljaoeakaaCut
namespace Go.Proofs.Ytcdjpjljaoeakaa
open Go.RowKit

theorem left_any (x s : Nat) (w : World) (hx : x < 4294967296) (h1 : 1 ≤ s) (hs : s ≤ 31) :
    Calls Try.prog 18 #[.int .u32 (x : Int), .int .u64 (s : Int)] w fun e w' => ∃ y : Nat, e = .returned (.int .u32 (y : Int)) ∧ Hid (y = rl x s) ∧ y < 4294967296 ∧ w = w' := by
  have e1 : ((32 : Int) - (s : Int)) = ((32 - s : Nat) : Int) := by omega
  have e2 : ((32 : Int) - (s : Int)).toNat = 32 - s := by omega
  go_enter Try.func18, Try.ntmps18
  go_wp2
  go_ret
  exact ⟨rl x s, ret_u32 (rl_int x s hx), rfl, rl_lt _ _ hx, rfl⟩
theorem left16 (x : Nat) (w : World) (hx : x < 4294967296) :
    Calls Try.prog 18 #[.int .u32 (x : Int), .int .u64 16] w fun e w' => ∃ y : Nat, e = .returned (.int .u32 (y : Int)) ∧ Hid (y = rl x 16) ∧ y < 4294967296 ∧ w = w' := left_any x 16 w hx (by decide) (by decide)
theorem left12 (x : Nat) (w : World) (hx : x < 4294967296) :
    Calls Try.prog 18 #[.int .u32 (x : Int), .int .u64 12] w fun e w' => ∃ y : Nat, e = .returned (.int .u32 (y : Int)) ∧ Hid (y = rl x 12) ∧ y < 4294967296 ∧ w = w' := left_any x 12 w hx (by decide) (by decide)
theorem left8 (x : Nat) (w : World) (hx : x < 4294967296) :
    Calls Try.prog 18 #[.int .u32 (x : Int), .int .u64 8] w fun e w' => ∃ y : Nat, e = .returned (.int .u32 (y : Int)) ∧ Hid (y = rl x 8) ∧ y < 4294967296 ∧ w = w' := left_any x 8 w hx (by decide) (by decide)
theorem left7 (x : Nat) (w : World) (hx : x < 4294967296) :
    Calls Try.prog 18 #[.int .u32 (x : Int), .int .u64 7] w fun e w' => ∃ y : Nat, e = .returned (.int .u32 (y : Int)) ∧ Hid (y = rl x 7) ∧ y < 4294967296 ∧ w = w' := left_any x 7 w hx (by decide) (by decide)

theorem refQuarter_any (a b c d : Nat) (w : World) (hb : b < 4294967296) (hd : d < 4294967296) :
    Calls Try.prog 11 #[.int .u32 (a : Int), .int .u32 (b : Int), .int .u32 (c : Int), .int .u32 (d : Int)] w fun e w' =>
      ∃ p q r s : Nat, e = .returned (.tuple #[.int .u32 (p : Int), .int .u32 (q : Int), .int .u32 (r : Int), .int .u32 (s : Int)]) ∧ Hid (qr a b c d = (p, q, r, s)) ∧ (p < 4294967296 ∧ q < 4294967296 ∧ r < 4294967296 ∧ s < 4294967296) ∧ w = w' := by
  obtain ⟨a1, ea1, ha1, la1⟩ := sum_ex a b
  obtain ⟨x1, ex1, hx1, lx1⟩ := xor_ex d a1 hd la1
  go_enter Try.func11, Try.ntmps11
  go_wp2_with fail
  refine (left16 x1 _ lx1).mono ?_
  rintro e w' ⟨d1, rfl, hd1, ld1, rfl⟩
  obtain ⟨c1, ec1, hc1, lc1⟩ := sum_ex c d1
  obtain ⟨x2, ex2, hx2, lx2⟩ := xor_ex b c1 hb lc1
  go_wp2_with fail
  refine (left12 x2 _ lx2).mono ?_
  rintro e w' ⟨b1, rfl, hb1, lb1, rfl⟩
  obtain ⟨a2, ea2, ha2, la2⟩ := sum_ex a1 b1
  obtain ⟨x3, ex3, hx3, lx3⟩ := xor_ex d1 a2 ld1 la2
  go_wp2_with fail
  refine (left8 x3 _ lx3).mono ?_
  rintro e w' ⟨d2, rfl, hd2, ld2, rfl⟩
  obtain ⟨c2, ec2, hc2, lc2⟩ := sum_ex c1 d2
  obtain ⟨x4, ex4, hx4, lx4⟩ := xor_ex b1 c2 lb1 lc2
  go_wp2_with fail
  refine (left7 x4 _ lx4).mono ?_
  rintro e w' ⟨b2, rfl, hb2, lb2, rfl⟩
  go_wp2
  (try simp only [Exit.inBlock, Exit.then])
  refine bodyPost_ret (results_tmp4 rfl _ _ _) rfl ?_
  refine ⟨a2, b2, c2, d2, rfl, ?_, ⟨la2, lb2, lc2, ld2⟩, rfl⟩
  exact qr_eq (qh_eq _ _ _ _ _ _ a1 d1 c1 b1 ha1.out (by rw [hd1.out, hx1.out]) hc1.out (by rw [hb1.out, hx2.out])) (qh_eq _ _ _ _ _ _ a2 d2 c2 b2 ha2.out (by rw [hd2.out, hx3.out]) hc2.out (by rw [hb2.out, hx4.out]))

theorem refWord_any (A : Option Addr) (l : List UInt8) (n c : Nat) (w : World) (ha : Byt w w.heap.size A l) (hl : l.length = n) (h4 : 4 ≤ n) (hc : n ≤ c) :
    Calls Try.prog 23 #[.slice A n c] w fun e w' => ∃ v : Nat, e = .returned (.int .u32 (v : Int)) ∧ Vlt (v = ln (l.take 4)) ∧ v < 4294967296 ∧ Below w.heap.size w w' := by
  have hcut := run_cut_h Try.underlying26 Try.sizeByte A n c 4 4 rfl (by omega)
  have hf := refFromLittle_ok A (l.take 4) 4 c w (ha.take 4) (by rw [List.length_take]; omega) (by decide)
  have hlt := ln4_lt l
  obtain ⟨v, hv⟩ : ∃ v, v = ln (l.take 4) := ⟨_, rfl⟩
  rw [← hv] at hf hlt
  have HV := vlt hv
  clear hv hl
  go_enter Try.func23, Try.ntmps23
  go_wp2_with fail
  refine hf.mono ?_
  rintro e w1 ⟨rfl, hb1⟩
  clear hf
  go_wp2
  go_ret
  refine ⟨v, ?_, HV, hlt, hb1⟩
  first
    | rfl
    | (show Ending.returned (.int .u32 ((v : Int) % 4294967296)) = _
       rw [show (v : Int) % 4294967296 = (v : Int) by omega])
end Go.Proofs.Ytcdjpjljaoeakaa
