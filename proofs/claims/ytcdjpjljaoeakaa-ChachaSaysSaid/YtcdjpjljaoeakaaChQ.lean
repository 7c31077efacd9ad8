/-
  Contract of chacha.Quarter: the quarter round. Conditions: the words are below 2^32.
-/
import Derived.Test.YtcdjpjljaoeakaaChS
namespace Go.Proofs.Ytcdjpjljaoeakaa
open Go.RowKit

theorem add32 (a b : Nat) : ((a : Int) + (b : Int)) % 4294967296 = (((a + b) % 4294967296 : Nat) : Int) := by omega
theorem rot16 (x : Nat) (w : World) (hx : x < 4294967296) :
    Calls Try.prog 15 #[.int .u32 (x : Int), .int .i64 16] w fun e w' => ∃ y : Nat, e = .returned (.int .u32 (y : Int)) ∧ Hid (y = rl x 16) ∧ y < 4294967296 ∧ w = w' :=
  (rot_any x 16 16 w hx (by decide) (by kernel_rfl)).mono fun _ _ h => ⟨_, h.1, rfl, rl_lt _ _ hx, h.2⟩
theorem rot12 (x : Nat) (w : World) (hx : x < 4294967296) :
    Calls Try.prog 15 #[.int .u32 (x : Int), .int .i64 12] w fun e w' => ∃ y : Nat, e = .returned (.int .u32 (y : Int)) ∧ Hid (y = rl x 12) ∧ y < 4294967296 ∧ w = w' :=
  (rot_any x 12 12 w hx (by decide) (by kernel_rfl)).mono fun _ _ h => ⟨_, h.1, rfl, rl_lt _ _ hx, h.2⟩
theorem rot8 (x : Nat) (w : World) (hx : x < 4294967296) :
    Calls Try.prog 15 #[.int .u32 (x : Int), .int .i64 8] w fun e w' => ∃ y : Nat, e = .returned (.int .u32 (y : Int)) ∧ Hid (y = rl x 8) ∧ y < 4294967296 ∧ w = w' :=
  (rot_any x 8 8 w hx (by decide) (by kernel_rfl)).mono fun _ _ h => ⟨_, h.1, rfl, rl_lt _ _ hx, h.2⟩
theorem rot7 (x : Nat) (w : World) (hx : x < 4294967296) :
    Calls Try.prog 15 #[.int .u32 (x : Int), .int .i64 7] w fun e w' => ∃ y : Nat, e = .returned (.int .u32 (y : Int)) ∧ Hid (y = rl x 7) ∧ y < 4294967296 ∧ w = w' :=
  (rot_any x 7 7 w hx (by decide) (by kernel_rfl)).mono fun _ _ h => ⟨_, h.1, rfl, rl_lt _ _ hx, h.2⟩
/-- A sum and an exclusive or, as the walk meets them. -/
theorem sum_ex (a b : Nat) : ∃ s : Nat, ((a : Int) + (b : Int)) % 4294967296 = (s : Int) ∧ Hid (s = (a + b) % 4294967296) ∧ s < 4294967296 := ⟨_, add32 a b, rfl, Nat.mod_lt _ (by decide)⟩
theorem xor_ex (a b : Nat) (ha : a < 4294967296) (hb : b < 4294967296) : ∃ s : Nat, bits .xor .u32 (a : Int) (b : Int) = (s : Int) ∧ Hid (s = a ^^^ b) ∧ s < 4294967296 := ⟨_, u32_xor_nat a b ha hb, rfl, xor32 ha hb⟩

theorem results_tmp4 {fn : Func} {t u v x : Tmp} (h : fn.results = #[.tmp t, .tmp u, .tmp v, .tmp x]) (tmps : Array Value) (P : Program) (w : World) :
    (results fn tmps).run P w = .ok (.tuple #[tmps.getD t undef, tmps.getD u undef, tmps.getD v undef, tmps.getD x undef]) w := by
  simp [results, h]
theorem quarter_any (a b c d : Nat) (w : World) (hb : b < 4294967296) (hd : d < 4294967296) :
    Calls Try.prog 9 #[.int .u32 (a : Int), .int .u32 (b : Int), .int .u32 (c : Int), .int .u32 (d : Int)] w fun e w' =>
      ∃ p q r s : Nat, e = .returned (.tuple #[.int .u32 (p : Int), .int .u32 (q : Int), .int .u32 (r : Int), .int .u32 (s : Int)]) ∧ Hid (qr a b c d = (p, q, r, s)) ∧ (p < 4294967296 ∧ q < 4294967296 ∧ r < 4294967296 ∧ s < 4294967296) ∧ w = w' := by
  obtain ⟨a1, ea1, ha1, la1⟩ := sum_ex a b
  obtain ⟨x1, ex1, hx1, lx1⟩ := xor_ex d a1 hd la1
  go_enter Try.func9, Try.ntmps9
  go_wp2_with fail
  refine (rot16 x1 _ lx1).mono ?_
  rintro e w' ⟨d1, rfl, hd1, ld1, rfl⟩
  obtain ⟨c1, ec1, hc1, lc1⟩ := sum_ex c d1
  obtain ⟨x2, ex2, hx2, lx2⟩ := xor_ex b c1 hb lc1
  go_wp2_with fail
  refine (rot12 x2 _ lx2).mono ?_
  rintro e w' ⟨b1, rfl, hb1, lb1, rfl⟩
  obtain ⟨a2, ea2, ha2, la2⟩ := sum_ex a1 b1
  obtain ⟨x3, ex3, hx3, lx3⟩ := xor_ex d1 a2 ld1 la2
  go_wp2_with fail
  refine (rot8 x3 _ lx3).mono ?_
  rintro e w' ⟨d2, rfl, hd2, ld2, rfl⟩
  obtain ⟨c2, ec2, hc2, lc2⟩ := sum_ex c1 d2
  obtain ⟨x4, ex4, hx4, lx4⟩ := xor_ex b1 c2 lb1 lc2
  go_wp2_with fail
  refine (rot7 x4 _ lx4).mono ?_
  rintro e w' ⟨b2, rfl, hb2, lb2, rfl⟩
  go_wp2
  (try simp only [Exit.inBlock, Exit.then])
  refine bodyPost_ret (results_tmp4 rfl _ _ _) rfl ?_
  refine ⟨a2, b2, c2, d2, rfl, ?_, ⟨la2, lb2, lc2, ld2⟩, rfl⟩
  exact qr_eq (qh_eq _ _ _ _ _ _ a1 d1 c1 b1 ha1.out (by rw [hd1.out, hx1.out]) hc1.out (by rw [hb1.out, hx2.out])) (qh_eq _ _ _ _ _ _ a2 d2 c2 b2 ha2.out (by rw [hd2.out, hx3.out]) hc2.out (by rw [hb2.out, hx4.out]))
end Go.Proofs.Ytcdjpjljaoeakaa
