/-
  The walk of OctetApart: the law's Go text returns true, and nothing that was there is changed. Conditions: none.
-/
import Derived.Test.YtkiphhabciedjaaLawA
import Derived.Test.YtkiphhabciedjaaReg
namespace Go.Proofs.Ytkiphhabciedjaa
open Go.RowKit

theorem Res.shape {w : World} {base E n c : Nat} {A : Option Addr} {l : List UInt8} (h : Res w base E A n c l) (hn : 0 < n) :
    ∃ g x : Nat, A = some ⟨g, 0, none⟩ ∧ base ≤ g ∧ g < w.heap.size ∧ x < 256 ∧ w.cell? ⟨g, 0, none⟩ = some (.int .u8 (x : Int)) := by
  rcases h.2 with ⟨_, h0⟩ | ⟨g, cap, cur, hv, hb, hg, _⟩
  · omega
  · simp only [Value.slice.injEq] at hv
    obtain ⟨rfl, _, rfl⟩ := hv
    have hl := h.len
    have h1 := World.ownsRow.cellAt h 0 (by omega)
    have h2 : 0 < l.length := by omega
    rw [bv_at, List.getElem?_eq_getElem h2] at h1
    exact ⟨g, l[0].toNat, rfl, hb, (Array.getElem?_eq_some_iff.1 hg).1, UInt8.toNat_lt _, h1⟩

theorem apart_early (w : World) (A : Option Addr) (n c : Nat) (v : Nat) (hs : n < 1 ∨ 50 < n) :
    Calls Try.prog 7 #[.slice A n c, .int .u64 (v : Int)] w fun e w' => e = .returned (.bool true) ∧ Below w.heap.size w w' := by
  rcases hs with h | h
  all_goals
    go_enter Try.func7, Try.ntmps7
    go_wp2_with fail
    refine (awake_any _).mono ?_
    rintro e w1 ⟨rfl, hb1⟩
    go_wp2
    go_ret
    exact ⟨rfl, hb1⟩

set_option maxHeartbeats 2000000 in
theorem apart_main (w : World) (A : Option Addr) (l : List UInt8) (n c : Nat) (ha : Byt w w.heap.size A l) (hl : l.length = n) (v : Nat) (hv : v < 18446744073709551616) (h1 : 1 ≤ n) (h50 : n ≤ 50) :
    Calls Try.prog 7 #[.slice A n c, .int .u64 (v : Int)] w fun e w' => e = .returned (.bool true) ∧ Below w.heap.size w w' := by
  have HV := Lib.hid hv
  have HL := Lib.hid hl
  clear hv hl
  go_enter Try.func7, Try.ntmps7
  go_wp2_with fail
  refine (awake_any _).mono ?_
  rintro e w1 ⟨rfl, hb1⟩
  have hz1 := hb1.size
  have ha1 : Byt w1 w1.heap.size A l := (ha.below hb1).up hz1
  have hcv1 := conv_bytes (P := Try.prog) Try.underlying23 Try.underlying5 Try.underlying9 ha1 n c HL.out
  go_wp2_with fail
  refine (big_any A l n c v 2 _ ha1 HL.out (by omega) HV.out).mono ?_
  rintro e w2 ⟨A2, c2, rfl, hr2, hc2⟩
  rw [show wd 2 = 2 from by decide] at hr2
  rw [show wd 2 = 2 from by decide]
  obtain ⟨g2, x2, rfl, p2, q2, y2, k2⟩ := hr2.shape (by omega)
  have f2 := hr2.free 0
  have hb2 := below_next hb1 hz1 hc2
  have hz2 := hb2.size
  have ha2 := (ha1.below hc2).up hc2.size
  have p2' : w.heap.size ≤ g2 := by omega
  clear hb1 hz1 hcv1 ha1 hc2 p2 hr2
  go_wp2_with fail
  refine (turn_any A l n c _ ha2 HL.out (by omega)).mono ?_
  rintro e w3 ⟨A3, c3, rfl, hr3, hc3⟩
  have hb3 := below_next hb2 hz2 hc3
  have hz3 := hb3.size
  have ha3 := (ha2.below hc3).up hc3.size
  obtain ⟨g3, x3, rfl, p3, q3, y3, k3⟩ := hr3.shape (by omega)
  have f3 := hr3.free 0
  replace k2 := (hc3.cell (p := ⟨g2, 0, none⟩) q2).trans k2
  replace f2 := (hc3.frozen (p := ⟨g2, 0, none⟩) q2).trans f2
  have d23 : g2 < g3 := by omega
  have q2' : g2 < w3.heap.size := by have := hc3.size; omega
  clear hb2 hz2 ha2 hr3 hc3 p3 q2
  go_wp2_with fail
  refine (xor_core A A l l n n c c n _ ha3 ha3 HL.out HL.out (by omega) (by omega) (by omega)).mono ?_
  rintro e w4 ⟨A4, c4, rfl, hr4, hc4⟩
  obtain ⟨g4, x4, rfl, p4, q4, y4, k4⟩ := hr4.shape (by omega)
  have f4 := hr4.free 0
  replace k2 := (hc4.cell (p := ⟨g2, 0, none⟩) q2').trans k2
  replace f2 := (hc4.frozen (p := ⟨g2, 0, none⟩) q2').trans f2
  replace k3 := (hc4.cell (p := ⟨g3, 0, none⟩) q3).trans k3
  replace f3 := (hc4.frozen (p := ⟨g3, 0, none⟩) q3).trans f3
  have d34 : g3 < g4 := by omega
  have hb4 := below_next hb3 hz3 hc4
  have ha4 : Byt w4 w.heap.size A l := ha.below hb4
  have n1 : ¬ g2 = g3 := by omega
  have n2 : ¬ g3 = g2 := by omega
  have n3 : ¬ g2 = g4 := by omega
  have n4 : ¬ g4 = g2 := by omega
  have n5 : ¬ g3 = g4 := by omega
  have n6 : ¬ g4 = g3 := by omega
  have HB4 := Lib.hid hb4
  have HA4 := Lib.hid ha4
  have hp3 : w.heap.size ≤ g3 := by omega
  have hp4 : w.heap.size ≤ g4 := by omega
  clear hb3 hz3 ha3 hr4 hc4 q2' q3 p4 q4 d23 d34 hb4 ha4 ha
  go_wp2_with fail
  go_region
  have r0 : Below w.heap.size w4 w4 := Below.refl _ _
  have r1 : ∀ (W : World) (g : Nat) (u : Value), w.heap.size ≤ g → Below w.heap.size w4 W → Below w.heap.size w4 (W.setCell ⟨g, 0, none⟩ u) := fun W g u hg h => h.setCell hg u
  have r2 : ∀ W : World, Below w.heap.size w4 W → Below w.heap.size w4 W.drew := fun W h => h.drew
  have hcv : ∀ W, Below w.heap.size w4 W → (convert 23 9 (.slice A n c)).run Try.prog W = .ok (.string ⟨l.toArray⟩) W := fun W h =>
    conv_bytes Try.underlying23 Try.underlying5 Try.underlying9 (HA4.out.below h) n c HL.out
  have hW := r2 _ (r1 _ g4 (.int .u8 (((x4 : Int) + 1) % 256)) hp4 (r1 _ g3 (.int .u8 (((x3 : Int) + 1) % 256)) hp3 (r1 _ g2 (.int .u8 (((x2 : Int) + 1) % 256)) p2' r0)))
  have hcx := hcv _ hW
  clear hcv r0 r1 r2
  go_wp2_with fail
  go_ret
  exact ⟨rfl, HB4.out.trans hW⟩

theorem walk_OctetApart (w : World) (A : Option Addr) (l : List UInt8) (n c : Nat) (ha : Byt w w.heap.size A l) (hl : l.length = n) (v : Nat) (hv : v < 18446744073709551616) :
    Calls Try.prog 7 #[.slice A n c, .int .u64 (v : Int)] w fun e w' => e = .returned (.bool true) ∧ Below w.heap.size w w' := by
  by_cases h1 : 1 ≤ n
  · by_cases h2 : n ≤ 50
    · exact apart_main w A l n c ha hl v hv h1 h2
    · exact apart_early w A n c v (.inr (by omega))
  · exact apart_early w A n c v (.inl (by omega))
end Go.Proofs.Ytkiphhabciedjaa
