/-
  WireFew: the law's Go text returns true, whatever the three numbers. Conditions: numbers of 64 bits.
-/
import Derived.Test.YtomnjmjgmioiaaaWiA
namespace Go.Proofs.Ytomnjmjgmioiaaa
open Go.RowKit

theorem i64_of_wf {a : Int} (h : (Lit.int .i64 a).wf = true) : -9223372036854775808 ≤ a ∧ a < 9223372036854775808 := by
  have h2 : -9223372036854775808 ≤ a ∧ a ≤ 9223372036854775807 := by simpa [Lit.wf, IntKind.min, IntKind.max, IntKind.signed, IntKind.bits] using h
  omega
theorem front_of (v : Nat) (hv : v < 9223372036854775808) : frontOf (gr v) = (v, (gr v).length) := by
  have h := front_gr v hv []
  rwa [List.append_nil] at h

set_option maxRecDepth 100000 in
set_option maxHeartbeats 2000000 in
theorem walk_WireFew (w : World) (a : Int) (wa : (Lit.int .i64 a).wf = true) (b : Int) (wb : (Lit.int .i64 b).wf = true) (m : Int) (_ : (Lit.int .i64 m).wf = true) :
    Calls Try.prog 5 #[.int .i64 a, .int .i64 b, .int .i64 m] w fun e w' => e = .returned (.bool true) ∧ Below w.heap.size w w' := by
  have ra := i64_of_wf wa
  have rb := i64_of_wf wb
  clear wa wb
  go_enter Try.func5, Try.ntmps5
  go_wp2_with fail
  refine (awake11_any w).mono ?_
  rintro e w0 ⟨rfl, hb0⟩
  by_cases h0 : a < 0
  · go_wp2
    go_ret
    exact ⟨rfl, hb0⟩
  by_cases h1 : b < a
  · go_wp2
    go_ret
    exact ⟨rfl, hb0⟩
  obtain ⟨p, rfl⟩ : ∃ p : Nat, a = (p : Int) := ⟨a.toNat, by omega⟩
  obtain ⟨q, rfl⟩ : ∃ q : Nat, b = (q : Int) := ⟨b.toNat, by omega⟩
  have hp : p < 9223372036854775808 := by omega
  have hq : q < 9223372036854775808 := by omega
  have hpq : p ≤ q := by omega
  have hn1 := wnum_any w0 none [] 0 0 (p : Int) p (.inl rfl) rfl (Nat.le_refl _) (by decide) hp (by omega)
  have hn2 := fun w1 => wnum_any w1 none [] 0 0 (q : Int) q (.inl rfl) rfl (Nat.le_refl _) (by decide) hq (by omega)
  obtain ⟨X, hX⟩ : ∃ X, X = gr p := ⟨_, rfl⟩
  obtain ⟨Y, hY⟩ : ∃ Y, Y = gr q := ⟨_, rfl⟩
  have HF := vlt (show frontOf X = (p, X.length) by rw [hX]; exact front_of p hp)
  have HL := Lib.hid (show 1 ≤ X.length ∧ X.length ≤ 9 ∧ X.length ≤ Y.length by rw [hX, hY]; exact ⟨gr_pos p, gr_le p, gr_mono p q hpq⟩)
  rw [List.nil_append, ← hX] at hn1
  simp only [List.nil_append, ← hY] at hn2
  clear hX hY h0 h1
  go_wp2_with fail
  refine hn1.mono ?_
  rintro e w1 ⟨A1, n1, c1, rfl, hr1, hb1⟩
  have hl1 := hr1.len
  go_wp2_with fail
  refine (hn2 w1).mono ?_
  rintro e w2 ⟨A2, n2, c2, rfl, hr2, hb2⟩
  have hl2 := hr2.len
  have hn : (1 : Int) ≤ (n1 : Int) ∧ (n1 : Int) ≤ 9 ∧ (n1 : Int) ≤ (n2 : Int) := by have := HL.out; omega
  have hn9 : n1 ≤ 9 := by omega
  have hn12 : n1 ≤ n2 := by omega
  have hn11 : 1 ≤ n1 := by omega
  have hrd := read_any w2 A1 X n1 c1 (hr1.byt.next hb2) hl1 (by omega)
  have hbw2 := below_next (below_next hb0 hb0.size hb1) (Nat.le_trans hb0.size hb1.size) hb2
  clear hn1 hn2 hr1 hr2 hl2 HL
  go_wp2_with fail
  refine hrd.mono ?_
  rintro e w3 ⟨g, rfl, hr, hb3⟩
  have hbw3 := below_next hbw2 hbw2.size hb3
  have hg0 := hr.1.1
  have hlt := hr.lt
  have hgw : w.heap.size ≤ g := Nat.le_trans hbw2.size hg0
  have hHL := Lib.hid hl1
  clear hrd hb0 hb1 hb2 hb3 hl1
  by_cases hA : (p : Int) ≤ max m 0
  · have hnm := num_ok w3 w2.heap.size w3.heap.size g X false m p n1 hr (vlt (by rw [HF.out, hHL.out])) hn11 hA
    rcases Int.lt_or_le m (p : Int) with hm | hm
    · obtain rfl : p = 0 := by omega
      clear hA HF
      go_wp2_with fail
      refine hnm.mono ?_
      rintro e w4 ⟨rfl, hr4, hb4⟩
      have hbd := bad_any w4 w2.heap.size w3.heap.size g _ false hr4
      have hbw4 := But.below hbw3 hb4 hgw hbw3.size
      clear hnm
      go_wp2_with fail
      refine hbd.mono ?_
      rintro e w5 ⟨rfl, rfl⟩
      go_wp2
      go_ret
      exact ⟨rfl, hbw4⟩
    · clear hA HF
      go_wp2_with fail
      refine hnm.mono ?_
      rintro e w4 ⟨rfl, hr4, hb4⟩
      have hbd := bad_any w4 w2.heap.size w3.heap.size g _ false hr4
      have hbw4 := But.below hbw3 hb4 hgw hbw3.size
      clear hnm
      go_wp2_with fail
      refine hbd.mono ?_
      rintro e w5 ⟨rfl, rfl⟩
      go_wp2
      go_ret
      exact ⟨rfl, hbw4⟩
  · have hnm := num_no w3 w2.heap.size w3.heap.size g X false m p n1 hr (vlt (by rw [HF.out, hHL.out])) (.inr (by omega))
    have hp0 : ¬ (p : Int) = 0 := by omega
    have hp1 : 0 < p := by omega
    have hp2 : m < (p : Int) := by omega
    have hp3 : ((0 : Int) == (p : Int)) = false := by simp; omega
    have hp4 : ((p : Int) == 0) = false := by simp; omega
    clear hA HF
    go_wp2_with fail
    refine hnm.mono ?_
    rintro e w4 ⟨rfl, hr4, hb4⟩
    have hbd := bad_any w4 w2.heap.size w3.heap.size g _ true hr4
    have hbw4 := But.below hbw3 hb4 hgw hbw3.size
    clear hnm
    go_wp2_with fail
    refine hbd.mono ?_
    rintro e w5 ⟨rfl, rfl⟩
    go_wp2
    go_ret
    exact ⟨ret_bool (a := !decide ((p : Int) ≤ m)) (by simp; omega), hbw4⟩
end Go.Proofs.Ytomnjmjgmioiaaa
