/-
  The walk of OctetOrder: the law's Go text returns true, and nothing that was there is changed. Conditions: none.
-/
import Derived.Test.YtkiphhabciedjaaLawA
import Derived.Test.YtkiphhabciedjaaReg
namespace Go.Proofs.Ytkiphhabciedjaa
open Go.RowKit

theorem wd_nat (k : Nat) (h : k ≤ 8) : wd (k : Int) = k := by unfold wd; omega
theorem lex_lt (P x y r s : Nat) (hr : r < P) (hs : s < P) : (r + P * x < s + P * y) ↔ (x < y ∨ (x = y ∧ r < s)) := by
  rcases Nat.lt_trichotomy x y with h | h | h
  · have h1 : P * x + P ≤ P * y := by rw [← Nat.mul_succ]; exact Nat.mul_le_mul_left _ h
    constructor
    · intro _; exact .inl h
    · intro _; omega
  · subst h
    constructor
    · intro _; exact .inr ⟨rfl, by omega⟩
    · rintro (h | ⟨_, h⟩) <;> omega
  · have h1 : P * y + P ≤ P * x := by rw [← Nat.mul_succ]; exact Nat.mul_le_mul_left _ h
    constructor
    · intro _; omega
    · rintro (h2 | ⟨h2, _⟩) <;> omega
theorem less_be (a b : Nat) : ∀ k, Op.bytesLess (be a k) (be b k) = decide (a % 256 ^ k < b % 256 ^ k)
  | 0 => by simp [be, Op.bytesLess, Nat.mod_one]
  | k + 1 => by
    have ih := less_be a b k
    have e0 : 2 ^ (8 * k) = 256 ^ k := by rw [Nat.pow_mul]
    have e1 : 256 ^ (k + 1) = 256 ^ k * 256 := Nat.pow_succ 256 k
    have hp : 0 < 256 ^ k := Nat.pow_pos (by decide)
    have ea : (UInt8.ofNat (a / 256 ^ k)).toNat = a / 256 ^ k % 256 := UInt8.toNat_ofNat'
    have eb : (UInt8.ofNat (b / 256 ^ k)).toNat = b / 256 ^ k % 256 := UInt8.toNat_ofNat'
    have h := lex_lt (256 ^ k) (a / 256 ^ k % 256) (b / 256 ^ k % 256) (a % 256 ^ k) (b % 256 ^ k) (Nat.mod_lt _ hp) (Nat.mod_lt _ hp)
    rw [e1, Nat.mod_mul, Nat.mod_mul, be, be, e0, Op.bytesLess, ih]
    rw [Bool.eq_iff_iff, decide_eq_true_iff, h]
    simp only [Bool.or_eq_true, Bool.and_eq_true, decide_eq_true_iff, beq_iff_eq, UInt8.lt_iff_toNat_lt, ← UInt8.toNat_inj, ea, eb]
theorem shr_zero (a k : Nat) (h : a / 2 ^ (8 * k) = 0) : ((a : Int) / 2 ^ (8 * k) != 0) = false := by
  have e : (a : Int) / 2 ^ (8 * k) = ((a / 2 ^ (8 * k) : Nat) : Int) := by simp
  rw [e, h]; rfl
theorem shr_some (a k : Nat) (h : ¬ a / 2 ^ (8 * k) = 0) : ((a : Int) / 2 ^ (8 * k) != 0) = true := by
  have e : (a : Int) / 2 ^ (8 * k) = ((a / 2 ^ (8 * k) : Nat) : Int) := by simp
  rw [e]
  simp only [bne_iff_ne, ne_eq]
  omega
theorem mod_of_zero (a k : Nat) (h : a / 2 ^ (8 * k) = 0) : a % 256 ^ k = a := by
  have e0 : 2 ^ (8 * k) = 256 ^ k := by rw [Nat.pow_mul]
  rw [e0] at h
  have hp : 0 < 256 ^ k := Nat.pow_pos (by decide)
  rcases Nat.lt_or_ge a (256 ^ k) with h1 | h1
  · exact Nat.mod_eq_of_lt h1
  · have := Nat.div_pos h1 hp; omega

set_option maxHeartbeats 2000000 in
theorem order_main (w : World) (a : Nat) (ha : a < 18446744073709551616) (b : Nat) (hb : b < 18446744073709551616) (k : Nat) (hk1 : 1 ≤ k) (hk8 : k ≤ 8)
    (hs : 8 ≤ k ∨ (k < 8 ∧ a / 2 ^ (8 * k) = 0 ∧ b / 2 ^ (8 * k) = 0)) :
    Calls Try.prog 6 #[.int .u64 (a : Int), .int .u64 (b : Int), .int .i64 (k : Int)] w fun e w' => e = .returned (.bool true) ∧ Below w.heap.size w w' := by
  have ea : a % 256 ^ k = a := by
    rcases hs with h | ⟨_, h, _⟩
    · obtain rfl : k = 8 := by omega
      exact Nat.mod_eq_of_lt ha
    · exact mod_of_zero a k h
  have eb : b % 256 ^ k = b := by
    rcases hs with h | ⟨_, _, h⟩
    · obtain rfl : k = 8 := by omega
      exact Nat.mod_eq_of_lt hb
    · exact mod_of_zero b k h
  have HX : Hid (Op.bytesLess (be a k) (be b k) = decide ((a : Int) < (b : Int))) := by
    show _ = _
    rw [less_be, ea, eb]
    exact decide_eq_decide.2 (by omega)
  have HR : Hid ((be a k).reverse = le a k) := by show _ = _; rw [be_rev, List.reverse_reverse]
  have HW := Lib.hid (wd_nat k hk8)
  have HA := Lib.hid ha
  have HB := Lib.hid hb
  have HL1 := Lib.hid (be_len a k)
  have HL2 := Lib.hid (be_len b k)
  have HL3 := Lib.hid (le_len a k)
  clear ha hb ea eb
  rcases hs.symm with ⟨hk, h1, h2⟩ | hk
  · have h1' := shr_zero a k h1
    have h2' := shr_zero b k h2
    clear h1 h2
    go_enter Try.func6, Try.ntmps6
    go_wp2_with fail
    refine (awake_any _).mono ?_
    rintro e w1 ⟨rfl, hb1⟩
    have hz1 := hb1.size
    go_wp2_with fail
    clear h1' h2'
    refine (big_any none [] 0 0 a k _ Byt.none_ rfl (by omega) HA.out).mono ?_
    rintro e w2 ⟨A2, c2, rfl, hr2, hc2⟩
    rw [HW.out, Nat.zero_add, List.nil_append] at hr2
    rw [HW.out, Nat.zero_add]
    have hb2 := below_next hb1 hz1 hc2
    have hz2 := hb2.size
    clear hb1 hz1 hc2
    go_wp2_with fail
    refine (big_any none [] 0 0 b k _ Byt.none_ rfl (by omega) HB.out).mono ?_
    rintro e w3 ⟨A3, c3, rfl, hr3, hc3⟩
    rw [HW.out, Nat.zero_add, List.nil_append] at hr3
    rw [HW.out, Nat.zero_add]
    have hb3 := below_next hb2 hz2 hc3
    have hs3 := hr2.keep hc3
    clear hb2 hz2 hc3 hr2
    go_wp2_with fail
    have hHX := HX.out
    have hHR := HR.out
    have hle := HL3.out
    generalize be a k = X at *
    generalize be b k = Y at *
    clear HX HR
    have HX := Lib.hid hHX
    have HR := Lib.hid hHR
    clear hHX hHR hle
    have hW3 : Below w3.heap.size w3 w3 := Below.refl _ _
    have hcx : ∀ W, Below w3.heap.size w3 W → (convert 23 9 (.slice A2 k c2)).run Try.prog W = .ok (.string ⟨X.toArray⟩) W := fun W h =>
      conv_bytes Try.underlying23 Try.underlying5 Try.underlying9 (hs3.byt.below h) k c2 HL1.out
    have hcy : ∀ W, Below w3.heap.size w3 W → (convert 23 9 (.slice A3 k c3)).run Try.prog W = .ok (.string ⟨Y.toArray⟩) W := fun W h =>
      conv_bytes Try.underlying23 Try.underlying5 Try.underlying9 (hr3.byt.below h) k c3 HL2.out
    have hXY := HX.out
    refine wp_region_held_drew (S := (fun W => Below w3.heap.size w3 W)) (by kernel_rfl) (hW3.drew) (fun hHeld => ?_)
    refine wpAnyH_take (i := 0) (oi := ⟨(some 43), _, _, _, _, _⟩) (v := ?vq1_0) rfl (by kernel_rfl) (by kernel_rfl) (by kernel_rfl) (fun _ _ _ h => h) (Or.inl ⟨by rfl, ?yq1_0⟩) hHeld ?_
    case yq1_0 => (intro W0 hSw; go_simp; try with_reducible rfl)
    try simp only [Act.put, List.setIfInBounds_toArray, List.set_cons_zero, List.set_cons_succ]
    refine wpAnyH_take (i := 1) (oi := ⟨(some 44), _, _, _, _, _⟩) (v := ?vq1_1) rfl (by kernel_rfl) (by kernel_rfl) (by kernel_rfl) (fun _ _ _ h => h) (Or.inl ⟨by rfl, ?yq1_1⟩) hHeld ?_
    case yq1_1 => (intro W0 hSw; go_simp; try with_reducible rfl)
    try simp only [Act.put, List.setIfInBounds_toArray, List.set_cons_zero, List.set_cons_succ]
    refine wpAnyH_take (i := 2) (oi := ⟨(some 45), _, _, _, _, _⟩) (v := ?vq1_2) rfl (by kernel_rfl) (by kernel_rfl) (by kernel_rfl) (fun _ _ _ h => h) (Or.inl ⟨by rfl, ?yq1_2⟩) hHeld ?_
    case yq1_2 => (intro W0 hSw; go_simp; try with_reducible rfl)
    try simp only [Act.put, List.setIfInBounds_toArray, List.set_cons_zero, List.set_cons_succ]
    refine wpAnyH_take (i := 3) (oi := ⟨(some 46), _, _, _, _, _⟩) (v := ?vq1_3) rfl (by kernel_rfl) (by kernel_rfl) (by kernel_rfl) (fun _ _ _ h => h) (Or.inl ⟨by rfl, ?yq1_3⟩) hHeld ?_
    case yq1_3 => (intro W0 hSw; go_simp; try with_reducible rfl)
    try simp only [Act.put, List.setIfInBounds_toArray, List.set_cons_zero, List.set_cons_succ]
    refine wpAnyH_take (i := 4) (oi := ⟨(some 47), _, _, _, _, _⟩) (v := ?vq1_4) rfl (by kernel_rfl) (by kernel_rfl) (by kernel_rfl) (fun _ _ _ h => h) (Or.inl ⟨by rfl, ?yq1_4⟩) hHeld ?_
    case yq1_4 => (intro W0 hSw; go_simp; try with_reducible rfl)
    try simp only [Act.put, List.setIfInBounds_toArray, List.set_cons_zero, List.set_cons_succ]
    refine wpAnyH_take (i := 5) (oi := ⟨(some 48), _, _, _, _, _⟩) (v := ?vq1_5) rfl (by kernel_rfl) (by kernel_rfl) (by kernel_rfl) (fun _ _ _ h => h) (Or.inl ⟨by rfl, ?yq1_5⟩) hHeld ?_
    case yq1_5 => (intro W0 hSw; go_simp; try with_reducible rfl)
    try simp only [Act.put, List.setIfInBounds_toArray, List.set_cons_zero, List.set_cons_succ]
    refine wpAnyH_take (i := 6) (oi := ⟨(some 49), _, _, _, _, _⟩) (v := ?vq1_6) rfl (by kernel_rfl) (by kernel_rfl) (by kernel_rfl) (fun _ _ _ h => h) (Or.inl ⟨by rfl, ?yq1_6⟩) hHeld ?_
    case yq1_6 => (intro W0 hSw; go_simp; try with_reducible rfl)
    try simp only [Act.put, List.setIfInBounds_toArray, List.set_cons_zero, List.set_cons_succ]
    refine wpAnyH_take (i := 7) (oi := ⟨(some 50), _, _, _, _, _⟩) (v := ?vq1_7) rfl (by kernel_rfl) (by kernel_rfl) (by kernel_rfl) (fun _ _ _ h => h) (Or.inl ⟨by rfl, ?yq1_7⟩) hHeld ?_
    case yq1_7 => (intro W0 hSw; go_simp; try with_reducible rfl)
    try simp only [Act.put, List.setIfInBounds_toArray, List.set_cons_zero, List.set_cons_succ]
    refine wpAnyH_take (i := 8) (oi := ⟨(some 51), _, _, _, _, _⟩) (v := ?vq1_8) rfl (by kernel_rfl) (by kernel_rfl) (by kernel_rfl) (fun _ _ _ h => h) (Or.inl ⟨by rfl, ?yq1_8⟩) hHeld ?_
    case yq1_8 => (intro W0 hSw; go_simp; try with_reducible rfl)
    try simp only [Act.put, List.setIfInBounds_toArray, List.set_cons_zero, List.set_cons_succ]
    refine wpAnyH_take (i := 9) (oi := ⟨(some 52), _, _, _, _, _⟩) (v := ?vq1_9) rfl (by kernel_rfl) (by kernel_rfl) (by kernel_rfl) (fun _ _ _ h => h) (Or.inl ⟨by rfl, ?yq1_9⟩) hHeld ?_
    case yq1_9 => (intro W0 hSw; go_simp; try with_reducible rfl)
    try simp only [Act.put, List.setIfInBounds_toArray, List.set_cons_zero, List.set_cons_succ]
    refine wpAnyH_take (i := 10) (oi := ⟨(some 53), _, _, _, _, _⟩) (v := ?vq1_10) rfl (by kernel_rfl) (by kernel_rfl) (by kernel_rfl) (fun _ _ _ h => h) (Or.inl ⟨by rfl, ?yq1_10⟩) hHeld ?_
    case yq1_10 => (intro W0 hSw; go_simp; try with_reducible rfl)
    try simp only [Act.put, List.setIfInBounds_toArray, List.set_cons_zero, List.set_cons_succ]
    refine wpAnyH_take (i := 11) (oi := ⟨(some 54), _, _, _, _, _⟩) (v := ?vq1_11) rfl (by kernel_rfl) (by kernel_rfl) (by kernel_rfl) (fun _ _ _ h => h) (Or.inl ⟨by rfl, ?yq1_11⟩) hHeld ?_
    case yq1_11 => (intro W0 hSw; go_simp; try with_reducible rfl)
    try simp only [Act.put, List.setIfInBounds_toArray, List.set_cons_zero, List.set_cons_succ]
    refine wpAnyH_take (i := 12) (oi := ⟨(some 55), _, _, _, _, _⟩) (v := ?vq1_12) rfl (by kernel_rfl) (by kernel_rfl) (by kernel_rfl) (fun _ _ _ h => h) (Or.inl ⟨by rfl, ?yq1_12⟩) hHeld ?_
    case yq1_12 => (intro W0 hSw; go_simp; try with_reducible rfl)
    try simp only [Act.put, List.setIfInBounds_toArray, List.set_cons_zero, List.set_cons_succ]
    refine wpAnyH_take (i := 13) (oi := ⟨(some 56), _, _, _, _, _⟩) (v := ?vq1_13) rfl (by kernel_rfl) (by kernel_rfl) (by kernel_rfl) (fun _ _ _ h => h) (Or.inl ⟨by rfl, ?yq1_13⟩) hHeld ?_
    case yq1_13 => (intro W0 hSw; go_simp; try with_reducible rfl)
    try simp only [Act.put, List.setIfInBounds_toArray, List.set_cons_zero, List.set_cons_succ]
    refine wpAnyH_take (i := 14) (oi := ⟨(some 57), _, _, _, _, _⟩) (v := ?vq1_14) rfl (by kernel_rfl) (by kernel_rfl) (by kernel_rfl) (fun _ _ _ h => h) (Or.inl ⟨by rfl, ?yq1_14⟩) hHeld ?_
    case yq1_14 => (intro W0 hSw; go_simp; try with_reducible rfl)
    try simp only [Act.put, List.setIfInBounds_toArray, List.set_cons_zero, List.set_cons_succ]
    refine wpAnyH_take (i := 15) (oi := ⟨(some 58), _, _, _, _, _⟩) (v := ?vq1_15) rfl (by kernel_rfl) (by kernel_rfl) (by kernel_rfl) (fun _ _ _ h => h) (Or.inl ⟨by rfl, ?yq1_15⟩) hHeld ?_
    case yq1_15 => (intro W0 hSw; go_simp; try with_reducible rfl)
    try simp only [Act.put, List.setIfInBounds_toArray, List.set_cons_zero, List.set_cons_succ]
    refine wpAnyH_take (i := 16) (oi := ⟨(some 59), _, _, _, _, _⟩) (v := ?vq1_16) rfl (by kernel_rfl) (by kernel_rfl) (by kernel_rfl) (fun _ _ _ h => h) (Or.inl ⟨by rfl, ?yq1_16⟩) hHeld ?_
    case yq1_16 => (intro W0 hSw; go_simp; try with_reducible rfl)
    try simp only [Act.put, List.setIfInBounds_toArray, List.set_cons_zero, List.set_cons_succ]
    refine wpAnyH_take (i := 19) (oi := ⟨(some 62), _, _, _, _, _⟩) (v := ?vq1_17) rfl (by kernel_rfl) (by kernel_rfl) (by kernel_rfl) (fun _ _ _ h => h) (Or.inl ⟨by rfl, ?yq1_17⟩) hHeld ?_
    case yq1_17 => (intro W0 hSw; go_simp; try with_reducible rfl)
    try simp only [Act.put, List.setIfInBounds_toArray, List.set_cons_zero, List.set_cons_succ]
    refine wpAnyH_take (i := 20) (oi := ⟨(some 63), _, _, _, _, _⟩) (v := ?vq1_18) rfl (by kernel_rfl) (by kernel_rfl) (by kernel_rfl) (fun _ _ _ h => h) (Or.inl ⟨by rfl, ?yq1_18⟩) hHeld ?_
    case yq1_18 => (intro W0 hSw; go_simp; try with_reducible rfl)
    try simp only [Act.put, List.setIfInBounds_toArray, List.set_cons_zero, List.set_cons_succ]
    refine wpAnyH_ready (rs := [17]) (by kernel_rfl) (by simp) ?_
    refine AllReadyH.cons (i := 17) (o := ⟨(some 60), _, _, _, _, _⟩) rfl (fun K hK => ?_) AllReadyH.nil
    go_simp
    refine (turn_any A2 X k c2 w3.drew hs3.byt.drew HL1.out (by omega)).mono ?_
    rintro e w4 ⟨A4, c4, rfl, hr4, hc4⟩
    have hb4 : Below w3.heap.size w3 w4 := below_next hHeld (Nat.le_refl _) hc4
    rw [HR.out] at hr4
    refine hK.out _ _ (hb4) (fun hHeld => ?_)
    clear hK K
    try simp only [Act.put, List.setIfInBounds_toArray, List.set_cons_zero, List.set_cons_succ]
    refine held_more (S' := fun W => Below w4.heap.size w4 W) (fun W h => below_next hb4 hb4.size h) _ _ _ _ ?_
    clear hHeld
    have hHeld : Below w4.heap.size w4 w4 := Below.refl _ _
    have hc4 := fun W (h : Below w4.heap.size w4 W) => conv_bytes (P := Try.prog) Try.underlying23 Try.underlying5 Try.underlying9 (hr4.byt.below h) k c4 HL3.out
    refine wpAnyH_take (i := 18) (oi := ⟨(some 61), _, _, _, _, _⟩) (v := ?vq1_19) rfl (by kernel_rfl) (by kernel_rfl) (by kernel_rfl) (fun _ _ _ h => h) (Or.inl ⟨by rfl, ?yq1_19⟩) hHeld ?_
    case yq1_19 => (intro W0 hSw; go_simp; try with_reducible rfl)
    try simp only [Act.put, List.setIfInBounds_toArray, List.set_cons_zero, List.set_cons_succ]
    refine wpAnyH_ready (rs := [21]) (by kernel_rfl) (by simp) ?_
    refine AllReadyH.cons (i := 21) (o := ⟨(some 64), _, _, _, _, _⟩) rfl (fun K hK => ?_) AllReadyH.nil
    go_simp
    refine (little_any none [] 0 0 a k w4 Byt.none_ rfl (by omega) HA.out).mono ?_
    rintro e w5 ⟨A5, c5, rfl, hr5, hc5⟩
    rw [HW.out, Nat.zero_add, List.nil_append] at hr5
    rw [HW.out, Nat.zero_add]
    have hc5x := conv_bytes (P := Try.prog) Try.underlying23 Try.underlying5 Try.underlying9 hr5.byt k c5 HL3.out
    refine hK.out _ _ (hc5) (fun hHeld => ?_)
    clear hK K
    try simp only [Act.put, List.setIfInBounds_toArray, List.set_cons_zero, List.set_cons_succ]
    refine wpAnyH_ready (rs := [22]) (by kernel_rfl) (by simp) ?_
    refine AllReadyH.cons (i := 22) (o := ⟨(some 65), _, _, _, _, _⟩) rfl (fun K hK => ?_) AllReadyH.nil
    go_simp
    refine hK.out _ _ (hc5) (fun hHeld => ?_)
    clear hK K
    try simp only [Act.put, List.setIfInBounds_toArray, List.set_cons_zero, List.set_cons_succ]
    refine wpAnyH_take (i := 23) (oi := ⟨(some 66), _, _, _, _, _⟩) (v := ?vq1_20) rfl (by kernel_rfl) (by kernel_rfl) (by kernel_rfl) (fun _ _ _ h => h) (Or.inl ⟨by rfl, ?yq1_20⟩) hHeld ?_
    case yq1_20 => (intro W0 hSw; go_simp; try with_reducible rfl)
    try simp only [Act.put, List.setIfInBounds_toArray, List.set_cons_zero, List.set_cons_succ]
    refine wpAnyH_take (i := 24) (oi := ⟨(some 67), _, _, _, _, _⟩) (v := ?vq1_21) rfl (by kernel_rfl) (by kernel_rfl) (by kernel_rfl) (fun _ _ _ h => h) (Or.inl ⟨by rfl, ?yq1_21⟩) hHeld ?_
    case yq1_21 => (intro W0 hSw; go_simp; try with_reducible rfl)
    try simp only [Act.put, List.setIfInBounds_toArray, List.set_cons_zero, List.set_cons_succ]
    refine wpAnyH_take (i := 25) (oi := ⟨(some 6), _, _, _, _, _⟩) (v := ?vq1_22) rfl (by kernel_rfl) (by kernel_rfl) (by kernel_rfl) (fun _ _ _ h => h) (Or.inl ⟨by rfl, ?yq1_22⟩) hHeld ?_
    case yq1_22 => (intro W0 hSw; go_simp; try with_reducible rfl)
    try simp only [Act.put, List.setIfInBounds_toArray, List.set_cons_zero, List.set_cons_succ]
    refine wpAnyH_done (by kernel_rfl) ?_ _
    go_wp2_with fail
    go_ret
    exact ⟨rfl, below_next (below_next hb3 hb3.size hb4) (by have := hb3.size; have := hb4.size; omega) hc5⟩
  · go_enter Try.func6, Try.ntmps6
    go_wp2_with fail
    refine (awake_any _).mono ?_
    rintro e w1 ⟨rfl, hb1⟩
    have hz1 := hb1.size
    go_wp2_with fail
    refine (big_any none [] 0 0 a k _ Byt.none_ rfl (by omega) HA.out).mono ?_
    rintro e w2 ⟨A2, c2, rfl, hr2, hc2⟩
    rw [HW.out, Nat.zero_add, List.nil_append] at hr2
    rw [HW.out, Nat.zero_add]
    have hb2 := below_next hb1 hz1 hc2
    have hz2 := hb2.size
    clear hb1 hz1 hc2
    go_wp2_with fail
    refine (big_any none [] 0 0 b k _ Byt.none_ rfl (by omega) HB.out).mono ?_
    rintro e w3 ⟨A3, c3, rfl, hr3, hc3⟩
    rw [HW.out, Nat.zero_add, List.nil_append] at hr3
    rw [HW.out, Nat.zero_add]
    have hb3 := below_next hb2 hz2 hc3
    have hs3 := hr2.keep hc3
    clear hb2 hz2 hc3 hr2
    go_wp2_with fail
    have hHX := HX.out
    have hHR := HR.out
    have hle := HL3.out
    generalize be a k = X at *
    generalize be b k = Y at *
    clear HX HR
    have HX := Lib.hid hHX
    have HR := Lib.hid hHR
    clear hHX hHR hle
    have hW3 : Below w3.heap.size w3 w3 := Below.refl _ _
    have hcx : ∀ W, Below w3.heap.size w3 W → (convert 23 9 (.slice A2 k c2)).run Try.prog W = .ok (.string ⟨X.toArray⟩) W := fun W h =>
      conv_bytes Try.underlying23 Try.underlying5 Try.underlying9 (hs3.byt.below h) k c2 HL1.out
    have hcy : ∀ W, Below w3.heap.size w3 W → (convert 23 9 (.slice A3 k c3)).run Try.prog W = .ok (.string ⟨Y.toArray⟩) W := fun W h =>
      conv_bytes Try.underlying23 Try.underlying5 Try.underlying9 (hr3.byt.below h) k c3 HL2.out
    have hXY := HX.out
    refine wp_region_held_drew (S := (fun W => Below w3.heap.size w3 W)) (by kernel_rfl) (hW3.drew) (fun hHeld => ?_)
    refine wpAnyH_take (i := 0) (oi := ⟨(some 43), _, _, _, _, _⟩) (v := ?vq2_0) rfl (by kernel_rfl) (by kernel_rfl) (by kernel_rfl) (fun _ _ _ h => h) (Or.inl ⟨by rfl, ?yq2_0⟩) hHeld ?_
    case yq2_0 => (intro W0 hSw; go_simp; try with_reducible rfl)
    try simp only [Act.put, List.setIfInBounds_toArray, List.set_cons_zero, List.set_cons_succ]
    refine wpAnyH_take (i := 1) (oi := ⟨(some 44), _, _, _, _, _⟩) (v := ?vq2_1) rfl (by kernel_rfl) (by kernel_rfl) (by kernel_rfl) (fun _ _ _ h => h) (Or.inl ⟨by rfl, ?yq2_1⟩) hHeld ?_
    case yq2_1 => (intro W0 hSw; go_simp; try with_reducible rfl)
    try simp only [Act.put, List.setIfInBounds_toArray, List.set_cons_zero, List.set_cons_succ]
    refine wpAnyH_take (i := 2) (oi := ⟨(some 45), _, _, _, _, _⟩) (v := ?vq2_2) rfl (by kernel_rfl) (by kernel_rfl) (by kernel_rfl) (fun _ _ _ h => h) (Or.inl ⟨by rfl, ?yq2_2⟩) hHeld ?_
    case yq2_2 => (intro W0 hSw; go_simp; try with_reducible rfl)
    try simp only [Act.put, List.setIfInBounds_toArray, List.set_cons_zero, List.set_cons_succ]
    refine wpAnyH_take (i := 3) (oi := ⟨(some 46), _, _, _, _, _⟩) (v := ?vq2_3) rfl (by kernel_rfl) (by kernel_rfl) (by kernel_rfl) (fun _ _ _ h => h) (Or.inl ⟨by rfl, ?yq2_3⟩) hHeld ?_
    case yq2_3 => (intro W0 hSw; go_simp; try with_reducible rfl)
    try simp only [Act.put, List.setIfInBounds_toArray, List.set_cons_zero, List.set_cons_succ]
    refine wpAnyH_take (i := 4) (oi := ⟨(some 47), _, _, _, _, _⟩) (v := ?vq2_4) rfl (by kernel_rfl) (by kernel_rfl) (by kernel_rfl) (fun _ _ _ h => h) (Or.inl ⟨by rfl, ?yq2_4⟩) hHeld ?_
    case yq2_4 => (intro W0 hSw; go_simp; try with_reducible rfl)
    try simp only [Act.put, List.setIfInBounds_toArray, List.set_cons_zero, List.set_cons_succ]
    refine wpAnyH_take (i := 5) (oi := ⟨(some 48), _, _, _, _, _⟩) (v := ?vq2_5) rfl (by kernel_rfl) (by kernel_rfl) (by kernel_rfl) (fun _ _ _ h => h) (Or.inl ⟨by rfl, ?yq2_5⟩) hHeld ?_
    case yq2_5 => (intro W0 hSw; go_simp; try with_reducible rfl)
    try simp only [Act.put, List.setIfInBounds_toArray, List.set_cons_zero, List.set_cons_succ]
    refine wpAnyH_take (i := 6) (oi := ⟨(some 49), _, _, _, _, _⟩) (v := ?vq2_6) rfl (by kernel_rfl) (by kernel_rfl) (by kernel_rfl) (fun _ _ _ h => h) (Or.inl ⟨by rfl, ?yq2_6⟩) hHeld ?_
    case yq2_6 => (intro W0 hSw; go_simp; try with_reducible rfl)
    try simp only [Act.put, List.setIfInBounds_toArray, List.set_cons_zero, List.set_cons_succ]
    refine wpAnyH_take (i := 7) (oi := ⟨(some 50), _, _, _, _, _⟩) (v := ?vq2_7) rfl (by kernel_rfl) (by kernel_rfl) (by kernel_rfl) (fun _ _ _ h => h) (Or.inl ⟨by rfl, ?yq2_7⟩) hHeld ?_
    case yq2_7 => (intro W0 hSw; go_simp; try with_reducible rfl)
    try simp only [Act.put, List.setIfInBounds_toArray, List.set_cons_zero, List.set_cons_succ]
    refine wpAnyH_take (i := 8) (oi := ⟨(some 51), _, _, _, _, _⟩) (v := ?vq2_8) rfl (by kernel_rfl) (by kernel_rfl) (by kernel_rfl) (fun _ _ _ h => h) (Or.inl ⟨by rfl, ?yq2_8⟩) hHeld ?_
    case yq2_8 => (intro W0 hSw; go_simp; try with_reducible rfl)
    try simp only [Act.put, List.setIfInBounds_toArray, List.set_cons_zero, List.set_cons_succ]
    refine wpAnyH_take (i := 9) (oi := ⟨(some 52), _, _, _, _, _⟩) (v := ?vq2_9) rfl (by kernel_rfl) (by kernel_rfl) (by kernel_rfl) (fun _ _ _ h => h) (Or.inl ⟨by rfl, ?yq2_9⟩) hHeld ?_
    case yq2_9 => (intro W0 hSw; go_simp; try with_reducible rfl)
    try simp only [Act.put, List.setIfInBounds_toArray, List.set_cons_zero, List.set_cons_succ]
    refine wpAnyH_take (i := 10) (oi := ⟨(some 53), _, _, _, _, _⟩) (v := ?vq2_10) rfl (by kernel_rfl) (by kernel_rfl) (by kernel_rfl) (fun _ _ _ h => h) (Or.inl ⟨by rfl, ?yq2_10⟩) hHeld ?_
    case yq2_10 => (intro W0 hSw; go_simp; try with_reducible rfl)
    try simp only [Act.put, List.setIfInBounds_toArray, List.set_cons_zero, List.set_cons_succ]
    refine wpAnyH_take (i := 11) (oi := ⟨(some 54), _, _, _, _, _⟩) (v := ?vq2_11) rfl (by kernel_rfl) (by kernel_rfl) (by kernel_rfl) (fun _ _ _ h => h) (Or.inl ⟨by rfl, ?yq2_11⟩) hHeld ?_
    case yq2_11 => (intro W0 hSw; go_simp; try with_reducible rfl)
    try simp only [Act.put, List.setIfInBounds_toArray, List.set_cons_zero, List.set_cons_succ]
    refine wpAnyH_take (i := 12) (oi := ⟨(some 55), _, _, _, _, _⟩) (v := ?vq2_12) rfl (by kernel_rfl) (by kernel_rfl) (by kernel_rfl) (fun _ _ _ h => h) (Or.inl ⟨by rfl, ?yq2_12⟩) hHeld ?_
    case yq2_12 => (intro W0 hSw; go_simp; try with_reducible rfl)
    try simp only [Act.put, List.setIfInBounds_toArray, List.set_cons_zero, List.set_cons_succ]
    refine wpAnyH_take (i := 13) (oi := ⟨(some 56), _, _, _, _, _⟩) (v := ?vq2_13) rfl (by kernel_rfl) (by kernel_rfl) (by kernel_rfl) (fun _ _ _ h => h) (Or.inl ⟨by rfl, ?yq2_13⟩) hHeld ?_
    case yq2_13 => (intro W0 hSw; go_simp; try with_reducible rfl)
    try simp only [Act.put, List.setIfInBounds_toArray, List.set_cons_zero, List.set_cons_succ]
    refine wpAnyH_take (i := 14) (oi := ⟨(some 57), _, _, _, _, _⟩) (v := ?vq2_14) rfl (by kernel_rfl) (by kernel_rfl) (by kernel_rfl) (fun _ _ _ h => h) (Or.inl ⟨by rfl, ?yq2_14⟩) hHeld ?_
    case yq2_14 => (intro W0 hSw; go_simp; try with_reducible rfl)
    try simp only [Act.put, List.setIfInBounds_toArray, List.set_cons_zero, List.set_cons_succ]
    refine wpAnyH_take (i := 15) (oi := ⟨(some 58), _, _, _, _, _⟩) (v := ?vq2_15) rfl (by kernel_rfl) (by kernel_rfl) (by kernel_rfl) (fun _ _ _ h => h) (Or.inl ⟨by rfl, ?yq2_15⟩) hHeld ?_
    case yq2_15 => (intro W0 hSw; go_simp; try with_reducible rfl)
    try simp only [Act.put, List.setIfInBounds_toArray, List.set_cons_zero, List.set_cons_succ]
    refine wpAnyH_take (i := 16) (oi := ⟨(some 59), _, _, _, _, _⟩) (v := ?vq2_16) rfl (by kernel_rfl) (by kernel_rfl) (by kernel_rfl) (fun _ _ _ h => h) (Or.inl ⟨by rfl, ?yq2_16⟩) hHeld ?_
    case yq2_16 => (intro W0 hSw; go_simp; try with_reducible rfl)
    try simp only [Act.put, List.setIfInBounds_toArray, List.set_cons_zero, List.set_cons_succ]
    refine wpAnyH_take (i := 19) (oi := ⟨(some 62), _, _, _, _, _⟩) (v := ?vq2_17) rfl (by kernel_rfl) (by kernel_rfl) (by kernel_rfl) (fun _ _ _ h => h) (Or.inl ⟨by rfl, ?yq2_17⟩) hHeld ?_
    case yq2_17 => (intro W0 hSw; go_simp; try with_reducible rfl)
    try simp only [Act.put, List.setIfInBounds_toArray, List.set_cons_zero, List.set_cons_succ]
    refine wpAnyH_take (i := 20) (oi := ⟨(some 63), _, _, _, _, _⟩) (v := ?vq2_18) rfl (by kernel_rfl) (by kernel_rfl) (by kernel_rfl) (fun _ _ _ h => h) (Or.inl ⟨by rfl, ?yq2_18⟩) hHeld ?_
    case yq2_18 => (intro W0 hSw; go_simp; try with_reducible rfl)
    try simp only [Act.put, List.setIfInBounds_toArray, List.set_cons_zero, List.set_cons_succ]
    refine wpAnyH_ready (rs := [17]) (by kernel_rfl) (by simp) ?_
    refine AllReadyH.cons (i := 17) (o := ⟨(some 60), _, _, _, _, _⟩) rfl (fun K hK => ?_) AllReadyH.nil
    go_simp
    refine (turn_any A2 X k c2 w3.drew hs3.byt.drew HL1.out (by omega)).mono ?_
    rintro e w4 ⟨A4, c4, rfl, hr4, hc4⟩
    have hb4 : Below w3.heap.size w3 w4 := below_next hHeld (Nat.le_refl _) hc4
    rw [HR.out] at hr4
    refine hK.out _ _ (hb4) (fun hHeld => ?_)
    clear hK K
    try simp only [Act.put, List.setIfInBounds_toArray, List.set_cons_zero, List.set_cons_succ]
    refine held_more (S' := fun W => Below w4.heap.size w4 W) (fun W h => below_next hb4 hb4.size h) _ _ _ _ ?_
    clear hHeld
    have hHeld : Below w4.heap.size w4 w4 := Below.refl _ _
    have hc4 := fun W (h : Below w4.heap.size w4 W) => conv_bytes (P := Try.prog) Try.underlying23 Try.underlying5 Try.underlying9 (hr4.byt.below h) k c4 HL3.out
    refine wpAnyH_take (i := 18) (oi := ⟨(some 61), _, _, _, _, _⟩) (v := ?vq2_19) rfl (by kernel_rfl) (by kernel_rfl) (by kernel_rfl) (fun _ _ _ h => h) (Or.inl ⟨by rfl, ?yq2_19⟩) hHeld ?_
    case yq2_19 => (intro W0 hSw; go_simp; try with_reducible rfl)
    try simp only [Act.put, List.setIfInBounds_toArray, List.set_cons_zero, List.set_cons_succ]
    refine wpAnyH_ready (rs := [21]) (by kernel_rfl) (by simp) ?_
    refine AllReadyH.cons (i := 21) (o := ⟨(some 64), _, _, _, _, _⟩) rfl (fun K hK => ?_) AllReadyH.nil
    go_simp
    refine (little_any none [] 0 0 a k w4 Byt.none_ rfl (by omega) HA.out).mono ?_
    rintro e w5 ⟨A5, c5, rfl, hr5, hc5⟩
    rw [HW.out, Nat.zero_add, List.nil_append] at hr5
    rw [HW.out, Nat.zero_add]
    have hc5x := conv_bytes (P := Try.prog) Try.underlying23 Try.underlying5 Try.underlying9 hr5.byt k c5 HL3.out
    refine hK.out _ _ (hc5) (fun hHeld => ?_)
    clear hK K
    try simp only [Act.put, List.setIfInBounds_toArray, List.set_cons_zero, List.set_cons_succ]
    refine wpAnyH_ready (rs := [22]) (by kernel_rfl) (by simp) ?_
    refine AllReadyH.cons (i := 22) (o := ⟨(some 65), _, _, _, _, _⟩) rfl (fun K hK => ?_) AllReadyH.nil
    go_simp
    refine hK.out _ _ (hc5) (fun hHeld => ?_)
    clear hK K
    try simp only [Act.put, List.setIfInBounds_toArray, List.set_cons_zero, List.set_cons_succ]
    refine wpAnyH_take (i := 23) (oi := ⟨(some 66), _, _, _, _, _⟩) (v := ?vq2_20) rfl (by kernel_rfl) (by kernel_rfl) (by kernel_rfl) (fun _ _ _ h => h) (Or.inl ⟨by rfl, ?yq2_20⟩) hHeld ?_
    case yq2_20 => (intro W0 hSw; go_simp; try with_reducible rfl)
    try simp only [Act.put, List.setIfInBounds_toArray, List.set_cons_zero, List.set_cons_succ]
    refine wpAnyH_take (i := 24) (oi := ⟨(some 67), _, _, _, _, _⟩) (v := ?vq2_21) rfl (by kernel_rfl) (by kernel_rfl) (by kernel_rfl) (fun _ _ _ h => h) (Or.inl ⟨by rfl, ?yq2_21⟩) hHeld ?_
    case yq2_21 => (intro W0 hSw; go_simp; try with_reducible rfl)
    try simp only [Act.put, List.setIfInBounds_toArray, List.set_cons_zero, List.set_cons_succ]
    refine wpAnyH_take (i := 25) (oi := ⟨(some 6), _, _, _, _, _⟩) (v := ?vq2_22) rfl (by kernel_rfl) (by kernel_rfl) (by kernel_rfl) (fun _ _ _ h => h) (Or.inl ⟨by rfl, ?yq2_22⟩) hHeld ?_
    case yq2_22 => (intro W0 hSw; go_simp; try with_reducible rfl)
    try simp only [Act.put, List.setIfInBounds_toArray, List.set_cons_zero, List.set_cons_succ]
    refine wpAnyH_done (by kernel_rfl) ?_ _
    go_wp2_with fail
    go_ret
    exact ⟨rfl, below_next (below_next hb3 hb3.size hb4) (by have := hb3.size; have := hb4.size; omega) hc5⟩

theorem order_early (w : World) (a : Nat) (b : Nat) (n : Int) (hs : n < 1 ∨ 8 < n ∨ ∃ k : Nat, n = (k : Int) ∧ 1 ≤ k ∧ k < 8 ∧ (¬ a / 2 ^ (8 * k) = 0 ∨ (a / 2 ^ (8 * k) = 0 ∧ ¬ b / 2 ^ (8 * k) = 0))) :
    Calls Try.prog 6 #[.int .u64 (a : Int), .int .u64 (b : Int), .int .i64 n] w fun e w' => e = .returned (.bool true) ∧ Below w.heap.size w w' := by
  rcases hs with h | h | ⟨k, rfl, h1, h2, h3 | ⟨h3, h4⟩⟩
  · go_enter Try.func6, Try.ntmps6
    go_wp2_with fail
    refine (awake_any _).mono ?_
    rintro e w1 ⟨rfl, hb1⟩
    go_wp2
    go_ret
    exact ⟨rfl, hb1⟩
  · go_enter Try.func6, Try.ntmps6
    go_wp2_with fail
    refine (awake_any _).mono ?_
    rintro e w1 ⟨rfl, hb1⟩
    go_wp2
    go_ret
    exact ⟨rfl, hb1⟩
  · have h3' := shr_some a k h3
    clear h3
    go_enter Try.func6, Try.ntmps6
    go_wp2_with fail
    refine (awake_any _).mono ?_
    rintro e w1 ⟨rfl, hb1⟩
    go_wp2
    go_ret
    exact ⟨rfl, hb1⟩
  · have h3' := shr_zero a k h3
    have h4' := shr_some b k h4
    clear h3 h4
    go_enter Try.func6, Try.ntmps6
    go_wp2_with fail
    refine (awake_any _).mono ?_
    rintro e w1 ⟨rfl, hb1⟩
    go_wp2
    go_ret
    exact ⟨rfl, hb1⟩

theorem walk_OctetOrder (w : World) (a : Nat) (ha : a < 18446744073709551616) (b : Nat) (hb : b < 18446744073709551616) (n : Int) (_hn : (Lit.int .i64 n).wf = true) :
    Calls Try.prog 6 #[.int .u64 (a : Int), .int .u64 (b : Int), .int .i64 n] w fun e w' => e = .returned (.bool true) ∧ Below w.heap.size w w' := by
  by_cases h0 : n < 1
  · exact order_early w a b n (.inl h0)
  by_cases h1 : 8 < n
  · exact order_early w a b n (.inr (.inl h1))
  obtain ⟨k, rfl⟩ := Int.eq_ofNat_of_zero_le (show 0 ≤ n by omega)
  by_cases h2 : 8 ≤ k
  · exact order_main w a ha b hb k (by omega) (by omega) (.inl h2)
  by_cases h3 : a / 2 ^ (8 * k) = 0
  · by_cases h4 : b / 2 ^ (8 * k) = 0
    · exact order_main w a ha b hb k (by omega) (by omega) (.inr ⟨by omega, h3, h4⟩)
    · exact order_early w a b k (.inr (.inr ⟨k, rfl, by omega, by omega, .inr ⟨h3, h4⟩⟩))
  · exact order_early w a b k (.inr (.inr ⟨k, rfl, by omega, by omega, .inl h3⟩))
end Go.Proofs.Ytkiphhabciedjaa
