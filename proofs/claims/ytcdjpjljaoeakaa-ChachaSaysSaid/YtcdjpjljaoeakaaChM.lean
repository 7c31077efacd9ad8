/-
  Contract of chacha's mix: two rounds. Conditions: the state lies in a block of its own; its words are below 2^32.
-/
import Derived.Test.YtcdjpjljaoeakaaChQ
import Derived.Test.YtcdjpjljaoeakaaRegC
import Derived.IntWalk
namespace Go.Proofs.Ytcdjpjljaoeakaa
open Go.RowKit

/-- n halves of two rounds. -/
def mixN (l : List Nat) : Nat → List Nat
  | 0 => l
  | n + 1 => half (mixN l n) n 4
theorem mixN_len (l : List Nat) : ∀ n, (mixN l n).length = l.length
  | 0 => rfl
  | n + 1 => by rw [mixN, half_len, mixN_len l n]
theorem mixN_small (l : List Nat) (h : small32 l) : ∀ n, small32 (mixN l n)
  | 0 => h
  | n + 1 => half_small _ _ (mixN_small l h n) _
theorem mixN_two (l : List Nat) : mixN l 2 = mixOf l := rfl
theorem word_at {w : World} {g : Nat} {l : List Nat} {t : TypeId} (hg : w.heap[g]? = some (.cells (u32v l).toArray t (0, 0))) (k : Nat) (hk : k < l.length) : w.cell? ⟨g, k, none⟩ = some (.int .u32 ((natAt l k : Nat) : Int)) := by
  rw [cell_of_row _ _ _ _ _ _ hg]
  have := natAt_at (l := l) rfl hk
  simpa using this

set_option maxRecDepth 100000 in
set_option maxHeartbeats 2000000 in
theorem mix_any (w : World) (g : Nat) (l : List Nat) (hg : w.heap[g]? = some (.cells (u32v l).toArray 48 (0, 0))) (hl : l.length = 16) (hs : small32 l) :
    Calls Try.prog 21 #[.pointer (some ⟨g, 0, none⟩)] w fun e w' => e = .returned (.tuple #[]) ∧ Hid (w'.heap[g]? = some (.cells (u32v (mixOf l)).toArray 48 (0, 0))) ∧ But g w w' := by
  have HG := Lib.hid hg
  have HL := Lib.hid hl
  clear hg hl
  go_enter Try.func21, Try.ntmps21
  go_wp2
  go_loopw [7] (fun i wr => ∃ t : Nat, t ≤ 2 ∧ i = .int .i64 (t : Int) ∧ Hid (wr.heap[g]? = some (.cells (u32v (mixN l t)).toArray 48 (0, 0))) ∧ But g w wr) (fun i _ => 2 - (intOf i).toNat)
  case atStart => exact ⟨0, by omega, rfl, HG, But.refl _ _⟩
  case round =>
    obtain ⟨t, ht, rfl, hgt, hbt⟩ := hrel
    by_cases hlt : t < 2
    · obtain ⟨L, hL⟩ : ∃ L, L = mixN l t := ⟨_, rfl⟩
      rw [← hL] at hgt
      have HLL := Lib.hid (show L.length = 16 by rw [hL, mixN_len]; exact HL.out)
      have hLs : small32 L := by rw [hL]; exact mixN_small l hs t
      have HM := Lib.hid hL
      clear hL
      go_wp2
      generalize decide ((t : Int) < 2) = bb
      go_loopw [10] (fun i wr => ∃ n : Nat, n ≤ 4 ∧ i = .int .i64 (n : Int) ∧ Hid (wr.heap[g]? = some (.cells (u32v (half L t n)).toArray 48 (0, 0))) ∧ But g w wr) (fun i _ => 4 - (intOf i).toNat)
      case atStart => exact ⟨0, by omega, rfl, hgt, hbt⟩
      case round =>
        clear hgt hbt
        obtain ⟨n, hn, rfl, hgn, hbn⟩ := hrel
        by_cases hlt2 : n < 4
        · obtain ⟨X, hX⟩ : ∃ X, X = half L t n := ⟨_, rfl⟩
          rw [← hX] at hgn
          have HXL := Lib.hid (show X.length = 16 by rw [hX, half_len]; exact HLL.out)
          have hXs : small32 X := by rw [hX]; exact half_small L t hLs n
          have HX := Lib.hid hX
          clear hX
          obtain ⟨j, hj⟩ : ∃ j, j = 4 + (n + t) % 4 := ⟨_, rfl⟩
          obtain ⟨k, hk⟩ : ∃ k, k = 8 + (n + 2 * t) % 4 := ⟨_, rfl⟩
          obtain ⟨m, hm⟩ : ∃ m, m = 12 + (n + 3 * t) % 4 := ⟨_, rfl⟩
          have ej : (4 : Int) + ((n : Int) + (t : Int)) % 4 = (j : Int) := by omega
          have ek : (8 : Int) + ((n : Int) + 2 * (t : Int)) % 4 = (k : Int) := by omega
          have em : (12 : Int) + ((n : Int) + 3 * (t : Int)) % 4 = (m : Int) := by omega
          have EJ := Lib.hid ej
          have EK := Lib.hid ek
          have EM := Lib.hid em
          clear ej ek em
          have ln : n < 16 := by omega
          have lj : j < 16 := by omega
          have lk : k < 16 := by omega
          have lm : m < 16 := by omega
          have in_ : (n : Int) < 16 := by omega
          have ij : (j : Int) < 16 := by omega
          have ik : (k : Int) < 16 := by omega
          have im : (m : Int) < 16 := by omega
          have HH := Lib.hid (show half L t (n + 1) = q4 X n j k m by rw [half, ← HX.out, hj, hk, hm])
          clear hj hk hm
          have c0 := word_at hgn.out n (by rw [HXL.out]; exact ln)
          have c1 := word_at hgn.out j (by rw [HXL.out]; exact lj)
          have c2 := word_at hgn.out k (by rw [HXL.out]; exact lk)
          have c3 := word_at hgn.out m (by rw [HXL.out]; exact lm)
          have HQ := Lib.hid (fun p q r s => q4_eq (s := X) (i := n) (j := j) (k := k) (l := m) (p := p) (q := q) (r := r) (t := s))
          have b1 := hXs.at_ j
          have b3 := hXs.at_ m
          generalize natAt X n = x0 at *
          generalize natAt X j = x1 at *
          generalize natAt X k = x2 at *
          generalize natAt X m = x3 at *
          go_wp2_with fail
          rw [EJ.out, EK.out, EM.out]
          refine c_start (S := (fun W => W.cell? ⟨g, n, none⟩ = some (.int .u32 (x0 : Int)) ∧ W.cell? ⟨g, j, none⟩ = some (.int .u32 (x1 : Int)) ∧ W.cell? ⟨g, k, none⟩ = some (.int .u32 (x2 : Int)) ∧ W.cell? ⟨g, m, none⟩ = some (.int .u32 (x3 : Int)))) 28 (by kernel_rfl) (⟨c0, c1, c2, c3⟩) (fun hHeld => ?_)
          refine c_take (i := 0) (oi := ⟨(some 31), _, _, _, _, _⟩) (v := ?vq1_0) rfl (by decide) (by kernel_rfl) (by kernel_rfl) (by kernel_rfl) (fun _ _ _ h => h) (Or.inl ⟨by rfl, ?yq1_0⟩) hHeld ?_
          case yq1_0 => (intro W0 hSw; go_simp; try with_reducible rfl)
          try simp only [Act.put, List.setIfInBounds_toArray, List.set_cons_zero, List.set_cons_succ]
          refine c_take (i := 1) (oi := ⟨(some 32), _, _, _, _, _⟩) (v := ?vq1_1) rfl (by decide) (by kernel_rfl) (by kernel_rfl) (by kernel_rfl) (fun _ _ _ h => h) (Or.inl ⟨by rfl, ?yq1_1⟩) hHeld ?_
          case yq1_1 => (intro W0 hSw; go_simp; try with_reducible rfl)
          try simp only [Act.put, List.setIfInBounds_toArray, List.set_cons_zero, List.set_cons_succ]
          refine c_take (i := 2) (oi := ⟨(some 33), _, _, _, _, _⟩) (v := ?vq1_2) rfl (by decide) (by kernel_rfl) (by kernel_rfl) (by kernel_rfl) (fun _ _ _ h => h) (Or.inl ⟨by rfl, ?yq1_2⟩) hHeld ?_
          case yq1_2 => (intro W0 hSw; go_simp; try with_reducible rfl)
          try simp only [Act.put, List.setIfInBounds_toArray, List.set_cons_zero, List.set_cons_succ]
          refine c_take (i := 3) (oi := ⟨(some 34), _, _, _, _, _⟩) (v := ?vq1_3) rfl (by decide) (by kernel_rfl) (by kernel_rfl) (by kernel_rfl) (fun _ _ _ h => h) (Or.inl ⟨by rfl, ?yq1_3⟩) hHeld ?_
          case yq1_3 => (intro W0 hSw; go_simp; try with_reducible rfl)
          try simp only [Act.put, List.setIfInBounds_toArray, List.set_cons_zero, List.set_cons_succ]
          refine c_take (i := 4) (oi := ⟨(some 35), _, _, _, _, _⟩) (v := ?vq1_4) rfl (by decide) (by kernel_rfl) (by kernel_rfl) (by kernel_rfl) (fun _ _ _ h => h) (Or.inl ⟨by rfl, ?yq1_4⟩) hHeld ?_
          case yq1_4 => (intro W0 hSw; go_simp; try with_reducible rfl)
          try simp only [Act.put, List.setIfInBounds_toArray, List.set_cons_zero, List.set_cons_succ]
          refine c_take (i := 5) (oi := ⟨(some 36), _, _, _, _, _⟩) (v := ?vq1_5) rfl (by decide) (by kernel_rfl) (by kernel_rfl) (by kernel_rfl) (fun _ _ _ h => h) (Or.inl ⟨by rfl, ?yq1_5⟩) hHeld ?_
          case yq1_5 => (intro W0 hSw; go_simp; try with_reducible rfl)
          try simp only [Act.put, List.setIfInBounds_toArray, List.set_cons_zero, List.set_cons_succ]
          refine c_take (i := 6) (oi := ⟨(some 37), _, _, _, _, _⟩) (v := ?vq1_6) rfl (by decide) (by kernel_rfl) (by kernel_rfl) (by kernel_rfl) (fun _ _ _ h => h) (Or.inl ⟨by rfl, ?yq1_6⟩) hHeld ?_
          case yq1_6 => (intro W0 hSw; go_simp; try with_reducible rfl)
          try simp only [Act.put, List.setIfInBounds_toArray, List.set_cons_zero, List.set_cons_succ]
          refine c_take (i := 7) (oi := ⟨(some 38), _, _, _, _, _⟩) (v := ?vq1_7) rfl (by decide) (by kernel_rfl) (by kernel_rfl) (by kernel_rfl) (fun _ _ _ h => h) (Or.inl ⟨by rfl, ?yq1_7⟩) hHeld ?_
          case yq1_7 => (intro W0 hSw; go_simp; try with_reducible rfl)
          try simp only [Act.put, List.setIfInBounds_toArray, List.set_cons_zero, List.set_cons_succ]
          refine c_take (i := 8) (oi := ⟨(some 39), _, _, _, _, _⟩) (v := ?vq1_8) rfl (by decide) (by kernel_rfl) (by kernel_rfl) (by kernel_rfl) (fun _ _ _ h => h) (Or.inl ⟨by rfl, ?yq1_8⟩) hHeld ?_
          case yq1_8 => (intro W0 hSw; go_simp; try with_reducible rfl)
          try simp only [Act.put, List.setIfInBounds_toArray, List.set_cons_zero, List.set_cons_succ]
          refine c_take (i := 9) (oi := ⟨(some 40), _, _, _, _, _⟩) (v := ?vq1_9) rfl (by decide) (by kernel_rfl) (by kernel_rfl) (by kernel_rfl) (fun _ _ _ h => h) (Or.inl ⟨by rfl, ?yq1_9⟩) hHeld ?_
          case yq1_9 => (intro W0 hSw; go_simp; try with_reducible rfl)
          try simp only [Act.put, List.setIfInBounds_toArray, List.set_cons_zero, List.set_cons_succ]
          refine c_take (i := 10) (oi := ⟨(some 41), _, _, _, _, _⟩) (v := ?vq1_10) rfl (by decide) (by kernel_rfl) (by kernel_rfl) (by kernel_rfl) (fun _ _ _ h => h) (Or.inl ⟨by rfl, ?yq1_10⟩) hHeld ?_
          case yq1_10 => (intro W0 hSw; go_simp; try with_reducible rfl)
          try simp only [Act.put, List.setIfInBounds_toArray, List.set_cons_zero, List.set_cons_succ]
          refine c_take (i := 11) (oi := ⟨(some 42), _, _, _, _, _⟩) (v := ?vq1_11) rfl (by decide) (by kernel_rfl) (by kernel_rfl) (by kernel_rfl) (fun _ _ _ h => h) (Or.inl ⟨by rfl, ?yq1_11⟩) hHeld ?_
          case yq1_11 => (intro W0 hSw; go_simp; try with_reducible rfl)
          try simp only [Act.put, List.setIfInBounds_toArray, List.set_cons_zero, List.set_cons_succ]
          refine c_read (i := 12) (oi := ⟨(some 43), _, _, _, _, _⟩) (v := ?vq1_12) rfl (by decide) (by kernel_rfl) (by kernel_rfl) (by kernel_rfl) (by kernel_rfl) (by kernel_rfl) (fun _ _ _ h => h) (Or.inl ⟨by rfl, ?yq1_12⟩) hHeld ?_
          case yq1_12 => (intro W0 hSw; go_simp; try with_reducible rfl)
          try simp only [Act.put, List.setIfInBounds_toArray, List.set_cons_zero, List.set_cons_succ]
          refine c_take (i := 13) (oi := ⟨(some 44), _, _, _, _, _⟩) (v := ?vq1_13) rfl (by decide) (by kernel_rfl) (by kernel_rfl) (by kernel_rfl) (fun _ _ _ h => h) (Or.inl ⟨by rfl, ?yq1_13⟩) hHeld ?_
          case yq1_13 => (intro W0 hSw; go_simp; try with_reducible rfl)
          try simp only [Act.put, List.setIfInBounds_toArray, List.set_cons_zero, List.set_cons_succ]
          refine c_take (i := 14) (oi := ⟨(some 45), _, _, _, _, _⟩) (v := ?vq1_14) rfl (by decide) (by kernel_rfl) (by kernel_rfl) (by kernel_rfl) (fun _ _ _ h => h) (Or.inl ⟨by rfl, ?yq1_14⟩) hHeld ?_
          case yq1_14 => (intro W0 hSw; go_simp; try with_reducible rfl)
          try simp only [Act.put, List.setIfInBounds_toArray, List.set_cons_zero, List.set_cons_succ]
          refine c_take (i := 15) (oi := ⟨(some 46), _, _, _, _, _⟩) (v := ?vq1_15) rfl (by decide) (by kernel_rfl) (by kernel_rfl) (by kernel_rfl) (fun _ _ _ h => h) (Or.inl ⟨by rfl, ?yq1_15⟩) hHeld ?_
          case yq1_15 => (intro W0 hSw; go_simp; try with_reducible rfl)
          try simp only [Act.put, List.setIfInBounds_toArray, List.set_cons_zero, List.set_cons_succ]
          refine c_take (i := 16) (oi := ⟨(some 47), _, _, _, _, _⟩) (v := ?vq1_16) rfl (by decide) (by kernel_rfl) (by kernel_rfl) (by kernel_rfl) (fun _ _ _ h => h) (Or.inl ⟨by rfl, ?yq1_16⟩) hHeld ?_
          case yq1_16 => (intro W0 hSw; go_simp; try with_reducible rfl)
          try simp only [Act.put, List.setIfInBounds_toArray, List.set_cons_zero, List.set_cons_succ]
          refine c_read (i := 17) (oi := ⟨(some 48), _, _, _, _, _⟩) (v := ?vq1_17) rfl (by decide) (by kernel_rfl) (by kernel_rfl) (by kernel_rfl) (by kernel_rfl) (by kernel_rfl) (fun _ _ _ h => h) (Or.inl ⟨by rfl, ?yq1_17⟩) hHeld ?_
          case yq1_17 => (intro W0 hSw; go_simp; try with_reducible rfl)
          try simp only [Act.put, List.setIfInBounds_toArray, List.set_cons_zero, List.set_cons_succ]
          refine c_take (i := 18) (oi := ⟨(some 49), _, _, _, _, _⟩) (v := ?vq1_18) rfl (by decide) (by kernel_rfl) (by kernel_rfl) (by kernel_rfl) (fun _ _ _ h => h) (Or.inl ⟨by rfl, ?yq1_18⟩) hHeld ?_
          case yq1_18 => (intro W0 hSw; go_simp; try with_reducible rfl)
          try simp only [Act.put, List.setIfInBounds_toArray, List.set_cons_zero, List.set_cons_succ]
          refine c_take (i := 19) (oi := ⟨(some 50), _, _, _, _, _⟩) (v := ?vq1_19) rfl (by decide) (by kernel_rfl) (by kernel_rfl) (by kernel_rfl) (fun _ _ _ h => h) (Or.inl ⟨by rfl, ?yq1_19⟩) hHeld ?_
          case yq1_19 => (intro W0 hSw; go_simp; try with_reducible rfl)
          try simp only [Act.put, List.setIfInBounds_toArray, List.set_cons_zero, List.set_cons_succ]
          refine c_take (i := 20) (oi := ⟨(some 51), _, _, _, _, _⟩) (v := ?vq1_20) rfl (by decide) (by kernel_rfl) (by kernel_rfl) (by kernel_rfl) (fun _ _ _ h => h) (Or.inl ⟨by rfl, ?yq1_20⟩) hHeld ?_
          case yq1_20 => (intro W0 hSw; go_simp; try with_reducible rfl)
          try simp only [Act.put, List.setIfInBounds_toArray, List.set_cons_zero, List.set_cons_succ]
          refine c_take (i := 21) (oi := ⟨(some 52), _, _, _, _, _⟩) (v := ?vq1_21) rfl (by decide) (by kernel_rfl) (by kernel_rfl) (by kernel_rfl) (fun _ _ _ h => h) (Or.inl ⟨by rfl, ?yq1_21⟩) hHeld ?_
          case yq1_21 => (intro W0 hSw; go_simp; try with_reducible rfl)
          try simp only [Act.put, List.setIfInBounds_toArray, List.set_cons_zero, List.set_cons_succ]
          refine c_read (i := 22) (oi := ⟨(some 53), _, _, _, _, _⟩) (v := ?vq1_22) rfl (by decide) (by kernel_rfl) (by kernel_rfl) (by kernel_rfl) (by kernel_rfl) (by kernel_rfl) (fun _ _ _ h => h) (Or.inl ⟨by rfl, ?yq1_22⟩) hHeld ?_
          case yq1_22 => (intro W0 hSw; go_simp; try with_reducible rfl)
          try simp only [Act.put, List.setIfInBounds_toArray, List.set_cons_zero, List.set_cons_succ]
          refine c_take (i := 23) (oi := ⟨(some 54), _, _, _, _, _⟩) (v := ?vq1_23) rfl (by decide) (by kernel_rfl) (by kernel_rfl) (by kernel_rfl) (fun _ _ _ h => h) (Or.inl ⟨by rfl, ?yq1_23⟩) hHeld ?_
          case yq1_23 => (intro W0 hSw; go_simp; try with_reducible rfl)
          try simp only [Act.put, List.setIfInBounds_toArray, List.set_cons_zero, List.set_cons_succ]
          refine c_take (i := 24) (oi := ⟨(some 55), _, _, _, _, _⟩) (v := ?vq1_24) rfl (by decide) (by kernel_rfl) (by kernel_rfl) (by kernel_rfl) (fun _ _ _ h => h) (Or.inl ⟨by rfl, ?yq1_24⟩) hHeld ?_
          case yq1_24 => (intro W0 hSw; go_simp; try with_reducible rfl)
          try simp only [Act.put, List.setIfInBounds_toArray, List.set_cons_zero, List.set_cons_succ]
          refine c_take (i := 25) (oi := ⟨(some 56), _, _, _, _, _⟩) (v := ?vq1_25) rfl (by decide) (by kernel_rfl) (by kernel_rfl) (by kernel_rfl) (fun _ _ _ h => h) (Or.inl ⟨by rfl, ?yq1_25⟩) hHeld ?_
          case yq1_25 => (intro W0 hSw; go_simp; try with_reducible rfl)
          try simp only [Act.put, List.setIfInBounds_toArray, List.set_cons_zero, List.set_cons_succ]
          refine c_take (i := 26) (oi := ⟨(some 57), _, _, _, _, _⟩) (v := ?vq1_26) rfl (by decide) (by kernel_rfl) (by kernel_rfl) (by kernel_rfl) (fun _ _ _ h => h) (Or.inl ⟨by rfl, ?yq1_26⟩) hHeld ?_
          case yq1_26 => (intro W0 hSw; go_simp; try with_reducible rfl)
          try simp only [Act.put, List.setIfInBounds_toArray, List.set_cons_zero, List.set_cons_succ]
          refine c_read (i := 27) (oi := ⟨(some 58), _, _, _, _, _⟩) (v := ?vq1_27) rfl (by decide) (by kernel_rfl) (by kernel_rfl) (by kernel_rfl) (by kernel_rfl) (by kernel_rfl) (fun _ _ _ h => h) (Or.inl ⟨by rfl, ?yq1_27⟩) hHeld ?_
          case yq1_27 => (intro W0 hSw; go_simp; try with_reducible rfl)
          try simp only [Act.put, List.setIfInBounds_toArray, List.set_cons_zero, List.set_cons_succ]
          refine c_take (i := 34) (oi := ⟨(some 64), _, _, _, _, _⟩) (v := ?vq1_28) rfl (by decide) (by kernel_rfl) (by kernel_rfl) (by kernel_rfl) (fun _ _ _ h => h) (Or.inl ⟨by rfl, ?yq1_28⟩) hHeld ?_
          case yq1_28 => (intro W0 hSw; go_simp; try with_reducible rfl)
          try simp only [Act.put, List.setIfInBounds_toArray, List.set_cons_zero, List.set_cons_succ]
          refine c_take (i := 37) (oi := ⟨(some 66), _, _, _, _, _⟩) (v := ?vq1_29) rfl (by decide) (by kernel_rfl) (by kernel_rfl) (by kernel_rfl) (fun _ _ _ h => h) (Or.inl ⟨by rfl, ?yq1_29⟩) hHeld ?_
          case yq1_29 => (intro W0 hSw; go_simp; try with_reducible rfl)
          try simp only [Act.put, List.setIfInBounds_toArray, List.set_cons_zero, List.set_cons_succ]
          refine c_take (i := 40) (oi := ⟨(some 68), _, _, _, _, _⟩) (v := ?vq1_30) rfl (by decide) (by kernel_rfl) (by kernel_rfl) (by kernel_rfl) (fun _ _ _ h => h) (Or.inl ⟨by rfl, ?yq1_30⟩) hHeld ?_
          case yq1_30 => (intro W0 hSw; go_simp; try with_reducible rfl)
          try simp only [Act.put, List.setIfInBounds_toArray, List.set_cons_zero, List.set_cons_succ]
          refine c_take (i := 43) (oi := ⟨(some 70), _, _, _, _, _⟩) (v := ?vq1_31) rfl (by decide) (by kernel_rfl) (by kernel_rfl) (by kernel_rfl) (fun _ _ _ h => h) (Or.inl ⟨by rfl, ?yq1_31⟩) hHeld ?_
          case yq1_31 => (intro W0 hSw; go_simp; try with_reducible rfl)
          try simp only [Act.put, List.setIfInBounds_toArray, List.set_cons_zero, List.set_cons_succ]
          refine c_call (S' := (fun _ => True)) (o := ⟨(some 59), _, _, _, _, _⟩) (by kernel_rfl) (by kernel_rfl) rfl (fun K hK => ?_)
          clear hHeld
          go_simp
          refine (quarter_any x0 x1 x2 x3 _ b1 b3).mono ?_
          rintro e w2 ⟨p, q, r, s, rfl, hqr, ⟨lp, lq, lr, ls⟩, rfl⟩
          refine hK.out _ _ (trivial) (fun hHeld => ?_)
          clear hK K
          try simp only [Act.put, List.setIfInBounds_toArray, List.set_cons_zero, List.set_cons_succ]
          refine wpAnyH_take (i := 29) (oi := ⟨(some 30), _, _, _, _, _⟩) (v := ?vq1_32) rfl (by kernel_rfl) (by kernel_rfl) (by kernel_rfl) (fun _ _ _ h => h) (Or.inl ⟨by rfl, ?yq1_32⟩) hHeld ?_
          case yq1_32 => (intro W0 hSw; go_simp; try with_reducible rfl)
          try simp only [Act.put, List.setIfInBounds_toArray, List.set_cons_zero, List.set_cons_succ]
          refine wpAnyH_take (i := 30) (oi := ⟨(some 60), _, _, _, _, _⟩) (v := ?vq1_33) rfl (by kernel_rfl) (by kernel_rfl) (by kernel_rfl) (fun _ _ _ h => h) (Or.inl ⟨by rfl, ?yq1_33⟩) hHeld ?_
          case yq1_33 => (intro W0 hSw; go_simp; try with_reducible rfl)
          try simp only [Act.put, List.setIfInBounds_toArray, List.set_cons_zero, List.set_cons_succ]
          refine wpAnyH_take (i := 31) (oi := ⟨(some 61), _, _, _, _, _⟩) (v := ?vq1_34) rfl (by kernel_rfl) (by kernel_rfl) (by kernel_rfl) (fun _ _ _ h => h) (Or.inl ⟨by rfl, ?yq1_34⟩) hHeld ?_
          case yq1_34 => (intro W0 hSw; go_simp; try with_reducible rfl)
          try simp only [Act.put, List.setIfInBounds_toArray, List.set_cons_zero, List.set_cons_succ]
          refine wpAnyH_take (i := 32) (oi := ⟨(some 62), _, _, _, _, _⟩) (v := ?vq1_35) rfl (by kernel_rfl) (by kernel_rfl) (by kernel_rfl) (fun _ _ _ h => h) (Or.inl ⟨by rfl, ?yq1_35⟩) hHeld ?_
          case yq1_35 => (intro W0 hSw; go_simp; try with_reducible rfl)
          try simp only [Act.put, List.setIfInBounds_toArray, List.set_cons_zero, List.set_cons_succ]
          refine wpAnyH_take (i := 33) (oi := ⟨(some 63), _, _, _, _, _⟩) (v := ?vq1_36) rfl (by kernel_rfl) (by kernel_rfl) (by kernel_rfl) (fun _ _ _ h => h) (Or.inl ⟨by rfl, ?yq1_36⟩) hHeld ?_
          case yq1_36 => (intro W0 hSw; go_simp; try with_reducible rfl)
          try simp only [Act.put, List.setIfInBounds_toArray, List.set_cons_zero, List.set_cons_succ]
          refine wpAnyH_take (i := 35) (oi := ⟨(some 65), _, _, _, _, _⟩) (v := ?vq1_37) rfl (by kernel_rfl) (by kernel_rfl) (by kernel_rfl) (fun _ _ _ h => h) (Or.inl ⟨by rfl, ?yq1_37⟩) hHeld ?_
          case yq1_37 => (intro W0 hSw; go_simp; try with_reducible rfl)
          try simp only [Act.put, List.setIfInBounds_toArray, List.set_cons_zero, List.set_cons_succ]
          refine wpAnyH_ready (rs := [36]) (by kernel_rfl) (by simp) ?_
          refine AllReadyH.cons (i := 36) (o := ⟨none, _, _, _, _, _⟩) rfl (fun K hK => ?_) AllReadyH.nil
          refine step_set rfl 23 (.tmp 65) (.tmp 60) rfl Try.sizeU32 g n (by rfl) .u32 (p : Int) (by rfl) (u32v X) 48 hgn.out (by rw [u32v_len, HXL.out]; exact ln) wr (But.refl g wr).drew ?_
          intro w3 hg3 hb3
          refine hK.out _ _ (trivial) (fun hHeld => ?_)
          clear hK K
          try simp only [Act.put]
          refine wpAnyH_take (i := 38) (oi := ⟨(some 67), _, _, _, _, _⟩) (v := ?vq1_38) rfl (by kernel_rfl) (by kernel_rfl) (by kernel_rfl) (fun _ _ _ h => h) (Or.inl ⟨by rfl, ?yq1_38⟩) hHeld ?_
          case yq1_38 => (intro W0 hSw; go_simp; try with_reducible rfl)
          try simp only [Act.put, List.setIfInBounds_toArray, List.set_cons_zero, List.set_cons_succ]
          refine wpAnyH_ready (rs := [39]) (by kernel_rfl) (by simp) ?_
          refine AllReadyH.cons (i := 39) (o := ⟨none, _, _, _, _, _⟩) rfl (fun K hK => ?_) AllReadyH.nil
          refine step_set rfl 23 (.tmp 67) (.tmp 61) rfl Try.sizeU32 g j (by rfl) .u32 (q : Int) (by rfl) _ 48 hg3.out (by rw [List.length_set, u32v_len, HXL.out]; exact lj) wr hb3 ?_
          intro w4 hg4 hb4
          refine hK.out _ _ (trivial) (fun hHeld => ?_)
          clear hK K
          try simp only [Act.put]
          refine wpAnyH_take (i := 41) (oi := ⟨(some 69), _, _, _, _, _⟩) (v := ?vq1_39) rfl (by kernel_rfl) (by kernel_rfl) (by kernel_rfl) (fun _ _ _ h => h) (Or.inl ⟨by rfl, ?yq1_39⟩) hHeld ?_
          case yq1_39 => (intro W0 hSw; go_simp; try with_reducible rfl)
          try simp only [Act.put, List.setIfInBounds_toArray, List.set_cons_zero, List.set_cons_succ]
          refine wpAnyH_ready (rs := [42]) (by kernel_rfl) (by simp) ?_
          refine AllReadyH.cons (i := 42) (o := ⟨none, _, _, _, _, _⟩) rfl (fun K hK => ?_) AllReadyH.nil
          refine step_set rfl 23 (.tmp 69) (.tmp 62) rfl Try.sizeU32 g k (by rfl) .u32 (r : Int) (by rfl) _ 48 hg4.out (by rw [List.length_set, List.length_set, u32v_len, HXL.out]; exact lk) wr hb4 ?_
          intro w5 hg5 hb5
          refine hK.out _ _ (trivial) (fun hHeld => ?_)
          clear hK K
          try simp only [Act.put]
          refine wpAnyH_take (i := 44) (oi := ⟨(some 71), _, _, _, _, _⟩) (v := ?vq1_40) rfl (by kernel_rfl) (by kernel_rfl) (by kernel_rfl) (fun _ _ _ h => h) (Or.inl ⟨by rfl, ?yq1_40⟩) hHeld ?_
          case yq1_40 => (intro W0 hSw; go_simp; try with_reducible rfl)
          try simp only [Act.put, List.setIfInBounds_toArray, List.set_cons_zero, List.set_cons_succ]
          refine wpAnyH_ready (rs := [45]) (by kernel_rfl) (by simp) ?_
          refine AllReadyH.cons (i := 45) (o := ⟨none, _, _, _, _, _⟩) rfl (fun K hK => ?_) AllReadyH.nil
          refine step_set rfl 23 (.tmp 71) (.tmp 63) rfl Try.sizeU32 g m (by rfl) .u32 (s : Int) (by rfl) _ 48 hg5.out (by rw [List.length_set, List.length_set, List.length_set, u32v_len, HXL.out]; exact lm) wr hb5 ?_
          intro w6 hg6 hb6
          refine hK.out _ _ (trivial) (fun hHeld => ?_)
          clear hK K
          try simp only [Act.put]
          refine wpAnyH_done (by kernel_rfl) ?_ _
          have hg7 : Hid (w6.heap[g]? = some (.cells (u32v (half L t (n + 1))).toArray 48 (0, 0))) := by
            have h1 := hg6.out
            rw [u32v_set, u32v_set, u32v_set, u32v_set, ← HQ.out p q r s hqr.out, ← HH.out] at h1
            exact h1
          clear hg3 hg4 hg5 hg6 hb3 hb4 hb5 c0 c1 c2 c3
          go_wp2
          go_roundw
          case rel => exact ⟨n + 1, by omega, by go_num, hg7, hbn.trans hb6⟩
          case measure => simp [intOf]; omega
        · have HN := Lib.hid (show n = 4 by omega)
          go_wp2
          go_roundw
          case rel => exact ⟨t + 1, by omega, by go_num, by rw [mixN, ← HM.out]; have h1 := hgn.out; rw [HN.out] at h1; exact h1, hbn⟩
          case measure => simp [intOf]; omega
    · have HT := Lib.hid (show t = 2 by omega)
      go_wp2
      go_end0
      refine ⟨rfl, ?_, hbt⟩
      have h1 := hgt.out
      rw [HT.out, mixN_two] at h1
      exact h1
end Go.Proofs.Ytcdjpjljaoeakaa
