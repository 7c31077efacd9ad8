/-
  Contracts of sha's ending and Word, and of sha.Of: the sum of all parts. Conditions: fewer than 2^59 bytes in all; the tables lie as the program lays them.
-/
import Derived.Test.YtmgamjbifffchaaDoorShaD
namespace Go.Proofs.YtmgamjbifffchaaDoor
open Go.RowKit

theorem wd8 : wd 8 = 8 := by decide
theorem wd4 : wd 4 = 4 := by decide

theorem ending_big (n G : Nat) (w w1 : World) (hg1 : w1.heap[w.heap.size]? = some (.cells (bv (List.replicate G 0)).toArray 5 (0, 0))) (hb1 : Below w.heap.size w w1) (h1 : 1 ≤ G) (h2 : G ≤ 120) (hn : n ≤ 1152921504606846976) :
    Calls Tryd.prog 18 #[.slice (some ⟨w.heap.size, 0, none⟩) G G, .int .u64 ((n : Int) * 8), .int .i64 8] (w1.setCell ⟨w.heap.size, 0, none⟩ (.int .u8 128)) fun e w' => ∃ A c, e = .returned (.slice A (G + 8) c) ∧ Res w' w.heap.size 5 A (G + 8) c ((128 :: List.replicate (G - 1) 0) ++ be (n * 8 % 18446744073709551616) 8) ∧ Below w.heap.size w w' := by
  obtain ⟨m, rfl⟩ : ∃ m, G = m + 1 := ⟨G - 1, by omega⟩
  have hlt : w.heap.size < w1.heap.size := (Array.getElem?_eq_some_iff.1 hg1).1
  have hrow := heap_setCell_same w1 w.heap.size 0 _ _ (.int .u8 128) hg1
  have hb2 : Below w.heap.size w (w1.setCell ⟨w.heap.size, 0, none⟩ (.int .u8 128)) := hb1.setCell (Nat.le_refl _) _
  have hbyt : Byt (w1.setCell ⟨w.heap.size, 0, none⟩ (.int .u8 128)) (w1.setCell ⟨w.heap.size, 0, none⟩ (.int .u8 128)).heap.size (some ⟨w.heap.size, 0, none⟩) (128 :: List.replicate m 0) := by
    refine .inr ⟨w.heap.size, 0, rfl, by simp [World.setCell]; exact hlt, fun j b hj => ?_⟩
    rw [Nat.zero_add, cell_of_row _ _ _ _ _ _ hrow]
    have h3 := bv_at (128 :: List.replicate m 0) j
    rw [hj] at h3
    simpa [bv, List.replicate_succ] using h3
  have hbig := big_any (some ⟨w.heap.size, 0, none⟩) (128 :: List.replicate m 0) (m + 1) (m + 1) (n * 8) 8 _ hbyt (by simp) (by omega) (by omega)
  rw [show ((n * 8 : Nat) : Int) = (n : Int) * 8 by omega, wd8] at hbig
  refine hbig.mono ?_
  rintro e w2 ⟨A, c, rfl, hr, hb⟩
  refine ⟨A, c, rfl, ?_, hb2.trans (hb.mono (by simp [World.setCell]; omega))⟩
  rw [Nat.mod_eq_of_lt (by omega), Nat.add_sub_cancel]
  exact hr.base_le (by simp [World.setCell]; omega)

theorem ending_any (n : Nat) (w : World) (hn : n ≤ 1152921504606846976) :
    Calls Tryd.prog 17 #[.int .i64 (n : Int), .int .i64 64, .int .i64 8] w fun e w' => ∃ A c, e = .returned (.slice A (gap n + 8) c) ∧ Res w' w.heap.size 5 A (gap n + 8) c (endingOf n) ∧ Below w.heap.size w w' := by
  obtain ⟨i0, hi, hz0, hz1, hz2⟩ := info_parts Tryd.infoByte
  have hgp := gap_pos n
  by_cases hs : 64 - n % 64 < 9
  · have hgap : gap n = 128 - n % 64 - 8 := by unfold gap; rw [if_pos hs]
    obtain ⟨w1, hrun, hg1, hb1, hs1⟩ := make_bytes (P := Tryd.prog) Tryd.underlying24 hi hz0 hz1 hz2 (gap n) (gap n) (64 - (n : Int) % 64 + 64 - 8) (64 - (n : Int) % 64 + 64 - 8) (by omega) (by omega) (by omega) (by omega) w
    generalize hG : gap n = G at *
    have HG := Lib.hid hG
    clear hi hz0 hz1 hz2 hgap hG
    have d1 : (64 - (n : Int) % 64 < 9) := by omega
    obtain ⟨hgp1, hgp2⟩ := hgp
    have hc0 : w1.cell? ⟨w.heap.size, 0, none⟩ = some (.int .u8 0) := by
      rw [cell_of_row _ _ _ _ _ _ hg1.out]
      obtain ⟨m, rfl⟩ : ∃ m, G = m + 1 := ⟨G - 1, by omega⟩
      rfl
    have hf0 : w1.frozen? ⟨w.heap.size, 0, none⟩ = false := frozen_of_row _ _ _ _ _ hg1.out
    have hbig := ending_big n G w w1 hg1.out hb1.out hgp1 hgp2 hn
    go_enter Tryd.func17, Tryd.ntmps17
    go_wp2_with fail
    refine hbig.mono ?_
    rintro e w2 ⟨A, c, rfl, hr, hb⟩
    clear hbig
    go_wp2
    go_ret
    refine ⟨A, c, rfl, ?_, hb⟩
    rw [endingOf, HG.out]
    exact hr
  · have hgap : gap n = 64 - n % 64 - 8 := by unfold gap; rw [if_neg hs]
    obtain ⟨w1, hrun, hg1, hb1, hs1⟩ := make_bytes (P := Tryd.prog) Tryd.underlying24 hi hz0 hz1 hz2 (gap n) (gap n) (64 - (n : Int) % 64 - 8) (64 - (n : Int) % 64 - 8) (by omega) (by omega) (by omega) (by omega) w
    generalize hG : gap n = G at *
    have HG := Lib.hid hG
    clear hi hz0 hz1 hz2 hgap hG
    have d1 : ¬ (64 - (n : Int) % 64 < 9) := by omega
    obtain ⟨hgp1, hgp2⟩ := hgp
    have hc0 : w1.cell? ⟨w.heap.size, 0, none⟩ = some (.int .u8 0) := by
      rw [cell_of_row _ _ _ _ _ _ hg1.out]
      obtain ⟨m, rfl⟩ : ∃ m, G = m + 1 := ⟨G - 1, by omega⟩
      rfl
    have hf0 : w1.frozen? ⟨w.heap.size, 0, none⟩ = false := frozen_of_row _ _ _ _ _ hg1.out
    have hbig := ending_big n G w w1 hg1.out hb1.out hgp1 hgp2 hn
    go_enter Tryd.func17, Tryd.ntmps17
    go_wp2_with fail
    refine hbig.mono ?_
    rintro e w2 ⟨A, c, rfl, hr, hb⟩
    clear hbig
    go_wp2
    go_ret
    refine ⟨A, c, rfl, ?_, hb⟩
    rw [endingOf, HG.out]
    exact hr
end Go.Proofs.YtmgamjbifffchaaDoor
