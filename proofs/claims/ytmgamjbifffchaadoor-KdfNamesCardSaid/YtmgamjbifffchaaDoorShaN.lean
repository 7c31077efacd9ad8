/-
  Contract of sha.New: an object that has taken nothing. Conditions: the tables lie as the program lays them.
-/
import Derived.Test.YtmgamjbifffchaaDoorShaM
import Derived.RegionTactic
import Derived.BigRegion
namespace Go.Proofs.YtmgamjbifffchaaDoor
open Go.RowKit

def newc : Nat → List Value
  | 0 => zero73
  | k + 1 => (newc k).set k (.int .u32 ((startAt k / 4294967296 : Nat) : Int))
theorem newc_len : ∀ k, (newc k).length = 73
  | 0 => rfl
  | k + 1 => by simp [newc, newc_len k]
theorem newc_end : newc 8 = sumc st0 (List.replicate 64 0) 0 := by rfl
theorem newc_at : ∀ (k j : Nat), k ≤ j → j < 8 → (newc k)[j]? = some (.int .u32 0)
  | 0, j, _, h => by rw [newc, zero73, List.getElem?_append_left (by simpa using h), List.getElem?_replicate, if_pos h]
  | k + 1, j, h1, h2 => by rw [newc, List.getElem?_set_ne (by omega)]; exact newc_at k j (by omega) h2
theorem new_any (w : World) (hl : Laid w) :
    Calls Tryd.prog 11 #[] w fun e w' => ∃ g, e = .returned (.pointer (some ⟨g, 0, none⟩)) ∧ w.heap.size ≤ g ∧ SumAt w' g [] ∧ Below w.heap.size w w' := by
  have hz := zero_sum
  go_enter Tryd.func11, Tryd.ntmps11
  go_wp2
  go_loopw [2, 5] (fun _ i wr => ∃ k : Nat, k ≤ 8 ∧ i = .int .i64 (k : Int) ∧ Hid (wr.heap[w.heap.size]? = some (.cells (newc k).toArray 48 (0, 0))) ∧ Below w.heap.size w wr) (fun _ i _ => 8 - (intOf i).toNat)
  case atStart => exact ⟨0, by omega, rfl, heap_alloc_new _ _, (Below.refl _ _).alloc (Nat.le_refl _) _⟩
  case round =>
    obtain ⟨k, hk, rfl, hg, hb⟩ := hrel
    by_cases hlt : k < 8
    · have hc : wr.cell? ⟨w.heap.size, k, none⟩ = some (.int .u32 0) := by rw [cell_of_row _ _ _ _ _ _ hg.out]; simpa using newc_at k k (Nat.le_refl _) hlt
      have hf : wr.frozen? ⟨w.heap.size, k, none⟩ = false := frozen_of_row _ _ _ _ _ hg.out
      have hs := (hl.below hl.2.2 hb).start k hlt
      go_wp2
      go_region
      go_wp2
      go_roundw
      case rel =>
        refine ⟨k + 1, by omega, by go_num, ?_, (hb.setCell (Nat.le_refl _) _).drew⟩
        have h1 := heap_setCell_same wr w.heap.size k _ _ (.int .u32 (((startAt k : Nat) : Int) / 4294967296 % 4294967296)) hg.out
        have h2 := startAt_lt k
        have e : ((startAt k : Nat) : Int) / 4294967296 % 4294967296 = ((startAt k / 4294967296 : Nat) : Int) := by omega
        refine h1.trans ?_
        rw [e, newc]
        simp
      case measure => simp [intOf]; omega
    · obtain rfl : k = 8 := by omega
      go_wp2
      go_ret
      refine ⟨_, rfl, Nat.le_refl _, ⟨List.replicate 64 0, ⟨?_, by simp⟩, by simp⟩, hb⟩
      have h1 := hg.out
      rw [newc_end] at h1
      exact h1
end Go.Proofs.YtmgamjbifffchaaDoor
