/-
  Contract of sha's spread: the words of a block and those that follow them. Conditions: the object lies in a block of its own.
-/
import Derived.Test.YtmgamjbifffchaaDoorShaM
import Derived.RegionTactic
import Derived.BigRegion
import Derived.BigQuiet
import Derived.Deep.QuietTactic
namespace Go.Proofs.YtmgamjbifffchaaDoor
open Go.RowKit

theorem u32v_len (l : List Nat) : (u32v l).length = l.length := by simp [u32v]
theorem u32v_at (l : List Nat) (k : Nat) : (u32v l)[k]? = l[k]?.map fun (x : Nat) => Value.int .u32 (x : Int) := by simp [u32v]
theorem u32v_set (l : List Nat) (k x : Nat) : (u32v l).set k (.int .u32 (x : Int)) = u32v (l.set k x) := by simp [u32v, List.map_set]
theorem u32v_one (l : List Nat) : ∀ u ∈ u32v l, u.oneCell' = true := by
  intro u hu
  obtain ⟨b, _, rfl⟩ := List.mem_map.1 hu
  rfl
/-- Words, and noughts up to 64. -/
def upto64 (l : List Nat) : List Nat := l ++ List.replicate (64 - l.length) 0
theorem upto64_len (l : List Nat) (h : l.length ≤ 64) : (upto64 l).length = 64 := by simp [upto64]; omega
theorem upto64_all (l : List Nat) (h : l.length = 64) : upto64 l = l := by simp [upto64, h]
theorem upto64_set (l : List Nat) (x : Nat) (h : l.length < 64) : (upto64 l).set l.length x = upto64 (l ++ [x]) := by
  obtain ⟨m, hm⟩ : ∃ m, 64 - l.length = m + 1 := ⟨63 - l.length, by omega⟩
  rw [upto64, upto64, List.set_append_right _ _ (Nat.le_refl _), Nat.sub_self, hm, List.replicate_succ, List.set_cons_zero, List.length_append, List.append_assoc]
  congr 3
  simp; omega
theorem upto64_at (l : List Nat) (k : Nat) (h : k < l.length) : (upto64 l)[k]? = l[k]? := by rw [upto64, List.getElem?_append_left h]

theorem cell_w64 {w : World} {g k x : Nat} {l : List Nat} (hg : w.heap[g]? = some (.cells (u32v l).toArray 53 (0, 0))) (hx : l[k]? = some x) : w.cell? ⟨g, k, none⟩ = some (.int .u32 (x : Int)) := by
  rw [cell_of_row _ _ _ _ _ _ hg]
  simp [u32v_at, hx]
theorem wget_at (l : List Nat) (k : Nat) (h : k ≤ l.length) (h0 : 0 < k) : (upto64 l)[l.length - k]? = some (wget l k) := by
  have hk : l.length - k < l.length := by omega
  rw [upto64_at l _ hk, wget, List.getD_eq_getElem?_getD, List.getElem?_eq_getElem hk]; rfl
theorem wget_lt (l : List Nat) (k : Nat) (h : small l) : wget l k < 4294967296 := getD_lt h (by decide) _

theorem sg0_int (x : Nat) (hx : x < 4294967296) : bits .xor .u32 (bits .xor .u32 ((rl x 25 : Nat) : Int) ((rl x 14 : Nat) : Int)) ((x : Int) / 8) = ((sg0 x : Nat) : Int) := by
  have h1 := rl_lt x 25 hx
  have h2 := rl_lt x 14 hx
  have e : (x : Int) / 8 = ((x / 8 : Nat) : Int) := by omega
  rw [e, u32_xor_nat _ _ h1 h2, u32_xor_nat _ _ (xor32 h1 h2) (by omega)]
  rfl
theorem sg1_int (x : Nat) (hx : x < 4294967296) : bits .xor .u32 (bits .xor .u32 ((rl x 15 : Nat) : Int) ((rl x 13 : Nat) : Int)) ((x : Int) / 1024) = ((sg1 x : Nat) : Int) := by
  have h1 := rl_lt x 15 hx
  have h2 := rl_lt x 13 hx
  have e : (x : Int) / 1024 = ((x / 1024 : Nat) : Int) := by omega
  rw [e, u32_xor_nat _ _ h1 h2, u32_xor_nat _ _ (xor32 h1 h2) (by omega)]
  rfl
theorem wnext_int (ws : List Nat) (h : small ws) : (((wget ws 16 : Nat) : Int) + bits .xor .u32 (bits .xor .u32 ((rl (wget ws 15) 25 : Nat) : Int) ((rl (wget ws 15) 14 : Nat) : Int)) (((wget ws 15 : Nat) : Int) / 8) + ((wget ws 7 : Nat) : Int) + bits .xor .u32 (bits .xor .u32 ((rl (wget ws 2) 15 : Nat) : Int) ((rl (wget ws 2) 13 : Nat) : Int)) (((wget ws 2 : Nat) : Int) / 1024)) % 4294967296 = ((wnext ws : Nat) : Int) := by
  rw [sg0_int _ (wget_lt ws 15 h), sg1_int _ (wget_lt ws 2 h), wnext]
  omega

set_option maxRecDepth 100000 in
theorem spread_any (w : World) (g : Nat) (s : St) (rest : List UInt8) (n : Nat) (ho : SObj w g s rest n) :
    Calls Tryd.prog 19 #[.pointer (some ⟨g, 0, none⟩)] w fun e w' => e = .returned (.agg (u32v (schedule rest)).toArray) ∧ Below w.heap.size w w' := by
  have hz := zero_w64
  have hgl := ho.lt
  go_enter Tryd.func19, Tryd.ntmps19
  go_wp2
  go_loopw [10] (fun i wr => ∃ k : Nat, k ≤ 16 ∧ i = .int .i64 (k : Int) ∧ Hid (wr.heap[w.heap.size + 1]? = some (.cells (u32v (upto64 (words k rest))).toArray 53 (0, 0))) ∧ Hid (wr.heap[w.heap.size]? = some (.cells (u32v (List.replicate 64 0)).toArray 53 (0, 0))) ∧ Below w.heap.size w wr) (fun i _ => 16 - (intOf i).toNat)
  case atStart => exact ⟨0, by omega, rfl, heap_alloc2_new _ _ _, heap_alloc2_old _ _ _, ((Below.refl _ _).alloc (Nat.le_refl _) _).alloc (by simp) _⟩
  case round =>
    obtain ⟨k, hk, rfl, hg1, hg0, hb⟩ := hrel
    by_cases hlt : k < 16
    · have hsz : w.heap.size + 1 < wr.heap.size := (Array.getElem?_eq_some_iff.1 hg1.out).1
      have hbt := (ho.below hgl hb).byt (B := wr.heap.size) (4 * k) 4 (by omega) (by omega)
      have hcut := cut_lh Tryd.underlying37 Tryd.sizeByte g 8 (4 * k) (4 * k + 4) (4 * (k : Int)) (4 * (k : Int) + 4) (by omega) (by omega) (by omega) (by omega) (by omega)
      rw [show 4 * k + 4 - 4 * k = 4 by omega] at hcut
      have hx : (upto64 (words k rest))[k]? = some 0 := by
        rw [upto64, List.getElem?_append_right (by rw [words_len]; exact Nat.le_refl _), words_len, List.getElem?_replicate, if_pos (by omega)]
      have hc := cell_w64 hg1.out hx
      have hf : wr.frozen? ⟨w.heap.size + 1, k, none⟩ = false := frozen_of_row _ _ _ _ _ hg1.out
      clear hx
      go_wp2_with fail
      refine (fromBig_ok _ _ 4 _ _ hbt (by have := ho.2; simp; omega) (by omega)).mono ?_
      rintro e w' ⟨rfl, rfl⟩
      clear hbt hcut
      go_wp2
      go_roundw
      case rel =>
        have hbn := bn4_lt (rest.drop (4 * k))
        have e : ((bn ((rest.drop (4 * k)).take 4) : Nat) : Int) % 4294967296 = ((bn ((rest.drop (4 * k)).take 4) : Nat) : Int) := by omega
        refine ⟨k + 1, by omega, by go_num, ?_, ?_, hb.setCell (by simp) _⟩
        · have h1 := heap_setCell_same wr (w.heap.size + 1) k _ _ (.int .u32 ((bn ((rest.drop (4 * k)).take 4) : Nat) : Int)) hg1.out
          rw [e]
          refine h1.trans ?_
          have h2 := upto64_set (words k rest) (bn ((rest.drop (4 * k)).take 4)) (by rw [words_len]; omega)
          rw [words_len] at h2
          rw [words_snoc, ← h2, ← u32v_set]
          simp
        · exact (heap_setCell_other _ _ _ _ (by simp)).trans hg0.out
      case measure => simp [intOf]; omega
    · have HK := Lib.hid (show k = 16 by omega)
      go_wp2
      go_loopw [7] (fun i wr => ∃ (ws : List Nat) (k : Nat), ws.length = k ∧ 16 ≤ k ∧ k ≤ 64 ∧ i = .int .i64 (k : Int) ∧ small ws ∧ Hid (sched (64 - k) ws = schedule rest) ∧ Hid (wr.heap[w.heap.size + 1]? = some (.cells (u32v (upto64 ws)).toArray 53 (0, 0))) ∧ Hid (wr.heap[w.heap.size]? = some (.cells (u32v (List.replicate 64 0)).toArray 53 (0, 0))) ∧ Below w.heap.size w wr) (fun i _ => 64 - (intOf i).toNat)
      case atStart => exact ⟨words k rest, 16, by rw [words_len]; exact HK.out, by omega, by omega, rfl, words_small _ _, by rw [HK.out]; exact rfl, hg1, hg0, hb⟩
      case round =>
        clear hg1 hg0 hb
        obtain ⟨k0, rfl⟩ : ∃ k0, k = k0 := ⟨_, rfl⟩
        obtain ⟨ws, k, hwl, hk1, hk2, rfl, hsm, hsc, hg1, hg0, hb⟩ := hrel
        have HW := Lib.hid hwl
        by_cases hlt : k < 64
        · have h15 := cell_w64 hg1.out (wget_at ws 15 (by omega) (by omega))
          have h2 := cell_w64 hg1.out (wget_at ws 2 (by omega) (by omega))
          have h16 := cell_w64 hg1.out (wget_at ws 16 (by omega) (by omega))
          have h7 := cell_w64 hg1.out (wget_at ws 7 (by omega) (by omega))
          rw [hwl] at h15 h2 h16 h7
          have b15 := wget_lt ws 15 hsm
          have b2 := wget_lt ws 2 hsm
          have b16 := wget_lt ws 16 hsm
          have b7 := wget_lt ws 7 hsm
          have hx : (upto64 ws)[k]? = some 0 := by
            rw [upto64, List.getElem?_append_right (by omega), List.getElem?_replicate, if_pos (by omega)]
          have hc := cell_w64 hg1.out hx
          have hf : wr.frozen? ⟨w.heap.size + 1, k, none⟩ = false := frozen_of_row _ _ _ _ _ hg1.out
          clear hx hwl
          go_wp2_with fail
          go_region
          go_wp2_with fail
          refine (rot_any _ _ 25 _ b15 (by decide) (by kernel_rfl)).mono ?_
          rintro e w' ⟨rfl, rfl⟩
          go_wp2_with fail
          refine (rot_any _ _ 14 _ b15 (by decide) (by kernel_rfl)).mono ?_
          rintro e w' ⟨rfl, rfl⟩
          go_wp2_with fail
          refine (rot_any _ _ 15 _ b2 (by decide) (by kernel_rfl)).mono ?_
          rintro e w' ⟨rfl, rfl⟩
          go_wp2_with fail
          refine (rot_any _ _ 13 _ b2 (by decide) (by kernel_rfl)).mono ?_
          rintro e w' ⟨rfl, rfl⟩
          go_wp2
          go_region
          go_wp2
          go_roundw
          case rel =>
            refine ⟨ws ++ [wnext ws], k + 1, by rw [List.length_append, HW.out]; rfl, by omega, by omega, by go_num, small_app hsm (small_one (wnext_lt ws)), ?_, ?_, ?_, ((hb.setCell (by simp) _).drew).drew⟩
            · have h1 := hsc.out
              obtain ⟨m, hm⟩ : ∃ m, 64 - k = m + 1 := ⟨63 - k, by omega⟩
              rw [hm, sched] at h1
              rw [show 64 - (k + 1) = m by omega]
              exact h1
            · rw [wnext_int ws hsm]
              have h1 := heap_setCell_same wr (w.heap.size + 1) k _ _ (.int .u32 ((wnext ws : Nat) : Int)) hg1.out
              refine h1.trans ?_
              have h2 := upto64_set ws (wnext ws) (by rw [HW.out]; exact hlt)
              rw [HW.out] at h2
              rw [← h2, ← u32v_set]
              simp
            · exact (heap_setCell_other _ _ _ _ (by simp)).trans hg0.out
          case measure => simp [intOf]; omega
        · obtain rfl : k = 64 := by omega
          have hws : upto64 ws = schedule rest := by rw [upto64_all ws HW.out]; exact hsc.out
          have h64 : (u32v (upto64 ws)).toArray.size = 64 := by simp [u32v_len, upto64_len ws (by rw [HW.out]; exact Nat.le_refl _)]
          have HWS := Lib.hid hws
          have H64 := Lib.hid h64
          clear hws h64
          go_wp2_with (first
            | (with_reducible refine wpList_load_row rfl 53 (.tmp 3) rfl (w.heap.size + 1) rfl 53 (u32v (upto64 ws)).toArray (0, 0) _ hg1.out Tryd.underlying53 rfl (by rw [H64.out]; kernel_rfl) ?_)
            | (with_reducible refine wpList_store_row rfl 53 (.tmp 2) (.tmp 74) rfl w.heap.size (u32v (upto64 ws)).toArray rfl rfl 53 _ hg0.out (by rw [H64.out]; kernel_rfl) (by rw [H64.out]; simp [u32v_len]) (all_oneCell_toArray (u32v_one _)) ?_))
          refine bodyPost_ret (v := .agg (u32v (schedule rest)).toArray) (results_cell_row Tryd.results19 _ _ w.heap.size 53 _ (0, 0) _ rfl (by rw [← HWS.out]; exact setRow_heap _ _ _ _ _ _ hg0.out) Tryd.underlying53 rfl (by rw [← HWS.out, H64.out]; kernel_rfl)) rfl ⟨rfl, below_setRow hb (Nat.le_refl _) _⟩
end Go.Proofs.YtmgamjbifffchaaDoor
