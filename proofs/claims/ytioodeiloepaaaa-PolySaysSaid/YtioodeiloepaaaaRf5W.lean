/-
  Contract of the document's own Tag. Conditions: a key of 32 bytes; fewer than 2^40 bytes.
-/
import Derived.Test.YtioodeiloepaaaaRf5P
namespace Go.Proofs.Ytioodeiloepaaaa
open Go.RowKit

theorem built_half : Try.prog.built 23 [] = some (bv z16).toArray := by kernel_rfl
set_option maxRecDepth 100000 in
set_option maxHeartbeats 4000000 in
theorem rtag_any (w : World) (key : List UInt8) (hk : key.length = 32) (A : Option Addr) (b : List UInt8) (n c : Nat) (hb : Byt w w.heap.size A b) (hl : b.length = n) (hn : n ≤ 1099511627776) :
    Calls Try.prog 12 #[.agg (bv key).toArray, .slice A n c] w fun e w' => e = .returned (.agg (bv (tagOf key b)).toArray) ∧ Below w.heap.size w w' := by
  have hz16 := zero_b16
  have hzn := zero_w17
  obtain ⟨W, hW, hgK, hgZ, hbW, hsW⟩ := pair_new w (bv key).toArray (bv z16).toArray 26 23
  have HW := Lib.hid hW
  have HK := Lib.hid hk
  have HL := Lib.hid hl
  have HZ16 := Lib.hid (show (bv z16).toArray.size = 16 from rfl)
  have HZS := Lib.hid (show (u32v z17).toArray.size = 17 from rfl)
  have hs1 : w.heap.size + 1 < W.heap.size := by have := hsW.out; omega
  have hbtW : Byt W w.heap.size A b := hb.below hbW
  clear hW hk hl hb
  go_enter Try.func12, Try.ntmps12
  go_upto_region 1 with fail
  rw [HW.out]
  go_wp2_with (first
    | (with_reducible refine wpList_build_to rfl 23 _ rfl [] (by rfl) _ built_half ?_)
    | ((with_reducible refine wpList_store_row rfl 23 (.tmp 5) (.tmp 18) rfl W.heap.size (bv z16).toArray rfl rfl 23 _ (heap_alloc_new _ _) (by rw [HZ16.out]; kernel_rfl) (by rw [HZ16.out]) (all_oneCell_toArray (bv_one _)) ?_); rw [World.setRow_alloc_new]))
  have g1 := Lib.hid (heap_alloc_new W (.cells (bv z16).toArray 23))
  have hb1 : Below W.heap.size W (W.alloc (.cells (bv z16).toArray 23)) := (Below.refl _ _).alloc (Nat.le_refl _) _
  have l1 : W.heap.size < (W.alloc (.cells (bv z16).toArray 23)).heap.size := by simp
  generalize W.alloc (.cells (bv z16).toArray 23) = w1 at *
  have hgK1 : Hid (w1.heap[w.heap.size]? = some (.cells (bv key).toArray 26 (0, 0))) := (hb1.block _ (by omega)).trans hgK.out
  have hgZ1 : Hid (w1.heap[w.heap.size + 1]? = some (.cells (bv z16).toArray 23 (0, 0))) := (hb1.block _ hs1).trans hgZ.out
  have hbt1 : Byt w1 w.heap.size A b := hbtW.keep fun p hp => hb1.cell (by omega)
  have hbw1 := below_next hbW hbW.size hb1
  obtain ⟨F, hF⟩ : ∃ F, F = W.heap.size := ⟨_, rfl⟩
  rw [← hF] at g1 l1 hs1 ⊢
  clear hF hgK hgZ hbtW hbW hb1
  have hc1 := cut_all Try.underlying23 Try.sizeByte F 0 (by decide)
  have hc2 := cut_lh Try.underlying26 Try.sizeByte w.heap.size 0 0 16 0 16 rfl rfl (by decide) (by decide) (by decide)
  have hbk := byt_mid hgK1.out 0 16
  rw [List.drop_zero] at hbk
  have hkl := Lib.hid (show (key.take 16).length = 16 by simp [HK.out])
  go_region_law ((refine step_copy_but rfl (.tmp 19) (.tmp 20) 27 rfl 5 Try.underlying27 Try.sizeByte F 0 16 16 16 32 (some ⟨w.heap.size, 0, none⟩) (by rfl) (by rfl) (bv z16) 23 g1.out (key.take 16) w1.heap.size hbk hkl.out (by decide) (by decide) w1 (But.refl F w1).drew ?_; intro w2 hg2 hb2))
  have g2 : Hid (w2.heap[F]? = some (.cells (bv (key.take 16)).toArray 23 (0, 0))) := by
    have h1 := hg2.out
    rw [List.take_of_length_le (show (key.take 16).length ≤ 16 by rw [hkl.out]; exact Nat.le_refl _), splice_all _ _ (by rw [hkl.out]; rfl)] at h1
    exact h1
  have hgK2 : Hid (w2.heap[w.heap.size]? = some (.cells (bv key).toArray 26 (0, 0))) := (hb2.block _ (by omega) (by intro e; injection e; omega)).trans hgK1.out
  have hgZ2 : Hid (w2.heap[w.heap.size + 1]? = some (.cells (bv z16).toArray 23 (0, 0))) := (hb2.block _ (by omega) (by intro e; injection e; omega)).trans hgZ1.out
  have hbt2 : Byt w2 w.heap.size A b := hbt1.but hb2 (by omega) (by omega)
  have hbw2 : Below w.heap.size w w2 := But.below hbw1 hb2 (by omega) hbw1.size
  have l2 : F < w2.heap.size := (Array.getElem?_eq_some_iff.1 g2.out).1
  have HRS := Lib.hid (show (bv (key.take 16)).toArray.size = 16 by simp [bv_len, hkl.out])
  have hclamp := refClamp_any w2 (key.take 16) hkl.out
  obtain ⟨cl, hcl⟩ : ∃ cl, cl = clampOf (key.take 16) := ⟨_, rfl⟩
  have HR := vlt (show rOf key = ln cl by rw [hcl]; rfl)
  have hcll := Lib.hid (show cl.length = 16 by rw [hcl, clampOf_len]; exact hkl.out)
  rw [← hcl] at hclamp
  have HCS := Lib.hid (show (bv cl).toArray.size = 16 by simp [bv_len, hcll.out])
  clear hc1 hc2 hbk hgK1 hgZ1 hbt1 hbw1 hb2 hg2 g1 l1 hcl hkl
  obtain ⟨k0, hk0⟩ : ∃ k0, k0 = key.take 16 := ⟨_, rfl⟩
  rw [← hk0] at hclamp g2 HRS
  clear hk0
  go_wp2_with (with_reducible refine wpList_load_row rfl 23 (.tmp 5) rfl F rfl 23 (bv k0).toArray (0, 0) _ g2.out Try.underlying23 rfl (by rw [HRS.out]; kernel_rfl) ?_)
  refine hclamp.mono ?_
  rintro e w3 ⟨rfl, hb3⟩
  have hgK3 : Hid (w3.heap[w.heap.size]? = some (.cells (bv key).toArray 26 (0, 0))) := (hb3.block _ (by omega)).trans hgK2.out
  have hgZ3 : Hid (w3.heap[w.heap.size + 1]? = some (.cells (bv z16).toArray 23 (0, 0))) := (hb3.block _ (by omega)).trans hgZ2.out
  have hbt3 : Byt w3 w.heap.size A b := hbt2.keep fun p hp => hb3.cell (by omega)
  have hbw3 := below_next hbw2 hbw2.size hb3
  have l3 : w.heap.size + 1 < w3.heap.size := by have := hb3.size; omega
  clear hclamp g2 hgK2 hgZ2 hbt2 hbw2 hb3 HRS
  go_upto_region 4 with ((with_reducible refine wpList_store_row rfl 23 (.tmp 6) (.tmp 23) rfl w3.heap.size (bv cl).toArray rfl rfl 23 _ (heap_alloc_new _ _) (by rw [HCS.out]; kernel_rfl) (by rw [HCS.out]; exact HZ16.out) (all_oneCell_toArray (bv_one _)) ?_); rw [World.setRow_alloc_new])
  have gc := Lib.hid (heap_alloc_new w3 (.cells (bv cl).toArray 23))
  have hb4 : Below w3.heap.size w3 (w3.alloc (.cells (bv cl).toArray 23)) := (Below.refl _ _).alloc (Nat.le_refl _) _
  have l4 : w3.heap.size < (w3.alloc (.cells (bv cl).toArray 23)).heap.size := by simp
  generalize w3.alloc (.cells (bv cl).toArray 23) = w4 at *
  have hgK4 : Hid (w4.heap[w.heap.size]? = some (.cells (bv key).toArray 26 (0, 0))) := (hb4.block _ (by omega)).trans hgK3.out
  have hgZ4 : Hid (w4.heap[w.heap.size + 1]? = some (.cells (bv z16).toArray 23 (0, 0))) := (hb4.block _ (by omega)).trans hgZ3.out
  have hbt4 : Byt w4 w.heap.size A b := hbt3.keep fun p hp => hb4.cell (by omega)
  have hbw4 := below_next hbw3 hbw3.size hb4
  obtain ⟨C, hC⟩ : ∃ C, C = w3.heap.size := ⟨_, rfl⟩
  have hwC : w.heap.size + 1 < C := by omega
  rw [← hC] at gc l4 ⊢
  clear hC hgK3 hgZ3 hbt3 hbw3 hb4 l2 hs1
  go_upto_region 5 with fail
  have hgr0 : Hid ((w4.alloc (.cells (u32v z17).toArray 50)).heap[w4.heap.size]? = some (.cells (u32v (uptoW 17 (natsOf (cl.take 0)))).toArray 50 (0, 0))) := heap_alloc_new _ _
  have hb5 : Below w4.heap.size w4 (w4.alloc (.cells (u32v z17).toArray 50)) := (Below.refl _ _).alloc (Nat.le_refl _) _
  have l5 : w4.heap.size < (w4.alloc (.cells (u32v z17).toArray 50)).heap.size := by simp
  generalize w4.alloc (.cells (u32v z17).toArray 50) = w5 at *
  have gc5 : Hid (w5.heap[C]? = some (.cells (bv cl).toArray 23 (0, 0))) := (hb5.block _ l4).trans gc.out
  have hgK5 : Hid (w5.heap[w.heap.size]? = some (.cells (bv key).toArray 26 (0, 0))) := (hb5.block _ (by omega)).trans hgK4.out
  have hgZ5 : Hid (w5.heap[w.heap.size + 1]? = some (.cells (bv z16).toArray 23 (0, 0))) := (hb5.block _ (by omega)).trans hgZ4.out
  have hbt5 : Byt w5 w.heap.size A b := hbt4.keep fun p hp => hb5.cell (by omega)
  have hbw5 := below_next hbw4 hbw4.size hb5
  obtain ⟨P, hP⟩ : ∃ P, P = w4.heap.size := ⟨_, rfl⟩
  have hCP : C < P := by omega
  rw [← hP] at hgr0 l5 ⊢
  clear hP gc hgK4 hgZ4 hbt4 hbw4 hb5 l4 l3
  go_wp2_with fail
  go_loopw [8] (fun i wr => ∃ k : Nat, k ≤ 16 ∧ i = .int .i64 (k : Int) ∧ Hid (wr.heap[P]? = some (.cells (u32v (uptoW 17 (natsOf (cl.take k)))).toArray 50 (0, 0))) ∧ But P w5 wr) (fun i _ => 16 - (intOf i).toNat)
  case atStart => exact ⟨0, by omega, rfl, hgr0, But.refl _ _⟩
  case round =>
    clear hgr0
    obtain ⟨k, hk, rfl, hg, hbt⟩ := hrel
    by_cases hlt : k < 16
    · have hi16 : (k : Int) < 16 := by omega
      have hi17 : (k : Int) < 17 := by omega
      have gcr : Hid (wr.heap[C]? = some (.cells (bv cl).toArray 23 (0, 0))) := (hbt.block _ (by omega) (by intro e; injection e; omega)).trans gc5.out
      have c0 := byteAt_cell gcr.out k (by rw [hcll.out]; exact hlt)
      have hlen : (uptoW 17 (natsOf (cl.take k))).length = 17 := uptoW_len 17 _ (by rw [natsOf_len, List.length_take]; omega)
      have c1 := word_at hg.out k (by rw [hlen]; omega)
      have f0 : wr.frozen? ⟨P, k, none⟩ = false := frozen_of_row _ _ _ _ _ hg.out
      have hset := world_set_cell hg.out k (.int .u32 (((byteAt cl k).toNat : Nat) : Int))
      rw [u32v_set, fill_nats cl k (byteAt cl k) (by simp [byteAt, List.getElem?_eq_getElem (show k < cl.length by rw [hcll.out]; exact hlt)]) (by rw [hcll.out]; exact Nat.le_refl _)] at hset
      have hb2 := hbt.set (i := k) (.int .u32 (((byteAt cl k).toNat : Nat) : Int))
      have lx := (byteAt cl k).toNat_lt
      clear hlen gcr
      generalize (byteAt cl k).toNat = x at *
      generalize natAt (uptoW 17 (natsOf (cl.take k))) k = z at *
      go_wp2
      exact ⟨⟨k + 1, by omega, by go_num, hset, hb2⟩, by simp [intOf]; omega⟩
    · obtain ⟨rr, hrr⟩ : ∃ rr, rr = uptoW 17 (natsOf cl) := ⟨_, rfl⟩
      have hgr : Hid (wr.heap[P]? = some (.cells (u32v rr).toArray 50 (0, 0))) := by
        have h1 := hg.out
        rw [List.take_of_length_le (by rw [hcll.out]; omega), ← hrr] at h1
        exact h1
      have HRR := vlt (show rr.length = 17 ∧ (∀ x ∈ rr, x < 256) ∧ lvN rr = rOf key by
        refine ⟨by rw [hrr]; exact uptoW_len 17 _ (by rw [natsOf_len, hcll.out]; decide), by rw [hrr]; exact upto_lt 17 _ (nats_lt _), by rw [hrr, lvN_upto, lvN_nats, HR.out]⟩)
      have HRS := Lib.hid (show (u32v rr).toArray.size = 17 by simp [u32v_len, HRR.out.1])
      have hgK6 : Hid (wr.heap[w.heap.size]? = some (.cells (bv key).toArray 26 (0, 0))) := (hbt.block _ (by omega) (by intro e; injection e; omega)).trans hgK5.out
      have hgZ6 : Hid (wr.heap[w.heap.size + 1]? = some (.cells (bv z16).toArray 23 (0, 0))) := (hbt.block _ (by omega) (by intro e; injection e; omega)).trans hgZ5.out
      have hbt6 : Byt wr w.heap.size A b := hbt5.but hbt (by omega) (by omega)
      have hbw6 : Below w.heap.size w wr := But.below hbw5 hbt (by omega) hbw5.size
      have l6 : P < wr.heap.size := (Array.getElem?_eq_some_iff.1 hgr.out).1
      have hi16 : ¬ (k : Int) < 16 := by omega
      clear hrr hg hgK5 hgZ5 hbt5 hbw5 hbt gc5 l5 HR HCS hcll
      go_wp2_with fail
      have hgH0 : Hid ((wr.alloc (.cells (u32v z17).toArray 50)).heap[wr.heap.size]? = some (.cells (u32v z17).toArray 50 (0, 0))) := heap_alloc_new _ _
      have hb7 : Below wr.heap.size wr (wr.alloc (.cells (u32v z17).toArray 50)) := (Below.refl _ _).alloc (Nat.le_refl _) _
      have l7 : wr.heap.size < (wr.alloc (.cells (u32v z17).toArray 50)).heap.size := by simp
      generalize wr.alloc (.cells (u32v z17).toArray 50) = V at *
      have hgP7 : Hid (V.heap[P]? = some (.cells (u32v rr).toArray 50 (0, 0))) := (hb7.block _ l6).trans hgr.out
      have hgK7 : Hid (V.heap[w.heap.size]? = some (.cells (bv key).toArray 26 (0, 0))) := (hb7.block _ (by omega)).trans hgK6.out
      have hgZ7 : Hid (V.heap[w.heap.size + 1]? = some (.cells (bv z16).toArray 23 (0, 0))) := (hb7.block _ (by omega)).trans hgZ6.out
      have hbt7 : Byt V w.heap.size A b := hbt6.keep fun p hp => hb7.cell (by omega)
      have hbw7 := below_next hbw6 hbw6.size hb7
      obtain ⟨H, hH⟩ : ∃ H, H = wr.heap.size := ⟨_, rfl⟩
      have hPH : P < H := by omega
      rw [← hH] at hgH0 l7 ⊢
      clear hH hgr hgK6 hgZ6 hbt6 hbw6 hb7 l6
      go_loopw [10] (fun at_ wr => ∃ (k : Nat) (X : List Nat), k ≤ (n + 15) / 16 ∧ at_ = .int .i64 (16 * (k : Int)) ∧ Hid (wr.heap[H]? = some (.cells (u32v X).toArray 50 (0, 0))) ∧ Vlt (X.length = 17 ∧ (∀ x ∈ X, x < 256) ∧ lvN X % PP = accR (rOf key) b k) ∧ But H V wr) (fun i _ => n + 16 - (intOf i).toNat)
      case atStart => exact ⟨0, z17, by omega, rfl, hgH0, vlt ⟨rfl, by decide, rfl⟩, But.refl _ _⟩
      case round =>
        clear hgH0
        obtain ⟨k, X, hk, rfl, hgX, HX, hbt⟩ := hrel
        obtain ⟨Y0, hY0⟩ : ∃ Y0, Y0 = wr := ⟨_, rfl⟩
        subst hY0
        have hYs := hbt.size
        have hHY : H < Y0.heap.size := by omega
        have hgPY : Hid (Y0.heap[P]? = some (.cells (u32v rr).toArray 50 (0, 0))) := (hbt.block _ (by omega) (by intro e; injection e; omega)).trans hgP7.out
        have hbtY : Byt Y0 w.heap.size A b := hbt7.but hbt (by omega) (by omega)
        by_cases hlt : 16 * k < n
        · have hli : 16 * (k : Int) < (n : Int) := by omega
          obtain ⟨blk, hblk⟩ : ∃ blk, blk = blkAt b k := ⟨_, rfl⟩
          have HBLK := vlt hblk
          have hgMU : Hid ((Y0.alloc (.cells (u32v z17).toArray 50)).heap[Y0.heap.size]? = some (.cells (u32v z17).toArray 50 (0, 0))) := heap_alloc_new _ _
          have hbYU : Below Y0.heap.size Y0 (Y0.alloc (.cells (u32v z17).toArray 50)) := (Below.refl _ _).alloc (Nat.le_refl _) _
          have lMU : Y0.heap.size < (Y0.alloc (.cells (u32v z17).toArray 50)).heap.size := by simp
          by_cases h16 : 16 < n - 16 * k
          · have h16i : (16 : Int) < (n : Int) - 16 * (k : Int) := by omega
            have HBL := Lib.hid (show blk.length = 16 by rw [hblk, blkAt, List.length_take, List.length_drop, HL.out]; omega)
            clear hblk
            go_wp2_with fail
            generalize Y0.alloc (.cells (u32v z17).toArray 50) = U at *
            obtain ⟨M, hM⟩ : ∃ M, M = Y0.heap.size := ⟨_, rfl⟩
            have hYM : Y0.heap.size ≤ M := by omega
            rw [← hM] at hgMU lMU ⊢
            clear hM
            have hbtU : Byt U w.heap.size A b := hbtY.keep fun p hp => hbYU.cell (by omega)
            have hgM0 : Hid (U.heap[M]? = some (.cells (u32v (uptoW 17 (natsOf (blk.take 0)))).toArray 50 (0, 0))) := hgMU
            go_wp2_with fail
            go_loopw [13] (fun i ws => ∃ j : Nat, j ≤ 16 ∧ i = .int .i64 (j : Int) ∧ Hid (ws.heap[M]? = some (.cells (u32v (uptoW 17 (natsOf (blk.take j)))).toArray 50 (0, 0))) ∧ But M U ws) (fun i _ => 16 - (intOf i).toNat)
            case atStart => exact ⟨0, by omega, rfl, hgM0, But.refl _ _⟩
            case round =>
              clear hgM0 hgMU
              obtain ⟨j, hj, rfl, hgm, hbm⟩ := hrel
              have hbtj : Byt wr w.heap.size A b := hbtU.but hbm (by omega) (by omega)
              by_cases hjq : j < 16
              · have hji : (j : Int) < 16 := by omega
                obtain ⟨gb, ob, x, rfl, hgb, hx, hcell, hget⟩ := hbtj.at_ (k := 16 * k + j) (by rw [HL.out]; omega)
                have hblk : blk[j]? = some (UInt8.ofNat x) := by
                  rw [HBLK.out, blkAt, List.getElem?_take_of_lt (by omega), List.getElem?_drop]; exact hget.out
                have hlen : (uptoW 17 (natsOf (blk.take j))).length = 17 := uptoW_len 17 _ (by rw [natsOf_len, List.length_take]; omega)
                have c1 := word_at hgm.out j (by rw [hlen]; omega)
                have f0 : wr.frozen? ⟨M, j, none⟩ = false := frozen_of_row _ _ _ _ _ hgm.out
                have hset := world_set_cell hgm.out j (.int .u32 (((UInt8.ofNat x).toNat : Nat) : Int))
                rw [u32v_set, fill_nats blk j _ hblk (by rw [HBL.out]; omega), UInt8.toNat_ofNat', Nat.mod_eq_of_lt hx] at hset
                have hb2 := hbm.set (i := j) (.int .u32 (x : Int))
                have hin : 16 * (k : Int) + (j : Int) < (n : Int) := by omega
                have hj17 : (j : Int) < 17 := by omega
                clear hlen hblk hget hbtj
                generalize natAt (uptoW 17 (natsOf (blk.take j))) j = z at *
                go_wp2
                exact ⟨⟨j + 1, by omega, by go_num, hset, hb2⟩, by simp [intOf]; omega⟩
              · have hji : ¬ (j : Int) < 16 := by omega
                obtain ⟨mm, hmm⟩ : ∃ mm, mm = uptoW 17 (natsOf blk ++ [1]) := ⟨_, rfl⟩
                have hnl : (natsOf blk).length = 16 := by rw [natsOf_len, HBL.out]
                have hgm1 : Hid (wr.heap[M]? = some (.cells (u32v (uptoW 17 (natsOf blk))).toArray 50 (0, 0))) := by
                  have h1 := hgm.out
                  rw [List.take_of_length_le (by rw [HBL.out]; omega)] at h1
                  exact h1
                have c1 := word_at hgm1.out 16 (by rw [uptoW_len 17 _ (by rw [hnl]; omega)]; omega)
                have f0 : wr.frozen? ⟨M, 16, none⟩ = false := frozen_of_row _ _ _ _ _ hgm1.out
                have hset := world_set_cell hgm1.out 16 (.int .u32 ((1 : Nat) : Int))
                have hus := uptoW_set 17 (natsOf blk) 1 (by rw [hnl]; omega)
                rw [hnl] at hus
                rw [u32v_set, hus, ← hmm] at hset
                rw [show (((1 : Nat) : Nat) : Int) = 1 from rfl] at hset
                have hb2 := hbm.set (i := 16) (.int .u32 1)
                have HMM := vlt (show mm.length = 17 ∧ (∀ x ∈ mm, x < 256) ∧ lvN mm = ln blk + 256 ^ blk.length by rw [hmm]; exact mm_ok blk (by rw [HBL.out]; omega))
                have HMS := Lib.hid (show (u32v mm).toArray.size = 17 by simp [u32v_len, HMM.out.1])
                have hbU2 : Below Y0.heap.size Y0 (wr.setCell ⟨M, 16, none⟩ (.int .u32 1)) := But.below hbYU hb2 hYM (by omega)
                have hQ17 : 16 < 17 := by omega
                clear hus hnl hmm hgm hgm1 hbm hbtj
                generalize natAt (uptoW 17 (natsOf blk)) 16 = z at *
                go_wp2_with fail
                generalize wr.setCell ⟨M, 16, none⟩ (.int .u32 1) = U2 at *
                have hX2 : Hid (U2.heap[H]? = some (.cells (u32v X).toArray 50 (0, 0))) := (hbU2.block _ hHY).trans hgX.out
                have hP2 : Hid (U2.heap[P]? = some (.cells (u32v rr).toArray 50 (0, 0))) := (hbU2.block _ (by omega)).trans hgPY.out
                have rX := Lib.hid (range_part [] (u32v X) [] (by rw [List.append_nil]; exact hX2.out) 0 rfl)
                have rM := Lib.hid (range_part [] (u32v mm) [] (by rw [List.append_nil]; exact hset.out) 0 rfl)
                have rP := Lib.hid (range_part [] (u32v rr) [] (by rw [List.append_nil]; exact hP2.out) 0 rfl)
                have lX := Lib.hid (show (u32v X).length = 17 by rw [u32v_len, HX.out.1])
                have lM := Lib.hid (show (u32v mm).length = 17 by rw [u32v_len, HMM.out.1])
                have lP := Lib.hid (show (u32v rr).length = 17 by rw [u32v_len, HRR.out.1])
                have lXS := Lib.hid (show (u32v X).toArray.size = 17 by simp [lX.out])
                have hM2 : M < U2.heap.size := (Array.getElem?_eq_some_iff.1 hset.out).1
                have hHU : H < U2.heap.size := by omega
                have hPU : P < U2.heap.size := by omega
                clear hset hP2 hb2 c1 f0
                refine c_start (S := (fun W' => Below U2.heap.size U2 W' ∧ W'.rangeAt H 0 (u32v X) ∧ W'.rangeAt M 0 (u32v mm) ∧ W'.rangeAt P 0 (u32v rr))) 5 (by kernel_rfl) (⟨(Below.refl _ _).drew, rX.out, rM.out, rP.out⟩) (fun hHeld => ?_)
                refine c_read (i := 0) (oi := ⟨(some 62), _, _, _, _, _⟩) (v := _) rfl (by decide) (by kernel_rfl) (by kernel_rfl) (by kernel_rfl) (by kernel_rfl) (by kernel_rfl) (fun _ _ _ h => h) (yieldsIf_load_mid (by rfl) _ _ rfl H 0 rfl (u32v X) _ ((fun _ h => h.2.1)) (Try.underlying50) (rfl) (by rw [lX.out]; kernel_rfl)) hHeld ?_
                try simp only [Act.put, List.setIfInBounds_toArray, List.set_cons_zero, List.set_cons_succ]
                refine c_read (i := 1) (oi := ⟨(some 63), _, _, _, _, _⟩) (v := _) rfl (by decide) (by kernel_rfl) (by kernel_rfl) (by kernel_rfl) (by kernel_rfl) (by kernel_rfl) (fun _ _ _ h => h) (yieldsIf_load_mid (by rfl) _ _ rfl M 0 rfl (u32v mm) _ ((fun _ h => h.2.2.1)) (Try.underlying50) (rfl) (by rw [lM.out]; kernel_rfl)) hHeld ?_
                try simp only [Act.put, List.setIfInBounds_toArray, List.set_cons_zero, List.set_cons_succ]
                refine c_read (i := 3) (oi := ⟨(some 65), _, _, _, _, _⟩) (v := _) rfl (by decide) (by kernel_rfl) (by kernel_rfl) (by kernel_rfl) (by kernel_rfl) (by kernel_rfl) (fun _ _ _ h => h) (yieldsIf_load_mid (by rfl) _ _ rfl P 0 rfl (u32v rr) _ ((fun _ h => h.2.2.2)) (Try.underlying50) (rfl) (by rw [lP.out]; kernel_rfl)) hHeld ?_
                try simp only [Act.put, List.setIfInBounds_toArray, List.set_cons_zero, List.set_cons_succ]
                refine c_step (i := 2) (o := ⟨(some 64), _, _, _, _, _⟩) (by kernel_rfl) rfl (fun K hK => ?_)
                go_simp
                refine (rplus_any _ X mm HX.out.1 HMM.out.1 HX.out.2.1 HMM.out.2.1).mono ?_
                rintro e w8 ⟨Yp, rfl, hYl, hY, hb8⟩
                have hb8' : Below U2.heap.size U2 w8 := below_undrew hb8
                refine hK.out _ _ (⟨hb8', range_below rX.out hHU hb8', range_below rM.out hM2 hb8', range_below rP.out hPU hb8'⟩) (fun hHeld => ?_)
                clear hK K
                try simp only [Act.put, List.setIfInBounds_toArray, List.set_cons_zero, List.set_cons_succ]
                refine c_step (i := 4) (o := ⟨(some 66), _, _, _, _, _⟩) (by kernel_rfl) rfl (fun K hK => ?_)
                go_simp
                refine (rtimes_any w8 Yp rr hYl.out HRR.out.1 (natAt_all (fun k hk => by rw [hYl.out] at hk; rcases Nat.lt_or_ge k 16 with h | h; exact Nat.lt_trans (hY.out.1 k h) (by decide); rw [show k = 16 by omega]; exact Nat.lt_trans hY.out.2.1 (by decide))) (fun x hx => Nat.lt_trans (HRR.out.2.1 x hx) (by decide))).mono ?_
                rintro e w9 ⟨T, rfl, hTl, hT, hb9⟩
                have hb9' : Below U2.heap.size U2 w9 := below_next hb8' hb8'.size hb9
                refine hK.out _ _ (⟨hb9', range_below rX.out hHU hb9', range_below rM.out hM2 hb9', range_below rP.out hPU hb9'⟩) (fun hHeld => ?_)
                clear hK K
                try simp only [Act.put, List.setIfInBounds_toArray, List.set_cons_zero, List.set_cons_succ]
                have hX9 : Hid (w9.heap[H]? = some (.cells (u32v X).toArray 50 (0, 0))) := (hb9'.block _ hHU).trans hX2.out
                have HTS := Lib.hid (show (u32v T).toArray.size = 17 by simp [u32v_len, hTl.out])
                refine c_call (S' := (fun _ => True)) (o := ⟨none, _, _, _, _, _⟩) (by kernel_rfl) (by kernel_rfl) rfl (fun K hK => ?_)
                clear hHeld
                refine step_store_row rfl 50 (.tmp 9) (.tmp 66) rfl H (u32v T).toArray (by rfl) (by rfl) 50 _ hX9.out (by rw [HTS.out]; kernel_rfl) (by rw [HTS.out]; exact lXS.out) (all_oneCell_toArray (u32v_one _)) ?_
                refine hK.out _ _ (trivial) (fun hHeld => ?_)
                clear hK K
                try simp only [Act.put]
                refine wpAnyH_done (by kernel_rfl) ?_ _
                have hfin : Hid ((w9.setRow H (u32v T).toArray).heap[H]? = some (.cells (u32v T).toArray 50 (0, 0))) := setRow_heap _ _ _ _ _ _ hX9.out
                have hbfin : But H V (w9.setRow H (u32v T).toArray) := ((hbt.trans (But.of_below hbU2 (Nat.le_refl _))).trans (But.of_below hb9' (Nat.le_refl _))).row _
                have HNX := vlt (show T.length = 17 ∧ (∀ x ∈ T, x < 256) ∧ lvN T % PP = accR (rOf key) b (k + 1) from ⟨hTl.out, natAt_all (fun k hk => hT.out.1 k (by rw [hTl.out] at hk; exact hk)),
                  acc_next (rOf key) b k (lvN X) (lvN mm) (lvN Yp) (lvN T) (lvN rr) HX.out.2.2 (by rw [← HBLK.out]; exact HMM.out.2.2) hY.out.2.2 HRR.out.2.2 hT.out.2.2⟩)
                clear hX9 hX2 hY hT rX rM rP hb8' hb9'
                generalize w9.setRow H (u32v T).toArray = w10 at *
                go_wp2
                exact ⟨⟨k + 1, T, by omega, by go_num, hfin, HNX, hbfin⟩, by simp [intOf]; omega⟩
          · obtain ⟨d, hd, hd2⟩ : ∃ d : Nat, (n : Int) - 16 * (k : Int) = (d : Int) ∧ d = n - 16 * k := ⟨n - 16 * k, by omega, rfl⟩
            have hd16 : ¬ (16 : Int) < (d : Int) := by omega
            have HBL := Lib.hid (show blk.length = d by rw [hblk, blkAt, List.length_take, List.length_drop, HL.out]; omega)
            have hd3 : 16 * k + d ≤ n := by omega
            have hd4 : n ≤ 16 * k + d := by omega
            have hd5 : 0 < d := by omega
            clear hblk hd2
            go_wp2_with fail
            generalize Y0.alloc (.cells (u32v z17).toArray 50) = U at *
            obtain ⟨M, hM⟩ : ∃ M, M = Y0.heap.size := ⟨_, rfl⟩
            have hYM : Y0.heap.size ≤ M := by omega
            rw [← hM] at hgMU lMU ⊢
            clear hM hd
            have hbtU : Byt U w.heap.size A b := hbtY.keep fun p hp => hbYU.cell (by omega)
            have hgM0 : Hid (U.heap[M]? = some (.cells (u32v (uptoW 17 (natsOf (blk.take 0)))).toArray 50 (0, 0))) := hgMU
            go_wp2_with fail
            go_loopw [13] (fun i ws => ∃ j : Nat, j ≤ d ∧ i = .int .i64 (j : Int) ∧ Hid (ws.heap[M]? = some (.cells (u32v (uptoW 17 (natsOf (blk.take j)))).toArray 50 (0, 0))) ∧ But M U ws) (fun i _ => d - (intOf i).toNat)
            case atStart => exact ⟨0, by omega, rfl, hgM0, But.refl _ _⟩
            case round =>
              clear hgM0 hgMU
              obtain ⟨j, hj, rfl, hgm, hbm⟩ := hrel
              have hbtj : Byt wr w.heap.size A b := hbtU.but hbm (by omega) (by omega)
              by_cases hjq : j < d
              · have hji : (j : Int) < (d : Int) := by omega
                obtain ⟨gb, ob, x, rfl, hgb, hx, hcell, hget⟩ := hbtj.at_ (k := 16 * k + j) (by rw [HL.out]; omega)
                have hblk : blk[j]? = some (UInt8.ofNat x) := by
                  rw [HBLK.out, blkAt, List.getElem?_take_of_lt (by omega), List.getElem?_drop]; exact hget.out
                have hlen : (uptoW 17 (natsOf (blk.take j))).length = 17 := uptoW_len 17 _ (by rw [natsOf_len, List.length_take]; omega)
                have c1 := word_at hgm.out j (by rw [hlen]; omega)
                have f0 : wr.frozen? ⟨M, j, none⟩ = false := frozen_of_row _ _ _ _ _ hgm.out
                have hset := world_set_cell hgm.out j (.int .u32 (((UInt8.ofNat x).toNat : Nat) : Int))
                rw [u32v_set, fill_nats blk j _ hblk (by rw [HBL.out]; omega), UInt8.toNat_ofNat', Nat.mod_eq_of_lt hx] at hset
                have hb2 := hbm.set (i := j) (.int .u32 (x : Int))
                have hin : 16 * (k : Int) + (j : Int) < (n : Int) := by omega
                have hj17 : (j : Int) < 17 := by omega
                clear hlen hblk hget hbtj
                generalize natAt (uptoW 17 (natsOf (blk.take j))) j = z at *
                go_wp2
                exact ⟨⟨j + 1, by omega, by go_num, hset, hb2⟩, by simp [intOf]; omega⟩
              · have hji : ¬ (j : Int) < (d : Int) := by omega
                obtain ⟨mm, hmm⟩ : ∃ mm, mm = uptoW 17 (natsOf blk ++ [1]) := ⟨_, rfl⟩
                have hnl : (natsOf blk).length = d := by rw [natsOf_len, HBL.out]
                have hgm1 : Hid (wr.heap[M]? = some (.cells (u32v (uptoW 17 (natsOf blk))).toArray 50 (0, 0))) := by
                  have h1 := hgm.out
                  rw [List.take_of_length_le (by rw [HBL.out]; omega)] at h1
                  exact h1
                have c1 := word_at hgm1.out d (by rw [uptoW_len 17 _ (by rw [hnl]; omega)]; omega)
                have f0 : wr.frozen? ⟨M, d, none⟩ = false := frozen_of_row _ _ _ _ _ hgm1.out
                have hset := world_set_cell hgm1.out d (.int .u32 ((1 : Nat) : Int))
                have hus := uptoW_set 17 (natsOf blk) 1 (by rw [hnl]; omega)
                rw [hnl] at hus
                rw [u32v_set, hus, ← hmm] at hset
                rw [show (((1 : Nat) : Nat) : Int) = 1 from rfl] at hset
                have hb2 := hbm.set (i := d) (.int .u32 1)
                have HMM := vlt (show mm.length = 17 ∧ (∀ x ∈ mm, x < 256) ∧ lvN mm = ln blk + 256 ^ blk.length by rw [hmm]; exact mm_ok blk (by rw [HBL.out]; omega))
                have HMS := Lib.hid (show (u32v mm).toArray.size = 17 by simp [u32v_len, HMM.out.1])
                have hbU2 : Below Y0.heap.size Y0 (wr.setCell ⟨M, d, none⟩ (.int .u32 1)) := But.below hbYU hb2 hYM (by omega)
                have hQ17 : (d : Int) < 17 := by omega
                clear hus hnl hmm hgm hgm1 hbm hbtj
                generalize natAt (uptoW 17 (natsOf blk)) d = z at *
                go_wp2_with fail
                generalize wr.setCell ⟨M, d, none⟩ (.int .u32 1) = U2 at *
                have hX2 : Hid (U2.heap[H]? = some (.cells (u32v X).toArray 50 (0, 0))) := (hbU2.block _ hHY).trans hgX.out
                have hP2 : Hid (U2.heap[P]? = some (.cells (u32v rr).toArray 50 (0, 0))) := (hbU2.block _ (by omega)).trans hgPY.out
                have rX := Lib.hid (range_part [] (u32v X) [] (by rw [List.append_nil]; exact hX2.out) 0 rfl)
                have rM := Lib.hid (range_part [] (u32v mm) [] (by rw [List.append_nil]; exact hset.out) 0 rfl)
                have rP := Lib.hid (range_part [] (u32v rr) [] (by rw [List.append_nil]; exact hP2.out) 0 rfl)
                have lX := Lib.hid (show (u32v X).length = 17 by rw [u32v_len, HX.out.1])
                have lM := Lib.hid (show (u32v mm).length = 17 by rw [u32v_len, HMM.out.1])
                have lP := Lib.hid (show (u32v rr).length = 17 by rw [u32v_len, HRR.out.1])
                have lXS := Lib.hid (show (u32v X).toArray.size = 17 by simp [lX.out])
                have hM2 : M < U2.heap.size := (Array.getElem?_eq_some_iff.1 hset.out).1
                have hHU : H < U2.heap.size := by omega
                have hPU : P < U2.heap.size := by omega
                clear hset hP2 hb2 c1 f0
                refine c_start (S := (fun W' => Below U2.heap.size U2 W' ∧ W'.rangeAt H 0 (u32v X) ∧ W'.rangeAt M 0 (u32v mm) ∧ W'.rangeAt P 0 (u32v rr))) 5 (by kernel_rfl) (⟨(Below.refl _ _).drew, rX.out, rM.out, rP.out⟩) (fun hHeld => ?_)
                refine c_read (i := 0) (oi := ⟨(some 62), _, _, _, _, _⟩) (v := _) rfl (by decide) (by kernel_rfl) (by kernel_rfl) (by kernel_rfl) (by kernel_rfl) (by kernel_rfl) (fun _ _ _ h => h) (yieldsIf_load_mid (by rfl) _ _ rfl H 0 rfl (u32v X) _ ((fun _ h => h.2.1)) (Try.underlying50) (rfl) (by rw [lX.out]; kernel_rfl)) hHeld ?_
                try simp only [Act.put, List.setIfInBounds_toArray, List.set_cons_zero, List.set_cons_succ]
                refine c_read (i := 1) (oi := ⟨(some 63), _, _, _, _, _⟩) (v := _) rfl (by decide) (by kernel_rfl) (by kernel_rfl) (by kernel_rfl) (by kernel_rfl) (by kernel_rfl) (fun _ _ _ h => h) (yieldsIf_load_mid (by rfl) _ _ rfl M 0 rfl (u32v mm) _ ((fun _ h => h.2.2.1)) (Try.underlying50) (rfl) (by rw [lM.out]; kernel_rfl)) hHeld ?_
                try simp only [Act.put, List.setIfInBounds_toArray, List.set_cons_zero, List.set_cons_succ]
                refine c_read (i := 3) (oi := ⟨(some 65), _, _, _, _, _⟩) (v := _) rfl (by decide) (by kernel_rfl) (by kernel_rfl) (by kernel_rfl) (by kernel_rfl) (by kernel_rfl) (fun _ _ _ h => h) (yieldsIf_load_mid (by rfl) _ _ rfl P 0 rfl (u32v rr) _ ((fun _ h => h.2.2.2)) (Try.underlying50) (rfl) (by rw [lP.out]; kernel_rfl)) hHeld ?_
                try simp only [Act.put, List.setIfInBounds_toArray, List.set_cons_zero, List.set_cons_succ]
                refine c_step (i := 2) (o := ⟨(some 64), _, _, _, _, _⟩) (by kernel_rfl) rfl (fun K hK => ?_)
                go_simp
                refine (rplus_any _ X mm HX.out.1 HMM.out.1 HX.out.2.1 HMM.out.2.1).mono ?_
                rintro e w8 ⟨Yp, rfl, hYl, hY, hb8⟩
                have hb8' : Below U2.heap.size U2 w8 := below_undrew hb8
                refine hK.out _ _ (⟨hb8', range_below rX.out hHU hb8', range_below rM.out hM2 hb8', range_below rP.out hPU hb8'⟩) (fun hHeld => ?_)
                clear hK K
                try simp only [Act.put, List.setIfInBounds_toArray, List.set_cons_zero, List.set_cons_succ]
                refine c_step (i := 4) (o := ⟨(some 66), _, _, _, _, _⟩) (by kernel_rfl) rfl (fun K hK => ?_)
                go_simp
                refine (rtimes_any w8 Yp rr hYl.out HRR.out.1 (natAt_all (fun k hk => by rw [hYl.out] at hk; rcases Nat.lt_or_ge k 16 with h | h; exact Nat.lt_trans (hY.out.1 k h) (by decide); rw [show k = 16 by omega]; exact Nat.lt_trans hY.out.2.1 (by decide))) (fun x hx => Nat.lt_trans (HRR.out.2.1 x hx) (by decide))).mono ?_
                rintro e w9 ⟨T, rfl, hTl, hT, hb9⟩
                have hb9' : Below U2.heap.size U2 w9 := below_next hb8' hb8'.size hb9
                refine hK.out _ _ (⟨hb9', range_below rX.out hHU hb9', range_below rM.out hM2 hb9', range_below rP.out hPU hb9'⟩) (fun hHeld => ?_)
                clear hK K
                try simp only [Act.put, List.setIfInBounds_toArray, List.set_cons_zero, List.set_cons_succ]
                have hX9 : Hid (w9.heap[H]? = some (.cells (u32v X).toArray 50 (0, 0))) := (hb9'.block _ hHU).trans hX2.out
                have HTS := Lib.hid (show (u32v T).toArray.size = 17 by simp [u32v_len, hTl.out])
                refine c_call (S' := (fun _ => True)) (o := ⟨none, _, _, _, _, _⟩) (by kernel_rfl) (by kernel_rfl) rfl (fun K hK => ?_)
                clear hHeld
                refine step_store_row rfl 50 (.tmp 9) (.tmp 66) rfl H (u32v T).toArray (by rfl) (by rfl) 50 _ hX9.out (by rw [HTS.out]; kernel_rfl) (by rw [HTS.out]; exact lXS.out) (all_oneCell_toArray (u32v_one _)) ?_
                refine hK.out _ _ (trivial) (fun hHeld => ?_)
                clear hK K
                try simp only [Act.put]
                refine wpAnyH_done (by kernel_rfl) ?_ _
                have hfin : Hid ((w9.setRow H (u32v T).toArray).heap[H]? = some (.cells (u32v T).toArray 50 (0, 0))) := setRow_heap _ _ _ _ _ _ hX9.out
                have hbfin : But H V (w9.setRow H (u32v T).toArray) := ((hbt.trans (But.of_below hbU2 (Nat.le_refl _))).trans (But.of_below hb9' (Nat.le_refl _))).row _
                have HNX := vlt (show T.length = 17 ∧ (∀ x ∈ T, x < 256) ∧ lvN T % PP = accR (rOf key) b (k + 1) from ⟨hTl.out, natAt_all (fun k hk => hT.out.1 k (by rw [hTl.out] at hk; exact hk)),
                  acc_next (rOf key) b k (lvN X) (lvN mm) (lvN Yp) (lvN T) (lvN rr) HX.out.2.2 (by rw [← HBLK.out]; exact HMM.out.2.2) hY.out.2.2 HRR.out.2.2 hT.out.2.2⟩)
                clear hX9 hX2 hY hT rX rM rP hb8' hb9'
                generalize w9.setRow H (u32v T).toArray = w10 at *
                go_wp2
                exact ⟨⟨k + 1, T, by omega, by go_num, hfin, HNX, hbfin⟩, by simp [intOf]; omega⟩
        · have hli : ¬ 16 * (k : Int) < (n : Int) := by omega
          have HXV := vlt (show lvN X % PP = polyOf (rOf key) b by rw [HX.out.2.2, polyOf, HL.out, show k = (n + 15) / 16 by omega])
          have hgKY : Hid (Y0.heap[w.heap.size]? = some (.cells (bv key).toArray 26 (0, 0))) := (hbt.block _ (by omega) (by intro e; injection e; omega)).trans hgK7.out
          have hgZY : Hid (Y0.heap[w.heap.size + 1]? = some (.cells (bv z16).toArray 23 (0, 0))) := (hbt.block _ (by omega) (by intro e; injection e; omega)).trans hgZ7.out
          have hbwY : Below w.heap.size w Y0 := But.below hbw7 hbt (by omega) hbw7.size
          have hleast := rleast_any Y0 X HX.out.1 HX.out.2.1
          have HXS := Lib.hid (show (u32v X).toArray.size = 17 by simp [u32v_len, HX.out.1])
          clear hgK7 hgZ7 hbw7 hbt7 hbt hbtY hgP7 HX hgPY
          go_wp2_with (with_reducible refine wpList_load_row rfl 50 (.tmp 9) rfl H rfl 50 (u32v X).toArray (0, 0) _ hgX.out Try.underlying50 rfl (by rw [HXS.out]; kernel_rfl) ?_)
          refine hleast.mono ?_
          rintro e v1 ⟨L, rfl, hLl, hL, hc1⟩
          have HLV := vlt (show (∀ x ∈ L, x < 256) ∧ lvN L = polyOf (rOf key) b from ⟨natAt_all (fun k hk => hL.out.1 k (by rw [hLl.out] at hk; exact hk)), by rw [hL.out.2, HXV.out]⟩)
          have gX1 : Hid (v1.heap[H]? = some (.cells (u32v X).toArray 50 (0, 0))) := (hc1.block _ hHY).trans hgX.out
          have gK1 : Hid (v1.heap[w.heap.size]? = some (.cells (bv key).toArray 26 (0, 0))) := (hc1.block _ (by omega)).trans hgKY.out
          have gZ1 : Hid (v1.heap[w.heap.size + 1]? = some (.cells (bv z16).toArray 23 (0, 0))) := (hc1.block _ (by omega)).trans hgZY.out
          have bw1 := below_next hbwY hbwY.size hc1
          have s1 : H < v1.heap.size := by have := hc1.size; omega
          have HLS := Lib.hid (show (u32v L).toArray.size = 17 by simp [u32v_len, hLl.out])
          clear hleast hgX hgKY hgZY hbwY hc1 hL HXV
          go_upto_region 24 with (with_reducible refine wpList_store_row rfl 50 (.tmp 9) (.tmp 68) rfl H (u32v L).toArray rfl rfl 50 _ gX1.out (by rw [HLS.out]; kernel_rfl) (by rw [HLS.out]; exact HXS.out) (all_oneCell_toArray (u32v_one _)) ?_)
          have gL2 : Hid ((v1.setRow H (u32v L).toArray).heap[H]? = some (.cells (u32v L).toArray 50 (0, 0))) := setRow_heap _ _ _ _ _ _ gX1.out
          have gK2 : Hid ((v1.setRow H (u32v L).toArray).heap[w.heap.size]? = some (.cells (bv key).toArray 26 (0, 0))) := (setRow_other _ _ _ _ (by omega)).trans gK1.out
          have gZ2 : Hid ((v1.setRow H (u32v L).toArray).heap[w.heap.size + 1]? = some (.cells (bv z16).toArray 23 (0, 0))) := (setRow_other _ _ _ _ (by omega)).trans gZ1.out
          have bw2 : Below w.heap.size w (v1.setRow H (u32v L).toArray) := below_setRow bw1 (by omega) _
          have s2 : H < (v1.setRow H (u32v L).toArray).heap.size := by simp [World.setRow]; omega
          generalize v1.setRow H (u32v L).toArray = v2 at *
          clear gX1 gK1 gZ1 bw1 s1 HXS
          go_upto_region 25 with fail
          have gS3 : Hid ((v2.alloc (.cells (u32v z17).toArray 50)).heap[v2.heap.size]? = some (.cells (u32v (uptoW 17 (natsOf ((key.drop 16).take 0)))).toArray 50 (0, 0))) := heap_alloc_new _ _
          have c3 : Below v2.heap.size v2 (v2.alloc (.cells (u32v z17).toArray 50)) := (Below.refl _ _).alloc (Nat.le_refl _) _
          have s3 : v2.heap.size < (v2.alloc (.cells (u32v z17).toArray 50)).heap.size := by simp
          generalize v2.alloc (.cells (u32v z17).toArray 50) = v3 at *
          have gL3 : Hid (v3.heap[H]? = some (.cells (u32v L).toArray 50 (0, 0))) := (c3.block _ s2).trans gL2.out
          have gK3 : Hid (v3.heap[w.heap.size]? = some (.cells (bv key).toArray 26 (0, 0))) := (c3.block _ (by omega)).trans gK2.out
          have gZ3 : Hid (v3.heap[w.heap.size + 1]? = some (.cells (bv z16).toArray 23 (0, 0))) := (c3.block _ (by omega)).trans gZ2.out
          have bw3 := below_next bw2 bw2.size c3
          obtain ⟨Sb, hSb⟩ : ∃ Sb, Sb = v2.heap.size := ⟨_, rfl⟩
          have hHS : H < Sb := by omega
          rw [← hSb] at gS3 s3 ⊢
          have hk3 := Lib.hid (show (key.drop 16).length = 16 by simp [HK.out])
          clear hSb gL2 gK2 gZ2 bw2 c3 s2 hli hHY hYs
          generalize decide (16 * (k : Int) < (n : Int)) = dx
          go_wp2_with fail
          go_loopw [15] (fun i wr => ∃ k : Nat, k ≤ 16 ∧ i = .int .i64 (k : Int) ∧ Hid (wr.heap[Sb]? = some (.cells (u32v (uptoW 17 (natsOf ((key.drop 16).take k)))).toArray 50 (0, 0))) ∧ But Sb v3 wr) (fun i _ => 16 - (intOf i).toNat)
          case atStart => exact ⟨0, by omega, rfl, gS3, But.refl _ _⟩
          case round =>
            clear gS3
            obtain ⟨q, hq, rfl, hg, hbt⟩ := hrel
            by_cases hlt2 : q < 16
            · have hi16 : (q : Int) < 16 := by omega
              have gKr : Hid (wr.heap[w.heap.size]? = some (.cells (bv key).toArray 26 (0, 0))) := (hbt.block _ (by omega) (by intro e; injection e; omega)).trans gK3.out
              have c0 := byteAt_cell gKr.out (16 + q) (by rw [HK.out]; omega)
              have hlen : (uptoW 17 (natsOf ((key.drop 16).take q))).length = 17 := uptoW_len 17 _ (by rw [natsOf_len, List.length_take]; omega)
              have c1 := word_at hg.out q (by rw [hlen]; omega)
              have f0 : wr.frozen? ⟨Sb, q, none⟩ = false := frozen_of_row _ _ _ _ _ hg.out
              have hset := world_set_cell hg.out q (.int .u32 (((byteAt key (16 + q)).toNat : Nat) : Int))
              rw [u32v_set, fill_nats (key.drop 16) q (byteAt key (16 + q)) (by rw [List.getElem?_drop]; simp [byteAt, List.getElem?_eq_getElem (show 16 + q < key.length by rw [HK.out]; omega)]) (by rw [hk3.out]; exact Nat.le_refl _)] at hset
              have hb2 := hbt.set (i := q) (.int .u32 (((byteAt key (16 + q)).toNat : Nat) : Int))
              have lx := (byteAt key (16 + q)).toNat_lt
              clear hlen gKr
              generalize (byteAt key (16 + q)).toNat = x at *
              generalize natAt (uptoW 17 (natsOf ((key.drop 16).take q))) q = z at *
              go_wp2
              exact ⟨⟨q + 1, by omega, by go_num, hset, hb2⟩, by simp [intOf]; omega⟩
            · obtain ⟨ss, hss⟩ : ∃ ss, ss = uptoW 17 (natsOf (key.drop 16)) := ⟨_, rfl⟩
              have gSr : Hid (wr.heap[Sb]? = some (.cells (u32v ss).toArray 50 (0, 0))) := by
                have h1 := hg.out
                rw [List.take_of_length_le (by rw [hk3.out]; omega), ← hss] at h1
                exact h1
              have HSS := vlt (show ss.length = 17 ∧ (∀ x ∈ ss, x < 256) ∧ lvN ss = ln (key.drop 16) by
                refine ⟨by rw [hss]; exact uptoW_len 17 _ (by rw [natsOf_len, hk3.out]; decide), by rw [hss]; exact upto_lt 17 _ (nats_lt _), by rw [hss, lvN_upto, lvN_nats]⟩)
              have HSV := Lib.hid (show (u32v ss).toArray.size = 17 by simp [u32v_len, HSS.out.1])
              have gLr : Hid (wr.heap[H]? = some (.cells (u32v L).toArray 50 (0, 0))) := (hbt.block _ (by omega) (by intro e; injection e; omega)).trans gL3.out
              have gZr : Hid (wr.heap[w.heap.size + 1]? = some (.cells (bv z16).toArray 23 (0, 0))) := (hbt.block _ (by omega) (by intro e; injection e; omega)).trans gZ3.out
              have bwr : Below w.heap.size w wr := But.below bw3 hbt (by omega) bw3.size
              have sr : Sb < wr.heap.size := (Array.getElem?_eq_some_iff.1 gSr.out).1
              have hi16 : ¬ (q : Int) < 16 := by omega
              have hplus := rplus_any wr L ss hLl.out HSS.out.1 HLV.out.1 HSS.out.2.1
              clear hss hg gK3 gZ3 gL3 bw3 hbt s3
              go_wp2_with (first
                | (with_reducible refine wpList_load_row rfl 50 (.tmp 9) rfl H rfl 50 (u32v L).toArray (0, 0) _ gLr.out Try.underlying50 rfl (by rw [HLS.out]; kernel_rfl) ?_)
                | (with_reducible refine wpList_load_row rfl 50 (.tmp 14) rfl Sb rfl 50 (u32v ss).toArray (0, 0) _ gSr.out Try.underlying50 rfl (by rw [HSV.out]; kernel_rfl) ?_))
              refine hplus.mono ?_
              rintro e v5 ⟨E, rfl, hEl, hE, c5⟩
              obtain ⟨out, hout⟩ : ∃ out, out = tagOf key b := ⟨_, rfl⟩
              have HOUT := vlt hout
              have HEND := vlt (show bytesOf (E.take 16) = out from (tag_end key b E (lvN L) (lvN ss) hEl.out hE.out.1 hE.out.2.2 HLV.out.2 HSS.out.2.2).trans hout.symm)
              have HEL := vlt (show ∀ j, j < 16 → natAt E j < 256 from hE.out.1)
              have HOS := Lib.hid (show (bv out).toArray.size = 16 by simp [bv_len, hout, tagOf_len])
              have gL5 : Hid (v5.heap[H]? = some (.cells (u32v L).toArray 50 (0, 0))) := (c5.block _ (by omega)).trans gLr.out
              have gZ5 : Hid (v5.heap[w.heap.size + 1]? = some (.cells (bv z16).toArray 23 (0, 0))) := (c5.block _ (by omega)).trans gZr.out
              have bw5 := below_next bwr bwr.size c5
              have s5 : H < v5.heap.size := by have := c5.size; omega
              have HES := Lib.hid (show (u32v E).toArray.size = 17 by simp [u32v_len, hEl.out])
              clear hplus gLr gSr gZr bwr c5 sr hout hE HSS HLV
              go_upto_region 30 with (with_reducible refine wpList_store_row rfl 50 (.tmp 9) (.tmp 82) rfl H (u32v E).toArray rfl rfl 50 _ gL5.out (by rw [HES.out]; kernel_rfl) (by rw [HES.out]; exact HLS.out) (all_oneCell_toArray (u32v_one _)) ?_)
              have gE6 : Hid ((v5.setRow H (u32v E).toArray).heap[H]? = some (.cells (u32v E).toArray 50 (0, 0))) := setRow_heap _ _ _ _ _ _ gL5.out
              have gZ6 : Hid ((v5.setRow H (u32v E).toArray).heap[w.heap.size + 1]? = some (.cells (bv z16).toArray 23 (0, 0))) := (setRow_other _ _ _ _ (by omega)).trans gZ5.out
              have bw6 : Below w.heap.size w (v5.setRow H (u32v E).toArray) := below_setRow bw5 (by omega) _
              have s6 : H < (v5.setRow H (u32v E).toArray).heap.size := by simp [World.setRow]; omega
              generalize v5.setRow H (u32v E).toArray = v6 at *
              clear gL5 gZ5 bw5 s5 HLS
              go_upto_region 31 with (first
                | (with_reducible refine wpList_build_to rfl 23 _ rfl [] (by rfl) _ built_half ?_)
                | ((with_reducible refine wpList_store_row rfl 23 (.tmp 16) (.tmp 83) rfl v6.heap.size (bv z16).toArray rfl rfl 23 _ (heap_alloc_new _ _) (by rw [HZ16.out]; kernel_rfl) (by rw [HZ16.out]) (all_oneCell_toArray (bv_one _)) ?_); rw [World.setRow_alloc_new]))
              have gT7 : Hid ((v6.alloc (.cells (bv z16).toArray 23)).heap[v6.heap.size]? = some (.cells (bv (uptoB 16 (bytesOf (E.take 0)))).toArray 23 (0, 0))) := heap_alloc_new _ _
              have c7 : Below v6.heap.size v6 (v6.alloc (.cells (bv z16).toArray 23)) := (Below.refl _ _).alloc (Nat.le_refl _) _
              generalize v6.alloc (.cells (bv z16).toArray 23) = v7 at *
              have gE7 : Hid (v7.heap[H]? = some (.cells (u32v E).toArray 50 (0, 0))) := (c7.block _ s6).trans gE6.out
              have gZ7 : Hid (v7.heap[w.heap.size + 1]? = some (.cells (bv z16).toArray 23 (0, 0))) := (c7.block _ (by omega)).trans gZ6.out
              have bw7 := below_next bw6 bw6.size c7
              have s7 : H < v7.heap.size := by have := c7.size; omega
              obtain ⟨Tb, hTb⟩ : ∃ Tb, Tb = v6.heap.size := ⟨_, rfl⟩
              have hHT : H < Tb := by omega
              rw [← hTb] at gT7 ⊢
              clear hTb gE6 gZ6 bw6 c7 s6
              generalize decide ((q : Int) < 16) = dy
              go_wp2_with fail
              go_loopw [17] (fun i wr => ∃ k : Nat, k ≤ 16 ∧ i = .int .i64 (k : Int) ∧ Hid (wr.heap[Tb]? = some (.cells (bv (uptoB 16 (bytesOf (E.take k)))).toArray 23 (0, 0))) ∧ But Tb v7 wr) (fun i _ => 16 - (intOf i).toNat)
              case atStart => exact ⟨0, by omega, rfl, gT7, But.refl _ _⟩
              case round =>
                clear gT7
                obtain ⟨p, hp, rfl, hg, hbt⟩ := hrel
                by_cases hlt3 : p < 16
                · have hi16 : (p : Int) < 16 := by omega
                  have hi17 : (p : Int) < 17 := by omega
                  have gEr : Hid (wr.heap[H]? = some (.cells (u32v E).toArray 50 (0, 0))) := (hbt.block _ (by omega) (by intro e; injection e; omega)).trans gE7.out
                  have c0 := word_at gEr.out p (by rw [hEl.out]; omega)
                  have lx := HEL.out p hlt3
                  have hlen : (uptoB 16 (bytesOf (E.take p))).length = 16 := uptoB_len 16 _ (by simp [bytesOf]; omega)
                  have c1 := byteAt_cell hg.out p (by rw [hlen]; exact hlt3)
                  have f0 : wr.frozen? ⟨Tb, p, none⟩ = false := frozen_of_row _ _ _ _ _ hg.out
                  have hset := world_set_cell hg.out p (.int .u8 (((UInt8.ofNat (natAt E p)).toNat : Nat) : Int))
                  rw [bv_set, fill_bytes E p hlt3 hEl.out, UInt8.toNat_ofNat', Nat.mod_eq_of_lt lx] at hset
                  have hb2 := hbt.set (i := p) (.int .u8 ((natAt E p : Nat) : Int))
                  clear hlen gEr
                  generalize natAt E p = x at *
                  generalize (byteAt (uptoB 16 (bytesOf (E.take p))) p).toNat = z at *
                  go_wp2
                  exact ⟨⟨p + 1, by omega, by go_num, hset, hb2⟩, by simp [intOf]; omega⟩
                · have hi16 : ¬ (p : Int) < 16 := by omega
                  have gT8 : Hid (wr.heap[Tb]? = some (.cells (bv out).toArray 23 (0, 0))) := by
                    have h1 := hg.out
                    rw [show p = 16 by omega, HEND.out, uptoB_all 16 out (by have := HOS.out; simpa [bv_len] using this)] at h1
                    exact h1
                  have gZ8 : Hid (wr.heap[w.heap.size + 1]? = some (.cells (bv z16).toArray 23 (0, 0))) := (hbt.block _ (by omega) (by intro e; injection e; omega)).trans gZ7.out
                  have bw8 : Below w.heap.size w wr := But.below bw7 hbt (by omega) bw7.size
                  clear hg
                  go_wp2_with (first
                    | (with_reducible refine wpList_load_row rfl 23 (.tmp 16) rfl Tb rfl 23 (bv out).toArray (0, 0) _ gT8.out Try.underlying23 rfl (by rw [HOS.out]; kernel_rfl) ?_)
                    | (with_reducible refine wpList_store_row rfl 23 (.tmp 4) (.tmp 94) rfl (w.heap.size + 1) (bv out).toArray rfl rfl 23 _ gZ8.out (by rw [HOS.out]; kernel_rfl) (by rw [HOS.out]; exact HZ16.out) (all_oneCell_toArray (bv_one _)) ?_))
                  refine bodyPost_ret (v := .agg (bv out).toArray) (results_cell_row Try.results12 _ _ (w.heap.size + 1) 23 _ (0, 0) _ rfl (setRow_heap _ _ _ _ _ _ gZ8.out) Try.underlying23 rfl (by rw [HOS.out]; kernel_rfl)) rfl ⟨by rw [HOUT.out], below_setRow bw8 (by omega) _⟩
end Go.Proofs.Ytioodeiloepaaaa
