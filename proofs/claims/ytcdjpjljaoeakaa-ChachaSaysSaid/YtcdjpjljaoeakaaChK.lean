/-
  Contract of chacha.Block: the block of that count. Conditions: a key of 32 bytes, a nonce of 12, a count below 2^32.
-/
import Derived.Test.YtcdjpjljaoeakaaChB
import Derived.Test.YtcdjpjljaoeakaaChM
namespace Go.Proofs.Ytcdjpjljaoeakaa
open Go.RowKit

theorem zero_b64 (w : World) : (zeroValue 36).run Try.prog w = .ok (.agg (bv z64).toArray) w := by kernel_rfl
theorem little4n (v : Nat) (w : World) (hv : v < 4294967296) :
    Calls Try.prog 22 #[.slice none 0 0, .int .u64 (v : Int), .int .i64 4] w fun e w' => ∃ A c, e = .returned (.slice A 4 c) ∧ Res w' w.heap.size 5 A 4 c (le v 4) ∧ Below w.heap.size w w' := by
  have h := little4 none [] 0 0 v w Byt.none_ rfl (by decide) hv
  exact h
/-- Two new blocks of the same words. -/
theorem two_same (w : World) (a z : Array Value) (t : TypeId) :
    ∃ W, ((w.alloc (.cells a t)).alloc (.cells z t)).setRow (w.heap.size + 1) a = W ∧ Hid (W.heap[w.heap.size]? = some (.cells a t (0, 0))) ∧ Hid (W.heap[w.heap.size + 1]? = some (.cells a t (0, 0))) ∧ Below w.heap.size w W ∧ Hid (W.heap.size = w.heap.size + 2) := by
  refine ⟨_, rfl, show _ = _ from ?_, setRow_heap _ _ _ _ _ _ (heap_alloc2_new _ _ _), below_setRow (((Below.refl _ _).alloc (Nat.le_refl _) _).alloc (by simp) _) (by omega) _, show _ = _ by simp⟩
  rw [setRow_other _ _ _ _ (by omega)]
  exact heap_alloc2_old _ _ _

set_option maxRecDepth 100000 in
set_option maxHeartbeats 2000000 in
theorem block_any (w : World) (key nonce : List UInt8) (count : Nat) (hk : key.length = 32) (hn : nonce.length = 12) (hc : count < 4294967296) :
    Calls Try.prog 13 #[.agg (bv key).toArray, .int .u32 (count : Int), .agg (bv nonce).toArray] w fun e w' => e = .returned (.agg (bv (blockOf key count nonce)).toArray) ∧ Below w.heap.size w w' := by
  have hz := zero_w16
  have hzb := zero_b64
  have HKS := Lib.hid (show (bv key).toArray.size = 32 by simp [bv_len, hk])
  have HNS := Lib.hid (show (bv nonce).toArray.size = 12 by simp [bv_len, hn])
  obtain ⟨W, hW, hgK, hgN, hgZ, hbW, hsW⟩ := three_new w (bv key).toArray (bv nonce).toArray (bv z64).toArray 31 32 36
  have HW := Lib.hid hW
  have hbeg := begun_any W key nonce count hk hn hc
  clear hW hk hn
  go_enter Try.func13, Try.ntmps13
  go_upto_region 1 with fail
  rw [HW.out]
  go_wp2_with (first
    | (with_reducible refine wpList_load_row rfl 31 (.tmp 3) rfl w.heap.size rfl 31 (bv key).toArray (0, 0) _ hgK.out Try.underlying31 rfl (by rw [HKS.out]; kernel_rfl) ?_)
    | (with_reducible refine wpList_load_row rfl 32 (.tmp 5) rfl (w.heap.size + 1) rfl 32 (bv nonce).toArray (0, 0) _ hgN.out Try.underlying32 rfl (by rw [HNS.out]; kernel_rfl) ?_))
  refine hbeg.mono ?_
  rintro e w1 ⟨rfl, hb1⟩
  clear hbeg
  obtain ⟨F, hF⟩ : ∃ F, F = firstOf key count nonce := ⟨_, rfl⟩
  rw [← hF]
  have HFL := Lib.hid (show F.length = 16 by rw [hF]; exact firstOf_len _ _ _)
  have hFs : small32 F := by rw [hF]; exact firstOf_small _ _ _
  have HFS := Lib.hid (show (u32v F).toArray.size = 16 by simp [u32v_len, HFL.out])
  have HF := vlt hF
  have HZS := Lib.hid (show (u32v z16w).toArray.size = 16 from rfl)
  have hs0 := hsW.out
  have hs1 := hb1.size
  have hz1 : Hid (w1.heap[w.heap.size + 2]? = some (.cells (bv z64).toArray 36 (0, 0))) := (hb1.block _ (by omega)).trans hgZ.out
  have hbw1 : Below w.heap.size w w1 := hbW.trans (hb1.mono (by omega))
  obtain ⟨W2, hW2, hg7, hg8, hb2, hs2⟩ := two_same w1 (u32v F).toArray (u32v z16w).toArray 48
  have HW2 := Lib.hid hW2
  clear hW2 hF hb1 hbW hgK hgN hgZ HW
  go_upto_region 3 with (first
    | ((with_reducible refine wpList_store_row rfl 48 (.tmp 7) (.tmp 15) rfl w1.heap.size (u32v F).toArray rfl rfl 48 _ (heap_alloc_new _ _) (by rw [HFS.out]; kernel_rfl) (by rw [HFS.out]; exact HZS.out) (all_oneCell_toArray (u32v_one _)) ?_); rw [World.setRow_alloc_new])
    | (with_reducible refine wpList_load_row rfl 48 (.tmp 7) rfl w1.heap.size rfl 48 (u32v F).toArray (0, 0) _ (heap_alloc_new _ _) Try.underlying48 rfl (by rw [HFS.out]; kernel_rfl) ?_)
    | ((with_reducible refine wpList_store_row rfl 48 (.tmp 8) (.tmp 16) rfl (w1.heap.size + 1) (u32v F).toArray rfl rfl 48 _ (heap_alloc2_new _ _ _) (by rw [HFS.out]; kernel_rfl) (by rw [HFS.out]; exact HZS.out) (all_oneCell_toArray (u32v_one _)) ?_); rw [HW2.out]))
  have hs2' := hs2.out
  have hz2 : Hid (W2.heap[w.heap.size + 2]? = some (.cells (bv z64).toArray 36 (0, 0))) := (hb2.block _ (by omega)).trans hz1.out
  have hbw2 : Below w.heap.size w W2 := hbw1.trans (hb2.mono (by omega))
  clear hz1 hbw1 hb2 HW2 hz
  go_wp2
  go_loopw [17] (fun i wr => ∃ k : Nat, k ≤ 10 ∧ i = .int .i64 (k : Int) ∧ Hid (wr.heap[w1.heap.size + 1]? = some (.cells (u32v (rounds F k)).toArray 48 (0, 0))) ∧ But (w1.heap.size + 1) W2 wr) (fun i _ => 10 - (intOf i).toNat)
  case atStart => exact ⟨0, by omega, rfl, hg8, But.refl _ _⟩
  case round =>
    obtain ⟨k, hk, rfl, hg, hbut⟩ := hrel
    by_cases hlt : k < 10
    · obtain ⟨X, hX⟩ : ∃ X, X = rounds F k := ⟨_, rfl⟩
      rw [← hX] at hg
      have hmix := mix_any wr (w1.heap.size + 1) X hg.out (by rw [hX, rounds_len]; exact HFL.out) (by rw [hX]; exact rounds_small F hFs k)
      have HX := vlt hX
      clear hX
      go_wp2_with fail
      refine hmix.mono ?_
      rintro e w4 ⟨rfl, hg4, hb4⟩
      clear hmix
      go_wp2
      go_roundw
      case rel => exact ⟨k + 1, by omega, by go_num, by rw [rounds, ← HX.out]; exact hg4.out, hbut.trans hb4⟩
      case measure => simp [intOf]; omega
    · obtain ⟨M, hM⟩ : ∃ M, M = rounds F k := ⟨_, rfl⟩
      rw [← hM] at hg
      have HML := Lib.hid (show M.length = 16 by rw [hM, rounds_len]; exact HFL.out)
      have hMs : small32 M := by rw [hM]; exact rounds_small F hFs k
      have HMS := Lib.hid (show (u32v M).toArray.size = 16 by simp [u32v_len, HML.out])
      have HM := vlt (show blockOf key count nonce = outw M F 16 by rw [blockOf, ← HF.out, hM, show k = 10 by omega])
      have hsr := hbut.size
      have hz3 : Hid (wr.heap[w.heap.size + 2]? = some (.cells (bv z64).toArray 36 (0, 0))) := (hbut.block _ (by omega) (by intro e; injection e; omega)).trans hz2.out
      have hg73 : Hid (wr.heap[w1.heap.size]? = some (.cells (u32v F).toArray 48 (0, 0))) := (hbut.block _ (by omega) (by intro e; injection e; omega)).trans hg7.out
      have hb3 : Below w.heap.size w wr := But.below hbw2 hbut (by omega) (by omega)
      have hg8' : Hid ((wr.alloc (.cells (bv z64).toArray 36)).heap[w1.heap.size + 1]? = some (.cells (u32v M).toArray 48 (0, 0))) := (Below.heap_alloc _ _ _ (by omega)).trans hg.out
      clear hM hz2 hg7 hg8 hbw2 hg
      go_wp2_with (with_reducible refine wpList_load_row rfl 48 (.tmp 8) rfl (w1.heap.size + 1) rfl 48 (u32v M).toArray (0, 0) _ hg8'.out Try.underlying48 rfl (by rw [HMS.out]; kernel_rfl) ?_)
      generalize decide ((k : Int) < 10) = bb
      generalize wr = v5 at *
      go_loopw [22] (fun i wt => ∃ j : Nat, j ≤ 16 ∧ i = .int .i64 (j : Int) ∧ Hid (wt.heap[v5.heap.size]? = some (.cells (bv (uptoB 64 (outw M F j))).toArray 36 (0, 0))) ∧ Below v5.heap.size v5 wt) (fun i _ => 16 - (intOf i).toNat)
      case atStart => exact ⟨0, by omega, rfl, heap_alloc_new _ _, (Below.refl _ _).alloc (Nat.le_refl _) _⟩
      case round =>
        clear hg8' hbut hk hlt
        obtain ⟨j, hj, rfl, hg9, hb⟩ := hrel
        have hsz : v5.heap.size < wr.heap.size := (Array.getElem?_eq_some_iff.1 hg9.out).1
        have hg7 : Hid (wr.heap[w1.heap.size]? = some (.cells (u32v F).toArray 48 (0, 0))) := (hb.block _ (by omega)).trans hg73.out
        by_cases hlt : j < 16
        · have hix := at_agg Try.underlying48 Try.sizeU32 Try.underlying23 (u32v M) j _ (j : Int) rfl hlt (natAt_at HML.out hlt)
          have hcl := word_at hg7.out j (by rw [HFL.out]; exact hlt)
          have hcut := cut_l Try.underlying36 Try.sizeByte v5.heap.size 0 (4 * j) (4 * (j : Int)) (by omega) (by omega)
          rw [Nat.zero_add] at hcut
          have l1 := hMs.at_ j
          have l2 := hFs.at_ j
          have hwr : IntKind.i64.wrap (4 * (j : Int)) = 4 * (j : Int) := IntWalk.i64_in _ (by omega)
          have HO := vlt (show outw M F (j + 1) = outw M F j ++ le ((natAt M j + natAt F j) % 4294967296) 4 from rfl)
          generalize natAt M j = m0 at *
          generalize natAt F j = f0 at *
          obtain ⟨s, hs⟩ : ∃ s, s = (m0 + f0) % 4294967296 := ⟨_, rfl⟩
          rw [← hs] at HO
          have hws : IntKind.u32.wrap ((m0 : Int) + (f0 : Int)) = (s : Int) := by rw [hs]; simp [IntKind.wrap, IntKind.bits, IntKind.signed]
          have ls : s < 4294967296 := by rw [hs]; exact Nat.mod_lt _ (by decide)
          have hwu : IntKind.u64.wrap (s : Int) = (s : Int) := IntWalk.u64_in _ (by omega)
          have ij : (j : Int) < 16 := by omega
          have HP := Lib.hid (show (uptoB 64 (outw M F j)).length = 64 from uptoB_len 64 _ (by rw [outw_len]; omega))
          clear hs
          go_wp2_with fail
          refine wp_region_held_drew (S := (fun W => Below v5.heap.size wr W ∧ W.cell? ⟨w1.heap.size, j, none⟩ = some (.int .u32 (f0 : Int)))) (by kernel_rfl) (⟨(Below.refl _ _).drew, hcl⟩) (fun hHeld => ?_)
          refine wpAnyH_take (i := 0) (oi := ⟨(some 26), _, _, _, _, _⟩) (v := ?vq1_0) rfl (by kernel_rfl) (by kernel_rfl) (by kernel_rfl) (fun _ _ _ h => h) (Or.inl ⟨by rfl, ?yq1_0⟩) hHeld ?_
          case yq1_0 => (intro W0 hSw; go_simp; try with_reducible rfl)
          try simp only [Act.put, List.setIfInBounds_toArray, List.set_cons_zero, List.set_cons_succ]
          refine wpAnyH_take (i := 1) (oi := ⟨(some 27), _, _, _, _, _⟩) (v := ?vq1_1) rfl (by kernel_rfl) (by kernel_rfl) (by kernel_rfl) (fun _ _ _ h => h) (Or.inl ⟨by rfl, ?yq1_1⟩) hHeld ?_
          case yq1_1 => (intro W0 hSw; go_simp; try with_reducible rfl)
          try simp only [Act.put, List.setIfInBounds_toArray, List.set_cons_zero, List.set_cons_succ]
          refine wpAnyH_take (i := 2) (oi := ⟨(some 28), _, _, _, _, _⟩) (v := ?vq1_2) rfl (by kernel_rfl) (by kernel_rfl) (by kernel_rfl) (fun _ _ _ h => h) (Or.inl ⟨by rfl, ?yq1_2⟩) hHeld ?_
          case yq1_2 => (intro W0 hSw; go_simp; try with_reducible rfl)
          try simp only [Act.put, List.setIfInBounds_toArray, List.set_cons_zero, List.set_cons_succ]
          refine wpAnyH_take (i := 3) (oi := ⟨(some 29), _, _, _, _, _⟩) (v := ?vq1_3) rfl (by kernel_rfl) (by kernel_rfl) (by kernel_rfl) (fun _ _ _ h => h) (Or.inl ⟨by rfl, ?yq1_3⟩) hHeld ?_
          case yq1_3 => (intro W0 hSw; go_simp; try with_reducible rfl)
          try simp only [Act.put, List.setIfInBounds_toArray, List.set_cons_zero, List.set_cons_succ]
          refine wpAnyH_take (i := 4) (oi := ⟨(some 30), _, _, _, _, _⟩) (v := ?vq1_4) rfl (by kernel_rfl) (by kernel_rfl) (by kernel_rfl) (fun _ _ _ h => h) (Or.inl ⟨by rfl, ?yq1_4⟩) hHeld ?_
          case yq1_4 => (intro W0 hSw; go_simp; try with_reducible rfl)
          try simp only [Act.put, List.setIfInBounds_toArray, List.set_cons_zero, List.set_cons_succ]
          refine wpAnyH_take (i := 5) (oi := ⟨(some 31), _, _, _, _, _⟩) (v := ?vq1_5) rfl (by kernel_rfl) (by kernel_rfl) (by kernel_rfl) (fun _ _ _ h => h) (Or.inl ⟨by rfl, ?yq1_5⟩) hHeld ?_
          case yq1_5 => (intro W0 hSw; go_simp; try with_reducible rfl)
          try simp only [Act.put, List.setIfInBounds_toArray, List.set_cons_zero, List.set_cons_succ]
          refine wpAnyH_take (i := 6) (oi := ⟨(some 32), _, _, _, _, _⟩) (v := ?vq1_6) rfl (by kernel_rfl) (by kernel_rfl) (by kernel_rfl) (fun _ _ _ h => h) (Or.inl ⟨by rfl, ?yq1_6⟩) hHeld ?_
          case yq1_6 => (intro W0 hSw; go_simp; try with_reducible rfl)
          try simp only [Act.put, List.setIfInBounds_toArray, List.set_cons_zero, List.set_cons_succ]
          refine wpAnyH_take (i := 7) (oi := ⟨(some 33), _, _, _, _, _⟩) (v := ?vq1_7) rfl (by kernel_rfl) (by kernel_rfl) (by kernel_rfl) (fun _ _ _ h => h) (Or.inl ⟨by rfl, ?yq1_7⟩) hHeld ?_
          case yq1_7 => (intro W0 hSw; go_simp; try with_reducible rfl)
          try simp only [Act.put, List.setIfInBounds_toArray, List.set_cons_zero, List.set_cons_succ]
          refine wpAnyH_take (i := 8) (oi := ⟨(some 34), _, _, _, _, _⟩) (v := ?vq1_8) rfl (by kernel_rfl) (by kernel_rfl) (by kernel_rfl) (fun _ _ _ h => h) (Or.inl ⟨by rfl, ?yq1_8⟩) hHeld ?_
          case yq1_8 => (intro W0 hSw; go_simp; try with_reducible rfl)
          try simp only [Act.put, List.setIfInBounds_toArray, List.set_cons_zero, List.set_cons_succ]
          refine wpAnyH_ready (rs := [9]) (by kernel_rfl) (by simp) ?_
          refine AllReadyH.cons (i := 9) (o := ⟨(some 35), _, _, _, _, _⟩) rfl (fun K hK => ?_) AllReadyH.nil
          go_simp
          with_reducible refine (little4n s _ ls).mono ?_
          rintro e w6 ⟨A6, c6, rfl, hr6, hb6⟩
          have hb6' : Below v5.heap.size wr w6 := below_next hHeld.1 (by simp; omega) hb6
          have hgW : Hid (w6.heap[v5.heap.size]? = some (.cells (bv (uptoB 64 (outw M F j))).toArray 36 (0, 0))) := (hb6.block _ (by simp; omega)).trans hg9.out
          have hcl6 := (hb6'.cell (p := ⟨w1.heap.size, j, none⟩) (by simp; omega)).trans hcl
          refine hK.out _ _ (⟨hb6', hcl6⟩) (fun hHeld => ?_)
          clear hK K
          try simp only [Act.put, List.setIfInBounds_toArray, List.set_cons_zero, List.set_cons_succ]
          refine wpAnyH_ready (rs := [10]) (by kernel_rfl) (by simp) ?_
          refine AllReadyH.cons (i := 10) (o := ⟨(some 36), _, _, _, _, _⟩) rfl (fun K hK => ?_) AllReadyH.nil
          refine step_copy_but rfl (.tmp 28) (.tmp 35) 26 rfl 5 Try.underlying26 Try.sizeByte v5.heap.size (4 * j) (64 - 4 * j) (64 - 4 * j) 4 c6 A6 (by rfl) (by rfl) (bv (uptoB 64 (outw M F j))) 36 hgW.out (le s 4) w6.heap.size hr6.byt (le_len _ _) (by decide) (by rw [bv_len, HP.out]; omega) w6 (But.refl _ _) ?_
          intro w7 hg10 hb7
          have hb7' : Below v5.heap.size wr w7 := But.below hb6' hb7 (Nat.le_refl _) (by have := hb6.size; simp at this; omega)
          refine hK.out _ _ (⟨hb7', (hb7'.cell (p := ⟨w1.heap.size, j, none⟩) (by simp; omega)).trans hcl⟩) (fun hHeld => ?_)
          clear hK K
          try simp only [Act.put, List.setIfInBounds_toArray, List.set_cons_zero, List.set_cons_succ]
          refine wpAnyH_done (by kernel_rfl) ?_ _
          have hg11 : Hid (w7.heap[v5.heap.size]? = some (.cells (bv (uptoB 64 (outw M F (j + 1)))).toArray 36 (0, 0))) := by
            have h1 := hg10.out
            have h2 := uptoB_splice 64 (outw M F j) (le s 4) (by rw [outw_len, le_len]; omega)
            rw [outw_len] at h2
            rw [List.take_of_length_le (by rw [le_len]; omega), h2, ← HO.out] at h1
            exact h1
          clear hg10 hgW hcl hcut hix HO
          go_wp2
          go_roundw
          case rel => exact ⟨j + 1, by omega, by go_num, hg11, hb.trans hb7'⟩
          case measure => simp [intOf]; omega
        · have HJ := Lib.hid (show j = 16 by omega)
          have HOUT := vlt (show uptoB 64 (outw M F j) = blockOf key count nonce by rw [HJ.out, uptoB_all 64 _ (outw_len _ _ _), HM.out])
          have H64 := Lib.hid (show (bv (uptoB 64 (outw M F j))).toArray.size = 64 by simp [bv_len, uptoB_len 64 (outw M F j) (by rw [outw_len]; omega)])
          have HZ64 := Lib.hid (show (bv z64).toArray.size = 64 from rfl)
          have hz4 : Hid (wr.heap[w.heap.size + 2]? = some (.cells (bv z64).toArray 36 (0, 0))) := (hb.block _ (by omega)).trans hz3.out
          have hb4 : Below w.heap.size w wr := hb3.trans (hb.mono (by omega))
          obtain ⟨out, hout⟩ : ∃ out, out = uptoB 64 (outw M F j) := ⟨_, rfl⟩
          rw [← hout] at HOUT H64 hg9
          clear hout
          go_wp2_with (first
            | (with_reducible refine wpList_load_row rfl 36 (.tmp 9) rfl v5.heap.size rfl 36 (bv out).toArray (0, 0) _ hg9.out Try.underlying36 rfl (by rw [H64.out]; kernel_rfl) ?_)
            | (with_reducible refine wpList_store_row rfl 36 (.tmp 6) (.tmp 38) rfl (w.heap.size + 1 + 1) (bv out).toArray rfl rfl 36 _ hz4.out (by rw [H64.out]; kernel_rfl) (by rw [H64.out]; exact HZ64.out) (all_oneCell_toArray (bv_one _)) ?_))
          refine bodyPost_ret (v := .agg (bv out).toArray) (results_cell_row Try.results13 _ _ (w.heap.size + 1 + 1) 36 _ (0, 0) _ rfl (setRow_heap _ _ _ _ _ _ hz4.out) Try.underlying36 rfl (by rw [H64.out]; kernel_rfl)) rfl ⟨by rw [HOUT.out], below_setRow hb4 (by omega) _⟩
end Go.Proofs.Ytcdjpjljaoeakaa
