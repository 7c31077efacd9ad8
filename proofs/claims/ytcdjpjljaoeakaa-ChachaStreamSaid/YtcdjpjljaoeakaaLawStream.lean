/-
  ChachaStream: the law's Go text returns true, whatever the key, the count, the nonce and the number of blocks. Conditions: none beyond the row's own.
-/
import Derived.Test.YtcdjpjljaoeakaaChW
import Derived.Test.YtcdjpjljaoeakaaChX
import Derived.Test.YtcdjpjljaoeakaaChT
import Derived.Test.YtcdjpjljaoeakaaRng
namespace Go.Proofs.Ytcdjpjljaoeakaa
open Go.RowKit

set_option maxRecDepth 100000 in
set_option maxHeartbeats 600000 in
theorem walk_ChachaStream (w : World) (key : List UInt8) (hk : key.length = 32) (count : Nat) (hc : count < 4294967296) (nonce : List UInt8) (hn : nonce.length = 12) (n : Int) (_ : (Lit.int .i64 n).wf = true) :
    Calls Try.prog 6 #[.agg (bv key).toArray, .int .u32 (count : Int), .agg (bv nonce).toArray, .int .i64 n] w fun e w' => e = .returned (.bool true) ∧ Below w.heap.size w w' := by
  have hzb := zero_b64
  have HK := Lib.hid hk
  have HN := Lib.hid hn
  have HKS := Lib.hid (show (bv key).toArray.size = 32 by simp [bv_len, hk])
  have HNS := Lib.hid (show (bv nonce).toArray.size = 12 by simp [bv_len, hn])
  clear hk hn
  obtain ⟨W, hW, hgK, hgN, hbW, hsW⟩ := pair_new w (bv key).toArray (bv nonce).toArray 31 32
  have HW := Lib.hid hW
  have hsW1 : w.heap.size < W.heap.size := by have := hsW.out; omega
  have hsW2 : w.heap.size + 1 < W.heap.size := by have := hsW.out; omega
  clear hW
  go_enter Try.func6, Try.ntmps6
  go_upto_region 1 with fail
  rw [HW.out]
  go_wp2_with fail
  refine (awake_any W).mono ?_
  rintro e w1 ⟨rfl, hb1⟩
  have hgK1 : Hid (w1.heap[w.heap.size]? = some (.cells (bv key).toArray 31 (0, 0))) := (hb1.block _ hsW1).trans hgK.out
  have hgN1 : Hid (w1.heap[w.heap.size + 1]? = some (.cells (bv nonce).toArray 32 (0, 0))) := (hb1.block _ hsW2).trans hgN.out
  have hbw1 : Below w.heap.size w w1 := hbW.trans (hb1.mono (by omega))
  have hs1 : w.heap.size + 1 < w1.heap.size := by have := hb1.size; omega
  have hs1' : w.heap.size < w1.heap.size := by omega
  clear hgK hgN hb1 hbW hsW hsW1 hsW2 HW
  by_cases h1 : n < 0
  · go_wp2
    go_ret
    exact ⟨rfl, hbw1⟩
  by_cases h2 : 4 < n
  · go_wp2
    go_ret
    exact ⟨rfl, hbw1⟩
  by_cases h3 : (4294967286 : Int) < (count : Int)
  · go_wp2
    go_ret
    exact ⟨rfl, hbw1⟩
  obtain ⟨N, rfl⟩ : ∃ k : Nat, n = (k : Int) := ⟨n.toNat, by omega⟩
  have hN : N ≤ 4 := by omega
  have hcN : count ≤ 4294967286 := by omega
  obtain ⟨i0, hi, hz0, hz1, hz2⟩ := info_parts Try.infoByte
  obtain ⟨w2, hrun, hg2, hb2, hs2⟩ := make_bytes (P := Try.prog) Try.underlying26 hi hz0 hz1 hz2 (64 * N) (64 * N) (64 * (N : Int)) (64 * (N : Int)) (by omega) (by omega) (by omega) (by omega) w1.drew
  have hb2' : Below w1.heap.size w1 w2 := below_undrew hb2.out
  have hx := cxor_ok w2 key nonce (List.replicate (64 * N) 0) count (some ⟨w1.drew.heap.size, 0, none⟩) (64 * N) (64 * N) HK.out HN.out hc (byt_row hg2.out) (by simp) (Nat.le_refl _) (by omega) (by rw [nblk64]; omega)
  rw [xor_zeros] at hx
  have hwr : IntKind.i64.wrap (64 * (N : Int)) = 64 * (N : Int) := IntWalk.i64_in _ (by omega)
  clear h1 h2 h3 hi hz0 hz1 hz2 hg2
  go_wp2_with fail
  refine wp_region_held_drew (S := (fun W => Below w1.heap.size w1 W)) (by kernel_rfl) ((Below.refl _ _).drew) (fun hHeld => ?_)
  refine wpAnyH_take (i := 0) (oi := ⟨(some 26), _, _, _, _, _⟩) (v := _) rfl (by kernel_rfl) (by kernel_rfl) (by kernel_rfl) (fun _ _ _ h => h) (yieldsIf_load_mid (by rfl) _ _ rfl w.heap.size 0 rfl (bv key) _ (fun W hW => range_row ((hW.block _ hs1').trans hgK1.out)) (Try.underlying31) (rfl) (by rw [bv_len, HK.out]; kernel_rfl)) hHeld ?_
  try simp only [Act.put, List.setIfInBounds_toArray, List.set_cons_zero, List.set_cons_succ]
  refine wpAnyH_take (i := 1) (oi := ⟨(some 27), _, _, _, _, _⟩) (v := ?vq1_0) rfl (by kernel_rfl) (by kernel_rfl) (by kernel_rfl) (fun _ _ _ h => h) (Or.inl ⟨by rfl, ?yq1_0⟩) hHeld ?_
  case yq1_0 => (intro W0 hSw; go_simp; try with_reducible rfl)
  try simp only [Act.put, List.setIfInBounds_toArray, List.set_cons_zero, List.set_cons_succ]
  refine wpAnyH_take (i := 2) (oi := ⟨(some 28), _, _, _, _, _⟩) (v := _) rfl (by kernel_rfl) (by kernel_rfl) (by kernel_rfl) (fun _ _ _ h => h) (yieldsIf_load_mid (by rfl) _ _ rfl (w.heap.size + 1) 0 rfl (bv nonce) _ (fun W hW => range_row ((hW.block _ hs1).trans hgN1.out)) (Try.underlying32) (rfl) (by rw [bv_len, HN.out]; kernel_rfl)) hHeld ?_
  try simp only [Act.put, List.setIfInBounds_toArray, List.set_cons_zero, List.set_cons_succ]
  refine wpAnyH_take (i := 3) (oi := ⟨(some 29), _, _, _, _, _⟩) (v := ?vq1_1) rfl (by kernel_rfl) (by kernel_rfl) (by kernel_rfl) (fun _ _ _ h => h) (Or.inl ⟨by rfl, ?yq1_1⟩) hHeld ?_
  case yq1_1 => (intro W0 hSw; go_simp; try with_reducible rfl)
  try simp only [Act.put, List.setIfInBounds_toArray, List.set_cons_zero, List.set_cons_succ]
  refine wpAnyH_take (i := 4) (oi := ⟨(some 30), _, _, _, _, _⟩) (v := ?vq1_2) rfl (by kernel_rfl) (by kernel_rfl) (by kernel_rfl) (fun _ _ _ h => h) (Or.inl ⟨by rfl, ?yq1_2⟩) hHeld ?_
  case yq1_2 => (intro W0 hSw; go_simp; try with_reducible rfl)
  try simp only [Act.put, List.setIfInBounds_toArray, List.set_cons_zero, List.set_cons_succ]
  refine wpAnyH_ready (rs := [5]) (by kernel_rfl) (by simp) ?_
  refine AllReadyH.cons (i := 5) (o := ⟨(some 31), _, _, _, _, _⟩) rfl (fun K hK => ?_) AllReadyH.nil
  go_simp
  refine hK.out _ _ (hb2') (fun hHeld => ?_)
  clear hK K
  try simp only [Act.put, List.setIfInBounds_toArray, List.set_cons_zero, List.set_cons_succ]
  refine wpAnyH_ready (rs := [6]) (by kernel_rfl) (by simp) ?_
  refine AllReadyH.cons (i := 6) (o := ⟨(some 32), _, _, _, _, _⟩) rfl (fun K hK => ?_) AllReadyH.nil
  go_simp
  refine hx.mono ?_
  rintro e w3 ⟨A3, c3, rfl, hr3, hb3⟩
  have hb3' : Below w1.heap.size w1 w3 := below_next hb2' hb2'.size hb3
  refine hK.out _ _ (hb3') (fun hHeld => ?_)
  clear hK K
  try simp only [Act.put, List.setIfInBounds_toArray, List.set_cons_zero, List.set_cons_succ]
  refine wpAnyH_take (i := 7) (oi := ⟨(some 25), _, _, _, _, _⟩) (v := ?vq1_3) rfl (by kernel_rfl) (by kernel_rfl) (by kernel_rfl) (fun _ _ _ h => h) (Or.inl ⟨by rfl, ?yq1_3⟩) hHeld ?_
  case yq1_3 => (intro W0 hSw; go_simp; try with_reducible rfl)
  try simp only [Act.put, List.setIfInBounds_toArray, List.set_cons_zero, List.set_cons_succ]
  refine wpAnyH_take (i := 8) (oi := ⟨(some 33), _, _, _, _, _⟩) (v := ?vq1_4) rfl (by kernel_rfl) (by kernel_rfl) (by kernel_rfl) (fun _ _ _ h => h) (Or.inl ⟨by rfl, ?yq1_4⟩) hHeld ?_
  case yq1_4 => (intro W0 hSw; go_simp; try with_reducible rfl)
  try simp only [Act.put, List.setIfInBounds_toArray, List.set_cons_zero, List.set_cons_succ]
  refine wpAnyH_take (i := 9) (oi := ⟨(some 34), _, _, _, _, _⟩) (v := ?vq1_5) rfl (by kernel_rfl) (by kernel_rfl) (by kernel_rfl) (fun _ _ _ h => h) (Or.inl ⟨by rfl, ?yq1_5⟩) hHeld ?_
  case yq1_5 => (intro W0 hSw; go_simp; try with_reducible rfl)
  try simp only [Act.put, List.setIfInBounds_toArray, List.set_cons_zero, List.set_cons_succ]
  refine wpAnyH_take (i := 10) (oi := ⟨(some 9), _, _, _, _, _⟩) (v := ?vq1_6) rfl (by kernel_rfl) (by kernel_rfl) (by kernel_rfl) (fun _ _ _ h => h) (Or.inl ⟨by rfl, ?yq1_6⟩) hHeld ?_
  case yq1_6 => (intro W0 hSw; go_simp; try with_reducible rfl)
  try simp only [Act.put, List.setIfInBounds_toArray, List.set_cons_zero, List.set_cons_succ]
  refine wpAnyH_take (i := 11) (oi := ⟨(some 10), _, _, _, _, _⟩) (v := ?vq1_7) rfl (by kernel_rfl) (by kernel_rfl) (by kernel_rfl) (fun _ _ _ h => h) (Or.inl ⟨by rfl, ?yq1_7⟩) hHeld ?_
  case yq1_7 => (intro W0 hSw; go_simp; try with_reducible rfl)
  try simp only [Act.put, List.setIfInBounds_toArray, List.set_cons_zero, List.set_cons_succ]
  refine wpAnyH_done (by kernel_rfl) ?_ _
  generalize decide ((N : Int) < 0) = d1
  generalize decide (4 < (N : Int)) = d2
  generalize decide (4294967286 < (count : Int)) = d3
  have hgK3 : Hid (w3.heap[w.heap.size]? = some (.cells (bv key).toArray 31 (0, 0))) := (hb3'.block _ hs1').trans hgK1.out
  have hgN3 : Hid (w3.heap[w.heap.size + 1]? = some (.cells (bv nonce).toArray 32 (0, 0))) := (hb3'.block _ hs1).trans hgN1.out
  have hbw3 : Below w.heap.size w w3 := below_next hbw1 (by omega) hb3'
  have hs3 : w.heap.size + 1 < w3.heap.size := Nat.lt_of_lt_of_le hs1 hb3'.size
  have hs3' : w.heap.size < w3.heap.size := by omega
  obtain ⟨X, hX⟩ : ∃ X, X = streamOf key count nonce N := ⟨_, rfl⟩
  rw [← hX] at hr3
  have hbX := hr3.byt
  have hcX := hr3.cap
  have HXL := Lib.hid hr3.len
  have HXA := vlt (show ∀ i, i < N → (X.drop (64 * i)).take 64 = blockOf key ((count + i) % 4294967296) nonce by intro i hi; rw [hX]; exact stream_at key count nonce N i hi)
  clear hX hr3 hx hb3 hb3' hb2' hb2 hrun hgK1 hgN1 hbw1 hs1 hs1' hHeld hwr
  go_wp2
  go_loopw [11] (fun i wr => ∃ k : Nat, k ≤ N ∧ i = .int .i64 (k : Int) ∧ Below w3.heap.size w3 wr) (fun i _ => N - (intOf i).toNat)
  case atStart => exact ⟨0, by omega, rfl, Below.refl _ _⟩
  case round =>
    obtain ⟨k, hkN, rfl, hb⟩ := hrel
    by_cases hlt : k < N
    · have hgK4 : Hid (wr.heap[w.heap.size]? = some (.cells (bv key).toArray 31 (0, 0))) := (hb.block _ hs3').trans hgK3.out
      have hgN4 : Hid (wr.heap[w.heap.size + 1]? = some (.cells (bv nonce).toArray 32 (0, 0))) := (hb.block _ hs3).trans hgN3.out
      obtain ⟨cv, hcv⟩ : ∃ cv, cv = (count + k) % 4294967296 := ⟨_, rfl⟩
      have EC := Lib.hid (show (count : Int) + (k : Int) = (cv : Int) by omega)
      have lcv : cv < 4294967296 := by rw [hcv]; exact Nat.mod_lt _ (by decide)
      have hblk := block_ex wr key nonce cv HK.out HN.out lcv
      have HCV := vlt hcv
      clear hcv
      go_wp2_with (first
        | (with_reducible refine wpList_load_row rfl 31 (.tmp 4) rfl w.heap.size rfl 31 (bv key).toArray (0, 0) _ hgK4.out Try.underlying31 rfl (by rw [HKS.out]; kernel_rfl) ?_)
        | (with_reducible refine wpList_load_row rfl 32 (.tmp 6) rfl (w.heap.size + 1) rfl 32 (bv nonce).toArray (0, 0) _ hgN4.out Try.underlying32 rfl (by rw [HNS.out]; kernel_rfl) ?_))
      rw [EC.out]
      refine hblk.mono ?_
      rintro e w5 ⟨bl, rfl, hbl, hbll, hb5⟩
      clear hblk EC
      have HBS := Lib.hid (show (bv bl).toArray.size = 64 by simp [bv_len, hbll.out])
      have HZ64 := Lib.hid (show (bv z64).toArray.size = 64 from rfl)
      go_upto_region 12 with ((with_reducible refine wpList_store_row rfl 36 (.tmp 12) (.tmp 55) rfl w5.heap.size (bv bl).toArray rfl rfl 36 _ (heap_alloc_new _ _) (by rw [HBS.out]; kernel_rfl) (by rw [HBS.out]; exact HZ64.out) (all_oneCell_toArray (bv_one _)) ?_); rw [World.setRow_alloc_new])
      have hg6 : Hid ((w5.alloc (.cells (bv bl).toArray 36)).heap[w5.heap.size]? = some (.cells (bv bl).toArray 36 (0, 0))) := heap_alloc_new _ _
      have hb6 : Below w3.heap.size w3 (w5.alloc (.cells (bv bl).toArray 36)) := (below_next hb hb.size hb5).alloc (Nat.le_trans hb.size hb5.size) _
      generalize w5.alloc (.cells (bv bl).toArray 36) = w6 at *
      have hcut := run_cut_lh Try.underlying26 Try.sizeByte A3 (64 * N) c3 (64 * k) (64 * k + 64) (64 * (k : Int)) (64 * (k : Int) + 64) (by omega) (by omega) (by omega) (by omega)
      rw [show 64 * k + 64 - 64 * k = 64 by omega] at hcut
      have hcuts := cut_all Try.underlying36 Try.sizeByte w5.heap.size 0 (by decide)
      have hbt := ((hbX.below hb6).cut (64 * k) c3 (by rw [HXL.out]; exact hcX)).take 64
      generalize (if c3 = 64 * k then A3 else A3.map (·.add (64 * k))) = A4 at *
      rw [HXA.out k hlt, ← HCV.out, ← hbl.out] at hbt
      have hbt6 := hbt.up hb6.size
      have hbs := byt_row hg6.out
      have hcx : ∀ W, Below w6.heap.size w6 W → (convert 26 9 (.slice A4 64 (c3 - 64 * k))).run Try.prog W = .ok (.string ⟨bl.toArray⟩) W := fun W h =>
        conv_bytes Try.underlying26 Try.underlying5 Try.underlying9 (hbt6.below h) 64 (c3 - 64 * k) hbll.out
      have hcy : ∀ W, Below w6.heap.size w6 W → (convert 26 9 (.slice (some ⟨w5.heap.size, 0, none⟩) 64 64)).run Try.prog W = .ok (.string ⟨bl.toArray⟩) W := fun W h =>
        conv_bytes Try.underlying26 Try.underlying5 Try.underlying9 (hbs.below h) 64 64 hbll.out
      have hwr1 : IntKind.i64.wrap (64 * (k : Int)) = 64 * (k : Int) := IntWalk.i64_in _ (by omega)
      have hwr2 : IntKind.i64.wrap (64 * (k : Int) + 64) = 64 * (k : Int) + 64 := IntWalk.i64_in _ (by omega)
      clear hbt hbt6 hbs hg6
      refine wp_region_held_drew (S := (fun W => Below w6.heap.size w6 W)) (by kernel_rfl) ((Below.refl _ _).drew) (fun hHeld => ?_)
      refine wpAnyH_take (i := 0) (oi := ⟨(some 56), _, _, _, _, _⟩) (v := ?vq2_0) rfl (by kernel_rfl) (by kernel_rfl) (by kernel_rfl) (fun _ _ _ h => h) (Or.inl ⟨by rfl, ?yq2_0⟩) hHeld ?_
      case yq2_0 => (intro W0 hSw; go_simp; try with_reducible rfl)
      try simp only [Act.put, List.setIfInBounds_toArray, List.set_cons_zero, List.set_cons_succ]
      refine wpAnyH_take (i := 1) (oi := ⟨(some 57), _, _, _, _, _⟩) (v := ?vq2_1) rfl (by kernel_rfl) (by kernel_rfl) (by kernel_rfl) (fun _ _ _ h => h) (Or.inl ⟨by rfl, ?yq2_1⟩) hHeld ?_
      case yq2_1 => (intro W0 hSw; go_simp; try with_reducible rfl)
      try simp only [Act.put, List.setIfInBounds_toArray, List.set_cons_zero, List.set_cons_succ]
      refine wpAnyH_take (i := 2) (oi := ⟨(some 58), _, _, _, _, _⟩) (v := ?vq2_2) rfl (by kernel_rfl) (by kernel_rfl) (by kernel_rfl) (fun _ _ _ h => h) (Or.inl ⟨by rfl, ?yq2_2⟩) hHeld ?_
      case yq2_2 => (intro W0 hSw; go_simp; try with_reducible rfl)
      try simp only [Act.put, List.setIfInBounds_toArray, List.set_cons_zero, List.set_cons_succ]
      refine wpAnyH_take (i := 3) (oi := ⟨(some 59), _, _, _, _, _⟩) (v := ?vq2_3) rfl (by kernel_rfl) (by kernel_rfl) (by kernel_rfl) (fun _ _ _ h => h) (Or.inl ⟨by rfl, ?yq2_3⟩) hHeld ?_
      case yq2_3 => (intro W0 hSw; go_simp; try with_reducible rfl)
      try simp only [Act.put, List.setIfInBounds_toArray, List.set_cons_zero, List.set_cons_succ]
      refine wpAnyH_take (i := 4) (oi := ⟨(some 60), _, _, _, _, _⟩) (v := ?vq2_4) rfl (by kernel_rfl) (by kernel_rfl) (by kernel_rfl) (fun _ _ _ h => h) (Or.inl ⟨by rfl, ?yq2_4⟩) hHeld ?_
      case yq2_4 => (intro W0 hSw; go_simp; try with_reducible rfl)
      try simp only [Act.put, List.setIfInBounds_toArray, List.set_cons_zero, List.set_cons_succ]
      refine wpAnyH_take (i := 5) (oi := ⟨(some 61), _, _, _, _, _⟩) (v := ?vq2_5) rfl (by kernel_rfl) (by kernel_rfl) (by kernel_rfl) (fun _ _ _ h => h) (Or.inl ⟨by rfl, ?yq2_5⟩) hHeld ?_
      case yq2_5 => (intro W0 hSw; go_simp; try with_reducible rfl)
      try simp only [Act.put, List.setIfInBounds_toArray, List.set_cons_zero, List.set_cons_succ]
      refine wpAnyH_take (i := 6) (oi := ⟨(some 62), _, _, _, _, _⟩) (v := ?vq2_6) rfl (by kernel_rfl) (by kernel_rfl) (by kernel_rfl) (fun _ _ _ h => h) (Or.inl ⟨by rfl, ?yq2_6⟩) hHeld ?_
      case yq2_6 => (intro W0 hSw; go_simp; try with_reducible rfl)
      try simp only [Act.put, List.setIfInBounds_toArray, List.set_cons_zero, List.set_cons_succ]
      refine wpAnyH_take (i := 7) (oi := ⟨(some 63), _, _, _, _, _⟩) (v := ?vq2_7) rfl (by kernel_rfl) (by kernel_rfl) (by kernel_rfl) (fun _ _ _ h => h) (Or.inl ⟨by rfl, ?yq2_7⟩) hHeld ?_
      case yq2_7 => (intro W0 hSw; go_simp; try with_reducible rfl)
      try simp only [Act.put, List.setIfInBounds_toArray, List.set_cons_zero, List.set_cons_succ]
      refine wpAnyH_take (i := 8) (oi := ⟨(some 64), _, _, _, _, _⟩) (v := ?vq2_8) rfl (by kernel_rfl) (by kernel_rfl) (by kernel_rfl) (fun _ _ _ h => h) (Or.inl ⟨by rfl, ?yq2_8⟩) hHeld ?_
      case yq2_8 => (intro W0 hSw; go_simp; try with_reducible rfl)
      try simp only [Act.put, List.setIfInBounds_toArray, List.set_cons_zero, List.set_cons_succ]
      refine wpAnyH_take (i := 9) (oi := ⟨(some 65), _, _, _, _, _⟩) (v := ?vq2_9) rfl (by kernel_rfl) (by kernel_rfl) (by kernel_rfl) (fun _ _ _ h => h) (Or.inl ⟨by rfl, ?yq2_9⟩) hHeld ?_
      case yq2_9 => (intro W0 hSw; go_simp; try with_reducible rfl)
      try simp only [Act.put, List.setIfInBounds_toArray, List.set_cons_zero, List.set_cons_succ]
      refine wpAnyH_take (i := 10) (oi := ⟨(some 66), _, _, _, _, _⟩) (v := ?vq2_10) rfl (by kernel_rfl) (by kernel_rfl) (by kernel_rfl) (fun _ _ _ h => h) (Or.inl ⟨by rfl, ?yq2_10⟩) hHeld ?_
      case yq2_10 => (intro W0 hSw; go_simp; try with_reducible rfl)
      try simp only [Act.put, List.setIfInBounds_toArray, List.set_cons_zero, List.set_cons_succ]
      refine wpAnyH_done (by kernel_rfl) ?_ _
      clear hcx hcy hcut hcuts hHeld
      go_wp2
      go_roundw
      case rel => exact ⟨k + 1, by omega, by go_num, hb6.drew⟩
      case measure => simp [intOf]; omega
    · have hbw : Below w.heap.size w wr := below_next hbw3 (by omega) hb
      go_wp2
      go_ret
      exact ⟨rfl, hbw⟩
end Go.Proofs.Ytcdjpjljaoeakaa
