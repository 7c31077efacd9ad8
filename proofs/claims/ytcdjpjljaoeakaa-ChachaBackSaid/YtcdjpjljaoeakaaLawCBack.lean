/-
  ChachaBack: the law's Go text returns true, whatever the key, the count, the nonce, the bytes and the cut. Conditions: the bytes' slice is as the row reads it.
-/
import Derived.Test.YtcdjpjljaoeakaaChW
import Derived.Test.YtcdjpjljaoeakaaChX
import Derived.Test.YtcdjpjljaoeakaaChT
import Derived.Test.YtcdjpjljaoeakaaRng
namespace Go.Proofs.Ytcdjpjljaoeakaa
open Go.RowKit

set_option maxRecDepth 100000 in
set_option maxHeartbeats 1000000 in
theorem walk_ChachaBack (w : World) (key : List UInt8) (hk : key.length = 32) (count : Nat) (hc : count < 4294967296) (nonce : List UInt8) (hn : nonce.length = 12) (A : Option Addr) (b : List UInt8) (n c : Nat) (hb : Byt w w.heap.size A b) (hl : b.length = n) (hcap : n ≤ c) (cut : Int) (_ : (Lit.int .i64 cut).wf = true) :
    Calls Try.prog 5 #[.agg (bv key).toArray, .int .u32 (count : Int), .agg (bv nonce).toArray, .slice A n c, .int .i64 cut] w fun e w' => e = .returned (.bool true) ∧ Below w.heap.size w w' := by
  have HK := Lib.hid hk
  have HN := Lib.hid hn
  have HL := Lib.hid hl
  have HKS := Lib.hid (show (bv key).toArray.size = 32 by simp [bv_len, hk])
  have HNS := Lib.hid (show (bv nonce).toArray.size = 12 by simp [bv_len, hn])
  clear hk hn hl
  obtain ⟨W, hW, hgK, hgN, hbW, hsW⟩ := pair_new w (bv key).toArray (bv nonce).toArray 31 32
  have HW := Lib.hid hW
  have hsW1 : w.heap.size < W.heap.size := by have := hsW.out; omega
  have hsW2 : w.heap.size + 1 < W.heap.size := by have := hsW.out; omega
  clear hW
  go_enter Try.func5, Try.ntmps5
  go_upto_region 1 with fail
  rw [HW.out]
  go_wp2_with fail
  refine (awake_any W).mono ?_
  rintro e w1 ⟨rfl, hb1⟩
  have hgK1 : Hid (w1.heap[w.heap.size]? = some (.cells (bv key).toArray 31 (0, 0))) := (hb1.block _ hsW1).trans hgK.out
  have hgN1 : Hid (w1.heap[w.heap.size + 1]? = some (.cells (bv nonce).toArray 32 (0, 0))) := (hb1.block _ hsW2).trans hgN.out
  have hbw1 : Below w.heap.size w w1 := hbW.trans (hb1.mono (by omega))
  have hs1 : w.heap.size + 1 < w1.heap.size := by have := hb1.size; omega
  clear hgK hgN hb1 hbW hsW hsW1 hsW2 HW
  by_cases h1 : (300 : Int) < (n : Int)
  · go_wp2
    go_ret
    exact ⟨rfl, hbw1⟩
  by_cases h2 : (4294967276 : Int) < (count : Int)
  · go_wp2
    go_ret
    exact ⟨rfl, hbw1⟩
  by_cases h3 : cut < 0
  · go_wp2
    go_ret
    exact ⟨rfl, hbw1⟩
  by_cases h4 : (n : Int) / 64 < cut
  · go_wp2
    go_ret
    exact ⟨rfl, hbw1⟩
  obtain ⟨C, rfl⟩ : ∃ k : Nat, cut = (k : Int) := ⟨cut.toNat, by omega⟩
  have hC : 64 * C ≤ n := by omega
  have hn300 : n ≤ 300 := by omega
  have hcN : count ≤ 4294967276 := by omega
  have hnb : ∀ m, m ≤ 300 → nblk m ≤ 5 := fun m hm => by unfold nblk; omega
  have hbA1 := (hb.below hbw1).up hbw1.size
  have hx1 := cxor_ok w1 key nonce b count A n c HK.out HN.out hc hbA1 HL.out hcap (by omega) (by have := hnb n hn300; omega)
  go_wp2_with (first
    | (with_reducible refine wpList_load_row rfl 31 (.tmp 5) rfl w.heap.size rfl 31 (bv key).toArray (0, 0) _ hgK1.out Try.underlying31 rfl (by rw [HKS.out]; kernel_rfl) ?_)
    | (with_reducible refine wpList_load_row rfl 32 (.tmp 7) rfl (w.heap.size + 1) rfl 32 (bv nonce).toArray (0, 0) _ hgN1.out Try.underlying32 rfl (by rw [HNS.out]; kernel_rfl) ?_))
  refine hx1.mono ?_
  rintro e w2 ⟨A2, c2, rfl, hr2, hb2⟩
  clear hx1 h1 h2 h3 h4
  obtain ⟨X, hX⟩ : ∃ X, X = xorOf key count nonce b := ⟨_, rfl⟩
  rw [← hX] at hr2
  have HX := vlt hX
  have hx2 := cxor_ok w2 key nonce X count A2 n c2 HK.out HN.out hc hr2.byt hr2.len hr2.cap (by omega) (by have := hnb n hn300; omega)
  have hY : xorOf key count nonce X = b := by rw [hX]; exact xor_twice _ _ _ _
  rw [hY] at hx2
  have hgK2 : Hid (w2.heap[w.heap.size]? = some (.cells (bv key).toArray 31 (0, 0))) := (hb2.block _ (by omega)).trans hgK1.out
  have hgN2 : Hid (w2.heap[w.heap.size + 1]? = some (.cells (bv nonce).toArray 32 (0, 0))) := (hb2.block _ hs1).trans hgN1.out
  have hbw2 : Below w.heap.size w w2 := below_next hbw1 (by omega) hb2
  have hs2 : w.heap.size + 1 < w2.heap.size := Nat.lt_of_lt_of_le hs1 hb2.size
  clear hX hY hb2 hgK1 hgN1 hbw1 hs1 hbA1
  go_wp2_with (first
    | (with_reducible refine wpList_load_row rfl 31 (.tmp 5) rfl w.heap.size rfl 31 (bv key).toArray (0, 0) _ hgK2.out Try.underlying31 rfl (by rw [HKS.out]; kernel_rfl) ?_)
    | (with_reducible refine wpList_load_row rfl 32 (.tmp 7) rfl (w.heap.size + 1) rfl 32 (bv nonce).toArray (0, 0) _ hgN2.out Try.underlying32 rfl (by rw [HNS.out]; kernel_rfl) ?_))
  refine hx2.mono ?_
  rintro e w3 ⟨A3, c3, rfl, hr3, hb3⟩
  clear hx2
  have hr23 := hr2.keep hb3
  have hgK3 : Hid (w3.heap[w.heap.size]? = some (.cells (bv key).toArray 31 (0, 0))) := (hb3.block _ (by omega)).trans hgK2.out
  have hgN3 : Hid (w3.heap[w.heap.size + 1]? = some (.cells (bv nonce).toArray 32 (0, 0))) := (hb3.block _ hs2).trans hgN2.out
  have hbw3 : Below w.heap.size w w3 := below_next hbw2 (by omega) hb3
  have hs3 : w.heap.size + 1 < w3.heap.size := Nat.lt_of_lt_of_le hs2 hb3.size
  have hs3' : w.heap.size < w3.heap.size := by omega
  have hbA3 := (hb.below hbw3).up hbw3.size
  have hcut := run_cut_h Try.underlying26 Try.sizeByte A n c (64 * C) (64 * (C : Int)) (by omega) (by omega)
  have hx3 := cxor_ok w3.drew key nonce (b.take (64 * C)) count A (64 * C) c HK.out HN.out hc ((hbA3.take (64 * C)).drew) (by rw [List.length_take, HL.out]; omega) (by omega) (by omega) (by have := hnb (64 * C) (by omega); omega)
  have hwr : IntKind.i64.wrap (64 * (C : Int)) = 64 * (C : Int) := IntWalk.i64_in _ (by omega)
  obtain ⟨PP, hPP⟩ : ∃ X, X = xorOf key count nonce (b.take (64 * C)) := ⟨_, rfl⟩
  rw [← hPP] at hx3
  have HP := vlt hPP
  clear hPP hr2 hb3 hgK2 hgN2 hbw2 hs2
  go_wp2_with fail
  refine wp_region_held_drew (S := (fun W => Below w3.heap.size w3 W)) (by kernel_rfl) ((Below.refl _ _).drew) (fun hHeld => ?_)
  refine wpAnyH_take (i := 0) (oi := ⟨(some 56), _, _, _, _, _⟩) (v := _) rfl (by kernel_rfl) (by kernel_rfl) (by kernel_rfl) (fun _ _ _ h => h) (yieldsIf_load_mid (by rfl) _ _ rfl w.heap.size 0 rfl (bv key) _ (fun W hW => range_row ((hW.block _ hs3').trans hgK3.out)) (Try.underlying31) (rfl) (by rw [bv_len, HK.out]; kernel_rfl)) hHeld ?_
  try simp only [Act.put, List.setIfInBounds_toArray, List.set_cons_zero, List.set_cons_succ]
  refine wpAnyH_take (i := 1) (oi := ⟨(some 57), _, _, _, _, _⟩) (v := ?vq1_0) rfl (by kernel_rfl) (by kernel_rfl) (by kernel_rfl) (fun _ _ _ h => h) (Or.inl ⟨by rfl, ?yq1_0⟩) hHeld ?_
  case yq1_0 => (intro W0 hSw; go_simp; try with_reducible rfl)
  try simp only [Act.put, List.setIfInBounds_toArray, List.set_cons_zero, List.set_cons_succ]
  refine wpAnyH_take (i := 2) (oi := ⟨(some 58), _, _, _, _, _⟩) (v := _) rfl (by kernel_rfl) (by kernel_rfl) (by kernel_rfl) (fun _ _ _ h => h) (yieldsIf_load_mid (by rfl) _ _ rfl (w.heap.size + 1) 0 rfl (bv nonce) _ (fun W hW => range_row ((hW.block _ hs3).trans hgN3.out)) (Try.underlying32) (rfl) (by rw [bv_len, HN.out]; kernel_rfl)) hHeld ?_
  try simp only [Act.put, List.setIfInBounds_toArray, List.set_cons_zero, List.set_cons_succ]
  refine wpAnyH_take (i := 3) (oi := ⟨(some 59), _, _, _, _, _⟩) (v := ?vq1_1) rfl (by kernel_rfl) (by kernel_rfl) (by kernel_rfl) (fun _ _ _ h => h) (Or.inl ⟨by rfl, ?yq1_1⟩) hHeld ?_
  case yq1_1 => (intro W0 hSw; go_simp; try with_reducible rfl)
  try simp only [Act.put, List.setIfInBounds_toArray, List.set_cons_zero, List.set_cons_succ]
  refine wpAnyH_take (i := 4) (oi := ⟨(some 60), _, _, _, _, _⟩) (v := ?vq1_2) rfl (by kernel_rfl) (by kernel_rfl) (by kernel_rfl) (fun _ _ _ h => h) (Or.inl ⟨by rfl, ?yq1_2⟩) hHeld ?_
  case yq1_2 => (intro W0 hSw; go_simp; try with_reducible rfl)
  try simp only [Act.put, List.setIfInBounds_toArray, List.set_cons_zero, List.set_cons_succ]
  refine wpAnyH_take (i := 5) (oi := ⟨(some 61), _, _, _, _, _⟩) (v := ?vq1_3) rfl (by kernel_rfl) (by kernel_rfl) (by kernel_rfl) (fun _ _ _ h => h) (Or.inl ⟨by rfl, ?yq1_3⟩) hHeld ?_
  case yq1_3 => (intro W0 hSw; go_simp; try with_reducible rfl)
  try simp only [Act.put, List.setIfInBounds_toArray, List.set_cons_zero, List.set_cons_succ]
  refine wpAnyH_take (i := 6) (oi := ⟨(some 62), _, _, _, _, _⟩) (v := ?vq1_4) rfl (by kernel_rfl) (by kernel_rfl) (by kernel_rfl) (fun _ _ _ h => h) (Or.inl ⟨by rfl, ?yq1_4⟩) hHeld ?_
  case yq1_4 => (intro W0 hSw; go_simp; try with_reducible rfl)
  try simp only [Act.put, List.setIfInBounds_toArray, List.set_cons_zero, List.set_cons_succ]
  refine wpAnyH_ready (rs := [7]) (by kernel_rfl) (by simp) ?_
  refine AllReadyH.cons (i := 7) (o := ⟨(some 63), _, _, _, _, _⟩) rfl (fun K hK => ?_) AllReadyH.nil
  go_simp
  refine hx3.mono ?_
  rintro e w4 ⟨A4, c4, rfl, hr4, hb4d⟩
  have hb4 : Below w3.heap.size w3 w4 := below_undrew hb4d
  refine hK.out _ _ (hb4) (fun hHeld => ?_)
  clear hK K
  try simp only [Act.put, List.setIfInBounds_toArray, List.set_cons_zero, List.set_cons_succ]
  refine wpAnyH_take (i := 8) (oi := ⟨(some 55), _, _, _, _, _⟩) (v := ?vq1_5) rfl (by kernel_rfl) (by kernel_rfl) (by kernel_rfl) (fun _ _ _ h => h) (Or.inl ⟨by rfl, ?yq1_5⟩) hHeld ?_
  case yq1_5 => (intro W0 hSw; go_simp; try with_reducible rfl)
  try simp only [Act.put, List.setIfInBounds_toArray, List.set_cons_zero, List.set_cons_succ]
  refine wpAnyH_take (i := 9) (oi := ⟨(some 64), _, _, _, _, _⟩) (v := ?vq1_6) rfl (by kernel_rfl) (by kernel_rfl) (by kernel_rfl) (fun _ _ _ h => h) (Or.inl ⟨by rfl, ?yq1_6⟩) hHeld ?_
  case yq1_6 => (intro W0 hSw; go_simp; try with_reducible rfl)
  try simp only [Act.put, List.setIfInBounds_toArray, List.set_cons_zero, List.set_cons_succ]
  refine wpAnyH_take (i := 10) (oi := ⟨(some 65), _, _, _, _, _⟩) (v := ?vq1_7) rfl (by kernel_rfl) (by kernel_rfl) (by kernel_rfl) (fun _ _ _ h => h) (Or.inl ⟨by rfl, ?yq1_7⟩) hHeld ?_
  case yq1_7 => (intro W0 hSw; go_simp; try with_reducible rfl)
  try simp only [Act.put, List.setIfInBounds_toArray, List.set_cons_zero, List.set_cons_succ]
  refine wpAnyH_take (i := 11) (oi := ⟨(some 15), _, _, _, _, _⟩) (v := ?vq1_8) rfl (by kernel_rfl) (by kernel_rfl) (by kernel_rfl) (fun _ _ _ h => h) (Or.inl ⟨by rfl, ?yq1_8⟩) hHeld ?_
  case yq1_8 => (intro W0 hSw; go_simp; try with_reducible rfl)
  try simp only [Act.put, List.setIfInBounds_toArray, List.set_cons_zero, List.set_cons_succ]
  refine wpAnyH_take (i := 12) (oi := ⟨(some 16), _, _, _, _, _⟩) (v := ?vq1_9) rfl (by kernel_rfl) (by kernel_rfl) (by kernel_rfl) (fun _ _ _ h => h) (Or.inl ⟨by rfl, ?yq1_9⟩) hHeld ?_
  case yq1_9 => (intro W0 hSw; go_simp; try with_reducible rfl)
  try simp only [Act.put, List.setIfInBounds_toArray, List.set_cons_zero, List.set_cons_succ]
  refine wpAnyH_done (by kernel_rfl) ?_ _
  have hr24 := hr23.keep hb4
  have hr34 := hr3.keep hb4
  have hgK4 : Hid (w4.heap[w.heap.size]? = some (.cells (bv key).toArray 31 (0, 0))) := (hb4.block _ hs3').trans hgK3.out
  have hgN4 : Hid (w4.heap[w.heap.size + 1]? = some (.cells (bv nonce).toArray 32 (0, 0))) := (hb4.block _ hs3).trans hgN3.out
  have hbw4 : Below w.heap.size w w4 := below_next hbw3 (by omega) hb4
  have hs4 : w.heap.size + 1 < w4.heap.size := Nat.lt_of_lt_of_le hs3 hb4.size
  have hs4' : w.heap.size < w4.heap.size := by omega
  have hbA4 := (hb.below hbw4).up hbw4.size
  have hcut2 := run_cut_l Try.underlying26 Try.sizeByte A n c (64 * C) (64 * (C : Int)) (by omega) hC
  have hbt := (hbA4.cut (64 * C) c (by rw [HL.out]; exact hcap))
  generalize (if c = 64 * C then A else A.map (·.add (64 * C))) = A5 at *
  obtain ⟨cv, hcv⟩ : ∃ cv, cv = count + C := ⟨_, rfl⟩
  have lcv : cv < 4294967296 := by omega
  have hw1 : IntKind.u32.wrap (C : Int) = (C : Int) := by simp [IntKind.wrap, IntKind.bits, IntKind.signed]; omega
  have hw2 : IntKind.u32.wrap ((count : Int) + (C : Int)) = (cv : Int) := by rw [hcv]; simp [IntKind.wrap, IntKind.bits, IntKind.signed]; omega
  have hx4 := cxor_ok w4.drew key nonce (b.drop (64 * C)) cv A5 (n - 64 * C) (c - 64 * C) HK.out HN.out lcv hbt.drew (by rw [List.length_drop, HL.out]) (by omega) (by omega) (by have := hnb (n - 64 * C) (by omega); omega)
  obtain ⟨QQ, hQQ⟩ : ∃ X, X = xorOf key cv nonce (b.drop (64 * C)) := ⟨_, rfl⟩
  rw [← hQQ] at hx4
  have HQ := vlt (show X = PP ++ QQ by rw [HX.out, HP.out, hQQ, hcv]; exact xor_parts key count nonce b C (by rw [HL.out]; exact hC))
  clear hQQ hcv hcut hx3 hr23 hr3 hgK3 hgN3 hbw3 hs3 hs3' hbA3 hb4 hb4d hHeld
  go_wp2_with fail
  refine wp_region_held_drew (S := (fun W => Below w4.heap.size w4 W)) (by kernel_rfl) ((Below.refl _ _).drew) (fun hHeld => ?_)
  refine wpAnyH_take (i := 0) (oi := ⟨(some 67), _, _, _, _, _⟩) (v := _) rfl (by kernel_rfl) (by kernel_rfl) (by kernel_rfl) (fun _ _ _ h => h) (yieldsIf_load_mid (by rfl) _ _ rfl w.heap.size 0 rfl (bv key) _ (fun W hW => range_row ((hW.block _ hs4').trans hgK4.out)) (Try.underlying31) (rfl) (by rw [bv_len, HK.out]; kernel_rfl)) hHeld ?_
  try simp only [Act.put, List.setIfInBounds_toArray, List.set_cons_zero, List.set_cons_succ]
  refine wpAnyH_take (i := 1) (oi := ⟨(some 68), _, _, _, _, _⟩) (v := ?vq2_0) rfl (by kernel_rfl) (by kernel_rfl) (by kernel_rfl) (fun _ _ _ h => h) (Or.inl ⟨by rfl, ?yq2_0⟩) hHeld ?_
  case yq2_0 => (intro W0 hSw; go_simp; try with_reducible rfl)
  try simp only [Act.put, List.setIfInBounds_toArray, List.set_cons_zero, List.set_cons_succ]
  refine wpAnyH_take (i := 2) (oi := ⟨(some 69), _, _, _, _, _⟩) (v := ?vq2_1) rfl (by kernel_rfl) (by kernel_rfl) (by kernel_rfl) (fun _ _ _ h => h) (Or.inl ⟨by rfl, ?yq2_1⟩) hHeld ?_
  case yq2_1 => (intro W0 hSw; go_simp; try with_reducible rfl)
  try simp only [Act.put, List.setIfInBounds_toArray, List.set_cons_zero, List.set_cons_succ]
  refine wpAnyH_take (i := 3) (oi := ⟨(some 70), _, _, _, _, _⟩) (v := ?vq2_2) rfl (by kernel_rfl) (by kernel_rfl) (by kernel_rfl) (fun _ _ _ h => h) (Or.inl ⟨by rfl, ?yq2_2⟩) hHeld ?_
  case yq2_2 => (intro W0 hSw; go_simp; try with_reducible rfl)
  try simp only [Act.put, List.setIfInBounds_toArray, List.set_cons_zero, List.set_cons_succ]
  refine wpAnyH_take (i := 4) (oi := ⟨(some 71), _, _, _, _, _⟩) (v := ?vq2_3) rfl (by kernel_rfl) (by kernel_rfl) (by kernel_rfl) (fun _ _ _ h => h) (Or.inl ⟨by rfl, ?yq2_3⟩) hHeld ?_
  case yq2_3 => (intro W0 hSw; go_simp; try with_reducible rfl)
  try simp only [Act.put, List.setIfInBounds_toArray, List.set_cons_zero, List.set_cons_succ]
  refine wpAnyH_take (i := 5) (oi := ⟨(some 72), _, _, _, _, _⟩) (v := _) rfl (by kernel_rfl) (by kernel_rfl) (by kernel_rfl) (fun _ _ _ h => h) (yieldsIf_load_mid (by rfl) _ _ rfl (w.heap.size + 1) 0 rfl (bv nonce) _ (fun W hW => range_row ((hW.block _ hs4).trans hgN4.out)) (Try.underlying32) (rfl) (by rw [bv_len, HN.out]; kernel_rfl)) hHeld ?_
  try simp only [Act.put, List.setIfInBounds_toArray, List.set_cons_zero, List.set_cons_succ]
  refine wpAnyH_take (i := 6) (oi := ⟨(some 73), _, _, _, _, _⟩) (v := ?vq2_4) rfl (by kernel_rfl) (by kernel_rfl) (by kernel_rfl) (fun _ _ _ h => h) (Or.inl ⟨by rfl, ?yq2_4⟩) hHeld ?_
  case yq2_4 => (intro W0 hSw; go_simp; try with_reducible rfl)
  try simp only [Act.put, List.setIfInBounds_toArray, List.set_cons_zero, List.set_cons_succ]
  refine wpAnyH_take (i := 7) (oi := ⟨(some 74), _, _, _, _, _⟩) (v := ?vq2_5) rfl (by kernel_rfl) (by kernel_rfl) (by kernel_rfl) (fun _ _ _ h => h) (Or.inl ⟨by rfl, ?yq2_5⟩) hHeld ?_
  case yq2_5 => (intro W0 hSw; go_simp; try with_reducible rfl)
  try simp only [Act.put, List.setIfInBounds_toArray, List.set_cons_zero, List.set_cons_succ]
  refine wpAnyH_take (i := 8) (oi := ⟨(some 75), _, _, _, _, _⟩) (v := ?vq2_6) rfl (by kernel_rfl) (by kernel_rfl) (by kernel_rfl) (fun _ _ _ h => h) (Or.inl ⟨by rfl, ?yq2_6⟩) hHeld ?_
  case yq2_6 => (intro W0 hSw; go_simp; try with_reducible rfl)
  try simp only [Act.put, List.setIfInBounds_toArray, List.set_cons_zero, List.set_cons_succ]
  refine wpAnyH_take (i := 9) (oi := ⟨(some 76), _, _, _, _, _⟩) (v := ?vq2_7) rfl (by kernel_rfl) (by kernel_rfl) (by kernel_rfl) (fun _ _ _ h => h) (Or.inl ⟨by rfl, ?yq2_7⟩) hHeld ?_
  case yq2_7 => (intro W0 hSw; go_simp; try with_reducible rfl)
  try simp only [Act.put, List.setIfInBounds_toArray, List.set_cons_zero, List.set_cons_succ]
  refine wpAnyH_ready (rs := [10]) (by kernel_rfl) (by simp) ?_
  refine AllReadyH.cons (i := 10) (o := ⟨(some 77), _, _, _, _, _⟩) rfl (fun K hK => ?_) AllReadyH.nil
  go_simp
  refine hx4.mono ?_
  rintro e w5 ⟨A6, c6, rfl, hr5, hb5d⟩
  have hb5 : Below w4.heap.size w4 w5 := below_undrew hb5d
  refine hK.out _ _ (hb5) (fun hHeld => ?_)
  clear hK K
  try simp only [Act.put, List.setIfInBounds_toArray, List.set_cons_zero, List.set_cons_succ]
  refine wpAnyH_take (i := 11) (oi := ⟨(some 66), _, _, _, _, _⟩) (v := ?vq2_8) rfl (by kernel_rfl) (by kernel_rfl) (by kernel_rfl) (fun _ _ _ h => h) (Or.inl ⟨by rfl, ?yq2_8⟩) hHeld ?_
  case yq2_8 => (intro W0 hSw; go_simp; try with_reducible rfl)
  try simp only [Act.put, List.setIfInBounds_toArray, List.set_cons_zero, List.set_cons_succ]
  refine wpAnyH_take (i := 12) (oi := ⟨(some 78), _, _, _, _, _⟩) (v := ?vq2_9) rfl (by kernel_rfl) (by kernel_rfl) (by kernel_rfl) (fun _ _ _ h => h) (Or.inl ⟨by rfl, ?yq2_9⟩) hHeld ?_
  case yq2_9 => (intro W0 hSw; go_simp; try with_reducible rfl)
  try simp only [Act.put, List.setIfInBounds_toArray, List.set_cons_zero, List.set_cons_succ]
  refine wpAnyH_take (i := 13) (oi := ⟨(some 79), _, _, _, _, _⟩) (v := ?vq2_10) rfl (by kernel_rfl) (by kernel_rfl) (by kernel_rfl) (fun _ _ _ h => h) (Or.inl ⟨by rfl, ?yq2_10⟩) hHeld ?_
  case yq2_10 => (intro W0 hSw; go_simp; try with_reducible rfl)
  try simp only [Act.put, List.setIfInBounds_toArray, List.set_cons_zero, List.set_cons_succ]
  refine wpAnyH_take (i := 14) (oi := ⟨(some 17), _, _, _, _, _⟩) (v := ?vq2_11) rfl (by kernel_rfl) (by kernel_rfl) (by kernel_rfl) (fun _ _ _ h => h) (Or.inl ⟨by rfl, ?yq2_11⟩) hHeld ?_
  case yq2_11 => (intro W0 hSw; go_simp; try with_reducible rfl)
  try simp only [Act.put, List.setIfInBounds_toArray, List.set_cons_zero, List.set_cons_succ]
  refine wpAnyH_take (i := 15) (oi := ⟨(some 18), _, _, _, _, _⟩) (v := ?vq2_12) rfl (by kernel_rfl) (by kernel_rfl) (by kernel_rfl) (fun _ _ _ h => h) (Or.inl ⟨by rfl, ?yq2_12⟩) hHeld ?_
  case yq2_12 => (intro W0 hSw; go_simp; try with_reducible rfl)
  try simp only [Act.put, List.setIfInBounds_toArray, List.set_cons_zero, List.set_cons_succ]
  refine wpAnyH_done (by kernel_rfl) ?_ _
  have hbw5 : Below w.heap.size w w5 := below_next hbw4 (by omega) hb5
  have hbA5 := (hb.below hbw5).up hbw5.size
  have k1 := conv_bytes (P := Try.prog) Try.underlying26 Try.underlying5 Try.underlying9 (hr34.keep hb5).byt n c3 HL.out
  have k2 := conv_bytes (P := Try.prog) Try.underlying26 Try.underlying5 Try.underlying9 hbA5 n c HL.out
  have k3 := conv_bytes (P := Try.prog) Try.underlying26 Try.underlying5 Try.underlying9 (hr24.keep hb5).byt n c2 hr24.len
  have k4 := conv_bytes (P := Try.prog) Try.underlying26 Try.underlying5 Try.underlying9 (hr4.keep hb5).byt (64 * C) c4 hr4.len
  have k5 := conv_bytes (P := Try.prog) Try.underlying26 Try.underlying5 Try.underlying9 hr5.byt (n - 64 * C) c6 hr5.len
  have hpl : PP.length = 64 * C := hr4.len
  have hql : QQ.length = n - 64 * C := hr5.len
  clear hHeld hx4 hr24 hr34 hr4 hr5 hb5 hb5d hcut2 hw1 hw2 hbt hbA4 hbA5
  go_wp2
  go_ret
  refine ⟨ret_bool ?_, hbw5⟩
  rw [HQ.out, ByteArray.toList_eq, ByteArray.data_append]
  simp
end Go.Proofs.Ytcdjpjljaoeakaa
