/-
  AeadSays: the law's Go text returns true, whatever the key, the nonce, the texts and what stands beside them. Conditions: the slices are as the row reads them.
-/
import Derived.Test.YtkeejkhapmcanaaPkF
import Derived.Test.YtkeejkhapmcanaaPkG
import Derived.Test.YtkeejkhapmcanaaPkA
namespace Go.Proofs.Ytkeejkhapmcanaa
open Go.RowKit

set_option maxRecDepth 100000 in
set_option maxHeartbeats 2000000 in
theorem walk_AeadSays (w : World) (key : List UInt8) (hk : key.length = 32) (nonce : List UInt8) (hnn : nonce.length = 12) (A : Option Addr) (plain : List UInt8) (n c : Nat) (ha : Byt w w.heap.size A plain) (hl : plain.length = n) (hc : n ≤ c)
    (D : Option Addr) (beside : List UInt8) (m d : Nat) (hb : Byt w w.heap.size D beside) (hm : beside.length = m) (hd : m ≤ d) (G : Option Addr) (sealed : List UInt8) (q f : Nat) (hg : Byt w w.heap.size G sealed) (hq : sealed.length = q) (hf : q ≤ f) :
    Calls Try.prog 4 #[.agg (bv key).toArray, .agg (bv nonce).toArray, .slice A n c, .slice D m d, .slice G q f] w fun e w' => e = .returned (.bool true) ∧ Below w.heap.size w w' := by
  have HK := Lib.hid hk
  have HN := Lib.hid hnn
  have HL := Lib.hid hl
  have HM := Lib.hid hm
  have HQ := Lib.hid hq
  have HKS := Lib.hid (show (bv key).toArray.size = 32 by simp [bv_len, hk])
  have HNS := Lib.hid (show (bv nonce).toArray.size = 12 by simp [bv_len, hnn])
  have HKL := Lib.hid (show (bv key).length = 32 by rw [bv_len]; exact hk)
  have HNL := Lib.hid (show (bv nonce).length = 12 by rw [bv_len]; exact hnn)
  obtain ⟨W, hW, hgK, hgN, hbW, hsW⟩ := pair_new w (bv key).toArray (bv nonce).toArray 24 25
  have HW := Lib.hid hW
  have hsW0 : w.heap.size < W.heap.size := by have := hsW.out; omega
  have hsW1 : w.heap.size + 1 < W.heap.size := by have := hsW.out; omega
  clear hW hk hnn hl hm hq
  go_enter Try.func4, Try.ntmps4
  go_upto_region 1 with fail
  rw [HW.out]
  go_wp2_with fail
  refine (awake6_any W).mono ?_
  rintro e w1 ⟨rfl, hb1⟩
  have hgK1 : Hid (w1.heap[w.heap.size]? = some (.cells (bv key).toArray 24 (0, 0))) := (hb1.block _ hsW0).trans hgK.out
  have hgN1 : Hid (w1.heap[w.heap.size + 1]? = some (.cells (bv nonce).toArray 25 (0, 0))) := (hb1.block _ hsW1).trans hgN.out
  have hbw1 : Below w.heap.size w w1 := below_next hbW hbW.size hb1
  have hs1 : w.heap.size + 1 < w1.heap.size := Nat.lt_of_lt_of_le hsW1 hb1.size
  clear hgK hgN hb1 hbW hsW hsW0 hsW1 HW
  by_cases h300 : (300 : Int) < (n : Int)
  · go_wp2
    go_ret
    exact ⟨rfl, hbw1⟩
  by_cases h100 : (100 : Int) < (m : Int)
  · go_wp2
    go_ret
    exact ⟨rfl, hbw1⟩
  by_cases q300 : (300 : Int) < (q : Int)
  · go_wp2
    go_ret
    exact ⟨rfl, hbw1⟩
  have hn : n ≤ 300 := by omega
  have hm100 : m ≤ 100 := by omega
  have hq300 : q ≤ 300 := by omega
  have hseal := aseal_ok w1 key nonce HK.out HN.out A plain n c ((ha.below hbw1).up hbw1.size) HL.out hc (by omega) D beside m d ((hb.below hbw1).up hbw1.size) HM.out hd (by omega)
  go_wp2_with (first
    | (with_reducible refine wpList_load_row rfl 24 (.tmp 5) rfl w.heap.size rfl 24 (bv key).toArray (0, 0) _ hgK1.out Try.underlying24 rfl (by rw [HKS.out]; kernel_rfl) ?_)
    | (with_reducible refine wpList_load_row rfl 25 (.tmp 6) rfl (w.heap.size + 1) rfl 25 (bv nonce).toArray (0, 0) _ hgN1.out Try.underlying25 rfl (by rw [HNS.out]; kernel_rfl) ?_))
  refine hseal.mono ?_
  rintro e w2 ⟨A2, c2, S, rfl, hS, hr2, hb2⟩
  clear hseal h300 h100 q300
  have hgK2 : Hid (w2.heap[w.heap.size]? = some (.cells (bv key).toArray 24 (0, 0))) := (hb2.block _ (by omega)).trans hgK1.out
  have hgN2 : Hid (w2.heap[w.heap.size + 1]? = some (.cells (bv nonce).toArray 25 (0, 0))) := (hb2.block _ hs1).trans hgN1.out
  have hbw2 := below_next hbw1 hbw1.size hb2
  have hs2 : w.heap.size + 1 < w2.heap.size := Nat.lt_of_lt_of_le hs1 hb2.size
  have hseal := rseal_ok w2 key nonce HK.out HN.out A plain n c ((ha.below hbw2).up hbw2.size) HL.out hc hn D beside m d ((hb.below hbw2).up hbw2.size) HM.out (by omega)
  go_wp2_with (first
    | (with_reducible refine wpList_load_row rfl 24 (.tmp 5) rfl w.heap.size rfl 24 (bv key).toArray (0, 0) _ hgK2.out Try.underlying24 rfl (by rw [HKS.out]; kernel_rfl) ?_)
    | (with_reducible refine wpList_load_row rfl 25 (.tmp 6) rfl (w.heap.size + 1) rfl 25 (bv nonce).toArray (0, 0) _ hgN2.out Try.underlying25 rfl (by rw [HNS.out]; kernel_rfl) ?_))
  refine hseal.mono ?_
  rintro e w3 ⟨A3, c3, S', rfl, hS', hr3, hb3⟩
  obtain rfl : S = S' := hS.out.trans hS'.out.symm
  clear hseal hS hS'
  have hgK3 : Hid (w3.heap[w.heap.size]? = some (.cells (bv key).toArray 24 (0, 0))) := (hb3.block _ (by omega)).trans hgK2.out
  have hgN3 : Hid (w3.heap[w.heap.size + 1]? = some (.cells (bv nonce).toArray 25 (0, 0))) := (hb3.block _ hs2).trans hgN2.out
  have hbw3 := below_next hbw2 hbw2.size hb3
  have hs3 : w.heap.size + 1 < w3.heap.size := Nat.lt_of_lt_of_le hs2 hb3.size
  have hopen := aopen_any w3 key nonce HK.out HN.out G sealed q f ((hg.below hbw3).up hbw3.size) HQ.out hf (by omega) D beside m d ((hb.below hbw3).up hbw3.size) HM.out hd (by omega)
  have hr23 := hr2.keep hb3
  clear hgK1 hgN1 hgK2 hgN2 hb2 hb3 hr2 hs1 hs2 hbw1 hbw2
  go_wp2_with (first
    | (with_reducible refine wpList_load_row rfl 24 (.tmp 5) rfl w.heap.size rfl 24 (bv key).toArray (0, 0) _ hgK3.out Try.underlying24 rfl (by rw [HKS.out]; kernel_rfl) ?_)
    | (with_reducible refine wpList_load_row rfl 25 (.tmp 6) rfl (w.heap.size + 1) rfl 25 (bv nonce).toArray (0, 0) _ hgN3.out Try.underlying25 rfl (by rw [HNS.out]; kernel_rfl) ?_))
  refine hopen.mono ?_
  rintro e w4 ⟨A4, k4, c4, P4, x4, rfl, hp4, hr4, hb4⟩
  clear hopen
  have hgK4 : Hid (w4.heap[w.heap.size]? = some (.cells (bv key).toArray 24 (0, 0))) := (hb4.block _ (by omega)).trans hgK3.out
  have hgN4 : Hid (w4.heap[w.heap.size + 1]? = some (.cells (bv nonce).toArray 25 (0, 0))) := (hb4.block _ hs3).trans hgN3.out
  have hbw4 := below_next hbw3 hbw3.size hb4
  have hs4 : w.heap.size + 1 < w4.heap.size := Nat.lt_of_lt_of_le hs3 hb4.size
  have hopen := ropen_any w4 key nonce HK.out HN.out G sealed q f ((hg.below hbw4).up hbw4.size) HQ.out hf hq300 D beside m d ((hb.below hbw4).up hbw4.size) HM.out (by omega)
  go_wp2_with (first
    | (with_reducible refine wpList_load_row rfl 24 (.tmp 5) rfl w.heap.size rfl 24 (bv key).toArray (0, 0) _ hgK4.out Try.underlying24 rfl (by rw [HKS.out]; kernel_rfl) ?_)
    | (with_reducible refine wpList_load_row rfl 25 (.tmp 6) rfl (w.heap.size + 1) rfl 25 (bv nonce).toArray (0, 0) _ hgN4.out Try.underlying25 rfl (by rw [HNS.out]; kernel_rfl) ?_))
  refine hopen.mono ?_
  rintro e w5 ⟨A5, k5, c5, P5, x5, rfl, hp5, hr5, hb5⟩
  clear hopen
  have hpp := hp4.out.trans hp5.out.symm
  injection hpp with hpp1 hpp2
  subst hpp1 hpp2
  obtain rfl : k4 = k5 := hr4.len.symm.trans hr5.len
  have hgK5 : Hid (w5.heap[w.heap.size]? = some (.cells (bv key).toArray 24 (0, 0))) := (hb5.block _ (by omega)).trans hgK4.out
  have hgN5 : Hid (w5.heap[w.heap.size + 1]? = some (.cells (bv nonce).toArray 25 (0, 0))) := (hb5.block _ hs4).trans hgN4.out
  have hbw5 := below_next hbw4 hbw4.size hb5
  have hs5 : w.heap.size + 1 < w5.heap.size := Nat.lt_of_lt_of_le hs4 hb5.size
  have hb35 := below_next hb4 hb4.size hb5
  have hr25 := hr23.keep hb35
  have hr35 := hr3.keep hb35
  have hr45 := hr4.keep hb5
  have hcx : ∀ W', Below w5.heap.size w5 W' → (convert 26 9 (.slice A2 (n + 16) c2)).run Try.prog W' = .ok (.string ⟨S.toArray⟩) W' := fun W' h =>
    conv_bytes Try.underlying26 Try.underlying5 Try.underlying9 (hr25.byt.below h) (n + 16) c2 hr25.len
  have hcy : ∀ W', Below w5.heap.size w5 W' → (convert 26 9 (.slice A3 (n + 16) c3)).run Try.prog W' = .ok (.string ⟨S.toArray⟩) W' := fun W' h =>
    conv_bytes Try.underlying26 Try.underlying5 Try.underlying9 (hr35.byt.below h) (n + 16) c3 hr35.len
  have hcz : ∀ W', Below w5.heap.size w5 W' → (convert 26 9 (.slice A4 k4 c4)).run Try.prog W' = .ok (.string ⟨P4.toArray⟩) W' := fun W' h =>
    conv_bytes Try.underlying26 Try.underlying5 Try.underlying9 (hr45.byt.below h) k4 c4 hr45.len
  have hcu : ∀ W', Below w5.heap.size w5 W' → (convert 26 9 (.slice A5 k4 c5)).run Try.prog W' = .ok (.string ⟨P4.toArray⟩) W' := fun W' h =>
    conv_bytes Try.underlying26 Try.underlying5 Try.underlying9 (hr5.byt.below h) k4 c5 hr5.len
  have hs5' : w.heap.size < w5.heap.size := by omega
  have hky := akey_any w5.drew key nonce HK.out HN.out
  clear hgK3 hgN3 hgK4 hgN4 hb4 hb35 hs3 hs4 hbw3 hbw4 hr23 hr25 hr3 hr35 hr4 hr45 hr5 hp4 hp5 ha hb hg
  go_wp2_with fail
  refine wp_region_held_drew (S := (fun W' => Below w5.heap.size w5 W')) (by kernel_rfl) ((Below.refl _ _).drew) (fun hHeld => ?_)
  refine wpAnyH_take (i := 0) (oi := ⟨(some 66), _, _, _, _, _⟩) (v := ?vq1_0) rfl (by kernel_rfl) (by kernel_rfl) (by kernel_rfl) (fun _ _ _ h => h) (Or.inl ⟨by rfl, ?yq1_0⟩) hHeld ?_
  case yq1_0 => (intro W0 hSw; go_simp; try with_reducible rfl)
  try simp only [Act.put, List.setIfInBounds_toArray, List.set_cons_zero, List.set_cons_succ]
  refine wpAnyH_take (i := 1) (oi := ⟨(some 67), _, _, _, _, _⟩) (v := ?vq1_1) rfl (by kernel_rfl) (by kernel_rfl) (by kernel_rfl) (fun _ _ _ h => h) (Or.inl ⟨by rfl, ?yq1_1⟩) hHeld ?_
  case yq1_1 => (intro W0 hSw; go_simp; try with_reducible rfl)
  try simp only [Act.put, List.setIfInBounds_toArray, List.set_cons_zero, List.set_cons_succ]
  refine wpAnyH_take (i := 2) (oi := ⟨(some 68), _, _, _, _, _⟩) (v := ?vq1_2) rfl (by kernel_rfl) (by kernel_rfl) (by kernel_rfl) (fun _ _ _ h => h) (Or.inl ⟨by rfl, ?yq1_2⟩) hHeld ?_
  case yq1_2 => (intro W0 hSw; go_simp; try with_reducible rfl)
  try simp only [Act.put, List.setIfInBounds_toArray, List.set_cons_zero, List.set_cons_succ]
  refine wpAnyH_take (i := 3) (oi := ⟨(some 69), _, _, _, _, _⟩) (v := ?vq1_3) rfl (by kernel_rfl) (by kernel_rfl) (by kernel_rfl) (fun _ _ _ h => h) (Or.inl ⟨by rfl, ?yq1_3⟩) hHeld ?_
  case yq1_3 => (intro W0 hSw; go_simp; try with_reducible rfl)
  try simp only [Act.put, List.setIfInBounds_toArray, List.set_cons_zero, List.set_cons_succ]
  refine wpAnyH_take (i := 4) (oi := ⟨(some 70), _, _, _, _, _⟩) (v := ?vq1_4) rfl (by kernel_rfl) (by kernel_rfl) (by kernel_rfl) (fun _ _ _ h => h) (Or.inl ⟨by rfl, ?yq1_4⟩) hHeld ?_
  case yq1_4 => (intro W0 hSw; go_simp; try with_reducible rfl)
  try simp only [Act.put, List.setIfInBounds_toArray, List.set_cons_zero, List.set_cons_succ]
  refine wpAnyH_take (i := 5) (oi := ⟨(some 71), _, _, _, _, _⟩) (v := ?vq1_5) rfl (by kernel_rfl) (by kernel_rfl) (by kernel_rfl) (fun _ _ _ h => h) (Or.inl ⟨by rfl, ?yq1_5⟩) hHeld ?_
  case yq1_5 => (intro W0 hSw; go_simp; try with_reducible rfl)
  try simp only [Act.put, List.setIfInBounds_toArray, List.set_cons_zero, List.set_cons_succ]
  refine wpAnyH_take (i := 6) (oi := ⟨(some 72), _, _, _, _, _⟩) (v := ?vq1_6) rfl (by kernel_rfl) (by kernel_rfl) (by kernel_rfl) (fun _ _ _ h => h) (Or.inl ⟨by rfl, ?yq1_6⟩) hHeld ?_
  case yq1_6 => (intro W0 hSw; go_simp; try with_reducible rfl)
  try simp only [Act.put, List.setIfInBounds_toArray, List.set_cons_zero, List.set_cons_succ]
  refine wpAnyH_take (i := 7) (oi := ⟨(some 73), _, _, _, _, _⟩) (v := ?vq1_7) rfl (by kernel_rfl) (by kernel_rfl) (by kernel_rfl) (fun _ _ _ h => h) (Or.inl ⟨by rfl, ?yq1_7⟩) hHeld ?_
  case yq1_7 => (intro W0 hSw; go_simp; try with_reducible rfl)
  try simp only [Act.put, List.setIfInBounds_toArray, List.set_cons_zero, List.set_cons_succ]
  refine wpAnyH_take (i := 8) (oi := ⟨(some 74), _, _, _, _, _⟩) (v := ?vq1_8) rfl (by kernel_rfl) (by kernel_rfl) (by kernel_rfl) (fun _ _ _ h => h) (Or.inl ⟨by rfl, ?yq1_8⟩) hHeld ?_
  case yq1_8 => (intro W0 hSw; go_simp; try with_reducible rfl)
  try simp only [Act.put, List.setIfInBounds_toArray, List.set_cons_zero, List.set_cons_succ]
  refine wpAnyH_take (i := 9) (oi := ⟨(some 75), _, _, _, _, _⟩) (v := ?vq1_9) rfl (by kernel_rfl) (by kernel_rfl) (by kernel_rfl) (fun _ _ _ h => h) (Or.inl ⟨by rfl, ?yq1_9⟩) hHeld ?_
  case yq1_9 => (intro W0 hSw; go_simp; try with_reducible rfl)
  try simp only [Act.put, List.setIfInBounds_toArray, List.set_cons_zero, List.set_cons_succ]
  refine wpAnyH_take (i := 10) (oi := ⟨(some 76), _, _, _, _, _⟩) (v := ?vq1_10) rfl (by kernel_rfl) (by kernel_rfl) (by kernel_rfl) (fun _ _ _ h => h) (Or.inl ⟨by rfl, ?yq1_10⟩) hHeld ?_
  case yq1_10 => (intro W0 hSw; go_simp; try with_reducible rfl)
  try simp only [Act.put, List.setIfInBounds_toArray, List.set_cons_zero, List.set_cons_succ]
  refine wpAnyH_take (i := 11) (oi := ⟨(some 77), _, _, _, _, _⟩) (v := ?vq1_11) rfl (by kernel_rfl) (by kernel_rfl) (by kernel_rfl) (fun _ _ _ h => h) (Or.inl ⟨by rfl, ?yq1_11⟩) hHeld ?_
  case yq1_11 => (intro W0 hSw; go_simp; try with_reducible rfl)
  try simp only [Act.put, List.setIfInBounds_toArray, List.set_cons_zero, List.set_cons_succ]
  refine wpAnyH_take (i := 12) (oi := ⟨(some 78), _, _, _, _, _⟩) (v := ?vq1_12) rfl (by kernel_rfl) (by kernel_rfl) (by kernel_rfl) (fun _ _ _ h => h) (Or.inl ⟨by rfl, ?yq1_12⟩) hHeld ?_
  case yq1_12 => (intro W0 hSw; go_simp; try with_reducible rfl)
  try simp only [Act.put, List.setIfInBounds_toArray, List.set_cons_zero, List.set_cons_succ]
  refine wpAnyH_take (i := 13) (oi := ⟨(some 79), _, _, _, _, _⟩) (v := ?vq1_13) rfl (by kernel_rfl) (by kernel_rfl) (by kernel_rfl) (fun _ _ _ h => h) (Or.inl ⟨by rfl, ?yq1_13⟩) hHeld ?_
  case yq1_13 => (intro W0 hSw; go_simp; try with_reducible rfl)
  try simp only [Act.put, List.setIfInBounds_toArray, List.set_cons_zero, List.set_cons_succ]
  refine wpAnyH_take (i := 14) (oi := ⟨(some 80), _, _, _, _, _⟩) (v := ?vq1_14) rfl (by kernel_rfl) (by kernel_rfl) (by kernel_rfl) (fun _ _ _ h => h) (Or.inl ⟨by rfl, ?yq1_14⟩) hHeld ?_
  case yq1_14 => (intro W0 hSw; go_simp; try with_reducible rfl)
  try simp only [Act.put, List.setIfInBounds_toArray, List.set_cons_zero, List.set_cons_succ]
  refine wpAnyH_take (i := 15) (oi := ⟨(some 81), _, _, _, _, _⟩) (v := ?vq1_15) rfl (by kernel_rfl) (by kernel_rfl) (by kernel_rfl) (fun _ _ _ h => h) (Or.inl ⟨by rfl, ?yq1_15⟩) hHeld ?_
  case yq1_15 => (intro W0 hSw; go_simp; try with_reducible rfl)
  try simp only [Act.put, List.setIfInBounds_toArray, List.set_cons_zero, List.set_cons_succ]
  refine wpAnyH_take (i := 16) (oi := ⟨(some 82), _, _, _, _, _⟩) (v := ?vq1_16) rfl (by kernel_rfl) (by kernel_rfl) (by kernel_rfl) (fun _ _ _ h => h) (Or.inl ⟨by rfl, ?yq1_16⟩) hHeld ?_
  case yq1_16 => (intro W0 hSw; go_simp; try with_reducible rfl)
  try simp only [Act.put, List.setIfInBounds_toArray, List.set_cons_zero, List.set_cons_succ]
  refine wpAnyH_take (i := 17) (oi := ⟨(some 83), _, _, _, _, _⟩) (v := ?vq1_17) rfl (by kernel_rfl) (by kernel_rfl) (by kernel_rfl) (fun _ _ _ h => h) (Or.inl ⟨by rfl, ?yq1_17⟩) hHeld ?_
  case yq1_17 => (intro W0 hSw; go_simp; try with_reducible rfl)
  try simp only [Act.put, List.setIfInBounds_toArray, List.set_cons_zero, List.set_cons_succ]
  refine wpAnyH_take (i := 18) (oi := ⟨(some 84), _, _, _, _, _⟩) (v := ?vq1_18) rfl (by kernel_rfl) (by kernel_rfl) (by kernel_rfl) (fun _ _ _ h => h) (Or.inl ⟨by rfl, ?yq1_18⟩) hHeld ?_
  case yq1_18 => (intro W0 hSw; go_simp; try with_reducible rfl)
  try simp only [Act.put, List.setIfInBounds_toArray, List.set_cons_zero, List.set_cons_succ]
  refine wpAnyH_take (i := 19) (oi := ⟨(some 85), _, _, _, _, _⟩) (v := ?vq1_19) rfl (by kernel_rfl) (by kernel_rfl) (by kernel_rfl) (fun _ _ _ h => h) (Or.inl ⟨by rfl, ?yq1_19⟩) hHeld ?_
  case yq1_19 => (intro W0 hSw; go_simp; try with_reducible rfl)
  try simp only [Act.put, List.setIfInBounds_toArray, List.set_cons_zero, List.set_cons_succ]
  refine wpAnyH_take (i := 20) (oi := ⟨(some 86), _, _, _, _, _⟩) (v := ?vq1_20) rfl (by kernel_rfl) (by kernel_rfl) (by kernel_rfl) (fun _ _ _ h => h) (Or.inl ⟨by rfl, ?yq1_20⟩) hHeld ?_
  case yq1_20 => (intro W0 hSw; go_simp; try with_reducible rfl)
  try simp only [Act.put, List.setIfInBounds_toArray, List.set_cons_zero, List.set_cons_succ]
  refine wpAnyH_take (i := 21) (oi := ⟨(some 87), _, _, _, _, _⟩) (v := ?vq1_21) rfl (by kernel_rfl) (by kernel_rfl) (by kernel_rfl) (fun _ _ _ h => h) (Or.inl ⟨by rfl, ?yq1_21⟩) hHeld ?_
  case yq1_21 => (intro W0 hSw; go_simp; try with_reducible rfl)
  try simp only [Act.put, List.setIfInBounds_toArray, List.set_cons_zero, List.set_cons_succ]
  refine wpAnyH_take (i := 22) (oi := ⟨(some 88), _, _, _, _, _⟩) (v := ?vq1_22) rfl (by kernel_rfl) (by kernel_rfl) (by kernel_rfl) (fun _ _ _ h => h) (Or.inl ⟨by rfl, ?yq1_22⟩) hHeld ?_
  case yq1_22 => (intro W0 hSw; go_simp; try with_reducible rfl)
  try simp only [Act.put, List.setIfInBounds_toArray, List.set_cons_zero, List.set_cons_succ]
  refine wpAnyH_take (i := 23) (oi := ⟨(some 89), _, _, _, _, _⟩) (v := ?vq1_23) rfl (by kernel_rfl) (by kernel_rfl) (by kernel_rfl) (fun _ _ _ h => h) (Or.inl ⟨by rfl, ?yq1_23⟩) hHeld ?_
  case yq1_23 => (intro W0 hSw; go_simp; try with_reducible rfl)
  try simp only [Act.put, List.setIfInBounds_toArray, List.set_cons_zero, List.set_cons_succ]
  refine wpAnyH_take (i := 24) (oi := ⟨(some 90), _, _, _, _, _⟩) (v := ?vq1_24) rfl (by kernel_rfl) (by kernel_rfl) (by kernel_rfl) (fun _ _ _ h => h) (Or.inl ⟨by rfl, ?yq1_24⟩) hHeld ?_
  case yq1_24 => (intro W0 hSw; go_simp; try with_reducible rfl)
  try simp only [Act.put, List.setIfInBounds_toArray, List.set_cons_zero, List.set_cons_succ]
  refine wpAnyH_take (i := 25) (oi := ⟨(some 91), _, _, _, _, _⟩) (v := _) rfl (by kernel_rfl) (by kernel_rfl) (by kernel_rfl) (fun _ _ _ h => h) (yieldsIf_load_mid (by rfl) _ _ rfl w.heap.size 0 rfl (bv key) _ (fun W' hW' => range_row ((hW'.block _ hs5').trans hgK5.out)) (Try.underlying24) (rfl) (by rw [HKL.out]; kernel_rfl)) hHeld ?_
  try simp only [Act.put, List.setIfInBounds_toArray, List.set_cons_zero, List.set_cons_succ]
  refine wpAnyH_take (i := 26) (oi := ⟨(some 92), _, _, _, _, _⟩) (v := _) rfl (by kernel_rfl) (by kernel_rfl) (by kernel_rfl) (fun _ _ _ h => h) (yieldsIf_load_mid (by rfl) _ _ rfl (w.heap.size + 1) 0 rfl (bv nonce) _ (fun W' hW' => range_row ((hW'.block _ hs5).trans hgN5.out)) (Try.underlying25) (rfl) (by rw [HNL.out]; kernel_rfl)) hHeld ?_
  try simp only [Act.put, List.setIfInBounds_toArray, List.set_cons_zero, List.set_cons_succ]
  refine wpAnyH_take (i := 28) (oi := ⟨(some 94), _, _, _, _, _⟩) (v := _) rfl (by kernel_rfl) (by kernel_rfl) (by kernel_rfl) (fun _ _ _ h => h) (yieldsIf_load_mid (by rfl) _ _ rfl w.heap.size 0 rfl (bv key) _ (fun W' hW' => range_row ((hW'.block _ hs5').trans hgK5.out)) (Try.underlying24) (rfl) (by rw [HKL.out]; kernel_rfl)) hHeld ?_
  try simp only [Act.put, List.setIfInBounds_toArray, List.set_cons_zero, List.set_cons_succ]
  refine wpAnyH_take (i := 29) (oi := ⟨(some 95), _, _, _, _, _⟩) (v := _) rfl (by kernel_rfl) (by kernel_rfl) (by kernel_rfl) (fun _ _ _ h => h) (yieldsIf_load_mid (by rfl) _ _ rfl (w.heap.size + 1) 0 rfl (bv nonce) _ (fun W' hW' => range_row ((hW'.block _ hs5).trans hgN5.out)) (Try.underlying25) (rfl) (by rw [HNL.out]; kernel_rfl)) hHeld ?_
  try simp only [Act.put, List.setIfInBounds_toArray, List.set_cons_zero, List.set_cons_succ]
  refine wpAnyH_ready (rs := [27]) (by kernel_rfl) (by simp) ?_
  refine AllReadyH.cons (i := 27) (o := ⟨(some 93), _, _, _, _, _⟩) rfl (fun K hK => ?_) AllReadyH.nil
  go_simp
  refine hky.mono ?_
  rintro e w6 ⟨ky, rfl, hky1, hkyl, hb6d⟩
  have hb6 : Below w5.heap.size w5 w6 := below_undrew hb6d
  refine hK.out _ _ (hb6) (fun hHeld => ?_)
  clear hK K
  try simp only [Act.put, List.setIfInBounds_toArray, List.set_cons_zero, List.set_cons_succ]
  clear hky
  refine wpAnyH_ready (rs := [30]) (by kernel_rfl) (by simp) ?_
  refine AllReadyH.cons (i := 30) (o := ⟨(some 96), _, _, _, _, _⟩) rfl (fun K hK => ?_) AllReadyH.nil
  go_simp
  refine (rkey_any w6 key nonce HK.out HN.out).mono ?_
  rintro e w7 ⟨ky2, rfl, hky2, hkyl2, hb7d⟩
  have hb7 : Below w5.heap.size w5 w7 := below_next hb6 hb6.size hb7d
  obtain rfl : ky = ky2 := hky1.out.trans hky2.out.symm
  refine hK.out _ _ (hb7) (fun hHeld => ?_)
  clear hK K
  try simp only [Act.put, List.setIfInBounds_toArray, List.set_cons_zero, List.set_cons_succ]
  have heqb := eql_bytes_same (P := Try.prog) Try.underlying24 Try.underlying5 Try.sizeByte ky hkyl.out
  refine wpAnyH_take (i := 31) (oi := ⟨(some 97), _, _, _, _, _⟩) (v := ?vq1_25) rfl (by kernel_rfl) (by kernel_rfl) (by kernel_rfl) (fun _ _ _ h => h) (Or.inl ⟨by rfl, ?yq1_25⟩) hHeld ?_
  case yq1_25 => (intro W0 hSw; go_simp; try with_reducible rfl)
  try simp only [Act.put, List.setIfInBounds_toArray, List.set_cons_zero, List.set_cons_succ]
  refine wpAnyH_take (i := 32) (oi := ⟨(some 98), _, _, _, _, _⟩) (v := ?vq1_26) rfl (by kernel_rfl) (by kernel_rfl) (by kernel_rfl) (fun _ _ _ h => h) (Or.inl ⟨by rfl, ?yq1_26⟩) hHeld ?_
  case yq1_26 => (intro W0 hSw; go_simp; try with_reducible rfl)
  try simp only [Act.put, List.setIfInBounds_toArray, List.set_cons_zero, List.set_cons_succ]
  refine wpAnyH_take (i := 33) (oi := ⟨(some 10), _, _, _, _, _⟩) (v := ?vq1_27) rfl (by kernel_rfl) (by kernel_rfl) (by kernel_rfl) (fun _ _ _ h => h) (Or.inl ⟨by rfl, ?yq1_27⟩) hHeld ?_
  case yq1_27 => (intro W0 hSw; go_simp; try with_reducible rfl)
  try simp only [Act.put, List.setIfInBounds_toArray, List.set_cons_zero, List.set_cons_succ]
  refine wpAnyH_done (by kernel_rfl) ?_ _
  have hbw7 := below_next hbw5 hbw5.size hb7
  clear hHeld heqb hcx hcy hcz hcu
  go_wp2
  go_ret
  exact ⟨rfl, hbw7⟩
end Go.Proofs.Ytkeejkhapmcanaa
