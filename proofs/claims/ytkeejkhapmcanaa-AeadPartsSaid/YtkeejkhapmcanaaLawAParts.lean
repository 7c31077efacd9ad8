/-
  AeadParts: the law's Go text returns true, whatever the key, the nonce, the text and what stands beside it. Conditions: the slices are as the row reads them.
-/
import Derived.Test.YtkeejkhapmcanaaPkF
import Derived.Test.YtkeejkhapmcanaaPkG
import Derived.Test.YtkeejkhapmcanaaPkC
import Derived.Test.YtkeejkhapmcanaaPkA
namespace Go.Proofs.Ytkeejkhapmcanaa
open Go.RowKit

set_option maxRecDepth 100000 in
set_option maxHeartbeats 2000000 in
theorem walk_AeadParts (w : World) (key : List UInt8) (hk : key.length = 32) (nonce : List UInt8) (hnn : nonce.length = 12) (A : Option Addr) (plain : List UInt8) (n c : Nat) (ha : Byt w w.heap.size A plain) (hl : plain.length = n) (hc : n ≤ c)
    (D : Option Addr) (beside : List UInt8) (m d : Nat) (hb : Byt w w.heap.size D beside) (hm : beside.length = m) (hd : m ≤ d) :
    Calls Try.prog 6 #[.agg (bv key).toArray, .agg (bv nonce).toArray, .slice A n c, .slice D m d] w fun e w' => e = .returned (.bool true) ∧ Below w.heap.size w w' := by
  have hz64 := zero_b64
  have hzw := zero_w6
  have HK := Lib.hid hk
  have HN := Lib.hid hnn
  have HL := Lib.hid hl
  have HM := Lib.hid hm
  have HKS := Lib.hid (show (bv key).toArray.size = 32 by simp [bv_len, hk])
  have HNS := Lib.hid (show (bv nonce).toArray.size = 12 by simp [bv_len, hnn])
  obtain ⟨W, hW, hgK, hgN, hbW, hsW⟩ := pair_new w (bv key).toArray (bv nonce).toArray 24 25
  have HW := Lib.hid hW
  have hsW0 : w.heap.size < W.heap.size := by have := hsW.out; omega
  have hsW1 : w.heap.size + 1 < W.heap.size := by have := hsW.out; omega
  clear hW hk hnn hl hm
  go_enter Try.func6, Try.ntmps6
  go_upto_region 1 with fail
  rw [HW.out]
  go_wp2_with fail
  refine (awake6_any W).mono ?_
  rintro e w1 ⟨rfl, hb1⟩
  have hgK1 : Hid (w1.heap[w.heap.size]? = some (.cells (bv key).toArray 24 (0, 0))) := (hb1.block _ hsW0).trans hgK.out
  have hgN1 : Hid (w1.heap[w.heap.size + 1]? = some (.cells (bv nonce).toArray 25 (0, 0))) := (hb1.block _ hsW1).trans hgN.out
  have hbw1 : Below w.heap.size w w1 := below_next hbW hbW.size hb1
  have hs1 : w.heap.size + 1 < w1.heap.size := Nat.lt_of_lt_of_le hsW1 hb1.size
  have hs0 : w.heap.size < w1.heap.size := by omega
  have ha1 := (ha.below hbw1).up hbw1.size
  have hbs1 := (hb.below hbw1).up hbw1.size
  clear hgK hgN hb1 hbW hsW hsW0 hsW1 HW ha hb
  by_cases h200 : (200 : Int) < (n : Int)
  · go_wp2
    go_ret
    exact ⟨rfl, hbw1⟩
  by_cases h60 : (60 : Int) < (m : Int)
  · go_wp2
    go_ret
    exact ⟨rfl, hbw1⟩
  have hn : n ≤ 200 := by omega
  have hm60 : m ≤ 60 := by omega
  have hseal := aseal_ok w1 key nonce HK.out HN.out A plain n c ha1 HL.out hc (by omega) D beside m d hbs1 HM.out hd (by omega)
  go_wp2_with (first
    | (with_reducible refine wpList_load_row rfl 24 (.tmp 4) rfl w.heap.size rfl 24 (bv key).toArray (0, 0) _ hgK1.out Try.underlying24 rfl (by rw [HKS.out]; kernel_rfl) ?_)
    | (with_reducible refine wpList_load_row rfl 25 (.tmp 5) rfl (w.heap.size + 1) rfl 25 (bv nonce).toArray (0, 0) _ hgN1.out Try.underlying25 rfl (by rw [HNS.out]; kernel_rfl) ?_))
  refine hseal.mono ?_
  rintro e w2 ⟨A2, c2, S, rfl, hS, hr2, hb2⟩
  clear hseal h200 h60
  have hgK2 : Hid (w2.heap[w.heap.size]? = some (.cells (bv key).toArray 24 (0, 0))) := (hb2.block _ hs0).trans hgK1.out
  have hgN2 : Hid (w2.heap[w.heap.size + 1]? = some (.cells (bv nonce).toArray 25 (0, 0))) := (hb2.block _ hs1).trans hgN1.out
  have hbw2 := below_next hbw1 hbw1.size hb2
  have hs2 : w.heap.size + 1 < w2.heap.size := Nat.lt_of_lt_of_le hs1 hb2.size
  have ha2 := (ha1.below hb2).up hb2.size
  have hx := rxor_one w2 key nonce plain A n c HK.out HN.out ha2 HL.out hc (by omega)
  go_wp2_with (first
    | (with_reducible refine wpList_load_row rfl 24 (.tmp 4) rfl w.heap.size rfl 24 (bv key).toArray (0, 0) _ hgK2.out Try.underlying24 rfl (by rw [HKS.out]; kernel_rfl) ?_)
    | (with_reducible refine wpList_load_row rfl 25 (.tmp 5) rfl (w.heap.size + 1) rfl 25 (bv nonce).toArray (0, 0) _ hgN2.out Try.underlying25 rfl (by rw [HNS.out]; kernel_rfl) ?_))
  refine hx.mono ?_
  rintro e w3 ⟨A3, c3, X, rfl, hX, hr3, hb3⟩
  clear hx
  have HST := vlt (show S.take n = X by rw [hS.out, hX.out, sealOf_take _ _ _ _ _ HL.out])
  have hr23 := hr2.keep hb3
  have hgK3 : Hid (w3.heap[w.heap.size]? = some (.cells (bv key).toArray 24 (0, 0))) := (hb3.block _ (by omega)).trans hgK2.out
  have hgN3 : Hid (w3.heap[w.heap.size + 1]? = some (.cells (bv nonce).toArray 25 (0, 0))) := (hb3.block _ hs2).trans hgN2.out
  have hbw3 := below_next hbw2 hbw2.size hb3
  have hs3 : w.heap.size + 1 < w3.heap.size := Nat.lt_of_lt_of_le hs2 hb3.size
  have hblk := refBlock_ex0 w3 key nonce HK.out HN.out
  clear hgK1 hgN1 hgK2 hgN2 hb2 hb3 hr2 ha1 ha2 hbs1 hs0 hs1 hs2 hbw1 hbw2
  go_wp2_with (first
    | (with_reducible refine wpList_load_row rfl 24 (.tmp 4) rfl w.heap.size rfl 24 (bv key).toArray (0, 0) _ hgK3.out Try.underlying24 rfl (by rw [HKS.out]; kernel_rfl) ?_)
    | (with_reducible refine wpList_load_row rfl 25 (.tmp 5) rfl (w.heap.size + 1) rfl 25 (bv nonce).toArray (0, 0) _ hgN3.out Try.underlying25 rfl (by rw [HNS.out]; kernel_rfl) ?_))
  refine hblk.mono ?_
  rintro e w4 ⟨bl, rfl, hbl, hbll, hb4⟩
  clear hblk
  have HBS := Lib.hid (show (bv bl).toArray.size = 64 by simp [bv_len, hbll.out])
  have HZ64 := Lib.hid (show (bv z64).toArray.size = 64 from rfl)
  go_upto_region 10 with ((with_reducible refine wpList_store_row rfl 40 (.tmp 13) (.tmp 52) rfl w4.heap.size (bv bl).toArray rfl rfl 40 _ (heap_alloc_new _ _) (by rw [HBS.out]; kernel_rfl) (by rw [HBS.out]; exact HZ64.out) (all_oneCell_toArray (bv_one _)) ?_); rw [World.setRow_alloc_new])
  have hg5 : Hid ((w4.alloc (.cells (bv bl).toArray 40)).heap[w4.heap.size]? = some (.cells (bv bl).toArray 40 (0, 0))) := heap_alloc_new _ _
  have hb5 : Below w3.heap.size w3 (w4.alloc (.cells (bv bl).toArray 40)) := hb4.alloc hb4.size _
  generalize w4.alloc (.cells (bv bl).toArray 40) = w5 at *
  have hgK5 : Hid (w5.heap[w.heap.size]? = some (.cells (bv key).toArray 24 (0, 0))) := (hb5.block _ (by omega)).trans hgK3.out
  have hgN5 : Hid (w5.heap[w.heap.size + 1]? = some (.cells (bv nonce).toArray 25 (0, 0))) := (hb5.block _ hs3).trans hgN3.out
  have hkey := akey_any w5 key nonce HK.out HN.out
  obtain ⟨F, hF⟩ : ∃ F, F = w4.heap.size := ⟨_, rfl⟩
  rw [← hF] at hg5 ⊢
  have hF5 : F < w5.heap.size := (Array.getElem?_eq_some_iff.1 hg5.out).1
  clear hF hb4 hgK3 hgN3
  go_wp2_with (first
    | (with_reducible refine wpList_load_row rfl 24 (.tmp 4) rfl w.heap.size rfl 24 (bv key).toArray (0, 0) _ hgK5.out Try.underlying24 rfl (by rw [HKS.out]; kernel_rfl) ?_)
    | (with_reducible refine wpList_load_row rfl 25 (.tmp 5) rfl (w.heap.size + 1) rfl 25 (bv nonce).toArray (0, 0) _ hgN5.out Try.underlying25 rfl (by rw [HNS.out]; kernel_rfl) ?_))
  refine hkey.mono ?_
  rintro e w6 ⟨ky, rfl, hky, hkyl, hb6⟩
  clear hkey
  have HYS := Lib.hid (show (bv ky).toArray.size = 32 by simp [bv_len, hkyl.out])
  have HZ32 := Lib.hid (show (bv z32).toArray.size = 32 from rfl)
  go_upto_region 11 with ((with_reducible refine wpList_store_row rfl 24 (.tmp 14) (.tmp 55) rfl w6.heap.size (bv ky).toArray rfl rfl 24 _ (heap_alloc_new _ _) (by rw [HYS.out]; kernel_rfl) (by rw [HYS.out]; exact HZ32.out) (all_oneCell_toArray (bv_one _)) ?_); rw [World.setRow_alloc_new])
  have hg7 : Hid ((w6.alloc (.cells (bv ky).toArray 24)).heap[w6.heap.size]? = some (.cells (bv ky).toArray 24 (0, 0))) := heap_alloc_new _ _
  have hb7 : Below w5.heap.size w5 (w6.alloc (.cells (bv ky).toArray 24)) := hb6.alloc hb6.size _
  generalize w6.alloc (.cells (bv ky).toArray 24) = w7 at *
  have hg57 : Hid (w7.heap[F]? = some (.cells (bv bl).toArray 40 (0, 0))) := (hb7.block _ hF5).trans hg5.out
  have hb37 := below_next hb5 hb5.size hb7
  have hbw7 := below_next hbw3 hbw3.size hb37
  have hr27 := hr23.keep hb37
  have hr37 := hr3.keep hb37
  have hcutS := run_cut_h (P := Try.prog) Try.underlying26 Try.sizeByte A2 (n + 16) c2 n (n : Int) rfl (by have := hr27.cap; omega)
  have hcutK := cut_all Try.underlying24 Try.sizeByte w6.heap.size 0 (by decide)
  have hcutB := cut_lh Try.underlying40 Try.sizeByte F 0 0 32 0 32 rfl rfl (by decide) (by decide) (by decide)
  have hbS := hr27.byt.take n
  rw [HST.out] at hbS
  have hXl : X.length = n := hr37.len
  have hbK := byt_row hg7.out
  have hbB := byt_mid hg57.out 0 32
  rw [List.drop_zero, show bl.take 32 = ky by rw [hbl.out, hky.out, akeyOf]] at hbB
  have hcx : ∀ W', Below w7.heap.size w7 W' → (convert 26 9 (.slice A2 n c2)).run Try.prog W' = .ok (.string ⟨X.toArray⟩) W' := fun W' h =>
    conv_bytes Try.underlying26 Try.underlying5 Try.underlying9 (hbS.below h) n c2 hXl
  have hcy : ∀ W', Below w7.heap.size w7 W' → (convert 26 9 (.slice A3 n c3)).run Try.prog W' = .ok (.string ⟨X.toArray⟩) W' := fun W' h =>
    conv_bytes Try.underlying26 Try.underlying5 Try.underlying9 (hr37.byt.below h) n c3 hXl
  have hcz : ∀ W', Below w7.heap.size w7 W' → (convert 26 9 (.slice (some ⟨w6.heap.size, 0, none⟩) 32 32)).run Try.prog W' = .ok (.string ⟨ky.toArray⟩) W' := fun W' h =>
    conv_bytes Try.underlying26 Try.underlying5 Try.underlying9 (hbK.below h) 32 32 hkyl.out
  have hcu : ∀ W', Below w7.heap.size w7 W' → (convert 26 9 (.slice (some ⟨F, 0, none⟩) 32 64)).run Try.prog W' = .ok (.string ⟨ky.toArray⟩) W' := fun W' h =>
    conv_bytes Try.underlying26 Try.underlying5 Try.underlying9 (hbB.below h) 32 64 hkyl.out
  have hhex := refHex_any A2 S (n + 16) c2 w7.drew hr27.byt hr27.len (by omega)
  have hxl : (⟨(hexd S).toArray⟩ : ByteArray).size = 2 * (n + 16) := by
    show (hexd S).toArray.size = _
    rw [List.size_toArray, hexd_len, hr27.len]
  generalize (⟨(hexd S).toArray⟩ : ByteArray) = H at *
  clear hbS hbK hbB hr23 hr3 hr27 hr37 hg5 hg57 hg7 hgK5 hgN5 hb5 hb6 hb7 hb37 hS hX HST hbl hky
  refine wp_region_held_drew (S := (fun W' => Below w7.heap.size w7 W')) (by kernel_rfl) ((Below.refl _ _).drew) (fun hHeld => ?_)
  refine wpAnyH_take (i := 0) (oi := ⟨(some 56), _, _, _, _, _⟩) (v := ?vq1_0) rfl (by kernel_rfl) (by kernel_rfl) (by kernel_rfl) (fun _ _ _ h => h) (Or.inl ⟨by rfl, ?yq1_0⟩) hHeld ?_
  case yq1_0 => (intro W0 hSw; go_simp; try with_reducible rfl)
  try simp only [Act.put, List.setIfInBounds_toArray, List.set_cons_zero, List.set_cons_succ]
  refine wpAnyH_take (i := 1) (oi := ⟨(some 57), _, _, _, _, _⟩) (v := ?vq1_1) rfl (by kernel_rfl) (by kernel_rfl) (by kernel_rfl) (fun _ _ _ h => h) (Or.inl ⟨by rfl, ?yq1_1⟩) hHeld ?_
  case yq1_1 => (intro W0 hSw; go_simp; try with_reducible rfl)
  try simp only [Act.put, List.setIfInBounds_toArray, List.set_cons_zero, List.set_cons_succ]
  refine wpAnyH_take (i := 2) (oi := ⟨(some 58), _, _, _, _, _⟩) (v := ?vq1_2) rfl (by kernel_rfl) (by kernel_rfl) (by kernel_rfl) (fun _ _ _ h => h) (Or.inl ⟨by rfl, ?yq1_2⟩) hHeld ?_
  case yq1_2 => (intro W0 hSw; go_simp; try with_reducible rfl)
  try simp only [Act.put, List.setIfInBounds_toArray, List.set_cons_zero, List.set_cons_succ]
  refine wpAnyH_take (i := 3) (oi := ⟨(some 59), _, _, _, _, _⟩) (v := ?vq1_3) rfl (by kernel_rfl) (by kernel_rfl) (by kernel_rfl) (fun _ _ _ h => h) (Or.inl ⟨by rfl, ?yq1_3⟩) hHeld ?_
  case yq1_3 => (intro W0 hSw; go_simp; try with_reducible rfl)
  try simp only [Act.put, List.setIfInBounds_toArray, List.set_cons_zero, List.set_cons_succ]
  refine wpAnyH_take (i := 4) (oi := ⟨(some 60), _, _, _, _, _⟩) (v := ?vq1_4) rfl (by kernel_rfl) (by kernel_rfl) (by kernel_rfl) (fun _ _ _ h => h) (Or.inl ⟨by rfl, ?yq1_4⟩) hHeld ?_
  case yq1_4 => (intro W0 hSw; go_simp; try with_reducible rfl)
  try simp only [Act.put, List.setIfInBounds_toArray, List.set_cons_zero, List.set_cons_succ]
  refine wpAnyH_take (i := 5) (oi := ⟨(some 61), _, _, _, _, _⟩) (v := ?vq1_5) rfl (by kernel_rfl) (by kernel_rfl) (by kernel_rfl) (fun _ _ _ h => h) (Or.inl ⟨by rfl, ?yq1_5⟩) hHeld ?_
  case yq1_5 => (intro W0 hSw; go_simp; try with_reducible rfl)
  try simp only [Act.put, List.setIfInBounds_toArray, List.set_cons_zero, List.set_cons_succ]
  refine wpAnyH_take (i := 6) (oi := ⟨(some 62), _, _, _, _, _⟩) (v := ?vq1_6) rfl (by kernel_rfl) (by kernel_rfl) (by kernel_rfl) (fun _ _ _ h => h) (Or.inl ⟨by rfl, ?yq1_6⟩) hHeld ?_
  case yq1_6 => (intro W0 hSw; go_simp; try with_reducible rfl)
  try simp only [Act.put, List.setIfInBounds_toArray, List.set_cons_zero, List.set_cons_succ]
  refine wpAnyH_take (i := 7) (oi := ⟨(some 63), _, _, _, _, _⟩) (v := ?vq1_7) rfl (by kernel_rfl) (by kernel_rfl) (by kernel_rfl) (fun _ _ _ h => h) (Or.inl ⟨by rfl, ?yq1_7⟩) hHeld ?_
  case yq1_7 => (intro W0 hSw; go_simp; try with_reducible rfl)
  try simp only [Act.put, List.setIfInBounds_toArray, List.set_cons_zero, List.set_cons_succ]
  refine wpAnyH_take (i := 8) (oi := ⟨(some 64), _, _, _, _, _⟩) (v := ?vq1_8) rfl (by kernel_rfl) (by kernel_rfl) (by kernel_rfl) (fun _ _ _ h => h) (Or.inl ⟨by rfl, ?yq1_8⟩) hHeld ?_
  case yq1_8 => (intro W0 hSw; go_simp; try with_reducible rfl)
  try simp only [Act.put, List.setIfInBounds_toArray, List.set_cons_zero, List.set_cons_succ]
  refine wpAnyH_take (i := 9) (oi := ⟨(some 65), _, _, _, _, _⟩) (v := ?vq1_9) rfl (by kernel_rfl) (by kernel_rfl) (by kernel_rfl) (fun _ _ _ h => h) (Or.inl ⟨by rfl, ?yq1_9⟩) hHeld ?_
  case yq1_9 => (intro W0 hSw; go_simp; try with_reducible rfl)
  try simp only [Act.put, List.setIfInBounds_toArray, List.set_cons_zero, List.set_cons_succ]
  refine wpAnyH_take (i := 10) (oi := ⟨(some 66), _, _, _, _, _⟩) (v := ?vq1_10) rfl (by kernel_rfl) (by kernel_rfl) (by kernel_rfl) (fun _ _ _ h => h) (Or.inl ⟨by rfl, ?yq1_10⟩) hHeld ?_
  case yq1_10 => (intro W0 hSw; go_simp; try with_reducible rfl)
  try simp only [Act.put, List.setIfInBounds_toArray, List.set_cons_zero, List.set_cons_succ]
  refine wpAnyH_take (i := 11) (oi := ⟨(some 67), _, _, _, _, _⟩) (v := ?vq1_11) rfl (by kernel_rfl) (by kernel_rfl) (by kernel_rfl) (fun _ _ _ h => h) (Or.inl ⟨by rfl, ?yq1_11⟩) hHeld ?_
  case yq1_11 => (intro W0 hSw; go_simp; try with_reducible rfl)
  try simp only [Act.put, List.setIfInBounds_toArray, List.set_cons_zero, List.set_cons_succ]
  refine wpAnyH_take (i := 12) (oi := ⟨(some 68), _, _, _, _, _⟩) (v := ?vq1_12) rfl (by kernel_rfl) (by kernel_rfl) (by kernel_rfl) (fun _ _ _ h => h) (Or.inl ⟨by rfl, ?yq1_12⟩) hHeld ?_
  case yq1_12 => (intro W0 hSw; go_simp; try with_reducible rfl)
  try simp only [Act.put, List.setIfInBounds_toArray, List.set_cons_zero, List.set_cons_succ]
  refine wpAnyH_take (i := 13) (oi := ⟨(some 69), _, _, _, _, _⟩) (v := ?vq1_13) rfl (by kernel_rfl) (by kernel_rfl) (by kernel_rfl) (fun _ _ _ h => h) (Or.inl ⟨by rfl, ?yq1_13⟩) hHeld ?_
  case yq1_13 => (intro W0 hSw; go_simp; try with_reducible rfl)
  try simp only [Act.put, List.setIfInBounds_toArray, List.set_cons_zero, List.set_cons_succ]
  refine wpAnyH_take (i := 14) (oi := ⟨(some 70), _, _, _, _, _⟩) (v := ?vq1_14) rfl (by kernel_rfl) (by kernel_rfl) (by kernel_rfl) (fun _ _ _ h => h) (Or.inl ⟨by rfl, ?yq1_14⟩) hHeld ?_
  case yq1_14 => (intro W0 hSw; go_simp; try with_reducible rfl)
  try simp only [Act.put, List.setIfInBounds_toArray, List.set_cons_zero, List.set_cons_succ]
  refine wpAnyH_take (i := 15) (oi := ⟨(some 71), _, _, _, _, _⟩) (v := ?vq1_15) rfl (by kernel_rfl) (by kernel_rfl) (by kernel_rfl) (fun _ _ _ h => h) (Or.inl ⟨by rfl, ?yq1_15⟩) hHeld ?_
  case yq1_15 => (intro W0 hSw; go_simp; try with_reducible rfl)
  try simp only [Act.put, List.setIfInBounds_toArray, List.set_cons_zero, List.set_cons_succ]
  refine wpAnyH_take (i := 16) (oi := ⟨(some 72), _, _, _, _, _⟩) (v := ?vq1_16) rfl (by kernel_rfl) (by kernel_rfl) (by kernel_rfl) (fun _ _ _ h => h) (Or.inl ⟨by rfl, ?yq1_16⟩) hHeld ?_
  case yq1_16 => (intro W0 hSw; go_simp; try with_reducible rfl)
  try simp only [Act.put, List.setIfInBounds_toArray, List.set_cons_zero, List.set_cons_succ]
  refine wpAnyH_take (i := 17) (oi := ⟨(some 73), _, _, _, _, _⟩) (v := ?vq1_17) rfl (by kernel_rfl) (by kernel_rfl) (by kernel_rfl) (fun _ _ _ h => h) (Or.inl ⟨by rfl, ?yq1_17⟩) hHeld ?_
  case yq1_17 => (intro W0 hSw; go_simp; try with_reducible rfl)
  try simp only [Act.put, List.setIfInBounds_toArray, List.set_cons_zero, List.set_cons_succ]
  refine wpAnyH_take (i := 18) (oi := ⟨(some 74), _, _, _, _, _⟩) (v := ?vq1_18) rfl (by kernel_rfl) (by kernel_rfl) (by kernel_rfl) (fun _ _ _ h => h) (Or.inl ⟨by rfl, ?yq1_18⟩) hHeld ?_
  case yq1_18 => (intro W0 hSw; go_simp; try with_reducible rfl)
  try simp only [Act.put, List.setIfInBounds_toArray, List.set_cons_zero, List.set_cons_succ]
  refine wpAnyH_take (i := 19) (oi := ⟨(some 75), _, _, _, _, _⟩) (v := ?vq1_19) rfl (by kernel_rfl) (by kernel_rfl) (by kernel_rfl) (fun _ _ _ h => h) (Or.inl ⟨by rfl, ?yq1_19⟩) hHeld ?_
  case yq1_19 => (intro W0 hSw; go_simp; try with_reducible rfl)
  try simp only [Act.put, List.setIfInBounds_toArray, List.set_cons_zero, List.set_cons_succ]
  refine wpAnyH_take (i := 22) (oi := ⟨(some 78), _, _, _, _, _⟩) (v := ?vq1_20) rfl (by kernel_rfl) (by kernel_rfl) (by kernel_rfl) (fun _ _ _ h => h) (Or.inl ⟨by rfl, ?yq1_20⟩) hHeld ?_
  case yq1_20 => (intro W0 hSw; go_simp; try with_reducible rfl)
  try simp only [Act.put, List.setIfInBounds_toArray, List.set_cons_zero, List.set_cons_succ]
  refine wpAnyH_take (i := 23) (oi := ⟨(some 79), _, _, _, _, _⟩) (v := ?vq1_21) rfl (by kernel_rfl) (by kernel_rfl) (by kernel_rfl) (fun _ _ _ h => h) (Or.inl ⟨by rfl, ?yq1_21⟩) hHeld ?_
  case yq1_21 => (intro W0 hSw; go_simp; try with_reducible rfl)
  try simp only [Act.put, List.setIfInBounds_toArray, List.set_cons_zero, List.set_cons_succ]
  refine wpAnyH_take (i := 24) (oi := ⟨(some 80), _, _, _, _, _⟩) (v := ?vq1_22) rfl (by kernel_rfl) (by kernel_rfl) (by kernel_rfl) (fun _ _ _ h => h) (Or.inl ⟨by rfl, ?yq1_22⟩) hHeld ?_
  case yq1_22 => (intro W0 hSw; go_simp; try with_reducible rfl)
  try simp only [Act.put, List.setIfInBounds_toArray, List.set_cons_zero, List.set_cons_succ]
  refine wpAnyH_ready (rs := [20]) (by kernel_rfl) (by simp) ?_
  refine AllReadyH.cons (i := 20) (o := ⟨(some 76), _, _, _, _, _⟩) rfl (fun K hK => ?_) AllReadyH.nil
  go_simp
  refine hhex.mono ?_
  rintro e w8 ⟨rfl, hb8d⟩
  have hb8 : Below w7.heap.size w7 w8 := below_undrew hb8d
  refine hK.out _ _ (hb8) (fun hHeld => ?_)
  clear hK K
  try simp only [Act.put, List.setIfInBounds_toArray, List.set_cons_zero, List.set_cons_succ]
  refine wpAnyH_take (i := 21) (oi := ⟨(some 77), _, _, _, _, _⟩) (v := ?vq1_23) rfl (by kernel_rfl) (by kernel_rfl) (by kernel_rfl) (fun _ _ _ h => h) (Or.inl ⟨by rfl, ?yq1_23⟩) hHeld ?_
  case yq1_23 => (intro W0 hSw; go_simp; try with_reducible rfl)
  try simp only [Act.put, List.setIfInBounds_toArray, List.set_cons_zero, List.set_cons_succ]
  refine wpAnyH_take (i := 25) (oi := ⟨(some 81), _, _, _, _, _⟩) (v := ?vq1_24) rfl (by kernel_rfl) (by kernel_rfl) (by kernel_rfl) (fun _ _ _ h => h) (Or.inl ⟨by rfl, ?yq1_24⟩) hHeld ?_
  case yq1_24 => (intro W0 hSw; go_simp; try with_reducible rfl)
  try simp only [Act.put, List.setIfInBounds_toArray, List.set_cons_zero, List.set_cons_succ]
  refine wpAnyH_take (i := 26) (oi := ⟨(some 82), _, _, _, _, _⟩) (v := ?vq1_25) rfl (by kernel_rfl) (by kernel_rfl) (by kernel_rfl) (fun _ _ _ h => h) (Or.inl ⟨by rfl, ?yq1_25⟩) hHeld ?_
  case yq1_25 => (intro W0 hSw; go_simp; try with_reducible rfl)
  try simp only [Act.put, List.setIfInBounds_toArray, List.set_cons_zero, List.set_cons_succ]
  refine wpAnyH_take (i := 27) (oi := ⟨(some 8), _, _, _, _, _⟩) (v := ?vq1_26) rfl (by kernel_rfl) (by kernel_rfl) (by kernel_rfl) (fun _ _ _ h => h) (Or.inl ⟨by rfl, ?yq1_26⟩) hHeld ?_
  case yq1_26 => (intro W0 hSw; go_simp; try with_reducible rfl)
  try simp only [Act.put, List.setIfInBounds_toArray, List.set_cons_zero, List.set_cons_succ]
  refine wpAnyH_done (by kernel_rfl) ?_ _
  have hbw8 := below_next hbw7 hbw7.size hb8
  clear hHeld hcx hcy hcz hcu hhex
  go_wp2
  go_ret
  have hwr : IntKind.i64.wrap (2 * ((n : Int) + 16)) = 2 * ((n : Int) + 16) := IntWalk.i64_in _ (by omega)
  refine ⟨ret_bool ?_, hbw8⟩
  rw [hwr]
  simp
end Go.Proofs.Ytkeejkhapmcanaa
