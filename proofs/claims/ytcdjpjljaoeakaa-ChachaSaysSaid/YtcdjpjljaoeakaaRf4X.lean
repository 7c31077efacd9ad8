/-
  Contract of the document's own Xor of chapter 4. Conditions: a key of 32 bytes, a nonce of 12, a count below 2^32; up to 300 bytes.
-/
import Derived.Test.YtcdjpjljaoeakaaRf4B
import Derived.Test.YtcdjpjljaoeakaaChT
namespace Go.Proofs.Ytcdjpjljaoeakaa
open Go.RowKit

theorem refBlock_ex (w : World) (key nonce : List UInt8) (count : Nat) (hk : key.length = 32) (hn : nonce.length = 12) (hc : count < 4294967296) :
    Calls Try.prog 14 #[.agg (bv key).toArray, .int .u32 (count : Int), .agg (bv nonce).toArray] w fun e w' => ∃ l, e = .returned (.agg (bv l).toArray) ∧ Vlt (l = blockOf key count nonce) ∧ Hid (l.length = 64) ∧ Below w.heap.size w w' :=
  (refBlock_any w key nonce count hk hn hc).mono fun _ _ h => ⟨_, h.1, vlt rfl, blockOf_len _ _ _, h.2⟩

set_option maxRecDepth 100000 in
theorem refCxor_no (w : World) (key nonce : List UInt8) (count : Nat) (A : Option Addr) (n c : Nat) (hc : count < 4294967296) (hn : n ≤ 300) (hbig : 4294967296 < count + nblk n) :
    Calls Try.prog 12 #[.agg (bv key).toArray, .int .u32 (count : Int), .agg (bv nonce).toArray, .slice A n c] w fun e w' => e = .returned (.tuple #[.slice none 0 0, .bool false]) ∧ Below w.heap.size w w' := by
  have hb' : (4294967296 : Int) < (count : Int) + ((n : Int) + 63) / 64 := by unfold nblk at hbig; omega
  obtain ⟨W, hW, hgK, hgN, hbW, hsW⟩ := pair_new w (bv key).toArray (bv nonce).toArray 31 32
  have HW := Lib.hid hW
  clear hW hbig
  go_enter Try.func12, Try.ntmps12
  go_upto_region 1 with fail
  rw [HW.out]
  go_wp2
  go_ret2
  exact ⟨rfl, hbW⟩

set_option maxRecDepth 100000 in
set_option maxHeartbeats 1000000 in
theorem refCxor_ok (w : World) (key nonce b : List UInt8) (count : Nat) (A : Option Addr) (n c : Nat) (hk : key.length = 32) (hnn : nonce.length = 12) (hc : count < 4294967296) (hb : Byt w w.heap.size A b) (hl : b.length = n) (hcap : n ≤ c) (hn : n ≤ 300)
    (hfit : count + nblk n ≤ 4294967296) :
    Calls Try.prog 12 #[.agg (bv key).toArray, .int .u32 (count : Int), .agg (bv nonce).toArray, .slice A n c] w fun e w' => ∃ A' c', e = .returned (.tuple #[.slice A' n c', .bool true]) ∧ Res w' w.heap.size 5 A' n c' (xorOf key count nonce b) ∧ Below w.heap.size w w' := by
  have hzb := zero_b64
  have hfit' : ¬ (4294967296 : Int) < (count : Int) + ((n : Int) + 63) / 64 := by unfold nblk at hfit; omega
  have HFIT := Lib.hid hfit
  have HK := Lib.hid hk
  have HN := Lib.hid hnn
  have HL := Lib.hid hl
  have HKS := Lib.hid (show (bv key).toArray.size = 32 by simp [bv_len, hk])
  have HNS := Lib.hid (show (bv nonce).toArray.size = 12 by simp [bv_len, hnn])
  clear hk hnn hl hfit
  obtain ⟨W, hW, hgK, hgN, hbW, hsW⟩ := pair_new w (bv key).toArray (bv nonce).toArray 31 32
  have HW := Lib.hid hW
  have hbb := hb.below hbW
  have hsW1 : w.heap.size < W.heap.size := by have := hsW.out; omega
  have hsW2 : w.heap.size + 1 < W.heap.size := by have := hsW.out; omega
  clear hW
  go_enter Try.func12, Try.ntmps12
  go_upto_region 1 with fail
  rw [HW.out]
  go_wp2
  go_loopw [10, 11] (fun s i wr => ∃ (k t m : Nat) (A' : Option Addr) (c' : Nat), i = .int .i64 (t : Int) ∧ s = .slice A' m c' ∧ Hid (t = 64 * k) ∧ Hid (m = min n (64 * k)) ∧ m ≤ n ∧ Hid (k ≤ nblk n) ∧ Res wr W.heap.size 5 A' m c' (xr b (streamOf key count nonce k)) ∧ Below W.heap.size W wr) (fun _ i _ => n + 64 - (intOf i).toNat)
  case atStart => exact ⟨0, 0, 0, none, 0, rfl, rfl, rfl, show _ = _ by omega, by omega, Nat.zero_le _, by have h := World.ownsRow_nil W W.heap.size 5 1; simpa [streamOf, xr, Res, bv] using h, Below.refl _ _⟩
  case round =>
    obtain ⟨k, t, m, A', c', rfl, rfl, hT, hm, hmn, hkn, hres, hbel⟩ := hrel
    have hsr := hbel.size
    have htb : t ≤ 384 := by have h1 := hT.out; have h2 := hkn.out; unfold nblk at h2; omega
    by_cases hlt : t < n
    · have hmt : t = m := by have h1 := hm.out; have h2 := hT.out; omega
      have HT := hT
      subst hmt
      have hk1 : k + 1 ≤ nblk n := by have := HT.out; unfold nblk; omega
      have HK1 := Lib.hid hk1
      obtain ⟨cv, hcv⟩ : ∃ cv, cv = (count + k) % 4294967296 := ⟨_, rfl⟩
      have lcv : cv < 4294967296 := by rw [hcv]; exact Nat.mod_lt _ (by decide)
      have E0 : count + k < 4294967296 := by have := HFIT.out; omega
      have E1 := Lib.hid (show (count : Int) + (t : Int) / 64 = (cv : Int) by have := HT.out; omega)
      have E2 := Lib.hid (show ((count : Int) + (t : Int) / 64) % 4294967296 = (cv : Int) by have := HT.out; omega)
      have E3 := Lib.hid (show ((count : Int) + (t : Int) / 64 % 4294967296) % 4294967296 = (cv : Int) by have := HT.out; omega)
      have HCV := vlt hcv
      clear hcv hk1 hm
      have hgKr : Hid (wr.heap[w.heap.size]? = some (.cells (bv key).toArray 31 (0, 0))) := (hbel.block _ hsW1).trans hgK.out
      have hgNr : Hid (wr.heap[w.heap.size + 1]? = some (.cells (bv nonce).toArray 32 (0, 0))) := (hbel.block _ hsW2).trans hgN.out
      have hblk := refBlock_ex wr key nonce cv HK.out HN.out lcv
      go_wp2_with (first
        | (with_reducible refine wpList_load_row rfl 31 (.tmp 4) rfl w.heap.size rfl 31 (bv key).toArray (0, 0) _ hgKr.out Try.underlying31 rfl (by rw [HKS.out]; kernel_rfl) ?_)
        | (with_reducible refine wpList_load_row rfl 32 (.tmp 6) rfl (w.heap.size + 1) rfl 32 (bv nonce).toArray (0, 0) _ hgNr.out Try.underlying32 rfl (by rw [HNS.out]; kernel_rfl) ?_))
      first
        | rw [E3.out]
        | rw [E2.out]
        | rw [E1.out]
      refine hblk.mono ?_
      rintro e w2 ⟨bl, rfl, hbl, hbll, hb2⟩
      clear hblk hgKr hgNr E0
      have HBS := Lib.hid (show (bv bl).toArray.size = 64 by simp [bv_len, hbll.out])
      have HZ64 := Lib.hid (show (bv z64).toArray.size = 64 from rfl)
      go_upto_region 8 with ((with_reducible refine wpList_store_row rfl 36 (.tmp 12) (.tmp 36) rfl w2.heap.size (bv bl).toArray rfl rfl 36 _ (heap_alloc_new _ _) (by rw [HBS.out]; kernel_rfl) (by rw [HBS.out]; exact HZ64.out) (all_oneCell_toArray (bv_one _)) ?_); rw [World.setRow_alloc_new])
      have hg3 : Hid ((w2.alloc (.cells (bv bl).toArray 36)).heap[w2.heap.size]? = some (.cells (bv bl).toArray 36 (0, 0))) := heap_alloc_new _ _
      have hb3 : Below wr.heap.size wr (w2.alloc (.cells (bv bl).toArray 36)) := hb2.alloc hb2.size _
      generalize w2.alloc (.cells (bv bl).toArray 36) = w3 at *
      have hres3 := hres.keep hb3
      have hbel3 : Below W.heap.size W w3 := hbel.trans (hb3.mono hsr)
      have hcuts := cut_all Try.underlying36 Try.sizeByte w2.heap.size 0 (by decide)
      have hbs := byt_row hg3.out
      have HSTR := vlt (show xr b (streamOf key count nonce (k + 1)) = xr b (streamOf key count nonce k) ++ xr (b.drop t) bl by rw [streamOf, ← HCV.out, ← hbl.out, xr_app, streamOf_len, ← HT.out])
      clear hres hbel hb3 hg3 E1 E2 E3
      by_cases h64 : t + 64 < n
      · have hq0 : 0 < 64 := by omega
        have hcutb := run_cut_lh Try.underlying26 Try.sizeByte A n c t (t + 64) (t : Int) ((t : Int) + 64) rfl (by omega) (by omega) (by omega)
        rw [show t + 64 - t = 64 by omega] at hcutb
        have hwr : IntKind.i64.wrap ((t : Int) + 64) = (t : Int) + 64 := IntWalk.i64_in _ (by omega)
        have hgt : (64 : Int) < (n : Int) - (t : Int) := by omega
        have hbt := (((((hbb.up (by omega : w.heap.size ≤ W.heap.size)).below hbel3).cut t c (by rw [HL.out]; exact hcap)).take 64).up hbel3.size)
        generalize (if c = t then A else A.map (·.add t)) = A4 at *
        have hx := refXor_core A4 (some ⟨w2.heap.size, 0, none⟩) ((b.drop t).take 64) bl 64 64 (c - t) 64 64 w3.drew hbt hbs (by rw [List.length_take, List.length_drop, HL.out]; omega) hbll.out (by omega) (by decide) (by omega)
        have HXR := vlt (show xr ((b.drop t).take 64) bl = xr (b.drop t) bl by exact xr_take _ _ _ (by rw [hbll.out]; exact Nat.le_refl _))
        have HQ := Lib.hid (show t + 64 = min n (64 * (k + 1)) by have := HT.out; omega)
        clear hbt
        go_upto_region 11 with fail
        refine wp_region_held_drew (S := (fun _ => True)) (by kernel_rfl) (trivial) (fun hHeld => ?_)
        refine wpAnyH_take (i := 0) (oi := ⟨(some 43), _, _, _, _, _⟩) (v := ?vq1_0) rfl (by kernel_rfl) (by kernel_rfl) (by kernel_rfl) (fun _ _ _ h => h) (Or.inl ⟨by rfl, ?yq1_0⟩) hHeld ?_
        case yq1_0 => (intro W0 hSw; go_simp; try with_reducible rfl)
        try simp only [Act.put, List.setIfInBounds_toArray, List.set_cons_zero, List.set_cons_succ]
        refine wpAnyH_take (i := 1) (oi := ⟨(some 44), _, _, _, _, _⟩) (v := ?vq1_1) rfl (by kernel_rfl) (by kernel_rfl) (by kernel_rfl) (fun _ _ _ h => h) (Or.inl ⟨by rfl, ?yq1_1⟩) hHeld ?_
        case yq1_1 => (intro W0 hSw; go_simp; try with_reducible rfl)
        try simp only [Act.put, List.setIfInBounds_toArray, List.set_cons_zero, List.set_cons_succ]
        refine wpAnyH_take (i := 2) (oi := ⟨(some 45), _, _, _, _, _⟩) (v := ?vq1_2) rfl (by kernel_rfl) (by kernel_rfl) (by kernel_rfl) (fun _ _ _ h => h) (Or.inl ⟨by rfl, ?yq1_2⟩) hHeld ?_
        case yq1_2 => (intro W0 hSw; go_simp; try with_reducible rfl)
        try simp only [Act.put, List.setIfInBounds_toArray, List.set_cons_zero, List.set_cons_succ]
        refine wpAnyH_take (i := 3) (oi := ⟨(some 46), _, _, _, _, _⟩) (v := ?vq1_3) rfl (by kernel_rfl) (by kernel_rfl) (by kernel_rfl) (fun _ _ _ h => h) (Or.inl ⟨by rfl, ?yq1_3⟩) hHeld ?_
        case yq1_3 => (intro W0 hSw; go_simp; try with_reducible rfl)
        try simp only [Act.put, List.setIfInBounds_toArray, List.set_cons_zero, List.set_cons_succ]
        refine wpAnyH_take (i := 4) (oi := ⟨(some 47), _, _, _, _, _⟩) (v := ?vq1_4) rfl (by kernel_rfl) (by kernel_rfl) (by kernel_rfl) (fun _ _ _ h => h) (Or.inl ⟨by rfl, ?yq1_4⟩) hHeld ?_
        case yq1_4 => (intro W0 hSw; go_simp; try with_reducible rfl)
        try simp only [Act.put, List.setIfInBounds_toArray, List.set_cons_zero, List.set_cons_succ]
        refine wpAnyH_take (i := 5) (oi := ⟨(some 48), _, _, _, _, _⟩) (v := ?vq1_5) rfl (by kernel_rfl) (by kernel_rfl) (by kernel_rfl) (fun _ _ _ h => h) (Or.inl ⟨by rfl, ?yq1_5⟩) hHeld ?_
        case yq1_5 => (intro W0 hSw; go_simp; try with_reducible rfl)
        try simp only [Act.put, List.setIfInBounds_toArray, List.set_cons_zero, List.set_cons_succ]
        refine wpAnyH_take (i := 6) (oi := ⟨(some 49), _, _, _, _, _⟩) (v := ?vq1_6) rfl (by kernel_rfl) (by kernel_rfl) (by kernel_rfl) (fun _ _ _ h => h) (Or.inl ⟨by rfl, ?yq1_6⟩) hHeld ?_
        case yq1_6 => (intro W0 hSw; go_simp; try with_reducible rfl)
        try simp only [Act.put, List.setIfInBounds_toArray, List.set_cons_zero, List.set_cons_succ]
        refine wpAnyH_take (i := 7) (oi := ⟨(some 50), _, _, _, _, _⟩) (v := ?vq1_7) rfl (by kernel_rfl) (by kernel_rfl) (by kernel_rfl) (fun _ _ _ h => h) (Or.inl ⟨by rfl, ?yq1_7⟩) hHeld ?_
        case yq1_7 => (intro W0 hSw; go_simp; try with_reducible rfl)
        try simp only [Act.put, List.setIfInBounds_toArray, List.set_cons_zero, List.set_cons_succ]
        refine wpAnyH_ready (rs := [8]) (by kernel_rfl) (by simp) ?_
        refine AllReadyH.cons (i := 8) (o := ⟨(some 51), _, _, _, _, _⟩) rfl (fun K hK => ?_) AllReadyH.nil
        go_simp
        refine hx.mono ?_
        rintro e w6 ⟨A6, c6, rfl, hr6, hb6⟩
        obtain ⟨g6, rfl⟩ := hr6.some_ hq0
        refine hK.out _ _ (trivial) (fun hHeld => ?_)
        clear hK K
        try simp only [Act.put, List.setIfInBounds_toArray, List.set_cons_zero, List.set_cons_succ]
        have hres6 := hres3.keep (w' := w6) (below_undrew hb6)
        rw [HXR.out] at hr6
        have hcl6 := cells_at hr6.byt
        refine wpAnyH_ready (rs := [9]) (by kernel_rfl) (by simp) ?_
        refine AllReadyH.cons (i := 9) (o := ⟨(some 52), _, _, _, _, _⟩) rfl (fun K hK => ?_) AllReadyH.nil
        refine step_append_bytes w6 rfl (.tmp 43) (.tmp 51) 26 rfl 5 Try.underlying26 Try.infoByte W.heap.size A' t c' _ (by rfl) hres6 ⟨g6, 0, none⟩ (64) c6 (by rfl) (xr (b.drop t) bl) hr6.len hcl6 (by omega) (by have h1 := hb6.size; have h2 := hbel3.size; exact Nat.le_trans h2 h1) ?_
        intro A7 c7 w7 hr7 hb7f
        refine hK.out _ _ (trivial) (fun hHeld => ?_)
        clear hK K
        try simp only [Act.put, List.setIfInBounds_toArray, List.set_cons_zero, List.set_cons_succ]
        refine wpAnyH_take (i := 10) (oi := ⟨(some 10), _, _, _, _, _⟩) (v := ?vq1_8) rfl (by kernel_rfl) (by kernel_rfl) (by kernel_rfl) (fun _ _ _ h => h) (Or.inl ⟨by rfl, ?yq1_8⟩) hHeld ?_
        case yq1_8 => (intro W0 hSw; go_simp; try with_reducible rfl)
        try simp only [Act.put, List.setIfInBounds_toArray, List.set_cons_zero, List.set_cons_succ]
        refine wpAnyH_done (by kernel_rfl) ?_ _
        have hbel7 : Below W.heap.size W w7 := hb7f _ _ (Nat.le_refl _) (hbel3.trans ((below_undrew hb6).mono hbel3.size))
        have hr8 : Res w7 W.heap.size 5 A7 (t + 64) c7 (xr b (streamOf key count nonce (k + 1))) := by rw [HSTR.out]; exact hr7
        clear hres6 hcl6 hr6 hb7f hx hres3 hbel3 hcutb hcuts hr7 hHeld hwr
        go_wp2
        go_roundw
        case rel => exact ⟨k + 1, t + 64, t + 64, A7, c7, by go_num, by first | rfl | (rw [show t + (n - t) = n by omega]), show _ = _ by have := HT.out; omega, HQ, by omega, HK1, hr8, hbel7⟩
        case measure => simp [intOf]; omega
      · have hq0 : 0 < (n - t) := by omega
        have hcutb := run_cut_lh Try.underlying26 Try.sizeByte A n c t (t + (n - t)) (t : Int) ((t : Int) + ((n : Int) - (t : Int))) rfl (by omega) (by omega) (by omega)
        rw [show t + (n - t) - t = (n - t) by omega] at hcutb
        have hwr : IntKind.i64.wrap ((t : Int) + ((n : Int) - (t : Int))) = (t : Int) + ((n : Int) - (t : Int)) := IntWalk.i64_in _ (by omega)
        have hgt : ¬ (64 : Int) < (n : Int) - (t : Int) := by omega
        have hbt := (((((hbb.up (by omega : w.heap.size ≤ W.heap.size)).below hbel3).cut t c (by rw [HL.out]; exact hcap)).take (n - t)).up hbel3.size)
        generalize (if c = t then A else A.map (·.add t)) = A4 at *
        have hx := refXor_core A4 (some ⟨w2.heap.size, 0, none⟩) ((b.drop t).take (n - t)) bl (n - t) 64 (c - t) 64 (n - t) w3.drew hbt hbs (by rw [List.length_take, List.length_drop, HL.out]; omega) hbll.out (by omega) (by decide) (by omega)
        have HXR := vlt (show xr ((b.drop t).take (n - t)) bl = xr (b.drop t) bl by rw [List.take_of_length_le (by rw [List.length_drop, HL.out]; exact Nat.le_refl _)])
        have HQ := Lib.hid (show t + (n - t) = min n (64 * (k + 1)) by have := HT.out; omega)
        clear hbt
        go_upto_region 11 with fail
        refine wp_region_held_drew (S := (fun _ => True)) (by kernel_rfl) (trivial) (fun hHeld => ?_)
        refine wpAnyH_take (i := 0) (oi := ⟨(some 43), _, _, _, _, _⟩) (v := ?vq2_0) rfl (by kernel_rfl) (by kernel_rfl) (by kernel_rfl) (fun _ _ _ h => h) (Or.inl ⟨by rfl, ?yq2_0⟩) hHeld ?_
        case yq2_0 => (intro W0 hSw; go_simp; try with_reducible rfl)
        try simp only [Act.put, List.setIfInBounds_toArray, List.set_cons_zero, List.set_cons_succ]
        refine wpAnyH_take (i := 1) (oi := ⟨(some 44), _, _, _, _, _⟩) (v := ?vq2_1) rfl (by kernel_rfl) (by kernel_rfl) (by kernel_rfl) (fun _ _ _ h => h) (Or.inl ⟨by rfl, ?yq2_1⟩) hHeld ?_
        case yq2_1 => (intro W0 hSw; go_simp; try with_reducible rfl)
        try simp only [Act.put, List.setIfInBounds_toArray, List.set_cons_zero, List.set_cons_succ]
        refine wpAnyH_take (i := 2) (oi := ⟨(some 45), _, _, _, _, _⟩) (v := ?vq2_2) rfl (by kernel_rfl) (by kernel_rfl) (by kernel_rfl) (fun _ _ _ h => h) (Or.inl ⟨by rfl, ?yq2_2⟩) hHeld ?_
        case yq2_2 => (intro W0 hSw; go_simp; try with_reducible rfl)
        try simp only [Act.put, List.setIfInBounds_toArray, List.set_cons_zero, List.set_cons_succ]
        refine wpAnyH_take (i := 3) (oi := ⟨(some 46), _, _, _, _, _⟩) (v := ?vq2_3) rfl (by kernel_rfl) (by kernel_rfl) (by kernel_rfl) (fun _ _ _ h => h) (Or.inl ⟨by rfl, ?yq2_3⟩) hHeld ?_
        case yq2_3 => (intro W0 hSw; go_simp; try with_reducible rfl)
        try simp only [Act.put, List.setIfInBounds_toArray, List.set_cons_zero, List.set_cons_succ]
        refine wpAnyH_take (i := 4) (oi := ⟨(some 47), _, _, _, _, _⟩) (v := ?vq2_4) rfl (by kernel_rfl) (by kernel_rfl) (by kernel_rfl) (fun _ _ _ h => h) (Or.inl ⟨by rfl, ?yq2_4⟩) hHeld ?_
        case yq2_4 => (intro W0 hSw; go_simp; try with_reducible rfl)
        try simp only [Act.put, List.setIfInBounds_toArray, List.set_cons_zero, List.set_cons_succ]
        refine wpAnyH_take (i := 5) (oi := ⟨(some 48), _, _, _, _, _⟩) (v := ?vq2_5) rfl (by kernel_rfl) (by kernel_rfl) (by kernel_rfl) (fun _ _ _ h => h) (Or.inl ⟨by rfl, ?yq2_5⟩) hHeld ?_
        case yq2_5 => (intro W0 hSw; go_simp; try with_reducible rfl)
        try simp only [Act.put, List.setIfInBounds_toArray, List.set_cons_zero, List.set_cons_succ]
        refine wpAnyH_take (i := 6) (oi := ⟨(some 49), _, _, _, _, _⟩) (v := ?vq2_6) rfl (by kernel_rfl) (by kernel_rfl) (by kernel_rfl) (fun _ _ _ h => h) (Or.inl ⟨by rfl, ?yq2_6⟩) hHeld ?_
        case yq2_6 => (intro W0 hSw; go_simp; try with_reducible rfl)
        try simp only [Act.put, List.setIfInBounds_toArray, List.set_cons_zero, List.set_cons_succ]
        refine wpAnyH_take (i := 7) (oi := ⟨(some 50), _, _, _, _, _⟩) (v := ?vq2_7) rfl (by kernel_rfl) (by kernel_rfl) (by kernel_rfl) (fun _ _ _ h => h) (Or.inl ⟨by rfl, ?yq2_7⟩) hHeld ?_
        case yq2_7 => (intro W0 hSw; go_simp; try with_reducible rfl)
        try simp only [Act.put, List.setIfInBounds_toArray, List.set_cons_zero, List.set_cons_succ]
        refine wpAnyH_ready (rs := [8]) (by kernel_rfl) (by simp) ?_
        refine AllReadyH.cons (i := 8) (o := ⟨(some 51), _, _, _, _, _⟩) rfl (fun K hK => ?_) AllReadyH.nil
        go_simp
        refine hx.mono ?_
        rintro e w6 ⟨A6, c6, rfl, hr6, hb6⟩
        obtain ⟨g6, rfl⟩ := hr6.some_ hq0
        refine hK.out _ _ (trivial) (fun hHeld => ?_)
        clear hK K
        try simp only [Act.put, List.setIfInBounds_toArray, List.set_cons_zero, List.set_cons_succ]
        have hres6 := hres3.keep (w' := w6) (below_undrew hb6)
        rw [HXR.out] at hr6
        have hcl6 := cells_at hr6.byt
        refine wpAnyH_ready (rs := [9]) (by kernel_rfl) (by simp) ?_
        refine AllReadyH.cons (i := 9) (o := ⟨(some 52), _, _, _, _, _⟩) rfl (fun K hK => ?_) AllReadyH.nil
        refine step_append_bytes w6 rfl (.tmp 43) (.tmp 51) 26 rfl 5 Try.underlying26 Try.infoByte W.heap.size A' t c' _ (by rfl) hres6 ⟨g6, 0, none⟩ ((n - t)) c6 (by rfl) (xr (b.drop t) bl) hr6.len hcl6 (by omega) (by have h1 := hb6.size; have h2 := hbel3.size; exact Nat.le_trans h2 h1) ?_
        intro A7 c7 w7 hr7 hb7f
        refine hK.out _ _ (trivial) (fun hHeld => ?_)
        clear hK K
        try simp only [Act.put, List.setIfInBounds_toArray, List.set_cons_zero, List.set_cons_succ]
        refine wpAnyH_take (i := 10) (oi := ⟨(some 10), _, _, _, _, _⟩) (v := ?vq2_8) rfl (by kernel_rfl) (by kernel_rfl) (by kernel_rfl) (fun _ _ _ h => h) (Or.inl ⟨by rfl, ?yq2_8⟩) hHeld ?_
        case yq2_8 => (intro W0 hSw; go_simp; try with_reducible rfl)
        try simp only [Act.put, List.setIfInBounds_toArray, List.set_cons_zero, List.set_cons_succ]
        refine wpAnyH_done (by kernel_rfl) ?_ _
        have hbel7 : Below W.heap.size W w7 := hb7f _ _ (Nat.le_refl _) (hbel3.trans ((below_undrew hb6).mono hbel3.size))
        have hr8 : Res w7 W.heap.size 5 A7 (t + (n - t)) c7 (xr b (streamOf key count nonce (k + 1))) := by rw [HSTR.out]; exact hr7
        clear hres6 hcl6 hr6 hb7f hx hres3 hbel3 hcutb hcuts hr7 hHeld hwr
        go_wp2
        go_roundw
        case rel => exact ⟨k + 1, t + 64, t + (n - t), A7, c7, by go_num, by first | rfl | (rw [show t + (n - t) = n by omega]), show _ = _ by have := HT.out; omega, HQ, by omega, HK1, hr8, hbel7⟩
        case measure => simp [intOf]; omega
    · have hmn' : m = n := by have h1 := hm.out; have h2 := hT.out; omega
      have hkk : k = nblk n := by have h1 := hT.out; have h2 := hkn.out; unfold nblk at *; omega
      have hfin : Hid (Res wr w.heap.size 5 A' n c' (xorOf key count nonce b)) := by
        have h1 := hres.base_le (B := w.heap.size) (by omega)
        rw [hmn', hkk] at h1
        rw [xorOf, HL.out]
        exact h1
      subst hmn'
      have hbw : Below w.heap.size w wr := hbW.trans (hbel.mono (by omega))
      clear hkk hm hkn hres
      go_wp2
      go_ret2
      exact ⟨_, _, rfl, hfin.out, hbw⟩
end Go.Proofs.Ytcdjpjljaoeakaa
