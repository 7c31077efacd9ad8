/-
  Contract of chacha.Xor: the stream on bytes, EARG past the last count. Conditions: a key of 32 bytes, a nonce of 12, a count below 2^32; fewer than 2^40 bytes.
-/
import Derived.Test.YtcdjpjljaoeakaaChK
namespace Go.Proofs.Ytcdjpjljaoeakaa
open Go.RowKit

theorem blocks_any (A : Option Addr) (n c : Nat) (w : World) (hn : n ≤ 1099511627776) :
    Calls Try.prog 16 #[.slice A n c] w fun e w' => ∃ k : Nat, e = .returned (.int .u64 (k : Int)) ∧ k = nblk n ∧ w = w' := by
  go_enter Try.func16, Try.ntmps16
  go_wp2
  go_ret
  refine ⟨nblk n, ?_, rfl, rfl⟩
  show Ending.returned (.int .u64 (((n : Int) + 64 - 1) / 64)) = _
  rw [show ((n : Int) + 64 - 1) / 64 = ((nblk n : Nat) : Int) by unfold nblk; omega]
/-- Two new blocks. -/
theorem pair_new (w : World) (a b : Array Value) (s t : TypeId) :
    ∃ W, (w.alloc (.cells a s)).alloc (.cells b t) = W ∧ Hid (W.heap[w.heap.size]? = some (.cells a s (0, 0))) ∧ Hid (W.heap[w.heap.size + 1]? = some (.cells b t (0, 0))) ∧ Below w.heap.size w W ∧ Hid (W.heap.size = w.heap.size + 2) :=
  ⟨_, rfl, heap_alloc2_old _ _ _, heap_alloc2_new _ _ _, ((Below.refl _ _).alloc (Nat.le_refl _) _).alloc (by simp) _, show _ = _ by simp⟩
def slen : Value → Nat | .slice _ n _ => n | _ => 0
theorem Res.some_ {w : World} {base E n c : Nat} {A : Option Addr} {l : List UInt8} (h : Res w base E A n c l) (hn : 0 < n) : ∃ g, A = some ⟨g, 0, none⟩ := by
  rcases h.2 with ⟨_, h0⟩ | ⟨g, cap, cur, hv, _⟩
  · omega
  · injection hv with hv; exact ⟨g, hv⟩
theorem below_undrew {B : Nat} {w w' : World} (h : Below B w.drew w') : Below B w w' := ⟨h.os, h.tape, h.output, h.size, h.block⟩
/-- A block of the call's own, out of Block. -/
theorem block_ex (w : World) (key nonce : List UInt8) (count : Nat) (hk : key.length = 32) (hn : nonce.length = 12) (hc : count < 4294967296) :
    Calls Try.prog 13 #[.agg (bv key).toArray, .int .u32 (count : Int), .agg (bv nonce).toArray] w fun e w' => ∃ l, e = .returned (.agg (bv l).toArray) ∧ Vlt (l = blockOf key count nonce) ∧ Hid (l.length = 64) ∧ Below w.heap.size w w' :=
  (block_any w key nonce count hk hn hc).mono fun _ _ h => ⟨_, h.1, vlt rfl, blockOf_len _ _ _, h.2⟩

set_option maxRecDepth 100000 in
theorem cxor_no (w : World) (key nonce : List UInt8) (count : Nat) (A : Option Addr) (n c : Nat) (hc : count < 4294967296) (hn : n ≤ 1099511627776) (hbig : 4294967296 < count + nblk n) :
    Calls Try.prog 10 #[.agg (bv key).toArray, .int .u32 (count : Int), .agg (bv nonce).toArray, .slice A n c] w fun e w' => e = .returned (.tuple #[.slice none 0 0, .int .i64 1]) ∧ Below w.heap.size w w' := by
  have hk2 : nblk n ≤ 1099511627776 := by unfold nblk; omega
  obtain ⟨W, hW, hgK, hgN, hbW, hsW⟩ := pair_new w (bv key).toArray (bv nonce).toArray 31 32
  have HW := Lib.hid hW
  clear hW
  go_enter Try.func10, Try.ntmps10
  go_upto_region 1 with fail
  rw [HW.out]
  go_wp2_with fail
  refine (blocks_any A n c W hn).mono ?_
  rintro e w' ⟨k, rfl, rfl, rfl⟩
  go_wp2
  go_ret2
  exact ⟨rfl, hbW⟩

set_option maxRecDepth 100000 in
set_option maxHeartbeats 2000000 in
theorem cxor_ok (w : World) (key nonce b : List UInt8) (count : Nat) (A : Option Addr) (n c : Nat) (hk : key.length = 32) (hnn : nonce.length = 12) (hc : count < 4294967296) (hb : Byt w w.heap.size A b) (hl : b.length = n) (hcap : n ≤ c) (hn : n ≤ 1099511627776)
    (hfit : count + nblk n ≤ 4294967296) :
    Calls Try.prog 10 #[.agg (bv key).toArray, .int .u32 (count : Int), .agg (bv nonce).toArray, .slice A n c] w fun e w' => ∃ A' c', e = .returned (.tuple #[.slice A' n c', .int .i64 0]) ∧ Res w' w.heap.size 5 A' n c' (xorOf key count nonce b) ∧ Below w.heap.size w w' := by
  have hzb := zero_b64
  have HK := Lib.hid hk
  have HN := Lib.hid hnn
  have HL := Lib.hid hl
  have HKS := Lib.hid (show (bv key).toArray.size = 32 by simp [bv_len, hk])
  have HNS := Lib.hid (show (bv nonce).toArray.size = 12 by simp [bv_len, hnn])
  clear hk hnn hl
  obtain ⟨W, hW, hgK, hgN, hbW, hsW⟩ := pair_new w (bv key).toArray (bv nonce).toArray 31 32
  have HW := Lib.hid hW
  have hbb := hb.below hbW
  obtain ⟨i0, hi, hz0, hz1, hz2⟩ := info_parts Try.infoByte
  obtain ⟨w1, hrun, hg1, hb1, hs1⟩ := make_bytes (P := Try.prog) Try.underlying26 hi hz0 hz1 hz2 0 n 0 (n : Int) rfl rfl (by omega) (by omega) W
  clear hW hi hz0 hz1 hz2
  go_enter Try.func10, Try.ntmps10
  go_upto_region 1 with fail
  rw [HW.out]
  go_wp2_with fail
  refine (blocks_any A n c W hn).mono ?_
  rintro e w' ⟨k, rfl, rfl, rfl⟩
  have hsW1 : w.heap.size < W.heap.size := by have := hsW.out; omega
  have hsW2 : w.heap.size + 1 < W.heap.size := by have := hsW.out; omega
  have hres0 : Hid (Res w1 W.heap.size 5 (some ⟨W.heap.size, 0, none⟩) 0 n []) := Res.row (Nat.le_refl _) hg1.out (by omega) (by omega) (by simp [bv]) rfl (by simp [bv])
  go_wp2
  go_loopw [1, 10] (fun cn s wr => ∃ (k cv m : Nat) (A' : Option Addr) (c' : Nat), cn = .int .u32 (cv : Int) ∧ Hid (cv = (count + k) % 4294967296) ∧ cv < 4294967296 ∧ s = .slice A' m c' ∧ Hid (m = min n (64 * k)) ∧ m ≤ n ∧ Hid (k ≤ nblk n) ∧ Res wr W.heap.size 5 A' m c' (xr b (streamOf key count nonce k)) ∧ Below W.heap.size W wr) (fun _ s _ => n - slen s)
  case atStart => exact ⟨0, count, 0, _, _, rfl, show _ = _ by omega, hc, rfl, show _ = _ by omega, by omega, Nat.zero_le _, by simpa [streamOf, xr] using hres0.out, hb1.out⟩
  case round =>
    clear hres0 hrun hg1 hb1 hs1
    obtain ⟨k, cv, m, A', c', rfl, hcv, lcv, rfl, hm, hmn, hkn, hres, hbel⟩ := hrel
    have hsr := hbel.size
    by_cases hlt : m < n
    · have hm64 : m = 64 * k := by have := hm.out; omega
      have hk1 : k + 1 ≤ nblk n := by unfold nblk; omega
      have HM := Lib.hid hm64
      have HK1 := Lib.hid hk1
      clear hm64 hk1
      have hgKr : Hid (wr.heap[w.heap.size]? = some (.cells (bv key).toArray 31 (0, 0))) := (hbel.block _ (by omega)).trans hgK.out
      have hgNr : Hid (wr.heap[w.heap.size + 1]? = some (.cells (bv nonce).toArray 32 (0, 0))) := (hbel.block _ (by omega)).trans hgN.out
      have hblk := block_ex wr key nonce cv HK.out HN.out lcv
      go_wp2_with (first
        | (with_reducible refine wpList_load_row rfl 31 (.tmp 4) rfl w.heap.size rfl 31 (bv key).toArray (0, 0) _ hgKr.out Try.underlying31 rfl (by rw [HKS.out]; kernel_rfl) ?_)
        | (with_reducible refine wpList_load_row rfl 32 (.tmp 6) rfl (w.heap.size + 1) rfl 32 (bv nonce).toArray (0, 0) _ hgNr.out Try.underlying32 rfl (by rw [HNS.out]; kernel_rfl) ?_))
      refine hblk.mono ?_
      rintro e w2 ⟨bl, rfl, hbl, hbll, hb2⟩
      clear hblk hgKr hgNr
      have HBS := Lib.hid (show (bv bl).toArray.size = 64 by simp [bv_len, hbll.out])
      have HZ64 := Lib.hid (show (bv z64).toArray.size = 64 from rfl)
      go_upto_region 6 with ((with_reducible refine wpList_store_row rfl 36 (.tmp 11) (.tmp 29) rfl w2.heap.size (bv bl).toArray rfl rfl 36 _ (heap_alloc_new _ _) (by rw [HBS.out]; kernel_rfl) (by rw [HBS.out]; exact HZ64.out) (all_oneCell_toArray (bv_one _)) ?_); rw [World.setRow_alloc_new])
      have hg3 : Hid ((w2.alloc (.cells (bv bl).toArray 36)).heap[w2.heap.size]? = some (.cells (bv bl).toArray 36 (0, 0))) := heap_alloc_new _ _
      have hb3 : Below wr.heap.size wr (w2.alloc (.cells (bv bl).toArray 36)) := hb2.alloc hb2.size _
      generalize w2.alloc (.cells (bv bl).toArray 36) = w3 at *
      have hres3 := hres.keep hb3
      have hbel3 : Below W.heap.size W w3 := hbel.trans (hb3.mono hsr)
      have hcutb := run_cut_l Try.underlying26 Try.sizeByte A n c m (m : Int) rfl hmn
      have hcuts := cut_all Try.underlying36 Try.sizeByte w2.heap.size 0 (by decide)
      have hbt := (((hbb.up (by omega : w.heap.size ≤ W.heap.size)).below hbel3).cut m c (by rw [HL.out]; exact hcap)).up hbel3.size
      generalize (if c = m then A else A.map (·.add m)) = A4 at *
      have hbs := byt_row hg3.out
      obtain ⟨q, hq⟩ : ∃ q, q = min (n - m) 64 := ⟨_, rfl⟩
      have hx := xor_core A4 (some ⟨w2.heap.size, 0, none⟩) (b.drop m) bl (n - m) 64 (c - m) 64 q w3.drew hbt hbs (by rw [List.length_drop, HL.out]) hbll.out (by omega) (by decide) (by omega)
      have hq0 : 0 < q := by omega
      have hqn : m + q ≤ n := by omega
      have HQ := Lib.hid (show m + q = min n (64 * (k + 1)) by have := HM.out; omega)
      have HSTR := vlt (show xr b (streamOf key count nonce (k + 1)) = xr b (streamOf key count nonce k) ++ xr (b.drop m) bl by rw [streamOf, ← hcv.out, ← hbl.out, xr_app, streamOf_len, ← HM.out])
      clear hq hbt hbs hm hres hg3
      refine wp_region_held_drew (S := (fun _ => True)) (by kernel_rfl) (trivial) (fun hHeld => ?_)
      refine wpAnyH_take (i := 0) (oi := ⟨(some 30), _, _, _, _, _⟩) (v := ?vq1_0) rfl (by kernel_rfl) (by kernel_rfl) (by kernel_rfl) (fun _ _ _ h => h) (Or.inl ⟨by rfl, ?yq1_0⟩) hHeld ?_
      case yq1_0 => (intro W0 hSw; go_simp; try with_reducible rfl)
      try simp only [Act.put, List.setIfInBounds_toArray, List.set_cons_zero, List.set_cons_succ]
      refine wpAnyH_take (i := 1) (oi := ⟨(some 31), _, _, _, _, _⟩) (v := ?vq1_1) rfl (by kernel_rfl) (by kernel_rfl) (by kernel_rfl) (fun _ _ _ h => h) (Or.inl ⟨by rfl, ?yq1_1⟩) hHeld ?_
      case yq1_1 => (intro W0 hSw; go_simp; try with_reducible rfl)
      try simp only [Act.put, List.setIfInBounds_toArray, List.set_cons_zero, List.set_cons_succ]
      refine wpAnyH_take (i := 2) (oi := ⟨(some 32), _, _, _, _, _⟩) (v := ?vq1_2) rfl (by kernel_rfl) (by kernel_rfl) (by kernel_rfl) (fun _ _ _ h => h) (Or.inl ⟨by rfl, ?yq1_2⟩) hHeld ?_
      case yq1_2 => (intro W0 hSw; go_simp; try with_reducible rfl)
      try simp only [Act.put, List.setIfInBounds_toArray, List.set_cons_zero, List.set_cons_succ]
      refine wpAnyH_take (i := 3) (oi := ⟨(some 33), _, _, _, _, _⟩) (v := ?vq1_3) rfl (by kernel_rfl) (by kernel_rfl) (by kernel_rfl) (fun _ _ _ h => h) (Or.inl ⟨by rfl, ?yq1_3⟩) hHeld ?_
      case yq1_3 => (intro W0 hSw; go_simp; try with_reducible rfl)
      try simp only [Act.put, List.setIfInBounds_toArray, List.set_cons_zero, List.set_cons_succ]
      refine wpAnyH_take (i := 4) (oi := ⟨(some 34), _, _, _, _, _⟩) (v := ?vq1_4) rfl (by kernel_rfl) (by kernel_rfl) (by kernel_rfl) (fun _ _ _ h => h) (Or.inl ⟨by rfl, ?yq1_4⟩) hHeld ?_
      case yq1_4 => (intro W0 hSw; go_simp; try with_reducible rfl)
      try simp only [Act.put, List.setIfInBounds_toArray, List.set_cons_zero, List.set_cons_succ]
      refine wpAnyH_take (i := 5) (oi := ⟨(some 35), _, _, _, _, _⟩) (v := ?vq1_5) rfl (by kernel_rfl) (by kernel_rfl) (by kernel_rfl) (fun _ _ _ h => h) (Or.inl ⟨by rfl, ?yq1_5⟩) hHeld ?_
      case yq1_5 => (intro W0 hSw; go_simp; try with_reducible rfl)
      try simp only [Act.put, List.setIfInBounds_toArray, List.set_cons_zero, List.set_cons_succ]
      refine wpAnyH_ready (rs := [6]) (by kernel_rfl) (by simp) ?_
      refine AllReadyH.cons (i := 6) (o := ⟨(some 36), _, _, _, _, _⟩) rfl (fun K hK => ?_) AllReadyH.nil
      go_simp
      refine hx.mono ?_
      rintro e w6 ⟨A6, c6, rfl, hr6, hb6⟩
      obtain ⟨g6, rfl⟩ := hr6.some_ hq0
      refine hK.out _ _ (trivial) (fun hHeld => ?_)
      clear hK K
      try simp only [Act.put, List.setIfInBounds_toArray, List.set_cons_zero, List.set_cons_succ]
      have hres6 := hres3.keep (w' := w6) (below_undrew hb6)
      have hcl6 := cells_at hr6.byt
      refine wpAnyH_ready (rs := [7]) (by kernel_rfl) (by simp) ?_
      refine AllReadyH.cons (i := 7) (o := ⟨(some 37), _, _, _, _, _⟩) rfl (fun K hK => ?_) AllReadyH.nil
      refine step_append_bytes w6 rfl (.tmp 30) (.tmp 36) 26 rfl 5 Try.underlying26 Try.infoByte W.heap.size A' m c' _ (by rfl) hres6 ⟨g6, 0, none⟩ q c6 (by rfl) (xr (b.drop m) bl) hr6.len hcl6 (by omega) (by have h1 := hb6.size; have h2 := hbel3.size; exact Nat.le_trans h2 h1) ?_
      intro A7 c7 w7 hr7 hb7f
      refine hK.out _ _ (trivial) (fun hHeld => ?_)
      clear hK K
      try simp only [Act.put, List.setIfInBounds_toArray, List.set_cons_zero, List.set_cons_succ]
      refine wpAnyH_take (i := 8) (oi := ⟨(some 10), _, _, _, _, _⟩) (v := ?vq1_6) rfl (by kernel_rfl) (by kernel_rfl) (by kernel_rfl) (fun _ _ _ h => h) (Or.inl ⟨by rfl, ?yq1_6⟩) hHeld ?_
      case yq1_6 => (intro W0 hSw; go_simp; try with_reducible rfl)
      try simp only [Act.put, List.setIfInBounds_toArray, List.set_cons_zero, List.set_cons_succ]
      refine wpAnyH_done (by kernel_rfl) ?_ _
      have hbel7 : Below W.heap.size W w7 := hb7f _ _ (Nat.le_refl _) (hbel3.trans ((below_undrew hb6).mono hbel3.size))
      clear hres6 hcl6 hr6 hb7f hx hres3 hbel3 hcutb hcuts
      have hr8 : Res w7 W.heap.size 5 A7 (m + q) c7 (xr b (streamOf key count nonce (k + 1))) := by rw [HSTR.out]; exact hr7
      have HCV := Lib.hid (show (cv + 1) % 4294967296 = (count + (k + 1)) % 4294967296 by have := hcv.out; omega)
      have lcv' : (cv + 1) % 4294967296 < 4294967296 := Nat.mod_lt _ (by decide)
      have ecv : ((cv : Int) + 1) % 4294967296 = (((cv + 1) % 4294967296 : Nat) : Int) := by omega
      generalize (cv + 1) % 4294967296 = cv2 at *
      clear hr7 HSTR
      go_wp2
      go_roundw
      case rel => exact ⟨k + 1, cv2, m + q, A7, c7, by rw [ecv], HCV, lcv', rfl, HQ, hqn, HK1, hr8, hbel7⟩
      case measure => simp [slen]; omega
    · have hmn' : m = n := by omega
      have hkk : k = nblk n := by have h1 := hm.out; have h2 := hkn.out; unfold nblk at *; omega
      have hfin : Hid (Res wr w.heap.size 5 A' n c' (xorOf key count nonce b)) := by
        have h1 := hres.base_le (B := w.heap.size) (by omega)
        rw [hmn', hkk] at h1
        rw [xorOf, HL.out]
        exact h1
      subst hmn'
      have hbw : Below w.heap.size w wr := hbW.trans (hbel.mono (by omega))
      clear hkk hm hkn hres
      go_wp2
      go_ret2
      exact ⟨_, _, rfl, hfin.out, hbw⟩
end Go.Proofs.Ytcdjpjljaoeakaa
