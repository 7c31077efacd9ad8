/-
  Contract of chacha's begun: the state of a block ahead of its rounds. Conditions: a key of 32 bytes, a nonce of 12, a count below 2^32.
-/
import Derived.Test.YtcdjpjljaoeakaaChS
import Derived.Test.YtcdjpjljaoeakaaCut
import Derived.Test.YtcdjpjljaoeakaaOctBL
import Derived.Test.YtcdjpjljaoeakaaOctCL
import Derived.Deep.Cut
import Derived.IntWalk
namespace Go.Proofs.Ytcdjpjljaoeakaa
open Go.RowKit

def z16w : List Nat := List.replicate 16 0
theorem zero_w16 (w : World) : (zeroValue 48).run Try.prog w = .ok (.agg (u32v z16w).toArray) w := by kernel_rfl
theorem z16w_upto (row : List UInt8) : z16w = uptoW 16 (lw row 0) := rfl
theorem little4 (A : Option Addr) (l : List UInt8) (n c v : Nat) (w : World) (ha : Byt w w.heap.size A l) (hl : l.length = n) (hn : n ≤ 70368744177664) (hv : v < 4294967296) :
    Calls Try.prog 22 #[.slice A n c, .int .u64 (v : Int), .int .i64 4] w fun e w' => ∃ A' c', e = .returned (.slice A' (n + 4) c') ∧ Res w' w.heap.size 5 A' (n + 4) c' (l ++ le v 4) ∧ Below w.heap.size w w' :=
  little_any A l n c v 4 w ha hl hn (by omega)

set_option maxRecDepth 100000 in
set_option maxHeartbeats 2000000 in
theorem begun_any (w : World) (key nonce : List UInt8) (count : Nat) (hk : key.length = 32) (hn : nonce.length = 12) (hc : count < 4294967296) :
    Calls Try.prog 20 #[.agg (bv key).toArray, .int .u32 (count : Int), .agg (bv nonce).toArray] w fun e w' => e = .returned (.agg (u32v (firstOf key count nonce)).toArray) ∧ Below w.heap.size w w' := by
  have hz := zero_w16
  have HK := Lib.hid hk
  have HN := Lib.hid hn
  clear hk hn
  obtain ⟨W, hW, hgK, hgN, hgZ, hbW, hsW⟩ := three_new w (bv key).toArray (bv nonce).toArray (u32v z16w).toArray 31 32 48
  have HW := Lib.hid hW
  clear hW
  go_enter Try.func20, Try.ntmps20
  go_upto_region 1 with fail
  rw [HW.out]
  have kc := fun (C : Array Value) => Lib.run_convert_bytes_const (P := Try.prog) W 26 5 C 16 16 Try.underlying26 Try.underlying5
  have hcutK := cut_all Try.underlying31 Try.sizeByte w.heap.size 0 (by decide)
  have hcutN := cut_all Try.underlying32 Try.sizeByte (w.heap.size + 1) 0 (by decide)
  have hbK := byt_row hgK.out
  have hbN := byt_row hgN.out
  go_wp2_with (at_builtin; refine wp_append_grow _ rfl (.tmp 13) (.tmp 14) 26 rfl 5 Try.underlying26 Try.infoByte ⟨W.heap.size, 0, none⟩ 16 16 aheadB rfl rfl (by exact cells_at (Byt.lit_cold W _ _ _ aheadB rfl)) ⟨w.heap.size, 0, none⟩ 32 32 rfl key HK.out (by exact cells_at (hbK.alloc (Nat.le_refl _) _)) (by decide) (by decide) ?_)
  intro A1 c1 w1 hr1 hb1
  have hs0 := hsW.out
  have hb1' : Below W.heap.size W w1 := ((Below.refl _ _).alloc (Nat.le_refl _) _).trans (hb1.mono (by simp))
  have hs1 : W.heap.size ≤ w1.heap.size := hb1'.size
  have hlit := little4 A1 (aheadB ++ key) 48 c1 count w1 hr1.byt hr1.len (by decide) hc
  clear kc hcutK hb1 hr1
  go_wp2_with fail
  refine hlit.mono ?_
  rintro e w2 ⟨A2, c2, rfl, hr2, hb2⟩
  clear hlit
  have hb2' : Below W.heap.size W w2 := hb1'.trans (hb2.mono hs1)
  have hbN2 := hbN.below hb2'
  go_wp2_with (at_builtin; refine wp_append_bytes _ rfl (.tmp 20) (.tmp 21) 26 rfl 5 Try.underlying26 Try.infoByte w1.heap.size A2 52 c2 _ rfl hr2 ⟨w.heap.size + 1, 0, none⟩ 12 12 rfl nonce HN.out (by exact cells_at hbN2) (by decide) hb2.size ?_)
  intro A3 c3 w3 hr3 hb3f
  have hb3 : Below W.heap.size W w3 := hb3f _ _ hs1 hb2'
  obtain ⟨row, hrow⟩ : ∃ row, row = aheadB ++ (key ++ (le count 4 ++ nonce)) := ⟨_, rfl⟩
  rw [← hrow] at hr3
  have hbR := hr3.byt
  have HRL := Lib.hid hr3.len
  have hcap := hr3.cap
  have HROW := vlt (show firstOf key count nonce = lw row 16 by rw [hrow]; simp [firstOf, rowOf])
  have hsz3 : w.heap.size + 3 ≤ w3.heap.size := by have := hb3.size; omega
  have hz3 : Hid (w3.heap[w.heap.size + 2]? = some (.cells (u32v z16w).toArray 48 (0, 0))) := (hb3.block _ (by omega)).trans hgZ.out
  have hbw3 : Below w.heap.size w w3 := hbW.trans (hb3.mono (by omega))
  clear hcutN hb3f hrow hr3 hr2 hb2 hb2' hbN hbN2 hb1' hbK hb3 hbW hgK hgN hgZ HW hs1 hs0
  go_wp2
  go_loopw [23] (fun i wr => ∃ k : Nat, k ≤ 16 ∧ i = .int .i64 (k : Int) ∧ Hid (wr.heap[w3.heap.size]? = some (.cells (u32v (uptoW 16 (lw row k))).toArray 48 (0, 0))) ∧ Below w3.heap.size w3 wr) (fun i _ => 16 - (intOf i).toNat)
  case atStart => exact ⟨0, by omega, rfl, heap_alloc_new _ _, (Below.refl _ _).alloc (Nat.le_refl _) _⟩
  case round =>
    obtain ⟨k, hk, rfl, hg, hb⟩ := hrel
    have hsz : w3.heap.size < wr.heap.size := (Array.getElem?_eq_some_iff.1 hg.out).1
    by_cases hlt : k < 16
    · have hcut := run_cut_lh Try.underlying26 Try.sizeByte A3 64 c3 (4 * k) (4 * k + 4) (4 * (k : Int)) (4 * (k : Int) + 4) (by omega) (by omega) (by omega) (by omega)
      have hbt := (((hbR.below hb).cut (4 * k) c3 (by rw [HRL.out]; exact hcap)).take 4).up (Nat.le_of_lt hsz)
      rw [show 4 * k + 4 - 4 * k = 4 by omega] at hcut
      generalize (if c3 = 4 * k then A3 else A3.map (·.add (4 * k))) = A4 at *
      have hfl := fromLittle_ok A4 _ 4 (c3 - 4 * k) wr hbt (by simp only [List.length_take, List.length_drop]; rw [HRL.out]; omega) (by decide)
      have hx : (uptoW 16 (lw row k))[k]? = some 0 := by have := uptoW_at 16 (lw row k) (by rw [lw_len]; exact hlt); rwa [lw_len] at this
      have hcl : wr.cell? ⟨w3.heap.size, k, none⟩ = some (.int .u32 0) := by rw [cell_of_row _ _ _ _ _ _ hg.out]; simp [u32v_at, hx]
      have hf : wr.frozen? ⟨w3.heap.size, k, none⟩ = false := frozen_of_row _ _ _ _ _ hg.out
      have hv := ln4_lt (row.drop (4 * k))
      clear hx hbt
      go_wp2_with fail
      refine hfl.mono ?_
      rintro e w' ⟨rfl, rfl⟩
      clear hcut hfl
      obtain ⟨v, hvv⟩ : ∃ v, v = ln ((row.drop (4 * k)).take 4) := ⟨_, rfl⟩
      rw [← hvv] at hv ⊢
      have HV := vlt hvv
      clear hvv
      go_wp2
      go_roundw
      case rel =>
        refine ⟨k + 1, by omega, by go_num, ?_, hb.setCell (Nat.le_refl _) _⟩
        have e : (v : Int) % 4294967296 = (v : Int) := by omega
        have h1 := heap_setCell_same wr w3.heap.size k _ _ (.int .u32 (v : Int)) hg.out
        try rw [e]
        refine h1.trans ?_
        have h2 := uptoW_set 16 (lw row k) v (by rw [lw_len]; exact hlt)
        rw [lw_len, HV.out] at h2
        rw [lw, ← h2, ← u32v_set, HV.out]
        simp
      case measure => simp [intOf]; omega
    · have HK16 := Lib.hid (show k = 16 by omega)
      have H16 := Lib.hid (show (u32v (uptoW 16 (lw row k))).toArray.size = 16 by simp [u32v_len, uptoW_len 16 (lw row k) (by rw [lw_len]; exact hk)])
      have HZ := Lib.hid (show (u32v z16w).toArray.size = 16 from rfl)
      have HOUT := vlt (show uptoW 16 (lw row k) = firstOf key count nonce by rw [HK16.out, uptoW_all 16 _ (lw_len _ _), HROW.out])
      have hz4 : Hid (wr.heap[w.heap.size + 2]? = some (.cells (u32v z16w).toArray 48 (0, 0))) := (hb.block _ (by omega)).trans hz3.out
      have hb4 : Below w.heap.size w wr := hbw3.trans (hb.mono (by omega))
      go_wp2_with (first
        | (with_reducible refine wpList_load_row rfl 48 (.tmp 8) rfl w3.heap.size rfl 48 (u32v (uptoW 16 (lw row k))).toArray (0, 0) _ hg.out Try.underlying48 rfl (by rw [H16.out]; kernel_rfl) ?_)
        | (with_reducible refine wpList_store_row rfl 48 (.tmp 6) (.tmp 42) rfl (w.heap.size + 1 + 1) (u32v (uptoW 16 (lw row k))).toArray rfl rfl 48 _ hz4.out (by rw [H16.out]; kernel_rfl) (by rw [H16.out]; exact HZ.out) (all_oneCell_toArray (u32v_one _)) ?_))
      refine bodyPost_ret (v := .agg (u32v (uptoW 16 (lw row k))).toArray) (results_cell_row Try.results20 _ _ (w.heap.size + 1 + 1) 48 _ (0, 0) _ rfl (setRow_heap _ _ _ _ _ _ hz4.out) Try.underlying48 rfl (by rw [H16.out]; kernel_rfl)) rfl ⟨by rw [HOUT.out], below_setRow hb4 (by omega) _⟩
end Go.Proofs.Ytcdjpjljaoeakaa
