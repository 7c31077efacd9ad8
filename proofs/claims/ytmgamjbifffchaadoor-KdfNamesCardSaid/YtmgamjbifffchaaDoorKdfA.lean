/-
  Contracts of kdf's masked and filled. Conditions: fewer than 2^40 bytes; the tables lie as the program lays them.
-/
import Derived.Test.YtmgamjbifffchaaDoorShaG
namespace Go.Proofs.YtmgamjbifffchaaDoor
open Go.RowKit

def maskOf (l : List UInt8) (x : UInt8) : List UInt8 := l.map (· ^^^ x)
theorem maskOf_len (l : List UInt8) (x : UInt8) : (maskOf l x).length = l.length := by simp [maskOf]
def maskp (l : List UInt8) (x : UInt8) (k : Nat) : List UInt8 := maskOf (l.take k) x ++ l.drop k
theorem maskp_len (l : List UInt8) (x : UInt8) (k : Nat) : (maskp l x k).length = l.length := by simp [maskp, maskOf_len]; omega
theorem maskp_at (l : List UInt8) (x : UInt8) (k : Nat) (hk : k < l.length) : (maskp l x k)[k]? = l[k]? := by
  rw [maskp, List.getElem?_append_right (by simp [maskOf_len]; omega)]
  simp [maskOf_len, Nat.min_eq_left (Nat.le_of_lt hk)]
theorem maskp_set (l : List UInt8) (x b : UInt8) (k : Nat) (hb : l[k]? = some b) : (maskp l x k).set k (b ^^^ x) = maskp l x (k + 1) := by
  obtain ⟨hk, rfl⟩ := List.getElem?_eq_some_iff.1 hb
  rw [maskp, List.set_append_right _ _ (by simp [maskOf_len]; omega), List.drop_eq_getElem_cons hk]
  simp only [maskOf_len, List.length_take, Nat.min_eq_left (Nat.le_of_lt hk), Nat.sub_self, List.set_cons_zero]
  rw [maskp, List.take_succ_eq_append_getElem hk, maskOf, maskOf, List.map_append, List.append_assoc]
  rfl
theorem xor_u8 (b x : UInt8) : bits .xor .u8 (b.toNat : Int) (x.toNat : Int) = ((b ^^^ x).toNat : Int) := by
  rw [u8_xor_nat _ _ b.toNat_lt x.toNat_lt, UInt8.toNat_xor]

set_option maxHeartbeats 1000000 in
theorem masked_any (w : World) (l : List UInt8) (x : UInt8) (hl : l.length = 64) :
    Calls Tryd.prog 13 #[.agg (bv l).toArray, .int .u8 (x.toNat : Int)] w fun e w' => e = .returned (.slice (some ⟨w.heap.size, 0, none⟩) 64 64) ∧ Hid (w'.heap[w.heap.size]? = some (.cells (bv (maskOf l x)).toArray 37 (0, 0))) ∧ Below w.heap.size w w' := by
  have HL := Lib.hid hl
  clear hl
  have hcut := cut_all Tryd.underlying37 Tryd.sizeByte w.heap.size 0 (by decide)
  go_enter Tryd.func13, Tryd.ntmps13
  go_wp2
  go_loopw [6] (fun i wr => ∃ k : Nat, k ≤ 64 ∧ i = .int .i64 (k : Int) ∧ Hid (wr.heap[w.heap.size]? = some (.cells (bv (maskp l x k)).toArray 37 (0, 0))) ∧ Below w.heap.size w wr) (fun i _ => 64 - (intOf i).toNat)
  case atStart => exact ⟨0, by omega, rfl, by rw [show maskp l x 0 = l from rfl]; exact heap_alloc_new w _, (Below.refl _ _).alloc (Nat.le_refl _) _⟩
  case round =>
    obtain ⟨k, hk, rfl, hg, hb⟩ := hrel
    by_cases hlt : k < 64
    · obtain ⟨b, hbk⟩ : ∃ b, l[k]? = some b := ⟨_, List.getElem?_eq_getElem (show k < l.length by rw [HL.out]; exact hlt)⟩
      have HB := Lib.hid hbk
      have hc : wr.cell? ⟨w.heap.size, k, none⟩ = some (.int .u8 (b.toNat : Int)) := by
        rw [cell_of_row _ _ _ _ _ _ hg.out]
        simp only [List.getElem?_toArray, bv_at, maskp_at l x k (by rw [HL.out]; exact hlt), hbk]; rfl
      have hf : wr.frozen? ⟨w.heap.size, k, none⟩ = false := frozen_of_row _ _ _ _ _ hg.out
      clear hbk
      go_wp2
      go_roundw
      case rel =>
        refine ⟨k + 1, by omega, by go_num, ?_, hb.setCell (Nat.le_refl _) _⟩
        have h1 := heap_setCell_same wr w.heap.size k _ _ (.int .u8 ((b ^^^ x).toNat : Int)) hg.out
        rw [xor_u8]
        refine h1.trans ?_
        rw [← maskp_set l x b k HB.out, ← bv_set]
        simp
      case measure => simp [intOf]; omega
    · have HK := Lib.hid (show k = 64 by omega)
      go_wp2
      go_ret
      refine ⟨rfl, ?_, hb⟩
      have h1 := hg.out
      rw [HK.out, maskp, List.take_of_length_le (by rw [HL.out]; exact Nat.le_refl _), List.drop_of_length_le (by rw [HL.out]; exact Nat.le_refl _), List.append_nil] at h1
      exact h1

def fillq (k : List UInt8) : List UInt8 := if 64 < k.length then shaOf k else k
theorem fillq_le (k : List UInt8) : (fillq k).length ≤ 64 := by unfold fillq; split <;> simp_all [shaOf_len]
def fillOf (k : List UInt8) : List UInt8 := fillq k ++ List.replicate (64 - (fillq k).length) 0
theorem fillOf_len (k : List UInt8) : (fillOf k).length = 64 := by have := fillq_le k; simp [fillOf]; omega
theorem fill_splice (q : List UInt8) : splice (bv z64) 0 (bv q) = bv (q ++ List.replicate (64 - q.length) 0) := by
  have e : List.drop (0 + (bv q).length) (bv z64) = bv (List.replicate (64 - q.length) 0) := by
    rw [Nat.zero_add, bv_len, z64, ← bv_rep, List.drop_replicate, bv_rep]
  rw [splice, e, bv_app, List.take_zero, List.nil_append]

set_option maxHeartbeats 1000000 in
theorem filled_short (w : World) (A : Option Addr) (l : List UInt8) (n c : Nat) (ha : Byt w w.heap.size A l) (hl : l.length = n) (h64 : n ≤ 64) :
    Calls Tryd.prog 10 #[.slice A n c] w fun e w' => e = .returned (.agg (bv (fillOf l)).toArray) ∧ Below w.heap.size w w' := by
  have hz := zero_blk
  have HL := Lib.hid hl
  clear hl
  have hw2 : Below w.heap.size w ((w.alloc (.cells (bv z64).toArray 37)).alloc (.cells (bv z64).toArray 37)) := ((Below.refl _ _).alloc (Nat.le_refl _) _).alloc (by simp) _
  have hg1 := Lib.hid (heap_alloc2_new w (.cells (bv z64).toArray 37) (.cells (bv z64).toArray 37))
  have hg0 := Lib.hid (heap_alloc2_old w (.cells (bv z64).toArray 37) (.cells (bv z64).toArray 37))
  have hcut := cut_all Tryd.underlying37 Tryd.sizeByte (w.heap.size + 1) 0 (by decide)
  have hz64 : (bv z64).length = 64 := rfl
  have HZ := Lib.hid hz64
  clear hz64
  go_enter Tryd.func10, Tryd.ntmps10
  go_wp2_with (with_reducible refine wpList_copy_splice rfl (.tmp 12) (.tmp 13) 24 24 rfl 5 Tryd.underlying24 Tryd.sizeByte (some ⟨w.heap.size + 1, 0, none⟩) A 64 64 n c rfl rfl (w.heap.size + 1) 0 (bv z64) 37 hg1.out (bv l) (by rw [bv_len, HL.out]; exact (Nat.min_eq_left h64).symm) ((ha.below hw2).src _ _ rfl) (by rw [bv_len, HL.out, HZ.out]; omega) (bv_one _) (w.heap.size + 1) _ (Below.refl _ _) (Nat.le_refl _) ?_)
  intro w3 hg3 hb3
  have hq : fillOf l = l ++ List.replicate (64 - l.length) 0 := by unfold fillOf fillq; rw [if_neg (by rw [HL.out]; omega)]
  obtain ⟨out, hout⟩ : ∃ out, out = fillOf l := ⟨_, rfl⟩
  have hg4 : Hid (w3.heap[w.heap.size + 1]? = some (.cells (bv out).toArray 37 (0, 0))) := by
    have h1 := hg3.out
    rw [fill_splice l, ← hq, ← hout] at h1
    exact h1
  have hz3 : Hid (w3.heap[w.heap.size]? = some (.cells (bv z64).toArray 37 (0, 0))) := (hb3.block _ (by omega)).trans hg0.out
  have hb4 : Below w.heap.size w w3 := hw2.trans (hb3.mono (by omega))
  have H64 := Lib.hid (show (bv out).toArray.size = 64 by simp [bv_len, hout, fillOf_len])
  have HOUT := Lib.hid hout
  have HZ2 := Lib.hid (show (bv z64).toArray.size = 64 from rfl)
  clear hq hout hg3 hb3 hg0 hg1 hw2
  go_wp2_with (first
    | (with_reducible refine wpList_load_row rfl 37 (.tmp 4) rfl (w.heap.size + 1) rfl 37 (bv out).toArray (0, 0) _ hg4.out Tryd.underlying37 rfl (by rw [H64.out]; kernel_rfl) ?_)
    | (with_reducible refine wpList_store_row rfl 37 (.tmp 2) (.tmp 15) rfl w.heap.size (bv out).toArray rfl rfl 37 _ hz3.out (by rw [H64.out]; kernel_rfl) (by rw [H64.out]; exact HZ2.out) (all_oneCell_toArray (bv_one _)) ?_))
  refine bodyPost_ret (v := .agg (bv out).toArray) (results_cell_row Tryd.results10 _ _ w.heap.size 37 _ (0, 0) _ rfl (setRow_heap _ _ _ _ _ _ hz3.out) Tryd.underlying37 rfl (by rw [H64.out]; kernel_rfl)) rfl ⟨by rw [HOUT.out], below_setRow hb4 (Nat.le_refl _) _⟩

/-- A list of one list. -/
theorem Prt.one {w : World} {E : TypeId} {A : Option Addr} {l : List UInt8} {n c : Nat} (ha : Byt w w.heap.size A l) (hl : l.length = n) (hc : n ≤ c) :
    Prt (w.alloc (.cells #[.slice A n c] E)) (w.alloc (.cells #[.slice A n c] E)).heap.size (some ⟨w.heap.size, 0, none⟩) [l] := by
  refine .inr ⟨w.heap.size, 0, rfl, by simp, fun j p hj => ?_⟩
  match j, hj with
  | 0, hj =>
    simp at hj
    subst hj
    exact ⟨A, n, c, by simp, hl, hc, (ha.alloc (Nat.le_refl _) _).up (by simp)⟩

set_option maxHeartbeats 1000000 in
theorem filled_long (w : World) (A : Option Addr) (l : List UInt8) (n c : Nat) (ha : Byt w w.heap.size A l) (hl : l.length = n) (hc : n ≤ c) (h64 : 64 < n) (hn : n ≤ 1099511627776) (hla : Laid w) :
    Calls Tryd.prog 10 #[.slice A n c] w fun e w' => e = .returned (.agg (bv (fillOf l)).toArray) ∧ Below w.heap.size w w' := by
  have hz := zero_blk
  have hzw := zero_word
  have HL := Lib.hid hl
  have hw1 : Below w.heap.size w (w.alloc (.cells (bv z64).toArray 37)) := (Below.refl _ _).alloc (Nat.le_refl _) _
  have hp := Prt.one (E := 24) (((ha.below hw1).up (by simp : w.heap.size ≤ (w.alloc (.cells (bv z64).toArray 37)).heap.size))) hl hc
  have hw2 : Below w.heap.size w ((w.alloc (.cells (bv z64).toArray 37)).alloc (.cells #[.slice A n c] 24)) := hw1.alloc (by simp) _
  have hof := of_any _ _ [l] 1 1 hp rfl (hla.below hla.2.2 hw2) (by simp [hl]; omega) (by omega)
  have e1 : (w.alloc (.cells (bv z64).toArray 37)).heap.size = w.heap.size + 1 := by simp
  rw [e1] at hof
  have hg0 : Hid (((w.alloc (.cells (bv z64).toArray 37)).alloc (.cells #[.slice A n c] 24)).heap[w.heap.size]? = some (.cells (bv z64).toArray 37 (0, 0))) := heap_alloc2_old _ _ _
  have hs2 : Hid (((w.alloc (.cells (bv z64).toArray 37)).alloc (.cells #[.slice A n c] 24)).heap.size = w.heap.size + 2) := by show _ = _; simp
  have HZ := Lib.hid (show (bv z64).length = 64 from rfl)
  have HZ2 := Lib.hid (show (bv z64).toArray.size = 64 from rfl)
  have HZ3 := Lib.hid (show (bv z32).toArray.size = 32 from rfl)
  clear hl hp e1
  go_enter Tryd.func10, Tryd.ntmps10
  go_wp2_with fail
  refine hof.mono ?_
  rintro e w3 ⟨rfl, hb3⟩
  clear hof
  obtain ⟨q, hq⟩ : ∃ q, q = shaOf [l].flatten := ⟨_, rfl⟩
  rw [← hq]
  have hql : q.length = 32 := by rw [hq]; exact shaOf_len _
  have hq2 : fillq l = q := by unfold fillq; rw [if_pos (by rw [HL.out]; exact h64), hq]; simp
  have HQL := Lib.hid hql
  have HQS := Lib.hid (show (bv q).toArray.size = 32 by simp [bv_len, hql])
  have hb3' : Below w.heap.size w w3 := below_next hw2 (by rw [hs2.out]; omega) hb3
  have hz3 : Hid (w3.heap[w.heap.size]? = some (.cells (bv z64).toArray 37 (0, 0))) := (hb3.block _ (by rw [hs2.out]; omega)).trans hg0.out
  have hs3 : w.heap.size + 2 ≤ w3.heap.size := by have := hb3.size; rw [hs2.out] at this; exact this
  have HQ2 := Lib.hid hq2
  have hw4 : Below w3.heap.size w3 ((w3.alloc (.cells (bv q).toArray 23)).alloc (.cells (bv z64).toArray 37)) := ((Below.refl _ _).alloc (Nat.le_refl _) _).alloc (by simp) _
  have hg1 := Lib.hid (heap_alloc2_new w3 (.cells (bv q).toArray 23) (.cells (bv z64).toArray 37))
  have hbq : Byt ((w3.alloc (.cells (bv q).toArray 23)).alloc (.cells (bv z64).toArray 37)) (w3.heap.size + 1) (some ⟨w3.heap.size, 0, none⟩) q := by
    refine .inr ⟨w3.heap.size, 0, rfl, by omega, fun j b hj => ?_⟩
    rw [Nat.zero_add, cell_of_row _ _ _ _ _ _ (heap_alloc2_old w3 _ _)]
    simp only [List.getElem?_toArray, bv_at, hj]; rfl
  have hcutq := cut_all Tryd.underlying23 Tryd.sizeByte w3.heap.size 0 (by decide)
  have hcut := cut_all Tryd.underlying37 Tryd.sizeByte (w3.heap.size + 1) 0 (by decide)
  clear hq hql hq2 hb3 hg0 hs2 hw1 hw2
  go_wp2_with (first
    | ((with_reducible refine wpList_store_row rfl 23 (.tmp 3) (.tmp 10) rfl w3.heap.size (bv q).toArray rfl rfl 23 _ (heap_alloc_new _ _) (by rw [HQS.out]; kernel_rfl) (by rw [HQS.out]; exact HZ3.out) (all_oneCell_toArray (bv_one _)) ?_); rw [World.setRow_alloc_new])
    | (with_reducible refine wpList_copy_splice rfl (.tmp 12) (.tmp 13) 24 24 rfl 5 Tryd.underlying24 Tryd.sizeByte (some ⟨w3.heap.size + 1, 0, none⟩) (some ⟨w3.heap.size, 0, none⟩) 64 64 32 32 rfl rfl (w3.heap.size + 1) 0 (bv z64) 37 hg1.out (bv q) (by rw [bv_len, HQL.out]; decide) (hbq.src _ _ rfl) (by rw [bv_len, HQL.out, HZ.out]; omega) (bv_one _) (w3.heap.size + 1) _ (Below.refl _ _) (Nat.le_refl _) ?_))
  intro w5 hg5 hb5
  obtain ⟨out, hout⟩ : ∃ out, out = fillOf l := ⟨_, rfl⟩
  have hg4 : Hid (w5.heap[w3.heap.size + 1]? = some (.cells (bv out).toArray 37 (0, 0))) := by
    have h1 := hg5.out
    rw [fill_splice q] at h1
    rw [hout, fillOf, HQ2.out]
    exact h1
  have hz5 : Hid (w5.heap[w.heap.size]? = some (.cells (bv z64).toArray 37 (0, 0))) := (hb5.block _ (by omega)).trans ((hw4.block _ (by omega)).trans hz3.out)
  have hb4 : Below w.heap.size w w5 := (hb3'.trans (hw4.mono (by omega))).trans (hb5.mono (by omega))
  have H64 := Lib.hid (show (bv out).toArray.size = 64 by simp [bv_len, hout, fillOf_len])
  have HOUT := Lib.hid hout
  clear hout hg5 hb5 hg1 hbq hw4 hz3
  go_wp2_with (first
    | (with_reducible refine wpList_load_row rfl 37 (.tmp 4) rfl (w3.heap.size + 1) rfl 37 (bv out).toArray (0, 0) _ hg4.out Tryd.underlying37 rfl (by rw [H64.out]; kernel_rfl) ?_)
    | (with_reducible refine wpList_store_row rfl 37 (.tmp 2) (.tmp 15) rfl w.heap.size (bv out).toArray rfl rfl 37 _ hz5.out (by rw [H64.out]; kernel_rfl) (by rw [H64.out]; exact HZ2.out) (all_oneCell_toArray (bv_one _)) ?_))
  refine bodyPost_ret (v := .agg (bv out).toArray) (results_cell_row Tryd.results10 _ _ w.heap.size 37 _ (0, 0) _ rfl (setRow_heap _ _ _ _ _ _ hz5.out) Tryd.underlying37 rfl (by rw [H64.out]; kernel_rfl)) rfl ⟨by rw [HOUT.out], below_setRow hb4 (Nat.le_refl _) _⟩

theorem filled_any (w : World) (A : Option Addr) (l : List UInt8) (n c : Nat) (ha : Byt w w.heap.size A l) (hl : l.length = n) (hc : n ≤ c) (hn : n ≤ 1099511627776) (hla : Laid w) :
    Calls Tryd.prog 10 #[.slice A n c] w fun e w' => e = .returned (.agg (bv (fillOf l)).toArray) ∧ Below w.heap.size w w' := by
  by_cases h64 : n ≤ 64
  · exact filled_short w A l n c ha hl h64
  · exact filled_long w A l n c ha hl hc (by omega) hn hla
end Go.Proofs.YtmgamjbifffchaaDoor
