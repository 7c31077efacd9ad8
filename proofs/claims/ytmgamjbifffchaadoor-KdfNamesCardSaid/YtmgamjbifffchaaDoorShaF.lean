/-
  Contract of sha's Word: the sum of what the object has taken. Conditions: the object lies in a block of its own; fewer than 2^59 bytes; the tables lie as the program lays them.
-/
import Derived.Test.YtmgamjbifffchaaDoorShaE
import Derived.Test.YtmgamjbifffchaaDoorReg
import Derived.IntWalk
namespace Go.Proofs.YtmgamjbifffchaaDoor
open Go.RowKit

/-- The bytes of the first k words. -/
def outp (s : St) : Nat → List UInt8
  | 0 => []
  | k + 1 => outp s k ++ be (s.at_ k) 4
theorem outp_len (s : St) : ∀ k, (outp s k).length = 4 * k
  | 0 => rfl
  | k + 1 => by simp [outp, outp_len s k, be_len]; omega
theorem outp_end (s : St) : outp s 8 = outOf s := by simp [outp, outOf, St.at_, St.list]
def upto32 (l : List UInt8) : List UInt8 := l ++ List.replicate (32 - l.length) 0
theorem upto32_all (l : List UInt8) (h : l.length = 32) : upto32 l = l := by simp [upto32, h]
theorem upto32_len (l : List UInt8) (h : l.length ≤ 32) : (upto32 l).length = 32 := by simp [upto32]; omega
theorem upto32_splice (l x : List UInt8) (h : l.length + x.length ≤ 32) : splice (bv (upto32 l)) l.length (bv x) = bv (upto32 (l ++ x)) := by
  have e : List.drop (l.length + x.length) (upto32 l) = List.replicate (32 - (l.length + x.length)) 0 := by
    rw [upto32, List.drop_append, List.drop_of_length_le (by omega), List.nil_append, List.drop_replicate]
    congr 1; omega
  rw [splice, bv_take, bv_len]
  have e2 : List.drop (l.length + x.length) (bv (upto32 l)) = bv (List.drop (l.length + x.length) (upto32 l)) := by simp [bv, List.map_drop]
  have e3 : List.take l.length (upto32 l) = l := by rw [upto32, List.take_append_of_le_length (Nat.le_refl _), List.take_length]
  rw [e2, e, e3, upto32, bv_app, bv_app, List.length_append, List.append_assoc]

theorem Res.toSrc {w : World} {base E n c g : Nat} {A : Option Addr} {l : List UInt8} (h : Res w base E A n c l) (hg : g < base) : Src w g A l := by
  rcases h.2 with ⟨h', h0⟩ | ⟨b, cap, cur, h', hb, hcur, hnc, hcm, hcs, htake⟩
  · refine .inl (List.eq_nil_of_length_eq_zero ?_)
    have := h.len; omega
  · rcases h.byt with h1 | ⟨b', o', hA, hlt, hc⟩
    · exact .inl h1
    · simp only [Value.slice.injEq] at h'
      obtain ⟨rfl, _, _⟩ := h'
      injection hA with hA
      injection hA with hA1 hA2
      subst hA1 hA2
      exact .inr ⟨b, 0, rfl, by omega, hlt, hc⟩
theorem Res.cap {w : World} {base E n c : Nat} {A : Option Addr} {l : List UInt8} (h : Res w base E A n c l) : n ≤ c := by
  rcases h.2 with ⟨h', h0⟩ | ⟨b, cap, cur, h', hb, hcur, hnc, hcm, hcs, htake⟩
  · simp only [Value.slice.injEq] at h'; omega
  · simp only [Value.slice.injEq] at h'; omega
theorem big4 (v : Nat) (w : World) (hv : v < 4294967296) :
    Calls Tryd.prog 18 #[.slice none 0 0, .int .u64 (v : Int), .int .i64 4] w fun e w' => ∃ A c, e = .returned (.slice A 4 c) ∧ Res w' w.heap.size 5 A 4 c (be v 4) ∧ Below w.heap.size w w' := by
  have h := big_any none [] 0 0 v 4 w Byt.none_ rfl (by omega) (by omega)
  rw [wd4] at h
  exact h
theorem zero73_size : zero73.toArray.size = 73 := rfl
theorem two_new (w : World) (a z c : Array Value) (t u : TypeId) (hs : z.size = c.size) :
    (((w.alloc (.cells a t)).alloc (.cells z u)).setRow (w.heap.size + 1) c).heap[w.heap.size + 1]? = some (.cells c u (0, 0)) ∧ (((w.alloc (.cells a t)).alloc (.cells z u)).setRow (w.heap.size + 1) c).heap[w.heap.size]? = some (.cells a t (0, 0)) ∧
      Below w.heap.size w (((w.alloc (.cells a t)).alloc (.cells z u)).setRow (w.heap.size + 1) c) ∧ (((w.alloc (.cells a t)).alloc (.cells z u)).setRow (w.heap.size + 1) c).heap.size = w.heap.size + 2 := by
  have _ := hs
  refine ⟨setRow_heap _ _ _ _ _ _ (heap_alloc2_new _ _ _), ?_, below_setRow (((Below.refl _ _).alloc (Nat.le_refl _) _).alloc (by simp) _) (by omega) _, by simp⟩
  rw [setRow_other _ _ _ _ (by omega)]
  exact heap_alloc2_old _ _ _

set_option maxRecDepth 100000 in
set_option maxHeartbeats 1000000 in
theorem word_any (w : World) (g : Nat) (l : List UInt8) (hS : SumAt w g l) (hl : Laid w) (hbig : l.length ≤ 576460752303423488) :
    Calls Tryd.prog 14 #[.pointer (some ⟨g, 0, none⟩)] w fun e w' => e = .returned (.agg (bv (shaOf l)).toArray) ∧ Below w.heap.size w w' := by
  have hzw := zero_word
  have hzs := zero_sum
  have hgl := hS.lt
  obtain ⟨rest, hob, htk⟩ := hS
  obtain ⟨N, hN⟩ : ∃ N, N = l.length := ⟨_, rfl⟩
  obtain ⟨st, hst⟩ : ∃ st, st = blks l (l.length / 64) := ⟨_, rfl⟩
  rw [← hst, ← hN] at hob
  rw [← hN] at hbig
  have HN := Lib.hid hN
  have HST := Lib.hid hst
  have HTK := Lib.hid htk
  clear hN hst htk
  have h73 := Lib.hid (show (sumc st rest N).toArray.size = 73 by simp [sumc_len st rest N hob.2])
  have hob1 := hob.below hgl ((Below.refl w.heap.size w).alloc (Nat.le_refl _) (.cells (bv z32).toArray 23))
  have HO1 := Lib.hid hob1.1
  have h1c : ∀ u ∈ sumc st rest N, u.oneCell' = true := by
    intro u hu
    simp only [sumc, List.mem_append, List.mem_singleton] at hu
    rcases hu with hu | hu | rfl
    · exact u32v_one _ u hu
    · exact bv_one _ u hu
    · rfl
  have H1C := Lib.hid (all_oneCell_toArray h1c)
  clear h1c hob1
  go_enter Tryd.func14, Tryd.ntmps14
  go_wp2_with (first
    | (with_reducible refine wpList_load_row rfl 48 (.tmp 8) rfl g rfl 48 (sumc st rest N).toArray (0, 0) _ HO1.out Tryd.underlying48 rfl (by rw [h73.out]; kernel_rfl) ?_)
    | ((with_reducible refine wpList_store_row rfl 48 (.tmp 3) (.tmp 9) rfl (w.heap.size + 1) (sumc st rest N).toArray rfl rfl 48 _ (heap_alloc2_new _ _ _) (by rw [h73.out]; kernel_rfl) (by rw [h73.out, zero73_size]) H1C.out ?_)
       obtain ⟨hn1, hn2, hn3, hn4⟩ := two_new w (bv z32).toArray zero73.toArray (sumc st rest N).toArray 23 48 (by rw [h73.out, zero73_size])
       generalize ((w.alloc (.cells (bv z32).toArray 23)).alloc (.cells zero73.toArray 48)).setRow (w.heap.size + 1) (sumc st rest N).toArray = w2 at *
       have HN1 := Lib.hid hn1
       have HN2 := Lib.hid hn2
       have hb2 := hn3
       have HN4 := Lib.hid hn4
       have c72 := (hob.below hgl hb2).cnt
       clear hn1 hn2 hn3 hn4)
    | fail)
  refine (ending_any N w2 (by omega)).mono ?_
  rintro e w3 ⟨A3, c3, rfl, hr3, hb3⟩
  have hs2 : SumAt w2 (w.heap.size + 1) l := ⟨rest, ⟨by rw [← HST.out, ← HN.out]; exact HN1.out, hob.2⟩, HTK.out⟩
  have hs3 : SumAt w3 (w.heap.size + 1) l := hs2.below (B := w2.heap.size) (by rw [HN4.out]; omega) hb3
  have hb3' : Below w.heap.size w w3 := below_next hb2 hb2.size hb3
  have hr3' : Hid (w3.heap[w.heap.size]? = some (.cells (bv z32).toArray 23 (0, 0))) := (hb3.block _ (by rw [HN4.out]; omega)).trans HN2.out
  have hadd := add_any w3 (w.heap.size + 1) l (endingOf N) A3 (gap N + 8) c3 hs3 (hl.below hl.2.2 hb3') (by have := hl.2.2; omega) (hr3.toSrc (by rw [HN4.out]; omega)) (endingOf_len N) hr3.cap (by have := gap_pos N; rw [← HN.out]; omega)
  clear hs2 hs3 hr3 hb3 HN1 HN2 HN4 hb2 c72
  go_wp2_with fail
  refine hadd.mono ?_
  rintro e w4 ⟨rfl, hs4, hbut4⟩
  clear hadd
  have hpad : l ++ endingOf N = padded l := by rw [HN.out]; rfl
  rw [hpad] at hs4
  have hb4 : Below w.heap.size w w4 := But.below hb3' hbut4 (by omega) hb3'.size
  have hr4 : Hid (w4.heap[w.heap.size]? = some (.cells (bv z32).toArray 23 (0, 0))) := (hbut4.block _ (Array.getElem?_eq_some_iff.1 hr3'.out).1 (by simp)).trans hr3'.out
  obtain ⟨rest4, hob4, htk4⟩ := hs4
  obtain ⟨st4, hst4⟩ : ∃ s, s = blks (padded l) ((padded l).length / 64) := ⟨_, rfl⟩
  have hok4 : st4.ok := by rw [hst4]; exact blks_ok _ _
  rw [← hst4] at hob4
  have HSH := Lib.hid (show shaOf l = outOf st4 by rw [hst4]; rfl)
  clear hst4 htk4 hpad hr3' hb3' hbut4 HN HST HTK
  have hg4 := hob4.lt
  have hb5 : Below w.heap.size w (w4.alloc (.cells (bv z32).toArray 23)) := hb4.alloc hb4.size _
  have hob5 := hob4.below hg4 ((Below.refl w4.heap.size w4).alloc (Nat.le_refl _) (.cells (bv z32).toArray 23))
  have hrg : Hid ((w4.alloc (.cells (bv z32).toArray 23)).rangeAt (w.heap.size + 1) 0 (u32v st4.list)) := by
    intro j v hj
    rw [Nat.zero_add, hob5.cell, sumc, List.getElem?_append_left (List.getElem?_eq_some_iff.1 hj).1]
    exact hj
  clear hob5
  go_wp2_with (with_reducible refine wpList_load_mid rfl 46 (.tmp 16) rfl (w.heap.size + 1) 0 rfl (u32v st4.list) _ hrg.out Tryd.underlying46 rfl (by kernel_rfl) ?_)
  go_loopw [18] (fun i wr => ∃ k : Nat, k ≤ 8 ∧ i = .int .i64 (k : Int) ∧ Hid (wr.heap[w4.heap.size]? = some (.cells (bv (upto32 (outp st4 k))).toArray 23 (0, 0))) ∧ Hid (wr.heap[w.heap.size]? = some (.cells (bv z32).toArray 23 (0, 0))) ∧ Below w.heap.size w wr) (fun i _ => 8 - (intOf i).toNat)
  case atStart => exact ⟨0, by omega, rfl, heap_alloc_new _ _, (Below.heap_alloc _ _ _ (Array.getElem?_eq_some_iff.1 hr4.out).1).trans hr4.out, hb5⟩
  case round =>
    clear hb5 hrg hr4
    obtain ⟨k, hk, rfl, hg1, hg0, hb⟩ := hrel
    have hw4 := hb4.size
    have hsz : w4.heap.size < wr.heap.size := (Array.getElem?_eq_some_iff.1 hg1.out).1
    by_cases hlt : k < 8
    · have hix := at_agg Tryd.underlying46 Tryd.sizeU32 Tryd.underlying45 (u32v st4.list) k (.int .u32 ((st4.at_ k : Nat) : Int)) (k : Int) rfl hlt (by rw [u32v_at, st_at st4 k hlt]; rfl)
      have hcut := cut_l Tryd.underlying23 Tryd.sizeByte w4.heap.size 0 (4 * k) (4 * (k : Int)) (by omega) (by omega)
      rw [Nat.zero_add] at hcut
      have hv := at_lt st4 hok4 k
      have hwr : IntKind.i64.wrap (4 * (k : Int)) = 4 * (k : Int) := IntWalk.i64_in _ (by omega)
      have hwu : IntKind.u64.wrap ((st4.at_ k : Nat) : Int) = ((st4.at_ k : Nat) : Int) := IntWalk.u64_in _ (by omega)
      go_wp2_with fail
      refine wp_region_held_drew (S := (fun W => Below w4.heap.size wr W)) (by kernel_rfl) ((Below.refl _ _).drew) (fun hHeld => ?_)
      refine wpAnyH_take (i := 0) (oi := ⟨(some 22), _, _, _, _, _⟩) (v := ?vq1_0) rfl (by kernel_rfl) (by kernel_rfl) (by kernel_rfl) (fun _ _ _ h => h) (Or.inl ⟨by rfl, ?yq1_0⟩) hHeld ?_
      case yq1_0 => (intro W0 hSw; go_simp; try with_reducible rfl)
      try simp only [Act.put, List.setIfInBounds_toArray, List.set_cons_zero, List.set_cons_succ]
      refine wpAnyH_take (i := 1) (oi := ⟨(some 23), _, _, _, _, _⟩) (v := ?vq1_1) rfl (by kernel_rfl) (by kernel_rfl) (by kernel_rfl) (fun _ _ _ h => h) (Or.inl ⟨by rfl, ?yq1_1⟩) hHeld ?_
      case yq1_1 => (intro W0 hSw; go_simp; try with_reducible rfl)
      try simp only [Act.put, List.setIfInBounds_toArray, List.set_cons_zero, List.set_cons_succ]
      refine wpAnyH_take (i := 2) (oi := ⟨(some 24), _, _, _, _, _⟩) (v := ?vq1_2) rfl (by kernel_rfl) (by kernel_rfl) (by kernel_rfl) (fun _ _ _ h => h) (Or.inl ⟨by rfl, ?yq1_2⟩) hHeld ?_
      case yq1_2 => (intro W0 hSw; go_simp; try with_reducible rfl)
      try simp only [Act.put, List.setIfInBounds_toArray, List.set_cons_zero, List.set_cons_succ]
      refine wpAnyH_take (i := 3) (oi := ⟨(some 25), _, _, _, _, _⟩) (v := ?vq1_3) rfl (by kernel_rfl) (by kernel_rfl) (by kernel_rfl) (fun _ _ _ h => h) (Or.inl ⟨by rfl, ?yq1_3⟩) hHeld ?_
      case yq1_3 => (intro W0 hSw; go_simp; try with_reducible rfl)
      try simp only [Act.put, List.setIfInBounds_toArray, List.set_cons_zero, List.set_cons_succ]
      refine wpAnyH_take (i := 4) (oi := ⟨(some 26), _, _, _, _, _⟩) (v := ?vq1_4) rfl (by kernel_rfl) (by kernel_rfl) (by kernel_rfl) (fun _ _ _ h => h) (Or.inl ⟨by rfl, ?yq1_4⟩) hHeld ?_
      case yq1_4 => (intro W0 hSw; go_simp; try with_reducible rfl)
      try simp only [Act.put, List.setIfInBounds_toArray, List.set_cons_zero, List.set_cons_succ]
      refine wpAnyH_ready (rs := [5]) (by kernel_rfl) (by simp) ?_
      refine AllReadyH.cons (i := 5) (o := ⟨(some 27), _, _, _, _, _⟩) rfl (fun K hK => ?_) AllReadyH.nil
      go_simp
      with_reducible refine (big4 (st4.at_ k) _ hv).mono ?_
      rintro e w6 ⟨A6, c6, rfl, hr6, hb6⟩
      have hb6' : Below w4.heap.size wr w6 := below_next hHeld (by simp; omega) hb6
      have hgW : Hid (w6.heap[w4.heap.size]? = some (.cells (bv (upto32 (outp st4 k))).toArray 23 (0, 0))) := (hb6.block _ (by simp; omega)).trans hg1.out
      have hgZ : Hid (w6.heap[w.heap.size]? = some (.cells (bv z32).toArray 23 (0, 0))) := (hb6.block _ (by simp; omega)).trans hg0.out
      refine hK.out _ _ (hb6') (fun hHeld => ?_)
      clear hK K
      try simp only [Act.put, List.setIfInBounds_toArray, List.set_cons_zero, List.set_cons_succ]
      refine wpAnyH_ready (rs := [6]) (by kernel_rfl) (by simp) ?_
      refine AllReadyH.cons (i := 6) (o := ⟨(some 28), _, _, _, _, _⟩) rfl (fun K hK => ?_) AllReadyH.nil
      refine step_copy_but rfl (.tmp 24) (.tmp 27) 24 rfl 5 Tryd.underlying24 Tryd.sizeByte w4.heap.size (4 * k) (32 - 4 * k) (32 - 4 * k) 4 c6 A6 (by rfl) (by rfl) (bv (upto32 (outp st4 k))) 23 hgW.out (be (st4.at_ k) 4) w6.heap.size hr6.byt (be_len _ _) (by decide) (by rw [bv_len, upto32_len _ (by rw [outp_len]; omega)]; omega) w6 (But.refl _ _) ?_
      intro w7 hg7 hb7
      have hb7' : Below w4.heap.size wr w7 := But.below hb6' hb7 (Nat.le_refl _) (by have := hb6.size; simp at this; omega)
      refine hK.out _ _ (hb7') (fun hHeld => ?_)
      clear hK K
      try simp only [Act.put, List.setIfInBounds_toArray, List.set_cons_zero, List.set_cons_succ]
      refine wpAnyH_done (by kernel_rfl) ?_ _
      go_wp2
      go_roundw
      case rel =>
        refine ⟨k + 1, by omega, by go_num, ?_, ?_, ?_⟩
        · have h1 := hg7.out
          have h2 := upto32_splice (outp st4 k) (be (st4.at_ k) 4) (by rw [outp_len, be_len]; omega)
          rw [outp_len] at h2
          rw [List.take_of_length_le (by rw [be_len]; omega), h2] at h1
          exact h1
        · exact (hb7.block _ (Array.getElem?_eq_some_iff.1 hgZ.out).1 (by intro e; injection e; omega)).trans hgZ.out
        · exact hb.trans (hb7'.mono hw4)
      case measure => simp [intOf]; omega
    · have HK := Lib.hid (show k = 8 by omega)
      have hout : upto32 (outp st4 k) = shaOf l := by rw [HK.out, HSH.out, outp_end, upto32_all _ (outOf_len _)]
      have H32 := Lib.hid (show (bv (upto32 (outp st4 k))).toArray.size = 32 by simp [bv_len, upto32_len _ (show (outp st4 k).length ≤ 32 by rw [outp_len]; omega)])
      have HOUT := Lib.hid hout
      have hz32 := Lib.hid (show (bv z32).toArray.size = 32 from rfl)
      clear hout
      go_wp2_with (first
        | (with_reducible refine wpList_load_row rfl 23 (.tmp 4) rfl w4.heap.size rfl 23 (bv (upto32 (outp st4 k))).toArray (0, 0) _ hg1.out Tryd.underlying23 rfl (by rw [H32.out]; kernel_rfl) ?_)
        | (with_reducible refine wpList_store_row rfl 23 (.tmp 2) (.tmp 30) rfl w.heap.size (bv (upto32 (outp st4 k))).toArray rfl rfl 23 _ hg0.out (by rw [H32.out]; kernel_rfl) (by rw [H32.out]; exact hz32.out) (all_oneCell_toArray (bv_one _)) ?_))
      refine bodyPost_ret (v := .agg (bv (shaOf l)).toArray) (results_cell_row Tryd.results14 _ _ w.heap.size 23 _ (0, 0) _ rfl (by rw [← HOUT.out]; exact setRow_heap _ _ _ _ _ _ hg0.out) Tryd.underlying23 rfl (by rw [← HOUT.out, H32.out]; kernel_rfl)) rfl ⟨rfl, below_setRow hb (Nat.le_refl _) _⟩
end Go.Proofs.YtmgamjbifffchaaDoor
