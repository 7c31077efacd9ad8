/-
  Contract of kdf.Mac: HMAC of all parts, one behind the other. Conditions: fewer than 2^40 bytes of key and of parts; the tables lie as the program lays them.
-/
import Derived.Test.YtmgamjbifffchaaDoorKdfA
namespace Go.Proofs.YtmgamjbifffchaaDoor
open Go.RowKit

def macOf (k m : List UInt8) : List UInt8 := shaOf (maskOf (fillOf k) 92 ++ shaOf (maskOf (fillOf k) 54 ++ m))
theorem macOf_len (k m : List UInt8) : (macOf k m).length = 32 := shaOf_len _

theorem step_load_row {P : Program} {ops : Array Oper} {o : Oper} {a : Act} {w : World} {K : Act → World → Prop} {Q : Exit → Act → World → Prop} {E : Prop} (hgd : o.guard = none) (ty : TypeId) (x : Operand) (ho : o.op = .load ty x)
    (g : Nat) (hx : a.eval x = .pointer (some ⟨g, 0, none⟩)) (t : TypeId) (cs : Array Value) (d : TypeDesc) (hg : w.heap[g]? = some (.cells cs t (0, 0)))
    (hu : P.underlying ty = some d) (hd : (match d with | .struct _ | .array _ _ => true | _ => false) = true) (hi : (P.info? ty).map (·.size) = some cs.size)
    (h : K (a.put o.dst (.agg cs)) w) : if Region.wanted o (yielded ops a.tmps) = true then Oper.wp P o a w K Q else E := by
  have hw : Region.wanted o (yielded ops a.tmps) = true := by simp [Region.wanted, hgd]
  rw [if_pos hw]
  exact wp_load_row ty x ho g hx t cs (0, 0) d hg hu hd hi h
theorem step_store_row {P : Program} {ops : Array Oper} {o : Oper} {a : Act} {w : World} {K : Act → World → Prop} {Q : Exit → Act → World → Prop} {E : Prop} (hgd : o.guard = none) (ty : TypeId) (x y : Operand) (ho : o.op = .store ty x y)
    (g : Nat) (cells : Array Value) (hx : a.eval x = .pointer (some ⟨g, 0, none⟩)) (hy : a.eval y = .agg cells) (t : TypeId) (old : Array Value) (hg : w.heap[g]? = some (.cells old t (0, 0)))
    (hi : (P.info? ty).map (·.size) = some cells.size) (hold : old.size = cells.size) (h1 : cells.all (·.oneCell') = true)
    (h : K (a.put o.dst undef) (w.setRow g cells)) : if Region.wanted o (yielded ops a.tmps) = true then Oper.wp P o a w K Q else E := by
  have hw : Region.wanted o (yielded ops a.tmps) = true := by simp [Region.wanted, hgd]
  rw [if_pos hw]
  exact wp_store_row ty x y ho g cells hx hy t old hg hi hold h1 h

/-- A list of two lists. -/
theorem Prt.two {w : World} {E : TypeId} {A D : Option Addr} {l m : List UInt8} {n c k d : Nat} (ha : Byt w w.heap.size A l) (hl : l.length = n) (hc : n ≤ c) (hd : Byt w w.heap.size D m) (hm : m.length = k) (hk : k ≤ d) :
    Prt (w.alloc (.cells #[.slice A n c, .slice D k d] E)) (w.alloc (.cells #[.slice A n c, .slice D k d] E)).heap.size (some ⟨w.heap.size, 0, none⟩) [l, m] := by
  refine .inr ⟨w.heap.size, 0, rfl, by simp, fun j p hj => ?_⟩
  match j, hj with
  | 0, hj =>
    simp at hj
    subst hj
    exact ⟨A, n, c, by simp, hl, hc, (ha.alloc (Nat.le_refl _) _).up (by simp)⟩
  | 1, hj =>
    simp at hj
    subst hj
    exact ⟨D, k, d, by simp, hm, hk, (hd.alloc (Nat.le_refl _) _).up (by simp)⟩
theorem byt_row {w : World} {g : Nat} {l : List UInt8} {t : TypeId} (hg : w.heap[g]? = some (.cells (bv l).toArray t (0, 0))) : Byt w w.heap.size (some ⟨g, 0, none⟩) l := by
  refine .inr ⟨g, 0, rfl, (Array.getElem?_eq_some_iff.1 hg).1, fun j b hj => ?_⟩
  rw [Nat.zero_add, cell_of_row _ _ _ _ _ _ hg]
  simp only [List.getElem?_toArray, bv_at, hj]; rfl
theorem src_row {w : World} {g b : Nat} {l : List UInt8} {t : TypeId} (hg : w.heap[g]? = some (.cells (bv l).toArray t (0, 0))) (hne : g ≠ b) : Src w b (some ⟨g, 0, none⟩) l := by
  rcases byt_row hg with h | ⟨g', o', h1, h2, h3⟩
  · exact .inl h
  · injection h1 with h1
    injection h1 with h1 h1'
    subst h1 h1'
    exact .inr ⟨g, 0, rfl, hne, h2, h3⟩

set_option maxRecDepth 100000 in
set_option maxHeartbeats 1000000 in
theorem mac_any (w : World) (A : Option Addr) (l : List UInt8) (n c : Nat) (D : Option Addr) (ps : List (List UInt8)) (k d : Nat) (ha : Byt w w.heap.size A l) (hl : l.length = n) (hc : n ≤ c) (hn : n ≤ 1099511627776)
    (hP : Prt w w.heap.size D ps) (hk : ps.length = k) (hk2 : k ≤ 1099511627776) (hps : ps.flatten.length ≤ 1099511627776) (hla : Laid w) :
    Calls Tryd.prog 8 #[.slice A n c, .slice D k d] w fun e w' => e = .returned (.agg (bv (macOf l ps.flatten)).toArray) ∧ Below w.heap.size w w' := by
  have hzb := zero_blk
  have hzw := zero_word
  have HK := Lib.hid hk
  have hw1 : Below w.heap.size w (w.alloc (.cells (bv z32).toArray 23)) := (Below.refl _ _).alloc (Nat.le_refl _) _
  have hfi := filled_any _ A l n c ((ha.below hw1).up (by simp)) hl hc hn (hla.below hla.2.2 hw1)
  have HZ2 := Lib.hid (show (bv z64).toArray.size = 64 from rfl)
  have HZ3 := Lib.hid (show (bv z32).toArray.size = 32 from rfl)
  clear hk hl
  go_enter Tryd.func8, Tryd.ntmps8
  go_wp2_with fail
  refine hfi.mono ?_
  rintro e w2 ⟨rfl, hb2⟩
  clear hfi
  obtain ⟨F, hF⟩ : ∃ F, F = fillOf l := ⟨_, rfl⟩
  rw [← hF]
  have hFl : F.length = 64 := by rw [hF]; exact fillOf_len _
  have HF := Lib.hid hF
  have HFL := Lib.hid hFl
  have HFS := Lib.hid (show (bv F).toArray.size = 64 by simp [bv_len, hFl])
  have hz2 : Hid (w2.heap[w.heap.size]? = some (.cells (bv z32).toArray 23 (0, 0))) := (hb2.block _ (by simp)).trans (heap_alloc_new _ _)
  have hs2 : w.heap.size + 1 ≤ w2.heap.size := by have := hb2.size; simp at this; omega
  have hb2' : Below w.heap.size w w2 := below_next hw1 (by simp) hb2
  have hb3' : Below w.heap.size w (w2.alloc (.cells (bv F).toArray 37)) := hb2'.alloc hb2'.size _
  have hnew := new_any _ (hla.below hla.2.2 hb3')
  clear hF hFl hb2 hw1
  go_wp2_with ((with_reducible refine wpList_store_row rfl 37 (.tmp 5) (.tmp 11) rfl w2.heap.size (bv F).toArray rfl rfl 37 _ (heap_alloc_new _ _) (by rw [HFS.out]; kernel_rfl) (by rw [HFS.out]; exact HZ2.out) (all_oneCell_toArray (bv_one _)) ?_); rw [World.setRow_alloc_new])
  refine hnew.mono ?_
  rintro e w4 ⟨g, rfl, hg, hs4, hb4⟩
  clear hnew
  have hg' : w2.heap.size < g := by simp at hg; omega
  have hF4 : Hid (w4.heap[w2.heap.size]? = some (.cells (bv F).toArray 37 (0, 0))) := (hb4.block _ (by simp)).trans (heap_alloc_new _ _)
  have hz4 : Hid (w4.heap[w.heap.size]? = some (.cells (bv z32).toArray 23 (0, 0))) := (hb4.block _ (by simp; omega)).trans ((Below.heap_alloc _ _ _ (by omega)).trans hz2.out)
  have hb4' : Below w.heap.size w w4 := below_next hb3' hb3'.size hb4
  have hm1 := masked_any w4 F 54 HFL.out
  clear hb4 hg hb3' hz2 hb2'
  go_wp2_with ((with_reducible refine wpList_load_row rfl 37 (.tmp 5) rfl w2.heap.size rfl 37 (bv F).toArray (0, 0) _ hF4.out Tryd.underlying37 rfl (by rw [HFS.out]; kernel_rfl) ?_))
  refine hm1.mono ?_
  rintro e w5 ⟨rfl, hrow5, hb5⟩
  clear hm1
  have hg4 := hs4.lt
  have hadd := add_any w5 g [] (maskOf F 54) (some ⟨w4.heap.size, 0, none⟩) 64 64 (hs4.below hg4 hb5) (hla.below hla.2.2 (below_next hb4' hb4'.size hb5)) (by have := hla.2.2; omega) (src_row hrow5.out (by omega)) (by rw [maskOf_len, HFL.out]) (by omega) (by simp)
  go_wp2_with fail
  refine hadd.mono ?_
  rintro e w6 ⟨rfl, hs6, hbut6⟩
  clear hadd
  have hb5' : Below w.heap.size w w5 := below_next hb4' hb4'.size hb5
  have hF5 : Hid (w5.heap[w2.heap.size]? = some (.cells (bv F).toArray 37 (0, 0))) := (hb5.block _ (Array.getElem?_eq_some_iff.1 hF4.out).1).trans hF4.out
  have hz5 : Hid (w5.heap[w.heap.size]? = some (.cells (bv z32).toArray 23 (0, 0))) := (hb5.block _ (Array.getElem?_eq_some_iff.1 hz4.out).1).trans hz4.out
  have hF6 : Hid (w6.heap[w2.heap.size]? = some (.cells (bv F).toArray 37 (0, 0))) := (hbut6.block _ (Array.getElem?_eq_some_iff.1 hF5.out).1 (by intro e; injection e; omega)).trans hF5.out
  have hz6 : Hid (w6.heap[w.heap.size]? = some (.cells (bv z32).toArray 23 (0, 0))) := (hbut6.block _ (Array.getElem?_eq_some_iff.1 hz5.out).1 (by intro e; injection e; omega)).trans hz5.out
  have hb6 : Below w.heap.size w w6 := But.below hb5' hbut6 (by omega) hb5'.size
  clear hb5' hF5 hz5 hF4 hz4 hb4' hs4 hb5 hrow5 hbut6 hg4
  go_wp2
  go_loopw [19] (fun i wr => ∃ j : Nat, j ≤ k ∧ i = .int .i64 (j : Int) ∧ SumAt wr g (maskOf F 54 ++ (ps.take j).flatten) ∧ Hid (wr.heap[w2.heap.size]? = some (.cells (bv F).toArray 37 (0, 0))) ∧ Hid (wr.heap[w.heap.size]? = some (.cells (bv z32).toArray 23 (0, 0))) ∧ Below w.heap.size w wr) (fun i _ => k - (intOf i).toNat)
  case atStart => exact ⟨0, by omega, rfl, by simpa using hs6, hF6, hz6, hb6⟩
  case round =>
    clear hs6 hF6 hz6 hb6
    obtain ⟨j, hj, rfl, hs, hFr, hz, hb⟩ := hrel
    by_cases hlt : j < k
    · obtain ⟨b, o, Aj, nj, cj, p, rfl, hbl, hcell, hget, hpl, hcj, hbt⟩ := (hP.below hb).at_ (k := j) (by rw [HK.out]; exact hlt)
      have hfl : (maskOf F 54 ++ (ps.take j).flatten).length + nj ≤ 1152921504606846976 := by
        have h1 := flat_le ps (j + 1)
        rw [flat_take hget.out, List.length_append, hpl.out] at h1
        rw [List.length_append, maskOf_len, HFL.out]
        omega
      have hadd := add_any wr g (maskOf F 54 ++ (ps.take j).flatten) p Aj nj cj hs (hla.below hla.2.2 hb) (by have := hla.2.2; omega) (hbt.toSrc hb.size (by omega)) hpl.out hcj hfl
      go_wp2_with fail
      refine hadd.mono ?_
      rintro e w7 ⟨rfl, hs7, hbut⟩
      clear hadd hcell hfl
      go_wp2
      go_roundw
      case rel =>
        refine ⟨j + 1, by omega, by go_num, ?_, ?_, ?_, But.below hb hbut (by omega) hb.size⟩
        · rw [flat_take hget.out, ← List.append_assoc]; exact hs7
        · exact (hbut.block _ (Array.getElem?_eq_some_iff.1 hFr.out).1 (by intro e; injection e; omega)).trans hFr.out
        · exact (hbut.block _ (Array.getElem?_eq_some_iff.1 hz.out).1 (by intro e; injection e; omega)).trans hz.out
      case measure => simp [intOf]; omega
    · have HJ := Lib.hid (show j = k by omega)
      have hs' : SumAt wr g (maskOf F 54 ++ ps.flatten) := by
        have h1 := hs
        rw [List.take_of_length_le (by rw [HK.out, HJ.out]; exact Nat.le_refl _)] at h1
        exact h1
      have hword := word_any wr g (maskOf F 54 ++ ps.flatten) hs' (hla.below hla.2.2 hb) (by rw [List.length_append, maskOf_len, HFL.out]; omega)
      go_wp2_with fail
      refine hword.mono ?_
      rintro e w7 ⟨rfl, hb7⟩
      clear hword hs hs'
      obtain ⟨I, hI⟩ : ∃ I, I = shaOf (maskOf F 54 ++ ps.flatten) := ⟨_, rfl⟩
      rw [← hI]
      have hIl : I.length = 32 := by rw [hI]; exact shaOf_len _
      have HI := Lib.hid hI
      have HIL := Lib.hid hIl
      have HIS := Lib.hid (show (bv I).toArray.size = 32 by simp [bv_len, hIl])
      have hF7 : Hid (w7.heap[w2.heap.size]? = some (.cells (bv F).toArray 37 (0, 0))) := (hb7.block _ (Array.getElem?_eq_some_iff.1 hFr.out).1).trans hFr.out
      have hz7 : Hid (w7.heap[w.heap.size]? = some (.cells (bv z32).toArray 23 (0, 0))) := (hb7.block _ (Array.getElem?_eq_some_iff.1 hz.out).1).trans hz.out
      have hb7' := below_next hb hb.size hb7
      have hF7l := (Array.getElem?_eq_some_iff.1 hF7.out).1
      clear hI hIl hFr hz hb hb7
      go_wp2_with ((with_reducible refine wpList_store_row rfl 23 (.tmp 9) (.tmp 28) rfl w7.heap.size (bv I).toArray rfl rfl 23 _ (heap_alloc_new _ _) (by rw [HIS.out]; kernel_rfl) (by rw [HIS.out]; exact HZ3.out) (all_oneCell_toArray (bv_one _)) ?_); rw [World.setRow_alloc_new])
      have hF8 : Hid ((w7.alloc (.cells (bv I).toArray 23)).heap[w2.heap.size]? = some (.cells (bv F).toArray 37 (0, 0))) := (Below.heap_alloc _ _ _ hF7l).trans hF7.out
      have hz8 : Hid ((w7.alloc (.cells (bv I).toArray 23)).heap[w.heap.size]? = some (.cells (bv z32).toArray 23 (0, 0))) := (Below.heap_alloc _ _ _ (Array.getElem?_eq_some_iff.1 hz7.out).1).trans hz7.out
      have hI8 : Hid ((w7.alloc (.cells (bv I).toArray 23)).heap[w7.heap.size]? = some (.cells (bv I).toArray 23 (0, 0))) := heap_alloc_new _ _
      have hb8 : Below w.heap.size w (w7.alloc (.cells (bv I).toArray 23)) := hb7'.alloc hb7'.size _
      generalize hw8 : w7.alloc (.cells (bv I).toArray 23) = w8 at *
      have hs8 : w.heap.size < w8.heap.size := (Array.getElem?_eq_some_iff.1 hz8.out).1
      clear hw8 hF7 hz7 hb7' hF7l
      have hcut := cut_all Tryd.underlying23 Tryd.sizeByte w7.heap.size 0 (by decide)
      refine wp_region_held_drew (S := (fun W => Below w.heap.size w W)) (by kernel_rfl) (hb8.drew) (fun hHeld => ?_)
      refine wpAnyH_take (i := 2) (oi := ⟨(some 31), _, _, _, _, _⟩) (v := ?vq1_0) rfl (by kernel_rfl) (by kernel_rfl) (by kernel_rfl) (fun _ _ _ h => h) (Or.inl ⟨by rfl, ?yq1_0⟩) hHeld ?_
      case yq1_0 => (intro W0 hSw; go_simp; try with_reducible rfl)
      try simp only [Act.put, List.setIfInBounds_toArray, List.set_cons_zero, List.set_cons_succ]
      refine wpAnyH_ready (rs := [0]) (by kernel_rfl) (by simp) ?_
      refine AllReadyH.cons (i := 0) (o := ⟨(some 29), _, _, _, _, _⟩) rfl (fun K hK => ?_) AllReadyH.nil
      refine step_load_row rfl 37 (.tmp 5) rfl w2.heap.size (by rfl) 37 (bv F).toArray _ hF8.out Tryd.underlying37 rfl (by rw [HFS.out]; kernel_rfl) ?_
      refine hK.out _ _ (hHeld) (fun hHeld => ?_)
      clear hK K
      try simp only [Act.put, List.setIfInBounds_toArray, List.set_cons_zero, List.set_cons_succ]
      refine wpAnyH_ready (rs := [1]) (by kernel_rfl) (by simp) ?_
      refine AllReadyH.cons (i := 1) (o := ⟨(some 30), _, _, _, _, _⟩) rfl (fun K hK => ?_) AllReadyH.nil
      go_simp
      refine (masked_any w8.drew F 92 HFL.out).mono ?_
      rintro e w9 ⟨rfl, hrow9, hb9⟩
      have hb9' : Below w.heap.size w w9 := below_next hHeld hHeld.size hb9
      refine hK.out _ _ (hb9') (fun hHeld => ?_)
      clear hK K
      try simp only [Act.put, List.setIfInBounds_toArray, List.set_cons_zero, List.set_cons_succ]
      refine wpAnyH_ready (rs := [3]) (by kernel_rfl) (by simp) ?_
      refine AllReadyH.cons (i := 3) (o := ⟨(some 32), _, _, _, _, _⟩) rfl (fun K hK => ?_) AllReadyH.nil
      go_simp
      refine hK.out _ _ ((hb9'.alloc hb9'.size _)) (fun hHeld => ?_)
      clear hK K
      try simp only [Act.put, List.setIfInBounds_toArray, List.set_cons_zero, List.set_cons_succ]
      have hz9 : Hid (w9.heap[w.heap.size]? = some (.cells (bv z32).toArray 23 (0, 0))) := (hb9.block _ hs8).trans hz8.out
      have hI9 : Hid (w9.heap[w7.heap.size]? = some (.cells (bv I).toArray 23 (0, 0))) := (hb9.block _ (Array.getElem?_eq_some_iff.1 hI8.out).1).trans hI8.out
      have hs9 : w.heap.size < w9.heap.size := (Array.getElem?_eq_some_iff.1 hz9.out).1
      have hprt := Prt.two (E := 24) (byt_row hrow9.out) (by rw [maskOf_len, HFL.out]) (Nat.le_refl 64) (byt_row hI9.out) HIL.out (Nat.le_refl 32)
      have hof := of_any _ _ [maskOf F 92, I] 2 2 hprt rfl (hla.below hla.2.2 (hb9'.alloc hb9'.size _)) (by simp [maskOf_len, HFL.out, HIL.out]) (by omega)
      clear hprt
      refine wpAnyH_ready (rs := [4]) (by kernel_rfl) (by simp) ?_
      refine AllReadyH.cons (i := 4) (o := ⟨(some 33), _, _, _, _, _⟩) rfl (fun K hK => ?_) AllReadyH.nil
      go_simp
      refine hof.mono ?_
      rintro e w10 ⟨rfl, hb10⟩
      clear hof
      have hb10' : Below w.heap.size w w10 := below_next hHeld (by simp; omega) hb10
      refine hK.out _ _ (hb10') (fun hHeld => ?_)
      clear hK K
      try simp only [Act.put, List.setIfInBounds_toArray, List.set_cons_zero, List.set_cons_succ]
      obtain ⟨out, hout⟩ : ∃ out, out = shaOf [maskOf F 92, I].flatten := ⟨_, rfl⟩
      rw [← hout]
      have HOS := Lib.hid (show (bv out).toArray.size = 32 by simp [bv_len, hout, shaOf_len])
      have HOUT := Lib.hid (show out = macOf l ps.flatten by rw [hout, macOf, ← HF.out, HI.out]; simp)
      have hz10 : Hid (w10.heap[w.heap.size]? = some (.cells (bv z32).toArray 23 (0, 0))) := (hb10.block _ (by simp; omega)).trans ((Below.heap_alloc _ _ _ hs9).trans hz9.out)
      clear hout
      refine wpAnyH_ready (rs := [5]) (by kernel_rfl) (by simp) ?_
      refine AllReadyH.cons (i := 5) (o := ⟨none, _, _, _, _, _⟩) rfl (fun K hK => ?_) AllReadyH.nil
      refine step_store_row rfl 23 (.tmp 4) (.tmp 33) rfl w.heap.size (bv out).toArray (by rfl) (by rfl) 23 _ hz10.out (by rw [HOS.out]; kernel_rfl) (by rw [HOS.out]; exact HZ3.out) (all_oneCell_toArray (bv_one _)) ?_
      refine hK.out _ _ ((below_setRow hb10' (Nat.le_refl _) _)) (fun hHeld => ?_)
      clear hK K
      try simp only [Act.put]
      refine wpAnyH_done (by kernel_rfl) ?_ _
      go_wp2
      refine bodyPost_ret (v := .agg (bv out).toArray) (results_cell_row Tryd.results8 _ _ w.heap.size 23 _ (0, 0) _ rfl (setRow_heap _ _ _ _ _ _ hz10.out) Tryd.underlying23 rfl (by rw [HOS.out]; kernel_rfl)) rfl ⟨by rw [HOUT.out], below_setRow hb10' (Nat.le_refl _) _⟩
end Go.Proofs.YtmgamjbifffchaaDoor
