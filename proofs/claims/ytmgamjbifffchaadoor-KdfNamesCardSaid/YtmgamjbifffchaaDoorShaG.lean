/-
  Contract of sha.Of: the sum of all parts, one behind the other. Conditions: fewer than 2^58 bytes in all; the tables lie as the program lays them.
-/
import Derived.Test.YtmgamjbifffchaaDoorShaF
import Derived.Test.YtmgamjbifffchaaDoorShaN
namespace Go.Proofs.YtmgamjbifffchaaDoor
open Go.RowKit

/-- A list of lists of bytes that came in. -/
def Prt (w : World) (B : Nat) (A : Option Addr) (ps : List (List UInt8)) : Prop :=
  ps = [] ∨ ∃ b o, A = some ⟨b, o, none⟩ ∧ b < B ∧ ∀ j p, ps[j]? = some p → ∃ Aj nj cj, w.cell? ⟨b, o + j, none⟩ = some (.slice Aj nj cj) ∧ p.length = nj ∧ nj ≤ cj ∧ Byt w B Aj p
section
variable {w w' : World} {B B' : Nat} {A : Option Addr} {ps : List (List UInt8)}
theorem Prt.below (h : Prt w B A ps) (hb : Below B w w') : Prt w' B A ps := by
  rcases h with h | ⟨b, o, hA, hlt, hc⟩
  · exact .inl h
  · refine .inr ⟨b, o, hA, hlt, fun j p hj => ?_⟩
    obtain ⟨Aj, nj, cj, h1, h2, h3, h4⟩ := hc j p hj
    exact ⟨Aj, nj, cj, (hb.cell (p := ⟨b, o + j, none⟩) hlt).trans h1, h2, h3, h4.below hb⟩
theorem Prt.up (h : Prt w B A ps) (hB : B ≤ B') : Prt w B' A ps := by
  rcases h with h | ⟨b, o, hA, hlt, hc⟩
  · exact .inl h
  · refine .inr ⟨b, o, hA, by omega, fun j p hj => ?_⟩
    obtain ⟨Aj, nj, cj, h1, h2, h3, h4⟩ := hc j p hj
    exact ⟨Aj, nj, cj, h1, h2, h3, h4.up hB⟩
theorem Prt.at_ (h : Prt w B A ps) {k : Nat} (hk : k < ps.length) : ∃ b o Aj nj cj p, A = some ⟨b, o, none⟩ ∧ b < B ∧ w.cell? ⟨b, o + k, none⟩ = some (.slice Aj nj cj) ∧ Hid (ps[k]? = some p) ∧ Hid (p.length = nj) ∧ nj ≤ cj ∧ Byt w B Aj p := by
  rcases h with h | ⟨b, o, hA, hlt, hc⟩
  · subst h; simp at hk
  · obtain ⟨Aj, nj, cj, h1, h2, h3, h4⟩ := hc k _ (List.getElem?_eq_getElem hk)
    exact ⟨b, o, Aj, nj, cj, _, hA, hlt, h1, List.getElem?_eq_getElem hk, h2, h3, h4⟩
end
theorem flat_take {ps : List (List UInt8)} {k : Nat} {p : List UInt8} (h : ps[k]? = some p) : (ps.take (k + 1)).flatten = (ps.take k).flatten ++ p := by
  obtain ⟨hk, rfl⟩ := List.getElem?_eq_some_iff.1 h
  rw [List.take_succ_eq_append_getElem hk, List.flatten_append, List.flatten_cons, List.flatten_nil, List.append_nil]
theorem flat_le (ps : List (List UInt8)) (k : Nat) : (ps.take k).flatten.length ≤ ps.flatten.length := by
  have h : ps.flatten.length = ((ps.take k) ++ (ps.drop k)).flatten.length := by rw [List.take_append_drop]
  rw [h, List.flatten_append, List.length_append]; omega

set_option maxRecDepth 100000 in
set_option maxHeartbeats 1000000 in
theorem of_any (w : World) (A : Option Addr) (ps : List (List UInt8)) (n c : Nat) (hP : Prt w w.heap.size A ps) (hn : ps.length = n) (hl : Laid w) (hbig : ps.flatten.length ≤ 288230376151711744) (hn2 : n ≤ 140737488355328) :
    Calls Tryd.prog 15 #[.slice A n c] w fun e w' => e = .returned (.agg (bv (shaOf ps.flatten)).toArray) ∧ Below w.heap.size w w' := by
  have hzw := zero_word
  have HN := Lib.hid hn
  clear hn
  have hw1 : Below w.heap.size w (w.alloc (.cells (bv z32).toArray 23)) := (Below.refl _ _).alloc (Nat.le_refl _) _
  have hnew := new_any _ (hl.below hl.2.2 hw1)
  go_enter Tryd.func15, Tryd.ntmps15
  go_wp2_with fail
  refine hnew.mono ?_
  rintro e w2 ⟨g, rfl, hg, hs2, hb2⟩
  clear hnew
  have hb2' : Below w.heap.size w w2 := below_next hw1 (by simp) hb2
  have hz2 : Hid (w2.heap[w.heap.size]? = some (.cells (bv z32).toArray 23 (0, 0))) := (hb2.block _ (by simp)).trans (heap_alloc_new _ _)
  have hg' : w.heap.size < g := by simp at hg; omega
  clear hg hb2 hw1
  go_wp2
  go_loopw [9] (fun i wr => ∃ k : Nat, k ≤ n ∧ i = .int .i64 (k : Int) ∧ SumAt wr g (ps.take k).flatten ∧ Hid (wr.heap[w.heap.size]? = some (.cells (bv z32).toArray 23 (0, 0))) ∧ Below w.heap.size w wr) (fun i _ => n - (intOf i).toNat)
  case atStart => exact ⟨0, by omega, rfl, hs2, hz2, hb2'⟩
  case round =>
    clear hs2 hz2 hb2'
    obtain ⟨k, hk, rfl, hs, hz, hb⟩ := hrel
    by_cases hlt : k < n
    · obtain ⟨b, o, Aj, nj, cj, p, rfl, hbl, hcell, hget, hpl, hcj, hbt⟩ := (hP.below hb).at_ (k := k) (by rw [HN.out]; exact hlt)
      have hfl : ((ps.take k).flatten).length + nj ≤ 1152921504606846976 := by
        have h1 := flat_le ps (k + 1)
        rw [flat_take hget.out, List.length_append, hpl.out] at h1
        omega
      have hadd := add_any wr g (ps.take k).flatten p Aj nj cj hs (hl.below hl.2.2 hb) (by have := hl.2.2; omega) (hbt.toSrc hb.size (by omega)) hpl.out hcj hfl
      go_wp2_with fail
      refine hadd.mono ?_
      rintro e w3 ⟨rfl, hs3, hbut⟩
      clear hadd hcell hfl
      go_wp2
      go_roundw
      case rel =>
        refine ⟨k + 1, by omega, by go_num, ?_, ?_, But.below hb hbut (by omega) hb.size⟩
        · rw [flat_take hget.out]; exact hs3
        · exact (hbut.block _ (Array.getElem?_eq_some_iff.1 hz.out).1 (by intro e; injection e; omega)).trans hz.out
      case measure => simp [intOf]; omega
    · have HK := Lib.hid (show k = n by omega)
      have hs' : SumAt wr g ps.flatten := by
        have h1 := hs
        rw [List.take_of_length_le (by rw [HN.out, HK.out]; exact Nat.le_refl _)] at h1
        exact h1
      have hword := word_any wr g ps.flatten hs' (hl.below hl.2.2 hb) (by omega)
      go_wp2_with fail
      refine hword.mono ?_
      rintro e w3 ⟨rfl, hb3⟩
      clear hword
      obtain ⟨out, hout⟩ : ∃ out, out = shaOf ps.flatten := ⟨_, rfl⟩
      rw [← hout]
      have H32 := Lib.hid (show (bv out).toArray.size = 32 by simp [bv_len, hout, shaOf_len])
      have hz32 := Lib.hid (show (bv z32).toArray.size = 32 from rfl)
      have hz3 : Hid (w3.heap[w.heap.size]? = some (.cells (bv z32).toArray 23 (0, 0))) := (hb3.block _ (Array.getElem?_eq_some_iff.1 hz.out).1).trans hz.out
      have hb4 := below_next hb hb.size hb3
      have HOUT := Lib.hid hout
      clear hout
      go_wp2_with (with_reducible refine wpList_store_row rfl 23 (.tmp 2) (.tmp 18) rfl w.heap.size (bv out).toArray rfl rfl 23 _ hz3.out (by rw [H32.out]; kernel_rfl) (by rw [H32.out]; exact hz32.out) (all_oneCell_toArray (bv_one _)) ?_)
      refine bodyPost_ret (v := .agg (bv out).toArray) (results_cell_row Tryd.results15 _ _ w.heap.size 23 _ (0, 0) _ rfl (setRow_heap _ _ _ _ _ _ hz3.out) Tryd.underlying23 rfl (by rw [H32.out]; kernel_rfl)) rfl ⟨by rw [HOUT.out], below_setRow hb4 (Nat.le_refl _) _⟩
end Go.Proofs.YtmgamjbifffchaaDoor
