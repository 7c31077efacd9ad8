/-
  Contract of poly.Tag: the tag of all parts, one behind the other. Conditions: a key of 32 bytes; fewer than 2^58 bytes in all.
-/
import Derived.Test.YtioodeiloepaaaaPlG
import Derived.Test.YtioodeiloepaaaaPlK
import Derived.Test.YtioodeiloepaaaaPrt
namespace Go.Proofs.Ytioodeiloepaaaa
open Go.RowKit

theorem built_sum (a b c d e : Nat) : Try.prog.built 44 [(0, .agg (u64v [a, b, c, d, e]).toArray)] = some (sumP [a, b, c, d, e] [0, 0, 0, 0, 0] z16 0).toArray := by kernel_rfl
theorem zero_psum (w : World) : (zeroValue 44).run Try.prog w = .ok (.agg (sumP [0, 0, 0, 0, 0] [0, 0, 0, 0, 0] z16 0).toArray) w := by kernel_rfl
theorem sumP_one (rp t : List Nat) (rest : List UInt8) (n : Nat) : ∀ v ∈ sumP rp t rest n, v.oneCell' = true := by
  intro v hv
  simp only [sumP, List.mem_append, List.mem_cons, List.not_mem_nil, or_false] at hv
  rcases hv with hv | hv | hv | rfl
  · exact u64v_one _ _ hv
  · exact u64v_one _ _ hv
  · exact bv_one _ _ hv
  · rfl

set_option maxRecDepth 100000 in
set_option maxHeartbeats 1000000 in
theorem ptagAll_any (w : World) (key : List UInt8) (A : Option Addr) (ps : List (List UInt8)) (n c : Nat) (hk : key.length = 32) (hP : Prt w w.heap.size A ps) (hn : ps.length = n) (hbig : ps.flatten.length ≤ 288230376151711744) (hn2 : n ≤ 140737488355328) :
    Calls Try.prog 9 #[.agg (bv key).toArray, .slice A n c] w fun e w' => e = .returned (.agg (bv (tagOf key ps.flatten)).toArray) ∧ Below w.heap.size w w' := by
  have hz16 := zero_b16
  have hzs := zero_psum
  have HN := Lib.hid hn
  have HK := Lib.hid hk
  clear hn hk
  obtain ⟨W, hW, hgK, hgZ, hbW, hsW⟩ := pair_new w (bv key).toArray (bv z16).toArray 26 23
  have hs1 : w.heap.size + 1 < W.heap.size := by have := hsW.out; omega
  have HW := Lib.hid hW
  clear hW
  have hcut1 := cut_lh Try.underlying26 Try.sizeByte w.heap.size 0 0 16 0 16 rfl rfl (by decide) (by decide) (by decide)
  have hat1 := fun w' => run_arrayAt (P := Try.prog) w' 23 5 16 (some ⟨w.heap.size, 0, none⟩) 16 32 Try.underlying23 (by decide)
  have hrg1 := Lib.hid (range_byt (byt_mid hgK.out 0 16))
  have hl1 := Lib.hid (show (bv ((key.drop 0).take 16)).length = 16 by rw [bv_len]; simp [HK.out])
  have hk16 := Lib.hid (show ((key.drop 0).take 16).length = 16 by simp [HK.out])
  have hr0 := Lib.hid (show rOf key = ln (clampOf ((key.drop 0).take 16)) by rw [rOf, List.drop_zero])
  generalize (key.drop 0).take 16 = k1 at *
  have hclamp := clamp_any W k1 hk16.out
  obtain ⟨k2, hk2⟩ : ∃ k2, k2 = clampOf k1 := ⟨_, rfl⟩
  rw [← hk2] at hclamp hr0
  have hk2l := Lib.hid (show k2.length = 16 by rw [hk2, clampOf_len]; exact hk16.out)
  clear hk2
  go_enter Try.func9, Try.ntmps9
  go_upto_region 1 with fail
  rw [HW.out]
  go_wp2_with (with_reducible refine wpList_load_mid rfl 23 (.tmp 9) rfl w.heap.size 0 rfl (bv k1) _ hrg1.out Try.underlying23 rfl (by rw [hl1.out]; kernel_rfl) ?_)
  refine hclamp.mono ?_
  rintro e w2 ⟨rfl, hb2⟩
  clear hclamp hcut1 hat1 hrg1
  have hnum := numberOf_any w2 k2 0 hk2l.out (Nat.zero_le _)
  go_wp2_with fail
  refine hnum.mono ?_
  rintro e w3 ⟨r0, r1, r2, r3, r4, rfl, hrv, hrl, hb3⟩
  clear hnum
  have HR := vlt (show rOf key = nv r0 r1 r2 r3 r4 by rw [hr0.out, hrv.out, Nat.mul_zero, Nat.add_zero])
  have hb3' : Below W.heap.size W w3 := below_next hb2 hb2.size hb3
  go_upto_region 2 with (first
    | (with_reducible refine wpList_build_to rfl 44 _ rfl [(0, .agg (u64v [r0, r1, r2, r3, r4]).toArray)] (by kernel_rfl) _ (built_sum r0 r1 r2 r3 r4) ?_)
    | ((with_reducible refine wpList_store_row rfl 44 (.tmp 5) (.tmp 13) rfl w3.heap.size (sumP [r0, r1, r2, r3, r4] [0, 0, 0, 0, 0] z16 0).toArray rfl rfl 44 _ (heap_alloc_new _ _) (by kernel_rfl) (by kernel_rfl) (all_oneCell_toArray (sumP_one _ _ _ _)) ?_); rw [World.setRow_alloc_new]))
  have hS : SumP (w3.alloc (.cells (sumP [r0, r1, r2, r3, r4] [0, 0, 0, 0, 0] z16 0).toArray 44)) w3.heap.size r0 r1 r2 r3 r4 [] :=
    ⟨0, 0, 0, 0, 0, z16, ⟨heap_alloc_new _ _, rfl, rfl, rfl⟩, by decide, vlt rfl, rfl⟩
  have hb4 : Below W.heap.size W (w3.alloc (.cells (sumP [r0, r1, r2, r3, r4] [0, 0, 0, 0, 0] z16 0).toArray 44)) := hb3'.alloc hb3'.size _
  generalize w3.alloc (.cells (sumP [r0, r1, r2, r3, r4] [0, 0, 0, 0, 0] z16 0).toArray 44) = V at *
  obtain ⟨g, hg⟩ : ∃ g, g = w3.heap.size := ⟨_, rfl⟩
  have hWg : W.heap.size ≤ g := by rw [hg]; exact hb3'.size
  rw [← hg] at hS ⊢
  clear hg hb3 hb3' hb2 hrv hr0 hk16 hk2l hl1
  go_wp2
  go_loopw [16] (fun i wr => ∃ k : Nat, k ≤ n ∧ i = .int .i64 (k : Int) ∧ SumP wr g r0 r1 r2 r3 r4 (ps.take k).flatten ∧ Below W.heap.size W wr) (fun i _ => n - (intOf i).toNat)
  case atStart => exact ⟨0, by omega, rfl, hS, hb4⟩
  case round =>
    clear hS hb4
    obtain ⟨k, hk, rfl, hs, hb⟩ := hrel
    have hbw : Below w.heap.size w wr := hbW.trans (hb.mono (by omega))
    by_cases hlt : k < n
    · obtain ⟨b, o, Aj, nj, cj, p, rfl, hbl, hcell, hget, hpl, hcj, hbt⟩ := (hP.below hbw).at_ (k := k) (by rw [HN.out]; exact hlt)
      have hfl : nj ≤ 1152921504606846976 := by
        have h1 := flat_le ps (k + 1)
        rw [flat_take hget.out, List.length_append, hpl.out] at h1
        omega
      have hadd := padd_any wr g r0 r1 r2 r3 r4 (ps.take k).flatten p Aj nj cj hs hrl (hbt.toSrc hbw.size (by omega)) hpl.out hcj hfl
      go_wp2_with fail
      refine hadd.mono ?_
      rintro e w5 ⟨rfl, hs5, hbut⟩
      clear hadd hcell hfl
      have hs5' : SumP w5 g r0 r1 r2 r3 r4 (ps.take (k + 1)).flatten := by rw [flat_take hget.out]; exact hs5
      have hb5 : Below W.heap.size W w5 := But.below hb hbut hWg hb.size
      go_wp2
      exact ⟨⟨k + 1, by omega, by go_num, hs5', hb5⟩, by simp [intOf]; omega⟩
    · have HK2 := Lib.hid (show k = n by omega)
      have hs' : SumP wr g r0 r1 r2 r3 r4 ps.flatten := by
        have h1 := hs
        rw [List.take_of_length_le (by rw [HN.out, HK2.out]; exact Nat.le_refl _)] at h1
        exact h1
      have hgKr : Hid (wr.heap[w.heap.size]? = some (.cells (bv key).toArray 26 (0, 0))) := (hb.block _ (by omega)).trans hgK.out
      have hcut1 := cut_l Try.underlying26 Try.sizeByte w.heap.size 0 16 16 rfl (by decide)
      have hat1 := fun w' => run_arrayAt (P := Try.prog) w' 23 5 16 (some ⟨w.heap.size, 16, none⟩) 16 16 Try.underlying23 (by decide)
      have e1 : (key.drop 16).take 16 = key.drop 16 := List.take_of_length_le (by simp [HK.out])
      have hrg1 := Lib.hid (range_byt (byt_mid hgKr.out 16 16))
      rw [e1] at hrg1
      have hl1 := Lib.hid (show (bv (key.drop 16)).length = 16 by rw [bv_len]; simp [HK.out])
      have hl2 := Lib.hid (show (key.drop 16).length = 16 by simp [HK.out])
      obtain ⟨out, hout⟩ : ∃ out, out = tagOf key ps.flatten := ⟨_, rfl⟩
      have HOUT := vlt hout
      have HOUT2 := vlt (show out = le ((polyOf (nv r0 r1 r2 r3 r4) ps.flatten + ln (key.drop 16)) % 340282366920938463463374607431768211456) 16 by rw [hout, tagOf, HR.out])
      have HOS := Lib.hid (show (bv out).toArray.size = 16 by simp [bv_len, hout, tagOf_len])
      have HZ16 := Lib.hid (show (bv z16).toArray.size = 16 from rfl)
      clear hout e1
      generalize key.drop 16 = k3 at *
      have hnum := numberOf_any wr k3 0 hl2.out (Nat.zero_le _)
      go_wp2_with (with_reducible refine wpList_load_mid rfl 23 (.tmp 24) rfl w.heap.size 16 rfl (bv k3) _ hrg1.out Try.underlying23 rfl (by rw [hl1.out]; kernel_rfl) ?_)
      refine hnum.mono ?_
      rintro e w5 ⟨b0, b1, b2, b3, b4, rfl, hbv, hbl, hb5⟩
      clear hnum hcut1 hat1 hrg1
      have hend := ptag_any w5 g r0 r1 r2 r3 r4 b0 b1 b2 b3 b4 ps.flatten (hs'.below hs'.lt hb5) hrl hbl
      rw [hbv.out, Nat.mul_zero, Nat.add_zero, ← HOUT2.out] at hend
      clear hbv
      go_wp2_with fail
      refine hend.mono ?_
      rintro e w6 ⟨rfl, hbut6⟩
      have hb6 : Below W.heap.size W w6 := But.below (below_next hb hb.size hb5) hbut6 hWg (by have := hb.size; have := hb5.size; omega)
      have hz6 : Hid (w6.heap[w.heap.size + 1]? = some (.cells (bv z16).toArray 23 (0, 0))) := (hb6.block _ hs1).trans hgZ.out
      have hbw6 : Below w.heap.size w w6 := hbW.trans (hb6.mono (by omega))
      clear hend
      go_wp2_with (with_reducible refine wpList_store_row rfl 23 (.tmp 4) (.tmp 27) rfl (w.heap.size + 1) (bv out).toArray rfl rfl 23 _ hz6.out (by rw [HOS.out]; kernel_rfl) (by rw [HOS.out]; exact HZ16.out) (all_oneCell_toArray (bv_one _)) ?_)
      refine bodyPost_ret (v := .agg (bv out).toArray) (results_cell_row Try.results9 _ _ (w.heap.size + 1) 23 _ (0, 0) _ rfl (setRow_heap _ _ _ _ _ _ hz6.out) Try.underlying23 rfl (by rw [HOS.out]; kernel_rfl)) rfl ⟨by rw [HOUT.out], below_setRow hbw6 (by omega) _⟩
end Go.Proofs.Ytioodeiloepaaaa
