/-
  Contract of vec's Get. Conditions: the reader lies in a block of its own, apart from the bytes that it has.
-/
import Derived.Test.YtabgkkdgamacnaaVcG
namespace Go.Proofs.Ytabgkkdgamacnaa
open Go.RowKit

theorem num_rd1 (w : World) (lo hi g : Nat) (l : List UInt8) (bad : Bool) (hr : RdIs w lo hi g l bad) :
    Calls Try.prog 23 #[.pointer (some ⟨g, 0, none⟩), .int .i64 1099511627776] w fun e w' => ∃ x l' b', Vlt (rd1 1099511627776 (l, bad) = (x, l', b')) ∧ e = .returned (.int .i64 x) ∧ RdIs w' lo hi g l' b' ∧ But g w w' := by
  obtain ⟨x, s, hf⟩ : ∃ x s, frontOf l = (x, s) := ⟨_, _, rfl⟩
  by_cases hc : s = 0 ∨ 1099511627776 < x
  · refine (num_no w lo hi g l bad 1099511627776 x s hr (vlt hf) (by omega)).mono ?_
    rintro e w' ⟨rfl, h1, h2⟩
    exact ⟨0, [], true, vlt (by rw [rd1]; simp only [hf]; rw [if_pos hc]), rfl, h1, h2⟩
  · refine (num_ok w lo hi g l bad 1099511627776 x s hr (vlt hf) (by omega) (by omega)).mono ?_
    rintro e w' ⟨rfl, h1, h2⟩
    exact ⟨x, l.drop s, bad, vlt (by rw [rd1]; simp only [hf]; rw [if_neg hc]), rfl, h1, h2⟩
/-- Read below k. -/
structure Got (o : List Int) (i : Nat) (s t : List UInt8 × Bool) : Prop where
  len : o.length = 8
  num : (rdk 1099511627776 i s).1 = o.take i
  rest : (rdk 1099511627776 i s).2 = t
theorem Got.step {o : List Int} {i : Nat} {s t u : List UInt8 × Bool} {x : Int} (h : Got o i s t) (hi : i < 8) (hx : rd1 1099511627776 t = (x, u)) : Got (o.set i x) (i + 1) s u := by
  refine ⟨by rw [List.length_set, h.len], ?_, ?_⟩
  · rw [rdk, h.num, h.rest, hx, List.take_succ_eq_append_getElem (by rw [List.length_set, h.len]; exact hi), List.take_set_of_le (Nat.le_refl _), List.getElem_set_self]
  · rw [rdk, h.rest, hx]
theorem Got.all {o : List Int} {s t : List UInt8 × Bool} (h : Got o 8 s t) : rdk 1099511627776 8 s = (o, t) := by
  have h1 := h.num
  rw [List.take_of_length_le (by rw [h.len]; decide)] at h1
  have h2 := h.rest
  generalize rdk 1099511627776 8 s = p at h1 h2 ⊢
  rw [← h1, ← h2]
theorem vrd_bad {s t : List UInt8 × Bool} {o : List Int} (h : rdk 1099511627776 8 s = (o, t)) (hb : t.2 = true) : vrd s = (z8, t) := by
  rw [vrd, h]
  generalize t = t at hb
  simp only
  rw [if_pos hb]
theorem vrd_good {s t : List UInt8 × Bool} {o : List Int} (h : rdk 1099511627776 8 s = (o, t)) (hb : t.2 = false) : vrd s = (o, t) := by
  rw [vrd, h]
  simp only
  rw [if_neg (by rw [hb]; exact Bool.false_ne_true)]
theorem built_vec0 : Try.prog.built 26 [] = some (i64v z8).toArray := by kernel_rfl

set_option maxRecDepth 100000 in
set_option maxHeartbeats 1000000 in
theorem vget_any (w : World) (lo hi g : Nat) (l : List UInt8) (bad : Bool) (hr : RdIs w lo hi g l bad) :
    Calls Try.prog 24 #[.pointer (some ⟨g, 0, none⟩)] w fun e w' => ∃ o l' b', Vlt (vrd (l, bad) = (o, l', b')) ∧ Hid (o.length = 8) ∧ e = .returned (.agg (i64v o).toArray) ∧ RdIs w' lo hi g l' b' ∧ But g w w' := by
  have hzf := zero_vec
  obtain ⟨W, hW, hgZ, hbW, hsW⟩ := one_new w (i64v z8).toArray 26
  have HW := Lib.hid hW
  have hs : w.heap.size < W.heap.size := by have := hsW.out; omega
  have hrW := hr.next hbW
  have hgw := hr.lt
  have hhi := hr.1.2.2
  clear hW hsW
  go_enter Try.func24, Try.ntmps24
  go_upto_region 1 with fail
  rw [HW.out]
  clear HW
  go_upto_region 2 with fail
  obtain ⟨V, hV⟩ : ∃ V, V = W.alloc (.cells (i64v z8).toArray 26) := ⟨_, rfl⟩
  rw [← hV]
  have gZ : Hid (V.heap[w.heap.size]? = some (.cells (i64v z8).toArray 26 (0, 0))) := by rw [hV]; exact (Below.heap_alloc _ _ _ (by omega)).trans hgZ.out
  have gO : Hid (V.heap[W.heap.size]? = some (.cells (i64v z8).toArray 26 (0, 0))) := by rw [hV]; exact heap_alloc_new _ _
  have hbV : Below w.heap.size w V := by rw [hV]; exact hbW.alloc hbW.size _
  have hrV : RdIs V lo hi g l bad := by rw [hV]; exact hrW.next ((Below.refl _ _).alloc (Nat.le_refl _) _)
  obtain ⟨R, hR⟩ : ∃ R, R = W.heap.size := ⟨_, rfl⟩
  rw [← hR] at gO hs ⊢
  clear hV hR hgZ hrW hr hbW
  have hsV : R < V.heap.size := (Array.getElem?_eq_some_iff.1 gO.out).1
  have hgR : g ≠ R := by omega
  go_wp2_with fail
  go_loopw [5] (fun s wr => ∃ (i : Nat) (o : List Int) (l' : List UInt8) (b' : Bool), i ≤ 8 ∧ s = .int .i64 (i : Int) ∧ Hid (wr.heap[R]? = some (.cells (i64v o).toArray 26 (0, 0))) ∧ Hid (wr.heap[w.heap.size]? = some (.cells (i64v z8).toArray 26 (0, 0))) ∧ Vlt (Got o i (l, bad) (l', b')) ∧ Hid (RdIs wr lo hi g l' b') ∧ But g w wr) (fun s _ => 8 - (intOf s).toNat)
  case atStart => exact ⟨0, z8, l, bad, by omega, rfl, gO, gZ, vlt ⟨rfl, rfl, rfl⟩, hrV, But.of_below hbV (Nat.le_refl _)⟩
  case round =>
    obtain ⟨i, o, l', b', hi8, rfl, hg, hz, hF, hrd, hbt⟩ := hrel
    by_cases hlt : i < 8
    · have hnum := num_rd1 wr lo hi g l' b' hrd.out
      have hol := Lib.hid hF.out.len
      clear gO gZ hrV
      go_wp2_with fail
      refine hnum.mono ?_
      rintro e w1 ⟨x, l2, b2, hx, rfl, hr1, hb1⟩
      have hg1 := row_but hg hb1 (fun e => hgR e.symm)
      have hz1 := row_but hz hb1 (by omega)
      have hF2 := vlt (hF.out.step hlt hx.out)
      have f0 : w1.frozen? ⟨R, i, none⟩ = false := frozen_of_row _ _ _ _ _ hg1.out
      have u0 := int_at hg1.out i (by rw [hol.out]; exact hlt)
      have hs2 := world_set_cell hg1.out i (.int .i64 x)
      rw [i64v_set] at hs2
      have hk : But R w1 (w1.setCell ⟨R, i, none⟩ (.int .i64 x)) := (But.refl R w1).set (i := i) (.int .i64 x)
      have hz2 := row_but hz1 hk (by omega)
      have hr2 := Lib.hid (hr1.far hk (.inr (by omega)))
      have hb2 := (hbt.trans hb1).on hk (by omega)
      generalize iat o i = oi at u0
      clear hnum hg1 hz1 hr1 hb1 hg hz hF hrd hbt hk hx hol
      go_wp2
      go_roundw
      case rel => exact ⟨i + 1, o.set i x, l2, b2, by omega, by go_num, hs2, hz2, hF2, hr2, hb2⟩
      case measure => simp [intOf]; omega
    · obtain rfl : i = 8 := by omega
      have HE := vlt hF.out.all
      have HOL := Lib.hid hF.out.len
      have hsz := Lib.hid (int8_size hF.out.len)
      have hbad := bad_any wr lo hi g l' b' hrd.out
      have hbz : Byt wr 0 none [] := .inl rfl
      clear hF gO gZ hrV
      go_wp2_with fail
      refine hbad.mono ?_
      rintro e w1 ⟨rfl, rfl⟩
      clear hbad hbz
      cases b'
      · have HV := vlt (vrd_good HE.out rfl)
        go_wp2_with (first
          | (with_reducible refine wpList_load_row rfl 26 (.tmp 3) rfl R rfl 26 (i64v o).toArray (0, 0) _ hg.out Try.underlying26 rfl (by rw [hsz.out]; kernel_rfl) ?_)
          | (with_reducible refine wpList_store_row rfl 26 (.tmp 2) (.tmp 16) rfl w.heap.size (i64v o).toArray rfl rfl 26 _ hz.out (by rw [hsz.out]; kernel_rfl) (by rw [hsz.out]; kernel_rfl) (all_oneCell_toArray (i64v_one _)) ?_))
        have hk := (But.refl w.heap.size wr).row (i64v o).toArray
        refine bodyPost_ret (v := .agg (i64v o).toArray) (results_cell_row Try.results24 _ _ w.heap.size 26 _ (0, 0) _ rfl (setRow_heap _ _ _ _ _ _ hz.out) Try.underlying26 rfl (by rw [hsz.out]; kernel_rfl)) rfl ⟨o, l', false, HV, HOL, rfl, hrd.out.far hk (.inr hhi), hbt.on hk (Nat.le_refl _)⟩
      · have HV := vlt (vrd_bad HE.out rfl)
        have hsz2 := Lib.hid (int8_size (show z8.length = 8 from rfl))
        go_wp2_with (first
          | (with_reducible refine wpList_build_as rfl 26 rfl _ built_vec0 ?_)
          | (with_reducible refine wpList_store_row rfl 26 (.tmp 2) (.tmp 15) rfl w.heap.size (i64v z8).toArray rfl rfl 26 _ hz.out (by kernel_rfl) (by kernel_rfl) (all_oneCell_toArray (i64v_one _)) ?_))
        have hk := (But.refl w.heap.size wr).row (i64v z8).toArray
        refine bodyPost_ret (v := .agg (i64v z8).toArray) (results_cell_row Try.results24 _ _ w.heap.size 26 _ (0, 0) _ rfl (setRow_heap _ _ _ _ _ _ hz.out) Try.underlying26 rfl (by kernel_rfl)) rfl ⟨z8, l', true, HV, rfl, rfl, hrd.out.far hk (.inr hhi), hbt.on hk (Nat.le_refl _)⟩
end Go.Proofs.Ytabgkkdgamacnaa
