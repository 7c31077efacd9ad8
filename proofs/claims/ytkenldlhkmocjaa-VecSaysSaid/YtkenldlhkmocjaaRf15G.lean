/-
  Contract of the document's own answer for chapter 15: GetVec. Conditions: the reader lies in a block of its own, apart from the bytes that it has; at most 2^40 bytes.
-/
import Derived.Test.YtkenldlhkmocjaaRf11R
import Derived.Test.YtkenldlhkmocjaaRf15
namespace Go.Proofs.Ytkenldlhkmocjaa
open Go.RowKit

/-- Read below i. -/
structure GotR (B : List UInt8) (o : List Int) (i : Nat) (s t : Nat × Bool) : Prop where
  len : o.length = 8
  num : (rdkR B 1099511627776 i s).1 = o.take i
  rest : (rdkR B 1099511627776 i s).2 = t
theorem GotR.step {B : List UInt8} {o : List Int} {i : Nat} {s t u : Nat × Bool} {x : Int} (h : GotR B o i s t) (hi : i < 8) (hx : rd1R B 1099511627776 t = (x, u)) : GotR B (o.set i x) (i + 1) s u := by
  refine ⟨by rw [List.length_set, h.len], ?_, ?_⟩
  · rw [rdkR, h.num, h.rest, hx, List.take_succ_eq_append_getElem (by rw [List.length_set, h.len]; exact hi), List.take_set_of_le (Nat.le_refl _), List.getElem_set_self]
  · rw [rdkR, h.rest, hx]
theorem GotR.all {B : List UInt8} {o : List Int} {s t : Nat × Bool} (h : GotR B o 8 s t) : rdkR B 1099511627776 8 s = (o, t) := by
  have h1 := h.num
  rw [List.take_of_length_le (by rw [h.len]; decide)] at h1
  have h2 := h.rest
  generalize rdkR B 1099511627776 8 s = p at h1 h2 ⊢
  rw [← h1, ← h2]
theorem vrdR_bad {B : List UInt8} {s t : Nat × Bool} {o : List Int} (h : rdkR B 1099511627776 8 s = (o, t)) (hb : t.2 = true) : vrdR B s = (z8, t) := by
  rw [vrdR, h]
  simp only
  rw [if_pos hb]
theorem vrdR_good {B : List UInt8} {s t : Nat × Bool} {o : List Int} (h : rdkR B 1099511627776 8 s = (o, t)) (hb : t.2 = false) : vrdR B s = (o, t) := by
  rw [vrdR, h]
  simp only
  rw [if_neg (by rw [hb]; exact Bool.false_ne_true)]
theorem built_rvec0 : Try.prog.built 35 [] = some (i64v z8).toArray := by kernel_rfl

set_option maxRecDepth 100000 in
set_option maxHeartbeats 1000000 in
theorem rvget_any (w : World) (z g : Nat) (A : Option Addr) (n c : Nat) (B : List UInt8) (t : Nat) (bad : Bool) (hr : RrIs w z g A n c B t bad) (hl : B.length = n) (ht : t ≤ n) (hn : n ≤ 1099511627776) :
    Calls Try.prog 16 #[.pointer (some ⟨g, 0, none⟩)] w fun e w' => ∃ o t' b', Vlt (vrdR B (t, bad) = (o, t', b')) ∧ Hid (o.length = 8) ∧ e = .returned (.agg (i64v o).toArray) ∧ RrIs w' z g A n c B t' b' ∧ t' ≤ n ∧ But g w w' := by
  have hzf := zero_rvec
  have HL := Lib.hid hl
  obtain ⟨W, hW, hgZ, hbW, hsW⟩ := one_new w (i64v z8).toArray 35
  have HW := Lib.hid hW
  have hs : w.heap.size < W.heap.size := by have := hsW.out; omega
  have hrW := hr.next hbW
  have hgw := hr.1.1
  have hhi := hr.1.2
  clear hW hsW hl
  go_enter Try.func16, Try.ntmps16
  go_upto_region 1 with fail
  rw [HW.out]
  clear HW
  go_upto_region 2 with (first
    | (with_reducible refine wpList_build_as rfl 35 rfl _ built_rvec0 ?_)
    | ((with_reducible refine wpList_store_row rfl 35 (.tmp 3) (.tmp 5) rfl W.heap.size (i64v z8).toArray rfl rfl 35 _ (heap_alloc_new _ _) (by kernel_rfl) (by kernel_rfl) (all_oneCell_toArray (i64v_one _)) ?_); rw [World.setRow_alloc_new]))
  obtain ⟨V, hV⟩ : ∃ V, V = W.alloc (.cells (i64v z8).toArray 35) := ⟨_, rfl⟩
  rw [← hV]
  have gZ : Hid (V.heap[w.heap.size]? = some (.cells (i64v z8).toArray 35 (0, 0))) := by rw [hV]; exact (Below.heap_alloc _ _ _ (by omega)).trans hgZ.out
  have gO : Hid (V.heap[W.heap.size]? = some (.cells (i64v z8).toArray 35 (0, 0))) := by rw [hV]; exact heap_alloc_new _ _
  have hbV : Below w.heap.size w V := by rw [hV]; exact hbW.alloc hbW.size _
  have hrV : RrIs V z g A n c B t bad := by rw [hV]; exact hrW.next ((Below.refl _ _).alloc (Nat.le_refl _) _)
  obtain ⟨R, hR⟩ : ∃ R, R = W.heap.size := ⟨_, rfl⟩
  rw [← hR] at gO hs ⊢
  clear hV hR hgZ hrW hr hbW
  have hsV : R < V.heap.size := (Array.getElem?_eq_some_iff.1 gO.out).1
  have hgR : g ≠ R := by omega
  go_wp2_with fail
  go_loopw [4] (fun s wr => ∃ (i : Nat) (o : List Int) (t' : Nat) (b' : Bool), i ≤ 8 ∧ t' ≤ n ∧ s = .int .i64 (i : Int) ∧ Hid (wr.heap[R]? = some (.cells (i64v o).toArray 35 (0, 0))) ∧ Hid (wr.heap[w.heap.size]? = some (.cells (i64v z8).toArray 35 (0, 0))) ∧ Vlt (GotR B o i (t, bad) (t', b')) ∧ Hid (RrIs wr z g A n c B t' b') ∧ But g w wr) (fun s _ => 8 - (intOf s).toNat)
  case atStart => exact ⟨0, z8, t, bad, by omega, ht, rfl, gO, gZ, vlt ⟨rfl, rfl, rfl⟩, hrV, But.of_below hbV (Nat.le_refl _)⟩
  case round =>
    obtain ⟨i, o, t', b', hi8, ht', rfl, hg, hz, hF, hrd, hbt⟩ := hrel
    by_cases hlt : i < 8
    · have hnum := rrnum_any wr z g A n c B t' b' hrd.out HL.out ht' hn
      have hol := Lib.hid hF.out.len
      clear gO gZ hrV
      go_wp2_with fail
      refine hnum.mono ?_
      rintro e w1 ⟨x, t2, b2, hx, rfl, hr1, ht2, hb1⟩
      have hg1 := row_but hg hb1 (fun e => hgR e.symm)
      have hz1 := row_but hz hb1 (by omega)
      have hF2 := vlt (hF.out.step hlt hx.out)
      have f0 : w1.frozen? ⟨R, i, none⟩ = false := frozen_of_row _ _ _ _ _ hg1.out
      have u0 := int_at hg1.out i (by rw [hol.out]; exact hlt)
      have hs2 := world_set_cell hg1.out i (.int .i64 x)
      rw [i64v_set] at hs2
      have hk : But R w1 (w1.setCell ⟨R, i, none⟩ (.int .i64 x)) := (But.refl R w1).set (i := i) (.int .i64 x)
      have hz2 := row_but hz1 hk (by omega)
      have hr2 := Lib.hid (hr1.far hk (fun e => hgR e.symm) (by omega))
      have hb2 := (hbt.trans hb1).on hk (by omega)
      generalize iat o i = oi at u0
      clear hnum hg1 hz1 hr1 hb1 hg hz hF hrd hbt hk hx hol
      go_wp2
      go_roundw
      case rel => exact ⟨i + 1, o.set i x, t2, b2, by omega, ht2, by go_num, hs2, hz2, hF2, hr2, hb2⟩
      case measure => simp [intOf]; omega
    · obtain rfl : i = 8 := by omega
      have HE := vlt hF.out.all
      have HOL := Lib.hid hF.out.len
      have hsz := Lib.hid (int8_size hF.out.len)
      have cbad : wr.cell? ⟨g, 2, none⟩ = some (.bool b') := by rw [cell_of_row _ _ _ _ _ _ hrd.out.2.1]; rfl
      clear hF gO gZ hrV
      cases b'
      · have HV := vlt (vrdR_good HE.out rfl)
        go_wp2_with (first
          | (with_reducible refine wpList_load_row rfl 35 (.tmp 3) rfl R rfl 35 (i64v o).toArray (0, 0) _ hg.out Try.underlying35 rfl (by rw [hsz.out]; kernel_rfl) ?_)
          | (with_reducible refine wpList_store_row rfl 35 (.tmp 2) (.tmp 19) rfl w.heap.size (i64v o).toArray rfl rfl 35 _ hz.out (by rw [hsz.out]; kernel_rfl) (by rw [hsz.out]; kernel_rfl) (all_oneCell_toArray (i64v_one _)) ?_))
        have hk := (But.refl w.heap.size wr).row (i64v o).toArray
        refine bodyPost_ret (v := .agg (i64v o).toArray) (results_cell_row Try.results16 _ _ w.heap.size 35 _ (0, 0) _ rfl (setRow_heap _ _ _ _ _ _ hz.out) Try.underlying35 rfl (by rw [hsz.out]; kernel_rfl)) rfl ⟨o, t', false, HV, HOL, rfl, hrd.out.far hk (by omega) hhi, ht', hbt.on hk (Nat.le_refl _)⟩
      · have HV := vlt (vrdR_bad HE.out rfl)
        have hsz2 := Lib.hid (int8_size (show z8.length = 8 from rfl))
        go_wp2_with (first
          | (with_reducible refine wpList_build_as rfl 35 rfl _ built_rvec0 ?_)
          | (with_reducible refine wpList_store_row rfl 35 (.tmp 2) (.tmp 18) rfl w.heap.size (i64v z8).toArray rfl rfl 35 _ hz.out (by kernel_rfl) (by kernel_rfl) (all_oneCell_toArray (i64v_one _)) ?_))
        have hk := (But.refl w.heap.size wr).row (i64v z8).toArray
        refine bodyPost_ret (v := .agg (i64v z8).toArray) (results_cell_row Try.results16 _ _ w.heap.size 35 _ (0, 0) _ rfl (setRow_heap _ _ _ _ _ _ hz.out) Try.underlying35 rfl (by kernel_rfl)) rfl ⟨z8, t', true, HV, rfl, rfl, hrd.out.far hk (by omega) hhi, ht', hbt.on hk (Nat.le_refl _)⟩
end Go.Proofs.Ytkenldlhkmocjaa
