/-
  Contract of op's Get. Conditions: the slice is as the row reads it; fewer than 2^46 bytes.
-/
import Derived.Test.YtabgkkdgamacnaaOpMs
import Derived.Test.YtabgkkdgamacnaaOpG
import Derived.Test.YtabgkkdgamacnaaWiTx
import Derived.Test.YtabgkkdgamacnaaVcE
import Derived.Test.YtabgkkdgamacnaaRst
import Derived.Test.YtabgkkdgamacnaaEqB
namespace Go.Proofs.Ytabgkkdgamacnaa
open Go.RowKit

/-- What is answered of bytes: the edit, and whether there is one. -/
def Gets (l : List UInt8) (x : Ed) (o : Bool) : Prop := eget l = (if o = true then some x else none) ∧ (o = false → x = ed0)
theorem gets_yes {l l' : List UInt8} {x : Ed} {b : Bool} (h : ERead (l, false) x (l', b)) (h1 : (!b && decide (l'.length = 0)) = true) (h2 : x.good = true) : Gets l x true := by
  refine ⟨?_, fun e => absurd e (by simp)⟩
  rw [eget, h.eq, egot, if_pos ⟨h1, h2⟩]; rfl
theorem gets_no {l l' : List UInt8} {x : Ed} {b : Bool} (h : ERead (l, false) x (l', b)) (h1 : (!b && decide (l'.length = 0)) = false ∨ x.good = false) : Gets l ed0 false := by
  refine ⟨?_, fun _ => rfl⟩
  rw [eget, h.eq, egot, if_neg (fun hh => by
    rcases h1 with h1 | h1
    · rw [h1] at hh; exact absurd hh.1 (by simp)
    · rw [h1] at hh; exact absurd hh.2 (by simp))]
  rfl
set_option maxRecDepth 100000 in
set_option maxHeartbeats 4000000 in
theorem oget_any (w : World) (A : Option Addr) (l : List UInt8) (n c : Nat) (hA : Byt w w.heap.size A l) (hl : l.length = n) (hn : n ≤ 70368744177664) :
    Calls Try.prog 9 #[.slice A n c] w fun e w' => ∃ x o, Vlt (Gets l x o) ∧ Hid (x.seen.length = 8) ∧ e = .returned (.tuple #[.agg x.cells.toArray, .int .i64 (if o = true then 0 else 3)]) ∧ Below w.heap.size w w' := by
  have hzf := zero_ed
  obtain ⟨W, hW, hgZ, hbW, hsW⟩ := one_new w ed0.cells.toArray 28
  have HW := Lib.hid hW
  have hs : w.heap.size < W.heap.size := by have := hsW.out; omega
  have hrd := read_any W A l n c ((hA.below hbW).up hbW.size) hl hn
  clear hW hsW hA hl hn
  go_enter Try.func9, Try.ntmps9
  go_upto_region 1 with fail
  rw [HW.out]
  clear HW
  go_wp2_with fail
  refine hrd.mono ?_
  rintro e w1 ⟨g, rfl, hr, hb⟩
  have hbw1 := below_next hbW hbW.size hb
  have gZ1 := row_next2 hgZ hb
  have hg1 := hr.1.1
  have hg2 := hr.1.2.1
  have hwg : w.heap.size ≤ g := by omega
  have hneR : w.heap.size ≠ g := by omega
  clear hrd hb hgZ hbW
  go_upto_region 3 with fail
  obtain ⟨V0, hV⟩ : ∃ V, V = w1.alloc (.cells ed0.cells.toArray 28) := ⟨_, rfl⟩
  rw [← hV]
  have gE0 : Hid (V0.heap[w1.heap.size]? = some (.cells ed0.cells.toArray 28 (0, 0))) := by rw [hV]; exact heap_alloc_new _ _
  have hb01 : Below w1.heap.size w1 V0 := by rw [hV]; exact (Below.refl _ _).alloc (Nat.le_refl _) _
  have gR0 := row_next2 gZ1 hb01
  have hr0 := hr.next hb01
  have hb0 := below_next hbw1 hbw1.size hb01
  obtain ⟨E, hE⟩ : ∃ E, E = w1.heap.size := ⟨_, rfl⟩
  have hneE : E ≠ g := by omega
  have hRE : w.heap.size ≠ E := by omega
  have hwE : w.heap.size ≤ E := by omega
  rw [← hE] at gE0 hr0 ⊢
  clear hV hE hr gZ1 hb01 hbw1 hg1 hg2 hs
  have hc := num_rdm V0 W.heap.size E g l false 7 7 rfl hr0
  go_wp2_with fail
  refine hc.mono ?_
  rintro e U ⟨x1, l1, b1, hx1, rfl, hr, hb⟩
  have gE := row_but gE0 hb hneE
  have gR := row_but gR0 hb hneR
  have f0 : U.frozen? ⟨E, 0, none⟩ = false := frozen_of_row _ _ _ _ _ gE.out
  have u0 := ed_dev gE
  have gEn := put_dev gE x1
  have hk : But E U (U.setCell ⟨E, 0, none⟩ (.int .i64 x1)) := (But.refl E U).set (i := 0) (.int .i64 x1)
  have gRn := row_but gR hk hRE
  have hrn := hr.far hk (.inr (Nat.le_refl _))
  have hbm := But.below hb0 hb hwg hb0.size
  have hbn := But.below hbm hk hwE hbm.size
  clear hc gE gR hr hb hk hbm gE0 gR0 hr0 hb0
  go_upto_region 4 with fail
  obtain ⟨V1, hV⟩ : ∃ V, V = U.setCell ⟨E, 0, none⟩ (.int .i64 x1) := ⟨_, rfl⟩
  rw [← hV] at gRn hrn hbn gEn ⊢
  have gE1 := gEn
  have gR1 := gRn
  have hr1 := hrn
  have hb1 := hbn
  clear hV gEn gRn hrn hbn f0 u0
  have hc := num_rdm V1 W.heap.size E g l1 b1 1099511627776 1099511627776 rfl hr1
  go_wp2_with fail
  refine hc.mono ?_
  rintro e U ⟨x2, l2, b2, hx2, rfl, hr, hb⟩
  have gE := row_but gE1 hb hneE
  have gR := row_but gR1 hb hneR
  have f0 : U.frozen? ⟨E, 1, none⟩ = false := frozen_of_row _ _ _ _ _ gE.out
  have u0 := ed_num gE
  have gEn := put_num gE x2
  have hk : But E U (U.setCell ⟨E, 1, none⟩ (.int .i64 x2)) := (But.refl E U).set (i := 1) (.int .i64 x2)
  have gRn := row_but gR hk hRE
  have hrn := hr.far hk (.inr (Nat.le_refl _))
  have hbm := But.below hb1 hb hwg hb1.size
  have hbn := But.below hbm hk hwE hbm.size
  clear hc gE gR hr hb hk hbm gE1 gR1 hr1 hb1
  go_upto_region 5 with fail
  obtain ⟨V2, hV⟩ : ∃ V, V = U.setCell ⟨E, 1, none⟩ (.int .i64 x2) := ⟨_, rfl⟩
  rw [← hV] at gRn hrn hbn gEn ⊢
  have gE2 := gEn
  have gR2 := gRn
  have hr2 := hrn
  have hb2 := hbn
  clear hV gEn gRn hrn hbn f0 u0
  have hc := vget_any V2 W.heap.size E g l2 b2 hr2
  go_wp2_with fail
  refine hc.mono ?_
  rintro e U ⟨x3, l3, b3, hx3, hol, rfl, hr, hb⟩
  have gE := row_but gE2 hb hneE
  have gR := row_but gR2 hb hneR
  have gEn := put_seen gE ed0_len x3 hol.out
  have hk := gEn.2
  have ht := there_seen gE ed0_len x3 hol.out
  have gRn := row_but gR hk hRE
  have hrn := hr.far hk (.inr (Nat.le_refl _))
  have hbm := But.below hb2 hb hwg hb2.size
  have hbn := But.below hbm hk hwE hbm.size
  clear hc gE gR hr hb hk hbm gE2 gR2 hr2 hb2
  go_upto_region 6 with (with_reducible refine wpList_store_mid rfl 26 (.tmp 18) (.tmp 17) rfl E 2 (i64v x3).toArray rfl rfl ht (by rw [List.size_toArray, i64v_len, hol.out]; kernel_rfl) (all_oneCell_toArray (i64v_one _)) ?_)
  obtain ⟨V3, hV⟩ : ∃ V, V = U.setCells E 2 (i64v x3) := ⟨_, rfl⟩
  rw [← hV] at gRn hrn hbn gEn ⊢
  have gE3 := gEn.1
  have gR3 := gRn
  have hr3 := hrn
  have hb3 := hbn
  clear hV gEn gRn hrn hbn ht
  have hc := num_rdm V3 W.heap.size E g l3 b3 2 2 rfl hr3
  go_wp2_with fail
  refine hc.mono ?_
  rintro e U ⟨x4, l4, b4, hx4, rfl, hr, hb⟩
  have gE := row_but gE3 hb hneE
  have gR := row_but gR3 hb hneR
  have f0 : U.frozen? ⟨E, 10, none⟩ = false := frozen_of_row _ _ _ _ _ gE.out
  have u0 := ed_kind gE hol.out
  have gEn := put_kind gE hol.out x4
  have hk : But E U (U.setCell ⟨E, 10, none⟩ (.int .i64 x4)) := (But.refl E U).set (i := 10) (.int .i64 x4)
  have gRn := row_but gR hk hRE
  have hrn := hr.far hk (.inr (Nat.le_refl _))
  have hbm := But.below hb3 hb hwg hb3.size
  have hbn := But.below hbm hk hwE hbm.size
  clear hc gE gR hr hb hk hbm gE3 gR3 hr3 hb3
  go_upto_region 7 with fail
  obtain ⟨V4, hV⟩ : ∃ V, V = U.setCell ⟨E, 10, none⟩ (.int .i64 x4) := ⟨_, rfl⟩
  rw [← hV] at gRn hrn hbn gEn ⊢
  have gE4 := gEn
  have gR4 := gRn
  have hr4 := hrn
  have hb4 := hbn
  clear hV gEn gRn hrn hbn f0 u0
  have hc := num_rdm V4 W.heap.size E g l4 b4 1099511627776 1099511627776 rfl hr4
  go_wp2_with fail
  refine hc.mono ?_
  rintro e U ⟨x5, l5, b5, hx5, rfl, hr, hb⟩
  have gE := row_but gE4 hb hneE
  have gR := row_but gR4 hb hneR
  have f0 : U.frozen? ⟨E, 14, none⟩ = false := frozen_of_row _ _ _ _ _ gE.out
  have u0 := ed_time gE hol.out
  have gEn := put_time gE hol.out x5
  have hk : But E U (U.setCell ⟨E, 14, none⟩ (.int .i64 x5)) := (But.refl E U).set (i := 14) (.int .i64 x5)
  have gRn := row_but gR hk hRE
  have hrn := hr.far hk (.inr (Nat.le_refl _))
  have hbm := But.below hb4 hb hwg hb4.size
  have hbn := But.below hbm hk hwE hbm.size
  clear hc gE gR hr hb hk hbm gE4 gR4 hr4 hb4
  go_upto_region 8 with fail
  obtain ⟨V5, hV⟩ : ∃ V, V = U.setCell ⟨E, 14, none⟩ (.int .i64 x5) := ⟨_, rfl⟩
  rw [← hV] at gRn hrn hbn gEn ⊢
  have gE5 := gEn
  have gR5 := gRn
  have hr5 := hrn
  have hb5 := hbn
  clear hV gEn gRn hrn hbn f0 u0
  have hc := rtext_rdt V5 W.heap.size E g l5 b5 40 40 rfl hr5
  go_wp2_with fail
  refine hc.mono ?_
  rintro e U ⟨x6, l6, b6, hx6, rfl, hr, hb⟩
  have gE := row_but gE5 hb hneE
  have gR := row_but gR5 hb hneR
  have f0 : U.frozen? ⟨E, 11, none⟩ = false := frozen_of_row _ _ _ _ _ gE.out
  have u0 := ed_con gE hol.out
  have gEn := put_con gE hol.out x6
  have hk : But E U (U.setCell ⟨E, 11, none⟩ (.string x6)) := (But.refl E U).set (i := 11) (.string x6)
  have gRn := row_but gR hk hRE
  have hrn := hr.far hk (.inr (Nat.le_refl _))
  have hbm := But.below hb5 hb hwg hb5.size
  have hbn := But.below hbm hk hwE hbm.size
  clear hc gE gR hr hb hk hbm gE5 gR5 hr5 hb5
  go_upto_region 9 with fail
  obtain ⟨V6, hV⟩ : ∃ V, V = U.setCell ⟨E, 11, none⟩ (.string x6) := ⟨_, rfl⟩
  rw [← hV] at gRn hrn hbn gEn ⊢
  have gE6 := gEn
  have gR6 := gRn
  have hr6 := hrn
  have hb6 := hbn
  clear hV gEn gRn hrn hbn f0 u0
  have hc := rtext_rdt V6 W.heap.size E g l6 b6 40 40 rfl hr6
  go_wp2_with fail
  refine hc.mono ?_
  rintro e U ⟨x7, l7, b7, hx7, rfl, hr, hb⟩
  have gE := row_but gE6 hb hneE
  have gR := row_but gR6 hb hneR
  have f0 : U.frozen? ⟨E, 12, none⟩ = false := frozen_of_row _ _ _ _ _ gE.out
  have u0 := ed_fld gE hol.out
  have gEn := put_fld gE hol.out x7
  have hk : But E U (U.setCell ⟨E, 12, none⟩ (.string x7)) := (But.refl E U).set (i := 12) (.string x7)
  have gRn := row_but gR hk hRE
  have hrn := hr.far hk (.inr (Nat.le_refl _))
  have hbm := But.below hb6 hb hwg hb6.size
  have hbn := But.below hbm hk hwE hbm.size
  clear hc gE gR hr hb hk hbm gE6 gR6 hr6 hb6
  go_upto_region 10 with fail
  obtain ⟨V7, hV⟩ : ∃ V, V = U.setCell ⟨E, 12, none⟩ (.string x7) := ⟨_, rfl⟩
  rw [← hV] at gRn hrn hbn gEn ⊢
  have gE7 := gEn
  have gR7 := gRn
  have hr7 := hrn
  have hb7 := hbn
  clear hV gEn gRn hrn hbn f0 u0
  have hc := rtext_rdt V7 W.heap.size E g l7 b7 200 200 rfl hr7
  go_wp2_with fail
  refine hc.mono ?_
  rintro e U ⟨x8, l8, b8, hx8, rfl, hr, hb⟩
  have gE := row_but gE7 hb hneE
  have gR := row_but gR7 hb hneR
  have f0 : U.frozen? ⟨E, 13, none⟩ = false := frozen_of_row _ _ _ _ _ gE.out
  have u0 := ed_val gE hol.out
  have gEn := put_val gE hol.out x8
  have hk : But E U (U.setCell ⟨E, 13, none⟩ (.string x8)) := (But.refl E U).set (i := 13) (.string x8)
  have gRn := row_but gR hk hRE
  have hrn := hr.far hk (.inr (Nat.le_refl _))
  have hbm := But.below hb7 hb hwg hb7.size
  have hbn := But.below hbm hk hwE hbm.size
  clear hc gE gR hr hb hk hbm gE7 gR7 hr7 hb7
  go_upto_region 11 with fail
  obtain ⟨V8, hV⟩ : ∃ V, V = U.setCell ⟨E, 13, none⟩ (.string x8) := ⟨_, rfl⟩
  rw [← hV] at gRn hrn hbn gEn ⊢
  have gE8 := gEn
  have gR8 := gRn
  have hr8 := hrn
  have hb8 := hbn
  clear hV gEn gRn hrn hbn f0 u0
  have HR := vlt (show ERead (l, false) (Ed.mk x1 x2 x3 x4 x6 x7 x8 x5) (l8, b8) from ⟨⟨_, _, _, _, _, _, _, hx1.out, hx2.out, hx3.out, hx4.out, hx5.out, hx6.out, hx7.out, hx8.out⟩⟩)
  obtain ⟨x, hx⟩ : ∃ x, x = Ed.mk x1 x2 x3 x4 x6 x7 x8 x5 := ⟨_, rfl⟩
  have HXL := Lib.hid (show x.seen.length = 8 by rw [hx]; exact hol.out)
  rw [← hx] at gE8 HR
  clear hx hx1 hx2 hx3 hx4 hx5 hx6 hx7 hx8 hol
  have hend := end_any V8 W.heap.size E g l8 b8 hr8
  obtain ⟨o1, ho1⟩ : ∃ o, o = (!b8 && decide (l8.length = 0)) := ⟨_, rfl⟩
  have H1 := vlt ho1
  rw [← ho1] at hend
  clear ho1
  have d1 := fun w => ogood_any w x HXL.out
  obtain ⟨o2, ho2⟩ : ∃ o, o = x.good := ⟨_, rfl⟩
  have H2 := vlt ho2
  simp only [← ho2] at d1
  clear ho2
  go_wp2_with fail
  refine hend.mono ?_
  rintro e U ⟨rfl, rfl⟩
  clear hend hr8
  cases o1
  · clear d1
    have HN := vlt (gets_no HR.out (.inl H1.out.symm))
    go_wp2_with (first | (with_reducible refine wpList_build_as rfl 28 rfl _ built_ed0 ?_) | (with_reducible refine wpList_store_row rfl 28 (.tmp 2) (.tmp 42) rfl w.heap.size ed0.cells.toArray rfl rfl 28 _ gR8.out (by kernel_rfl) (by kernel_rfl) (all_oneCell_toArray (Ed.cells_one _)) ?_))
    refine bodyPost_ret (v := .tuple #[.agg ed0.cells.toArray, .int .i64 3]) (results_row_tmp Try.results9 _ _ w.heap.size 28 _ (0, 0) _ rfl (setRow_heap _ _ _ _ _ _ gR8.out) Try.underlying28 rfl (by kernel_rfl) _ rfl) rfl ⟨ed0, false, HN, ed0_len, rfl, below_setRow hb8 (Nat.le_refl _) _⟩
  · go_wp2_with (with_reducible refine wpList_load_row_w (by kernel_rfl) 28 (.tmp 5) rfl E rfl 28 x.cells.toArray (0, 0) _ gE8.out Try.underlying28 rfl (by rw [Ed.cells_size HXL.out]; kernel_rfl) ?_)
    refine (d1 _).mono ?_
    rintro e U ⟨rfl, hb⟩
    have gE := row_next2 gE8 hb
    have gR := row_next2 gR8 hb
    have hbU := below_next hb8 hb8.size hb
    clear d1 hb gE8 gR8 hb8
    cases o2
    · skip
      have HN := vlt (gets_no HR.out (.inr H2.out.symm))
      go_wp2_with (first | (with_reducible refine wpList_build_as rfl 28 rfl _ built_ed0 ?_) | (with_reducible refine wpList_store_row rfl 28 (.tmp 2) (.tmp 42) rfl w.heap.size ed0.cells.toArray rfl rfl 28 _ gR.out (by kernel_rfl) (by kernel_rfl) (all_oneCell_toArray (Ed.cells_one _)) ?_))
      refine bodyPost_ret (v := .tuple #[.agg ed0.cells.toArray, .int .i64 3]) (results_row_tmp Try.results9 _ _ w.heap.size 28 _ (0, 0) _ rfl (setRow_heap _ _ _ _ _ _ gR.out) Try.underlying28 rfl (by kernel_rfl) _ rfl) rfl ⟨ed0, false, HN, ed0_len, rfl, below_setRow hbU (Nat.le_refl _) _⟩
    · have HY := vlt (gets_yes HR.out H1.out.symm H2.out.symm)
      go_wp2_with (first | (with_reducible refine wpList_load_row rfl 28 (.tmp 5) rfl E rfl 28 x.cells.toArray (0, 0) _ gE.out Try.underlying28 rfl (by rw [Ed.cells_size HXL.out]; kernel_rfl) ?_) | (with_reducible refine wpList_store_row rfl 28 (.tmp 2) (.tmp 43) rfl w.heap.size x.cells.toArray rfl rfl 28 _ gR.out (by rw [Ed.cells_size HXL.out]; kernel_rfl) (by rw [Ed.cells_size HXL.out]; kernel_rfl) (all_oneCell_toArray (Ed.cells_one _)) ?_))
      refine bodyPost_ret (v := .tuple #[.agg x.cells.toArray, .int .i64 0]) (results_row_tmp Try.results9 _ _ w.heap.size 28 _ (0, 0) _ rfl (setRow_heap _ _ _ _ _ _ gR.out) Try.underlying28 rfl (by rw [Ed.cells_size HXL.out]; kernel_rfl) _ rfl) rfl ⟨x, true, HY, HXL, rfl, below_setRow hbU (Nat.le_refl _) _⟩
end Go.Proofs.Ytabgkkdgamacnaa
