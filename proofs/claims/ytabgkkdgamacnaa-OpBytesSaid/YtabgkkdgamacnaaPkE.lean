/-
  Words and contracts that other texts share, several in one text. No statement of the seat is proved here. Conditions: as each contract says.
  Contract of the document's own GetEdit. Conditions: the slice is as the row reads it; at most 2^40 bytes.
  Contract of law 16's ed: an edit as the document's own. Conditions: a vector of eight numbers.
  Contract of the document's own answer for chapter 11: Num. Conditions: fewer than 2^45 bytes.
  Contract of the document's own answer for chapter 11: Num, of numbers below nought too. Conditions: fewer than 2^45 bytes.
  Contract of the document's own answer for chapter 15: PutVec. Conditions: arrays of eight numbers of 64 bits; fewer than 2^44 bytes ahead.
  A text turned into bytes: new memory. No statement is proved here. Conditions: none.
  Contracts of wire.Bytes and Text: what was there, and what is written behind it. Conditions: fewer than 2^45 bytes.
  Contracts of the document's own answer for chapter 11: Num, Bytes, Word. Conditions: fewer than 2^45 bytes.
  Contract of op's Put. Conditions: a vector of eight numbers.
  Contract of the document's own PutEdit. Conditions: a vector of eight numbers; texts of at most 2^47 bytes.
  Contracts of op's Over and Less. Conditions: vectors of eight numbers.
  Contracts of the document's own Over and Less. Conditions: vectors of eight numbers.
  Two edits of the document's own held equal. No statement is proved here. Conditions: none.
  Contracts of law 16's long and awake. Conditions: vectors of eight numbers.
-/
import Derived.Test.YtabgkkdgamacnaaPkB
import Derived.Test.YtabgkkdgamacnaaPkC
import Derived.Test.YtabgkkdgamacnaaRf16G
import Derived.Test.YtabgkkdgamacnaaPkA
import Derived.Lib.ConvBytes
namespace Go.Proofs.Ytabgkkdgamacnaa
open Go.RowKit

theorem zero_red (w : World) : (zeroValue 38).run Try.prog w = .ok (.agg ed0.cells.toArray) w := by kernel_rfl
theorem built_red0 : Try.prog.built 38 [] = some ed0.cells.toArray := by kernel_rfl
theorem gets_yesR {l : List UInt8} {t : Nat} {x : Ed} {b : Bool} (h : ereadR l (0, false) = (x, t, b)) (h1 : (!b && decide (t = l.length)) = true) (h2 : x.good = true) : Gets l x true := by
  refine ⟨?_, fun e => absurd e (by simp)⟩
  rw [← egotR_eq h, egotR, if_pos ⟨h1, h2⟩]; rfl
theorem gets_noR {l : List UInt8} {t : Nat} {x : Ed} {b : Bool} (h : ereadR l (0, false) = (x, t, b)) (h1 : (!b && decide (t = l.length)) = false ∨ x.good = false) : Gets l ed0 false := by
  refine ⟨?_, fun _ => rfl⟩
  rw [← egotR_eq h, egotR, if_neg (fun hh => by
    rcases h1 with h1 | h1
    · rw [h1] at hh; exact absurd hh.1 (by simp)
    · rw [h1] at hh; exact absurd hh.2 (by simp))]
  rfl
theorem rdtR_size {B : List UInt8} {m : Nat} {s t : Nat × Bool} {x : ByteArray} (h : rdtR B m s = (x, t)) : x.size ≤ B.length := by
  rw [rdtR] at h
  split at h
  · simp only [Prod.mk.injEq] at h
    rw [← h.1]; exact Nat.zero_le _
  · simp only [Prod.mk.injEq] at h
    rw [← h.1]
    show (List.toArray _).size ≤ _
    rw [List.size_toArray, List.length_take, List.length_drop]; omega
theorem rrnum_at (mx : Nat) (M : Int) (hM : M = (mx : Int)) (w : World) (z g : Nat) (A : Option Addr) (n c : Nat) (B : List UInt8) (t : Nat) (bad : Bool) (hr : RrIs w z g A n c B t bad) (hl : B.length = n) (ht : t ≤ n) (hn : n ≤ 1099511627776) :
    Calls Try.prog 33 #[.pointer (some ⟨g, 0, none⟩), .int .i64 M] w fun e w' => ∃ x t' b', Vlt (rd1R B mx (t, bad) = (x, t', b')) ∧ e = .returned (.int .i64 x) ∧ RrIs w' z g A n c B t' b' ∧ t' ≤ n ∧ But g w w' := by
  subst hM; exact rrnum_of mx w z g A n c B t bad hr hl ht hn
theorem rrbytes_at (mx : Nat) (M : Int) (hM : M = (mx : Int)) (w : World) (z g : Nat) (A : Option Addr) (n c : Nat) (B : List UInt8) (t : Nat) (bad : Bool) (hr : RrIs w z g A n c B t bad) (hl : B.length = n) (hc : n ≤ c) (ht : t ≤ n) (hn : n ≤ 1099511627776) :
    Calls Try.prog 35 #[.pointer (some ⟨g, 0, none⟩), .int .i64 M] w fun e w' => ∃ x t' b' A' m' c', Vlt (rdtR B mx (t, bad) = (x, t', b')) ∧ e = .returned (.slice A' m' c') ∧ Byt w' w'.heap.size A' x.data.toList ∧ Hid (x.data.toList.length = m') ∧ RrIs w' z g A n c B t' b' ∧ t' ≤ n ∧ But g w w' := by
  subst hM; exact rrbytes_any mx w z g A n c B t bad hr hl hc ht hn
theorem rrend_b (w : World) (z g : Nat) (A : Option Addr) (n c : Nat) (B : List UInt8) (t : Nat) (bad : Bool) (hr : RrIs w z g A n c B t bad) :
    Calls Try.prog 36 #[.pointer (some ⟨g, 0, none⟩)] w fun e w' => e = .returned (.bool (!bad && decide (t = n))) ∧ Below w.heap.size w w' := by
  refine (rrend_any w z g A n c B t bad hr).mono ?_
  rintro e w' ⟨rfl, k, rfl⟩
  exact ⟨rfl, Below.toN (Below.refl _ _) k⟩
set_option maxRecDepth 100000 in
set_option maxHeartbeats 4000000 in
theorem rget_any (w : World) (A : Option Addr) (l : List UInt8) (n c : Nat) (hA : Byt w w.heap.size A l) (hl : l.length = n) (hc : n ≤ c) (hn : n ≤ 1099511627776) :
    Calls Try.prog 14 #[.slice A n c] w fun e w' => ∃ x o, Vlt (Gets l x o) ∧ Hid (x.seen.length = 8) ∧ e = .returned (.tuple #[.agg x.cells.toArray, .bool o]) ∧ Below w.heap.size w w' := by
  have hzf := zero_red
  have HL := Lib.hid hl
  obtain ⟨W, hW, hgZ, hbW, hsW⟩ := one_new w ed0.cells.toArray 38
  have HW := Lib.hid hW
  have hs : w.heap.size < W.heap.size := by have := hsW.out; omega
  clear hW hsW hl
  go_enter Try.func14, Try.ntmps14
  go_upto_region 1 with fail
  rw [HW.out]
  clear HW
  go_upto_region 2 with fail
  obtain ⟨w1, hV⟩ : ∃ V, V = W.alloc (.cells #[.slice A n c, .int .i64 0, .bool false] 61) := ⟨_, rfl⟩
  rw [← hV]
  have gh : Hid (w1.heap[W.heap.size]? = some (.cells #[.slice A n c, .int .i64 0, .bool false] 61 (0, 0))) := by rw [hV]; exact heap_alloc_new _ _
  have hbW1 : Below W.heap.size W w1 := by rw [hV]; exact (Below.refl _ _).alloc (Nat.le_refl _) _
  have gZ1 := row_next2 hgZ hbW1
  have hbw1 := below_next hbW hbW.size hbW1
  have hsz : W.heap.size < w1.heap.size := row_size gh
  obtain ⟨g, hg⟩ : ∃ g, g = W.heap.size := ⟨_, rfl⟩
  rw [← hg] at gh hsz ⊢
  have hneR : w.heap.size ≠ g := by omega
  have hwg : w.heap.size ≤ g := by omega
  clear hV hbW1 hgZ hbW hg hs
  have hr1 : RrIs w1 w.heap.size g A n c l 0 false := by
    refine ⟨⟨hsz, hbw1.size⟩, gh.out, ?_⟩
    rcases hA with h0 | ⟨bk, o, hA1, hlt, hcell⟩
    · exact .inl h0
    · exact .inr ⟨bk, o, hA1, by omega, Nat.zero_le _, hlt, fun j x hj => (hbw1.cell (p := ⟨bk, o + j, none⟩) hlt).trans (hcell j x hj)⟩
  clear gh hA
  go_upto_region 3 with (first | (with_reducible refine wpList_build_as rfl 38 rfl _ built_red0 ?_) | ((with_reducible refine wpList_store_row rfl 38 (.tmp 5) (.tmp 9) rfl w1.heap.size ed0.cells.toArray rfl (by kernel_rfl) 38 _ (heap_alloc_new _ _) (by kernel_rfl) (by kernel_rfl) (all_oneCell_toArray (Ed.cells_one _)) ?_); rw [World.setRow_alloc_new]))
  obtain ⟨V0, hV⟩ : ∃ V, V = w1.alloc (.cells ed0.cells.toArray 38) := ⟨_, rfl⟩
  rw [← hV]
  have gE0 : Hid (V0.heap[w1.heap.size]? = some (.cells ed0.cells.toArray 38 (0, 0))) := by rw [hV]; exact heap_alloc_new _ _
  have hb01 : Below w1.heap.size w1 V0 := by rw [hV]; exact (Below.refl _ _).alloc (Nat.le_refl _) _
  have gR0 := row_next2 gZ1 hb01
  have hr0 := hr1.next hb01
  have hb0 := below_next hbw1 hbw1.size hb01
  obtain ⟨E, hE⟩ : ∃ E, E = w1.heap.size := ⟨_, rfl⟩
  have hneE : E ≠ g := by omega
  have hRE : w.heap.size ≠ E := by omega
  have hwE : w.heap.size ≤ E := by omega
  rw [← hE] at gE0 ⊢
  have ht0 : 0 ≤ n := Nat.zero_le _
  clear hV hE hr1 gZ1 hb01 hbw1 hsz
  have hcl := rrnum_at 7 7 rfl V0 w.heap.size g A n c l 0 false hr0 HL.out ht0 hn
  go_wp2_with fail
  refine hcl.mono ?_
  rintro e U ⟨x1, t1, b1, hx1, rfl, hr, ht1, hb⟩
  have gE := row_but gE0 hb hneE
  have gR := row_but gR0 hb hneR
  have f0 : U.frozen? ⟨E, 0, none⟩ = false := frozen_of_row _ _ _ _ _ gE.out
  have u0 := ed_dev gE
  have gEn := put_dev gE x1
  have hk : But E U (U.setCell ⟨E, 0, none⟩ (.int .i64 x1)) := (But.refl E U).set (i := 0) (.int .i64 x1)
  have gRn := row_but gR hk hRE
  have hrn := hr.far hk hneE hwE
  have hbm := But.below hb0 hb hwg hb0.size
  have hbn := But.below hbm hk hwE hbm.size
  clear hcl gE gR hr hb hk hbm gE0 gR0 hr0 hb0 ht0
  go_upto_region 4 with fail
  obtain ⟨V1, hV⟩ : ∃ V, V = U.setCell ⟨E, 0, none⟩ (.int .i64 x1) := ⟨_, rfl⟩
  rw [← hV] at gRn hrn hbn gEn ⊢
  have gE1 := gEn
  have gR1 := gRn
  have hr1 := hrn
  have hb1 := hbn
  clear hV gEn gRn hrn hbn f0 u0
  have hcl := rrnum_at 1099511627776 1099511627776 rfl V1 w.heap.size g A n c l t1 b1 hr1 HL.out ht1 hn
  go_wp2_with fail
  refine hcl.mono ?_
  rintro e U ⟨x2, t2, b2, hx2, rfl, hr, ht2, hb⟩
  have gE := row_but gE1 hb hneE
  have gR := row_but gR1 hb hneR
  have f0 : U.frozen? ⟨E, 1, none⟩ = false := frozen_of_row _ _ _ _ _ gE.out
  have u0 := ed_num gE
  have gEn := put_num gE x2
  have hk : But E U (U.setCell ⟨E, 1, none⟩ (.int .i64 x2)) := (But.refl E U).set (i := 1) (.int .i64 x2)
  have gRn := row_but gR hk hRE
  have hrn := hr.far hk hneE hwE
  have hbm := But.below hb1 hb hwg hb1.size
  have hbn := But.below hbm hk hwE hbm.size
  clear hcl gE gR hr hb hk hbm gE1 gR1 hr1 hb1 ht1
  go_upto_region 5 with fail
  obtain ⟨V2, hV⟩ : ∃ V, V = U.setCell ⟨E, 1, none⟩ (.int .i64 x2) := ⟨_, rfl⟩
  rw [← hV] at gRn hrn hbn gEn ⊢
  have gE2 := gEn
  have gR2 := gRn
  have hr2 := hrn
  have hb2 := hbn
  clear hV gEn gRn hrn hbn f0 u0
  have hcl := rvget_any V2 w.heap.size g A n c l t2 b2 hr2 HL.out ht2 hn
  go_wp2_with fail
  refine hcl.mono ?_
  rintro e U ⟨x3, t3, b3, hx3, hol, rfl, hr, ht3, hb⟩
  have gE := row_but gE2 hb hneE
  have gR := row_but gR2 hb hneR
  have gEn := put_seen gE ed0_len x3 hol.out
  have hk := gEn.2
  have ht := there_seen gE ed0_len x3 hol.out
  have gRn := row_but gR hk hRE
  have hrn := hr.far hk hneE hwE
  have hbm := But.below hb2 hb hwg hb2.size
  have hbn := But.below hbm hk hwE hbm.size
  clear hcl gE gR hr hb hk hbm gE2 gR2 hr2 hb2 ht2
  go_upto_region 6 with (with_reducible refine wpList_store_mid rfl 36 (.tmp 20) (.tmp 19) rfl E 2 (i64v x3).toArray rfl rfl ht (by rw [List.size_toArray, i64v_len, hol.out]; kernel_rfl) (all_oneCell_toArray (i64v_one _)) ?_)
  obtain ⟨V3, hV⟩ : ∃ V, V = U.setCells E 2 (i64v x3) := ⟨_, rfl⟩
  rw [← hV] at gRn hrn hbn gEn ⊢
  have gE3 := gEn.1
  have gR3 := gRn
  have hr3 := hrn
  have hb3 := hbn
  clear hV gEn gRn hrn hbn ht
  have hcl := rrnum_at 2 2 rfl V3 w.heap.size g A n c l t3 b3 hr3 HL.out ht3 hn
  go_wp2_with fail
  refine hcl.mono ?_
  rintro e U ⟨x4, t4, b4, hx4, rfl, hr, ht4, hb⟩
  have gE := row_but gE3 hb hneE
  have gR := row_but gR3 hb hneR
  have f0 : U.frozen? ⟨E, 10, none⟩ = false := frozen_of_row _ _ _ _ _ gE.out
  have u0 := ed_kind gE hol.out
  have gEn := put_kind gE hol.out x4
  have hk : But E U (U.setCell ⟨E, 10, none⟩ (.int .i64 x4)) := (But.refl E U).set (i := 10) (.int .i64 x4)
  have gRn := row_but gR hk hRE
  have hrn := hr.far hk hneE hwE
  have hbm := But.below hb3 hb hwg hb3.size
  have hbn := But.below hbm hk hwE hbm.size
  clear hcl gE gR hr hb hk hbm gE3 gR3 hr3 hb3 ht3
  go_upto_region 7 with fail
  obtain ⟨V4, hV⟩ : ∃ V, V = U.setCell ⟨E, 10, none⟩ (.int .i64 x4) := ⟨_, rfl⟩
  rw [← hV] at gRn hrn hbn gEn ⊢
  have gE4 := gEn
  have gR4 := gRn
  have hr4 := hrn
  have hb4 := hbn
  clear hV gEn gRn hrn hbn f0 u0
  have hcl := rrnum_at 1099511627776 1099511627776 rfl V4 w.heap.size g A n c l t4 b4 hr4 HL.out ht4 hn
  go_wp2_with fail
  refine hcl.mono ?_
  rintro e U ⟨x5, t5, b5, hx5, rfl, hr, ht5, hb⟩
  have gE := row_but gE4 hb hneE
  have gR := row_but gR4 hb hneR
  have f0 : U.frozen? ⟨E, 14, none⟩ = false := frozen_of_row _ _ _ _ _ gE.out
  have u0 := ed_time gE hol.out
  have gEn := put_time gE hol.out x5
  have hk : But E U (U.setCell ⟨E, 14, none⟩ (.int .i64 x5)) := (But.refl E U).set (i := 14) (.int .i64 x5)
  have gRn := row_but gR hk hRE
  have hrn := hr.far hk hneE hwE
  have hbm := But.below hb4 hb hwg hb4.size
  have hbn := But.below hbm hk hwE hbm.size
  clear hcl gE gR hr hb hk hbm gE4 gR4 hr4 hb4 ht4
  go_upto_region 8 with fail
  obtain ⟨V5, hV⟩ : ∃ V, V = U.setCell ⟨E, 14, none⟩ (.int .i64 x5) := ⟨_, rfl⟩
  rw [← hV] at gRn hrn hbn gEn ⊢
  have gE5 := gEn
  have gR5 := gRn
  have hr5 := hrn
  have hb5 := hbn
  clear hV gEn gRn hrn hbn f0 u0
  have hcl := rrbytes_at 40 40 rfl V5 w.heap.size g A n c l t5 b5 hr5 HL.out hc ht5 hn
  go_wp2_with fail
  refine hcl.mono ?_
  rintro e U ⟨x6, t6, b6, Ax, mx, cx, hx6, rfl, hby, hlx, hr, ht6, hb⟩
  have hcv := conv_as (s := x6) rfl mx cx hby hlx.out
  have gE := row_but gE5 hb hneE
  have gR := row_but gR5 hb hneR
  have f0 : U.frozen? ⟨E, 11, none⟩ = false := frozen_of_row _ _ _ _ _ gE.out
  have u0 := ed_con gE hol.out
  have gEn := put_con gE hol.out x6
  have hk : But E U (U.setCell ⟨E, 11, none⟩ (.string x6)) := (But.refl E U).set (i := 11) (.string x6)
  have gRn := row_but gR hk hRE
  have hrn := hr.far hk hneE hwE
  have hbm := But.below hb5 hb hwg hb5.size
  have hbn := But.below hbm hk hwE hbm.size
  clear hcl gE gR hr hb hk hbm gE5 gR5 hr5 hb5 ht5
  go_upto_region 9 with fail
  obtain ⟨V6, hV⟩ : ∃ V, V = U.setCell ⟨E, 11, none⟩ (.string x6) := ⟨_, rfl⟩
  rw [← hV] at gRn hrn hbn gEn ⊢
  have gE6 := gEn
  have gR6 := gRn
  have hr6 := hrn
  have hb6 := hbn
  clear hV gEn gRn hrn hbn f0 u0 hcv hby hlx
  have hcl := rrbytes_at 40 40 rfl V6 w.heap.size g A n c l t6 b6 hr6 HL.out hc ht6 hn
  go_wp2_with fail
  refine hcl.mono ?_
  rintro e U ⟨x7, t7, b7, Ax, mx, cx, hx7, rfl, hby, hlx, hr, ht7, hb⟩
  have hcv := conv_as (s := x7) rfl mx cx hby hlx.out
  have gE := row_but gE6 hb hneE
  have gR := row_but gR6 hb hneR
  have f0 : U.frozen? ⟨E, 12, none⟩ = false := frozen_of_row _ _ _ _ _ gE.out
  have u0 := ed_fld gE hol.out
  have gEn := put_fld gE hol.out x7
  have hk : But E U (U.setCell ⟨E, 12, none⟩ (.string x7)) := (But.refl E U).set (i := 12) (.string x7)
  have gRn := row_but gR hk hRE
  have hrn := hr.far hk hneE hwE
  have hbm := But.below hb6 hb hwg hb6.size
  have hbn := But.below hbm hk hwE hbm.size
  clear hcl gE gR hr hb hk hbm gE6 gR6 hr6 hb6 ht6
  go_upto_region 10 with fail
  obtain ⟨V7, hV⟩ : ∃ V, V = U.setCell ⟨E, 12, none⟩ (.string x7) := ⟨_, rfl⟩
  rw [← hV] at gRn hrn hbn gEn ⊢
  have gE7 := gEn
  have gR7 := gRn
  have hr7 := hrn
  have hb7 := hbn
  clear hV gEn gRn hrn hbn f0 u0 hcv hby hlx
  have hcl := rrbytes_at 200 200 rfl V7 w.heap.size g A n c l t7 b7 hr7 HL.out hc ht7 hn
  go_wp2_with fail
  refine hcl.mono ?_
  rintro e U ⟨x8, t8, b8, Ax, mx, cx, hx8, rfl, hby, hlx, hr, ht8, hb⟩
  have hcv := conv_as (s := x8) rfl mx cx hby hlx.out
  have gE := row_but gE7 hb hneE
  have gR := row_but gR7 hb hneR
  have f0 : U.frozen? ⟨E, 13, none⟩ = false := frozen_of_row _ _ _ _ _ gE.out
  have u0 := ed_val gE hol.out
  have gEn := put_val gE hol.out x8
  have hk : But E U (U.setCell ⟨E, 13, none⟩ (.string x8)) := (But.refl E U).set (i := 13) (.string x8)
  have gRn := row_but gR hk hRE
  have hrn := hr.far hk hneE hwE
  have hbm := But.below hb7 hb hwg hb7.size
  have hbn := But.below hbm hk hwE hbm.size
  clear hcl gE gR hr hb hk hbm gE7 gR7 hr7 hb7 ht7
  go_upto_region 11 with fail
  obtain ⟨V8, hV⟩ : ∃ V, V = U.setCell ⟨E, 13, none⟩ (.string x8) := ⟨_, rfl⟩
  rw [← hV] at gRn hrn hbn gEn ⊢
  have gE8 := gEn
  have gR8 := gRn
  have hr8 := hrn
  have hb8 := hbn
  clear hV gEn gRn hrn hbn f0 u0 hcv hby hlx
  have HR := vlt (ereadR_eq (e := Ed.mk x1 x2 x3 x4 x6 x7 x8 x5) hx1.out hx2.out hx3.out hx4.out hx5.out hx6.out hx7.out hx8.out)
  have z1 : x6.size ≤ 140737488355328 := by have := rdtR_size hx6.out; rw [HL.out] at this; omega
  have z2 : x7.size ≤ 140737488355328 := by have := rdtR_size hx7.out; rw [HL.out] at this; omega
  obtain ⟨x, hx⟩ : ∃ x, x = Ed.mk x1 x2 x3 x4 x6 x7 x8 x5 := ⟨_, rfl⟩
  have HXL := Lib.hid (show x.seen.length = 8 by rw [hx]; exact hol.out)
  have d1 := fun w => rgood_any w x HXL.out (by rw [hx]; exact z1) (by rw [hx]; exact z2)
  rw [← hx] at gE8 HR
  clear hx hx1 hx2 hx3 hx4 hx5 hx6 hx7 hx8 hol z1 z2
  have hend := rrend_b V8 w.heap.size g A n c l t8 b8 hr8
  obtain ⟨o1, ho1⟩ : ∃ o, o = (!b8 && decide (t8 = n)) := ⟨_, rfl⟩
  have H1 := vlt (show o1 = (!b8 && decide (t8 = l.length)) by rw [HL.out]; exact ho1)
  rw [← ho1] at hend
  clear ho1
  obtain ⟨o2, ho2⟩ : ∃ o, o = x.good := ⟨_, rfl⟩
  have H2 := vlt ho2
  simp only [← ho2] at d1
  clear ho2
  go_wp2_with fail
  refine hend.mono ?_
  rintro e U0 ⟨rfl, hbe⟩
  have gE9 := row_next2 gE8 hbe
  have gR9 := row_next2 gR8 hbe
  have hb9 := below_next hb8 hb8.size hbe
  clear hend hr8 gE8 gR8 hb8 hbe
  cases o1
  · clear d1
    have HN := vlt (gets_noR HR.out (.inl H1.out.symm))
    go_wp2_with (first | (with_reducible refine wpList_build_as rfl 38 rfl _ built_red0 ?_) | (with_reducible refine wpList_store_row rfl 38 (.tmp 2) (.tmp 47) rfl w.heap.size ed0.cells.toArray rfl rfl 38 _ gR9.out (by kernel_rfl) (by kernel_rfl) (all_oneCell_toArray (Ed.cells_one _)) ?_))
    refine bodyPost_ret (v := .tuple #[.agg ed0.cells.toArray, .bool false]) (results_row_tmp Try.results14 _ _ w.heap.size 38 _ (0, 0) _ rfl (setRow_heap _ _ _ _ _ _ gR9.out) Try.underlying38 rfl (by kernel_rfl) _ rfl) rfl ⟨ed0, false, HN, ed0_len, rfl, below_setRow hb9 (Nat.le_refl _) _⟩
  · go_wp2_with (with_reducible refine wpList_load_row_w (by kernel_rfl) 38 (.tmp 5) rfl E rfl 38 x.cells.toArray (0, 0) _ gE9.out Try.underlying38 rfl (by rw [Ed.cells_size HXL.out]; kernel_rfl) ?_)
    refine (d1 _).mono ?_
    rintro e U ⟨rfl, hb⟩
    have gE := row_next2 gE9 hb
    have gR := row_next2 gR9 hb
    have hbU := below_next hb9 hb9.size hb
    clear d1 hb gE9 gR9 hb9
    cases o2
    · skip
      have HN := vlt (gets_noR HR.out (.inr H2.out.symm))
      go_wp2_with (first | (with_reducible refine wpList_build_as rfl 38 rfl _ built_red0 ?_) | (with_reducible refine wpList_store_row rfl 38 (.tmp 2) (.tmp 47) rfl w.heap.size ed0.cells.toArray rfl rfl 38 _ gR.out (by kernel_rfl) (by kernel_rfl) (all_oneCell_toArray (Ed.cells_one _)) ?_))
      refine bodyPost_ret (v := .tuple #[.agg ed0.cells.toArray, .bool false]) (results_row_tmp Try.results14 _ _ w.heap.size 38 _ (0, 0) _ rfl (setRow_heap _ _ _ _ _ _ gR.out) Try.underlying38 rfl (by kernel_rfl) _ rfl) rfl ⟨ed0, false, HN, ed0_len, rfl, below_setRow hbU (Nat.le_refl _) _⟩
    · have HY := vlt (gets_yesR HR.out H1.out.symm H2.out.symm)
      go_wp2_with (first | (with_reducible refine wpList_load_row rfl 38 (.tmp 5) rfl E rfl 38 x.cells.toArray (0, 0) _ gE.out Try.underlying38 rfl (by rw [Ed.cells_size HXL.out]; kernel_rfl) ?_) | (with_reducible refine wpList_store_row rfl 38 (.tmp 2) (.tmp 48) rfl w.heap.size x.cells.toArray rfl rfl 38 _ gR.out (by rw [Ed.cells_size HXL.out]; kernel_rfl) (by rw [Ed.cells_size HXL.out]; kernel_rfl) (all_oneCell_toArray (Ed.cells_one _)) ?_))
      refine bodyPost_ret (v := .tuple #[.agg x.cells.toArray, .bool true]) (results_row_tmp Try.results14 _ _ w.heap.size 38 _ (0, 0) _ rfl (setRow_heap _ _ _ _ _ _ gR.out) Try.underlying38 rfl (by rw [Ed.cells_size HXL.out]; kernel_rfl) _ rfl) rfl ⟨x, true, HY, HXL, rfl, below_setRow hbU (Nat.le_refl _) _⟩
end Go.Proofs.Ytabgkkdgamacnaa
namespace Go.Proofs.Ytabgkkdgamacnaa
open Go.RowKit

theorem built_red8 (d n k t s0 s1 s2 s3 s4 s5 s6 s7 : Int) (c f v : ByteArray) :
    Try.prog.built 38 [(0, .agg [Value.int .i64 d, .int .i64 n].toArray), (1, .agg (i64v [s0, s1, s2, s3, s4, s5, s6, s7]).toArray), (2, .int .i64 k), (3, .string c), (4, .string f), (5, .string v), (6, .int .i64 t)] = some (Ed.mk d n [s0, s1, s2, s3, s4, s5, s6, s7] k c f v t).cells.toArray := by kernel_rfl
theorem built_red (a : Ed) (ha : a.seen.length = 8) :
    Try.prog.built 38 [(0, .agg [Value.int .i64 a.dev, .int .i64 a.num].toArray), (1, .agg (i64v a.seen).toArray), (2, .int .i64 a.kind), (3, .string a.con), (4, .string a.fld), (5, .string a.val), (6, .int .i64 a.time)] = some a.cells.toArray := by
  obtain ⟨d, n, s, k, c, f, v, t⟩ := a
  match s, ha with
  | [s0, s1, s2, s3, s4, s5, s6, s7], _ =>
    dsimp only
    exact built_red8 d n k t s0 s1 s2 s3 s4 s5 s6 s7 c f v
set_option maxRecDepth 100000 in
set_option maxHeartbeats 1000000 in
theorem oed_any (w : World) (a : Ed) (ha : a.seen.length = 8) :
    Calls Try.prog 16 #[.agg a.cells.toArray] w fun e w' => e = .returned (.agg a.cells.toArray) ∧ Below w.heap.size w w' := by
  have hzf := zero_red
  obtain ⟨W, hW, hgA, hgR, hbW, hsW⟩ := pair_new w a.cells.toArray ed0.cells.toArray 28 38
  have HW := Lib.hid hW
  have HA := Lib.hid ha
  have c2 := ed_kind hgA ha
  have c3 := ed_con hgA ha
  have c4 := ed_fld hgA ha
  have c5 := ed_val hgA ha
  have c6 := ed_time hgA ha
  have hbd := vlt (built_red a ha)
  clear hW ha hsW
  go_enter Try.func16, Try.ntmps16
  go_upto_region 1 with fail
  rw [HW.out]
  clear HW
  refine plain_start (S := fun W' => But (w.heap.size + 1) W W') (by kernel_rfl) (But.refl _ _) (fun hHeld => ?_)
  refine wpAnyH_take (i := 0) (oi := ⟨(some 3), _, _, _, _, _⟩) (v := .pointer (some ⟨w.heap.size, 0, none⟩)) rfl (by kernel_rfl) (by kernel_rfl) (by kernel_rfl) (fun _ _ _ h => h) (Or.inl ⟨by rfl, ?yr1_0⟩) hHeld ?_
  case yr1_0 => (intro W0 hSw; go_simp; try with_reducible rfl)
  try simp only [pu]
  refine wpAnyH_take (i := 1) (oi := ⟨(some 4), _, _, _, _, _⟩) (v := .agg [.int .i64 a.dev, .int .i64 a.num].toArray) rfl (by kernel_rfl) (by kernel_rfl) (by kernel_rfl) (fun _ _ _ h => h) (yieldsIf_load_mid (by rfl) _ _ rfl (w.heap.size) 0 rfl [.int .i64 a.dev, .int .i64 a.num] _ (fun W' hW' => ed_dotR (row_but hgA hW' (by omega))) (Try.underlying24) rfl (by kernel_rfl)) hHeld ?_
  try simp only [pu]
  refine wpAnyH_take (i := 2) (oi := ⟨(some 5), _, _, _, _, _⟩) (v := .pointer (some ⟨w.heap.size, 2, none⟩)) rfl (by kernel_rfl) (by kernel_rfl) (by kernel_rfl) (fun _ _ _ h => h) (Or.inl ⟨by rfl, ?yr1_2⟩) hHeld ?_
  case yr1_2 => (intro W0 hSw; go_simp; try with_reducible rfl)
  try simp only [pu]
  refine wpAnyH_take (i := 3) (oi := ⟨(some 6), _, _, _, _, _⟩) (v := .agg (i64v a.seen).toArray) rfl (by kernel_rfl) (by kernel_rfl) (by kernel_rfl) (fun _ _ _ h => h) (yieldsIf_load_mid (by rfl) _ _ rfl (w.heap.size) 2 rfl (i64v a.seen) _ (fun W' hW' => ed_seenR (row_but hgA hW' (by omega))) (Try.underlying26) rfl (by rw [i64v_len, HA.out]; kernel_rfl)) hHeld ?_
  try simp only [pu]
  refine wpAnyH_take (i := 4) (oi := ⟨(some 7), _, _, _, _, _⟩) (v := .pointer (some ⟨w.heap.size, 10, none⟩)) rfl (by kernel_rfl) (by kernel_rfl) (by kernel_rfl) (fun _ _ _ h => h) (Or.inl ⟨by rfl, ?yr1_4⟩) hHeld ?_
  case yr1_4 => (intro W0 hSw; go_simp; try with_reducible rfl)
  try simp only [pu]
  refine wpAnyH_take (i := 5) (oi := ⟨(some 8), _, _, _, _, _⟩) (v := .int .i64 a.kind) rfl (by kernel_rfl) (by kernel_rfl) (by kernel_rfl) (fun _ _ _ h => h) (Or.inl ⟨by rfl, ?yr1_5⟩) hHeld ?_
  case yr1_5 => (intro W0 hSw; have cc := ed_kind (row_but hgA hSw (by omega)) HA.out; go_simp; try with_reducible rfl)
  try simp only [pu]
  refine wpAnyH_take (i := 6) (oi := ⟨(some 9), _, _, _, _, _⟩) (v := .pointer (some ⟨w.heap.size, 11, none⟩)) rfl (by kernel_rfl) (by kernel_rfl) (by kernel_rfl) (fun _ _ _ h => h) (Or.inl ⟨by rfl, ?yr1_6⟩) hHeld ?_
  case yr1_6 => (intro W0 hSw; go_simp; try with_reducible rfl)
  try simp only [pu]
  refine wpAnyH_take (i := 7) (oi := ⟨(some 10), _, _, _, _, _⟩) (v := .string a.con) rfl (by kernel_rfl) (by kernel_rfl) (by kernel_rfl) (fun _ _ _ h => h) (Or.inl ⟨by rfl, ?yr1_7⟩) hHeld ?_
  case yr1_7 => (intro W0 hSw; have cc := ed_con (row_but hgA hSw (by omega)) HA.out; go_simp; try with_reducible rfl)
  try simp only [pu]
  refine wpAnyH_take (i := 8) (oi := ⟨(some 11), _, _, _, _, _⟩) (v := .pointer (some ⟨w.heap.size, 12, none⟩)) rfl (by kernel_rfl) (by kernel_rfl) (by kernel_rfl) (fun _ _ _ h => h) (Or.inl ⟨by rfl, ?yr1_8⟩) hHeld ?_
  case yr1_8 => (intro W0 hSw; go_simp; try with_reducible rfl)
  try simp only [pu]
  refine wpAnyH_take (i := 9) (oi := ⟨(some 12), _, _, _, _, _⟩) (v := .string a.fld) rfl (by kernel_rfl) (by kernel_rfl) (by kernel_rfl) (fun _ _ _ h => h) (Or.inl ⟨by rfl, ?yr1_9⟩) hHeld ?_
  case yr1_9 => (intro W0 hSw; have cc := ed_fld (row_but hgA hSw (by omega)) HA.out; go_simp; try with_reducible rfl)
  try simp only [pu]
  refine wpAnyH_take (i := 10) (oi := ⟨(some 13), _, _, _, _, _⟩) (v := .pointer (some ⟨w.heap.size, 13, none⟩)) rfl (by kernel_rfl) (by kernel_rfl) (by kernel_rfl) (fun _ _ _ h => h) (Or.inl ⟨by rfl, ?yr1_10⟩) hHeld ?_
  case yr1_10 => (intro W0 hSw; go_simp; try with_reducible rfl)
  try simp only [pu]
  refine wpAnyH_take (i := 11) (oi := ⟨(some 14), _, _, _, _, _⟩) (v := .string a.val) rfl (by kernel_rfl) (by kernel_rfl) (by kernel_rfl) (fun _ _ _ h => h) (Or.inl ⟨by rfl, ?yr1_11⟩) hHeld ?_
  case yr1_11 => (intro W0 hSw; have cc := ed_val (row_but hgA hSw (by omega)) HA.out; go_simp; try with_reducible rfl)
  try simp only [pu]
  refine wpAnyH_take (i := 12) (oi := ⟨(some 15), _, _, _, _, _⟩) (v := .pointer (some ⟨w.heap.size, 14, none⟩)) rfl (by kernel_rfl) (by kernel_rfl) (by kernel_rfl) (fun _ _ _ h => h) (Or.inl ⟨by rfl, ?yr1_12⟩) hHeld ?_
  case yr1_12 => (intro W0 hSw; go_simp; try with_reducible rfl)
  try simp only [pu]
  refine wpAnyH_take (i := 13) (oi := ⟨(some 16), _, _, _, _, _⟩) (v := .int .i64 a.time) rfl (by kernel_rfl) (by kernel_rfl) (by kernel_rfl) (fun _ _ _ h => h) (Or.inl ⟨by rfl, ?yr1_13⟩) hHeld ?_
  case yr1_13 => (intro W0 hSw; have cc := ed_time (row_but hgA hSw (by omega)) HA.out; go_simp; try with_reducible rfl)
  try simp only [pu]
  refine wpAnyH_take (i := 14) (oi := ⟨(some 17), _, _, _, _, _⟩) (v := .agg a.cells.toArray) rfl (by kernel_rfl) (by kernel_rfl) (by kernel_rfl) (fun _ _ _ h => h) (yields_build (by rfl) _ _ rfl [(0, .agg [Value.int .i64 a.dev, .int .i64 a.num].toArray), (1, .agg (i64v a.seen).toArray), (2, .int .i64 a.kind), (3, .string a.con), (4, .string a.fld), (5, .string a.val), (6, .int .i64 a.time)] (by rfl) _ hbd.out) hHeld ?_
  try simp only [pu]
  refine wpAnyH_ready (rs := [15]) (by kernel_rfl) (by simp) ?_
  refine AllReadyH.cons (i := 15) (o := ⟨none, _, _, _, _, _⟩) rfl (fun K hK => ?_) AllReadyH.nil
  refine step_row (by rfl) 38 (.tmp 2) (.tmp 17) rfl (w.heap.size + 1) a.cells rfl rfl 38 _ hgR.out (by rw [Ed.cells_len HA.out]; kernel_rfl) (by rw [List.size_toArray, Ed.cells_len ed0_len, Ed.cells_len HA.out]) (Ed.cells_one _) ?_
  intro U hgU hkU
  have hbU := But.below hbW hkU (Nat.le_succ _) hbW.size
  refine hK.out _ _ hkU (fun _ => ?_)
  clear hK K
  try simp only [pu]
  refine wpAnyH_done (by kernel_rfl) ?_ _
  go_wp2_with fail
  refine bodyPost_ret (v := .agg a.cells.toArray) (results_cell_row Try.results16 _ _ (w.heap.size + 1) 38 _ (0, 0) _ rfl hgU.out Try.underlying38 rfl (by rw [Ed.cells_size HA.out]; kernel_rfl)) rfl ⟨rfl, hbU⟩
end Go.Proofs.Ytabgkkdgamacnaa
namespace Go.Proofs.Ytabgkkdgamacnaa
open Go.RowKit

set_option maxRecDepth 100000 in
set_option maxHeartbeats 1000000 in
theorem rfnum_any (w : World) (A : Option Addr) (l : List UInt8) (n c v : Nat) (ha : Byt w w.heap.size A l) (hl : l.length = n) (hn : n ≤ 70368744177664) (hv : v < 9223372036854775808) :
    Calls Try.prog 38 #[.slice A n c, .int .i64 (v : Int)] w fun e w' => ∃ A' m c', e = .returned (.slice A' m c') ∧ Res w' w.heap.size 5 A' m c' (l ++ gr v) ∧ Below w.heap.size w w' := by
  have HL := Lib.hid hl
  clear hl
  go_enter Try.func38, Try.ntmps38
  go_wp2_with (at_builtin; refine wp_append_src _ rfl (.tmp 6) (.tmp 7) 29 rfl 5 Try.underlying29 Try.infoByte w.heap.size (some ⟨w.heap.size, 0, none⟩) 0 0 [] rfl (Res.none_lit w _ _ (Nat.le_refl _)) A n c rfl _ l (ha.alloc (Nat.le_refl _) _) HL.out (by omega) (by simp) ?_)
  intro A1 c1 w1 hr1 hb1'
  have hb1 := hb1' w.heap.size w (Nat.le_refl _) ((Below.refl _ _).alloc (Nat.le_refl _) _)
  clear hb1'
  have hr2 : Hid (Res w1 w.heap.size 5 A1 n c1 l) := by
    have h := hr1
    show Res _ _ _ _ _ _ _
    simpa using h
  clear hr1
  go_wp2_with fail
  go_loopw [1, 5] (fun a s wr => ∃ (k f m c' : Nat) (A' : Option Addr) (X : List UInt8), a = .int .i64 (k : Int) ∧ s = .slice A' m c' ∧ k < 2 ^ (7 * (f + 1)) ∧ k < 9223372036854775808 ∧ m + f ≤ n + 8 ∧ Hid (X ++ grN f k = l ++ gr v) ∧ Hid (Res wr w.heap.size 5 A' m c' X) ∧ Below w.heap.size w wr) (fun a _ _ => (intOf a).toNat)
  case atStart => exact ⟨v, 8, n, c1, A1, l, rfl, rfl, by simpa using hv, hv, Nat.le_refl _, rfl, hr2, hb1⟩
  case round =>
    clear hr2 hb1
    obtain ⟨k, f, m, c', A', X, rfl, rfl, hkf, hk, hm, hX, HR, hb⟩ := hrel
    by_cases h0 : k < 128
    · have hX2 : Hid (l ++ gr v = X ++ [UInt8.ofNat k]) := by
        show _ = _
        rw [← hX.out, grN_small f k h0]
      go_wp2_with (at_builtin; refine wp_append_bytes _ rfl (.tmp 22) (.tmp 25) 29 rfl 5 Try.underlying29 Try.infoByte w.heap.size A' m c' X rfl (HR.out.alloc _) ⟨wr.heap.size, 0, none⟩ 1 1 rfl [UInt8.ofNat k] rfl (new_byte _ _ _ _ (by simp; omega)) (by omega) (by have := hb.size; simp; omega) ?_)
      intro A3 c3 w3 hres3 hb3
      have hbel3 := hb3 w.heap.size w (Nat.le_refl _) (hb.alloc (by have := hb.size; omega) _)
      clear hb3
      go_wp2
      go_ret
      exact ⟨A3, m + 1, c3, rfl, by rw [hX2.out]; exact hres3, hbel3⟩
    · obtain ⟨f', rfl⟩ : ∃ f', f = f' + 1 := by
        cases f with
        | zero => exact absurd (show k < 128 by simpa using hkf) h0
        | succ f' => exact ⟨f', rfl⟩
      have hX2 : Hid ((X ++ [UInt8.ofNat (k % 128 + 128)]) ++ grN f' (k / 128) = l ++ gr v) := by
        show _ = _
        rw [← hX.out, grN_more f' k h0, List.append_assoc]; rfl
      have hkf2 : k / 128 < 2 ^ (7 * (f' + 1)) := by
        have : 2 ^ (7 * (f' + 1 + 1)) = 2 ^ (7 * (f' + 1)) * 128 := by rw [show 7 * (f' + 1 + 1) = 7 * (f' + 1) + 7 by omega, Nat.pow_add]
        rw [this] at hkf
        exact Nat.div_lt_of_lt_mul (by rw [Nat.mul_comm]; exact hkf)
      obtain ⟨y, hy⟩ : ∃ y, y = k % 128 + 128 := ⟨_, rfl⟩
      rw [← hy] at hX2
      have hy1 : (k : Int) % 128 + 128 = (y : Int) := by omega
      have hy2 : y < 256 := by omega
      clear hy
      clear hkf hX
      go_wp2_with (at_builtin; refine wp_append_bytes _ rfl (.tmp 13) (.tmp 18) 29 rfl 5 Try.underlying29 Try.infoByte w.heap.size A' m c' X rfl (HR.out.alloc _) ⟨wr.heap.size, 0, none⟩ 1 1 rfl [UInt8.ofNat y] rfl (new_byte _ _ _ _ (by simp; omega)) (by omega) (by have := hb.size; simp; omega) ?_)
      intro A3 c3 w3 hres3 hb3
      have hbel3 := hb3 w.heap.size w (Nat.le_refl _) (hb.alloc (by have := hb.size; omega) _)
      clear hb3
      go_wp2
      go_roundw
      case rel => exact ⟨k / 128, f', m + 1, c3, A3, _, by go_num, rfl, hkf2, by omega, by omega, hX2, hres3, hbel3⟩
      case measure => simp [intOf]; omega

end Go.Proofs.Ytabgkkdgamacnaa
namespace Go.Proofs.Ytabgkkdgamacnaa
open Go.RowKit

set_option maxRecDepth 100000 in
set_option maxHeartbeats 1000000 in
theorem rfnum_neg (w : World) (A : Option Addr) (l : List UInt8) (n c : Nat) (v : Int) (ha : Byt w w.heap.size A l) (hl : l.length = n) (hn : n ≤ 70368744177664) (hv : v < 0) :
    Calls Try.prog 38 #[.slice A n c, .int .i64 v] w fun e w' => ∃ A' m c', e = .returned (.slice A' m c') ∧ Res w' w.heap.size 5 A' m c' (l ++ gr 0) ∧ Below w.heap.size w w' := by
  have HL := Lib.hid hl
  clear hl
  go_enter Try.func38, Try.ntmps38
  go_wp2_with (at_builtin; refine wp_append_src _ rfl (.tmp 6) (.tmp 7) 29 rfl 5 Try.underlying29 Try.infoByte w.heap.size (some ⟨w.heap.size, 0, none⟩) 0 0 [] rfl (Res.none_lit w _ _ (Nat.le_refl _)) A n c rfl _ l (ha.alloc (Nat.le_refl _) _) HL.out (by omega) (by simp) ?_)
  intro A1 c1 w1 hr1 hb1'
  have hb1 := hb1' w.heap.size w (Nat.le_refl _) ((Below.refl _ _).alloc (Nat.le_refl _) _)
  clear hb1'
  have hr2 : Hid (Res w1 w.heap.size 5 A1 n c1 l) := by
    have h := hr1
    show Res _ _ _ _ _ _ _
    simpa using h
  clear hr1
  go_wp2_with fail
  go_loopw [1, 5] (fun a s wr => ∃ (k f m c' : Nat) (A' : Option Addr) (X : List UInt8), a = .int .i64 (k : Int) ∧ s = .slice A' m c' ∧ k < 2 ^ (7 * (f + 1)) ∧ k < 9223372036854775808 ∧ m + f ≤ n + 8 ∧ Hid (X ++ grN f k = l ++ gr 0) ∧ Hid (Res wr w.heap.size 5 A' m c' X) ∧ Below w.heap.size w wr) (fun a _ _ => (intOf a).toNat)
  case atStart => exact ⟨0, 8, n, c1, A1, l, rfl, rfl, by decide, by decide, Nat.le_refl _, rfl, hr2, hb1⟩
  case round =>
    clear hr2 hb1
    obtain ⟨k, f, m, c', A', X, rfl, rfl, hkf, hk, hm, hX, HR, hb⟩ := hrel
    by_cases h0 : k < 128
    · have hX2 : Hid (l ++ gr 0 = X ++ [UInt8.ofNat k]) := by
        show _ = _
        rw [← hX.out, grN_small f k h0]
      go_wp2_with (at_builtin; refine wp_append_bytes _ rfl (.tmp 22) (.tmp 25) 29 rfl 5 Try.underlying29 Try.infoByte w.heap.size A' m c' X rfl (HR.out.alloc _) ⟨wr.heap.size, 0, none⟩ 1 1 rfl [UInt8.ofNat k] rfl (new_byte _ _ _ _ (by simp; omega)) (by omega) (by have := hb.size; simp; omega) ?_)
      intro A3 c3 w3 hres3 hb3
      have hbel3 := hb3 w.heap.size w (Nat.le_refl _) (hb.alloc (by have := hb.size; omega) _)
      clear hb3
      go_wp2
      go_ret
      exact ⟨A3, m + 1, c3, rfl, by rw [hX2.out]; exact hres3, hbel3⟩
    · obtain ⟨f', rfl⟩ : ∃ f', f = f' + 1 := by
        cases f with
        | zero => exact absurd (show k < 128 by simpa using hkf) h0
        | succ f' => exact ⟨f', rfl⟩
      have hX2 : Hid ((X ++ [UInt8.ofNat (k % 128 + 128)]) ++ grN f' (k / 128) = l ++ gr 0) := by
        show _ = _
        rw [← hX.out, grN_more f' k h0, List.append_assoc]; rfl
      have hkf2 : k / 128 < 2 ^ (7 * (f' + 1)) := by
        have : 2 ^ (7 * (f' + 1 + 1)) = 2 ^ (7 * (f' + 1)) * 128 := by rw [show 7 * (f' + 1 + 1) = 7 * (f' + 1) + 7 by omega, Nat.pow_add]
        rw [this] at hkf
        exact Nat.div_lt_of_lt_mul (by rw [Nat.mul_comm]; exact hkf)
      obtain ⟨y, hy⟩ : ∃ y, y = k % 128 + 128 := ⟨_, rfl⟩
      rw [← hy] at hX2
      have hy1 : (k : Int) % 128 + 128 = (y : Int) := by omega
      have hy2 : y < 256 := by omega
      clear hy
      clear hkf hX
      go_wp2_with (at_builtin; refine wp_append_bytes _ rfl (.tmp 13) (.tmp 18) 29 rfl 5 Try.underlying29 Try.infoByte w.heap.size A' m c' X rfl (HR.out.alloc _) ⟨wr.heap.size, 0, none⟩ 1 1 rfl [UInt8.ofNat y] rfl (new_byte _ _ _ _ (by simp; omega)) (by omega) (by have := hb.size; simp; omega) ?_)
      intro A3 c3 w3 hres3 hb3
      have hbel3 := hb3 w.heap.size w (Nat.le_refl _) (hb.alloc (by have := hb.size; omega) _)
      clear hb3
      go_wp2
      go_roundw
      case rel => exact ⟨k / 128, f', m + 1, c3, A3, _, by go_num, rfl, hkf2, by omega, by omega, hX2, hres3, hbel3⟩
      case measure => simp [intOf]; omega

theorem rfnum_int (w : World) (A : Option Addr) (l : List UInt8) (n c : Nat) (v : Int) (x : Nat) (ha : Byt w w.heap.size A l) (hl : l.length = n) (hn : n ≤ 70368744177664) (hx : x < 9223372036854775808) (hv : max v 0 = (x : Int)) :
    Calls Try.prog 38 #[.slice A n c, .int .i64 v] w fun e w' => ∃ A' m c', e = .returned (.slice A' m c') ∧ Res w' w.heap.size 5 A' m c' (l ++ gr x) ∧ Below w.heap.size w w' := by
  by_cases h : v < 0
  · obtain rfl : x = 0 := by omega
    exact rfnum_neg w A l n c v ha hl hn h
  · obtain rfl : v = (x : Int) := by omega
    exact rfnum_any w A l n c x ha hl hn hx
end Go.Proofs.Ytabgkkdgamacnaa
namespace Go.Proofs.Ytabgkkdgamacnaa
open Go.RowKit

set_option maxRecDepth 100000 in
set_option maxHeartbeats 1000000 in
theorem rvput_any (w : World) (A : Option Addr) (l : List UInt8) (n c : Nat) (a : List Int) (hA : Byt w w.heap.size A l) (hl : l.length = n) (hn : n ≤ 17592186044416) (ha : a.length = 8) (hr : Hid (I64s a)) :
    Calls Try.prog 37 #[.slice A n c, .agg (i64v a).toArray] w fun e w' => ∃ A' m c', e = .returned (.slice A' m c') ∧ Byt w' w'.heap.size A' (l ++ vput a) ∧ Hid (m = (l ++ vput a).length) ∧ Below w.heap.size w w' := by
  obtain ⟨W, hW, hgW, hbW, hsW⟩ := one_new w (i64v a).toArray 36
  have HW := Lib.hid hW
  have HA := Lib.hid ha
  have HL := Lib.hid hl
  have hAW := (hA.below hbW).up hbW.size
  clear hW ha hl hA hsW
  go_enter Try.func37, Try.ntmps37
  go_upto_region 1 with fail
  rw [HW.out]
  clear HW
  go_wp2_with fail
  go_loopw [0, 5] (fun s i wr => ∃ (k m c' : Nat) (D : Option Addr), k ≤ 8 ∧ s = .slice D m c' ∧ i = .int .i64 (k : Int) ∧ m ≤ n + 72 ∧ Hid (Byt wr wr.heap.size D (l ++ vpt a k)) ∧ Hid ((l ++ vpt a k).length = m) ∧ Below W.heap.size W wr) (fun _ i _ => 8 - (intOf i).toNat)
  case atStart => exact ⟨0, n, c, A, by omega, rfl, rfl, by omega, by rw [vpt_zero, List.append_nil]; exact hAW, by rw [vpt_zero, List.append_nil]; exact HL, Below.refl _ _⟩
  case round =>
    obtain ⟨k, m, c', D, hk, rfl, rfl, hm, HR, HML, hb⟩ := hrel
    by_cases hlt : k < 8
    · have hkl : k < a.length := by rw [HA.out]; exact hlt
      have hgr := row_next2 hgW hb
      have ck := int_at hgr.out k hkl
      have hnum := rfnum_int wr D (l ++ vpt a k) m c' (iat a k) (iat a k).toNat HR.out HML.out (by omega) (hr.out.at_ hkl).1 (hr.out.at_ hkl).2
      rw [List.append_assoc, ← vpt_next hkl] at hnum
      have HLE := Lib.hid (vpt_le a (k + 1) (by rw [HA.out]; omega))
      generalize iat a k = y at hnum ck
      clear HR HML
      go_wp2_with fail
      refine hnum.mono ?_
      rintro e w1 ⟨D1, m1, c1, rfl, hr1, hb1⟩
      have HML1 := Lib.hid hr1.len
      have hm1 : m1 ≤ n + 72 := by
        have h1 := HML1.out
        rw [List.length_append, HL.out] at h1
        have h2 := HLE.out
        omega
      have HR1 := Lib.hid hr1.byt
      have hb2 := below_next hb hb.size hb1
      clear hnum hr1 hb1 ck hgr
      go_wp2
      go_roundw
      case rel => exact ⟨k + 1, m1, c1, D1, by omega, rfl, by go_num, hm1, HR1, HML1, hb2⟩
      case measure => simp [intOf]; omega
    · obtain rfl : k = 8 := by omega
      have HR8 := HR
      have HML8 := HML
      rw [vpt_all HA.out] at HR8 HML8
      have hbw := below_next hbW hbW.size hb
      clear HR HML
      go_wp2
      go_ret
      exact ⟨D, m, c', rfl, HR8.out, HML8.out.symm, hbw⟩
end Go.Proofs.Ytabgkkdgamacnaa
namespace Go.Proofs.Ytabgkkdgamacnaa
open Go.RowKit

theorem bytesWorld_below (w : World) (e : TypeId) (s : ByteArray) : Below w.heap.size w (Lib.bytesWorld w e s) :=
  ⟨rfl, rfl, rfl, by rw [Lib.bytesWorld_size]; omega, fun k hk => Lib.bytesWorld_at_old w e s k hk⟩
theorem bytesWorld_byt (w : World) (e : TypeId) (s : ByteArray) : Byt (Lib.bytesWorld w e s) (Lib.bytesWorld w e s).heap.size (some ⟨w.heap.size, 0, none⟩) s.data.toList := by
  refine .inr ⟨w.heap.size, 0, rfl, by rw [Lib.bytesWorld_size]; omega, fun j b hj => ?_⟩
  have hjl : j < s.size := by
    have := (List.getElem?_eq_some_iff.1 hj).1
    rw [Array.length_toList] at this; exact this
  rw [Nat.zero_add, Lib.bytesWorld_cell w e s j hjl]
  simp [hj]

section
variable {P : Program} {ops : Array Oper} {o : Oper} {a : Act} {w : World} {K : Act → World → Prop} {Q : Exit → Act → World → Prop} {E : Prop}
theorem step_conv (hw : Region.wanted o (yielded ops a.tmps) = true) (S T e : TypeId) (x : Operand) (ho : o.op = .convert S T x) (hS : P.underlying S = some .string) (hT : P.underlying T = some (.slice e)) (he : P.underlying e = some (.int .u8))
    (s : ByteArray) (hx : a.eval x = .string s)
    (h : ∀ A c w', Byt w' w'.heap.size A s.data.toList → s.size ≤ c → Below w.heap.size w w' → K (a.put o.dst (.slice A s.size c)) w') : if Region.wanted o (yielded ops a.tmps) = true then Oper.wp P o a w K Q else E := by
  rw [if_pos hw]
  unfold Oper.wp
  simp only [execOp, ho, hx, Sem.run_bind, Lib.run_convert_string_bytes w S T e s hS hT he, Result.andThen_ok]
  exact h _ _ _ (bytesWorld_byt w e s) (grownCap_ge w s.size 0 e) (bytesWorld_below w e s)
end
end Go.Proofs.Ytabgkkdgamacnaa
namespace Go.Proofs.Ytabgkkdgamacnaa
open Go.RowKit

/-- A list of three lists. -/
theorem Prt.three {w : World} {E : TypeId} {A D G : Option Addr} {l m p : List UInt8} {n c k d q f : Nat} (ha : Byt w w.heap.size A l) (hl : l.length = n) (hc : n ≤ c) (hd : Byt w w.heap.size D m) (hm : m.length = k) (hk : k ≤ d) (hg : Byt w w.heap.size G p) (hp : p.length = q) (hq : q ≤ f) :
    Prt (w.alloc (.cells #[.slice A n c, .slice D k d, .slice G q f] E)) (w.alloc (.cells #[.slice A n c, .slice D k d, .slice G q f] E)).heap.size (some ⟨w.heap.size, 0, none⟩) [l, m, p] := by
  refine .inr ⟨w.heap.size, 0, rfl, by simp, fun j x hj => ?_⟩
  match j, hj with
  | 0, hj =>
    simp at hj
    subst hj
    exact ⟨A, n, c, by simp, hl, hc, (ha.alloc (Nat.le_refl _) _).up (by simp)⟩
  | 1, hj =>
    simp at hj
    subst hj
    exact ⟨D, k, d, by simp, hm, hk, (hd.alloc (Nat.le_refl _) _).up (by simp)⟩
  | 2, hj =>
    simp at hj
    subst hj
    exact ⟨G, q, f, by simp, hp, hq, (hg.alloc (Nat.le_refl _) _).up (by simp)⟩

set_option maxRecDepth 100000 in
theorem wbytes_any (w : World) (A : Option Addr) (l : List UInt8) (n c : Nat) (D : Option Addr) (m : List UInt8) (k d : Nat) (ha : Byt w w.heap.size A l) (hl : l.length = n) (hc : n ≤ c) (hn : n ≤ 35184372088832) (hd : Byt w w.heap.size D m) (hm : m.length = k) (hkd : k ≤ d) (hk : k ≤ 35184372088000) :
    Calls Try.prog 51 #[.slice A n c, .slice D k d] w fun e w' => ∃ A' m' c', e = .returned (.slice A' m' c') ∧ Res w' w.heap.size 5 A' m' c' (l ++ (gr k ++ m)) ∧ Below w.heap.size w w' := by
  have hgr := groups_any w (k : Int) k (by omega) (by omega)
  have HGL := Lib.hid (gr_le k)
  obtain ⟨G, hG⟩ : ∃ G, G = gr k := ⟨_, rfl⟩
  rw [← hG] at hgr HGL
  rw [← hG]
  have HL := Lib.hid hl
  have HM := Lib.hid hm
  clear hl hm hG
  go_enter Try.func51, Try.ntmps51
  go_wp2_with fail
  refine hgr.mono ?_
  rintro e w1 ⟨A1, n1, c1, rfl, hr1, hb1⟩
  have hprt := Prt.three (E := 29) (ha.next hb1) HL.out hc hr1.byt hr1.len hr1.cap (hd.next hb1) HM.out hkd
  have hcat := concat_b _ _ _ 3 3 hprt rfl (by decide) (by simp only [List.flatten_cons, List.flatten_nil, List.append_nil, List.length_append, HL.out, HM.out]; have := HGL.out; omega)
  have hba := hb1.alloc hb1.size (.cells #[.slice A n c, .slice A1 n1 c1, .slice D k d] 29)
  clear hprt hgr
  go_wp2_with fail
  refine hcat.mono ?_
  rintro e w2 ⟨A2, n2, c2, rfl, hr2, hb2⟩
  have hr3 : Res w2 w.heap.size 5 A2 n2 c2 (l ++ (G ++ m)) := by
    have h := hr2.base_le hba.size
    simpa using h
  have hb3 := below_next hba hba.size hb2
  clear hr2 hcat
  go_wp2
  go_ret
  exact ⟨A2, n2, c2, rfl, hr3, hb3⟩
set_option maxRecDepth 100000 in
theorem wtext_any (w : World) (A : Option Addr) (l : List UInt8) (n c : Nat) (s : ByteArray) (ha : Byt w w.heap.size A l) (hl : l.length = n) (hc : n ≤ c) (hn : n ≤ 35184372088832) (hs : s.size ≤ 35184372088000) :
    Calls Try.prog 29 #[.slice A n c, .string s] w fun e w' => ∃ A' m' c', e = .returned (.slice A' m' c') ∧ Res w' w.heap.size 5 A' m' c' (l ++ (gr s.size ++ s.data.toList)) ∧ Below w.heap.size w w' := by
  have hcv := Lib.run_convert_string_bytes (P := Try.prog) w 9 29 5 s Try.underlying9 Try.underlying29 Try.underlying5
  have hby := bytesWorld_byt w 5 s
  have hbl := bytesWorld_below w 5 s
  have hcap := grownCap_ge w s.size 0 5
  generalize Lib.bytesWorld w 5 s = W at *
  generalize grownCap w s.size 0 5 = C at *
  have hwb := wbytes_any W A l n c (some ⟨w.heap.size, 0, none⟩) s.data.toList s.size C (ha.next hbl) hl hc hn hby (by simp) hcap hs
  obtain ⟨T, hT⟩ : ∃ T, T = l ++ (gr s.size ++ s.data.toList) := ⟨_, rfl⟩
  rw [← hT] at hwb
  rw [← hT]
  clear hl hT hby
  go_enter Try.func29, Try.ntmps29
  go_wp2_with fail
  refine hwb.mono ?_
  rintro e w2 ⟨A2, n2, c2, rfl, hr2, hb2⟩
  go_wp2
  go_ret
  exact ⟨A2, n2, c2, rfl, hr2.base_le hbl.size, below_next hbl hbl.size hb2⟩
end Go.Proofs.Ytabgkkdgamacnaa
namespace Go.Proofs.Ytabgkkdgamacnaa
open Go.RowKit

set_option maxRecDepth 100000 in
theorem rfbytes_any (w : World) (A : Option Addr) (l : List UInt8) (n c : Nat) (D : Option Addr) (m : List UInt8) (k d : Nat) (ha : Byt w w.heap.size A l) (hl : l.length = n) (hn : n ≤ 35184372088832) (hd : Byt w w.heap.size D m) (hm : m.length = k) (hk : k ≤ 35184372088000) :
    Calls Try.prog 39 #[.slice A n c, .slice D k d] w fun e w' => ∃ A' m' c', e = .returned (.slice A' m' c') ∧ Res w' w.heap.size 5 A' m' c' (l ++ (gr k ++ m)) ∧ Below w.heap.size w w' := by
  have hnum := rfnum_any w A l n c k ha hl (by omega) (by omega)
  have HGL := Lib.hid (gr_le k)
  obtain ⟨G, hG⟩ : ∃ G, G = gr k := ⟨_, rfl⟩
  rw [← hG] at hnum HGL
  rw [← hG]
  have HL := Lib.hid hl
  have HM := Lib.hid hm
  clear hl hm hG
  go_enter Try.func39, Try.ntmps39
  go_wp2_with fail
  refine hnum.mono ?_
  rintro e w1 ⟨A1, n1, c1, rfl, hr1, hb1⟩
  have hn1 : n1 ≤ n + 9 := by
    have h := hr1.len
    rw [List.length_append, HL.out] at h
    have := HGL.out
    omega
  go_wp2_with (at_builtin; refine wp_append_src _ rfl (.tmp 8) (.tmp 9) 29 rfl 5 Try.underlying29 Try.infoByte w.heap.size A1 n1 c1 _ rfl hr1 D k d rfl _ m (hd.next hb1) HM.out (by omega) hb1.size ?_)
  intro A2 c2 w2 hr2 hb2
  have hb3 := hb2 w.heap.size w (Nat.le_refl _) hb1
  clear hb2
  go_wp2
  go_ret
  exact ⟨A2, n1 + k, c2, rfl, hr2, hb3⟩
end Go.Proofs.Ytabgkkdgamacnaa
namespace Go.Proofs.Ytabgkkdgamacnaa
open Go.RowKit

theorem vgood_in {a : List Int} (h : vgood a = true) : I64s a := by
  rw [vgood, decide_eq_true_eq] at h
  intro x hx
  have := h x hx
  omega
theorem put_no {a : Ed} (h : a.good = false) : a.put = [] := by rw [Ed.put, if_neg (by rw [h]; exact Bool.false_ne_true)]
theorem put_raw {a : Ed} (h : a.good = true) : [] ++ gr a.dev.toNat ++ gr a.num.toNat ++ vput a.seen ++ gr a.kind.toNat ++ gr a.time.toNat ++ (gr a.con.size ++ a.con.data.toList) ++ (gr a.fld.size ++ a.fld.data.toList) ++ (gr a.val.size ++ a.val.data.toList) = a.put := by
  rw [Ed.put, if_pos h, Ed.raw, txt, txt, txt]
  simp only [List.nil_append, List.append_assoc]
set_option maxRecDepth 100000 in
set_option maxHeartbeats 1000000 in
theorem oput_any (w : World) (a : Ed) (ha : a.seen.length = 8) :
    Calls Try.prog 10 #[.agg a.cells.toArray] w fun e w' => ∃ A m c, e = .returned (.slice A m c) ∧ Res w' w.heap.size 5 A m c a.put ∧ Below w.heap.size w w' := by
  obtain ⟨W, hW, hgA, hbW, hsW⟩ := one_new w a.cells.toArray 28
  have HW := Lib.hid hW
  have HA := Lib.hid ha
  have d1 := fun w => ogood_any w a ha
  obtain ⟨g, hg⟩ : ∃ g, g = a.good := ⟨_, rfl⟩
  have HG := vlt hg
  simp only [← hg] at d1
  clear hW ha hsW hg
  go_enter Try.func10, Try.ntmps10
  go_upto_region 1 with fail
  rw [HW.out]
  clear HW
  go_wp2_with (with_reducible refine wpList_load_row rfl 28 (.tmp 1) rfl w.heap.size rfl 28 a.cells.toArray (0, 0) _ hgA.out Try.underlying28 rfl (by rw [Ed.cells_size HA.out]; kernel_rfl) ?_)
  refine (d1 _).mono ?_
  rintro e w1 ⟨rfl, hb1⟩
  have g1 := row_next2 hgA hb1
  have hbw1 := below_next hbW hbW.size hb1
  clear hgA hbW hb1 d1
  cases g
  · have HP := vlt (put_no HG.out.symm)
    go_wp2
    go_ret
    exact ⟨none, 0, 0, rfl, by rw [HP.out]; exact ⟨rfl, .inl ⟨rfl, rfl⟩⟩, hbw1⟩
  · have HP := vlt (put_raw HG.out.symm)
    have f := Ed.fine HG.out.symm
    have b1 := f.dev
    have b2 := f.num
    have b3 := f.time
    have b4 := f.kind
    have b5 := nm_size f.con
    have b6 := f.fld
    have b7 := f.val
    have hIn := Lib.hid (vgood_in f.seen)
    have hVL := Lib.hid (vput_len HA.out)
    clear HG f
    have hgc := ed_dev g1
    have hc := wnum_any w1 none ([]) 0 0 a.dev a.dev.toNat (.inl rfl) rfl (Nat.le_refl _) (by omega) (by omega) (by omega)
    go_wp2_with fail
    refine hc.mono ?_
    rintro e w2 ⟨A1, n1, c1, rfl, hr, hb⟩
    have hn1 : n1 ≤ 9 := by have h := hr.len; rw [List.nil_append] at h; have := gr_le a.dev.toNat; omega
    have r1 := Lib.hid hr
    have g2 := row_next2 g1 hb
    have hbw2 := below_next hbw1 hbw1.size hb
    clear hc hr hb g1 hgc 
    have hgc := ed_num g2
    have hc := wnum_any w2 A1 ([] ++ gr a.dev.toNat) n1 c1 a.num a.num.toNat r1.out.byt r1.out.len r1.out.cap (by omega) (by omega) (by omega)
    go_wp2_with fail
    refine hc.mono ?_
    rintro e w3 ⟨A2, n2, c2, rfl, hr, hb⟩
    have hn2 : n2 ≤ n1 + 9 := by have h := hr.len; rw [List.length_append, r1.out.len] at h; have := gr_le a.num.toNat; omega
    have r2 := Lib.hid hr
    have g3 := row_next2 g2 hb
    have hbw3 := below_next hbw2 hbw2.size hb
    clear hc hr hb g2 hgc r1
    have hc := vput_any w3 A2 ([] ++ gr a.dev.toNat ++ gr a.num.toNat) n2 c2 a.seen r2.out.byt r2.out.len r2.out.cap (by omega) HA.out hIn
    go_wp2_with (with_reducible refine wpList_load_mid rfl 26 (.tmp 17) rfl w.heap.size 2 rfl (i64v a.seen) _ (ed_seenR g3) Try.underlying26 rfl (by rw [i64v_len, HA.out]; kernel_rfl) ?_)
    refine hc.mono ?_
    rintro e w4 ⟨A3, n3, c3, rfl, hr, hb⟩
    have hn3 : n3 ≤ n2 + 72 := by have h := hr.len; rw [List.length_append, r2.out.len] at h; have := hVL.out; omega
    have r3 := Lib.hid hr
    have g4 := row_next2 g3 hb
    have hbw4 := below_next hbw3 hbw3.size hb
    clear hc hr hb g3 r2
    have hgc := ed_kind g4 HA.out
    have hc := wnum_any w4 A3 ([] ++ gr a.dev.toNat ++ gr a.num.toNat ++ vput a.seen) n3 c3 a.kind a.kind.toNat r3.out.byt r3.out.len r3.out.cap (by omega) (by omega) (by omega)
    go_wp2_with fail
    refine hc.mono ?_
    rintro e w5 ⟨A4, n4, c4, rfl, hr, hb⟩
    have hn4 : n4 ≤ n3 + 9 := by have h := hr.len; rw [List.length_append, r3.out.len] at h; have := gr_le a.kind.toNat; omega
    have r4 := Lib.hid hr
    have g5 := row_next2 g4 hb
    have hbw5 := below_next hbw4 hbw4.size hb
    clear hc hr hb g4 hgc r3
    have hgc := ed_time g5 HA.out
    have hc := wnum_any w5 A4 ([] ++ gr a.dev.toNat ++ gr a.num.toNat ++ vput a.seen ++ gr a.kind.toNat) n4 c4 a.time a.time.toNat r4.out.byt r4.out.len r4.out.cap (by omega) (by omega) (by omega)
    go_wp2_with fail
    refine hc.mono ?_
    rintro e w6 ⟨A5, n5, c5, rfl, hr, hb⟩
    have hn5 : n5 ≤ n4 + 9 := by have h := hr.len; rw [List.length_append, r4.out.len] at h; have := gr_le a.time.toNat; omega
    have r5 := Lib.hid hr
    have g6 := row_next2 g5 hb
    have hbw6 := below_next hbw5 hbw5.size hb
    clear hc hr hb g5 hgc r4
    have hgc := ed_con g6 HA.out
    have hc := wtext_any w6 A5 ([] ++ gr a.dev.toNat ++ gr a.num.toNat ++ vput a.seen ++ gr a.kind.toNat ++ gr a.time.toNat) n5 c5 a.con r5.out.byt r5.out.len r5.out.cap (by omega) (by omega)
    go_wp2_with fail
    refine hc.mono ?_
    rintro e w7 ⟨A6, n6, c6, rfl, hr, hb⟩
    have hn6 : n6 ≤ n5 + 9 + a.con.size := by have h := hr.len; rw [List.length_append, r5.out.len, List.length_append] at h; have := gr_le a.con.size; have h2 : a.con.data.toList.length = a.con.size := (by simp); omega
    have r6 := Lib.hid hr
    have g7 := row_next2 g6 hb
    have hbw7 := below_next hbw6 hbw6.size hb
    clear hc hr hb g6 hgc r5
    have hgc := ed_fld g7 HA.out
    have hc := wtext_any w7 A6 ([] ++ gr a.dev.toNat ++ gr a.num.toNat ++ vput a.seen ++ gr a.kind.toNat ++ gr a.time.toNat ++ (gr a.con.size ++ a.con.data.toList)) n6 c6 a.fld r6.out.byt r6.out.len r6.out.cap (by omega) (by omega)
    go_wp2_with fail
    refine hc.mono ?_
    rintro e w8 ⟨A7, n7, c7, rfl, hr, hb⟩
    have hn7 : n7 ≤ n6 + 9 + a.fld.size := by have h := hr.len; rw [List.length_append, r6.out.len, List.length_append] at h; have := gr_le a.fld.size; have h2 : a.fld.data.toList.length = a.fld.size := (by simp); omega
    have r7 := Lib.hid hr
    have g8 := row_next2 g7 hb
    have hbw8 := below_next hbw7 hbw7.size hb
    clear hc hr hb g7 hgc r6
    have hgc := ed_val g8 HA.out
    have hc := wtext_any w8 A7 ([] ++ gr a.dev.toNat ++ gr a.num.toNat ++ vput a.seen ++ gr a.kind.toNat ++ gr a.time.toNat ++ (gr a.con.size ++ a.con.data.toList) ++ (gr a.fld.size ++ a.fld.data.toList)) n7 c7 a.val r7.out.byt r7.out.len r7.out.cap (by omega) (by omega)
    go_wp2_with fail
    refine hc.mono ?_
    rintro e w9 ⟨A8, n8, c8, rfl, hr, hb⟩
    have hn8 : n8 ≤ n7 + 9 + a.val.size := by have h := hr.len; rw [List.length_append, r7.out.len, List.length_append] at h; have := gr_le a.val.size; have h2 : a.val.data.toList.length = a.val.size := (by simp); omega
    have r8 := Lib.hid hr
    have g9 := row_next2 g8 hb
    have hbw9 := below_next hbw8 hbw8.size hb
    clear hc hr hb g8 hgc r7
    go_wp2
    go_ret
    refine ⟨A8, n8, c8, rfl, ?_, hbw9⟩
    rw [← HP.out]
    exact r8.out.base_le hbw8.size
end Go.Proofs.Ytabgkkdgamacnaa
namespace Go.Proofs.Ytabgkkdgamacnaa
open Go.RowKit

set_option maxRecDepth 100000 in
set_option maxHeartbeats 4000000 in
theorem rput_any (w : World) (a : Ed) (ha : a.seen.length = 8) (hs1 : a.con.size ≤ 140737488355328) (hs2 : a.fld.size ≤ 140737488355328) :
    Calls Try.prog 15 #[.agg a.cells.toArray] w fun e w' => ∃ A m c, e = .returned (.slice A m c) ∧ Byt w' w'.heap.size A a.put ∧ Hid (a.put.length = m) ∧ Below w.heap.size w w' := by
  obtain ⟨W, hW, hgA, hbW, hsW⟩ := one_new w a.cells.toArray 38
  have HW := Lib.hid hW
  have HA := Lib.hid ha
  have d1 := fun w => rgood_any w a ha hs1 hs2
  obtain ⟨g, hg⟩ : ∃ g, g = a.good := ⟨_, rfl⟩
  have HG := vlt hg
  simp only [← hg] at d1
  clear hW ha hsW hg hs1 hs2
  go_enter Try.func15, Try.ntmps15
  go_upto_region 1 with fail
  rw [HW.out]
  clear HW
  go_wp2_with (with_reducible refine wpList_load_row rfl 38 (.tmp 1) rfl w.heap.size rfl 38 a.cells.toArray (0, 0) _ hgA.out Try.underlying38 rfl (by rw [Ed.cells_size HA.out]; kernel_rfl) ?_)
  refine (d1 _).mono ?_
  rintro e w1 ⟨rfl, hb1⟩
  have g1 := row_next2 hgA hb1
  have hbw1 := below_next hbW hbW.size hb1
  clear hgA hbW hb1 d1
  cases g
  · have HP := vlt (put_no HG.out.symm)
    go_wp2
    go_ret
    exact ⟨none, 0, 0, rfl, by rw [HP.out]; exact .inl rfl, by rw [HP.out]; exact rfl, hbw1⟩
  have HP := vlt (put_raw HG.out.symm)
  have f := Ed.fine HG.out.symm
  have b1 := f.dev
  have b2 := f.num
  have b3 := f.time
  have b4 := f.kind
  have b5 := nm_size f.con
  have b6 := f.fld
  have b7 := f.val
  have hIn := Lib.hid (vgood_in f.seen)
  have hVL := Lib.hid (vput_len HA.out)
  clear HG f
  go_upto_region 3 with fail
  refine wp_region_held_drew (S := fun W' => Below w1.heap.size w1 W') (by kernel_rfl) ((Below.refl _ _).drew) (fun hHeld => ?_)
  refine wpAnyH_take (i := 0) (oi := ⟨(some 7), _, _, _, _, _⟩) (v := .pointer (some ⟨w.heap.size, 0, none⟩)) rfl (by kernel_rfl) (by kernel_rfl) (by kernel_rfl) (fun _ _ _ h => h) (Or.inl ⟨by rfl, ?yr3_0⟩) hHeld ?_
  case yr3_0 => (intro W0 hSw; go_simp; try with_reducible rfl)
  try simp only [pu]
  refine wpAnyH_take (i := 1) (oi := ⟨(some 8), _, _, _, _, _⟩) (v := .pointer (some ⟨w.heap.size, 0, none⟩)) rfl (by kernel_rfl) (by kernel_rfl) (by kernel_rfl) (fun _ _ _ h => h) (Or.inl ⟨by rfl, ?yr3_1⟩) hHeld ?_
  case yr3_1 => (intro W0 hSw; go_simp; try with_reducible rfl)
  try simp only [pu]
  refine wpAnyH_take (i := 2) (oi := ⟨(some 9), _, _, _, _, _⟩) (v := .int .i64 a.dev) rfl (by kernel_rfl) (by kernel_rfl) (by kernel_rfl) (fun _ _ _ h => h) (Or.inl ⟨by rfl, ?yr3_2⟩) hHeld ?_
  case yr3_2 => (intro W0 hSw; have cc := ed_dev (row_next2 g1 hSw); go_simp; try with_reducible rfl)
  try simp only [pu]
  refine wpAnyH_take (i := 4) (oi := ⟨(some 11), _, _, _, _, _⟩) (v := .pointer (some ⟨w.heap.size, 0, none⟩)) rfl (by kernel_rfl) (by kernel_rfl) (by kernel_rfl) (fun _ _ _ h => h) (Or.inl ⟨by rfl, ?yr3_4⟩) hHeld ?_
  case yr3_4 => (intro W0 hSw; go_simp; try with_reducible rfl)
  try simp only [pu]
  refine wpAnyH_take (i := 5) (oi := ⟨(some 12), _, _, _, _, _⟩) (v := .pointer (some ⟨w.heap.size, 1, none⟩)) rfl (by kernel_rfl) (by kernel_rfl) (by kernel_rfl) (fun _ _ _ h => h) (Or.inl ⟨by rfl, ?yr3_5⟩) hHeld ?_
  case yr3_5 => (intro W0 hSw; go_simp; try with_reducible rfl)
  try simp only [pu]
  refine wpAnyH_take (i := 6) (oi := ⟨(some 13), _, _, _, _, _⟩) (v := .int .i64 a.num) rfl (by kernel_rfl) (by kernel_rfl) (by kernel_rfl) (fun _ _ _ h => h) (Or.inl ⟨by rfl, ?yr3_6⟩) hHeld ?_
  case yr3_6 => (intro W0 hSw; have cc := ed_num (row_next2 g1 hSw); go_simp; try with_reducible rfl)
  try simp only [pu]
  refine wpAnyH_take (i := 8) (oi := ⟨(some 15), _, _, _, _, _⟩) (v := .pointer (some ⟨w.heap.size, 2, none⟩)) rfl (by kernel_rfl) (by kernel_rfl) (by kernel_rfl) (fun _ _ _ h => h) (Or.inl ⟨by rfl, ?yr3_8⟩) hHeld ?_
  case yr3_8 => (intro W0 hSw; go_simp; try with_reducible rfl)
  try simp only [pu]
  refine wpAnyH_take (i := 9) (oi := ⟨(some 16), _, _, _, _, _⟩) (v := .agg (i64v a.seen).toArray) rfl (by kernel_rfl) (by kernel_rfl) (by kernel_rfl) (fun _ _ _ h => h) (yieldsIf_load_mid (by rfl) _ _ rfl (w.heap.size) 2 rfl (i64v a.seen) _ (fun W' hW' => ed_seenR (row_next2 g1 hW')) (Try.underlying36) rfl (by rw [i64v_len, HA.out]; kernel_rfl)) hHeld ?_
  try simp only [pu]
  refine wpAnyH_ready (rs := [3]) (by kernel_rfl) (by simp) ?_
  refine AllReadyH.cons (i := 3) (o := ⟨(some 10), _, _, _, _, _⟩) rfl (fun K hK => ?_) AllReadyH.nil
  go_simp
  refine (rfnum_int _ none ([]) 0 0 a.dev a.dev.toNat (.inl rfl) rfl (by omega) (by omega) (by omega)).mono ?_
  rintro e r3T1 ⟨A1, n1, c1, rfl, hr1, hb1⟩
  have hS1 := below_next hHeld hHeld.size hb1
  have hn1 : n1 ≤ 9 := by have h := hr1.len; rw [List.nil_append] at h; have := gr_le a.dev.toNat; omega
  have hl1 := Lib.hid hr1.len
  have hy1 := hr1.byt
  clear hr1
  have g_1 := row_next2 g1 hS1
  have hb_1 := below_next hbw1 hbw1.size hS1
  refine hK.out _ _ hS1 (fun hHeld => ?_)
  try simp only [pu]
  refine held_more (S' := fun W' => Below r3T1.heap.size r3T1 W') (fun W h => hS1.trans (h.mono hS1.size)) _ _ _ _ ?_
  clear hHeld
  have hHeld := Below.refl r3T1.heap.size r3T1
  clear hK K hb1
  refine wpAnyH_ready (rs := [7]) (by kernel_rfl) (by simp) ?_
  refine AllReadyH.cons (i := 7) (o := ⟨(some 14), _, _, _, _, _⟩) rfl (fun K hK => ?_) AllReadyH.nil
  go_simp
  refine (rfnum_int _ A1 ([] ++ gr a.dev.toNat) n1 c1 a.num a.num.toNat (hy1.next hHeld) hl1.out (by omega) (by omega) (by omega)).mono ?_
  rintro e r3T2 ⟨A2, n2, c2, rfl, hr2, hb2⟩
  have hS2 := below_next hHeld hHeld.size hb2
  have hn2 : n2 ≤ n1 + 9 := by have h := hr2.len; rw [List.length_append, hl1.out] at h; have := gr_le a.num.toNat; omega
  have hl2 := Lib.hid hr2.len
  have hy2 := hr2.byt
  clear hr2
  have g_2 := row_next2 g_1 hS2
  have hb_2 := below_next hb_1 hb_1.size hS2
  have hy1_2 := hy1.next hS2
  refine hK.out _ _ hS2 (fun hHeld => ?_)
  try simp only [pu]
  refine held_more (S' := fun W' => Below r3T2.heap.size r3T2 W') (fun W h => hS2.trans (h.mono hS2.size)) _ _ _ _ ?_
  clear hHeld
  have hHeld := Below.refl r3T2.heap.size r3T2
  clear hK K hb2
  refine wpAnyH_ready (rs := [10]) (by kernel_rfl) (by simp) ?_
  refine AllReadyH.cons (i := 10) (o := ⟨(some 17), _, _, _, _, _⟩) rfl (fun K hK => ?_) AllReadyH.nil
  go_simp
  refine (rvput_any _ A2 ([] ++ gr a.dev.toNat ++ gr a.num.toNat) n2 c2 a.seen (hy2.next hHeld) hl2.out (by omega) HA.out hIn).mono ?_
  rintro e r3T3 ⟨A3, n3, c3, rfl, hy3, hm3, hb3⟩
  have hS3 := below_next hHeld hHeld.size hb3
  have hl3 := Lib.hid hm3.out.symm
  have hn3 : n3 ≤ n2 + 72 := by have h := hl3.out; rw [List.length_append, hl2.out] at h; have := hVL.out; omega
  clear hm3
  have g_3 := row_next2 g_2 hS3
  have hb_3 := below_next hb_2 hb_2.size hS3
  have hy1_3 := hy1_2.next hS3
  have hy2_3 := hy2.next hS3
  refine hK.out _ _ hS3 (fun hHeld => ?_)
  try simp only [pu]
  refine held_more (S' := fun W' => Below r3T3.heap.size r3T3 W') (fun W h => hS3.trans (h.mono hS3.size)) _ _ _ _ ?_
  clear hHeld
  have hHeld := Below.refl r3T3.heap.size r3T3
  clear hK K hb3
  refine wpAnyH_take (i := 11) (oi := ⟨(some 3), _, _, _, _, _⟩) (v := .slice A3 n3 c3) rfl (by kernel_rfl) (by kernel_rfl) (by kernel_rfl) (fun _ _ _ h => h) (Or.inl ⟨by rfl, ?yr3_11⟩) hHeld ?_
  case yr3_11 => (intro W0 hSw; go_simp; try with_reducible rfl)
  try simp only [pu]
  refine wpAnyH_done (by kernel_rfl) ?_ _
  obtain ⟨V3, hV⟩ : ∃ X, X = r3T3 := ⟨_, rfl⟩
  subst hV
  have g_v3 := row_next2 g_3 hHeld
  have hb_v3 := below_next hb_3 hb_3.size hHeld
  have hy3_v3 := hy3.next hHeld
  clear hHeld
  go_upto_region 4 with fail
  refine wp_region_held_drew (S := fun W' => Below V3.heap.size V3 W') (by kernel_rfl) ((Below.refl _ _).drew) (fun hHeld => ?_)
  refine wpAnyH_take (i := 0) (oi := ⟨(some 18), _, _, _, _, _⟩) (v := .slice A3 n3 c3) rfl (by kernel_rfl) (by kernel_rfl) (by kernel_rfl) (fun _ _ _ h => h) (Or.inl ⟨by rfl, ?yr4_0⟩) hHeld ?_
  case yr4_0 => (intro W0 hSw; go_simp; try with_reducible rfl)
  try simp only [pu]
  refine wpAnyH_take (i := 1) (oi := ⟨(some 19), _, _, _, _, _⟩) (v := .pointer (some ⟨w.heap.size, 10, none⟩)) rfl (by kernel_rfl) (by kernel_rfl) (by kernel_rfl) (fun _ _ _ h => h) (Or.inl ⟨by rfl, ?yr4_1⟩) hHeld ?_
  case yr4_1 => (intro W0 hSw; go_simp; try with_reducible rfl)
  try simp only [pu]
  refine wpAnyH_take (i := 2) (oi := ⟨(some 20), _, _, _, _, _⟩) (v := .int .i64 a.kind) rfl (by kernel_rfl) (by kernel_rfl) (by kernel_rfl) (fun _ _ _ h => h) (Or.inl ⟨by rfl, ?yr4_2⟩) hHeld ?_
  case yr4_2 => (intro W0 hSw; have cc := ed_kind (row_next2 g_v3 hSw) HA.out; go_simp; try with_reducible rfl)
  try simp only [pu]
  refine wpAnyH_take (i := 4) (oi := ⟨(some 22), _, _, _, _, _⟩) (v := .pointer (some ⟨w.heap.size, 14, none⟩)) rfl (by kernel_rfl) (by kernel_rfl) (by kernel_rfl) (fun _ _ _ h => h) (Or.inl ⟨by rfl, ?yr4_4⟩) hHeld ?_
  case yr4_4 => (intro W0 hSw; go_simp; try with_reducible rfl)
  try simp only [pu]
  refine wpAnyH_take (i := 5) (oi := ⟨(some 23), _, _, _, _, _⟩) (v := .int .i64 a.time) rfl (by kernel_rfl) (by kernel_rfl) (by kernel_rfl) (fun _ _ _ h => h) (Or.inl ⟨by rfl, ?yr4_5⟩) hHeld ?_
  case yr4_5 => (intro W0 hSw; have cc := ed_time (row_next2 g_v3 hSw) HA.out; go_simp; try with_reducible rfl)
  try simp only [pu]
  refine wpAnyH_ready (rs := [3]) (by kernel_rfl) (by simp) ?_
  refine AllReadyH.cons (i := 3) (o := ⟨(some 21), _, _, _, _, _⟩) rfl (fun K hK => ?_) AllReadyH.nil
  go_simp
  refine (rfnum_int _ A3 ([] ++ gr a.dev.toNat ++ gr a.num.toNat ++ vput a.seen) n3 c3 a.kind a.kind.toNat (hy3_v3.next hHeld) hl3.out (by omega) (by omega) (by omega)).mono ?_
  rintro e r4T1 ⟨A4, n4, c4, rfl, hr4, hb1⟩
  have hS1 := below_next hHeld hHeld.size hb1
  have hn4 : n4 ≤ n3 + 9 := by have h := hr4.len; rw [List.length_append, hl3.out] at h; have := gr_le a.kind.toNat; omega
  have hl4 := Lib.hid hr4.len
  have hy4 := hr4.byt
  clear hr4
  have g_1 := row_next2 g_v3 hS1
  have hb_1 := below_next hb_v3 hb_v3.size hS1
  have hy3_1 := hy3_v3.next hS1
  refine hK.out _ _ hS1 (fun hHeld => ?_)
  try simp only [pu]
  refine held_more (S' := fun W' => Below r4T1.heap.size r4T1 W') (fun W h => hS1.trans (h.mono hS1.size)) _ _ _ _ ?_
  clear hHeld
  have hHeld := Below.refl r4T1.heap.size r4T1
  clear hK K hb1
  refine wpAnyH_ready (rs := [6]) (by kernel_rfl) (by simp) ?_
  refine AllReadyH.cons (i := 6) (o := ⟨(some 24), _, _, _, _, _⟩) rfl (fun K hK => ?_) AllReadyH.nil
  go_simp
  refine (rfnum_int _ A4 ([] ++ gr a.dev.toNat ++ gr a.num.toNat ++ vput a.seen ++ gr a.kind.toNat) n4 c4 a.time a.time.toNat (hy4.next hHeld) hl4.out (by omega) (by omega) (by omega)).mono ?_
  rintro e r4T2 ⟨A5, n5, c5, rfl, hr5, hb2⟩
  have hS2 := below_next hHeld hHeld.size hb2
  have hn5 : n5 ≤ n4 + 9 := by have h := hr5.len; rw [List.length_append, hl4.out] at h; have := gr_le a.time.toNat; omega
  have hl5 := Lib.hid hr5.len
  have hy5 := hr5.byt
  clear hr5
  have g_2 := row_next2 g_1 hS2
  have hb_2 := below_next hb_1 hb_1.size hS2
  have hy3_2 := hy3_1.next hS2
  have hy4_2 := hy4.next hS2
  refine hK.out _ _ hS2 (fun hHeld => ?_)
  try simp only [pu]
  refine held_more (S' := fun W' => Below r4T2.heap.size r4T2 W') (fun W h => hS2.trans (h.mono hS2.size)) _ _ _ _ ?_
  clear hHeld
  have hHeld := Below.refl r4T2.heap.size r4T2
  clear hK K hb2
  refine wpAnyH_take (i := 7) (oi := ⟨(some 3), _, _, _, _, _⟩) (v := .slice A5 n5 c5) rfl (by kernel_rfl) (by kernel_rfl) (by kernel_rfl) (fun _ _ _ h => h) (Or.inl ⟨by rfl, ?yr4_7⟩) hHeld ?_
  case yr4_7 => (intro W0 hSw; go_simp; try with_reducible rfl)
  try simp only [pu]
  refine wpAnyH_done (by kernel_rfl) ?_ _
  obtain ⟨V4, hV⟩ : ∃ X, X = r4T2 := ⟨_, rfl⟩
  subst hV
  have g_v4 := row_next2 g_2 hHeld
  have hb_v4 := below_next hb_2 hb_2.size hHeld
  have hy5_v4 := hy5.next hHeld
  clear hHeld
  go_upto_region 5 with fail
  refine plain_start (S := fun W' => Below V4.heap.size V4 W') (by kernel_rfl) (Below.refl _ _) (fun hHeld => ?_)
  refine wpAnyH_take (i := 0) (oi := ⟨(some 25), _, _, _, _, _⟩) (v := .slice A5 n5 c5) rfl (by kernel_rfl) (by kernel_rfl) (by kernel_rfl) (fun _ _ _ h => h) (Or.inl ⟨by rfl, ?yr5_0⟩) hHeld ?_
  case yr5_0 => (intro W0 hSw; go_simp; try with_reducible rfl)
  try simp only [pu]
  refine wpAnyH_take (i := 1) (oi := ⟨(some 26), _, _, _, _, _⟩) (v := .pointer (some ⟨w.heap.size, 11, none⟩)) rfl (by kernel_rfl) (by kernel_rfl) (by kernel_rfl) (fun _ _ _ h => h) (Or.inl ⟨by rfl, ?yr5_1⟩) hHeld ?_
  case yr5_1 => (intro W0 hSw; go_simp; try with_reducible rfl)
  try simp only [pu]
  refine wpAnyH_take (i := 2) (oi := ⟨(some 27), _, _, _, _, _⟩) (v := .string a.con) rfl (by kernel_rfl) (by kernel_rfl) (by kernel_rfl) (fun _ _ _ h => h) (Or.inl ⟨by rfl, ?yr5_2⟩) hHeld ?_
  case yr5_2 => (intro W0 hSw; have cc := ed_con (row_next2 g_v4 hSw) HA.out; go_simp; try with_reducible rfl)
  try simp only [pu]
  refine wpAnyH_ready (rs := [3]) (by kernel_rfl) (by simp) ?_
  refine AllReadyH.cons (i := 3) (o := ⟨(some 28), _, _, _, _, _⟩) rfl (fun K hK => ?_) AllReadyH.nil
  refine step_conv (by rfl) 9 29 5 (.tmp 27) rfl Try.underlying9 Try.underlying29 Try.underlying5 a.con rfl ?_
  intro BC kC r5T1 hyC hkC hb1
  have hS1 := below_next hHeld hHeld.size hb1
  have g_1 := row_next2 g_v4 hS1
  have hb_1 := below_next hb_v4 hb_v4.size hS1
  have hy5_1 := hy5_v4.next hS1
  refine hK.out _ _ hS1 (fun hHeld => ?_)
  try simp only [pu]
  refine held_more (S' := fun W' => Below r5T1.heap.size r5T1 W') (fun W h => hS1.trans (h.mono hS1.size)) _ _ _ _ ?_
  clear hHeld
  have hHeld := Below.refl r5T1.heap.size r5T1
  clear hK K hb1
  refine wpAnyH_ready (rs := [4]) (by kernel_rfl) (by simp) ?_
  refine AllReadyH.cons (i := 4) (o := ⟨(some 29), _, _, _, _, _⟩) rfl (fun K hK => ?_) AllReadyH.nil
  go_simp
  refine (rfbytes_any _ A5 ([] ++ gr a.dev.toNat ++ gr a.num.toNat ++ vput a.seen ++ gr a.kind.toNat ++ gr a.time.toNat) n5 c5 BC a.con.data.toList a.con.size kC (hy5_1.next hHeld) hl5.out (by omega) (hyC.next hHeld) (by simp) (by omega)).mono ?_
  rintro e r5T2 ⟨A6, n6, c6, rfl, hr6, hb2⟩
  have hS2 := below_next hHeld hHeld.size hb2
  have hn6 : n6 ≤ n5 + 9 + a.con.size := by have h := hr6.len; rw [List.length_append, hl5.out, List.length_append] at h; have := gr_le a.con.size; have h2 : a.con.data.toList.length = a.con.size := (by simp); omega
  have hl6 := Lib.hid hr6.len
  have hy6 := hr6.byt
  clear hr6
  have g_2 := row_next2 g_1 hS2
  have hb_2 := below_next hb_1 hb_1.size hS2
  have hy5_2 := hy5_1.next hS2
  have hyC_2 := hyC.next hS2
  refine hK.out _ _ hS2 (fun hHeld => ?_)
  try simp only [pu]
  refine held_more (S' := fun W' => Below r5T2.heap.size r5T2 W') (fun W h => hS2.trans (h.mono hS2.size)) _ _ _ _ ?_
  clear hHeld
  have hHeld := Below.refl r5T2.heap.size r5T2
  clear hK K hb2
  refine wpAnyH_take (i := 5) (oi := ⟨(some 3), _, _, _, _, _⟩) (v := .slice A6 n6 c6) rfl (by kernel_rfl) (by kernel_rfl) (by kernel_rfl) (fun _ _ _ h => h) (Or.inl ⟨by rfl, ?yr5_5⟩) hHeld ?_
  case yr5_5 => (intro W0 hSw; go_simp; try with_reducible rfl)
  try simp only [pu]
  refine wpAnyH_done (by kernel_rfl) ?_ _
  obtain ⟨V5, hV⟩ : ∃ X, X = r5T2 := ⟨_, rfl⟩
  subst hV
  have g_v5 := row_next2 g_2 hHeld
  have hb_v5 := below_next hb_2 hb_2.size hHeld
  have hy6_v5 := hy6.next hHeld
  clear hHeld
  go_upto_region 6 with fail
  refine wp_region_held_drew (S := fun W' => Below V5.heap.size V5 W') (by kernel_rfl) ((Below.refl _ _).drew) (fun hHeld => ?_)
  refine wpAnyH_take (i := 0) (oi := ⟨(some 30), _, _, _, _, _⟩) (v := .slice A6 n6 c6) rfl (by kernel_rfl) (by kernel_rfl) (by kernel_rfl) (fun _ _ _ h => h) (Or.inl ⟨by rfl, ?yr6_0⟩) hHeld ?_
  case yr6_0 => (intro W0 hSw; go_simp; try with_reducible rfl)
  try simp only [pu]
  refine wpAnyH_take (i := 1) (oi := ⟨(some 31), _, _, _, _, _⟩) (v := .pointer (some ⟨w.heap.size, 12, none⟩)) rfl (by kernel_rfl) (by kernel_rfl) (by kernel_rfl) (fun _ _ _ h => h) (Or.inl ⟨by rfl, ?yr6_1⟩) hHeld ?_
  case yr6_1 => (intro W0 hSw; go_simp; try with_reducible rfl)
  try simp only [pu]
  refine wpAnyH_take (i := 2) (oi := ⟨(some 32), _, _, _, _, _⟩) (v := .string a.fld) rfl (by kernel_rfl) (by kernel_rfl) (by kernel_rfl) (fun _ _ _ h => h) (Or.inl ⟨by rfl, ?yr6_2⟩) hHeld ?_
  case yr6_2 => (intro W0 hSw; have cc := ed_fld (row_next2 g_v5 hSw) HA.out; go_simp; try with_reducible rfl)
  try simp only [pu]
  refine wpAnyH_take (i := 5) (oi := ⟨(some 35), _, _, _, _, _⟩) (v := .pointer (some ⟨w.heap.size, 13, none⟩)) rfl (by kernel_rfl) (by kernel_rfl) (by kernel_rfl) (fun _ _ _ h => h) (Or.inl ⟨by rfl, ?yr6_5⟩) hHeld ?_
  case yr6_5 => (intro W0 hSw; go_simp; try with_reducible rfl)
  try simp only [pu]
  refine wpAnyH_take (i := 6) (oi := ⟨(some 36), _, _, _, _, _⟩) (v := .string a.val) rfl (by kernel_rfl) (by kernel_rfl) (by kernel_rfl) (fun _ _ _ h => h) (Or.inl ⟨by rfl, ?yr6_6⟩) hHeld ?_
  case yr6_6 => (intro W0 hSw; have cc := ed_val (row_next2 g_v5 hSw) HA.out; go_simp; try with_reducible rfl)
  try simp only [pu]
  refine wpAnyH_ready (rs := [3, 7]) (by kernel_rfl) (by simp) ?_
  refine AllReadyH.cons (i := 3) (o := ⟨(some 33), _, _, _, _, _⟩) rfl (fun K hK => ?_) (AllReadyH.cons (i := 7) (o := ⟨(some 37), _, _, _, _, _⟩) rfl (fun K hK => ?_) AllReadyH.nil)
  · refine step_conv (by rfl) 9 29 5 (.tmp 32) rfl Try.underlying9 Try.underlying29 Try.underlying5 a.fld rfl ?_
    intro BF kF r6T1 hyF hkF hb1
    have hS1 := below_next hHeld hHeld.size hb1
    have g_1 := row_next2 g_v5 hS1
    have hb_1 := below_next hb_v5 hb_v5.size hS1
    have hy6_1 := hy6_v5.next hS1
    refine hK.out _ _ hS1 (fun hHeld => ?_)
    try simp only [pu]
    refine held_more (S' := fun W' => Below r6T1.heap.size r6T1 W') (fun W h => hS1.trans (h.mono hS1.size)) _ _ _ _ ?_
    clear hHeld
    have hHeld := Below.refl r6T1.heap.size r6T1
    clear hK K hb1
    refine wpAnyH_ready (rs := [4, 7]) (by kernel_rfl) (by simp) ?_
    refine AllReadyH.cons (i := 4) (o := ⟨(some 34), _, _, _, _, _⟩) rfl (fun K hK => ?_) (AllReadyH.cons (i := 7) (o := ⟨(some 37), _, _, _, _, _⟩) rfl (fun K hK => ?_) AllReadyH.nil)
    · go_simp
      refine (rfbytes_any _ A6 ([] ++ gr a.dev.toNat ++ gr a.num.toNat ++ vput a.seen ++ gr a.kind.toNat ++ gr a.time.toNat ++ (gr a.con.size ++ a.con.data.toList)) n6 c6 BF a.fld.data.toList a.fld.size kF (hy6_1.next hHeld) hl6.out (by omega) (hyF.next hHeld) (by simp) (by omega)).mono ?_
      rintro e r6T2 ⟨A7, n7, c7, rfl, hr7, hb2⟩
      have hS2 := below_next hHeld hHeld.size hb2
      have hn7 : n7 ≤ n6 + 9 + a.fld.size := by have h := hr7.len; rw [List.length_append, hl6.out, List.length_append] at h; have := gr_le a.fld.size; have h2 : a.fld.data.toList.length = a.fld.size := (by simp); omega
      have hl7 := Lib.hid hr7.len
      have hy7 := hr7.byt
      clear hr7
      have g_2 := row_next2 g_1 hS2
      have hb_2 := below_next hb_1 hb_1.size hS2
      have hy6_2 := hy6_1.next hS2
      have hyF_2 := hyF.next hS2
      refine hK.out _ _ hS2 (fun hHeld => ?_)
      try simp only [pu]
      refine held_more (S' := fun W' => Below r6T2.heap.size r6T2 W') (fun W h => hS2.trans (h.mono hS2.size)) _ _ _ _ ?_
      clear hHeld
      have hHeld := Below.refl r6T2.heap.size r6T2
      clear hK K hb2
      refine wpAnyH_ready (rs := [7]) (by kernel_rfl) (by simp) ?_
      refine AllReadyH.cons (i := 7) (o := ⟨(some 37), _, _, _, _, _⟩) rfl (fun K hK => ?_) AllReadyH.nil
      refine step_conv (by rfl) 9 29 5 (.tmp 36) rfl Try.underlying9 Try.underlying29 Try.underlying5 a.val rfl ?_
      intro BU kU r6T3 hyU hkU hb3
      have hS3 := below_next hHeld hHeld.size hb3
      have g_3 := row_next2 g_2 hS3
      have hb_3 := below_next hb_2 hb_2.size hS3
      have hy6_3 := hy6_2.next hS3
      have hyF_3 := hyF_2.next hS3
      have hy7_3 := hy7.next hS3
      refine hK.out _ _ hS3 (fun hHeld => ?_)
      try simp only [pu]
      refine held_more (S' := fun W' => Below r6T3.heap.size r6T3 W') (fun W h => hS3.trans (h.mono hS3.size)) _ _ _ _ ?_
      clear hHeld
      have hHeld := Below.refl r6T3.heap.size r6T3
      clear hK K hb3
      refine wpAnyH_ready (rs := [8]) (by kernel_rfl) (by simp) ?_
      refine AllReadyH.cons (i := 8) (o := ⟨(some 38), _, _, _, _, _⟩) rfl (fun K hK => ?_) AllReadyH.nil
      go_simp
      refine (rfbytes_any _ A7 ([] ++ gr a.dev.toNat ++ gr a.num.toNat ++ vput a.seen ++ gr a.kind.toNat ++ gr a.time.toNat ++ (gr a.con.size ++ a.con.data.toList) ++ (gr a.fld.size ++ a.fld.data.toList)) n7 c7 BU a.val.data.toList a.val.size kU (hy7_3.next hHeld) hl7.out (by omega) (hyU.next hHeld) (by simp) (by omega)).mono ?_
      rintro e r6T4 ⟨A8, n8, c8, rfl, hr8, hb4⟩
      have hS4 := below_next hHeld hHeld.size hb4
      have hn8 : n8 ≤ n7 + 9 + a.val.size := by have h := hr8.len; rw [List.length_append, hl7.out, List.length_append] at h; have := gr_le a.val.size; have h2 : a.val.data.toList.length = a.val.size := (by simp); omega
      have hl8 := Lib.hid hr8.len
      have hy8 := hr8.byt
      clear hr8
      have g_4 := row_next2 g_3 hS4
      have hb_4 := below_next hb_3 hb_3.size hS4
      have hy6_4 := hy6_3.next hS4
      have hyF_4 := hyF_3.next hS4
      have hy7_4 := hy7_3.next hS4
      have hyU_4 := hyU.next hS4
      refine hK.out _ _ hS4 (fun hHeld => ?_)
      try simp only [pu]
      refine held_more (S' := fun W' => Below r6T4.heap.size r6T4 W') (fun W h => hS4.trans (h.mono hS4.size)) _ _ _ _ ?_
      clear hHeld
      have hHeld := Below.refl r6T4.heap.size r6T4
      clear hK K hb4
      refine wpAnyH_take (i := 9) (oi := ⟨(some 2), _, _, _, _, _⟩) (v := .slice A8 n8 c8) rfl (by kernel_rfl) (by kernel_rfl) (by kernel_rfl) (fun _ _ _ h => h) (Or.inl ⟨by rfl, ?yr6_9⟩) hHeld ?_
      case yr6_9 => (intro W0 hSw; go_simp; try with_reducible rfl)
      try simp only [pu]
      refine wpAnyH_done (by kernel_rfl) ?_ _
      go_wp2
      go_ret
      refine ⟨A8, n8, c8, rfl, ?_, ?_, below_next hb_4 hb_4.size hHeld⟩
      · rw [← HP.out]; exact hy8.next hHeld
      · rw [← HP.out]; exact hl8
    · refine step_conv (by rfl) 9 29 5 (.tmp 36) rfl Try.underlying9 Try.underlying29 Try.underlying5 a.val rfl ?_
      intro BU kU r6T2 hyU hkU hb2
      have hS2 := below_next hHeld hHeld.size hb2
      have g_2 := row_next2 g_1 hS2
      have hb_2 := below_next hb_1 hb_1.size hS2
      have hy6_2 := hy6_1.next hS2
      have hyF_2 := hyF.next hS2
      refine hK.out _ _ hS2 (fun hHeld => ?_)
      try simp only [pu]
      refine held_more (S' := fun W' => Below r6T2.heap.size r6T2 W') (fun W h => hS2.trans (h.mono hS2.size)) _ _ _ _ ?_
      clear hHeld
      have hHeld := Below.refl r6T2.heap.size r6T2
      clear hK K hb2
      refine wpAnyH_ready (rs := [4]) (by kernel_rfl) (by simp) ?_
      refine AllReadyH.cons (i := 4) (o := ⟨(some 34), _, _, _, _, _⟩) rfl (fun K hK => ?_) AllReadyH.nil
      go_simp
      refine (rfbytes_any _ A6 ([] ++ gr a.dev.toNat ++ gr a.num.toNat ++ vput a.seen ++ gr a.kind.toNat ++ gr a.time.toNat ++ (gr a.con.size ++ a.con.data.toList)) n6 c6 BF a.fld.data.toList a.fld.size kF (hy6_2.next hHeld) hl6.out (by omega) (hyF_2.next hHeld) (by simp) (by omega)).mono ?_
      rintro e r6T3 ⟨A7, n7, c7, rfl, hr7, hb3⟩
      have hS3 := below_next hHeld hHeld.size hb3
      have hn7 : n7 ≤ n6 + 9 + a.fld.size := by have h := hr7.len; rw [List.length_append, hl6.out, List.length_append] at h; have := gr_le a.fld.size; have h2 : a.fld.data.toList.length = a.fld.size := (by simp); omega
      have hl7 := Lib.hid hr7.len
      have hy7 := hr7.byt
      clear hr7
      have g_3 := row_next2 g_2 hS3
      have hb_3 := below_next hb_2 hb_2.size hS3
      have hy6_3 := hy6_2.next hS3
      have hyF_3 := hyF_2.next hS3
      have hyU_3 := hyU.next hS3
      refine hK.out _ _ hS3 (fun hHeld => ?_)
      try simp only [pu]
      refine held_more (S' := fun W' => Below r6T3.heap.size r6T3 W') (fun W h => hS3.trans (h.mono hS3.size)) _ _ _ _ ?_
      clear hHeld
      have hHeld := Below.refl r6T3.heap.size r6T3
      clear hK K hb3
      refine wpAnyH_ready (rs := [8]) (by kernel_rfl) (by simp) ?_
      refine AllReadyH.cons (i := 8) (o := ⟨(some 38), _, _, _, _, _⟩) rfl (fun K hK => ?_) AllReadyH.nil
      go_simp
      refine (rfbytes_any _ A7 ([] ++ gr a.dev.toNat ++ gr a.num.toNat ++ vput a.seen ++ gr a.kind.toNat ++ gr a.time.toNat ++ (gr a.con.size ++ a.con.data.toList) ++ (gr a.fld.size ++ a.fld.data.toList)) n7 c7 BU a.val.data.toList a.val.size kU (hy7.next hHeld) hl7.out (by omega) (hyU_3.next hHeld) (by simp) (by omega)).mono ?_
      rintro e r6T4 ⟨A8, n8, c8, rfl, hr8, hb4⟩
      have hS4 := below_next hHeld hHeld.size hb4
      have hn8 : n8 ≤ n7 + 9 + a.val.size := by have h := hr8.len; rw [List.length_append, hl7.out, List.length_append] at h; have := gr_le a.val.size; have h2 : a.val.data.toList.length = a.val.size := (by simp); omega
      have hl8 := Lib.hid hr8.len
      have hy8 := hr8.byt
      clear hr8
      have g_4 := row_next2 g_3 hS4
      have hb_4 := below_next hb_3 hb_3.size hS4
      have hy6_4 := hy6_3.next hS4
      have hyF_4 := hyF_3.next hS4
      have hyU_4 := hyU_3.next hS4
      have hy7_4 := hy7.next hS4
      refine hK.out _ _ hS4 (fun hHeld => ?_)
      try simp only [pu]
      refine held_more (S' := fun W' => Below r6T4.heap.size r6T4 W') (fun W h => hS4.trans (h.mono hS4.size)) _ _ _ _ ?_
      clear hHeld
      have hHeld := Below.refl r6T4.heap.size r6T4
      clear hK K hb4
      refine wpAnyH_take (i := 9) (oi := ⟨(some 2), _, _, _, _, _⟩) (v := .slice A8 n8 c8) rfl (by kernel_rfl) (by kernel_rfl) (by kernel_rfl) (fun _ _ _ h => h) (Or.inl ⟨by rfl, ?yr6_9⟩) hHeld ?_
      case yr6_9 => (intro W0 hSw; go_simp; try with_reducible rfl)
      try simp only [pu]
      refine wpAnyH_done (by kernel_rfl) ?_ _
      go_wp2
      go_ret
      refine ⟨A8, n8, c8, rfl, ?_, ?_, below_next hb_4 hb_4.size hHeld⟩
      · rw [← HP.out]; exact hy8.next hHeld
      · rw [← HP.out]; exact hl8
  · refine step_conv (by rfl) 9 29 5 (.tmp 36) rfl Try.underlying9 Try.underlying29 Try.underlying5 a.val rfl ?_
    intro BU kU r6T1 hyU hkU hb1
    have hS1 := below_next hHeld hHeld.size hb1
    have g_1 := row_next2 g_v5 hS1
    have hb_1 := below_next hb_v5 hb_v5.size hS1
    have hy6_1 := hy6_v5.next hS1
    refine hK.out _ _ hS1 (fun hHeld => ?_)
    try simp only [pu]
    refine held_more (S' := fun W' => Below r6T1.heap.size r6T1 W') (fun W h => hS1.trans (h.mono hS1.size)) _ _ _ _ ?_
    clear hHeld
    have hHeld := Below.refl r6T1.heap.size r6T1
    clear hK K hb1
    refine wpAnyH_ready (rs := [3]) (by kernel_rfl) (by simp) ?_
    refine AllReadyH.cons (i := 3) (o := ⟨(some 33), _, _, _, _, _⟩) rfl (fun K hK => ?_) AllReadyH.nil
    refine step_conv (by rfl) 9 29 5 (.tmp 32) rfl Try.underlying9 Try.underlying29 Try.underlying5 a.fld rfl ?_
    intro BF kF r6T2 hyF hkF hb2
    have hS2 := below_next hHeld hHeld.size hb2
    have g_2 := row_next2 g_1 hS2
    have hb_2 := below_next hb_1 hb_1.size hS2
    have hy6_2 := hy6_1.next hS2
    have hyU_2 := hyU.next hS2
    refine hK.out _ _ hS2 (fun hHeld => ?_)
    try simp only [pu]
    refine held_more (S' := fun W' => Below r6T2.heap.size r6T2 W') (fun W h => hS2.trans (h.mono hS2.size)) _ _ _ _ ?_
    clear hHeld
    have hHeld := Below.refl r6T2.heap.size r6T2
    clear hK K hb2
    refine wpAnyH_ready (rs := [4]) (by kernel_rfl) (by simp) ?_
    refine AllReadyH.cons (i := 4) (o := ⟨(some 34), _, _, _, _, _⟩) rfl (fun K hK => ?_) AllReadyH.nil
    go_simp
    refine (rfbytes_any _ A6 ([] ++ gr a.dev.toNat ++ gr a.num.toNat ++ vput a.seen ++ gr a.kind.toNat ++ gr a.time.toNat ++ (gr a.con.size ++ a.con.data.toList)) n6 c6 BF a.fld.data.toList a.fld.size kF (hy6_2.next hHeld) hl6.out (by omega) (hyF.next hHeld) (by simp) (by omega)).mono ?_
    rintro e r6T3 ⟨A7, n7, c7, rfl, hr7, hb3⟩
    have hS3 := below_next hHeld hHeld.size hb3
    have hn7 : n7 ≤ n6 + 9 + a.fld.size := by have h := hr7.len; rw [List.length_append, hl6.out, List.length_append] at h; have := gr_le a.fld.size; have h2 : a.fld.data.toList.length = a.fld.size := (by simp); omega
    have hl7 := Lib.hid hr7.len
    have hy7 := hr7.byt
    clear hr7
    have g_3 := row_next2 g_2 hS3
    have hb_3 := below_next hb_2 hb_2.size hS3
    have hy6_3 := hy6_2.next hS3
    have hyU_3 := hyU_2.next hS3
    have hyF_3 := hyF.next hS3
    refine hK.out _ _ hS3 (fun hHeld => ?_)
    try simp only [pu]
    refine held_more (S' := fun W' => Below r6T3.heap.size r6T3 W') (fun W h => hS3.trans (h.mono hS3.size)) _ _ _ _ ?_
    clear hHeld
    have hHeld := Below.refl r6T3.heap.size r6T3
    clear hK K hb3
    refine wpAnyH_ready (rs := [8]) (by kernel_rfl) (by simp) ?_
    refine AllReadyH.cons (i := 8) (o := ⟨(some 38), _, _, _, _, _⟩) rfl (fun K hK => ?_) AllReadyH.nil
    go_simp
    refine (rfbytes_any _ A7 ([] ++ gr a.dev.toNat ++ gr a.num.toNat ++ vput a.seen ++ gr a.kind.toNat ++ gr a.time.toNat ++ (gr a.con.size ++ a.con.data.toList) ++ (gr a.fld.size ++ a.fld.data.toList)) n7 c7 BU a.val.data.toList a.val.size kU (hy7.next hHeld) hl7.out (by omega) (hyU_3.next hHeld) (by simp) (by omega)).mono ?_
    rintro e r6T4 ⟨A8, n8, c8, rfl, hr8, hb4⟩
    have hS4 := below_next hHeld hHeld.size hb4
    have hn8 : n8 ≤ n7 + 9 + a.val.size := by have h := hr8.len; rw [List.length_append, hl7.out, List.length_append] at h; have := gr_le a.val.size; have h2 : a.val.data.toList.length = a.val.size := (by simp); omega
    have hl8 := Lib.hid hr8.len
    have hy8 := hr8.byt
    clear hr8
    have g_4 := row_next2 g_3 hS4
    have hb_4 := below_next hb_3 hb_3.size hS4
    have hy6_4 := hy6_3.next hS4
    have hyU_4 := hyU_3.next hS4
    have hyF_4 := hyF_3.next hS4
    have hy7_4 := hy7.next hS4
    refine hK.out _ _ hS4 (fun hHeld => ?_)
    try simp only [pu]
    refine held_more (S' := fun W' => Below r6T4.heap.size r6T4 W') (fun W h => hS4.trans (h.mono hS4.size)) _ _ _ _ ?_
    clear hHeld
    have hHeld := Below.refl r6T4.heap.size r6T4
    clear hK K hb4
    refine wpAnyH_take (i := 9) (oi := ⟨(some 2), _, _, _, _, _⟩) (v := .slice A8 n8 c8) rfl (by kernel_rfl) (by kernel_rfl) (by kernel_rfl) (fun _ _ _ h => h) (Or.inl ⟨by rfl, ?yr6_9⟩) hHeld ?_
    case yr6_9 => (intro W0 hSw; go_simp; try with_reducible rfl)
    try simp only [pu]
    refine wpAnyH_done (by kernel_rfl) ?_ _
    go_wp2
    go_ret
    refine ⟨A8, n8, c8, rfl, ?_, ?_, below_next hb_4 hb_4.size hHeld⟩
    · rw [← HP.out]; exact hy8.next hHeld
    · rw [← HP.out]; exact hl8
end Go.Proofs.Ytabgkkdgamacnaa
namespace Go.Proofs.Ytabgkkdgamacnaa
open Go.RowKit

theorem text_eql (x y : ByteArray) (w : World) : (binOp .eql 9 (.string x) (.string y)).run Try.prog w = .ok (.bool (decide (x = y))) w := by
  rw [← text_beq]
  simp [go_sem]
theorem text_neq (x y : ByteArray) (w : World) : (binOp .neq 9 (.string x) (.string y)).run Try.prog w = .ok (.bool (!decide (x = y))) w := by
  rw [← text_beq]
  simp [go_sem]
set_option maxRecDepth 100000 in
set_option maxHeartbeats 1000000 in
theorem oover_any (w : World) (a b : Ed) (ha : a.seen.length = 8) (hb : b.seen.length = 8) :
    Calls Try.prog 12 #[.agg a.cells.toArray, .agg b.cells.toArray] w fun e w' => e = .returned (.bool (eover a b)) ∧ Below w.heap.size w w' := by
  obtain ⟨W, hW, hgA, hgB, hbW, hsW⟩ := pair_new w a.cells.toArray b.cells.toArray 28 28
  have HW := Lib.hid hW
  have HA := Lib.hid ha
  have HB := Lib.hid hb
  have d1 := fun w => vhas_any w a.seen ha b.dev b.num
  have q1 := text_eql a.con b.con
  have q2 := text_eql a.fld b.fld
  have r1 := text_neq a.con b.con
  obtain ⟨o, ho⟩ : ∃ o, o = eover a b := ⟨_, rfl⟩
  obtain ⟨x1, h1⟩ : ∃ o, o = vhas a.seen b.dev b.num := ⟨_, rfl⟩
  obtain ⟨x2, h2⟩ : ∃ o, o = decide (a.con = b.con) := ⟨_, rfl⟩
  obtain ⟨x3, h3⟩ : ∃ o, o = decide (a.fld = b.fld) := ⟨_, rfl⟩
  simp only [← h1] at d1
  rw [← h2] at q1 r1
  have e2 : (a.fld.toList == b.fld.toList) = x3 := by rw [h3, ← text_beq]
  have e1 : (a.con.toList = b.con.toList) = (x2 = true) := by rw [h2, ← text_beq, beq_iff_eq]
  rw [← h3] at q2
  have HO := vlt (show o = (decide (b.kind = 1) && x1 && x2 && (decide (a.kind = 2) || decide (a.kind = 1) && x3)) by rw [ho, h1, h2, h3]; rfl)
  rw [← ho]
  clear hW ha hb hsW ho h1 h2 h3
  go_enter Try.func12, Try.ntmps12
  go_upto_region 1 with fail
  rw [HW.out]
  clear HW
  by_cases k1 : b.kind = 1
  · cases x1
    · skip
      refine plain_start (S := fun W' => Below W.heap.size W W') (by kernel_rfl) (Below.refl _ _) (fun hHeld => ?_)
      refine wpAnyH_take (i := 0) (oi := ⟨(some 5), _, _, _, _, _⟩) (v := .pointer (some ⟨(w.heap.size + 1), 10, none⟩)) rfl (by kernel_rfl) (by kernel_rfl) (by kernel_rfl) (fun _ _ _ h => h) (Or.inl ⟨by rfl, ?yr1_0⟩) hHeld ?_
      case yr1_0 => (intro W0 hSw; go_simp; try with_reducible rfl)
      try simp only [pu]
      refine wpAnyH_take (i := 1) (oi := ⟨(some 6), _, _, _, _, _⟩) (v := .int .i64 b.kind) rfl (by kernel_rfl) (by kernel_rfl) (by kernel_rfl) (fun _ _ _ h => h) (Or.inl ⟨by rfl, ?yr1_1⟩) hHeld ?_
      case yr1_1 => (intro W0 hSw; have cc := ed_kind (row_next2 hgB hSw) HB.out; go_simp; try with_reducible rfl)
      try simp only [pu]
      refine wpAnyH_take (i := 2) (oi := ⟨(some 7), _, _, _, _, _⟩) (v := .bool false) rfl (by kernel_rfl) (by kernel_rfl) (by kernel_rfl) (fun _ _ _ h => h) (Or.inl ⟨by rfl, ?yr1_2⟩) hHeld ?_
      case yr1_2 => (intro W0 hSw; go_simp; try simp [k1])
      try simp only [pu]
      refine wpAnyH_take (i := 3) (oi := ⟨(some 8), _, _, _, _, _⟩) (v := .bool false) rfl (by kernel_rfl) (by kernel_rfl) (by kernel_rfl) (fun _ _ _ h => h) (Or.inl ⟨by rfl, ?yr1_3⟩) hHeld ?_
      case yr1_3 => (intro W0 hSw; go_simp; try with_reducible rfl)
      try simp only [pu]
      refine wpAnyH_take (i := 4) (oi := ⟨(some 9), _, _, _, _, _⟩) (v := .pointer (some ⟨w.heap.size, 2, none⟩)) rfl (by kernel_rfl) (by kernel_rfl) (by kernel_rfl) (fun _ _ _ h => h) (Or.inl ⟨by rfl, ?yr1_4⟩) hHeld ?_
      case yr1_4 => (intro W0 hSw; go_simp; try with_reducible rfl)
      try simp only [pu]
      refine wpAnyH_take (i := 5) (oi := ⟨(some 10), _, _, _, _, _⟩) (v := .agg (i64v a.seen).toArray) rfl (by kernel_rfl) (by kernel_rfl) (by kernel_rfl) (fun _ _ _ h => h) (yieldsIf_load_mid (by rfl) _ _ rfl (w.heap.size) 2 rfl (i64v a.seen) _ (fun W' hW' => ed_seenR (row_next2 hgA hW')) (Try.underlying26) rfl (by rw [i64v_len, HA.out]; kernel_rfl)) hHeld ?_
      try simp only [pu]
      refine wpAnyH_take (i := 6) (oi := ⟨(some 11), _, _, _, _, _⟩) (v := .pointer (some ⟨(w.heap.size + 1), 0, none⟩)) rfl (by kernel_rfl) (by kernel_rfl) (by kernel_rfl) (fun _ _ _ h => h) (Or.inl ⟨by rfl, ?yr1_6⟩) hHeld ?_
      case yr1_6 => (intro W0 hSw; go_simp; try with_reducible rfl)
      try simp only [pu]
      refine wpAnyH_take (i := 7) (oi := ⟨(some 12), _, _, _, _, _⟩) (v := .agg [.int .i64 b.dev, .int .i64 b.num].toArray) rfl (by kernel_rfl) (by kernel_rfl) (by kernel_rfl) (fun _ _ _ h => h) (yieldsIf_load_mid (by rfl) _ _ rfl ((w.heap.size + 1)) 0 rfl [.int .i64 b.dev, .int .i64 b.num] _ (fun W' hW' => ed_dotR (row_next2 hgB hW')) (Try.underlying24) rfl (by kernel_rfl)) hHeld ?_
      try simp only [pu]
      refine wpAnyH_ready (rs := [8]) (by kernel_rfl) (by simp) ?_
      refine AllReadyH.cons (i := 8) (o := ⟨(some 13), _, _, _, _, _⟩) rfl (fun K hK => ?_) AllReadyH.nil
      go_simp
      refine (d1 _).mono ?_
      rintro e r1W1 ⟨rfl, r1h1⟩
      refine hK.out _ _ (below_next hHeld hHeld.size r1h1) (fun hHeld => ?_)
      clear hK K r1h1
      try simp only [pu]
      refine wpAnyH_take (i := 9) (oi := ⟨(some 14), _, _, _, _, _⟩) (v := .bool true) rfl (by kernel_rfl) (by kernel_rfl) (by kernel_rfl) (fun _ _ _ h => h) (Or.inl ⟨by rfl, ?yr1_9⟩) hHeld ?_
      case yr1_9 => (intro W0 hSw; go_simp; try with_reducible rfl)
      try simp only [pu]
      refine wpAnyH_take (i := 10) (oi := ⟨(some 15), _, _, _, _, _⟩) (v := .bool true) rfl (by kernel_rfl) (by kernel_rfl) (by kernel_rfl) (fun _ _ _ h => h) (Or.inl ⟨by rfl, ?yr1_10⟩) hHeld ?_
      case yr1_10 => (intro W0 hSw; go_simp; try with_reducible rfl)
      try simp only [pu]
      refine wpAnyH_take (i := 11) (oi := ⟨(some 16), _, _, _, _, _⟩) (v := .bool true) rfl (by kernel_rfl) (by kernel_rfl) (by kernel_rfl) (fun _ _ _ h => h) (Or.inl ⟨by rfl, ?yr1_11⟩) hHeld ?_
      case yr1_11 => (intro W0 hSw; go_simp; try with_reducible rfl)
      try simp only [pu]
      refine wpAnyH_take (i := 12) (oi := ⟨(some 17), _, _, _, _, _⟩) (v := undef) rfl (by kernel_rfl) (by kernel_rfl) (by kernel_rfl) (fun _ _ _ h => h) (Or.inr ⟨by rfl, rfl⟩) hHeld ?_
      try simp only [pu]
      refine wpAnyH_take (i := 13) (oi := ⟨(some 18), _, _, _, _, _⟩) (v := undef) rfl (by kernel_rfl) (by kernel_rfl) (by kernel_rfl) (fun _ _ _ h => h) (Or.inr ⟨by rfl, rfl⟩) hHeld ?_
      try simp only [pu]
      refine wpAnyH_take (i := 14) (oi := ⟨(some 19), _, _, _, _, _⟩) (v := undef) rfl (by kernel_rfl) (by kernel_rfl) (by kernel_rfl) (fun _ _ _ h => h) (Or.inr ⟨by rfl, rfl⟩) hHeld ?_
      try simp only [pu]
      refine wpAnyH_take (i := 15) (oi := ⟨(some 20), _, _, _, _, _⟩) (v := undef) rfl (by kernel_rfl) (by kernel_rfl) (by kernel_rfl) (fun _ _ _ h => h) (Or.inr ⟨by rfl, rfl⟩) hHeld ?_
      try simp only [pu]
      refine wpAnyH_take (i := 16) (oi := ⟨(some 21), _, _, _, _, _⟩) (v := undef) rfl (by kernel_rfl) (by kernel_rfl) (by kernel_rfl) (fun _ _ _ h => h) (Or.inr ⟨by rfl, rfl⟩) hHeld ?_
      try simp only [pu]
      refine wpAnyH_take (i := 17) (oi := ⟨(some 22), _, _, _, _, _⟩) (v := .bool true) rfl (by kernel_rfl) (by kernel_rfl) (by kernel_rfl) (fun _ _ _ h => h) (Or.inl ⟨by rfl, ?yr1_17⟩) hHeld ?_
      case yr1_17 => (intro W0 hSw; go_simp; try with_reducible rfl)
      try simp only [pu]
      refine wpAnyH_done (by kernel_rfl) ?_ _
      go_wp2
      go_ret
      exact ⟨ret_bool (by rw [HO.out, decide_eq_true k1]; simp), below_next hbW hbW.size hHeld⟩
    · cases x2
      · skip
        refine plain_start (S := fun W' => Below W.heap.size W W') (by kernel_rfl) (Below.refl _ _) (fun hHeld => ?_)
        refine wpAnyH_take (i := 0) (oi := ⟨(some 5), _, _, _, _, _⟩) (v := .pointer (some ⟨(w.heap.size + 1), 10, none⟩)) rfl (by kernel_rfl) (by kernel_rfl) (by kernel_rfl) (fun _ _ _ h => h) (Or.inl ⟨by rfl, ?yr1_0⟩) hHeld ?_
        case yr1_0 => (intro W0 hSw; go_simp; try with_reducible rfl)
        try simp only [pu]
        refine wpAnyH_take (i := 1) (oi := ⟨(some 6), _, _, _, _, _⟩) (v := .int .i64 b.kind) rfl (by kernel_rfl) (by kernel_rfl) (by kernel_rfl) (fun _ _ _ h => h) (Or.inl ⟨by rfl, ?yr1_1⟩) hHeld ?_
        case yr1_1 => (intro W0 hSw; have cc := ed_kind (row_next2 hgB hSw) HB.out; go_simp; try with_reducible rfl)
        try simp only [pu]
        refine wpAnyH_take (i := 2) (oi := ⟨(some 7), _, _, _, _, _⟩) (v := .bool false) rfl (by kernel_rfl) (by kernel_rfl) (by kernel_rfl) (fun _ _ _ h => h) (Or.inl ⟨by rfl, ?yr1_2⟩) hHeld ?_
        case yr1_2 => (intro W0 hSw; go_simp; try simp [k1])
        try simp only [pu]
        refine wpAnyH_take (i := 3) (oi := ⟨(some 8), _, _, _, _, _⟩) (v := .bool false) rfl (by kernel_rfl) (by kernel_rfl) (by kernel_rfl) (fun _ _ _ h => h) (Or.inl ⟨by rfl, ?yr1_3⟩) hHeld ?_
        case yr1_3 => (intro W0 hSw; go_simp; try with_reducible rfl)
        try simp only [pu]
        refine wpAnyH_take (i := 4) (oi := ⟨(some 9), _, _, _, _, _⟩) (v := .pointer (some ⟨w.heap.size, 2, none⟩)) rfl (by kernel_rfl) (by kernel_rfl) (by kernel_rfl) (fun _ _ _ h => h) (Or.inl ⟨by rfl, ?yr1_4⟩) hHeld ?_
        case yr1_4 => (intro W0 hSw; go_simp; try with_reducible rfl)
        try simp only [pu]
        refine wpAnyH_take (i := 5) (oi := ⟨(some 10), _, _, _, _, _⟩) (v := .agg (i64v a.seen).toArray) rfl (by kernel_rfl) (by kernel_rfl) (by kernel_rfl) (fun _ _ _ h => h) (yieldsIf_load_mid (by rfl) _ _ rfl (w.heap.size) 2 rfl (i64v a.seen) _ (fun W' hW' => ed_seenR (row_next2 hgA hW')) (Try.underlying26) rfl (by rw [i64v_len, HA.out]; kernel_rfl)) hHeld ?_
        try simp only [pu]
        refine wpAnyH_take (i := 6) (oi := ⟨(some 11), _, _, _, _, _⟩) (v := .pointer (some ⟨(w.heap.size + 1), 0, none⟩)) rfl (by kernel_rfl) (by kernel_rfl) (by kernel_rfl) (fun _ _ _ h => h) (Or.inl ⟨by rfl, ?yr1_6⟩) hHeld ?_
        case yr1_6 => (intro W0 hSw; go_simp; try with_reducible rfl)
        try simp only [pu]
        refine wpAnyH_take (i := 7) (oi := ⟨(some 12), _, _, _, _, _⟩) (v := .agg [.int .i64 b.dev, .int .i64 b.num].toArray) rfl (by kernel_rfl) (by kernel_rfl) (by kernel_rfl) (fun _ _ _ h => h) (yieldsIf_load_mid (by rfl) _ _ rfl ((w.heap.size + 1)) 0 rfl [.int .i64 b.dev, .int .i64 b.num] _ (fun W' hW' => ed_dotR (row_next2 hgB hW')) (Try.underlying24) rfl (by kernel_rfl)) hHeld ?_
        try simp only [pu]
        refine wpAnyH_ready (rs := [8]) (by kernel_rfl) (by simp) ?_
        refine AllReadyH.cons (i := 8) (o := ⟨(some 13), _, _, _, _, _⟩) rfl (fun K hK => ?_) AllReadyH.nil
        go_simp
        refine (d1 _).mono ?_
        rintro e r1W1 ⟨rfl, r1h1⟩
        refine hK.out _ _ (below_next hHeld hHeld.size r1h1) (fun hHeld => ?_)
        clear hK K r1h1
        try simp only [pu]
        refine wpAnyH_take (i := 9) (oi := ⟨(some 14), _, _, _, _, _⟩) (v := .bool false) rfl (by kernel_rfl) (by kernel_rfl) (by kernel_rfl) (fun _ _ _ h => h) (Or.inl ⟨by rfl, ?yr1_9⟩) hHeld ?_
        case yr1_9 => (intro W0 hSw; go_simp; try with_reducible rfl)
        try simp only [pu]
        refine wpAnyH_take (i := 10) (oi := ⟨(some 15), _, _, _, _, _⟩) (v := .bool false) rfl (by kernel_rfl) (by kernel_rfl) (by kernel_rfl) (fun _ _ _ h => h) (Or.inl ⟨by rfl, ?yr1_10⟩) hHeld ?_
        case yr1_10 => (intro W0 hSw; go_simp; try with_reducible rfl)
        try simp only [pu]
        refine wpAnyH_take (i := 11) (oi := ⟨(some 16), _, _, _, _, _⟩) (v := .bool false) rfl (by kernel_rfl) (by kernel_rfl) (by kernel_rfl) (fun _ _ _ h => h) (Or.inl ⟨by rfl, ?yr1_11⟩) hHeld ?_
        case yr1_11 => (intro W0 hSw; go_simp; try with_reducible rfl)
        try simp only [pu]
        refine wpAnyH_take (i := 12) (oi := ⟨(some 17), _, _, _, _, _⟩) (v := .pointer (some ⟨w.heap.size, 11, none⟩)) rfl (by kernel_rfl) (by kernel_rfl) (by kernel_rfl) (fun _ _ _ h => h) (Or.inl ⟨by rfl, ?yr1_12⟩) hHeld ?_
        case yr1_12 => (intro W0 hSw; go_simp; try with_reducible rfl)
        try simp only [pu]
        refine wpAnyH_take (i := 13) (oi := ⟨(some 18), _, _, _, _, _⟩) (v := .string a.con) rfl (by kernel_rfl) (by kernel_rfl) (by kernel_rfl) (fun _ _ _ h => h) (Or.inl ⟨by rfl, ?yr1_13⟩) hHeld ?_
        case yr1_13 => (intro W0 hSw; have cc := ed_con (row_next2 hgA hSw) HA.out; go_simp; try with_reducible rfl)
        try simp only [pu]
        refine wpAnyH_take (i := 14) (oi := ⟨(some 19), _, _, _, _, _⟩) (v := .pointer (some ⟨(w.heap.size + 1), 11, none⟩)) rfl (by kernel_rfl) (by kernel_rfl) (by kernel_rfl) (fun _ _ _ h => h) (Or.inl ⟨by rfl, ?yr1_14⟩) hHeld ?_
        case yr1_14 => (intro W0 hSw; go_simp; try with_reducible rfl)
        try simp only [pu]
        refine wpAnyH_take (i := 15) (oi := ⟨(some 20), _, _, _, _, _⟩) (v := .string b.con) rfl (by kernel_rfl) (by kernel_rfl) (by kernel_rfl) (fun _ _ _ h => h) (Or.inl ⟨by rfl, ?yr1_15⟩) hHeld ?_
        case yr1_15 => (intro W0 hSw; have cc := ed_con (row_next2 hgB hSw) HB.out; go_simp; try with_reducible rfl)
        try simp only [pu]
        refine wpAnyH_take (i := 16) (oi := ⟨(some 21), _, _, _, _, _⟩) (v := .bool true) rfl (by kernel_rfl) (by kernel_rfl) (by kernel_rfl) (fun _ _ _ h => h) (Or.inl ⟨by rfl, ?yr1_16⟩) hHeld ?_
        case yr1_16 => (intro W0 hSw; go_simp; try simp [e1])
        try simp only [pu]
        refine wpAnyH_take (i := 17) (oi := ⟨(some 22), _, _, _, _, _⟩) (v := .bool true) rfl (by kernel_rfl) (by kernel_rfl) (by kernel_rfl) (fun _ _ _ h => h) (Or.inl ⟨by rfl, ?yr1_17⟩) hHeld ?_
        case yr1_17 => (intro W0 hSw; go_simp; try with_reducible rfl)
        try simp only [pu]
        refine wpAnyH_done (by kernel_rfl) ?_ _
        go_wp2
        go_ret
        exact ⟨ret_bool (by rw [HO.out, decide_eq_true k1]; simp), below_next hbW hbW.size hHeld⟩
      · skip
        refine plain_start (S := fun W' => Below W.heap.size W W') (by kernel_rfl) (Below.refl _ _) (fun hHeld => ?_)
        refine wpAnyH_take (i := 0) (oi := ⟨(some 5), _, _, _, _, _⟩) (v := .pointer (some ⟨(w.heap.size + 1), 10, none⟩)) rfl (by kernel_rfl) (by kernel_rfl) (by kernel_rfl) (fun _ _ _ h => h) (Or.inl ⟨by rfl, ?yr1_0⟩) hHeld ?_
        case yr1_0 => (intro W0 hSw; go_simp; try with_reducible rfl)
        try simp only [pu]
        refine wpAnyH_take (i := 1) (oi := ⟨(some 6), _, _, _, _, _⟩) (v := .int .i64 b.kind) rfl (by kernel_rfl) (by kernel_rfl) (by kernel_rfl) (fun _ _ _ h => h) (Or.inl ⟨by rfl, ?yr1_1⟩) hHeld ?_
        case yr1_1 => (intro W0 hSw; have cc := ed_kind (row_next2 hgB hSw) HB.out; go_simp; try with_reducible rfl)
        try simp only [pu]
        refine wpAnyH_take (i := 2) (oi := ⟨(some 7), _, _, _, _, _⟩) (v := .bool false) rfl (by kernel_rfl) (by kernel_rfl) (by kernel_rfl) (fun _ _ _ h => h) (Or.inl ⟨by rfl, ?yr1_2⟩) hHeld ?_
        case yr1_2 => (intro W0 hSw; go_simp; try simp [k1])
        try simp only [pu]
        refine wpAnyH_take (i := 3) (oi := ⟨(some 8), _, _, _, _, _⟩) (v := .bool false) rfl (by kernel_rfl) (by kernel_rfl) (by kernel_rfl) (fun _ _ _ h => h) (Or.inl ⟨by rfl, ?yr1_3⟩) hHeld ?_
        case yr1_3 => (intro W0 hSw; go_simp; try with_reducible rfl)
        try simp only [pu]
        refine wpAnyH_take (i := 4) (oi := ⟨(some 9), _, _, _, _, _⟩) (v := .pointer (some ⟨w.heap.size, 2, none⟩)) rfl (by kernel_rfl) (by kernel_rfl) (by kernel_rfl) (fun _ _ _ h => h) (Or.inl ⟨by rfl, ?yr1_4⟩) hHeld ?_
        case yr1_4 => (intro W0 hSw; go_simp; try with_reducible rfl)
        try simp only [pu]
        refine wpAnyH_take (i := 5) (oi := ⟨(some 10), _, _, _, _, _⟩) (v := .agg (i64v a.seen).toArray) rfl (by kernel_rfl) (by kernel_rfl) (by kernel_rfl) (fun _ _ _ h => h) (yieldsIf_load_mid (by rfl) _ _ rfl (w.heap.size) 2 rfl (i64v a.seen) _ (fun W' hW' => ed_seenR (row_next2 hgA hW')) (Try.underlying26) rfl (by rw [i64v_len, HA.out]; kernel_rfl)) hHeld ?_
        try simp only [pu]
        refine wpAnyH_take (i := 6) (oi := ⟨(some 11), _, _, _, _, _⟩) (v := .pointer (some ⟨(w.heap.size + 1), 0, none⟩)) rfl (by kernel_rfl) (by kernel_rfl) (by kernel_rfl) (fun _ _ _ h => h) (Or.inl ⟨by rfl, ?yr1_6⟩) hHeld ?_
        case yr1_6 => (intro W0 hSw; go_simp; try with_reducible rfl)
        try simp only [pu]
        refine wpAnyH_take (i := 7) (oi := ⟨(some 12), _, _, _, _, _⟩) (v := .agg [.int .i64 b.dev, .int .i64 b.num].toArray) rfl (by kernel_rfl) (by kernel_rfl) (by kernel_rfl) (fun _ _ _ h => h) (yieldsIf_load_mid (by rfl) _ _ rfl ((w.heap.size + 1)) 0 rfl [.int .i64 b.dev, .int .i64 b.num] _ (fun W' hW' => ed_dotR (row_next2 hgB hW')) (Try.underlying24) rfl (by kernel_rfl)) hHeld ?_
        try simp only [pu]
        refine wpAnyH_ready (rs := [8]) (by kernel_rfl) (by simp) ?_
        refine AllReadyH.cons (i := 8) (o := ⟨(some 13), _, _, _, _, _⟩) rfl (fun K hK => ?_) AllReadyH.nil
        go_simp
        refine (d1 _).mono ?_
        rintro e r1W1 ⟨rfl, r1h1⟩
        refine hK.out _ _ (below_next hHeld hHeld.size r1h1) (fun hHeld => ?_)
        clear hK K r1h1
        try simp only [pu]
        refine wpAnyH_take (i := 9) (oi := ⟨(some 14), _, _, _, _, _⟩) (v := .bool false) rfl (by kernel_rfl) (by kernel_rfl) (by kernel_rfl) (fun _ _ _ h => h) (Or.inl ⟨by rfl, ?yr1_9⟩) hHeld ?_
        case yr1_9 => (intro W0 hSw; go_simp; try with_reducible rfl)
        try simp only [pu]
        refine wpAnyH_take (i := 10) (oi := ⟨(some 15), _, _, _, _, _⟩) (v := .bool false) rfl (by kernel_rfl) (by kernel_rfl) (by kernel_rfl) (fun _ _ _ h => h) (Or.inl ⟨by rfl, ?yr1_10⟩) hHeld ?_
        case yr1_10 => (intro W0 hSw; go_simp; try with_reducible rfl)
        try simp only [pu]
        refine wpAnyH_take (i := 11) (oi := ⟨(some 16), _, _, _, _, _⟩) (v := .bool false) rfl (by kernel_rfl) (by kernel_rfl) (by kernel_rfl) (fun _ _ _ h => h) (Or.inl ⟨by rfl, ?yr1_11⟩) hHeld ?_
        case yr1_11 => (intro W0 hSw; go_simp; try with_reducible rfl)
        try simp only [pu]
        refine wpAnyH_take (i := 12) (oi := ⟨(some 17), _, _, _, _, _⟩) (v := .pointer (some ⟨w.heap.size, 11, none⟩)) rfl (by kernel_rfl) (by kernel_rfl) (by kernel_rfl) (fun _ _ _ h => h) (Or.inl ⟨by rfl, ?yr1_12⟩) hHeld ?_
        case yr1_12 => (intro W0 hSw; go_simp; try with_reducible rfl)
        try simp only [pu]
        refine wpAnyH_take (i := 13) (oi := ⟨(some 18), _, _, _, _, _⟩) (v := .string a.con) rfl (by kernel_rfl) (by kernel_rfl) (by kernel_rfl) (fun _ _ _ h => h) (Or.inl ⟨by rfl, ?yr1_13⟩) hHeld ?_
        case yr1_13 => (intro W0 hSw; have cc := ed_con (row_next2 hgA hSw) HA.out; go_simp; try with_reducible rfl)
        try simp only [pu]
        refine wpAnyH_take (i := 14) (oi := ⟨(some 19), _, _, _, _, _⟩) (v := .pointer (some ⟨(w.heap.size + 1), 11, none⟩)) rfl (by kernel_rfl) (by kernel_rfl) (by kernel_rfl) (fun _ _ _ h => h) (Or.inl ⟨by rfl, ?yr1_14⟩) hHeld ?_
        case yr1_14 => (intro W0 hSw; go_simp; try with_reducible rfl)
        try simp only [pu]
        refine wpAnyH_take (i := 15) (oi := ⟨(some 20), _, _, _, _, _⟩) (v := .string b.con) rfl (by kernel_rfl) (by kernel_rfl) (by kernel_rfl) (fun _ _ _ h => h) (Or.inl ⟨by rfl, ?yr1_15⟩) hHeld ?_
        case yr1_15 => (intro W0 hSw; have cc := ed_con (row_next2 hgB hSw) HB.out; go_simp; try with_reducible rfl)
        try simp only [pu]
        refine wpAnyH_take (i := 16) (oi := ⟨(some 21), _, _, _, _, _⟩) (v := .bool false) rfl (by kernel_rfl) (by kernel_rfl) (by kernel_rfl) (fun _ _ _ h => h) (Or.inl ⟨by rfl, ?yr1_16⟩) hHeld ?_
        case yr1_16 => (intro W0 hSw; go_simp; try simp [e1])
        try simp only [pu]
        refine wpAnyH_take (i := 17) (oi := ⟨(some 22), _, _, _, _, _⟩) (v := .bool false) rfl (by kernel_rfl) (by kernel_rfl) (by kernel_rfl) (fun _ _ _ h => h) (Or.inl ⟨by rfl, ?yr1_17⟩) hHeld ?_
        case yr1_17 => (intro W0 hSw; go_simp; try with_reducible rfl)
        try simp only [pu]
        refine wpAnyH_done (by kernel_rfl) ?_ _
        go_upto_region 3 with fail
        obtain ⟨V, hV⟩ : ∃ V, V = r1W1 := ⟨_, rfl⟩
        subst hV
        have gA := row_next2 hgA hHeld
        have gB := row_next2 hgB hHeld
        have hbV := below_next hbW hbW.size hHeld
        clear hHeld hgA hgB hbW
        by_cases a2 : a.kind = 2
        · skip
          refine plain_start (S := fun W' => Below V.heap.size V W') (by kernel_rfl) (Below.refl _ _) (fun hHeld => ?_)
          refine wpAnyH_take (i := 0) (oi := ⟨(some 23), _, _, _, _, _⟩) (v := .pointer (some ⟨w.heap.size, 10, none⟩)) rfl (by kernel_rfl) (by kernel_rfl) (by kernel_rfl) (fun _ _ _ h => h) (Or.inl ⟨by rfl, ?yr3_0⟩) hHeld ?_
          case yr3_0 => (intro W0 hSw; go_simp; try with_reducible rfl)
          try simp only [pu]
          refine wpAnyH_take (i := 1) (oi := ⟨(some 24), _, _, _, _, _⟩) (v := .int .i64 a.kind) rfl (by kernel_rfl) (by kernel_rfl) (by kernel_rfl) (fun _ _ _ h => h) (Or.inl ⟨by rfl, ?yr3_1⟩) hHeld ?_
          case yr3_1 => (intro W0 hSw; have cc := ed_kind (row_next2 gA hSw) HA.out; go_simp; try with_reducible rfl)
          try simp only [pu]
          refine wpAnyH_take (i := 2) (oi := ⟨(some 25), _, _, _, _, _⟩) (v := .bool true) rfl (by kernel_rfl) (by kernel_rfl) (by kernel_rfl) (fun _ _ _ h => h) (Or.inl ⟨by rfl, ?yr3_2⟩) hHeld ?_
          case yr3_2 => (intro W0 hSw; go_simp; try simp [a2])
          try simp only [pu]
          refine wpAnyH_take (i := 3) (oi := ⟨(some 26), _, _, _, _, _⟩) (v := .bool true) rfl (by kernel_rfl) (by kernel_rfl) (by kernel_rfl) (fun _ _ _ h => h) (Or.inl ⟨by rfl, ?yr3_3⟩) hHeld ?_
          case yr3_3 => (intro W0 hSw; go_simp; try with_reducible rfl)
          try simp only [pu]
          refine wpAnyH_take (i := 4) (oi := ⟨(some 27), _, _, _, _, _⟩) (v := undef) rfl (by kernel_rfl) (by kernel_rfl) (by kernel_rfl) (fun _ _ _ h => h) (Or.inr ⟨by rfl, rfl⟩) hHeld ?_
          try simp only [pu]
          refine wpAnyH_take (i := 5) (oi := ⟨(some 28), _, _, _, _, _⟩) (v := undef) rfl (by kernel_rfl) (by kernel_rfl) (by kernel_rfl) (fun _ _ _ h => h) (Or.inr ⟨by rfl, rfl⟩) hHeld ?_
          try simp only [pu]
          refine wpAnyH_take (i := 6) (oi := ⟨(some 29), _, _, _, _, _⟩) (v := undef) rfl (by kernel_rfl) (by kernel_rfl) (by kernel_rfl) (fun _ _ _ h => h) (Or.inr ⟨by rfl, rfl⟩) hHeld ?_
          try simp only [pu]
          refine wpAnyH_take (i := 7) (oi := ⟨(some 30), _, _, _, _, _⟩) (v := undef) rfl (by kernel_rfl) (by kernel_rfl) (by kernel_rfl) (fun _ _ _ h => h) (Or.inr ⟨by rfl, rfl⟩) hHeld ?_
          try simp only [pu]
          refine wpAnyH_take (i := 8) (oi := ⟨(some 31), _, _, _, _, _⟩) (v := undef) rfl (by kernel_rfl) (by kernel_rfl) (by kernel_rfl) (fun _ _ _ h => h) (Or.inr ⟨by rfl, rfl⟩) hHeld ?_
          try simp only [pu]
          refine wpAnyH_take (i := 9) (oi := ⟨(some 32), _, _, _, _, _⟩) (v := undef) rfl (by kernel_rfl) (by kernel_rfl) (by kernel_rfl) (fun _ _ _ h => h) (Or.inr ⟨by rfl, rfl⟩) hHeld ?_
          try simp only [pu]
          refine wpAnyH_take (i := 10) (oi := ⟨(some 33), _, _, _, _, _⟩) (v := undef) rfl (by kernel_rfl) (by kernel_rfl) (by kernel_rfl) (fun _ _ _ h => h) (Or.inr ⟨by rfl, rfl⟩) hHeld ?_
          try simp only [pu]
          refine wpAnyH_take (i := 11) (oi := ⟨(some 34), _, _, _, _, _⟩) (v := undef) rfl (by kernel_rfl) (by kernel_rfl) (by kernel_rfl) (fun _ _ _ h => h) (Or.inr ⟨by rfl, rfl⟩) hHeld ?_
          try simp only [pu]
          refine wpAnyH_take (i := 12) (oi := ⟨(some 35), _, _, _, _, _⟩) (v := undef) rfl (by kernel_rfl) (by kernel_rfl) (by kernel_rfl) (fun _ _ _ h => h) (Or.inr ⟨by rfl, rfl⟩) hHeld ?_
          try simp only [pu]
          refine wpAnyH_take (i := 13) (oi := ⟨(some 36), _, _, _, _, _⟩) (v := undef) rfl (by kernel_rfl) (by kernel_rfl) (by kernel_rfl) (fun _ _ _ h => h) (Or.inr ⟨by rfl, rfl⟩) hHeld ?_
          try simp only [pu]
          refine wpAnyH_take (i := 14) (oi := ⟨(some 37), _, _, _, _, _⟩) (v := .bool true) rfl (by kernel_rfl) (by kernel_rfl) (by kernel_rfl) (fun _ _ _ h => h) (Or.inl ⟨by rfl, ?yr3_14⟩) hHeld ?_
          case yr3_14 => (intro W0 hSw; go_simp; try with_reducible rfl)
          try simp only [pu]
          refine wpAnyH_take (i := 15) (oi := ⟨(some 4), _, _, _, _, _⟩) (v := .bool true) rfl (by kernel_rfl) (by kernel_rfl) (by kernel_rfl) (fun _ _ _ h => h) (Or.inl ⟨by rfl, ?yr3_15⟩) hHeld ?_
          case yr3_15 => (intro W0 hSw; go_simp; try with_reducible rfl)
          try simp only [pu]
          refine wpAnyH_done (by kernel_rfl) ?_ _
          go_wp2
          go_ret
          exact ⟨ret_bool (by rw [HO.out, decide_eq_true k1, decide_eq_true a2]; simp), below_next hbV hbV.size hHeld⟩
        · by_cases a1 : a.kind = 1
          · skip
            refine plain_start (S := fun W' => Below V.heap.size V W') (by kernel_rfl) (Below.refl _ _) (fun hHeld => ?_)
            refine wpAnyH_take (i := 0) (oi := ⟨(some 23), _, _, _, _, _⟩) (v := .pointer (some ⟨w.heap.size, 10, none⟩)) rfl (by kernel_rfl) (by kernel_rfl) (by kernel_rfl) (fun _ _ _ h => h) (Or.inl ⟨by rfl, ?yr3_0⟩) hHeld ?_
            case yr3_0 => (intro W0 hSw; go_simp; try with_reducible rfl)
            try simp only [pu]
            refine wpAnyH_take (i := 1) (oi := ⟨(some 24), _, _, _, _, _⟩) (v := .int .i64 a.kind) rfl (by kernel_rfl) (by kernel_rfl) (by kernel_rfl) (fun _ _ _ h => h) (Or.inl ⟨by rfl, ?yr3_1⟩) hHeld ?_
            case yr3_1 => (intro W0 hSw; have cc := ed_kind (row_next2 gA hSw) HA.out; go_simp; try with_reducible rfl)
            try simp only [pu]
            refine wpAnyH_take (i := 2) (oi := ⟨(some 25), _, _, _, _, _⟩) (v := .bool false) rfl (by kernel_rfl) (by kernel_rfl) (by kernel_rfl) (fun _ _ _ h => h) (Or.inl ⟨by rfl, ?yr3_2⟩) hHeld ?_
            case yr3_2 => (intro W0 hSw; go_simp; try simp [a2])
            try simp only [pu]
            refine wpAnyH_take (i := 3) (oi := ⟨(some 26), _, _, _, _, _⟩) (v := .bool false) rfl (by kernel_rfl) (by kernel_rfl) (by kernel_rfl) (fun _ _ _ h => h) (Or.inl ⟨by rfl, ?yr3_3⟩) hHeld ?_
            case yr3_3 => (intro W0 hSw; go_simp; try with_reducible rfl)
            try simp only [pu]
            refine wpAnyH_take (i := 4) (oi := ⟨(some 27), _, _, _, _, _⟩) (v := .pointer (some ⟨w.heap.size, 10, none⟩)) rfl (by kernel_rfl) (by kernel_rfl) (by kernel_rfl) (fun _ _ _ h => h) (Or.inl ⟨by rfl, ?yr3_4⟩) hHeld ?_
            case yr3_4 => (intro W0 hSw; go_simp; try with_reducible rfl)
            try simp only [pu]
            refine wpAnyH_take (i := 5) (oi := ⟨(some 28), _, _, _, _, _⟩) (v := .int .i64 a.kind) rfl (by kernel_rfl) (by kernel_rfl) (by kernel_rfl) (fun _ _ _ h => h) (Or.inl ⟨by rfl, ?yr3_5⟩) hHeld ?_
            case yr3_5 => (intro W0 hSw; have cc := ed_kind (row_next2 gA hSw) HA.out; go_simp; try with_reducible rfl)
            try simp only [pu]
            refine wpAnyH_take (i := 6) (oi := ⟨(some 29), _, _, _, _, _⟩) (v := .bool true) rfl (by kernel_rfl) (by kernel_rfl) (by kernel_rfl) (fun _ _ _ h => h) (Or.inl ⟨by rfl, ?yr3_6⟩) hHeld ?_
            case yr3_6 => (intro W0 hSw; go_simp; try simp [a1])
            try simp only [pu]
            refine wpAnyH_take (i := 7) (oi := ⟨(some 30), _, _, _, _, _⟩) (v := .bool true) rfl (by kernel_rfl) (by kernel_rfl) (by kernel_rfl) (fun _ _ _ h => h) (Or.inl ⟨by rfl, ?yr3_7⟩) hHeld ?_
            case yr3_7 => (intro W0 hSw; go_simp; try with_reducible rfl)
            try simp only [pu]
            refine wpAnyH_take (i := 8) (oi := ⟨(some 31), _, _, _, _, _⟩) (v := .pointer (some ⟨w.heap.size, 12, none⟩)) rfl (by kernel_rfl) (by kernel_rfl) (by kernel_rfl) (fun _ _ _ h => h) (Or.inl ⟨by rfl, ?yr3_8⟩) hHeld ?_
            case yr3_8 => (intro W0 hSw; go_simp; try with_reducible rfl)
            try simp only [pu]
            refine wpAnyH_take (i := 9) (oi := ⟨(some 32), _, _, _, _, _⟩) (v := .string a.fld) rfl (by kernel_rfl) (by kernel_rfl) (by kernel_rfl) (fun _ _ _ h => h) (Or.inl ⟨by rfl, ?yr3_9⟩) hHeld ?_
            case yr3_9 => (intro W0 hSw; have cc := ed_fld (row_next2 gA hSw) HA.out; go_simp; try with_reducible rfl)
            try simp only [pu]
            refine wpAnyH_take (i := 10) (oi := ⟨(some 33), _, _, _, _, _⟩) (v := .pointer (some ⟨(w.heap.size + 1), 12, none⟩)) rfl (by kernel_rfl) (by kernel_rfl) (by kernel_rfl) (fun _ _ _ h => h) (Or.inl ⟨by rfl, ?yr3_10⟩) hHeld ?_
            case yr3_10 => (intro W0 hSw; go_simp; try with_reducible rfl)
            try simp only [pu]
            refine wpAnyH_take (i := 11) (oi := ⟨(some 34), _, _, _, _, _⟩) (v := .string b.fld) rfl (by kernel_rfl) (by kernel_rfl) (by kernel_rfl) (fun _ _ _ h => h) (Or.inl ⟨by rfl, ?yr3_11⟩) hHeld ?_
            case yr3_11 => (intro W0 hSw; have cc := ed_fld (row_next2 gB hSw) HB.out; go_simp; try with_reducible rfl)
            try simp only [pu]
            refine wpAnyH_take (i := 12) (oi := ⟨(some 35), _, _, _, _, _⟩) (v := .bool x3) rfl (by kernel_rfl) (by kernel_rfl) (by kernel_rfl) (fun _ _ _ h => h) (Or.inl ⟨by rfl, ?yr3_12⟩) hHeld ?_
            case yr3_12 => (intro W0 hSw; go_simp; try simp only [e2]; try with_reducible rfl)
            try simp only [pu]
            refine wpAnyH_take (i := 13) (oi := ⟨(some 36), _, _, _, _, _⟩) (v := .bool x3) rfl (by kernel_rfl) (by kernel_rfl) (by kernel_rfl) (fun _ _ _ h => h) (Or.inl ⟨by rfl, ?yr3_13⟩) hHeld ?_
            case yr3_13 => (intro W0 hSw; go_simp; try with_reducible rfl)
            try simp only [pu]
            refine wpAnyH_take (i := 14) (oi := ⟨(some 37), _, _, _, _, _⟩) (v := .bool x3) rfl (by kernel_rfl) (by kernel_rfl) (by kernel_rfl) (fun _ _ _ h => h) (Or.inl ⟨by rfl, ?yr3_14⟩) hHeld ?_
            case yr3_14 => (intro W0 hSw; go_simp; try with_reducible rfl)
            try simp only [pu]
            refine wpAnyH_take (i := 15) (oi := ⟨(some 4), _, _, _, _, _⟩) (v := .bool x3) rfl (by kernel_rfl) (by kernel_rfl) (by kernel_rfl) (fun _ _ _ h => h) (Or.inl ⟨by rfl, ?yr3_15⟩) hHeld ?_
            case yr3_15 => (intro W0 hSw; go_simp; try with_reducible rfl)
            try simp only [pu]
            refine wpAnyH_done (by kernel_rfl) ?_ _
            go_wp2
            go_ret
            exact ⟨ret_bool (by rw [HO.out, decide_eq_true k1, decide_eq_false a2, decide_eq_true a1]; simp), below_next hbV hbV.size hHeld⟩
          · skip
            refine plain_start (S := fun W' => Below V.heap.size V W') (by kernel_rfl) (Below.refl _ _) (fun hHeld => ?_)
            refine wpAnyH_take (i := 0) (oi := ⟨(some 23), _, _, _, _, _⟩) (v := .pointer (some ⟨w.heap.size, 10, none⟩)) rfl (by kernel_rfl) (by kernel_rfl) (by kernel_rfl) (fun _ _ _ h => h) (Or.inl ⟨by rfl, ?yr3_0⟩) hHeld ?_
            case yr3_0 => (intro W0 hSw; go_simp; try with_reducible rfl)
            try simp only [pu]
            refine wpAnyH_take (i := 1) (oi := ⟨(some 24), _, _, _, _, _⟩) (v := .int .i64 a.kind) rfl (by kernel_rfl) (by kernel_rfl) (by kernel_rfl) (fun _ _ _ h => h) (Or.inl ⟨by rfl, ?yr3_1⟩) hHeld ?_
            case yr3_1 => (intro W0 hSw; have cc := ed_kind (row_next2 gA hSw) HA.out; go_simp; try with_reducible rfl)
            try simp only [pu]
            refine wpAnyH_take (i := 2) (oi := ⟨(some 25), _, _, _, _, _⟩) (v := .bool false) rfl (by kernel_rfl) (by kernel_rfl) (by kernel_rfl) (fun _ _ _ h => h) (Or.inl ⟨by rfl, ?yr3_2⟩) hHeld ?_
            case yr3_2 => (intro W0 hSw; go_simp; try simp [a2])
            try simp only [pu]
            refine wpAnyH_take (i := 3) (oi := ⟨(some 26), _, _, _, _, _⟩) (v := .bool false) rfl (by kernel_rfl) (by kernel_rfl) (by kernel_rfl) (fun _ _ _ h => h) (Or.inl ⟨by rfl, ?yr3_3⟩) hHeld ?_
            case yr3_3 => (intro W0 hSw; go_simp; try with_reducible rfl)
            try simp only [pu]
            refine wpAnyH_take (i := 4) (oi := ⟨(some 27), _, _, _, _, _⟩) (v := .pointer (some ⟨w.heap.size, 10, none⟩)) rfl (by kernel_rfl) (by kernel_rfl) (by kernel_rfl) (fun _ _ _ h => h) (Or.inl ⟨by rfl, ?yr3_4⟩) hHeld ?_
            case yr3_4 => (intro W0 hSw; go_simp; try with_reducible rfl)
            try simp only [pu]
            refine wpAnyH_take (i := 5) (oi := ⟨(some 28), _, _, _, _, _⟩) (v := .int .i64 a.kind) rfl (by kernel_rfl) (by kernel_rfl) (by kernel_rfl) (fun _ _ _ h => h) (Or.inl ⟨by rfl, ?yr3_5⟩) hHeld ?_
            case yr3_5 => (intro W0 hSw; have cc := ed_kind (row_next2 gA hSw) HA.out; go_simp; try with_reducible rfl)
            try simp only [pu]
            refine wpAnyH_take (i := 6) (oi := ⟨(some 29), _, _, _, _, _⟩) (v := .bool false) rfl (by kernel_rfl) (by kernel_rfl) (by kernel_rfl) (fun _ _ _ h => h) (Or.inl ⟨by rfl, ?yr3_6⟩) hHeld ?_
            case yr3_6 => (intro W0 hSw; go_simp; try simp [a1])
            try simp only [pu]
            refine wpAnyH_take (i := 7) (oi := ⟨(some 30), _, _, _, _, _⟩) (v := .bool false) rfl (by kernel_rfl) (by kernel_rfl) (by kernel_rfl) (fun _ _ _ h => h) (Or.inl ⟨by rfl, ?yr3_7⟩) hHeld ?_
            case yr3_7 => (intro W0 hSw; go_simp; try with_reducible rfl)
            try simp only [pu]
            refine wpAnyH_take (i := 8) (oi := ⟨(some 31), _, _, _, _, _⟩) (v := undef) rfl (by kernel_rfl) (by kernel_rfl) (by kernel_rfl) (fun _ _ _ h => h) (Or.inr ⟨by rfl, rfl⟩) hHeld ?_
            try simp only [pu]
            refine wpAnyH_take (i := 9) (oi := ⟨(some 32), _, _, _, _, _⟩) (v := undef) rfl (by kernel_rfl) (by kernel_rfl) (by kernel_rfl) (fun _ _ _ h => h) (Or.inr ⟨by rfl, rfl⟩) hHeld ?_
            try simp only [pu]
            refine wpAnyH_take (i := 10) (oi := ⟨(some 33), _, _, _, _, _⟩) (v := undef) rfl (by kernel_rfl) (by kernel_rfl) (by kernel_rfl) (fun _ _ _ h => h) (Or.inr ⟨by rfl, rfl⟩) hHeld ?_
            try simp only [pu]
            refine wpAnyH_take (i := 11) (oi := ⟨(some 34), _, _, _, _, _⟩) (v := undef) rfl (by kernel_rfl) (by kernel_rfl) (by kernel_rfl) (fun _ _ _ h => h) (Or.inr ⟨by rfl, rfl⟩) hHeld ?_
            try simp only [pu]
            refine wpAnyH_take (i := 12) (oi := ⟨(some 35), _, _, _, _, _⟩) (v := undef) rfl (by kernel_rfl) (by kernel_rfl) (by kernel_rfl) (fun _ _ _ h => h) (Or.inr ⟨by rfl, rfl⟩) hHeld ?_
            try simp only [pu]
            refine wpAnyH_take (i := 13) (oi := ⟨(some 36), _, _, _, _, _⟩) (v := .bool false) rfl (by kernel_rfl) (by kernel_rfl) (by kernel_rfl) (fun _ _ _ h => h) (Or.inl ⟨by rfl, ?yr3_13⟩) hHeld ?_
            case yr3_13 => (intro W0 hSw; go_simp; try with_reducible rfl)
            try simp only [pu]
            refine wpAnyH_take (i := 14) (oi := ⟨(some 37), _, _, _, _, _⟩) (v := .bool false) rfl (by kernel_rfl) (by kernel_rfl) (by kernel_rfl) (fun _ _ _ h => h) (Or.inl ⟨by rfl, ?yr3_14⟩) hHeld ?_
            case yr3_14 => (intro W0 hSw; go_simp; try with_reducible rfl)
            try simp only [pu]
            refine wpAnyH_take (i := 15) (oi := ⟨(some 4), _, _, _, _, _⟩) (v := .bool false) rfl (by kernel_rfl) (by kernel_rfl) (by kernel_rfl) (fun _ _ _ h => h) (Or.inl ⟨by rfl, ?yr3_15⟩) hHeld ?_
            case yr3_15 => (intro W0 hSw; go_simp; try with_reducible rfl)
            try simp only [pu]
            refine wpAnyH_done (by kernel_rfl) ?_ _
            go_wp2
            go_ret
            exact ⟨ret_bool (by rw [HO.out, decide_eq_true k1, decide_eq_false a2, decide_eq_false a1]; simp), below_next hbV hbV.size hHeld⟩
  · skip
    refine plain_start (S := fun W' => Below W.heap.size W W') (by kernel_rfl) (Below.refl _ _) (fun hHeld => ?_)
    refine wpAnyH_take (i := 0) (oi := ⟨(some 5), _, _, _, _, _⟩) (v := .pointer (some ⟨(w.heap.size + 1), 10, none⟩)) rfl (by kernel_rfl) (by kernel_rfl) (by kernel_rfl) (fun _ _ _ h => h) (Or.inl ⟨by rfl, ?yr1_0⟩) hHeld ?_
    case yr1_0 => (intro W0 hSw; go_simp; try with_reducible rfl)
    try simp only [pu]
    refine wpAnyH_take (i := 1) (oi := ⟨(some 6), _, _, _, _, _⟩) (v := .int .i64 b.kind) rfl (by kernel_rfl) (by kernel_rfl) (by kernel_rfl) (fun _ _ _ h => h) (Or.inl ⟨by rfl, ?yr1_1⟩) hHeld ?_
    case yr1_1 => (intro W0 hSw; have cc := ed_kind (row_next2 hgB hSw) HB.out; go_simp; try with_reducible rfl)
    try simp only [pu]
    refine wpAnyH_take (i := 2) (oi := ⟨(some 7), _, _, _, _, _⟩) (v := .bool true) rfl (by kernel_rfl) (by kernel_rfl) (by kernel_rfl) (fun _ _ _ h => h) (Or.inl ⟨by rfl, ?yr1_2⟩) hHeld ?_
    case yr1_2 => (intro W0 hSw; go_simp; try simp [k1])
    try simp only [pu]
    refine wpAnyH_take (i := 3) (oi := ⟨(some 8), _, _, _, _, _⟩) (v := .bool true) rfl (by kernel_rfl) (by kernel_rfl) (by kernel_rfl) (fun _ _ _ h => h) (Or.inl ⟨by rfl, ?yr1_3⟩) hHeld ?_
    case yr1_3 => (intro W0 hSw; go_simp; try with_reducible rfl)
    try simp only [pu]
    refine wpAnyH_take (i := 4) (oi := ⟨(some 9), _, _, _, _, _⟩) (v := undef) rfl (by kernel_rfl) (by kernel_rfl) (by kernel_rfl) (fun _ _ _ h => h) (Or.inr ⟨by rfl, rfl⟩) hHeld ?_
    try simp only [pu]
    refine wpAnyH_take (i := 5) (oi := ⟨(some 10), _, _, _, _, _⟩) (v := undef) rfl (by kernel_rfl) (by kernel_rfl) (by kernel_rfl) (fun _ _ _ h => h) (Or.inr ⟨by rfl, rfl⟩) hHeld ?_
    try simp only [pu]
    refine wpAnyH_take (i := 6) (oi := ⟨(some 11), _, _, _, _, _⟩) (v := undef) rfl (by kernel_rfl) (by kernel_rfl) (by kernel_rfl) (fun _ _ _ h => h) (Or.inr ⟨by rfl, rfl⟩) hHeld ?_
    try simp only [pu]
    refine wpAnyH_take (i := 7) (oi := ⟨(some 12), _, _, _, _, _⟩) (v := undef) rfl (by kernel_rfl) (by kernel_rfl) (by kernel_rfl) (fun _ _ _ h => h) (Or.inr ⟨by rfl, rfl⟩) hHeld ?_
    try simp only [pu]
    refine wpAnyH_take (i := 8) (oi := ⟨(some 13), _, _, _, _, _⟩) (v := undef) rfl (by kernel_rfl) (by kernel_rfl) (by kernel_rfl) (fun _ _ _ h => h) (Or.inr ⟨by rfl, rfl⟩) hHeld ?_
    try simp only [pu]
    refine wpAnyH_take (i := 9) (oi := ⟨(some 14), _, _, _, _, _⟩) (v := undef) rfl (by kernel_rfl) (by kernel_rfl) (by kernel_rfl) (fun _ _ _ h => h) (Or.inr ⟨by rfl, rfl⟩) hHeld ?_
    try simp only [pu]
    refine wpAnyH_take (i := 10) (oi := ⟨(some 15), _, _, _, _, _⟩) (v := .bool true) rfl (by kernel_rfl) (by kernel_rfl) (by kernel_rfl) (fun _ _ _ h => h) (Or.inl ⟨by rfl, ?yr1_10⟩) hHeld ?_
    case yr1_10 => (intro W0 hSw; go_simp; try with_reducible rfl)
    try simp only [pu]
    refine wpAnyH_take (i := 11) (oi := ⟨(some 16), _, _, _, _, _⟩) (v := .bool true) rfl (by kernel_rfl) (by kernel_rfl) (by kernel_rfl) (fun _ _ _ h => h) (Or.inl ⟨by rfl, ?yr1_11⟩) hHeld ?_
    case yr1_11 => (intro W0 hSw; go_simp; try with_reducible rfl)
    try simp only [pu]
    refine wpAnyH_take (i := 12) (oi := ⟨(some 17), _, _, _, _, _⟩) (v := undef) rfl (by kernel_rfl) (by kernel_rfl) (by kernel_rfl) (fun _ _ _ h => h) (Or.inr ⟨by rfl, rfl⟩) hHeld ?_
    try simp only [pu]
    refine wpAnyH_take (i := 13) (oi := ⟨(some 18), _, _, _, _, _⟩) (v := undef) rfl (by kernel_rfl) (by kernel_rfl) (by kernel_rfl) (fun _ _ _ h => h) (Or.inr ⟨by rfl, rfl⟩) hHeld ?_
    try simp only [pu]
    refine wpAnyH_take (i := 14) (oi := ⟨(some 19), _, _, _, _, _⟩) (v := undef) rfl (by kernel_rfl) (by kernel_rfl) (by kernel_rfl) (fun _ _ _ h => h) (Or.inr ⟨by rfl, rfl⟩) hHeld ?_
    try simp only [pu]
    refine wpAnyH_take (i := 15) (oi := ⟨(some 20), _, _, _, _, _⟩) (v := undef) rfl (by kernel_rfl) (by kernel_rfl) (by kernel_rfl) (fun _ _ _ h => h) (Or.inr ⟨by rfl, rfl⟩) hHeld ?_
    try simp only [pu]
    refine wpAnyH_take (i := 16) (oi := ⟨(some 21), _, _, _, _, _⟩) (v := undef) rfl (by kernel_rfl) (by kernel_rfl) (by kernel_rfl) (fun _ _ _ h => h) (Or.inr ⟨by rfl, rfl⟩) hHeld ?_
    try simp only [pu]
    refine wpAnyH_take (i := 17) (oi := ⟨(some 22), _, _, _, _, _⟩) (v := .bool true) rfl (by kernel_rfl) (by kernel_rfl) (by kernel_rfl) (fun _ _ _ h => h) (Or.inl ⟨by rfl, ?yr1_17⟩) hHeld ?_
    case yr1_17 => (intro W0 hSw; go_simp; try with_reducible rfl)
    try simp only [pu]
    refine wpAnyH_done (by kernel_rfl) ?_ _
    go_wp2
    go_ret
    exact ⟨ret_bool (by rw [HO.out, decide_eq_false k1]; simp), below_next hbW hbW.size hHeld⟩
set_option maxRecDepth 100000 in
theorem oless_any (w : World) (a b : Ed) (ha : a.seen.length = 8) (hb : b.seen.length = 8) :
    Calls Try.prog 19 #[.agg a.cells.toArray, .agg b.cells.toArray] w fun e w' => e = .returned (.bool (eless a b)) ∧ Below w.heap.size w w' := by
  obtain ⟨W, hW, hgA, hgB, hbW, hsW⟩ := pair_new w a.cells.toArray b.cells.toArray 28 28
  have HW := Lib.hid hW
  have HA := Lib.hid ha
  have HB := Lib.hid hb
  have cA1 := ed_dev hgA
  have cA2 := ed_num hgA
  have cA3 := ed_time hgA ha
  have cB1 := ed_dev hgB
  have cB2 := ed_num hgB
  have cB3 := ed_time hgB hb
  obtain ⟨o, ho⟩ : ∃ o, o = eless a b := ⟨_, rfl⟩
  have HO := vlt (show o = if a.time = b.time then (if a.dev = b.dev then decide (a.num < b.num) else decide (a.dev < b.dev)) else decide (a.time < b.time) by rw [ho]; rfl)
  rw [← ho]
  generalize a.dev = d1 at *
  generalize b.dev = d2 at *
  generalize a.num = n1 at *
  generalize b.num = n2 at *
  generalize a.time = t1 at *
  generalize b.time = t2 at *
  clear hW ha hb hsW ho hgA hgB HA HB
  go_enter Try.func19, Try.ntmps19
  go_upto_region 1 with fail
  rw [HW.out]
  clear HW
  by_cases ht : t1 = t2
  · by_cases hd : d1 = d2
    · rw [if_pos ht, if_pos hd] at HO
      subst ht hd
      go_wp2
      go_ret
      exact ⟨ret_bool (by rw [HO.out]), hbW⟩
    · rw [if_pos ht, if_neg hd] at HO
      subst ht
      go_wp2
      go_ret
      exact ⟨ret_bool (by rw [HO.out]), hbW⟩
  · rw [if_neg ht] at HO
    go_wp2
    go_ret
    exact ⟨ret_bool (by rw [HO.out]), hbW⟩
end Go.Proofs.Ytabgkkdgamacnaa
namespace Go.Proofs.Ytabgkkdgamacnaa
open Go.RowKit

set_option maxRecDepth 100000 in
set_option maxHeartbeats 1000000 in
theorem rover_any (w : World) (a b : Ed) (ha : a.seen.length = 8) (hb : b.seen.length = 8) :
    Calls Try.prog 18 #[.agg a.cells.toArray, .agg b.cells.toArray] w fun e w' => e = .returned (.bool (eover a b)) ∧ Below w.heap.size w w' := by
  obtain ⟨W, hW, hgA, hgB, hbW, hsW⟩ := pair_new w a.cells.toArray b.cells.toArray 38 38
  have HW := Lib.hid hW
  have HA := Lib.hid ha
  have HB := Lib.hid hb
  have d1 := fun w => rvhas_any w a.seen ha b.dev b.num
  have q1 := text_eql a.con b.con
  have q2 := text_eql a.fld b.fld
  have r1 := text_neq a.con b.con
  obtain ⟨o, ho⟩ : ∃ o, o = eover a b := ⟨_, rfl⟩
  obtain ⟨x1, h1⟩ : ∃ o, o = vhas a.seen b.dev b.num := ⟨_, rfl⟩
  obtain ⟨x2, h2⟩ : ∃ o, o = decide (a.con = b.con) := ⟨_, rfl⟩
  obtain ⟨x3, h3⟩ : ∃ o, o = decide (a.fld = b.fld) := ⟨_, rfl⟩
  simp only [← h1] at d1
  rw [← h2] at q1 r1
  have e2 : (a.fld.toList == b.fld.toList) = x3 := by rw [h3, ← text_beq]
  have e1 : (a.con.toList = b.con.toList) = (x2 = true) := by rw [h2, ← text_beq, beq_iff_eq]
  rw [← h3] at q2
  have HO := vlt (show o = (decide (b.kind = 1) && x1 && x2 && (decide (a.kind = 2) || decide (a.kind = 1) && x3)) by rw [ho, h1, h2, h3]; rfl)
  rw [← ho]
  clear hW ha hb hsW ho h1 h2 h3
  go_enter Try.func18, Try.ntmps18
  go_upto_region 1 with fail
  rw [HW.out]
  clear HW
  by_cases k1 : b.kind = 1
  · cases x1
    · skip
      refine plain_start (S := fun W' => Below W.heap.size W W') (by kernel_rfl) (Below.refl _ _) (fun hHeld => ?_)
      refine wpAnyH_take (i := 0) (oi := ⟨(some 5), _, _, _, _, _⟩) (v := .pointer (some ⟨(w.heap.size + 1), 10, none⟩)) rfl (by kernel_rfl) (by kernel_rfl) (by kernel_rfl) (fun _ _ _ h => h) (Or.inl ⟨by rfl, ?yr1_0⟩) hHeld ?_
      case yr1_0 => (intro W0 hSw; go_simp; try with_reducible rfl)
      try simp only [pu]
      refine wpAnyH_take (i := 1) (oi := ⟨(some 6), _, _, _, _, _⟩) (v := .int .i64 b.kind) rfl (by kernel_rfl) (by kernel_rfl) (by kernel_rfl) (fun _ _ _ h => h) (Or.inl ⟨by rfl, ?yr1_1⟩) hHeld ?_
      case yr1_1 => (intro W0 hSw; have cc := ed_kind (row_next2 hgB hSw) HB.out; go_simp; try with_reducible rfl)
      try simp only [pu]
      refine wpAnyH_take (i := 2) (oi := ⟨(some 7), _, _, _, _, _⟩) (v := .bool true) rfl (by kernel_rfl) (by kernel_rfl) (by kernel_rfl) (fun _ _ _ h => h) (Or.inl ⟨by rfl, ?yr1_2⟩) hHeld ?_
      case yr1_2 => (intro W0 hSw; go_simp; try simp [k1])
      try simp only [pu]
      refine wpAnyH_take (i := 3) (oi := ⟨(some 8), _, _, _, _, _⟩) (v := .bool true) rfl (by kernel_rfl) (by kernel_rfl) (by kernel_rfl) (fun _ _ _ h => h) (Or.inl ⟨by rfl, ?yr1_3⟩) hHeld ?_
      case yr1_3 => (intro W0 hSw; go_simp; try with_reducible rfl)
      try simp only [pu]
      refine wpAnyH_take (i := 4) (oi := ⟨(some 9), _, _, _, _, _⟩) (v := .pointer (some ⟨w.heap.size, 2, none⟩)) rfl (by kernel_rfl) (by kernel_rfl) (by kernel_rfl) (fun _ _ _ h => h) (Or.inl ⟨by rfl, ?yr1_4⟩) hHeld ?_
      case yr1_4 => (intro W0 hSw; go_simp; try with_reducible rfl)
      try simp only [pu]
      refine wpAnyH_take (i := 5) (oi := ⟨(some 10), _, _, _, _, _⟩) (v := .agg (i64v a.seen).toArray) rfl (by kernel_rfl) (by kernel_rfl) (by kernel_rfl) (fun _ _ _ h => h) (yieldsIf_load_mid (by rfl) _ _ rfl (w.heap.size) 2 rfl (i64v a.seen) _ (fun W' hW' => ed_seenR (row_next2 hgA hW')) (Try.underlying36) rfl (by rw [i64v_len, HA.out]; kernel_rfl)) hHeld ?_
      try simp only [pu]
      refine wpAnyH_take (i := 6) (oi := ⟨(some 11), _, _, _, _, _⟩) (v := .pointer (some ⟨(w.heap.size + 1), 0, none⟩)) rfl (by kernel_rfl) (by kernel_rfl) (by kernel_rfl) (fun _ _ _ h => h) (Or.inl ⟨by rfl, ?yr1_6⟩) hHeld ?_
      case yr1_6 => (intro W0 hSw; go_simp; try with_reducible rfl)
      try simp only [pu]
      refine wpAnyH_take (i := 7) (oi := ⟨(some 12), _, _, _, _, _⟩) (v := .agg [.int .i64 b.dev, .int .i64 b.num].toArray) rfl (by kernel_rfl) (by kernel_rfl) (by kernel_rfl) (fun _ _ _ h => h) (yieldsIf_load_mid (by rfl) _ _ rfl ((w.heap.size + 1)) 0 rfl [.int .i64 b.dev, .int .i64 b.num] _ (fun W' hW' => ed_dotR (row_next2 hgB hW')) (Try.underlying24) rfl (by kernel_rfl)) hHeld ?_
      try simp only [pu]
      refine wpAnyH_ready (rs := [8]) (by kernel_rfl) (by simp) ?_
      refine AllReadyH.cons (i := 8) (o := ⟨(some 13), _, _, _, _, _⟩) rfl (fun K hK => ?_) AllReadyH.nil
      go_simp
      refine (d1 _).mono ?_
      rintro e r1W1 ⟨rfl, r1h1⟩
      refine hK.out _ _ (below_next hHeld hHeld.size r1h1) (fun hHeld => ?_)
      clear hK K r1h1
      try simp only [pu]
      refine wpAnyH_take (i := 9) (oi := ⟨(some 14), _, _, _, _, _⟩) (v := .bool false) rfl (by kernel_rfl) (by kernel_rfl) (by kernel_rfl) (fun _ _ _ h => h) (Or.inl ⟨by rfl, ?yr1_9⟩) hHeld ?_
      case yr1_9 => (intro W0 hSw; go_simp; try with_reducible rfl)
      try simp only [pu]
      refine wpAnyH_take (i := 10) (oi := ⟨(some 15), _, _, _, _, _⟩) (v := .bool false) rfl (by kernel_rfl) (by kernel_rfl) (by kernel_rfl) (fun _ _ _ h => h) (Or.inl ⟨by rfl, ?yr1_10⟩) hHeld ?_
      case yr1_10 => (intro W0 hSw; go_simp; try with_reducible rfl)
      try simp only [pu]
      refine wpAnyH_take (i := 11) (oi := ⟨(some 16), _, _, _, _, _⟩) (v := undef) rfl (by kernel_rfl) (by kernel_rfl) (by kernel_rfl) (fun _ _ _ h => h) (Or.inr ⟨by rfl, rfl⟩) hHeld ?_
      try simp only [pu]
      refine wpAnyH_take (i := 12) (oi := ⟨(some 17), _, _, _, _, _⟩) (v := undef) rfl (by kernel_rfl) (by kernel_rfl) (by kernel_rfl) (fun _ _ _ h => h) (Or.inr ⟨by rfl, rfl⟩) hHeld ?_
      try simp only [pu]
      refine wpAnyH_take (i := 13) (oi := ⟨(some 18), _, _, _, _, _⟩) (v := undef) rfl (by kernel_rfl) (by kernel_rfl) (by kernel_rfl) (fun _ _ _ h => h) (Or.inr ⟨by rfl, rfl⟩) hHeld ?_
      try simp only [pu]
      refine wpAnyH_take (i := 14) (oi := ⟨(some 19), _, _, _, _, _⟩) (v := undef) rfl (by kernel_rfl) (by kernel_rfl) (by kernel_rfl) (fun _ _ _ h => h) (Or.inr ⟨by rfl, rfl⟩) hHeld ?_
      try simp only [pu]
      refine wpAnyH_take (i := 15) (oi := ⟨(some 20), _, _, _, _, _⟩) (v := undef) rfl (by kernel_rfl) (by kernel_rfl) (by kernel_rfl) (fun _ _ _ h => h) (Or.inr ⟨by rfl, rfl⟩) hHeld ?_
      try simp only [pu]
      refine wpAnyH_take (i := 16) (oi := ⟨(some 21), _, _, _, _, _⟩) (v := .bool false) rfl (by kernel_rfl) (by kernel_rfl) (by kernel_rfl) (fun _ _ _ h => h) (Or.inl ⟨by rfl, ?yr1_16⟩) hHeld ?_
      case yr1_16 => (intro W0 hSw; go_simp; try with_reducible rfl)
      try simp only [pu]
      refine wpAnyH_take (i := 17) (oi := ⟨(some 22), _, _, _, _, _⟩) (v := .bool false) rfl (by kernel_rfl) (by kernel_rfl) (by kernel_rfl) (fun _ _ _ h => h) (Or.inl ⟨by rfl, ?yr1_17⟩) hHeld ?_
      case yr1_17 => (intro W0 hSw; go_simp; try with_reducible rfl)
      try simp only [pu]
      refine wpAnyH_take (i := 18) (oi := ⟨(some 23), _, _, _, _, _⟩) (v := undef) rfl (by kernel_rfl) (by kernel_rfl) (by kernel_rfl) (fun _ _ _ h => h) (Or.inr ⟨by rfl, rfl⟩) hHeld ?_
      try simp only [pu]
      refine wpAnyH_take (i := 19) (oi := ⟨(some 24), _, _, _, _, _⟩) (v := undef) rfl (by kernel_rfl) (by kernel_rfl) (by kernel_rfl) (fun _ _ _ h => h) (Or.inr ⟨by rfl, rfl⟩) hHeld ?_
      try simp only [pu]
      refine wpAnyH_take (i := 20) (oi := ⟨(some 25), _, _, _, _, _⟩) (v := undef) rfl (by kernel_rfl) (by kernel_rfl) (by kernel_rfl) (fun _ _ _ h => h) (Or.inr ⟨by rfl, rfl⟩) hHeld ?_
      try simp only [pu]
      refine wpAnyH_take (i := 21) (oi := ⟨(some 26), _, _, _, _, _⟩) (v := undef) rfl (by kernel_rfl) (by kernel_rfl) (by kernel_rfl) (fun _ _ _ h => h) (Or.inr ⟨by rfl, rfl⟩) hHeld ?_
      try simp only [pu]
      refine wpAnyH_take (i := 22) (oi := ⟨(some 27), _, _, _, _, _⟩) (v := undef) rfl (by kernel_rfl) (by kernel_rfl) (by kernel_rfl) (fun _ _ _ h => h) (Or.inr ⟨by rfl, rfl⟩) hHeld ?_
      try simp only [pu]
      refine wpAnyH_take (i := 23) (oi := ⟨(some 28), _, _, _, _, _⟩) (v := undef) rfl (by kernel_rfl) (by kernel_rfl) (by kernel_rfl) (fun _ _ _ h => h) (Or.inr ⟨by rfl, rfl⟩) hHeld ?_
      try simp only [pu]
      refine wpAnyH_take (i := 24) (oi := ⟨(some 29), _, _, _, _, _⟩) (v := undef) rfl (by kernel_rfl) (by kernel_rfl) (by kernel_rfl) (fun _ _ _ h => h) (Or.inr ⟨by rfl, rfl⟩) hHeld ?_
      try simp only [pu]
      refine wpAnyH_take (i := 25) (oi := ⟨(some 30), _, _, _, _, _⟩) (v := undef) rfl (by kernel_rfl) (by kernel_rfl) (by kernel_rfl) (fun _ _ _ h => h) (Or.inr ⟨by rfl, rfl⟩) hHeld ?_
      try simp only [pu]
      refine wpAnyH_take (i := 26) (oi := ⟨(some 31), _, _, _, _, _⟩) (v := undef) rfl (by kernel_rfl) (by kernel_rfl) (by kernel_rfl) (fun _ _ _ h => h) (Or.inr ⟨by rfl, rfl⟩) hHeld ?_
      try simp only [pu]
      refine wpAnyH_take (i := 27) (oi := ⟨(some 32), _, _, _, _, _⟩) (v := undef) rfl (by kernel_rfl) (by kernel_rfl) (by kernel_rfl) (fun _ _ _ h => h) (Or.inr ⟨by rfl, rfl⟩) hHeld ?_
      try simp only [pu]
      refine wpAnyH_take (i := 28) (oi := ⟨(some 33), _, _, _, _, _⟩) (v := undef) rfl (by kernel_rfl) (by kernel_rfl) (by kernel_rfl) (fun _ _ _ h => h) (Or.inr ⟨by rfl, rfl⟩) hHeld ?_
      try simp only [pu]
      refine wpAnyH_take (i := 29) (oi := ⟨(some 34), _, _, _, _, _⟩) (v := undef) rfl (by kernel_rfl) (by kernel_rfl) (by kernel_rfl) (fun _ _ _ h => h) (Or.inr ⟨by rfl, rfl⟩) hHeld ?_
      try simp only [pu]
      refine wpAnyH_take (i := 30) (oi := ⟨(some 35), _, _, _, _, _⟩) (v := undef) rfl (by kernel_rfl) (by kernel_rfl) (by kernel_rfl) (fun _ _ _ h => h) (Or.inr ⟨by rfl, rfl⟩) hHeld ?_
      try simp only [pu]
      refine wpAnyH_take (i := 31) (oi := ⟨(some 36), _, _, _, _, _⟩) (v := undef) rfl (by kernel_rfl) (by kernel_rfl) (by kernel_rfl) (fun _ _ _ h => h) (Or.inr ⟨by rfl, rfl⟩) hHeld ?_
      try simp only [pu]
      refine wpAnyH_take (i := 32) (oi := ⟨(some 37), _, _, _, _, _⟩) (v := undef) rfl (by kernel_rfl) (by kernel_rfl) (by kernel_rfl) (fun _ _ _ h => h) (Or.inr ⟨by rfl, rfl⟩) hHeld ?_
      try simp only [pu]
      refine wpAnyH_take (i := 33) (oi := ⟨(some 38), _, _, _, _, _⟩) (v := .bool false) rfl (by kernel_rfl) (by kernel_rfl) (by kernel_rfl) (fun _ _ _ h => h) (Or.inl ⟨by rfl, ?yr1_33⟩) hHeld ?_
      case yr1_33 => (intro W0 hSw; go_simp; try with_reducible rfl)
      try simp only [pu]
      refine wpAnyH_take (i := 34) (oi := ⟨(some 4), _, _, _, _, _⟩) (v := .bool false) rfl (by kernel_rfl) (by kernel_rfl) (by kernel_rfl) (fun _ _ _ h => h) (Or.inl ⟨by rfl, ?yr1_34⟩) hHeld ?_
      case yr1_34 => (intro W0 hSw; go_simp; try with_reducible rfl)
      try simp only [pu]
      refine wpAnyH_done (by kernel_rfl) ?_ _
      go_wp2
      go_ret
      exact ⟨ret_bool (by rw [HO.out, decide_eq_true k1]; simp), below_next hbW hbW.size hHeld⟩
    · cases x2
      · skip
        refine plain_start (S := fun W' => Below W.heap.size W W') (by kernel_rfl) (Below.refl _ _) (fun hHeld => ?_)
        refine wpAnyH_take (i := 0) (oi := ⟨(some 5), _, _, _, _, _⟩) (v := .pointer (some ⟨(w.heap.size + 1), 10, none⟩)) rfl (by kernel_rfl) (by kernel_rfl) (by kernel_rfl) (fun _ _ _ h => h) (Or.inl ⟨by rfl, ?yr1_0⟩) hHeld ?_
        case yr1_0 => (intro W0 hSw; go_simp; try with_reducible rfl)
        try simp only [pu]
        refine wpAnyH_take (i := 1) (oi := ⟨(some 6), _, _, _, _, _⟩) (v := .int .i64 b.kind) rfl (by kernel_rfl) (by kernel_rfl) (by kernel_rfl) (fun _ _ _ h => h) (Or.inl ⟨by rfl, ?yr1_1⟩) hHeld ?_
        case yr1_1 => (intro W0 hSw; have cc := ed_kind (row_next2 hgB hSw) HB.out; go_simp; try with_reducible rfl)
        try simp only [pu]
        refine wpAnyH_take (i := 2) (oi := ⟨(some 7), _, _, _, _, _⟩) (v := .bool true) rfl (by kernel_rfl) (by kernel_rfl) (by kernel_rfl) (fun _ _ _ h => h) (Or.inl ⟨by rfl, ?yr1_2⟩) hHeld ?_
        case yr1_2 => (intro W0 hSw; go_simp; try simp [k1])
        try simp only [pu]
        refine wpAnyH_take (i := 3) (oi := ⟨(some 8), _, _, _, _, _⟩) (v := .bool true) rfl (by kernel_rfl) (by kernel_rfl) (by kernel_rfl) (fun _ _ _ h => h) (Or.inl ⟨by rfl, ?yr1_3⟩) hHeld ?_
        case yr1_3 => (intro W0 hSw; go_simp; try with_reducible rfl)
        try simp only [pu]
        refine wpAnyH_take (i := 4) (oi := ⟨(some 9), _, _, _, _, _⟩) (v := .pointer (some ⟨w.heap.size, 2, none⟩)) rfl (by kernel_rfl) (by kernel_rfl) (by kernel_rfl) (fun _ _ _ h => h) (Or.inl ⟨by rfl, ?yr1_4⟩) hHeld ?_
        case yr1_4 => (intro W0 hSw; go_simp; try with_reducible rfl)
        try simp only [pu]
        refine wpAnyH_take (i := 5) (oi := ⟨(some 10), _, _, _, _, _⟩) (v := .agg (i64v a.seen).toArray) rfl (by kernel_rfl) (by kernel_rfl) (by kernel_rfl) (fun _ _ _ h => h) (yieldsIf_load_mid (by rfl) _ _ rfl (w.heap.size) 2 rfl (i64v a.seen) _ (fun W' hW' => ed_seenR (row_next2 hgA hW')) (Try.underlying36) rfl (by rw [i64v_len, HA.out]; kernel_rfl)) hHeld ?_
        try simp only [pu]
        refine wpAnyH_take (i := 6) (oi := ⟨(some 11), _, _, _, _, _⟩) (v := .pointer (some ⟨(w.heap.size + 1), 0, none⟩)) rfl (by kernel_rfl) (by kernel_rfl) (by kernel_rfl) (fun _ _ _ h => h) (Or.inl ⟨by rfl, ?yr1_6⟩) hHeld ?_
        case yr1_6 => (intro W0 hSw; go_simp; try with_reducible rfl)
        try simp only [pu]
        refine wpAnyH_take (i := 7) (oi := ⟨(some 12), _, _, _, _, _⟩) (v := .agg [.int .i64 b.dev, .int .i64 b.num].toArray) rfl (by kernel_rfl) (by kernel_rfl) (by kernel_rfl) (fun _ _ _ h => h) (yieldsIf_load_mid (by rfl) _ _ rfl ((w.heap.size + 1)) 0 rfl [.int .i64 b.dev, .int .i64 b.num] _ (fun W' hW' => ed_dotR (row_next2 hgB hW')) (Try.underlying24) rfl (by kernel_rfl)) hHeld ?_
        try simp only [pu]
        refine wpAnyH_ready (rs := [8]) (by kernel_rfl) (by simp) ?_
        refine AllReadyH.cons (i := 8) (o := ⟨(some 13), _, _, _, _, _⟩) rfl (fun K hK => ?_) AllReadyH.nil
        go_simp
        refine (d1 _).mono ?_
        rintro e r1W1 ⟨rfl, r1h1⟩
        refine hK.out _ _ (below_next hHeld hHeld.size r1h1) (fun hHeld => ?_)
        clear hK K r1h1
        try simp only [pu]
        refine wpAnyH_take (i := 9) (oi := ⟨(some 14), _, _, _, _, _⟩) (v := .bool true) rfl (by kernel_rfl) (by kernel_rfl) (by kernel_rfl) (fun _ _ _ h => h) (Or.inl ⟨by rfl, ?yr1_9⟩) hHeld ?_
        case yr1_9 => (intro W0 hSw; go_simp; try with_reducible rfl)
        try simp only [pu]
        refine wpAnyH_take (i := 10) (oi := ⟨(some 15), _, _, _, _, _⟩) (v := .bool true) rfl (by kernel_rfl) (by kernel_rfl) (by kernel_rfl) (fun _ _ _ h => h) (Or.inl ⟨by rfl, ?yr1_10⟩) hHeld ?_
        case yr1_10 => (intro W0 hSw; go_simp; try with_reducible rfl)
        try simp only [pu]
        refine wpAnyH_take (i := 11) (oi := ⟨(some 16), _, _, _, _, _⟩) (v := .pointer (some ⟨w.heap.size, 11, none⟩)) rfl (by kernel_rfl) (by kernel_rfl) (by kernel_rfl) (fun _ _ _ h => h) (Or.inl ⟨by rfl, ?yr1_11⟩) hHeld ?_
        case yr1_11 => (intro W0 hSw; go_simp; try with_reducible rfl)
        try simp only [pu]
        refine wpAnyH_take (i := 12) (oi := ⟨(some 17), _, _, _, _, _⟩) (v := .string a.con) rfl (by kernel_rfl) (by kernel_rfl) (by kernel_rfl) (fun _ _ _ h => h) (Or.inl ⟨by rfl, ?yr1_12⟩) hHeld ?_
        case yr1_12 => (intro W0 hSw; have cc := ed_con (row_next2 hgA hSw) HA.out; go_simp; try with_reducible rfl)
        try simp only [pu]
        refine wpAnyH_take (i := 13) (oi := ⟨(some 18), _, _, _, _, _⟩) (v := .pointer (some ⟨(w.heap.size + 1), 11, none⟩)) rfl (by kernel_rfl) (by kernel_rfl) (by kernel_rfl) (fun _ _ _ h => h) (Or.inl ⟨by rfl, ?yr1_13⟩) hHeld ?_
        case yr1_13 => (intro W0 hSw; go_simp; try with_reducible rfl)
        try simp only [pu]
        refine wpAnyH_take (i := 14) (oi := ⟨(some 19), _, _, _, _, _⟩) (v := .string b.con) rfl (by kernel_rfl) (by kernel_rfl) (by kernel_rfl) (fun _ _ _ h => h) (Or.inl ⟨by rfl, ?yr1_14⟩) hHeld ?_
        case yr1_14 => (intro W0 hSw; have cc := ed_con (row_next2 hgB hSw) HB.out; go_simp; try with_reducible rfl)
        try simp only [pu]
        refine wpAnyH_take (i := 15) (oi := ⟨(some 20), _, _, _, _, _⟩) (v := .bool false) rfl (by kernel_rfl) (by kernel_rfl) (by kernel_rfl) (fun _ _ _ h => h) (Or.inl ⟨by rfl, ?yr1_15⟩) hHeld ?_
        case yr1_15 => (intro W0 hSw; go_simp; try simp [e1])
        try simp only [pu]
        refine wpAnyH_take (i := 16) (oi := ⟨(some 21), _, _, _, _, _⟩) (v := .bool false) rfl (by kernel_rfl) (by kernel_rfl) (by kernel_rfl) (fun _ _ _ h => h) (Or.inl ⟨by rfl, ?yr1_16⟩) hHeld ?_
        case yr1_16 => (intro W0 hSw; go_simp; try with_reducible rfl)
        try simp only [pu]
        refine wpAnyH_take (i := 17) (oi := ⟨(some 22), _, _, _, _, _⟩) (v := .bool false) rfl (by kernel_rfl) (by kernel_rfl) (by kernel_rfl) (fun _ _ _ h => h) (Or.inl ⟨by rfl, ?yr1_17⟩) hHeld ?_
        case yr1_17 => (intro W0 hSw; go_simp; try with_reducible rfl)
        try simp only [pu]
        refine wpAnyH_take (i := 18) (oi := ⟨(some 23), _, _, _, _, _⟩) (v := undef) rfl (by kernel_rfl) (by kernel_rfl) (by kernel_rfl) (fun _ _ _ h => h) (Or.inr ⟨by rfl, rfl⟩) hHeld ?_
        try simp only [pu]
        refine wpAnyH_take (i := 19) (oi := ⟨(some 24), _, _, _, _, _⟩) (v := undef) rfl (by kernel_rfl) (by kernel_rfl) (by kernel_rfl) (fun _ _ _ h => h) (Or.inr ⟨by rfl, rfl⟩) hHeld ?_
        try simp only [pu]
        refine wpAnyH_take (i := 20) (oi := ⟨(some 25), _, _, _, _, _⟩) (v := undef) rfl (by kernel_rfl) (by kernel_rfl) (by kernel_rfl) (fun _ _ _ h => h) (Or.inr ⟨by rfl, rfl⟩) hHeld ?_
        try simp only [pu]
        refine wpAnyH_take (i := 21) (oi := ⟨(some 26), _, _, _, _, _⟩) (v := undef) rfl (by kernel_rfl) (by kernel_rfl) (by kernel_rfl) (fun _ _ _ h => h) (Or.inr ⟨by rfl, rfl⟩) hHeld ?_
        try simp only [pu]
        refine wpAnyH_take (i := 22) (oi := ⟨(some 27), _, _, _, _, _⟩) (v := undef) rfl (by kernel_rfl) (by kernel_rfl) (by kernel_rfl) (fun _ _ _ h => h) (Or.inr ⟨by rfl, rfl⟩) hHeld ?_
        try simp only [pu]
        refine wpAnyH_take (i := 23) (oi := ⟨(some 28), _, _, _, _, _⟩) (v := undef) rfl (by kernel_rfl) (by kernel_rfl) (by kernel_rfl) (fun _ _ _ h => h) (Or.inr ⟨by rfl, rfl⟩) hHeld ?_
        try simp only [pu]
        refine wpAnyH_take (i := 24) (oi := ⟨(some 29), _, _, _, _, _⟩) (v := undef) rfl (by kernel_rfl) (by kernel_rfl) (by kernel_rfl) (fun _ _ _ h => h) (Or.inr ⟨by rfl, rfl⟩) hHeld ?_
        try simp only [pu]
        refine wpAnyH_take (i := 25) (oi := ⟨(some 30), _, _, _, _, _⟩) (v := undef) rfl (by kernel_rfl) (by kernel_rfl) (by kernel_rfl) (fun _ _ _ h => h) (Or.inr ⟨by rfl, rfl⟩) hHeld ?_
        try simp only [pu]
        refine wpAnyH_take (i := 26) (oi := ⟨(some 31), _, _, _, _, _⟩) (v := undef) rfl (by kernel_rfl) (by kernel_rfl) (by kernel_rfl) (fun _ _ _ h => h) (Or.inr ⟨by rfl, rfl⟩) hHeld ?_
        try simp only [pu]
        refine wpAnyH_take (i := 27) (oi := ⟨(some 32), _, _, _, _, _⟩) (v := undef) rfl (by kernel_rfl) (by kernel_rfl) (by kernel_rfl) (fun _ _ _ h => h) (Or.inr ⟨by rfl, rfl⟩) hHeld ?_
        try simp only [pu]
        refine wpAnyH_take (i := 28) (oi := ⟨(some 33), _, _, _, _, _⟩) (v := undef) rfl (by kernel_rfl) (by kernel_rfl) (by kernel_rfl) (fun _ _ _ h => h) (Or.inr ⟨by rfl, rfl⟩) hHeld ?_
        try simp only [pu]
        refine wpAnyH_take (i := 29) (oi := ⟨(some 34), _, _, _, _, _⟩) (v := undef) rfl (by kernel_rfl) (by kernel_rfl) (by kernel_rfl) (fun _ _ _ h => h) (Or.inr ⟨by rfl, rfl⟩) hHeld ?_
        try simp only [pu]
        refine wpAnyH_take (i := 30) (oi := ⟨(some 35), _, _, _, _, _⟩) (v := undef) rfl (by kernel_rfl) (by kernel_rfl) (by kernel_rfl) (fun _ _ _ h => h) (Or.inr ⟨by rfl, rfl⟩) hHeld ?_
        try simp only [pu]
        refine wpAnyH_take (i := 31) (oi := ⟨(some 36), _, _, _, _, _⟩) (v := undef) rfl (by kernel_rfl) (by kernel_rfl) (by kernel_rfl) (fun _ _ _ h => h) (Or.inr ⟨by rfl, rfl⟩) hHeld ?_
        try simp only [pu]
        refine wpAnyH_take (i := 32) (oi := ⟨(some 37), _, _, _, _, _⟩) (v := undef) rfl (by kernel_rfl) (by kernel_rfl) (by kernel_rfl) (fun _ _ _ h => h) (Or.inr ⟨by rfl, rfl⟩) hHeld ?_
        try simp only [pu]
        refine wpAnyH_take (i := 33) (oi := ⟨(some 38), _, _, _, _, _⟩) (v := .bool false) rfl (by kernel_rfl) (by kernel_rfl) (by kernel_rfl) (fun _ _ _ h => h) (Or.inl ⟨by rfl, ?yr1_33⟩) hHeld ?_
        case yr1_33 => (intro W0 hSw; go_simp; try with_reducible rfl)
        try simp only [pu]
        refine wpAnyH_take (i := 34) (oi := ⟨(some 4), _, _, _, _, _⟩) (v := .bool false) rfl (by kernel_rfl) (by kernel_rfl) (by kernel_rfl) (fun _ _ _ h => h) (Or.inl ⟨by rfl, ?yr1_34⟩) hHeld ?_
        case yr1_34 => (intro W0 hSw; go_simp; try with_reducible rfl)
        try simp only [pu]
        refine wpAnyH_done (by kernel_rfl) ?_ _
        go_wp2
        go_ret
        exact ⟨ret_bool (by rw [HO.out, decide_eq_true k1]; simp), below_next hbW hbW.size hHeld⟩
      · by_cases a2 : a.kind = 2
        · skip
          refine plain_start (S := fun W' => Below W.heap.size W W') (by kernel_rfl) (Below.refl _ _) (fun hHeld => ?_)
          refine wpAnyH_take (i := 0) (oi := ⟨(some 5), _, _, _, _, _⟩) (v := .pointer (some ⟨(w.heap.size + 1), 10, none⟩)) rfl (by kernel_rfl) (by kernel_rfl) (by kernel_rfl) (fun _ _ _ h => h) (Or.inl ⟨by rfl, ?yr1_0⟩) hHeld ?_
          case yr1_0 => (intro W0 hSw; go_simp; try with_reducible rfl)
          try simp only [pu]
          refine wpAnyH_take (i := 1) (oi := ⟨(some 6), _, _, _, _, _⟩) (v := .int .i64 b.kind) rfl (by kernel_rfl) (by kernel_rfl) (by kernel_rfl) (fun _ _ _ h => h) (Or.inl ⟨by rfl, ?yr1_1⟩) hHeld ?_
          case yr1_1 => (intro W0 hSw; have cc := ed_kind (row_next2 hgB hSw) HB.out; go_simp; try with_reducible rfl)
          try simp only [pu]
          refine wpAnyH_take (i := 2) (oi := ⟨(some 7), _, _, _, _, _⟩) (v := .bool true) rfl (by kernel_rfl) (by kernel_rfl) (by kernel_rfl) (fun _ _ _ h => h) (Or.inl ⟨by rfl, ?yr1_2⟩) hHeld ?_
          case yr1_2 => (intro W0 hSw; go_simp; try simp [k1])
          try simp only [pu]
          refine wpAnyH_take (i := 3) (oi := ⟨(some 8), _, _, _, _, _⟩) (v := .bool true) rfl (by kernel_rfl) (by kernel_rfl) (by kernel_rfl) (fun _ _ _ h => h) (Or.inl ⟨by rfl, ?yr1_3⟩) hHeld ?_
          case yr1_3 => (intro W0 hSw; go_simp; try with_reducible rfl)
          try simp only [pu]
          refine wpAnyH_take (i := 4) (oi := ⟨(some 9), _, _, _, _, _⟩) (v := .pointer (some ⟨w.heap.size, 2, none⟩)) rfl (by kernel_rfl) (by kernel_rfl) (by kernel_rfl) (fun _ _ _ h => h) (Or.inl ⟨by rfl, ?yr1_4⟩) hHeld ?_
          case yr1_4 => (intro W0 hSw; go_simp; try with_reducible rfl)
          try simp only [pu]
          refine wpAnyH_take (i := 5) (oi := ⟨(some 10), _, _, _, _, _⟩) (v := .agg (i64v a.seen).toArray) rfl (by kernel_rfl) (by kernel_rfl) (by kernel_rfl) (fun _ _ _ h => h) (yieldsIf_load_mid (by rfl) _ _ rfl (w.heap.size) 2 rfl (i64v a.seen) _ (fun W' hW' => ed_seenR (row_next2 hgA hW')) (Try.underlying36) rfl (by rw [i64v_len, HA.out]; kernel_rfl)) hHeld ?_
          try simp only [pu]
          refine wpAnyH_take (i := 6) (oi := ⟨(some 11), _, _, _, _, _⟩) (v := .pointer (some ⟨(w.heap.size + 1), 0, none⟩)) rfl (by kernel_rfl) (by kernel_rfl) (by kernel_rfl) (fun _ _ _ h => h) (Or.inl ⟨by rfl, ?yr1_6⟩) hHeld ?_
          case yr1_6 => (intro W0 hSw; go_simp; try with_reducible rfl)
          try simp only [pu]
          refine wpAnyH_take (i := 7) (oi := ⟨(some 12), _, _, _, _, _⟩) (v := .agg [.int .i64 b.dev, .int .i64 b.num].toArray) rfl (by kernel_rfl) (by kernel_rfl) (by kernel_rfl) (fun _ _ _ h => h) (yieldsIf_load_mid (by rfl) _ _ rfl ((w.heap.size + 1)) 0 rfl [.int .i64 b.dev, .int .i64 b.num] _ (fun W' hW' => ed_dotR (row_next2 hgB hW')) (Try.underlying24) rfl (by kernel_rfl)) hHeld ?_
          try simp only [pu]
          refine wpAnyH_ready (rs := [8]) (by kernel_rfl) (by simp) ?_
          refine AllReadyH.cons (i := 8) (o := ⟨(some 13), _, _, _, _, _⟩) rfl (fun K hK => ?_) AllReadyH.nil
          go_simp
          refine (d1 _).mono ?_
          rintro e r1W1 ⟨rfl, r1h1⟩
          refine hK.out _ _ (below_next hHeld hHeld.size r1h1) (fun hHeld => ?_)
          clear hK K r1h1
          try simp only [pu]
          refine wpAnyH_take (i := 9) (oi := ⟨(some 14), _, _, _, _, _⟩) (v := .bool true) rfl (by kernel_rfl) (by kernel_rfl) (by kernel_rfl) (fun _ _ _ h => h) (Or.inl ⟨by rfl, ?yr1_9⟩) hHeld ?_
          case yr1_9 => (intro W0 hSw; go_simp; try with_reducible rfl)
          try simp only [pu]
          refine wpAnyH_take (i := 10) (oi := ⟨(some 15), _, _, _, _, _⟩) (v := .bool true) rfl (by kernel_rfl) (by kernel_rfl) (by kernel_rfl) (fun _ _ _ h => h) (Or.inl ⟨by rfl, ?yr1_10⟩) hHeld ?_
          case yr1_10 => (intro W0 hSw; go_simp; try with_reducible rfl)
          try simp only [pu]
          refine wpAnyH_take (i := 11) (oi := ⟨(some 16), _, _, _, _, _⟩) (v := .pointer (some ⟨w.heap.size, 11, none⟩)) rfl (by kernel_rfl) (by kernel_rfl) (by kernel_rfl) (fun _ _ _ h => h) (Or.inl ⟨by rfl, ?yr1_11⟩) hHeld ?_
          case yr1_11 => (intro W0 hSw; go_simp; try with_reducible rfl)
          try simp only [pu]
          refine wpAnyH_take (i := 12) (oi := ⟨(some 17), _, _, _, _, _⟩) (v := .string a.con) rfl (by kernel_rfl) (by kernel_rfl) (by kernel_rfl) (fun _ _ _ h => h) (Or.inl ⟨by rfl, ?yr1_12⟩) hHeld ?_
          case yr1_12 => (intro W0 hSw; have cc := ed_con (row_next2 hgA hSw) HA.out; go_simp; try with_reducible rfl)
          try simp only [pu]
          refine wpAnyH_take (i := 13) (oi := ⟨(some 18), _, _, _, _, _⟩) (v := .pointer (some ⟨(w.heap.size + 1), 11, none⟩)) rfl (by kernel_rfl) (by kernel_rfl) (by kernel_rfl) (fun _ _ _ h => h) (Or.inl ⟨by rfl, ?yr1_13⟩) hHeld ?_
          case yr1_13 => (intro W0 hSw; go_simp; try with_reducible rfl)
          try simp only [pu]
          refine wpAnyH_take (i := 14) (oi := ⟨(some 19), _, _, _, _, _⟩) (v := .string b.con) rfl (by kernel_rfl) (by kernel_rfl) (by kernel_rfl) (fun _ _ _ h => h) (Or.inl ⟨by rfl, ?yr1_14⟩) hHeld ?_
          case yr1_14 => (intro W0 hSw; have cc := ed_con (row_next2 hgB hSw) HB.out; go_simp; try with_reducible rfl)
          try simp only [pu]
          refine wpAnyH_take (i := 15) (oi := ⟨(some 20), _, _, _, _, _⟩) (v := .bool true) rfl (by kernel_rfl) (by kernel_rfl) (by kernel_rfl) (fun _ _ _ h => h) (Or.inl ⟨by rfl, ?yr1_15⟩) hHeld ?_
          case yr1_15 => (intro W0 hSw; go_simp; try simp [e1])
          try simp only [pu]
          refine wpAnyH_take (i := 16) (oi := ⟨(some 21), _, _, _, _, _⟩) (v := .bool true) rfl (by kernel_rfl) (by kernel_rfl) (by kernel_rfl) (fun _ _ _ h => h) (Or.inl ⟨by rfl, ?yr1_16⟩) hHeld ?_
          case yr1_16 => (intro W0 hSw; go_simp; try with_reducible rfl)
          try simp only [pu]
          refine wpAnyH_take (i := 17) (oi := ⟨(some 22), _, _, _, _, _⟩) (v := .bool true) rfl (by kernel_rfl) (by kernel_rfl) (by kernel_rfl) (fun _ _ _ h => h) (Or.inl ⟨by rfl, ?yr1_17⟩) hHeld ?_
          case yr1_17 => (intro W0 hSw; go_simp; try with_reducible rfl)
          try simp only [pu]
          refine wpAnyH_take (i := 18) (oi := ⟨(some 23), _, _, _, _, _⟩) (v := .pointer (some ⟨w.heap.size, 10, none⟩)) rfl (by kernel_rfl) (by kernel_rfl) (by kernel_rfl) (fun _ _ _ h => h) (Or.inl ⟨by rfl, ?yr1_18⟩) hHeld ?_
          case yr1_18 => (intro W0 hSw; go_simp; try with_reducible rfl)
          try simp only [pu]
          refine wpAnyH_take (i := 19) (oi := ⟨(some 24), _, _, _, _, _⟩) (v := .int .i64 a.kind) rfl (by kernel_rfl) (by kernel_rfl) (by kernel_rfl) (fun _ _ _ h => h) (Or.inl ⟨by rfl, ?yr1_19⟩) hHeld ?_
          case yr1_19 => (intro W0 hSw; have cc := ed_kind (row_next2 hgA hSw) HA.out; go_simp; try with_reducible rfl)
          try simp only [pu]
          refine wpAnyH_take (i := 20) (oi := ⟨(some 25), _, _, _, _, _⟩) (v := .bool true) rfl (by kernel_rfl) (by kernel_rfl) (by kernel_rfl) (fun _ _ _ h => h) (Or.inl ⟨by rfl, ?yr1_20⟩) hHeld ?_
          case yr1_20 => (intro W0 hSw; go_simp; try simp [a2])
          try simp only [pu]
          refine wpAnyH_take (i := 21) (oi := ⟨(some 26), _, _, _, _, _⟩) (v := .bool true) rfl (by kernel_rfl) (by kernel_rfl) (by kernel_rfl) (fun _ _ _ h => h) (Or.inl ⟨by rfl, ?yr1_21⟩) hHeld ?_
          case yr1_21 => (intro W0 hSw; go_simp; try with_reducible rfl)
          try simp only [pu]
          refine wpAnyH_take (i := 22) (oi := ⟨(some 27), _, _, _, _, _⟩) (v := undef) rfl (by kernel_rfl) (by kernel_rfl) (by kernel_rfl) (fun _ _ _ h => h) (Or.inr ⟨by rfl, rfl⟩) hHeld ?_
          try simp only [pu]
          refine wpAnyH_take (i := 23) (oi := ⟨(some 28), _, _, _, _, _⟩) (v := undef) rfl (by kernel_rfl) (by kernel_rfl) (by kernel_rfl) (fun _ _ _ h => h) (Or.inr ⟨by rfl, rfl⟩) hHeld ?_
          try simp only [pu]
          refine wpAnyH_take (i := 24) (oi := ⟨(some 29), _, _, _, _, _⟩) (v := undef) rfl (by kernel_rfl) (by kernel_rfl) (by kernel_rfl) (fun _ _ _ h => h) (Or.inr ⟨by rfl, rfl⟩) hHeld ?_
          try simp only [pu]
          refine wpAnyH_take (i := 25) (oi := ⟨(some 30), _, _, _, _, _⟩) (v := undef) rfl (by kernel_rfl) (by kernel_rfl) (by kernel_rfl) (fun _ _ _ h => h) (Or.inr ⟨by rfl, rfl⟩) hHeld ?_
          try simp only [pu]
          refine wpAnyH_take (i := 26) (oi := ⟨(some 31), _, _, _, _, _⟩) (v := undef) rfl (by kernel_rfl) (by kernel_rfl) (by kernel_rfl) (fun _ _ _ h => h) (Or.inr ⟨by rfl, rfl⟩) hHeld ?_
          try simp only [pu]
          refine wpAnyH_take (i := 27) (oi := ⟨(some 32), _, _, _, _, _⟩) (v := undef) rfl (by kernel_rfl) (by kernel_rfl) (by kernel_rfl) (fun _ _ _ h => h) (Or.inr ⟨by rfl, rfl⟩) hHeld ?_
          try simp only [pu]
          refine wpAnyH_take (i := 28) (oi := ⟨(some 33), _, _, _, _, _⟩) (v := undef) rfl (by kernel_rfl) (by kernel_rfl) (by kernel_rfl) (fun _ _ _ h => h) (Or.inr ⟨by rfl, rfl⟩) hHeld ?_
          try simp only [pu]
          refine wpAnyH_take (i := 29) (oi := ⟨(some 34), _, _, _, _, _⟩) (v := undef) rfl (by kernel_rfl) (by kernel_rfl) (by kernel_rfl) (fun _ _ _ h => h) (Or.inr ⟨by rfl, rfl⟩) hHeld ?_
          try simp only [pu]
          refine wpAnyH_take (i := 30) (oi := ⟨(some 35), _, _, _, _, _⟩) (v := undef) rfl (by kernel_rfl) (by kernel_rfl) (by kernel_rfl) (fun _ _ _ h => h) (Or.inr ⟨by rfl, rfl⟩) hHeld ?_
          try simp only [pu]
          refine wpAnyH_take (i := 31) (oi := ⟨(some 36), _, _, _, _, _⟩) (v := undef) rfl (by kernel_rfl) (by kernel_rfl) (by kernel_rfl) (fun _ _ _ h => h) (Or.inr ⟨by rfl, rfl⟩) hHeld ?_
          try simp only [pu]
          refine wpAnyH_take (i := 32) (oi := ⟨(some 37), _, _, _, _, _⟩) (v := .bool true) rfl (by kernel_rfl) (by kernel_rfl) (by kernel_rfl) (fun _ _ _ h => h) (Or.inl ⟨by rfl, ?yr1_32⟩) hHeld ?_
          case yr1_32 => (intro W0 hSw; go_simp; try with_reducible rfl)
          try simp only [pu]
          refine wpAnyH_take (i := 33) (oi := ⟨(some 38), _, _, _, _, _⟩) (v := .bool true) rfl (by kernel_rfl) (by kernel_rfl) (by kernel_rfl) (fun _ _ _ h => h) (Or.inl ⟨by rfl, ?yr1_33⟩) hHeld ?_
          case yr1_33 => (intro W0 hSw; go_simp; try with_reducible rfl)
          try simp only [pu]
          refine wpAnyH_take (i := 34) (oi := ⟨(some 4), _, _, _, _, _⟩) (v := .bool true) rfl (by kernel_rfl) (by kernel_rfl) (by kernel_rfl) (fun _ _ _ h => h) (Or.inl ⟨by rfl, ?yr1_34⟩) hHeld ?_
          case yr1_34 => (intro W0 hSw; go_simp; try with_reducible rfl)
          try simp only [pu]
          refine wpAnyH_done (by kernel_rfl) ?_ _
          go_wp2
          go_ret
          exact ⟨ret_bool (by rw [HO.out, decide_eq_true k1, decide_eq_true a2]; simp), below_next hbW hbW.size hHeld⟩
        · by_cases a1 : a.kind = 1
          · skip
            refine plain_start (S := fun W' => Below W.heap.size W W') (by kernel_rfl) (Below.refl _ _) (fun hHeld => ?_)
            refine wpAnyH_take (i := 0) (oi := ⟨(some 5), _, _, _, _, _⟩) (v := .pointer (some ⟨(w.heap.size + 1), 10, none⟩)) rfl (by kernel_rfl) (by kernel_rfl) (by kernel_rfl) (fun _ _ _ h => h) (Or.inl ⟨by rfl, ?yr1_0⟩) hHeld ?_
            case yr1_0 => (intro W0 hSw; go_simp; try with_reducible rfl)
            try simp only [pu]
            refine wpAnyH_take (i := 1) (oi := ⟨(some 6), _, _, _, _, _⟩) (v := .int .i64 b.kind) rfl (by kernel_rfl) (by kernel_rfl) (by kernel_rfl) (fun _ _ _ h => h) (Or.inl ⟨by rfl, ?yr1_1⟩) hHeld ?_
            case yr1_1 => (intro W0 hSw; have cc := ed_kind (row_next2 hgB hSw) HB.out; go_simp; try with_reducible rfl)
            try simp only [pu]
            refine wpAnyH_take (i := 2) (oi := ⟨(some 7), _, _, _, _, _⟩) (v := .bool true) rfl (by kernel_rfl) (by kernel_rfl) (by kernel_rfl) (fun _ _ _ h => h) (Or.inl ⟨by rfl, ?yr1_2⟩) hHeld ?_
            case yr1_2 => (intro W0 hSw; go_simp; try simp [k1])
            try simp only [pu]
            refine wpAnyH_take (i := 3) (oi := ⟨(some 8), _, _, _, _, _⟩) (v := .bool true) rfl (by kernel_rfl) (by kernel_rfl) (by kernel_rfl) (fun _ _ _ h => h) (Or.inl ⟨by rfl, ?yr1_3⟩) hHeld ?_
            case yr1_3 => (intro W0 hSw; go_simp; try with_reducible rfl)
            try simp only [pu]
            refine wpAnyH_take (i := 4) (oi := ⟨(some 9), _, _, _, _, _⟩) (v := .pointer (some ⟨w.heap.size, 2, none⟩)) rfl (by kernel_rfl) (by kernel_rfl) (by kernel_rfl) (fun _ _ _ h => h) (Or.inl ⟨by rfl, ?yr1_4⟩) hHeld ?_
            case yr1_4 => (intro W0 hSw; go_simp; try with_reducible rfl)
            try simp only [pu]
            refine wpAnyH_take (i := 5) (oi := ⟨(some 10), _, _, _, _, _⟩) (v := .agg (i64v a.seen).toArray) rfl (by kernel_rfl) (by kernel_rfl) (by kernel_rfl) (fun _ _ _ h => h) (yieldsIf_load_mid (by rfl) _ _ rfl (w.heap.size) 2 rfl (i64v a.seen) _ (fun W' hW' => ed_seenR (row_next2 hgA hW')) (Try.underlying36) rfl (by rw [i64v_len, HA.out]; kernel_rfl)) hHeld ?_
            try simp only [pu]
            refine wpAnyH_take (i := 6) (oi := ⟨(some 11), _, _, _, _, _⟩) (v := .pointer (some ⟨(w.heap.size + 1), 0, none⟩)) rfl (by kernel_rfl) (by kernel_rfl) (by kernel_rfl) (fun _ _ _ h => h) (Or.inl ⟨by rfl, ?yr1_6⟩) hHeld ?_
            case yr1_6 => (intro W0 hSw; go_simp; try with_reducible rfl)
            try simp only [pu]
            refine wpAnyH_take (i := 7) (oi := ⟨(some 12), _, _, _, _, _⟩) (v := .agg [.int .i64 b.dev, .int .i64 b.num].toArray) rfl (by kernel_rfl) (by kernel_rfl) (by kernel_rfl) (fun _ _ _ h => h) (yieldsIf_load_mid (by rfl) _ _ rfl ((w.heap.size + 1)) 0 rfl [.int .i64 b.dev, .int .i64 b.num] _ (fun W' hW' => ed_dotR (row_next2 hgB hW')) (Try.underlying24) rfl (by kernel_rfl)) hHeld ?_
            try simp only [pu]
            refine wpAnyH_ready (rs := [8]) (by kernel_rfl) (by simp) ?_
            refine AllReadyH.cons (i := 8) (o := ⟨(some 13), _, _, _, _, _⟩) rfl (fun K hK => ?_) AllReadyH.nil
            go_simp
            refine (d1 _).mono ?_
            rintro e r1W1 ⟨rfl, r1h1⟩
            refine hK.out _ _ (below_next hHeld hHeld.size r1h1) (fun hHeld => ?_)
            clear hK K r1h1
            try simp only [pu]
            refine wpAnyH_take (i := 9) (oi := ⟨(some 14), _, _, _, _, _⟩) (v := .bool true) rfl (by kernel_rfl) (by kernel_rfl) (by kernel_rfl) (fun _ _ _ h => h) (Or.inl ⟨by rfl, ?yr1_9⟩) hHeld ?_
            case yr1_9 => (intro W0 hSw; go_simp; try with_reducible rfl)
            try simp only [pu]
            refine wpAnyH_take (i := 10) (oi := ⟨(some 15), _, _, _, _, _⟩) (v := .bool true) rfl (by kernel_rfl) (by kernel_rfl) (by kernel_rfl) (fun _ _ _ h => h) (Or.inl ⟨by rfl, ?yr1_10⟩) hHeld ?_
            case yr1_10 => (intro W0 hSw; go_simp; try with_reducible rfl)
            try simp only [pu]
            refine wpAnyH_take (i := 11) (oi := ⟨(some 16), _, _, _, _, _⟩) (v := .pointer (some ⟨w.heap.size, 11, none⟩)) rfl (by kernel_rfl) (by kernel_rfl) (by kernel_rfl) (fun _ _ _ h => h) (Or.inl ⟨by rfl, ?yr1_11⟩) hHeld ?_
            case yr1_11 => (intro W0 hSw; go_simp; try with_reducible rfl)
            try simp only [pu]
            refine wpAnyH_take (i := 12) (oi := ⟨(some 17), _, _, _, _, _⟩) (v := .string a.con) rfl (by kernel_rfl) (by kernel_rfl) (by kernel_rfl) (fun _ _ _ h => h) (Or.inl ⟨by rfl, ?yr1_12⟩) hHeld ?_
            case yr1_12 => (intro W0 hSw; have cc := ed_con (row_next2 hgA hSw) HA.out; go_simp; try with_reducible rfl)
            try simp only [pu]
            refine wpAnyH_take (i := 13) (oi := ⟨(some 18), _, _, _, _, _⟩) (v := .pointer (some ⟨(w.heap.size + 1), 11, none⟩)) rfl (by kernel_rfl) (by kernel_rfl) (by kernel_rfl) (fun _ _ _ h => h) (Or.inl ⟨by rfl, ?yr1_13⟩) hHeld ?_
            case yr1_13 => (intro W0 hSw; go_simp; try with_reducible rfl)
            try simp only [pu]
            refine wpAnyH_take (i := 14) (oi := ⟨(some 19), _, _, _, _, _⟩) (v := .string b.con) rfl (by kernel_rfl) (by kernel_rfl) (by kernel_rfl) (fun _ _ _ h => h) (Or.inl ⟨by rfl, ?yr1_14⟩) hHeld ?_
            case yr1_14 => (intro W0 hSw; have cc := ed_con (row_next2 hgB hSw) HB.out; go_simp; try with_reducible rfl)
            try simp only [pu]
            refine wpAnyH_take (i := 15) (oi := ⟨(some 20), _, _, _, _, _⟩) (v := .bool true) rfl (by kernel_rfl) (by kernel_rfl) (by kernel_rfl) (fun _ _ _ h => h) (Or.inl ⟨by rfl, ?yr1_15⟩) hHeld ?_
            case yr1_15 => (intro W0 hSw; go_simp; try simp [e1])
            try simp only [pu]
            refine wpAnyH_take (i := 16) (oi := ⟨(some 21), _, _, _, _, _⟩) (v := .bool true) rfl (by kernel_rfl) (by kernel_rfl) (by kernel_rfl) (fun _ _ _ h => h) (Or.inl ⟨by rfl, ?yr1_16⟩) hHeld ?_
            case yr1_16 => (intro W0 hSw; go_simp; try with_reducible rfl)
            try simp only [pu]
            refine wpAnyH_take (i := 17) (oi := ⟨(some 22), _, _, _, _, _⟩) (v := .bool true) rfl (by kernel_rfl) (by kernel_rfl) (by kernel_rfl) (fun _ _ _ h => h) (Or.inl ⟨by rfl, ?yr1_17⟩) hHeld ?_
            case yr1_17 => (intro W0 hSw; go_simp; try with_reducible rfl)
            try simp only [pu]
            refine wpAnyH_take (i := 18) (oi := ⟨(some 23), _, _, _, _, _⟩) (v := .pointer (some ⟨w.heap.size, 10, none⟩)) rfl (by kernel_rfl) (by kernel_rfl) (by kernel_rfl) (fun _ _ _ h => h) (Or.inl ⟨by rfl, ?yr1_18⟩) hHeld ?_
            case yr1_18 => (intro W0 hSw; go_simp; try with_reducible rfl)
            try simp only [pu]
            refine wpAnyH_take (i := 19) (oi := ⟨(some 24), _, _, _, _, _⟩) (v := .int .i64 a.kind) rfl (by kernel_rfl) (by kernel_rfl) (by kernel_rfl) (fun _ _ _ h => h) (Or.inl ⟨by rfl, ?yr1_19⟩) hHeld ?_
            case yr1_19 => (intro W0 hSw; have cc := ed_kind (row_next2 hgA hSw) HA.out; go_simp; try with_reducible rfl)
            try simp only [pu]
            refine wpAnyH_take (i := 20) (oi := ⟨(some 25), _, _, _, _, _⟩) (v := .bool false) rfl (by kernel_rfl) (by kernel_rfl) (by kernel_rfl) (fun _ _ _ h => h) (Or.inl ⟨by rfl, ?yr1_20⟩) hHeld ?_
            case yr1_20 => (intro W0 hSw; go_simp; try simp [a2])
            try simp only [pu]
            refine wpAnyH_take (i := 21) (oi := ⟨(some 26), _, _, _, _, _⟩) (v := .bool false) rfl (by kernel_rfl) (by kernel_rfl) (by kernel_rfl) (fun _ _ _ h => h) (Or.inl ⟨by rfl, ?yr1_21⟩) hHeld ?_
            case yr1_21 => (intro W0 hSw; go_simp; try with_reducible rfl)
            try simp only [pu]
            refine wpAnyH_take (i := 22) (oi := ⟨(some 27), _, _, _, _, _⟩) (v := .pointer (some ⟨w.heap.size, 10, none⟩)) rfl (by kernel_rfl) (by kernel_rfl) (by kernel_rfl) (fun _ _ _ h => h) (Or.inl ⟨by rfl, ?yr1_22⟩) hHeld ?_
            case yr1_22 => (intro W0 hSw; go_simp; try with_reducible rfl)
            try simp only [pu]
            refine wpAnyH_take (i := 23) (oi := ⟨(some 28), _, _, _, _, _⟩) (v := .int .i64 a.kind) rfl (by kernel_rfl) (by kernel_rfl) (by kernel_rfl) (fun _ _ _ h => h) (Or.inl ⟨by rfl, ?yr1_23⟩) hHeld ?_
            case yr1_23 => (intro W0 hSw; have cc := ed_kind (row_next2 hgA hSw) HA.out; go_simp; try with_reducible rfl)
            try simp only [pu]
            refine wpAnyH_take (i := 24) (oi := ⟨(some 29), _, _, _, _, _⟩) (v := .bool true) rfl (by kernel_rfl) (by kernel_rfl) (by kernel_rfl) (fun _ _ _ h => h) (Or.inl ⟨by rfl, ?yr1_24⟩) hHeld ?_
            case yr1_24 => (intro W0 hSw; go_simp; try simp [a1])
            try simp only [pu]
            refine wpAnyH_take (i := 25) (oi := ⟨(some 30), _, _, _, _, _⟩) (v := .bool true) rfl (by kernel_rfl) (by kernel_rfl) (by kernel_rfl) (fun _ _ _ h => h) (Or.inl ⟨by rfl, ?yr1_25⟩) hHeld ?_
            case yr1_25 => (intro W0 hSw; go_simp; try with_reducible rfl)
            try simp only [pu]
            refine wpAnyH_take (i := 26) (oi := ⟨(some 31), _, _, _, _, _⟩) (v := .pointer (some ⟨w.heap.size, 12, none⟩)) rfl (by kernel_rfl) (by kernel_rfl) (by kernel_rfl) (fun _ _ _ h => h) (Or.inl ⟨by rfl, ?yr1_26⟩) hHeld ?_
            case yr1_26 => (intro W0 hSw; go_simp; try with_reducible rfl)
            try simp only [pu]
            refine wpAnyH_take (i := 27) (oi := ⟨(some 32), _, _, _, _, _⟩) (v := .string a.fld) rfl (by kernel_rfl) (by kernel_rfl) (by kernel_rfl) (fun _ _ _ h => h) (Or.inl ⟨by rfl, ?yr1_27⟩) hHeld ?_
            case yr1_27 => (intro W0 hSw; have cc := ed_fld (row_next2 hgA hSw) HA.out; go_simp; try with_reducible rfl)
            try simp only [pu]
            refine wpAnyH_take (i := 28) (oi := ⟨(some 33), _, _, _, _, _⟩) (v := .pointer (some ⟨(w.heap.size + 1), 12, none⟩)) rfl (by kernel_rfl) (by kernel_rfl) (by kernel_rfl) (fun _ _ _ h => h) (Or.inl ⟨by rfl, ?yr1_28⟩) hHeld ?_
            case yr1_28 => (intro W0 hSw; go_simp; try with_reducible rfl)
            try simp only [pu]
            refine wpAnyH_take (i := 29) (oi := ⟨(some 34), _, _, _, _, _⟩) (v := .string b.fld) rfl (by kernel_rfl) (by kernel_rfl) (by kernel_rfl) (fun _ _ _ h => h) (Or.inl ⟨by rfl, ?yr1_29⟩) hHeld ?_
            case yr1_29 => (intro W0 hSw; have cc := ed_fld (row_next2 hgB hSw) HB.out; go_simp; try with_reducible rfl)
            try simp only [pu]
            refine wpAnyH_take (i := 30) (oi := ⟨(some 35), _, _, _, _, _⟩) (v := .bool x3) rfl (by kernel_rfl) (by kernel_rfl) (by kernel_rfl) (fun _ _ _ h => h) (Or.inl ⟨by rfl, ?yr1_30⟩) hHeld ?_
            case yr1_30 => (intro W0 hSw; go_simp; try simp only [e2]; try with_reducible rfl)
            try simp only [pu]
            refine wpAnyH_take (i := 31) (oi := ⟨(some 36), _, _, _, _, _⟩) (v := .bool x3) rfl (by kernel_rfl) (by kernel_rfl) (by kernel_rfl) (fun _ _ _ h => h) (Or.inl ⟨by rfl, ?yr1_31⟩) hHeld ?_
            case yr1_31 => (intro W0 hSw; go_simp; try with_reducible rfl)
            try simp only [pu]
            refine wpAnyH_take (i := 32) (oi := ⟨(some 37), _, _, _, _, _⟩) (v := .bool x3) rfl (by kernel_rfl) (by kernel_rfl) (by kernel_rfl) (fun _ _ _ h => h) (Or.inl ⟨by rfl, ?yr1_32⟩) hHeld ?_
            case yr1_32 => (intro W0 hSw; go_simp; try with_reducible rfl)
            try simp only [pu]
            refine wpAnyH_take (i := 33) (oi := ⟨(some 38), _, _, _, _, _⟩) (v := .bool x3) rfl (by kernel_rfl) (by kernel_rfl) (by kernel_rfl) (fun _ _ _ h => h) (Or.inl ⟨by rfl, ?yr1_33⟩) hHeld ?_
            case yr1_33 => (intro W0 hSw; go_simp; try with_reducible rfl)
            try simp only [pu]
            refine wpAnyH_take (i := 34) (oi := ⟨(some 4), _, _, _, _, _⟩) (v := .bool x3) rfl (by kernel_rfl) (by kernel_rfl) (by kernel_rfl) (fun _ _ _ h => h) (Or.inl ⟨by rfl, ?yr1_34⟩) hHeld ?_
            case yr1_34 => (intro W0 hSw; go_simp; try with_reducible rfl)
            try simp only [pu]
            refine wpAnyH_done (by kernel_rfl) ?_ _
            go_wp2
            go_ret
            exact ⟨ret_bool (by rw [HO.out, decide_eq_true k1, decide_eq_false a2, decide_eq_true a1]; simp), below_next hbW hbW.size hHeld⟩
          · skip
            refine plain_start (S := fun W' => Below W.heap.size W W') (by kernel_rfl) (Below.refl _ _) (fun hHeld => ?_)
            refine wpAnyH_take (i := 0) (oi := ⟨(some 5), _, _, _, _, _⟩) (v := .pointer (some ⟨(w.heap.size + 1), 10, none⟩)) rfl (by kernel_rfl) (by kernel_rfl) (by kernel_rfl) (fun _ _ _ h => h) (Or.inl ⟨by rfl, ?yr1_0⟩) hHeld ?_
            case yr1_0 => (intro W0 hSw; go_simp; try with_reducible rfl)
            try simp only [pu]
            refine wpAnyH_take (i := 1) (oi := ⟨(some 6), _, _, _, _, _⟩) (v := .int .i64 b.kind) rfl (by kernel_rfl) (by kernel_rfl) (by kernel_rfl) (fun _ _ _ h => h) (Or.inl ⟨by rfl, ?yr1_1⟩) hHeld ?_
            case yr1_1 => (intro W0 hSw; have cc := ed_kind (row_next2 hgB hSw) HB.out; go_simp; try with_reducible rfl)
            try simp only [pu]
            refine wpAnyH_take (i := 2) (oi := ⟨(some 7), _, _, _, _, _⟩) (v := .bool true) rfl (by kernel_rfl) (by kernel_rfl) (by kernel_rfl) (fun _ _ _ h => h) (Or.inl ⟨by rfl, ?yr1_2⟩) hHeld ?_
            case yr1_2 => (intro W0 hSw; go_simp; try simp [k1])
            try simp only [pu]
            refine wpAnyH_take (i := 3) (oi := ⟨(some 8), _, _, _, _, _⟩) (v := .bool true) rfl (by kernel_rfl) (by kernel_rfl) (by kernel_rfl) (fun _ _ _ h => h) (Or.inl ⟨by rfl, ?yr1_3⟩) hHeld ?_
            case yr1_3 => (intro W0 hSw; go_simp; try with_reducible rfl)
            try simp only [pu]
            refine wpAnyH_take (i := 4) (oi := ⟨(some 9), _, _, _, _, _⟩) (v := .pointer (some ⟨w.heap.size, 2, none⟩)) rfl (by kernel_rfl) (by kernel_rfl) (by kernel_rfl) (fun _ _ _ h => h) (Or.inl ⟨by rfl, ?yr1_4⟩) hHeld ?_
            case yr1_4 => (intro W0 hSw; go_simp; try with_reducible rfl)
            try simp only [pu]
            refine wpAnyH_take (i := 5) (oi := ⟨(some 10), _, _, _, _, _⟩) (v := .agg (i64v a.seen).toArray) rfl (by kernel_rfl) (by kernel_rfl) (by kernel_rfl) (fun _ _ _ h => h) (yieldsIf_load_mid (by rfl) _ _ rfl (w.heap.size) 2 rfl (i64v a.seen) _ (fun W' hW' => ed_seenR (row_next2 hgA hW')) (Try.underlying36) rfl (by rw [i64v_len, HA.out]; kernel_rfl)) hHeld ?_
            try simp only [pu]
            refine wpAnyH_take (i := 6) (oi := ⟨(some 11), _, _, _, _, _⟩) (v := .pointer (some ⟨(w.heap.size + 1), 0, none⟩)) rfl (by kernel_rfl) (by kernel_rfl) (by kernel_rfl) (fun _ _ _ h => h) (Or.inl ⟨by rfl, ?yr1_6⟩) hHeld ?_
            case yr1_6 => (intro W0 hSw; go_simp; try with_reducible rfl)
            try simp only [pu]
            refine wpAnyH_take (i := 7) (oi := ⟨(some 12), _, _, _, _, _⟩) (v := .agg [.int .i64 b.dev, .int .i64 b.num].toArray) rfl (by kernel_rfl) (by kernel_rfl) (by kernel_rfl) (fun _ _ _ h => h) (yieldsIf_load_mid (by rfl) _ _ rfl ((w.heap.size + 1)) 0 rfl [.int .i64 b.dev, .int .i64 b.num] _ (fun W' hW' => ed_dotR (row_next2 hgB hW')) (Try.underlying24) rfl (by kernel_rfl)) hHeld ?_
            try simp only [pu]
            refine wpAnyH_ready (rs := [8]) (by kernel_rfl) (by simp) ?_
            refine AllReadyH.cons (i := 8) (o := ⟨(some 13), _, _, _, _, _⟩) rfl (fun K hK => ?_) AllReadyH.nil
            go_simp
            refine (d1 _).mono ?_
            rintro e r1W1 ⟨rfl, r1h1⟩
            refine hK.out _ _ (below_next hHeld hHeld.size r1h1) (fun hHeld => ?_)
            clear hK K r1h1
            try simp only [pu]
            refine wpAnyH_take (i := 9) (oi := ⟨(some 14), _, _, _, _, _⟩) (v := .bool true) rfl (by kernel_rfl) (by kernel_rfl) (by kernel_rfl) (fun _ _ _ h => h) (Or.inl ⟨by rfl, ?yr1_9⟩) hHeld ?_
            case yr1_9 => (intro W0 hSw; go_simp; try with_reducible rfl)
            try simp only [pu]
            refine wpAnyH_take (i := 10) (oi := ⟨(some 15), _, _, _, _, _⟩) (v := .bool true) rfl (by kernel_rfl) (by kernel_rfl) (by kernel_rfl) (fun _ _ _ h => h) (Or.inl ⟨by rfl, ?yr1_10⟩) hHeld ?_
            case yr1_10 => (intro W0 hSw; go_simp; try with_reducible rfl)
            try simp only [pu]
            refine wpAnyH_take (i := 11) (oi := ⟨(some 16), _, _, _, _, _⟩) (v := .pointer (some ⟨w.heap.size, 11, none⟩)) rfl (by kernel_rfl) (by kernel_rfl) (by kernel_rfl) (fun _ _ _ h => h) (Or.inl ⟨by rfl, ?yr1_11⟩) hHeld ?_
            case yr1_11 => (intro W0 hSw; go_simp; try with_reducible rfl)
            try simp only [pu]
            refine wpAnyH_take (i := 12) (oi := ⟨(some 17), _, _, _, _, _⟩) (v := .string a.con) rfl (by kernel_rfl) (by kernel_rfl) (by kernel_rfl) (fun _ _ _ h => h) (Or.inl ⟨by rfl, ?yr1_12⟩) hHeld ?_
            case yr1_12 => (intro W0 hSw; have cc := ed_con (row_next2 hgA hSw) HA.out; go_simp; try with_reducible rfl)
            try simp only [pu]
            refine wpAnyH_take (i := 13) (oi := ⟨(some 18), _, _, _, _, _⟩) (v := .pointer (some ⟨(w.heap.size + 1), 11, none⟩)) rfl (by kernel_rfl) (by kernel_rfl) (by kernel_rfl) (fun _ _ _ h => h) (Or.inl ⟨by rfl, ?yr1_13⟩) hHeld ?_
            case yr1_13 => (intro W0 hSw; go_simp; try with_reducible rfl)
            try simp only [pu]
            refine wpAnyH_take (i := 14) (oi := ⟨(some 19), _, _, _, _, _⟩) (v := .string b.con) rfl (by kernel_rfl) (by kernel_rfl) (by kernel_rfl) (fun _ _ _ h => h) (Or.inl ⟨by rfl, ?yr1_14⟩) hHeld ?_
            case yr1_14 => (intro W0 hSw; have cc := ed_con (row_next2 hgB hSw) HB.out; go_simp; try with_reducible rfl)
            try simp only [pu]
            refine wpAnyH_take (i := 15) (oi := ⟨(some 20), _, _, _, _, _⟩) (v := .bool true) rfl (by kernel_rfl) (by kernel_rfl) (by kernel_rfl) (fun _ _ _ h => h) (Or.inl ⟨by rfl, ?yr1_15⟩) hHeld ?_
            case yr1_15 => (intro W0 hSw; go_simp; try simp [e1])
            try simp only [pu]
            refine wpAnyH_take (i := 16) (oi := ⟨(some 21), _, _, _, _, _⟩) (v := .bool true) rfl (by kernel_rfl) (by kernel_rfl) (by kernel_rfl) (fun _ _ _ h => h) (Or.inl ⟨by rfl, ?yr1_16⟩) hHeld ?_
            case yr1_16 => (intro W0 hSw; go_simp; try with_reducible rfl)
            try simp only [pu]
            refine wpAnyH_take (i := 17) (oi := ⟨(some 22), _, _, _, _, _⟩) (v := .bool true) rfl (by kernel_rfl) (by kernel_rfl) (by kernel_rfl) (fun _ _ _ h => h) (Or.inl ⟨by rfl, ?yr1_17⟩) hHeld ?_
            case yr1_17 => (intro W0 hSw; go_simp; try with_reducible rfl)
            try simp only [pu]
            refine wpAnyH_take (i := 18) (oi := ⟨(some 23), _, _, _, _, _⟩) (v := .pointer (some ⟨w.heap.size, 10, none⟩)) rfl (by kernel_rfl) (by kernel_rfl) (by kernel_rfl) (fun _ _ _ h => h) (Or.inl ⟨by rfl, ?yr1_18⟩) hHeld ?_
            case yr1_18 => (intro W0 hSw; go_simp; try with_reducible rfl)
            try simp only [pu]
            refine wpAnyH_take (i := 19) (oi := ⟨(some 24), _, _, _, _, _⟩) (v := .int .i64 a.kind) rfl (by kernel_rfl) (by kernel_rfl) (by kernel_rfl) (fun _ _ _ h => h) (Or.inl ⟨by rfl, ?yr1_19⟩) hHeld ?_
            case yr1_19 => (intro W0 hSw; have cc := ed_kind (row_next2 hgA hSw) HA.out; go_simp; try with_reducible rfl)
            try simp only [pu]
            refine wpAnyH_take (i := 20) (oi := ⟨(some 25), _, _, _, _, _⟩) (v := .bool false) rfl (by kernel_rfl) (by kernel_rfl) (by kernel_rfl) (fun _ _ _ h => h) (Or.inl ⟨by rfl, ?yr1_20⟩) hHeld ?_
            case yr1_20 => (intro W0 hSw; go_simp; try simp [a2])
            try simp only [pu]
            refine wpAnyH_take (i := 21) (oi := ⟨(some 26), _, _, _, _, _⟩) (v := .bool false) rfl (by kernel_rfl) (by kernel_rfl) (by kernel_rfl) (fun _ _ _ h => h) (Or.inl ⟨by rfl, ?yr1_21⟩) hHeld ?_
            case yr1_21 => (intro W0 hSw; go_simp; try with_reducible rfl)
            try simp only [pu]
            refine wpAnyH_take (i := 22) (oi := ⟨(some 27), _, _, _, _, _⟩) (v := .pointer (some ⟨w.heap.size, 10, none⟩)) rfl (by kernel_rfl) (by kernel_rfl) (by kernel_rfl) (fun _ _ _ h => h) (Or.inl ⟨by rfl, ?yr1_22⟩) hHeld ?_
            case yr1_22 => (intro W0 hSw; go_simp; try with_reducible rfl)
            try simp only [pu]
            refine wpAnyH_take (i := 23) (oi := ⟨(some 28), _, _, _, _, _⟩) (v := .int .i64 a.kind) rfl (by kernel_rfl) (by kernel_rfl) (by kernel_rfl) (fun _ _ _ h => h) (Or.inl ⟨by rfl, ?yr1_23⟩) hHeld ?_
            case yr1_23 => (intro W0 hSw; have cc := ed_kind (row_next2 hgA hSw) HA.out; go_simp; try with_reducible rfl)
            try simp only [pu]
            refine wpAnyH_take (i := 24) (oi := ⟨(some 29), _, _, _, _, _⟩) (v := .bool false) rfl (by kernel_rfl) (by kernel_rfl) (by kernel_rfl) (fun _ _ _ h => h) (Or.inl ⟨by rfl, ?yr1_24⟩) hHeld ?_
            case yr1_24 => (intro W0 hSw; go_simp; try simp [a1])
            try simp only [pu]
            refine wpAnyH_take (i := 25) (oi := ⟨(some 30), _, _, _, _, _⟩) (v := .bool false) rfl (by kernel_rfl) (by kernel_rfl) (by kernel_rfl) (fun _ _ _ h => h) (Or.inl ⟨by rfl, ?yr1_25⟩) hHeld ?_
            case yr1_25 => (intro W0 hSw; go_simp; try with_reducible rfl)
            try simp only [pu]
            refine wpAnyH_take (i := 26) (oi := ⟨(some 31), _, _, _, _, _⟩) (v := undef) rfl (by kernel_rfl) (by kernel_rfl) (by kernel_rfl) (fun _ _ _ h => h) (Or.inr ⟨by rfl, rfl⟩) hHeld ?_
            try simp only [pu]
            refine wpAnyH_take (i := 27) (oi := ⟨(some 32), _, _, _, _, _⟩) (v := undef) rfl (by kernel_rfl) (by kernel_rfl) (by kernel_rfl) (fun _ _ _ h => h) (Or.inr ⟨by rfl, rfl⟩) hHeld ?_
            try simp only [pu]
            refine wpAnyH_take (i := 28) (oi := ⟨(some 33), _, _, _, _, _⟩) (v := undef) rfl (by kernel_rfl) (by kernel_rfl) (by kernel_rfl) (fun _ _ _ h => h) (Or.inr ⟨by rfl, rfl⟩) hHeld ?_
            try simp only [pu]
            refine wpAnyH_take (i := 29) (oi := ⟨(some 34), _, _, _, _, _⟩) (v := undef) rfl (by kernel_rfl) (by kernel_rfl) (by kernel_rfl) (fun _ _ _ h => h) (Or.inr ⟨by rfl, rfl⟩) hHeld ?_
            try simp only [pu]
            refine wpAnyH_take (i := 30) (oi := ⟨(some 35), _, _, _, _, _⟩) (v := undef) rfl (by kernel_rfl) (by kernel_rfl) (by kernel_rfl) (fun _ _ _ h => h) (Or.inr ⟨by rfl, rfl⟩) hHeld ?_
            try simp only [pu]
            refine wpAnyH_take (i := 31) (oi := ⟨(some 36), _, _, _, _, _⟩) (v := .bool false) rfl (by kernel_rfl) (by kernel_rfl) (by kernel_rfl) (fun _ _ _ h => h) (Or.inl ⟨by rfl, ?yr1_31⟩) hHeld ?_
            case yr1_31 => (intro W0 hSw; go_simp; try with_reducible rfl)
            try simp only [pu]
            refine wpAnyH_take (i := 32) (oi := ⟨(some 37), _, _, _, _, _⟩) (v := .bool false) rfl (by kernel_rfl) (by kernel_rfl) (by kernel_rfl) (fun _ _ _ h => h) (Or.inl ⟨by rfl, ?yr1_32⟩) hHeld ?_
            case yr1_32 => (intro W0 hSw; go_simp; try with_reducible rfl)
            try simp only [pu]
            refine wpAnyH_take (i := 33) (oi := ⟨(some 38), _, _, _, _, _⟩) (v := .bool false) rfl (by kernel_rfl) (by kernel_rfl) (by kernel_rfl) (fun _ _ _ h => h) (Or.inl ⟨by rfl, ?yr1_33⟩) hHeld ?_
            case yr1_33 => (intro W0 hSw; go_simp; try with_reducible rfl)
            try simp only [pu]
            refine wpAnyH_take (i := 34) (oi := ⟨(some 4), _, _, _, _, _⟩) (v := .bool false) rfl (by kernel_rfl) (by kernel_rfl) (by kernel_rfl) (fun _ _ _ h => h) (Or.inl ⟨by rfl, ?yr1_34⟩) hHeld ?_
            case yr1_34 => (intro W0 hSw; go_simp; try with_reducible rfl)
            try simp only [pu]
            refine wpAnyH_done (by kernel_rfl) ?_ _
            go_wp2
            go_ret
            exact ⟨ret_bool (by rw [HO.out, decide_eq_true k1, decide_eq_false a2, decide_eq_false a1]; simp), below_next hbW hbW.size hHeld⟩
  · skip
    refine plain_start (S := fun W' => Below W.heap.size W W') (by kernel_rfl) (Below.refl _ _) (fun hHeld => ?_)
    refine wpAnyH_take (i := 0) (oi := ⟨(some 5), _, _, _, _, _⟩) (v := .pointer (some ⟨(w.heap.size + 1), 10, none⟩)) rfl (by kernel_rfl) (by kernel_rfl) (by kernel_rfl) (fun _ _ _ h => h) (Or.inl ⟨by rfl, ?yr1_0⟩) hHeld ?_
    case yr1_0 => (intro W0 hSw; go_simp; try with_reducible rfl)
    try simp only [pu]
    refine wpAnyH_take (i := 1) (oi := ⟨(some 6), _, _, _, _, _⟩) (v := .int .i64 b.kind) rfl (by kernel_rfl) (by kernel_rfl) (by kernel_rfl) (fun _ _ _ h => h) (Or.inl ⟨by rfl, ?yr1_1⟩) hHeld ?_
    case yr1_1 => (intro W0 hSw; have cc := ed_kind (row_next2 hgB hSw) HB.out; go_simp; try with_reducible rfl)
    try simp only [pu]
    refine wpAnyH_take (i := 2) (oi := ⟨(some 7), _, _, _, _, _⟩) (v := .bool false) rfl (by kernel_rfl) (by kernel_rfl) (by kernel_rfl) (fun _ _ _ h => h) (Or.inl ⟨by rfl, ?yr1_2⟩) hHeld ?_
    case yr1_2 => (intro W0 hSw; go_simp; try simp [k1])
    try simp only [pu]
    refine wpAnyH_take (i := 3) (oi := ⟨(some 8), _, _, _, _, _⟩) (v := .bool false) rfl (by kernel_rfl) (by kernel_rfl) (by kernel_rfl) (fun _ _ _ h => h) (Or.inl ⟨by rfl, ?yr1_3⟩) hHeld ?_
    case yr1_3 => (intro W0 hSw; go_simp; try with_reducible rfl)
    try simp only [pu]
    refine wpAnyH_take (i := 4) (oi := ⟨(some 9), _, _, _, _, _⟩) (v := undef) rfl (by kernel_rfl) (by kernel_rfl) (by kernel_rfl) (fun _ _ _ h => h) (Or.inr ⟨by rfl, rfl⟩) hHeld ?_
    try simp only [pu]
    refine wpAnyH_take (i := 5) (oi := ⟨(some 10), _, _, _, _, _⟩) (v := undef) rfl (by kernel_rfl) (by kernel_rfl) (by kernel_rfl) (fun _ _ _ h => h) (Or.inr ⟨by rfl, rfl⟩) hHeld ?_
    try simp only [pu]
    refine wpAnyH_take (i := 6) (oi := ⟨(some 11), _, _, _, _, _⟩) (v := undef) rfl (by kernel_rfl) (by kernel_rfl) (by kernel_rfl) (fun _ _ _ h => h) (Or.inr ⟨by rfl, rfl⟩) hHeld ?_
    try simp only [pu]
    refine wpAnyH_take (i := 7) (oi := ⟨(some 12), _, _, _, _, _⟩) (v := undef) rfl (by kernel_rfl) (by kernel_rfl) (by kernel_rfl) (fun _ _ _ h => h) (Or.inr ⟨by rfl, rfl⟩) hHeld ?_
    try simp only [pu]
    refine wpAnyH_take (i := 8) (oi := ⟨(some 13), _, _, _, _, _⟩) (v := undef) rfl (by kernel_rfl) (by kernel_rfl) (by kernel_rfl) (fun _ _ _ h => h) (Or.inr ⟨by rfl, rfl⟩) hHeld ?_
    try simp only [pu]
    refine wpAnyH_take (i := 9) (oi := ⟨(some 14), _, _, _, _, _⟩) (v := .bool false) rfl (by kernel_rfl) (by kernel_rfl) (by kernel_rfl) (fun _ _ _ h => h) (Or.inl ⟨by rfl, ?yr1_9⟩) hHeld ?_
    case yr1_9 => (intro W0 hSw; go_simp; try with_reducible rfl)
    try simp only [pu]
    refine wpAnyH_take (i := 10) (oi := ⟨(some 15), _, _, _, _, _⟩) (v := .bool false) rfl (by kernel_rfl) (by kernel_rfl) (by kernel_rfl) (fun _ _ _ h => h) (Or.inl ⟨by rfl, ?yr1_10⟩) hHeld ?_
    case yr1_10 => (intro W0 hSw; go_simp; try with_reducible rfl)
    try simp only [pu]
    refine wpAnyH_take (i := 11) (oi := ⟨(some 16), _, _, _, _, _⟩) (v := undef) rfl (by kernel_rfl) (by kernel_rfl) (by kernel_rfl) (fun _ _ _ h => h) (Or.inr ⟨by rfl, rfl⟩) hHeld ?_
    try simp only [pu]
    refine wpAnyH_take (i := 12) (oi := ⟨(some 17), _, _, _, _, _⟩) (v := undef) rfl (by kernel_rfl) (by kernel_rfl) (by kernel_rfl) (fun _ _ _ h => h) (Or.inr ⟨by rfl, rfl⟩) hHeld ?_
    try simp only [pu]
    refine wpAnyH_take (i := 13) (oi := ⟨(some 18), _, _, _, _, _⟩) (v := undef) rfl (by kernel_rfl) (by kernel_rfl) (by kernel_rfl) (fun _ _ _ h => h) (Or.inr ⟨by rfl, rfl⟩) hHeld ?_
    try simp only [pu]
    refine wpAnyH_take (i := 14) (oi := ⟨(some 19), _, _, _, _, _⟩) (v := undef) rfl (by kernel_rfl) (by kernel_rfl) (by kernel_rfl) (fun _ _ _ h => h) (Or.inr ⟨by rfl, rfl⟩) hHeld ?_
    try simp only [pu]
    refine wpAnyH_take (i := 15) (oi := ⟨(some 20), _, _, _, _, _⟩) (v := undef) rfl (by kernel_rfl) (by kernel_rfl) (by kernel_rfl) (fun _ _ _ h => h) (Or.inr ⟨by rfl, rfl⟩) hHeld ?_
    try simp only [pu]
    refine wpAnyH_take (i := 16) (oi := ⟨(some 21), _, _, _, _, _⟩) (v := .bool false) rfl (by kernel_rfl) (by kernel_rfl) (by kernel_rfl) (fun _ _ _ h => h) (Or.inl ⟨by rfl, ?yr1_16⟩) hHeld ?_
    case yr1_16 => (intro W0 hSw; go_simp; try with_reducible rfl)
    try simp only [pu]
    refine wpAnyH_take (i := 17) (oi := ⟨(some 22), _, _, _, _, _⟩) (v := .bool false) rfl (by kernel_rfl) (by kernel_rfl) (by kernel_rfl) (fun _ _ _ h => h) (Or.inl ⟨by rfl, ?yr1_17⟩) hHeld ?_
    case yr1_17 => (intro W0 hSw; go_simp; try with_reducible rfl)
    try simp only [pu]
    refine wpAnyH_take (i := 18) (oi := ⟨(some 23), _, _, _, _, _⟩) (v := undef) rfl (by kernel_rfl) (by kernel_rfl) (by kernel_rfl) (fun _ _ _ h => h) (Or.inr ⟨by rfl, rfl⟩) hHeld ?_
    try simp only [pu]
    refine wpAnyH_take (i := 19) (oi := ⟨(some 24), _, _, _, _, _⟩) (v := undef) rfl (by kernel_rfl) (by kernel_rfl) (by kernel_rfl) (fun _ _ _ h => h) (Or.inr ⟨by rfl, rfl⟩) hHeld ?_
    try simp only [pu]
    refine wpAnyH_take (i := 20) (oi := ⟨(some 25), _, _, _, _, _⟩) (v := undef) rfl (by kernel_rfl) (by kernel_rfl) (by kernel_rfl) (fun _ _ _ h => h) (Or.inr ⟨by rfl, rfl⟩) hHeld ?_
    try simp only [pu]
    refine wpAnyH_take (i := 21) (oi := ⟨(some 26), _, _, _, _, _⟩) (v := undef) rfl (by kernel_rfl) (by kernel_rfl) (by kernel_rfl) (fun _ _ _ h => h) (Or.inr ⟨by rfl, rfl⟩) hHeld ?_
    try simp only [pu]
    refine wpAnyH_take (i := 22) (oi := ⟨(some 27), _, _, _, _, _⟩) (v := undef) rfl (by kernel_rfl) (by kernel_rfl) (by kernel_rfl) (fun _ _ _ h => h) (Or.inr ⟨by rfl, rfl⟩) hHeld ?_
    try simp only [pu]
    refine wpAnyH_take (i := 23) (oi := ⟨(some 28), _, _, _, _, _⟩) (v := undef) rfl (by kernel_rfl) (by kernel_rfl) (by kernel_rfl) (fun _ _ _ h => h) (Or.inr ⟨by rfl, rfl⟩) hHeld ?_
    try simp only [pu]
    refine wpAnyH_take (i := 24) (oi := ⟨(some 29), _, _, _, _, _⟩) (v := undef) rfl (by kernel_rfl) (by kernel_rfl) (by kernel_rfl) (fun _ _ _ h => h) (Or.inr ⟨by rfl, rfl⟩) hHeld ?_
    try simp only [pu]
    refine wpAnyH_take (i := 25) (oi := ⟨(some 30), _, _, _, _, _⟩) (v := undef) rfl (by kernel_rfl) (by kernel_rfl) (by kernel_rfl) (fun _ _ _ h => h) (Or.inr ⟨by rfl, rfl⟩) hHeld ?_
    try simp only [pu]
    refine wpAnyH_take (i := 26) (oi := ⟨(some 31), _, _, _, _, _⟩) (v := undef) rfl (by kernel_rfl) (by kernel_rfl) (by kernel_rfl) (fun _ _ _ h => h) (Or.inr ⟨by rfl, rfl⟩) hHeld ?_
    try simp only [pu]
    refine wpAnyH_take (i := 27) (oi := ⟨(some 32), _, _, _, _, _⟩) (v := undef) rfl (by kernel_rfl) (by kernel_rfl) (by kernel_rfl) (fun _ _ _ h => h) (Or.inr ⟨by rfl, rfl⟩) hHeld ?_
    try simp only [pu]
    refine wpAnyH_take (i := 28) (oi := ⟨(some 33), _, _, _, _, _⟩) (v := undef) rfl (by kernel_rfl) (by kernel_rfl) (by kernel_rfl) (fun _ _ _ h => h) (Or.inr ⟨by rfl, rfl⟩) hHeld ?_
    try simp only [pu]
    refine wpAnyH_take (i := 29) (oi := ⟨(some 34), _, _, _, _, _⟩) (v := undef) rfl (by kernel_rfl) (by kernel_rfl) (by kernel_rfl) (fun _ _ _ h => h) (Or.inr ⟨by rfl, rfl⟩) hHeld ?_
    try simp only [pu]
    refine wpAnyH_take (i := 30) (oi := ⟨(some 35), _, _, _, _, _⟩) (v := undef) rfl (by kernel_rfl) (by kernel_rfl) (by kernel_rfl) (fun _ _ _ h => h) (Or.inr ⟨by rfl, rfl⟩) hHeld ?_
    try simp only [pu]
    refine wpAnyH_take (i := 31) (oi := ⟨(some 36), _, _, _, _, _⟩) (v := undef) rfl (by kernel_rfl) (by kernel_rfl) (by kernel_rfl) (fun _ _ _ h => h) (Or.inr ⟨by rfl, rfl⟩) hHeld ?_
    try simp only [pu]
    refine wpAnyH_take (i := 32) (oi := ⟨(some 37), _, _, _, _, _⟩) (v := undef) rfl (by kernel_rfl) (by kernel_rfl) (by kernel_rfl) (fun _ _ _ h => h) (Or.inr ⟨by rfl, rfl⟩) hHeld ?_
    try simp only [pu]
    refine wpAnyH_take (i := 33) (oi := ⟨(some 38), _, _, _, _, _⟩) (v := .bool false) rfl (by kernel_rfl) (by kernel_rfl) (by kernel_rfl) (fun _ _ _ h => h) (Or.inl ⟨by rfl, ?yr1_33⟩) hHeld ?_
    case yr1_33 => (intro W0 hSw; go_simp; try with_reducible rfl)
    try simp only [pu]
    refine wpAnyH_take (i := 34) (oi := ⟨(some 4), _, _, _, _, _⟩) (v := .bool false) rfl (by kernel_rfl) (by kernel_rfl) (by kernel_rfl) (fun _ _ _ h => h) (Or.inl ⟨by rfl, ?yr1_34⟩) hHeld ?_
    case yr1_34 => (intro W0 hSw; go_simp; try with_reducible rfl)
    try simp only [pu]
    refine wpAnyH_done (by kernel_rfl) ?_ _
    go_wp2
    go_ret
    exact ⟨ret_bool (by rw [HO.out, decide_eq_false k1]; simp), below_next hbW hbW.size hHeld⟩
set_option maxRecDepth 100000 in
theorem rless_any (w : World) (a b : Ed) (ha : a.seen.length = 8) (hb : b.seen.length = 8) :
    Calls Try.prog 20 #[.agg a.cells.toArray, .agg b.cells.toArray] w fun e w' => e = .returned (.bool (eless a b)) ∧ Below w.heap.size w w' := by
  obtain ⟨W, hW, hgA, hgB, hbW, hsW⟩ := pair_new w a.cells.toArray b.cells.toArray 38 38
  have HW := Lib.hid hW
  have HA := Lib.hid ha
  have HB := Lib.hid hb
  have cA1 := ed_dev hgA
  have cA2 := ed_num hgA
  have cA3 := ed_time hgA ha
  have cB1 := ed_dev hgB
  have cB2 := ed_num hgB
  have cB3 := ed_time hgB hb
  obtain ⟨o, ho⟩ : ∃ o, o = eless a b := ⟨_, rfl⟩
  have HO := vlt (show o = if a.time = b.time then (if a.dev = b.dev then decide (a.num < b.num) else decide (a.dev < b.dev)) else decide (a.time < b.time) by rw [ho]; rfl)
  rw [← ho]
  generalize a.dev = d1 at *
  generalize b.dev = d2 at *
  generalize a.num = n1 at *
  generalize b.num = n2 at *
  generalize a.time = t1 at *
  generalize b.time = t2 at *
  clear hW ha hb hsW ho hgA hgB HA HB
  go_enter Try.func20, Try.ntmps20
  go_upto_region 1 with fail
  rw [HW.out]
  clear HW
  by_cases ht : t1 = t2
  · by_cases hd : d1 = d2
    · rw [if_pos ht, if_pos hd] at HO
      subst ht hd
      go_wp2
      go_ret
      exact ⟨ret_bool (by rw [HO.out]), hbW⟩
    · rw [if_pos ht, if_neg hd] at HO
      subst ht
      go_wp2
      go_ret
      exact ⟨ret_bool (by rw [HO.out]), hbW⟩
  · rw [if_neg ht] at HO
    go_wp2
    go_ret
    exact ⟨ret_bool (by rw [HO.out]), hbW⟩
end Go.Proofs.Ytabgkkdgamacnaa
namespace Go.Proofs.Ytabgkkdgamacnaa
open Go.RowKit

theorem eq_redit (n0 : Nat) (a b : Ed) (ha : a.seen.length = 8) (hb : b.seen.length = 8) (w : World) : (Op.equalIn (n0 + 3) 38 (.agg a.cells.toArray) (.agg b.cells.toArray)).run Try.prog w = .ok (decide (a = b)) w := by
  have hd : ∀ (e : Ed), (part 24 e.cells.toArray 0).run Try.prog w = .ok (.agg #[.int .i64 e.dev, .int .i64 e.num]) w := fun e => part_all Try.underlying24 rfl (n := 2) (by kernel_rfl) [] [.int .i64 e.dev, .int .i64 e.num] _ 0 rfl rfl w
  have hv : ∀ (e : Ed), e.seen.length = 8 → (part 36 e.cells.toArray 2).run Try.prog w = .ok (.agg (i64v e.seen).toArray) w := fun e he => part_all Try.underlying36 rfl (n := 8) (by kernel_rfl) [.int .i64 e.dev, .int .i64 e.num] (i64v e.seen) _ 2 rfl (by rw [i64v_len, he]) w
  have hq := eq_ints (P := Try.prog) Try.underlying36 Try.underlying2 Try.sizeI64 a.seen b.seen ha hb n0 w
  rw [run_equalIn_struct w (n0 + 2) 38 _ _ (by kernel_rfl) (by kernel_rfl), Program.fieldsOf]
  simp only [Try.underlying38]
  rw [eqf_step w _ _ _ 24 0 _ _ _ _ (by decide) (hd a) (hd b) (eq_dot n0),
    eqf_step w _ _ _ 36 2 _ _ _ _ (by decide) (hv a ha) (hv b hb) hq,
    eqf_step w _ _ _ 3 10 _ _ _ _ (by decide) (part_one Try.underlying3 rfl a.cells.toArray 10 _ (Ed.cell_kind ha) w) (part_one Try.underlying3 rfl b.cells.toArray 10 _ (Ed.cell_kind hb) w) (run_equalIn_int w (n0 + 1) _ .i64 .i64 a.kind b.kind Try.underlying3),
    eqf_step w _ _ _ 9 11 _ _ _ _ (by decide) (part_one Try.underlying9 rfl a.cells.toArray 11 _ (Ed.cell_con ha) w) (part_one Try.underlying9 rfl b.cells.toArray 11 _ (Ed.cell_con hb) w) (run_equalIn_string w (n0 + 1) _ a.con b.con Try.underlying9),
    eqf_step w _ _ _ 9 12 _ _ _ _ (by decide) (part_one Try.underlying9 rfl a.cells.toArray 12 _ (Ed.cell_fld ha) w) (part_one Try.underlying9 rfl b.cells.toArray 12 _ (Ed.cell_fld hb) w) (run_equalIn_string w (n0 + 1) _ a.fld b.fld Try.underlying9),
    eqf_step w _ _ _ 9 13 _ _ _ _ (by decide) (part_one Try.underlying9 rfl a.cells.toArray 13 _ (Ed.cell_val ha) w) (part_one Try.underlying9 rfl b.cells.toArray 13 _ (Ed.cell_val hb) w) (run_equalIn_string w (n0 + 1) _ a.val b.val Try.underlying9),
    eqf_step w _ _ _ 2 14 _ _ _ _ (by decide) (part_one Try.underlying2 rfl a.cells.toArray 14 _ (Ed.cell_time ha) w) (part_one Try.underlying2 rfl b.cells.toArray 14 _ (Ed.cell_time hb) w) (run_equalIn_int w (n0 + 1) _ .i64 .i64 a.time b.time Try.underlying2),
    eqf_end, text_beq, text_beq, text_beq]
  simp only [res_if]
  congr 1
  rw [Bool.eq_iff_iff, decide_eq_true_iff, same_iff]
  simp only [Bool.and_eq_true, decide_eq_true_eq, beq_iff_eq, and_true]
theorem eql_redit (a b : Ed) (ha : a.seen.length = 8) (hb : b.seen.length = 8) (o : Bool) (ho : decide (a = b) = o) (w : World) : (binOp .eql 38 (.agg a.cells.toArray) (.agg b.cells.toArray)).run Try.prog w = .ok (.bool o) w := by
  rw [run_eql_struct, eq_redit 9997 a b ha hb, ← ho]; rfl
theorem neq_redit (a b : Ed) (ha : a.seen.length = 8) (hb : b.seen.length = 8) (o : Bool) (ho : decide (a = b) = o) (w : World) : (binOp .neq 38 (.agg a.cells.toArray) (.agg b.cells.toArray)).run Try.prog w = .ok (.bool (!o)) w := by
  rw [run_neq_struct, eq_redit 9997 a b ha hb, ← ho]; rfl
end Go.Proofs.Ytabgkkdgamacnaa
namespace Go.Proofs.Ytabgkkdgamacnaa
open Go.RowKit

theorem oget_some (w : World) (A : Option Addr) (l : List UInt8) (n c : Nat) (x : Ed) (h : eget l = some x) (hA : Byt w w.heap.size A l) (hl : l.length = n) (hn : n ≤ 70368744177664) :
    Calls Try.prog 9 #[.slice A n c] w fun e w' => e = .returned (.tuple #[.agg x.cells.toArray, .int .i64 0]) ∧ Below w.heap.size w w' := by
  refine (oget_any w A l n c hA hl hn).mono ?_
  rintro e w' ⟨y, o, hg, _, rfl, hb⟩
  have h1 := hg.out.1
  rw [h] at h1
  cases o
  · exact absurd h1 (by simp)
  · obtain rfl : x = y := by simpa using h1
    exact ⟨rfl, hb⟩
theorem oget_none (w : World) (A : Option Addr) (l : List UInt8) (n c : Nat) (h : eget l = none) (hA : Byt w w.heap.size A l) (hl : l.length = n) (hn : n ≤ 70368744177664) :
    Calls Try.prog 9 #[.slice A n c] w fun e w' => e = .returned (.tuple #[.agg ed0.cells.toArray, .int .i64 3]) ∧ Below w.heap.size w w' := by
  refine (oget_any w A l n c hA hl hn).mono ?_
  rintro e w' ⟨y, o, hg, _, rfl, hb⟩
  have h1 := hg.out.1
  rw [h] at h1
  cases o
  · obtain rfl := hg.out.2 rfl
    exact ⟨rfl, hb⟩
  · exact absurd h1 (by simp)
set_option maxRecDepth 100000 in
theorem olong_any (w : World) (a : Ed) (ha : a.seen.length = 8) :
    Calls Try.prog 13 #[.agg a.cells.toArray] w fun e w' => e = .returned (.bool (elong a)) ∧ Below w.heap.size w w' := by
  obtain ⟨W, hW, hgA, hbW, hsW⟩ := one_new w a.cells.toArray 28
  have HW := Lib.hid hW
  have c1 := ed_con hgA ha
  have c2 := ed_fld hgA ha
  have c3 := ed_val hgA ha
  have HO := vlt (show elong a = (decide (60 < a.con.size) || decide (60 < a.fld.size) || decide (250 < a.val.size)) from rfl)
  generalize elong a = o at *
  generalize a.con = x at *
  generalize a.fld = y at *
  generalize a.val = z at *
  clear hW ha hsW hgA
  go_enter Try.func13, Try.ntmps13
  go_upto_region 1 with fail
  rw [HW.out]
  clear HW
  by_cases h1 : (60 : Int) < (x.size : Int)
  · have hv : o = true := by rw [HO.out, decide_eq_true (by omega)]; simp
    go_wp2
    go_ret
    exact ⟨by rw [hv]; rfl, hbW⟩
  · by_cases h2 : (60 : Int) < (y.size : Int)
    · have hv : o = true := by rw [HO.out, decide_eq_true (p := 60 < y.size) (by omega)]; simp
      go_wp2
      go_ret
      exact ⟨rfl, hbW⟩
    · by_cases h3 : (250 : Int) < (z.size : Int)
      · have hv : o = true := by rw [HO.out, decide_eq_true (p := 250 < z.size) (by omega)]; simp
        go_wp2
        go_ret
        exact ⟨rfl, hbW⟩
      · have hv : o = false := by rw [HO.out, decide_eq_false (by omega), decide_eq_false (by omega), decide_eq_false (by omega)]; rfl
        go_wp2
        go_ret
        exact ⟨rfl, hbW⟩
theorem along_size {e : Ed} (h : elong e = false) : e.con.size ≤ 60 ∧ e.fld.size ≤ 60 ∧ e.val.size ≤ 250 := by
  simp only [elong, Bool.or_eq_false_iff, decide_eq_false_iff_not] at h
  omega
def awA : Ed := ⟨0, 1, [0, 0, 0, 0, 0, 0, 0, 0], 1, ⟨#[99]⟩, ⟨#[102]⟩, ⟨#[118]⟩, 0⟩
def awB : Ed := ⟨1, 1, [1, 0, 0, 0, 0, 0, 0, 0], 1, ⟨#[99]⟩, ⟨#[102]⟩, ⟨#[]⟩, 0⟩
theorem awA_len : awA.seen.length = 8 := rfl
theorem awB_len : awB.seen.length = 8 := rfl
theorem aw_vec1 : Try.prog.built 26 [(0, .int .i64 1)] = some (i64v [1, 0, 0, 0, 0, 0, 0, 0]).toArray := by kernel_rfl
theorem aw_dot1 : Try.prog.built 24 [(1, .int .i64 1)] = some #[.int .i64 0, .int .i64 1] := by kernel_rfl
theorem aw_dot2 (x : Int) : Try.prog.built 24 [(0, .int .i64 x), (1, .int .i64 1)] = some #[.int .i64 x, .int .i64 1] := by kernel_rfl
theorem aw_edA : Try.prog.built 28 [(0, .agg #[.int .i64 0, .int .i64 1]), (2, .int .i64 1), (3, .string ⟨#[99]⟩), (4, .string ⟨#[102]⟩), (5, .string ⟨#[118]⟩)] = some awA.cells.toArray := by kernel_rfl
theorem aw_edB : Try.prog.built 28 [(0, .agg #[.int .i64 1, .int .i64 1]), (1, .agg (i64v [1, 0, 0, 0, 0, 0, 0, 0]).toArray), (2, .int .i64 1), (3, .string ⟨#[99]⟩), (4, .string ⟨#[102]⟩)] = some awB.cells.toArray := by kernel_rfl
theorem aw_ba : eover awB awA = true := by decide +kernel
theorem aw_ab : eover awA awB = false := by decide +kernel
theorem aw_good : awA.good = true := by decide +kernel
theorem aw_less : eless awA awB = true := by decide +kernel
theorem put_le {a : Ed} (ha : a.seen.length = 8) (h : a.good = true) : a.put.length ≤ 415 := by
  have f := Ed.fine h
  have b1 := nm_size f.con
  have b2 := f.fld
  have b3 := f.val
  have b4 := vput_len ha
  have b5 := gr_le a.dev.toNat
  have b6 := gr_le a.num.toNat
  have b7 := gr_le a.kind.toNat
  have b8 := gr_le a.time.toNat
  have b9 := gr_le a.con.size
  have b10 := gr_le a.fld.size
  have b11 := gr_le a.val.size
  have e1 : a.con.data.toList.length = a.con.size := by simp
  have e2 : a.fld.data.toList.length = a.fld.size := by simp
  have e3 : a.val.data.toList.length = a.val.size := by simp
  rw [Ed.put, if_pos h, Ed.raw, txt, txt, txt]
  simp only [List.length_append]
  omega
theorem row_alloc {w : World} {g : Nat} {X o : Obj} (h : Hid (w.heap[g]? = some X)) : Hid ((w.alloc o).heap[g]? = some X) := (Below.heap_alloc _ _ _ (row_size h)).trans h.out
theorem new_row (w : World) (cs : Array Value) (t : TypeId) : Hid ((w.alloc (.cells cs t)).heap[w.heap.size]? = some (.cells cs t (0, 0))) := heap_alloc_new _ _

set_option maxRecDepth 100000 in
set_option maxHeartbeats 2000000 in
theorem awake16_any (w : World) : Calls Try.prog 8 #[] w fun e w' => e = .returned (.bool true) ∧ Below w.heap.size w w' := by
  have hzf := zero_ed
  go_enter Try.func8, Try.ntmps8
  go_upto_region 2 with ((with_reducible refine wpList_store_row rfl 28 (.tmp 1) (.tmp 6) rfl w.heap.size awA.cells.toArray rfl (by kernel_rfl) 28 _ (heap_alloc_new _ _) (by rw [Ed.cells_size awA_len]; kernel_rfl) (by rw [Ed.cells_size awA_len]; kernel_rfl) (all_oneCell_toArray (Ed.cells_one _)) ?_); rw [World.setRow_alloc_new])
  obtain ⟨W, hW, hgA, hbW, hsW⟩ := one_new w awA.cells.toArray 28
  rw [hW]
  have hA : w.heap.size < W.heap.size := row_size hgA
  clear hW hsW
  go_upto_region 3 with ((with_reducible refine wpList_store_row rfl 28 (.tmp 2) (.tmp 9) rfl W.heap.size awB.cells.toArray rfl (by kernel_rfl) 28 _ (heap_alloc_new _ _) (by rw [Ed.cells_size awB_len]; kernel_rfl) (by rw [Ed.cells_size awB_len]; kernel_rfl) (all_oneCell_toArray (Ed.cells_one _)) ?_); rw [World.setRow_alloc_new])
  obtain ⟨V, hV⟩ : ∃ V, V = W.alloc (.cells awB.cells.toArray 28) := ⟨_, rfl⟩
  have gB := new_row W awB.cells.toArray 28
  have gA := row_alloc (o := .cells awB.cells.toArray 28) hgA
  have hbV := hbW.alloc hbW.size (.cells awB.cells.toArray 28)
  rw [← hV] at gA gB hbV ⊢
  obtain ⟨B, hB⟩ : ∃ B, B = W.heap.size := ⟨_, rfl⟩
  rw [← hB] at gB ⊢
  clear hV hB hgA hbW hA
  have d1 := fun w => oput_any w awA awA_len
  go_wp2_with (with_reducible refine wpList_load_row rfl 28 (.tmp 1) rfl w.heap.size rfl 28 awA.cells.toArray (0, 0) _ gA.out Try.underlying28 rfl (by rw [Ed.cells_size awA_len]; kernel_rfl) ?_)
  refine (d1 _).mono ?_
  rintro e w1 ⟨A1, n1, c1, rfl, hr1, hb1⟩
  have gA1 := row_next2 gA hb1
  have gB1 := row_next2 gB hb1
  have hbw1 := below_next hbV hbV.size hb1
  have hg := oget_some w1 A1 _ n1 c1 awA (eget_put awA_len aw_good) hr1.byt hr1.len (by rw [← hr1.len]; have := put_le awA_len aw_good; omega)
  clear d1 hr1 hb1 gA gB hbV
  go_wp2_with fail
  refine hg.mono ?_
  rintro e w2 ⟨rfl, hb2⟩
  have gA2 := row_next2 gA1 hb2
  have gB2 := row_next2 gB1 hb2
  have hbw2 := below_next hbw1 hbw1.size hb2
  clear hg hb2 gA1 gB1 hbw1
  go_upto_region 4 with ((with_reducible refine wpList_store_row rfl 28 (.tmp 3) (.tmp 14) rfl w2.heap.size awA.cells.toArray rfl (by kernel_rfl) 28 _ (heap_alloc_new _ _) (by rw [Ed.cells_size awA_len]; kernel_rfl) (by rw [Ed.cells_size awA_len]; kernel_rfl) (all_oneCell_toArray (Ed.cells_one _)) ?_); rw [World.setRow_alloc_new])
  obtain ⟨X, hX⟩ : ∃ X, X = w2.alloc (.cells awA.cells.toArray 28) := ⟨_, rfl⟩
  have gC := new_row w2 awA.cells.toArray 28
  have gA := row_alloc (o := .cells awA.cells.toArray 28) gA2
  have gB := row_alloc (o := .cells awA.cells.toArray 28) gB2
  have hbX := hbw2.alloc hbw2.size (.cells awA.cells.toArray 28)
  rw [← hX] at gA gB gC hbX ⊢
  obtain ⟨C, hC⟩ : ∃ C, C = w2.heap.size := ⟨_, rfl⟩
  rw [← hC] at gC ⊢
  clear hX hC gA2 gB2 hbw2
  have c1 := fun w => oover_any w awB awA awB_len awA_len
  have c2 := fun w => oover_any w awA awB awA_len awB_len
  have c3 := fun w => ogood_any w awA awA_len
  have c4 := fun w => oless_any w awA awB awA_len awB_len
  simp only [aw_ba] at c1
  simp only [aw_ab] at c2
  simp only [aw_good] at c3
  simp only [aw_less] at c4
  have q1 := eql_edit awA awA awA_len awA_len true (by simp)
  refine plain_start (S := fun W' => Below X.heap.size X W') (by kernel_rfl) (Below.refl _ _) (fun hHeld => ?_)
  refine wpAnyH_take (i := 0) (oi := ⟨(some 16), _, _, _, _, _⟩) (v := .agg awB.cells.toArray) rfl (by kernel_rfl) (by kernel_rfl) (by kernel_rfl) (fun _ _ _ h => h) (yieldsIf_load_mid (by rfl) _ _ rfl B 0 rfl awB.cells _ (fun W' hW' => ed_allR (row_next2 gB hW')) (Try.underlying28) rfl (by rw [Ed.cells_len awB_len]; kernel_rfl)) hHeld ?_
  try simp only [pu]
  refine wpAnyH_take (i := 1) (oi := ⟨(some 17), _, _, _, _, _⟩) (v := .agg awA.cells.toArray) rfl (by kernel_rfl) (by kernel_rfl) (by kernel_rfl) (fun _ _ _ h => h) (yieldsIf_load_mid (by rfl) _ _ rfl (w.heap.size) 0 rfl awA.cells _ (fun W' hW' => ed_allR (row_next2 gA hW')) (Try.underlying28) rfl (by rw [Ed.cells_len awA_len]; kernel_rfl)) hHeld ?_
  try simp only [pu]
  refine wpAnyH_ready (rs := [2]) (by kernel_rfl) (by simp) ?_
  refine AllReadyH.cons (i := 2) (o := ⟨(some 18), _, _, _, _, _⟩) rfl (fun K hK => ?_) AllReadyH.nil
  go_simp
  refine (c1 _).mono ?_
  rintro e r4W1 ⟨rfl, r4h1⟩
  refine hK.out _ _ (below_next hHeld hHeld.size r4h1) (fun hHeld => ?_)
  clear hK K r4h1
  try simp only [pu]
  refine wpAnyH_take (i := 3) (oi := ⟨(some 19), _, _, _, _, _⟩) (v := .bool true) rfl (by kernel_rfl) (by kernel_rfl) (by kernel_rfl) (fun _ _ _ h => h) (Or.inl ⟨by rfl, ?yr4_3⟩) hHeld ?_
  case yr4_3 => (intro W0 hSw; go_simp; try with_reducible rfl)
  try simp only [pu]
  refine wpAnyH_take (i := 4) (oi := ⟨(some 20), _, _, _, _, _⟩) (v := .agg awA.cells.toArray) rfl (by kernel_rfl) (by kernel_rfl) (by kernel_rfl) (fun _ _ _ h => h) (yieldsIf_load_mid (by rfl) _ _ rfl (w.heap.size) 0 rfl awA.cells _ (fun W' hW' => ed_allR (row_next2 gA hW')) (Try.underlying28) rfl (by rw [Ed.cells_len awA_len]; kernel_rfl)) hHeld ?_
  try simp only [pu]
  refine wpAnyH_take (i := 5) (oi := ⟨(some 21), _, _, _, _, _⟩) (v := .agg awB.cells.toArray) rfl (by kernel_rfl) (by kernel_rfl) (by kernel_rfl) (fun _ _ _ h => h) (yieldsIf_load_mid (by rfl) _ _ rfl B 0 rfl awB.cells _ (fun W' hW' => ed_allR (row_next2 gB hW')) (Try.underlying28) rfl (by rw [Ed.cells_len awB_len]; kernel_rfl)) hHeld ?_
  try simp only [pu]
  refine wpAnyH_ready (rs := [6]) (by kernel_rfl) (by simp) ?_
  refine AllReadyH.cons (i := 6) (o := ⟨(some 22), _, _, _, _, _⟩) rfl (fun K hK => ?_) AllReadyH.nil
  go_simp
  refine (c2 _).mono ?_
  rintro e r4W2 ⟨rfl, r4h2⟩
  refine hK.out _ _ (below_next hHeld hHeld.size r4h2) (fun hHeld => ?_)
  clear hK K r4h2
  try simp only [pu]
  refine wpAnyH_take (i := 7) (oi := ⟨(some 23), _, _, _, _, _⟩) (v := .bool true) rfl (by kernel_rfl) (by kernel_rfl) (by kernel_rfl) (fun _ _ _ h => h) (Or.inl ⟨by rfl, ?yr4_7⟩) hHeld ?_
  case yr4_7 => (intro W0 hSw; go_simp; try with_reducible rfl)
  try simp only [pu]
  refine wpAnyH_take (i := 8) (oi := ⟨(some 24), _, _, _, _, _⟩) (v := .bool true) rfl (by kernel_rfl) (by kernel_rfl) (by kernel_rfl) (fun _ _ _ h => h) (Or.inl ⟨by rfl, ?yr4_8⟩) hHeld ?_
  case yr4_8 => (intro W0 hSw; go_simp; try with_reducible rfl)
  try simp only [pu]
  refine wpAnyH_take (i := 9) (oi := ⟨(some 25), _, _, _, _, _⟩) (v := .bool true) rfl (by kernel_rfl) (by kernel_rfl) (by kernel_rfl) (fun _ _ _ h => h) (Or.inl ⟨by rfl, ?yr4_9⟩) hHeld ?_
  case yr4_9 => (intro W0 hSw; go_simp; try with_reducible rfl)
  try simp only [pu]
  refine wpAnyH_take (i := 10) (oi := ⟨(some 26), _, _, _, _, _⟩) (v := .agg awA.cells.toArray) rfl (by kernel_rfl) (by kernel_rfl) (by kernel_rfl) (fun _ _ _ h => h) (yieldsIf_load_mid (by rfl) _ _ rfl (w.heap.size) 0 rfl awA.cells _ (fun W' hW' => ed_allR (row_next2 gA hW')) (Try.underlying28) rfl (by rw [Ed.cells_len awA_len]; kernel_rfl)) hHeld ?_
  try simp only [pu]
  refine wpAnyH_ready (rs := [11]) (by kernel_rfl) (by simp) ?_
  refine AllReadyH.cons (i := 11) (o := ⟨(some 27), _, _, _, _, _⟩) rfl (fun K hK => ?_) AllReadyH.nil
  go_simp
  refine (c3 _).mono ?_
  rintro e r4W3 ⟨rfl, r4h3⟩
  refine hK.out _ _ (below_next hHeld hHeld.size r4h3) (fun hHeld => ?_)
  clear hK K r4h3
  try simp only [pu]
  refine wpAnyH_take (i := 12) (oi := ⟨(some 28), _, _, _, _, _⟩) (v := .bool true) rfl (by kernel_rfl) (by kernel_rfl) (by kernel_rfl) (fun _ _ _ h => h) (Or.inl ⟨by rfl, ?yr4_12⟩) hHeld ?_
  case yr4_12 => (intro W0 hSw; go_simp; try with_reducible rfl)
  try simp only [pu]
  refine wpAnyH_take (i := 13) (oi := ⟨(some 29), _, _, _, _, _⟩) (v := .bool true) rfl (by kernel_rfl) (by kernel_rfl) (by kernel_rfl) (fun _ _ _ h => h) (Or.inl ⟨by rfl, ?yr4_13⟩) hHeld ?_
  case yr4_13 => (intro W0 hSw; go_simp; try with_reducible rfl)
  try simp only [pu]
  refine wpAnyH_take (i := 14) (oi := ⟨(some 30), _, _, _, _, _⟩) (v := .int .i64 0) rfl (by kernel_rfl) (by kernel_rfl) (by kernel_rfl) (fun _ _ _ h => h) (Or.inl ⟨by rfl, ?yr4_14⟩) hHeld ?_
  case yr4_14 => (intro W0 hSw; go_simp; try with_reducible rfl)
  try simp only [pu]
  refine wpAnyH_take (i := 15) (oi := ⟨(some 31), _, _, _, _, _⟩) (v := .bool true) rfl (by kernel_rfl) (by kernel_rfl) (by kernel_rfl) (fun _ _ _ h => h) (Or.inl ⟨by rfl, ?yr4_15⟩) hHeld ?_
  case yr4_15 => (intro W0 hSw; go_simp; try with_reducible rfl)
  try simp only [pu]
  refine wpAnyH_take (i := 16) (oi := ⟨(some 32), _, _, _, _, _⟩) (v := .bool true) rfl (by kernel_rfl) (by kernel_rfl) (by kernel_rfl) (fun _ _ _ h => h) (Or.inl ⟨by rfl, ?yr4_16⟩) hHeld ?_
  case yr4_16 => (intro W0 hSw; go_simp; try with_reducible rfl)
  try simp only [pu]
  refine wpAnyH_take (i := 17) (oi := ⟨(some 33), _, _, _, _, _⟩) (v := .bool true) rfl (by kernel_rfl) (by kernel_rfl) (by kernel_rfl) (fun _ _ _ h => h) (Or.inl ⟨by rfl, ?yr4_17⟩) hHeld ?_
  case yr4_17 => (intro W0 hSw; go_simp; try with_reducible rfl)
  try simp only [pu]
  refine wpAnyH_take (i := 18) (oi := ⟨(some 34), _, _, _, _, _⟩) (v := .agg awA.cells.toArray) rfl (by kernel_rfl) (by kernel_rfl) (by kernel_rfl) (fun _ _ _ h => h) (yieldsIf_load_mid (by rfl) _ _ rfl C 0 rfl awA.cells _ (fun W' hW' => ed_allR (row_next2 gC hW')) (Try.underlying28) rfl (by rw [Ed.cells_len awA_len]; kernel_rfl)) hHeld ?_
  try simp only [pu]
  refine wpAnyH_take (i := 19) (oi := ⟨(some 35), _, _, _, _, _⟩) (v := .agg awA.cells.toArray) rfl (by kernel_rfl) (by kernel_rfl) (by kernel_rfl) (fun _ _ _ h => h) (yieldsIf_load_mid (by rfl) _ _ rfl (w.heap.size) 0 rfl awA.cells _ (fun W' hW' => ed_allR (row_next2 gA hW')) (Try.underlying28) rfl (by rw [Ed.cells_len awA_len]; kernel_rfl)) hHeld ?_
  try simp only [pu]
  refine wpAnyH_take (i := 20) (oi := ⟨(some 36), _, _, _, _, _⟩) (v := .bool true) rfl (by kernel_rfl) (by kernel_rfl) (by kernel_rfl) (fun _ _ _ h => h) (Or.inl ⟨by rfl, ?yr4_20⟩) hHeld ?_
  case yr4_20 => (intro W0 hSw; go_simp; try simp only [q1]; try with_reducible rfl)
  try simp only [pu]
  refine wpAnyH_take (i := 21) (oi := ⟨(some 37), _, _, _, _, _⟩) (v := .bool true) rfl (by kernel_rfl) (by kernel_rfl) (by kernel_rfl) (fun _ _ _ h => h) (Or.inl ⟨by rfl, ?yr4_21⟩) hHeld ?_
  case yr4_21 => (intro W0 hSw; go_simp; try with_reducible rfl)
  try simp only [pu]
  refine wpAnyH_take (i := 22) (oi := ⟨(some 38), _, _, _, _, _⟩) (v := .bool true) rfl (by kernel_rfl) (by kernel_rfl) (by kernel_rfl) (fun _ _ _ h => h) (Or.inl ⟨by rfl, ?yr4_22⟩) hHeld ?_
  case yr4_22 => (intro W0 hSw; go_simp; try with_reducible rfl)
  try simp only [pu]
  refine wpAnyH_take (i := 23) (oi := ⟨(some 39), _, _, _, _, _⟩) (v := .agg awA.cells.toArray) rfl (by kernel_rfl) (by kernel_rfl) (by kernel_rfl) (fun _ _ _ h => h) (yieldsIf_load_mid (by rfl) _ _ rfl (w.heap.size) 0 rfl awA.cells _ (fun W' hW' => ed_allR (row_next2 gA hW')) (Try.underlying28) rfl (by rw [Ed.cells_len awA_len]; kernel_rfl)) hHeld ?_
  try simp only [pu]
  refine wpAnyH_take (i := 24) (oi := ⟨(some 40), _, _, _, _, _⟩) (v := .agg awB.cells.toArray) rfl (by kernel_rfl) (by kernel_rfl) (by kernel_rfl) (fun _ _ _ h => h) (yieldsIf_load_mid (by rfl) _ _ rfl B 0 rfl awB.cells _ (fun W' hW' => ed_allR (row_next2 gB hW')) (Try.underlying28) rfl (by rw [Ed.cells_len awB_len]; kernel_rfl)) hHeld ?_
  try simp only [pu]
  refine wpAnyH_ready (rs := [25]) (by kernel_rfl) (by simp) ?_
  refine AllReadyH.cons (i := 25) (o := ⟨(some 41), _, _, _, _, _⟩) rfl (fun K hK => ?_) AllReadyH.nil
  go_simp
  refine (c4 _).mono ?_
  rintro e r4W4 ⟨rfl, r4h4⟩
  refine hK.out _ _ (below_next hHeld hHeld.size r4h4) (fun hHeld => ?_)
  clear hK K r4h4
  try simp only [pu]
  refine wpAnyH_take (i := 26) (oi := ⟨(some 42), _, _, _, _, _⟩) (v := .bool true) rfl (by kernel_rfl) (by kernel_rfl) (by kernel_rfl) (fun _ _ _ h => h) (Or.inl ⟨by rfl, ?yr4_26⟩) hHeld ?_
  case yr4_26 => (intro W0 hSw; go_simp; try with_reducible rfl)
  try simp only [pu]
  refine wpAnyH_take (i := 27) (oi := ⟨(some 0), _, _, _, _, _⟩) (v := .bool true) rfl (by kernel_rfl) (by kernel_rfl) (by kernel_rfl) (fun _ _ _ h => h) (Or.inl ⟨by rfl, ?yr4_27⟩) hHeld ?_
  case yr4_27 => (intro W0 hSw; go_simp; try with_reducible rfl)
  try simp only [pu]
  refine wpAnyH_done (by kernel_rfl) ?_ _
  go_wp2
  go_ret
  exact ⟨rfl, below_next hbX hbX.size hHeld⟩
end Go.Proofs.Ytabgkkdgamacnaa
