/-
  Words and contracts that other texts share, several in one text. No statement of the seat is proved here. Conditions: as each contract says.
  Contracts of scalar's step, numberOf and longOf. Conditions: words of 32 and of 64 bytes.
  Contract of scalar's times. Conditions: pieces below 2^64.
  Contracts of scalar's next and below. Conditions: the package's own number lies as the program's text lays it.
  Contract of scalar's below. Conditions: the package's own number lies as the program's text lays it.
  Contract of scalar's told: a number's 32 bytes. Conditions: pieces below 2^64.
  Contracts of scalar's Long, Norm, Good, Add, Sub, Mul: each answer is the word of its number modulo L. Conditions: the package's own number lies as the program's text lays it.
  The tables that a row lists, and scalar's own number. No statement is proved here. Conditions: none.
-/
import Derived.Test.YtehkalbiomagjaaDoorPkB
import Derived.Test.YtehkalbiomagjaaDoorPkA
import Derived.Test.YtehkalbiomagjaaDoorPkC
import Derived.Test.YtehkalbiomagjaaDoorPkE
namespace Go.Proofs.YtehkalbiomagjaaDoor
open Go.RowKit

theorem zero_num (w : World) : (zeroValue 68).run Tryd.prog w = .ok (.agg (u64v (uptoW 4 [])).toArray) w := by kernel_rfl
theorem zero_long (w : World) : (zeroValue 70).run Tryd.prog w = .ok (.agg (u64v (uptoW 8 [])).toArray) w := by kernel_rfl
set_option maxRecDepth 100000 in
set_option maxHeartbeats 1000000 in
theorem lstep_any (w : World) (v x y z : Nat) (hv : v < B64) (hx : x < B64) (hy : y < B64) (hz : z < B64) :
    Calls Tryd.prog 73 #[.int .u64 (v : Int), .int .u64 (x : Int), .int .u64 (y : Int), .int .u64 (z : Int)] w fun e w' => ∃ h l : Nat, e = .returned (.tuple #[.int .u64 (h : Int), .int .u64 (l : Int)]) ∧ Vlt (l + 18446744073709551616 * h = v * x + y + z) ∧ h < B64 ∧ l < B64 ∧ w = w' := by
  go_enter Tryd.func73, Tryd.ntmps73
  go_wp2_with fail
  refine (mul64_any w v x hv hx).mono ?_
  rintro e w' ⟨h, l, rfl, he, lh, ll, rfl⟩
  obtain ⟨s1, o1, r1, e1, ls1, lo1⟩ := add64_ex0 add_run l y ll hy
  obtain ⟨s2, o2, r2, e2, ls2, lo2⟩ := add64_ex0 add_run s1 z ls1 hz
  have hb : h + o1 + o2 < 18446744073709551616 := by
    have h1 : v * x ≤ 18446744073709551615 * 18446744073709551615 := Nat.mul_le_mul (by simp only [B64] at *; omega) (by simp only [B64] at *; omega)
    have h2 := he.out
    have h3 := e1.out
    have h4 := e2.out
    simp only [B64] at *
    generalize v * x = p at *
    omega
  have HE := vlt (show s2 + 18446744073709551616 * (h + o1 + o2) = v * x + y + z by have h2 := he.out; have h3 := e1.out; have h4 := e2.out; generalize v * x = p at *; omega)
  have hb1 : h + o1 < 18446744073709551616 := by omega
  clear he e1 e2
  go_wp2
  rw [show (h : Int) + (o1 : Int) + (o2 : Int) = ((h + o1 + o2 : Nat) : Int) by omega]
  go_ret2
  exact ⟨_, s2, rfl, HE, hb, ls2, rfl⟩


set_option maxRecDepth 100000 in
set_option maxHeartbeats 1000000 in
theorem lnumberOf_any (w : World) (b : List UInt8) (hb : b.length = 32) :
    Calls Tryd.prog 44 #[.agg (bv b).toArray] w fun e w' => ∃ X, e = .returned (.agg (u64v X).toArray) ∧ Vlt (X = pcs b 4) ∧ Hid (X.length = 4) ∧ Below w.heap.size w w' := by
  have hzn := zero_num
  obtain ⟨W, hW, hgA, hgZ, hbW, hsW⟩ := pair_new w (bv b).toArray (u64v (uptoW 4 [])).toArray 23 68
  have HW := Lib.hid hW
  have HB := Lib.hid hb
  have hs1 : w.heap.size + 1 < W.heap.size := by have := hsW.out; omega
  clear hW hb hsW
  go_enter Tryd.func44, Tryd.ntmps44
  go_upto_region 1 with fail
  rw [HW.out]
  go_upto_region 2 with fail
  obtain ⟨V, hV, hgT, hbV, hsV⟩ := one_new W (u64v (uptoW 4 [])).toArray 68
  rw [hV]
  obtain ⟨T, hT⟩ : ∃ T, T = W.heap.size := ⟨_, rfl⟩
  rw [← hT] at hgT hs1 ⊢
  have hgAV : Hid (V.heap[w.heap.size]? = some (.cells (bv b).toArray 23 (0, 0))) := (hbV.block _ (by omega)).trans hgA.out
  have hgZV : Hid (V.heap[w.heap.size + 1]? = some (.cells (u64v (uptoW 4 [])).toArray 68 (0, 0))) := (hbV.block _ (by omega)).trans hgZ.out
  have hbwV := below_next hbW hbW.size hbV
  have hsz2 : w.heap.size + 1 < V.heap.size := (Array.getElem?_eq_some_iff.1 hgZV.out).1
  clear hV hbV hgA hgZ hbW hsV hT HW
  go_wp2_with fail
  go_loopw [5] (fun i wr => ∃ k : Nat, k ≤ 4 ∧ i = .int .i64 (k : Int) ∧ Hid (wr.heap[T]? = some (.cells (u64v (uptoW 4 (pcs b k))).toArray 68 (0, 0))) ∧ But T V wr) (fun i _ => 4 - (intOf i).toNat)
  case atStart => exact ⟨0, by omega, rfl, hgT, But.refl _ _⟩
  case round =>
    obtain ⟨k, hk, rfl, hg, hbt⟩ := hrel
    by_cases hlt : k < 4
    · have hgb : wr.heap[w.heap.size]? = some (.cells (bv b).toArray 23 (0, 0)) := (hbt.block _ (by omega) (by intro e; injection e; omega)).trans hgAV.out
      have hcut := cut_lh Tryd.underlying23 Tryd.sizeByte w.heap.size 0 (8 * k) (8 * k + 8) (8 * (k : Int)) (8 * (k : Int) + 8) (by omega) (by omega) (by omega) (by omega) (by omega)
      have hbm := byt_mid hgb (8 * k) 8
      rw [show 8 * k + 8 - 8 * k = 8 by omega, show 0 + 8 * k = 8 * k by omega] at hcut
      have hfl := fromLittle_ok (some ⟨w.heap.size, 8 * k, none⟩) _ 8 (32 - 8 * k) wr hbm (by simp only [List.length_take, List.length_drop]; rw [HB.out]; omega) (by decide)
      have hx : (uptoW 4 (pcs b k))[k]? = some 0 := by have := uptoW_at 4 (pcs b k) (by rw [pcs_len]; exact hlt); rwa [pcs_len] at this
      have hcl : wr.cell? ⟨T, k, none⟩ = some (.int .u64 0) := by rw [cell_of_row _ _ _ _ _ _ hg.out]; simp [u64v_at, hx]
      have hf : wr.frozen? ⟨T, k, none⟩ = false := frozen_of_row _ _ _ _ _ hg.out
      clear hx hbm hgb
      go_wp2_with fail
      refine hfl.mono ?_
      rintro e w' ⟨rfl, rfl⟩
      clear hcut hfl
      obtain ⟨v, hvv⟩ : ∃ v, v = ln ((b.drop (8 * k)).take 8) := ⟨_, rfl⟩
      rw [← hvv]
      have hset : Hid ((wr.setCell ⟨T, k, none⟩ (.int .u64 (v : Int))).heap[T]? = some (.cells (u64v (uptoW 4 (pcs b (k + 1)))).toArray 68 (0, 0))) := by
        have h1 := (world_set_cell hg.out k (.int .u64 (v : Int))).out
        have h2 := uptoW_set 4 (pcs b k) v (by rw [pcs_len]; exact hlt)
        rw [pcs_len, hvv] at h2
        rw [u64v_set, hvv, h2] at h1
        rw [hvv]; exact h1
      have hb2 := hbt.set (i := k) (.int .u64 (v : Int))
      clear hvv
      go_wp2
      go_roundw
      case rel => exact ⟨k + 1, by omega, by go_num, hset, hb2⟩
      case measure => simp [intOf]; omega
    · have HK := Lib.hid (show k = 4 by omega)
      obtain ⟨X, hX⟩ : ∃ X, X = pcs b k := ⟨_, rfl⟩
      have hUP : uptoW 4 (pcs b k) = X := by rw [hX]; exact uptoW_all 4 _ (by rw [pcs_len]; exact HK.out)
      rw [hUP] at hg
      have HX := vlt (show X = pcs b 4 by rw [hX, HK.out])
      have HXL := Lib.hid (show X.length = 4 by rw [hX, pcs_len]; exact HK.out)
      have HXS := Lib.hid (show (u64v X).toArray.size = 4 by simp [u64v_len, HXL.out])
      have HZ := Lib.hid (show (u64v (uptoW 4 [])).toArray.size = 4 from rfl)
      have hz4 : Hid (wr.heap[w.heap.size + 1]? = some (.cells (u64v (uptoW 4 [])).toArray 68 (0, 0))) := (hbt.block _ (by omega) (by intro e; injection e; omega)).trans hgZV.out
      have hb4 : Below w.heap.size w wr := But.below hbwV hbt (by omega) (by omega)
      clear hX hUP
      go_wp2_with (first
        | (with_reducible refine wpList_load_row rfl 68 (.tmp 3) rfl T rfl 68 (u64v X).toArray (0, 0) _ hg.out Tryd.underlying68 rfl (by rw [HXS.out]; kernel_rfl) ?_)
        | (with_reducible refine wpList_store_row rfl 68 (.tmp 2) (.tmp 21) rfl (w.heap.size + 1) (u64v X).toArray rfl rfl 68 _ hz4.out (by rw [HXS.out]; kernel_rfl) (by rw [HXS.out]; exact HZ.out) (all_oneCell_toArray (u64v_one _)) ?_))
      refine bodyPost_ret (v := .agg (u64v X).toArray) (results_cell_row Tryd.results44 _ _ (w.heap.size + 1) 68 _ (0, 0) _ rfl (setRow_heap _ _ _ _ _ _ hz4.out) Tryd.underlying68 rfl (by rw [HXS.out]; kernel_rfl)) rfl ⟨X, rfl, HX, HXL, below_setRow hb4 (by omega) _⟩

set_option maxRecDepth 100000 in
set_option maxHeartbeats 1000000 in
theorem longOf_any (w : World) (b : List UInt8) (hb : b.length = 64) :
    Calls Tryd.prog 75 #[.agg (bv b).toArray] w fun e w' => ∃ X, e = .returned (.agg (u64v X).toArray) ∧ Vlt (X = pcs b 8) ∧ Hid (X.length = 8) ∧ Below w.heap.size w w' := by
  have hzn := zero_long
  obtain ⟨W, hW, hgA, hgZ, hbW, hsW⟩ := pair_new w (bv b).toArray (u64v (uptoW 8 [])).toArray 74 70
  have HW := Lib.hid hW
  have HB := Lib.hid hb
  have hs1 : w.heap.size + 1 < W.heap.size := by have := hsW.out; omega
  clear hW hb hsW
  go_enter Tryd.func75, Tryd.ntmps75
  go_upto_region 1 with fail
  rw [HW.out]
  go_upto_region 2 with fail
  obtain ⟨V, hV, hgT, hbV, hsV⟩ := one_new W (u64v (uptoW 8 [])).toArray 70
  rw [hV]
  obtain ⟨T, hT⟩ : ∃ T, T = W.heap.size := ⟨_, rfl⟩
  rw [← hT] at hgT hs1 ⊢
  have hgAV : Hid (V.heap[w.heap.size]? = some (.cells (bv b).toArray 74 (0, 0))) := (hbV.block _ (by omega)).trans hgA.out
  have hgZV : Hid (V.heap[w.heap.size + 1]? = some (.cells (u64v (uptoW 8 [])).toArray 70 (0, 0))) := (hbV.block _ (by omega)).trans hgZ.out
  have hbwV := below_next hbW hbW.size hbV
  have hsz2 : w.heap.size + 1 < V.heap.size := (Array.getElem?_eq_some_iff.1 hgZV.out).1
  clear hV hbV hgA hgZ hbW hsV hT HW
  go_wp2_with fail
  go_loopw [5] (fun i wr => ∃ k : Nat, k ≤ 8 ∧ i = .int .i64 (k : Int) ∧ Hid (wr.heap[T]? = some (.cells (u64v (uptoW 8 (pcs b k))).toArray 70 (0, 0))) ∧ But T V wr) (fun i _ => 8 - (intOf i).toNat)
  case atStart => exact ⟨0, by omega, rfl, hgT, But.refl _ _⟩
  case round =>
    obtain ⟨k, hk, rfl, hg, hbt⟩ := hrel
    by_cases hlt : k < 8
    · have hgb : wr.heap[w.heap.size]? = some (.cells (bv b).toArray 74 (0, 0)) := (hbt.block _ (by omega) (by intro e; injection e; omega)).trans hgAV.out
      have hcut := cut_lh Tryd.underlying74 Tryd.sizeByte w.heap.size 0 (8 * k) (8 * k + 8) (8 * (k : Int)) (8 * (k : Int) + 8) (by omega) (by omega) (by omega) (by omega) (by omega)
      have hbm := byt_mid hgb (8 * k) 8
      rw [show 8 * k + 8 - 8 * k = 8 by omega, show 0 + 8 * k = 8 * k by omega] at hcut
      have hfl := fromLittle_ok (some ⟨w.heap.size, 8 * k, none⟩) _ 8 (64 - 8 * k) wr hbm (by simp only [List.length_take, List.length_drop]; rw [HB.out]; omega) (by decide)
      have hx : (uptoW 8 (pcs b k))[k]? = some 0 := by have := uptoW_at 8 (pcs b k) (by rw [pcs_len]; exact hlt); rwa [pcs_len] at this
      have hcl : wr.cell? ⟨T, k, none⟩ = some (.int .u64 0) := by rw [cell_of_row _ _ _ _ _ _ hg.out]; simp [u64v_at, hx]
      have hf : wr.frozen? ⟨T, k, none⟩ = false := frozen_of_row _ _ _ _ _ hg.out
      clear hx hbm hgb
      go_wp2_with fail
      refine hfl.mono ?_
      rintro e w' ⟨rfl, rfl⟩
      clear hcut hfl
      obtain ⟨v, hvv⟩ : ∃ v, v = ln ((b.drop (8 * k)).take 8) := ⟨_, rfl⟩
      rw [← hvv]
      have hset : Hid ((wr.setCell ⟨T, k, none⟩ (.int .u64 (v : Int))).heap[T]? = some (.cells (u64v (uptoW 8 (pcs b (k + 1)))).toArray 70 (0, 0))) := by
        have h1 := (world_set_cell hg.out k (.int .u64 (v : Int))).out
        have h2 := uptoW_set 8 (pcs b k) v (by rw [pcs_len]; exact hlt)
        rw [pcs_len, hvv] at h2
        rw [u64v_set, hvv, h2] at h1
        rw [hvv]; exact h1
      have hb2 := hbt.set (i := k) (.int .u64 (v : Int))
      clear hvv
      go_wp2
      go_roundw
      case rel => exact ⟨k + 1, by omega, by go_num, hset, hb2⟩
      case measure => simp [intOf]; omega
    · have HK := Lib.hid (show k = 8 by omega)
      obtain ⟨X, hX⟩ : ∃ X, X = pcs b k := ⟨_, rfl⟩
      have hUP : uptoW 8 (pcs b k) = X := by rw [hX]; exact uptoW_all 8 _ (by rw [pcs_len]; exact HK.out)
      rw [hUP] at hg
      have HX := vlt (show X = pcs b 8 by rw [hX, HK.out])
      have HXL := Lib.hid (show X.length = 8 by rw [hX, pcs_len]; exact HK.out)
      have HXS := Lib.hid (show (u64v X).toArray.size = 8 by simp [u64v_len, HXL.out])
      have HZ := Lib.hid (show (u64v (uptoW 8 [])).toArray.size = 8 from rfl)
      have hz4 : Hid (wr.heap[w.heap.size + 1]? = some (.cells (u64v (uptoW 8 [])).toArray 70 (0, 0))) := (hbt.block _ (by omega) (by intro e; injection e; omega)).trans hgZV.out
      have hb4 : Below w.heap.size w wr := But.below hbwV hbt (by omega) (by omega)
      clear hX hUP
      go_wp2_with (first
        | (with_reducible refine wpList_load_row rfl 70 (.tmp 3) rfl T rfl 70 (u64v X).toArray (0, 0) _ hg.out Tryd.underlying70 rfl (by rw [HXS.out]; kernel_rfl) ?_)
        | (with_reducible refine wpList_store_row rfl 70 (.tmp 2) (.tmp 21) rfl (w.heap.size + 1) (u64v X).toArray rfl rfl 70 _ hz4.out (by rw [HXS.out]; kernel_rfl) (by rw [HXS.out]; exact HZ.out) (all_oneCell_toArray (u64v_one _)) ?_))
      refine bodyPost_ret (v := .agg (u64v X).toArray) (results_cell_row Tryd.results75 _ _ (w.heap.size + 1) 70 _ (0, 0) _ rfl (setRow_heap _ _ _ _ _ _ hz4.out) Tryd.underlying70 rfl (by rw [HXS.out]; kernel_rfl)) rfl ⟨X, rfl, HX, HXL, below_setRow hb4 (by omega) _⟩
end Go.Proofs.YtehkalbiomagjaaDoor
namespace Go.Proofs.YtehkalbiomagjaaDoor
open Go.RowKit

theorem Tryd.sizeU64s : (Tryd.prog.info? 45).map (·.size) = some 1 := by kernel_rfl
/-- Four new blocks. -/
theorem four_new (w : World) (a b c d : Array Value) (s t u v : TypeId) :
    ∃ W, (((w.alloc (.cells a s)).alloc (.cells b t)).alloc (.cells c u)).alloc (.cells d v) = W ∧ Hid (W.heap[w.heap.size]? = some (.cells a s (0, 0))) ∧ Hid (W.heap[w.heap.size + 1]? = some (.cells b t (0, 0))) ∧ Hid (W.heap[w.heap.size + 2]? = some (.cells c u (0, 0))) ∧ Hid (W.heap[w.heap.size + 3]? = some (.cells d v (0, 0))) ∧ Below w.heap.size w W ∧ Hid (W.heap.size = w.heap.size + 4) := by
  obtain ⟨V, hV, g0, g1, g2, hb, hs⟩ := three_new w a b c s t u
  rw [hV]
  have h0 := hs.out
  refine ⟨_, rfl, (Below.heap_alloc _ _ _ (by omega)).trans g0.out, (Below.heap_alloc _ _ _ (by omega)).trans g1.out, (Below.heap_alloc _ _ _ (by omega)).trans g2.out, ?_, hb.alloc hb.size _, show _ = _ by simp [h0]⟩
  rw [← h0]
  exact heap_alloc_new _ _
/-- copy of numbers into a block that is known whole, as one step of a region that draws its order. -/
theorem step_copy_vals {P : Program} {ops : Array Oper} {o : Oper} {a : Act} {w : World} {K : Act → World → Prop} {Q : Exit → Act → World → Prop} {E : Prop} (hgd : o.guard = none) (d s : Operand) (T : TypeId)
    (ho : o.op = .call { callee := .builtin .copy, args := #[d, s], argTypes := #[T, T] }) (elem : TypeId) (hu : P.underlying T = some (.slice elem)) (hsz : (P.info? elem).map (·.size) = some 1)
    (g off dLen dCap sLen sCap b o' : Nat) (hd : a.eval d = .slice (some ⟨g, off, none⟩) dLen dCap) (hs : a.eval s = .slice (some ⟨b, o', none⟩) sLen sCap)
    (cur : List Value) (t : TypeId) (hg : w.heap[g]? = some (.cells cur.toArray t (0, 0))) (news : List Value) (hlen : news.length = min sLen dLen)
    (hsrc : ∀ j v, news[j]? = some v → w.cell? ⟨b, o' + j, none⟩ = some v) (hone : ∀ u ∈ news, u.oneCell' = true)
    (hfit : off + dLen ≤ cur.length) (w0 : World) (hb : But g w0 w)
    (h : ∀ w', Hid (w'.heap[g]? = some (.cells (splice cur off news).toArray t (0, 0))) → But g w0 w' → K (a.put o.dst (.int .i64 ((min sLen dLen : Nat) : Int))) w') :
    if Region.wanted o (yielded ops a.tmps) = true then Oper.wp P o a w K Q else E := by
  have hw : Region.wanted o (yielded ops a.tmps) = true := by simp [Region.wanted, hgd]
  rw [if_pos hw]
  have hsrc' : ∀ j v, news[j]? = some v → w.cell? ((⟨b, o', none⟩ : Addr).add j) = some v := by
    intro j v hj
    rw [addr_add]
    exact hsrc j v hj
  have hrun := run_copy_row (P := P) w T T o.type elem g off dLen dCap ⟨b, o', none⟩ sLen sCap cur.toArray t news hu hsz hg hlen hsrc' (by simp only [List.size_toArray]; omega) hone
  unfold Oper.wp
  simp [execOp, ho, resolve, invoke, builtin, hd, hs, hrun, Result.andThen]
  have h3 := h _ (show _ = _ by simpa [splice] using setRow_heap w g _ _ t _ hg) (hb.row _)
  rw [hlen] at h3 ⊢
  exact h3
theorem row_cells {w : World} {g : Nat} {cs : List Value} {t : TypeId} (hg : w.heap[g]? = some (.cells cs.toArray t (0, 0))) : ∀ j v, cs[j]? = some v → w.cell? ⟨g, 0 + j, none⟩ = some v := by
  intro j v hj
  rw [Nat.zero_add, cell_of_row _ _ _ _ _ _ hg]
  simpa using hj
theorem long_start (Z : List Nat) (hZ : Z.length = 4) : splice (u64v (uptoW 8 [])) 0 (u64v Z) = u64v (Z ++ [0, 0, 0, 0]) := by
  match Z, hZ with
  | [a, b, c, d], _ => rfl
theorem tout_first (A Y Z : List Nat) (hZ : Z.length = 4) (bZ : ∀ x ∈ Z, x < B64) : Tout A Y Z (Z ++ [0, 0, 0, 0]) 0 := by
  match Z, hZ with
  | [a, b, c, d], _ => exact Tout.first a b c d (bZ _ (by simp)) (bZ _ (by simp)) (bZ _ (by simp)) (bZ _ (by simp))

set_option maxRecDepth 100000 in
set_option maxHeartbeats 2000000 in
theorem ltimes_any (w : World) (X Y Z : List Nat) (hX : X.length = 4) (hY : Y.length = 4) (hZ : Z.length = 4) (bX : ∀ x ∈ X, x < B64) (bY : ∀ x ∈ Y, x < B64) (bZ : ∀ x ∈ Z, x < B64) :
    Calls Tryd.prog 45 #[.agg (u64v X).toArray, .agg (u64v Y).toArray, .agg (u64v Z).toArray] w fun e w' => ∃ U, e = .returned (.agg (u64v U).toArray) ∧ Vlt (nB U = nB Z + nB X * nB Y) ∧ Hid (U.length = 8) ∧ Vlt (∀ x ∈ U, x < B64) ∧ Below w.heap.size w w' := by
  have hzl := zero_long
  obtain ⟨W, hW, hgX, hgY, hgZ, hgR, hbW, hsW⟩ := four_new w (u64v X).toArray (u64v Y).toArray (u64v Z).toArray (u64v (uptoW 8 [])).toArray 68 68 68 70
  have HW := Lib.hid hW
  have HXL := Lib.hid hX
  have HYL := Lib.hid hY
  have HZL := Lib.hid hZ
  have HBX := vlt bX
  have HBY := vlt bY
  have HBZ := vlt bZ
  have hs1 : w.heap.size + 3 < W.heap.size := by have := hsW.out; omega
  clear hW hX hY hZ bX bY bZ hsW
  go_enter Tryd.func45, Tryd.ntmps45
  go_upto_region 1 with fail
  rw [HW.out]
  go_upto_region 2 with fail
  obtain ⟨V, hV, hgT, hbV, hsV⟩ := one_new W (u64v (uptoW 8 [])).toArray 70
  rw [hV]
  obtain ⟨T, hT⟩ : ∃ T, T = W.heap.size := ⟨_, rfl⟩
  rw [← hT] at hgT hs1 ⊢
  have hgX1 : Hid (V.heap[w.heap.size]? = some (.cells (u64v X).toArray 68 (0, 0))) := (hbV.block _ (by omega)).trans hgX.out
  have hgY1 : Hid (V.heap[w.heap.size + 1]? = some (.cells (u64v Y).toArray 68 (0, 0))) := (hbV.block _ (by omega)).trans hgY.out
  have hgZ1 : Hid (V.heap[w.heap.size + 2]? = some (.cells (u64v Z).toArray 68 (0, 0))) := (hbV.block _ (by omega)).trans hgZ.out
  have hgR1 : Hid (V.heap[w.heap.size + 3]? = some (.cells (u64v (uptoW 8 [])).toArray 70 (0, 0))) := (hbV.block _ (by omega)).trans hgR.out
  have hbw1 := below_next hbW hbW.size hbV
  have hsz1 : w.heap.size + 3 < V.heap.size := (Array.getElem?_eq_some_iff.1 hgR1.out).1
  clear hV hbV hgX hgY hgZ hgR hbW hsV hT HW
  have hc7 := cut_all Tryd.underlying70 Tryd.sizeU64s T 0 (by decide)
  have hc5 := cut_all Tryd.underlying68 Tryd.sizeU64s (w.heap.size + 2) 0 (by decide)
  go_region_law ((refine step_copy_vals rfl (.tmp 11) (.tmp 12) 91 rfl 45 Tryd.underlying91 Tryd.sizeU64s T 0 8 8 4 4 (w.heap.size + 2) 0 (by rfl) (by rfl) (u64v (uptoW 8 [])) 70 hgT.out (u64v Z) (by rw [u64v_len, HZL.out]; rfl) (row_cells hgZ1.out) (u64v_one _) (by decide) V (But.refl T V).drew ?_; intro w2 hg2' hb2))
  rw [long_start Z HZL.out] at hg2'
  have hTo := vlt (tout_first X Y Z HZL.out HBZ.out)
  generalize Z ++ [0, 0, 0, 0] = U0 at hg2' hTo
  clear hc7 hc5 hgT
  have hsT : T < w2.heap.size := (Array.getElem?_eq_some_iff.1 hg2'.out).1
  go_wp2_with fail
  go_loopw [14] (fun s wr => ∃ (i : Nat) (U : List Nat), i ≤ 4 ∧ s = .int .i64 (i : Int) ∧ Hid (wr.heap[T]? = some (.cells (u64v U).toArray 70 (0, 0))) ∧ Vlt (Tout X Y Z U i) ∧ But T V wr) (fun s _ => 4 - (intOf s).toNat)
  case atStart => exact ⟨0, U0, by omega, rfl, hg2', hTo, hb2⟩
  case round =>
    clear hg2' hTo hb2
    obtain ⟨i, U, hi, rfl, hg, hO, hbt⟩ := hrel
    by_cases hlt : i < 4
    · have lx := natB_mem HBX.out i
      have hRow := vlt hO.out.row
      obtain ⟨x, hx⟩ : ∃ x, x = natAt X i := ⟨_, rfl⟩
      rw [← hx] at lx hRow
      have HX := vlt hx
      clear hx
      go_upto_region 7 with fail
      obtain ⟨Y0, hY0⟩ : ∃ Y0, Y0 = wr := ⟨_, rfl⟩
      subst hY0
      go_wp2_with fail
      generalize decide ((i : Int) < 4) = b1
      go_loopw [9, 17] (fun cc kk wi => ∃ (k c : Nat) (U1 : List Nat), k ≤ 4 ∧ kk = .int .i64 (k : Int) ∧ cc = .int .u64 (c : Int) ∧ c < B64 ∧ Hid (wi.heap[T]? = some (.cells (u64v U1).toArray 70 (0, 0))) ∧ Vlt (Trow x Y U U1 i k c) ∧ But T V wi) (fun _ kk _ => 4 - (intOf kk).toNat)
      case atStart => exact ⟨0, 0, U, by omega, rfl, rfl, by decide, hg, hRow, hbt⟩
      case round =>
        clear hg hbt hRow
        obtain ⟨k, c, U1, hk, rfl, rfl, hc, hg, hR, hbt⟩ := hrel
        by_cases hkt : k < 4
        · have hgx : Hid (wr.heap[w.heap.size]? = some (.cells (u64v X).toArray 68 (0, 0))) := (hbt.block _ (by omega) (by intro e; injection e; omega)).trans hgX1.out
          have hgy : Hid (wr.heap[w.heap.size + 1]? = some (.cells (u64v Y).toArray 68 (0, 0))) := (hbt.block _ (by omega) (by intro e; injection e; omega)).trans hgY1.out
          have c0 := long_at hgx.out i (by rw [HXL.out]; exact hlt)
          rw [← HX.out] at c0
          have c1 := long_at hgy.out k (by rw [HYL.out]; exact hkt)
          have c2 := long_at hg.out (i + k) (by rw [hR.out.len]; omega)
          have ly := natB_mem HBY.out k
          have lz := natB_mem hR.out.bound (i + k)
          have hN := vlt (fun low high e hl hh => hR.out.step HYL.out hlt hkt low high e hl hh)
          have hlen := Lib.hid hR.out.len
          have hik : IntKind.i64.wrap ((i : Int) + (k : Int)) = (i : Int) + (k : Int) := IntWalk.i64_in _ (by omega)
          have hin1 : 0 ≤ (i : Int) + (k : Int) := by omega
          have hin2 : (i : Int) + (k : Int) < 8 := by omega
          have hin3 : ((i : Int) + (k : Int)).toNat = i + k := by omega
          generalize natAt Y k = y at *
          generalize natAt U1 (i + k) = z at *
          clear hR
          go_wp2_with fail
          refine c_start (S := (fun W' => W'.cell? ⟨w.heap.size, i, none⟩ = some (.int .u64 (x : Int)) ∧ W'.cell? ⟨w.heap.size + 1, k, none⟩ = some (.int .u64 (y : Int)) ∧ W'.cell? ⟨T, i + k, none⟩ = some (.int .u64 (z : Int)))) 21 (by kernel_rfl) (⟨c0, c1, c2⟩) (fun hHeld => ?_)
          refine c_take (i := 0) (oi := ⟨(some 21), _, _, _, _, _⟩) (v := ?vq1_0) rfl (by decide) (by kernel_rfl) (by kernel_rfl) (by kernel_rfl) (fun _ _ _ h => h) (Or.inl ⟨by rfl, ?yq1_0⟩) hHeld ?_
          case yq1_0 => (intro W0 hSw; go_simp; try with_reducible rfl)
          try simp only [Act.put, List.setIfInBounds_toArray, List.set_cons_zero, List.set_cons_succ]
          refine c_take (i := 1) (oi := ⟨(some 22), _, _, _, _, _⟩) (v := ?vq1_1) rfl (by decide) (by kernel_rfl) (by kernel_rfl) (by kernel_rfl) (fun _ _ _ h => h) (Or.inl ⟨by rfl, ?yq1_1⟩) hHeld ?_
          case yq1_1 => (intro W0 hSw; go_simp; try with_reducible rfl)
          try simp only [Act.put, List.setIfInBounds_toArray, List.set_cons_zero, List.set_cons_succ]
          refine c_take (i := 2) (oi := ⟨(some 23), _, _, _, _, _⟩) (v := ?vq1_2) rfl (by decide) (by kernel_rfl) (by kernel_rfl) (by kernel_rfl) (fun _ _ _ h => h) (Or.inl ⟨by rfl, ?yq1_2⟩) hHeld ?_
          case yq1_2 => (intro W0 hSw; go_simp; try with_reducible rfl)
          try simp only [Act.put, List.setIfInBounds_toArray, List.set_cons_zero, List.set_cons_succ]
          refine c_take (i := 3) (oi := ⟨(some 24), _, _, _, _, _⟩) (v := ?vq1_3) rfl (by decide) (by kernel_rfl) (by kernel_rfl) (by kernel_rfl) (fun _ _ _ h => h) (Or.inl ⟨by rfl, ?yq1_3⟩) hHeld ?_
          case yq1_3 => (intro W0 hSw; go_simp; try with_reducible rfl)
          try simp only [Act.put, List.setIfInBounds_toArray, List.set_cons_zero, List.set_cons_succ]
          refine c_take (i := 4) (oi := ⟨(some 25), _, _, _, _, _⟩) (v := ?vq1_4) rfl (by decide) (by kernel_rfl) (by kernel_rfl) (by kernel_rfl) (fun _ _ _ h => h) (Or.inl ⟨by rfl, ?yq1_4⟩) hHeld ?_
          case yq1_4 => (intro W0 hSw; go_simp; try with_reducible rfl)
          try simp only [Act.put, List.setIfInBounds_toArray, List.set_cons_zero, List.set_cons_succ]
          refine c_read (i := 5) (oi := ⟨(some 26), _, _, _, _, _⟩) (v := ?vq1_5) rfl (by decide) (by kernel_rfl) (by kernel_rfl) (by kernel_rfl) (by kernel_rfl) (by kernel_rfl) (fun _ _ _ h => h) (Or.inl ⟨by rfl, ?yq1_5⟩) hHeld ?_
          case yq1_5 => (intro W0 hSw; go_simp; try with_reducible rfl)
          try simp only [Act.put, List.setIfInBounds_toArray, List.set_cons_zero, List.set_cons_succ]
          refine c_take (i := 6) (oi := ⟨(some 27), _, _, _, _, _⟩) (v := ?vq1_6) rfl (by decide) (by kernel_rfl) (by kernel_rfl) (by kernel_rfl) (fun _ _ _ h => h) (Or.inl ⟨by rfl, ?yq1_6⟩) hHeld ?_
          case yq1_6 => (intro W0 hSw; go_simp; try with_reducible rfl)
          try simp only [Act.put, List.setIfInBounds_toArray, List.set_cons_zero, List.set_cons_succ]
          refine c_take (i := 7) (oi := ⟨(some 28), _, _, _, _, _⟩) (v := ?vq1_7) rfl (by decide) (by kernel_rfl) (by kernel_rfl) (by kernel_rfl) (fun _ _ _ h => h) (Or.inl ⟨by rfl, ?yq1_7⟩) hHeld ?_
          case yq1_7 => (intro W0 hSw; go_simp; try with_reducible rfl)
          try simp only [Act.put, List.setIfInBounds_toArray, List.set_cons_zero, List.set_cons_succ]
          refine c_read (i := 8) (oi := ⟨(some 29), _, _, _, _, _⟩) (v := ?vq1_8) rfl (by decide) (by kernel_rfl) (by kernel_rfl) (by kernel_rfl) (by kernel_rfl) (by kernel_rfl) (fun _ _ _ h => h) (Or.inl ⟨by rfl, ?yq1_8⟩) hHeld ?_
          case yq1_8 => (intro W0 hSw; go_simp; try with_reducible rfl)
          try simp only [Act.put, List.setIfInBounds_toArray, List.set_cons_zero, List.set_cons_succ]
          refine c_take (i := 9) (oi := ⟨(some 30), _, _, _, _, _⟩) (v := ?vq1_9) rfl (by decide) (by kernel_rfl) (by kernel_rfl) (by kernel_rfl) (fun _ _ _ h => h) (Or.inl ⟨by rfl, ?yq1_9⟩) hHeld ?_
          case yq1_9 => (intro W0 hSw; go_simp; try with_reducible rfl)
          try simp only [Act.put, List.setIfInBounds_toArray, List.set_cons_zero, List.set_cons_succ]
          refine c_take (i := 10) (oi := ⟨(some 31), _, _, _, _, _⟩) (v := ?vq1_10) rfl (by decide) (by kernel_rfl) (by kernel_rfl) (by kernel_rfl) (fun _ _ _ h => h) (Or.inl ⟨by rfl, ?yq1_10⟩) hHeld ?_
          case yq1_10 => (intro W0 hSw; go_simp; try with_reducible rfl)
          try simp only [Act.put, List.setIfInBounds_toArray, List.set_cons_zero, List.set_cons_succ]
          refine c_take (i := 11) (oi := ⟨(some 32), _, _, _, _, _⟩) (v := ?vq1_11) rfl (by decide) (by kernel_rfl) (by kernel_rfl) (by kernel_rfl) (fun _ _ _ h => h) (Or.inl ⟨by rfl, ?yq1_11⟩) hHeld ?_
          case yq1_11 => (intro W0 hSw; go_simp; try with_reducible rfl)
          try simp only [Act.put, List.setIfInBounds_toArray, List.set_cons_zero, List.set_cons_succ]
          refine c_take (i := 12) (oi := ⟨(some 33), _, _, _, _, _⟩) (v := ?vq1_12) rfl (by decide) (by kernel_rfl) (by kernel_rfl) (by kernel_rfl) (fun _ _ _ h => h) (Or.inl ⟨by rfl, ?yq1_12⟩) hHeld ?_
          case yq1_12 => (intro W0 hSw; go_simp; try with_reducible rfl)
          try simp only [Act.put, List.setIfInBounds_toArray, List.set_cons_zero, List.set_cons_succ]
          refine c_read (i := 13) (oi := ⟨(some 34), _, _, _, _, _⟩) (v := ?vq1_13) rfl (by decide) (by kernel_rfl) (by kernel_rfl) (by kernel_rfl) (by kernel_rfl) (by kernel_rfl) (fun _ _ _ h => h) (Or.inl ⟨by rfl, ?yq1_13⟩) hHeld ?_
          case yq1_13 => (intro W0 hSw; go_simp; try with_reducible rfl)
          try simp only [Act.put, List.setIfInBounds_toArray, List.set_cons_zero, List.set_cons_succ]
          refine c_take (i := 14) (oi := ⟨(some 35), _, _, _, _, _⟩) (v := ?vq1_14) rfl (by decide) (by kernel_rfl) (by kernel_rfl) (by kernel_rfl) (fun _ _ _ h => h) (Or.inl ⟨by rfl, ?yq1_14⟩) hHeld ?_
          case yq1_14 => (intro W0 hSw; go_simp; try with_reducible rfl)
          try simp only [Act.put, List.setIfInBounds_toArray, List.set_cons_zero, List.set_cons_succ]
          refine c_step (i := 15) (o := ⟨(some 36), _, _, _, _, _⟩) (by kernel_rfl) rfl (fun K hK => ?_)
          go_simp
          refine (lstep_any _ x y z c lx ly lz hc).mono ?_
          rintro e w3 ⟨h, l, rfl, he, lh, ll, rfl⟩
          refine hK.out _ _ (hHeld) (fun hHeld => ?_)
          clear hK K
          try simp only [Act.put, List.setIfInBounds_toArray, List.set_cons_zero, List.set_cons_succ]
          refine c_take (i := 16) (oi := ⟨(some 20), _, _, _, _, _⟩) (v := ?vq1_15) rfl (by decide) (by kernel_rfl) (by kernel_rfl) (by kernel_rfl) (fun _ _ _ h => h) (Or.inl ⟨by rfl, ?yq1_15⟩) hHeld ?_
          case yq1_15 => (intro W0 hSw; go_simp; try with_reducible rfl)
          try simp only [Act.put, List.setIfInBounds_toArray, List.set_cons_zero, List.set_cons_succ]
          refine c_take (i := 17) (oi := ⟨(some 37), _, _, _, _, _⟩) (v := ?vq1_16) rfl (by decide) (by kernel_rfl) (by kernel_rfl) (by kernel_rfl) (fun _ _ _ h => h) (Or.inl ⟨by rfl, ?yq1_16⟩) hHeld ?_
          case yq1_16 => (intro W0 hSw; go_simp; try with_reducible rfl)
          try simp only [Act.put, List.setIfInBounds_toArray, List.set_cons_zero, List.set_cons_succ]
          refine c_take (i := 18) (oi := ⟨(some 38), _, _, _, _, _⟩) (v := ?vq1_17) rfl (by decide) (by kernel_rfl) (by kernel_rfl) (by kernel_rfl) (fun _ _ _ h => h) (Or.inl ⟨by rfl, ?yq1_17⟩) hHeld ?_
          case yq1_17 => (intro W0 hSw; go_simp; try with_reducible rfl)
          try simp only [Act.put, List.setIfInBounds_toArray, List.set_cons_zero, List.set_cons_succ]
          refine c_take (i := 19) (oi := ⟨(some 9), _, _, _, _, _⟩) (v := ?vq1_18) rfl (by decide) (by kernel_rfl) (by kernel_rfl) (by kernel_rfl) (fun _ _ _ h => h) (Or.inl ⟨by rfl, ?yq1_18⟩) hHeld ?_
          case yq1_18 => (intro W0 hSw; go_simp; try with_reducible rfl)
          try simp only [Act.put, List.setIfInBounds_toArray, List.set_cons_zero, List.set_cons_succ]
          refine c_take (i := 20) (oi := ⟨(some 39), _, _, _, _, _⟩) (v := ?vq1_19) rfl (by decide) (by kernel_rfl) (by kernel_rfl) (by kernel_rfl) (fun _ _ _ h => h) (Or.inl ⟨by rfl, ?yq1_19⟩) hHeld ?_
          case yq1_19 => (intro W0 hSw; go_simp; try with_reducible rfl)
          try simp only [Act.put, List.setIfInBounds_toArray, List.set_cons_zero, List.set_cons_succ]
          refine c_call (S' := (fun _ => True)) (o := ⟨none, _, _, _, _, _⟩) (by kernel_rfl) (by kernel_rfl) rfl (fun K hK => ?_)
          clear hHeld
          refine step_set rfl 45 (.tmp 39) (.tmp 38) rfl Tryd.sizeU64s T (i + k) (by rfl) .u64 (l : Int) (by rfl) (u64v U1) 70 hg.out (by rw [u64v_len, hlen.out]; omega) V hbt.drew ?_
          intro w4 hg4 hb4
          refine hK.out _ _ (trivial) (fun hHeld => ?_)
          clear hK K
          try simp only [Act.put]
          refine wpAnyH_done (by kernel_rfl) ?_ _
          rw [u64v_set] at hg4
          have hT2 := vlt (hN.out l h he.out ll lh)
          clear he hN
          go_wp2
          go_roundw
          case rel => exact ⟨k + 1, h, _, by omega, by go_num, rfl, lh, hg4, hT2, hb4⟩
          case measure => simp [intOf]; omega
        · obtain rfl : k = 4 := by omega
          have hO2 := vlt (hO.out.next HXL.out HYL.out hlt (by have h := hR.out; rwa [HX.out] at h))
          have c2 := long_at hg.out (i + 4) (by rw [hR.out.len]; omega)
          have f2 : wr.frozen? ⟨T, i + 4, none⟩ = false := frozen_of_row _ _ _ _ _ hg.out
          have hset := world_set_cell hg.out (i + 4) (.int .u64 (c : Int))
          rw [u64v_set] at hset
          have hb3 := hbt.set (i := i + 4) (.int .u64 (c : Int))
          generalize natAt U1 (i + 4) = z at *
          clear hg hR hO hbt
          go_wp2
          go_roundw
          case rel => exact ⟨i + 1, _, by omega, by go_num, hset, hO2, hb3⟩
          case measure => simp [intOf]; omega
    · obtain rfl : i = 4 := by omega
      have hV := vlt (show nB U = nB Z + nB X * nB Y by have h := hO.out.val; rwa [List.take_of_length_le (by rw [HXL.out]; decide)] at h)
      have hUL := Lib.hid hO.out.len
      have hUB := vlt hO.out.bound
      have HUS := Lib.hid (show (u64v U).toArray.size = 8 by simp [u64v_len, hUL.out])
      have HZS := Lib.hid (show (u64v (uptoW 8 [])).toArray.size = 8 from rfl)
      have hz4 : Hid (wr.heap[w.heap.size + 3]? = some (.cells (u64v (uptoW 8 [])).toArray 70 (0, 0))) := (hbt.block _ (by omega) (by intro e; injection e; omega)).trans hgR1.out
      have hb4 : Below w.heap.size w wr := But.below hbw1 hbt (by omega) (by omega)
      clear hO
      go_wp2_with (first
        | (with_reducible refine wpList_load_row rfl 70 (.tmp 7) rfl T rfl 70 (u64v U).toArray (0, 0) _ hg.out Tryd.underlying70 rfl (by rw [HUS.out]; kernel_rfl) ?_)
        | (with_reducible refine wpList_store_row rfl 70 (.tmp 6) (.tmp 46) rfl (w.heap.size + 1 + 1 + 1) (u64v U).toArray rfl rfl 70 _ hz4.out (by rw [HUS.out]; kernel_rfl) (by rw [HUS.out]; exact HZS.out) (all_oneCell_toArray (u64v_one _)) ?_))
      refine bodyPost_ret (v := .agg (u64v U).toArray) (results_cell_row Tryd.results45 _ _ (w.heap.size + 1 + 1 + 1) 70 _ (0, 0) _ rfl (setRow_heap _ _ _ _ _ _ hz4.out) Tryd.underlying70 rfl (by rw [HUS.out]; kernel_rfl)) rfl ⟨U, rfl, hV, hUL, hUB, below_setRow hb4 (by omega) _⟩
end Go.Proofs.YtehkalbiomagjaaDoor
namespace Go.Proofs.YtehkalbiomagjaaDoor
open Go.RowKit

/-- L lies where the program's text lays it. -/
def LaidO (w : World) : Prop := (∀ k x : Nat, oL[k]? = some x → w.cell? ⟨1, k, none⟩ = some (.int .u64 (x : Int))) ∧ 1 < w.heap.size
theorem LaidO.below {w w' : World} {B : Nat} (h : LaidO w) (hB : 1 < B) (hb : Below B w w') : LaidO w' :=
  ⟨fun k x hx => (World.cell?_of_block (hb.block 1 hB)).trans (h.1 k x hx), Nat.lt_of_lt_of_le h.2 hb.size⟩
theorem LaidO.but {w w' : World} {g : Nat} (h : LaidO w) (hg : 1 < g) (hb : But g w w') : LaidO w' :=
  ⟨fun k x hx => (World.cell?_of_block (hb.block 1 h.2 (by intro e; injection e; omega))).trans (h.1 k x hx), Nat.lt_of_lt_of_le h.2 hb.size⟩
theorem oL_at (k : Nat) (h : k < 4) : oL[k]? = some (natAt oL k) := by
  match k, h with
  | 0, _ => rfl
  | 1, _ => rfl
  | 2, _ => rfl
  | 3, _ => rfl
theorem oL_lt : ∀ x ∈ oL, x < B64 := by decide
theorem four_of (X : List Nat) (h : X.length = 4) : X = [natAt X 0, natAt X 1, natAt X 2, natAt X 3] := by
  match X, h with
  | [a, b, c, d], _ => rfl
theorem often_val (x2 x3 : Nat) (h2 : x2 < B64) (h3 : x3 ≤ 1152921504606846976) :
    ∃ q : Nat, q < B64 ∧ bits .or .u64 (bits .or .u64 (IntKind.u64.wrap ((x3 : Int) * 16)) ((x2 : Int) / 1152921504606846976)) (IntKind.u64.wrap (-((x3 : Int) / 1152921504606846976))) = (q : Int) ∧
      ((x3 < 1152921504606846976 ∧ q = 16 * x3 + x2 / 1152921504606846976) ∨ (x3 = 1152921504606846976 ∧ q = 18446744073709551615)) := by
  have l2 : x2 / 1152921504606846976 < 16 := by simp only [B64] at h2; omega
  rw [show (x2 : Int) / 1152921504606846976 = ((x2 / 1152921504606846976 : Nat) : Int) by omega, show (x3 : Int) * 16 = ((x3 * 16 : Nat) : Int) by omega, wrap64]
  by_cases h : x3 < 1152921504606846976
  · refine ⟨16 * x3 + x2 / 1152921504606846976, by simp only [B64]; omega, ?_, .inl ⟨h, rfl⟩⟩
    rw [show IntKind.u64.wrap (-((x3 : Int) / 1152921504606846976)) = ((0 : Nat) : Int) by rw [show (x3 : Int) / 1152921504606846976 = 0 by omega]; decide]
    generalize x2 / 1152921504606846976 = t at *
    rw [u64_or_nat _ _ (by omega) (by omega), u64_or_nat _ _ (Nat.or_lt_two_pow (n := 64) (by omega) (by omega)) (by decide), Nat.or_zero]
    congr 1
    rw [Nat.mod_eq_of_lt (by omega), show x3 * 16 = x3 <<< 4 by rw [Nat.shiftLeft_eq], ← Nat.shiftLeft_add_eq_or_of_lt (by omega)]
    rw [Nat.shiftLeft_eq]; omega
  · have e : x3 = 1152921504606846976 := by omega
    subst e
    refine ⟨18446744073709551615, by decide, ?_, .inr ⟨rfl, rfl⟩⟩
    rw [show IntKind.u64.wrap (-(((1152921504606846976 : Nat) : Int) / 1152921504606846976)) = ((18446744073709551615 : Nat) : Int) by decide]
    generalize x2 / 1152921504606846976 = t at *
    rw [u64_or_nat _ _ (by omega) (by omega)]
    generalize hv : 1152921504606846976 * 16 % 18446744073709551616 ||| t = v
    have lv : v < 18446744073709551616 := by rw [← hv]; exact Nat.or_lt_two_pow (n := 64) (by omega) (by omega)
    rw [u64_or_nat _ _ lv (by decide)]
    congr 1
    rw [show (18446744073709551615 : Nat) = 2 ^ 64 - 1 by decide]
    apply Nat.eq_of_testBit_eq
    intro j
    rw [Nat.testBit_or, Nat.testBit_two_pow_sub_one]
    by_cases hj : j < 64
    · simp [hj]
    · simp only [hj, decide_false, Bool.or_false]
      exact Nat.testBit_lt_two_pow (Nat.lt_of_lt_of_le lv (by rw [show (18446744073709551616 : Nat) = 2 ^ 64 by decide]; exact Nat.pow_le_pow_right (by decide) (by omega)))
theorem under_val (y3 : Nat) (h3 : y3 < B64) : ∃ m : Nat, IntKind.u64.wrap (-((y3 : Int) / 9223372036854775808)) = (m : Int) ∧ m < B64 ∧ ∀ o : Nat, o < B64 → bits .and .u64 (o : Int) (m : Int) = ((y3 / 9223372036854775808 * o : Nat) : Int) ∧ y3 / 9223372036854775808 * o < B64 := by
  have h : y3 / 9223372036854775808 = 0 ∨ y3 / 9223372036854775808 = 1 := by simp only [B64] at h3; omega
  rw [show (y3 : Int) / 9223372036854775808 = ((y3 / 9223372036854775808 : Nat) : Int) by omega]
  rcases h with h | h
  · rw [h]
    refine ⟨0, by decide, by decide, fun o ho => ⟨?_, ?_⟩⟩
    · rw [u64_and_nat _ _ ho (by decide), Nat.and_zero, Nat.zero_mul]
    · rw [Nat.zero_mul]; decide
  · rw [h]
    refine ⟨18446744073709551615, by decide, by decide, fun o ho => ⟨?_, ?_⟩⟩
    · rw [u64_and_nat _ _ ho (by decide), show (18446744073709551615 : Nat) = 2 ^ 64 - 1 by decide, Nat.and_two_pow_sub_one_eq_mod, Nat.mod_eq_of_lt ho, Nat.one_mul]
    · rw [Nat.one_mul]; exact ho
theorem built_num (a b c d : Nat) : Tryd.prog.built 68 [(0, .int .u64 (a : Int)), (1, .int .u64 (b : Int)), (2, .int .u64 (c : Int)), (3, .int .u64 (d : Int))] = some (u64v [a, b, c, d]).toArray := by kernel_rfl
theorem natAt_set_same (l : List Nat) (k v : Nat) (h : k < l.length) : natAt (l.set k v) k = v := by rw [natAt_set _ _ _ _ h, if_pos rfl]
theorem nB_lt4 (X : List Nat) (h : X.length = 4) (hb : ∀ x ∈ X, x < B64) : nB X < 115792089237316195423570985008687907853269984665640564039457584007913129639936 := by
  match X, h with
  | [a, b, c, d], _ =>
    rw [nB_four]
    exact n4_lt a b c d (hb _ (by simp)) (hb _ (by simp)) (hb _ (by simp)) (hb _ (by simp))
theorem next_list (x0 x1 x2 x3 low q c c2 : Nat) (Y R : List Nat) (h0 : x0 < B64) (h1 : x1 < B64) (h2 : x2 < B64) (hlow : low < B64)
    (hN : n4 x0 x1 x2 x3 < FL) (hq : (x3 < 1152921504606846976 ∧ q = 16 * x3 + x2 / 1152921504606846976) ∨ (x3 = 1152921504606846976 ∧ q = 18446744073709551615))
    (hY : Nless q oL [low, x0, x1, x2] Y 4 c) (hR : Nmore (natAt Y 3 / 9223372036854775808) oL Y R 4 c2) : nB R = (low + 18446744073709551616 * n4 x0 x1 x2 x3) % FL := by
  have e : (18446744073709551616 : Nat) ^ 4 = 115792089237316195423570985008687907853269984665640564039457584007913129639936 := by decide
  have h4 := four_of Y hY.len
  have hv := hY.val
  have hv2 := hR.val
  rw [List.take_of_length_le (by decide), nB_oL, e] at hv hv2
  have b0 := natB_mem hY.bound 0
  have b1 := natB_mem hY.bound 1
  have b2 := natB_mem hY.bound 2
  have b3 := natB_mem hY.bound 3
  have hr := nB_lt4 R hR.len hR.bound
  generalize natAt Y 0 = y0 at *
  generalize natAt Y 1 = y1 at *
  generalize natAt Y 2 = y2 at *
  generalize natAt Y 3 = y3 at *
  rw [h4, nB_four, nB_four] at hv
  rw [h4, nB_four] at hv2
  exact next_num x0 x1 x2 x3 low q y0 y1 y2 y3 c (nB R) c2 h0 h1 h2 hlow b0 b1 b2 b3 hN hq hv hv2 hr
theorem x3_le (x0 x1 x2 x3 : Nat) (h : n4 x0 x1 x2 x3 < FL) : x3 ≤ 1152921504606846976 := by
  rw [fl_eq] at h
  simp only [n4] at h
  omega

set_option maxRecDepth 100000 in
set_option maxHeartbeats 2000000 in
theorem lnext_any (w : World) (hla : LaidO w) (x0 x1 x2 x3 low : Nat) (h0 : x0 < B64) (h1 : x1 < B64) (h2 : x2 < B64) (hlow : low < B64) (hN : n4 x0 x1 x2 x3 < FL) :
    Calls Tryd.prog 74 #[.agg (u64v [x0, x1, x2, x3]).toArray, .int .u64 (low : Int)] w fun e w' => ∃ X, e = .returned (.agg (u64v X).toArray) ∧ Vlt (nB X = (low + 18446744073709551616 * n4 x0 x1 x2 x3) % FL) ∧ Hid (X.length = 4) ∧ Vlt (∀ x ∈ X, x < B64) ∧ Below w.heap.size w w' := by
  have hzn := zero_num
  obtain ⟨W, hW, hgX, hgZ, hbW, hsW⟩ := pair_new w (u64v [x0, x1, x2, x3]).toArray (u64v (uptoW 4 [])).toArray 68 68
  have HW := Lib.hid hW
  have hlaW := hla.below hla.2 hbW
  have hs1 : w.heap.size + 1 < W.heap.size := by have := hsW.out; omega
  have hgl := hla.2
  clear hW hsW hla
  have c0 : W.cell? ⟨w.heap.size, 0, none⟩ = some (.int .u64 (x0 : Int)) := long_at hgX.out 0 (by simp)
  have c1 : W.cell? ⟨w.heap.size, 1, none⟩ = some (.int .u64 (x1 : Int)) := long_at hgX.out 1 (by simp)
  have c2 : W.cell? ⟨w.heap.size, 2, none⟩ = some (.int .u64 (x2 : Int)) := long_at hgX.out 2 (by simp)
  have c3 : W.cell? ⟨w.heap.size, 3, none⟩ = some (.int .u64 (x3 : Int)) := long_at hgX.out 3 (by simp)
  obtain ⟨q, lq, eq, hq⟩ := often_val x2 x3 h2 (x3_le x0 x1 x2 x3 hN)
  have HN := vlt hN
  have HQ := vlt hq
  clear hN hq
  go_enter Tryd.func74, Tryd.ntmps74
  go_upto_region 1 with fail
  rw [HW.out]
  go_upto_region 2 with fail
  go_upto_region 3 with (first
    | (with_reducible refine wpList_build_to rfl 68 _ rfl [(0, .int .u64 (low : Int)), (1, .int .u64 (x0 : Int)), (2, .int .u64 (x1 : Int)), (3, .int .u64 (x2 : Int))] (by rfl) _ (built_num low x0 x1 x2) ?_)
    | (with_reducible refine wpList_store_row rfl 68 (.tmp 2) (.tmp 29) rfl w.heap.size (u64v [low, x0, x1, x2]).toArray rfl rfl 68 _ hgX.out (by kernel_rfl) (by kernel_rfl) (all_oneCell_toArray (u64v_one _)) ?_))
  obtain ⟨V, hV⟩ : ∃ V, V = W.setRow w.heap.size (u64v [low, x0, x1, x2]).toArray := ⟨_, rfl⟩
  rw [← hV]
  have hgV : Hid (V.heap[w.heap.size]? = some (.cells (u64v [low, x0, x1, x2]).toArray 68 (0, 0))) := by rw [hV]; exact setRow_heap _ _ _ _ _ _ hgX.out
  have hbV : But w.heap.size W V := by rw [hV]; exact (But.refl _ W).row _
  have hgZV : Hid (V.heap[w.heap.size + 1]? = some (.cells (u64v (uptoW 4 [])).toArray 68 (0, 0))) := by rw [hV]; exact (setRow_other _ _ _ _ (by omega)).trans hgZ.out
  have hbwV : Below w.heap.size w V := by rw [hV]; exact below_setRow hbW (by omega) _
  have hlaV := hlaW.but hgl hbV
  have hsV : w.heap.size + 1 < V.heap.size := (Array.getElem?_eq_some_iff.1 hgZV.out).1
  have hX0 := vlt (show Nless q oL [low, x0, x1, x2] [low, x0, x1, x2] 0 0 from Nless.first rfl (by
    intro x hx
    simp only [List.mem_cons, List.not_mem_nil, or_false] at hx
    simp only [B64] at *
    omega))
  generalize hX0v : [low, x0, x1, x2] = X0 at *
  have HX0 := vlt hX0v
  clear hX0v hV c0 c1 c2 c3 hgX hgZ hlaW hbV eq hs1 hbW HW
  go_wp2_with fail
  go_loopw [6, 30] (fun cc s wr => ∃ (k c : Nat) (X : List Nat), k ≤ 4 ∧ s = .int .i64 (k : Int) ∧ cc = .int .u64 (c : Int) ∧ c < B64 ∧ Hid (wr.heap[w.heap.size]? = some (.cells (u64v X).toArray 68 (0, 0))) ∧ Vlt (Nless q oL X0 X k c) ∧ But w.heap.size V wr) (fun _ s _ => 4 - (intOf s).toNat)
  case atStart => exact ⟨0, 0, X0, by omega, rfl, rfl, by decide, hgV, hX0, But.refl _ _⟩
  case round =>
    clear hX0 hgV
    obtain ⟨k, c, X, hk, rfl, rfl, hc, hg, hL, hbt⟩ := hrel
    by_cases hkt : k < 4
    · have hlaR := hlaV.but hgl hbt
      have c0 := hlaR.1 k _ (oL_at k hkt)
      have c1 := long_at hg.out k (by rw [hL.out.len]; exact hkt)
      have lo := natB_mem oL_lt k
      have lx := natB_mem hL.out.bound k
      have et := turn64 _ lx
      have hN := vlt (fun low high e hl hh => hL.out.step rfl hkt low high e hl hh)
      have hlen := Lib.hid hL.out.len
      have ld : 18446744073709551615 - natAt X k < B64 := by simp only [B64]; omega
      generalize natAt oL k = o at *
      generalize natAt X k = x at *
      generalize 18446744073709551615 - x = d at *
      clear hL hlaR
      go_wp2_with fail
      refine c_start (S := (fun W' => W'.cell? ⟨1, k, none⟩ = some (.int .u64 (o : Int)) ∧ W'.cell? ⟨w.heap.size, k, none⟩ = some (.int .u64 (x : Int)))) 16 (by kernel_rfl) (⟨c0, c1⟩) (fun hHeld => ?_)
      refine c_take (i := 0) (oi := ⟨(some 34), _, _, _, _, _⟩) (v := ?vq1_0) rfl (by decide) (by kernel_rfl) (by kernel_rfl) (by kernel_rfl) (fun _ _ _ h => h) (Or.inl ⟨by rfl, ?yq1_0⟩) hHeld ?_
      case yq1_0 => (intro W0 hSw; go_simp; try with_reducible rfl)
      try simp only [Act.put, List.setIfInBounds_toArray, List.set_cons_zero, List.set_cons_succ]
      refine c_take (i := 1) (oi := ⟨(some 35), _, _, _, _, _⟩) (v := ?vq1_1) rfl (by decide) (by kernel_rfl) (by kernel_rfl) (by kernel_rfl) (fun _ _ _ h => h) (Or.inl ⟨by rfl, ?yq1_1⟩) hHeld ?_
      case yq1_1 => (intro W0 hSw; go_simp; try with_reducible rfl)
      try simp only [Act.put, List.setIfInBounds_toArray, List.set_cons_zero, List.set_cons_succ]
      refine c_take (i := 2) (oi := ⟨(some 36), _, _, _, _, _⟩) (v := ?vq1_2) rfl (by decide) (by kernel_rfl) (by kernel_rfl) (by kernel_rfl) (fun _ _ _ h => h) (Or.inl ⟨by rfl, ?yq1_2⟩) hHeld ?_
      case yq1_2 => (intro W0 hSw; go_simp; try with_reducible rfl)
      try simp only [Act.put, List.setIfInBounds_toArray, List.set_cons_zero, List.set_cons_succ]
      refine c_take (i := 3) (oi := ⟨(some 37), _, _, _, _, _⟩) (v := ?vq1_3) rfl (by decide) (by kernel_rfl) (by kernel_rfl) (by kernel_rfl) (fun _ _ _ h => h) (Or.inl ⟨by rfl, ?yq1_3⟩) hHeld ?_
      case yq1_3 => (intro W0 hSw; go_simp; try with_reducible rfl)
      try simp only [Act.put, List.setIfInBounds_toArray, List.set_cons_zero, List.set_cons_succ]
      refine c_read (i := 4) (oi := ⟨(some 38), _, _, _, _, _⟩) (v := ?vq1_4) rfl (by decide) (by kernel_rfl) (by kernel_rfl) (by kernel_rfl) (by kernel_rfl) (by kernel_rfl) (fun _ _ _ h => h) (Or.inl ⟨by rfl, ?yq1_4⟩) hHeld ?_
      case yq1_4 => (intro W0 hSw; go_simp; try with_reducible rfl)
      try simp only [Act.put, List.setIfInBounds_toArray, List.set_cons_zero, List.set_cons_succ]
      refine c_take (i := 5) (oi := ⟨(some 39), _, _, _, _, _⟩) (v := ?vq1_5) rfl (by decide) (by kernel_rfl) (by kernel_rfl) (by kernel_rfl) (fun _ _ _ h => h) (Or.inl ⟨by rfl, ?yq1_5⟩) hHeld ?_
      case yq1_5 => (intro W0 hSw; go_simp; try with_reducible rfl)
      try simp only [Act.put, List.setIfInBounds_toArray, List.set_cons_zero, List.set_cons_succ]
      refine c_take (i := 6) (oi := ⟨(some 40), _, _, _, _, _⟩) (v := ?vq1_6) rfl (by decide) (by kernel_rfl) (by kernel_rfl) (by kernel_rfl) (fun _ _ _ h => h) (Or.inl ⟨by rfl, ?yq1_6⟩) hHeld ?_
      case yq1_6 => (intro W0 hSw; go_simp; try with_reducible rfl)
      try simp only [Act.put, List.setIfInBounds_toArray, List.set_cons_zero, List.set_cons_succ]
      refine c_read (i := 7) (oi := ⟨(some 41), _, _, _, _, _⟩) (v := ?vq1_7) rfl (by decide) (by kernel_rfl) (by kernel_rfl) (by kernel_rfl) (by kernel_rfl) (by kernel_rfl) (fun _ _ _ h => h) (Or.inl ⟨by rfl, ?yq1_7⟩) hHeld ?_
      case yq1_7 => (intro W0 hSw; go_simp; try with_reducible rfl)
      try simp only [Act.put, List.setIfInBounds_toArray, List.set_cons_zero, List.set_cons_succ]
      refine c_take (i := 8) (oi := ⟨(some 42), _, _, _, _, _⟩) (v := ?vq1_8) rfl (by decide) (by kernel_rfl) (by kernel_rfl) (by kernel_rfl) (fun _ _ _ h => h) (Or.inl ⟨by rfl, ?yq1_8⟩) hHeld ?_
      case yq1_8 => (intro W0 hSw; go_simp; try with_reducible rfl)
      try simp only [Act.put, List.setIfInBounds_toArray, List.set_cons_zero, List.set_cons_succ]
      refine c_take (i := 9) (oi := ⟨(some 43), _, _, _, _, _⟩) (v := ?vq1_9) rfl (by decide) (by kernel_rfl) (by kernel_rfl) (by kernel_rfl) (fun _ _ _ h => h) (Or.inl ⟨by rfl, ?yq1_9⟩) hHeld ?_
      case yq1_9 => (intro W0 hSw; go_simp; try with_reducible rfl)
      try simp only [Act.put, List.setIfInBounds_toArray, List.set_cons_zero, List.set_cons_succ]
      refine c_step (i := 10) (o := ⟨(some 44), _, _, _, _, _⟩) (by kernel_rfl) rfl (fun K hK => ?_)
      go_simp
      rw [show (if IntKind.u64.signed = true then (-1 : Int) else IntKind.u64.max) = IntKind.u64.max from rfl, et]
      refine (lstep_any _ q o d c lq lo ld hc).mono ?_
      rintro e w3 ⟨h, l, rfl, he, lh, ll, rfl⟩
      refine hK.out _ _ (hHeld) (fun hHeld => ?_)
      clear hK K
      try simp only [Act.put, List.setIfInBounds_toArray, List.set_cons_zero, List.set_cons_succ]
      refine c_take (i := 11) (oi := ⟨(some 33), _, _, _, _, _⟩) (v := ?vq1_10) rfl (by decide) (by kernel_rfl) (by kernel_rfl) (by kernel_rfl) (fun _ _ _ h => h) (Or.inl ⟨by rfl, ?yq1_10⟩) hHeld ?_
      case yq1_10 => (intro W0 hSw; go_simp; try with_reducible rfl)
      try simp only [Act.put, List.setIfInBounds_toArray, List.set_cons_zero, List.set_cons_succ]
      refine c_take (i := 12) (oi := ⟨(some 45), _, _, _, _, _⟩) (v := ?vq1_11) rfl (by decide) (by kernel_rfl) (by kernel_rfl) (by kernel_rfl) (fun _ _ _ h => h) (Or.inl ⟨by rfl, ?yq1_11⟩) hHeld ?_
      case yq1_11 => (intro W0 hSw; go_simp; try with_reducible rfl)
      try simp only [Act.put, List.setIfInBounds_toArray, List.set_cons_zero, List.set_cons_succ]
      refine c_take (i := 13) (oi := ⟨(some 46), _, _, _, _, _⟩) (v := ?vq1_12) rfl (by decide) (by kernel_rfl) (by kernel_rfl) (by kernel_rfl) (fun _ _ _ h => h) (Or.inl ⟨by rfl, ?yq1_12⟩) hHeld ?_
      case yq1_12 => (intro W0 hSw; go_simp; try with_reducible rfl)
      try simp only [Act.put, List.setIfInBounds_toArray, List.set_cons_zero, List.set_cons_succ]
      refine c_take (i := 14) (oi := ⟨(some 6), _, _, _, _, _⟩) (v := ?vq1_13) rfl (by decide) (by kernel_rfl) (by kernel_rfl) (by kernel_rfl) (fun _ _ _ h => h) (Or.inl ⟨by rfl, ?yq1_13⟩) hHeld ?_
      case yq1_13 => (intro W0 hSw; go_simp; try with_reducible rfl)
      try simp only [Act.put, List.setIfInBounds_toArray, List.set_cons_zero, List.set_cons_succ]
      refine c_take (i := 15) (oi := ⟨(some 47), _, _, _, _, _⟩) (v := ?vq1_14) rfl (by decide) (by kernel_rfl) (by kernel_rfl) (by kernel_rfl) (fun _ _ _ h => h) (Or.inl ⟨by rfl, ?yq1_14⟩) hHeld ?_
      case yq1_14 => (intro W0 hSw; go_simp; try with_reducible rfl)
      try simp only [Act.put, List.setIfInBounds_toArray, List.set_cons_zero, List.set_cons_succ]
      refine c_call (S' := (fun _ => True)) (o := ⟨none, _, _, _, _, _⟩) (by kernel_rfl) (by kernel_rfl) rfl (fun K hK => ?_)
      clear hHeld
      refine step_set rfl 45 (.tmp 47) (.tmp 46) rfl Tryd.sizeU64s w.heap.size k (by rfl) .u64 (l : Int) (by rfl) (u64v X) 68 hg.out (by rw [u64v_len, hlen.out]; exact hkt) V hbt.drew ?_
      intro w4 hg4 hb4
      refine hK.out _ _ (trivial) (fun hHeld => ?_)
      clear hK K
      try simp only [Act.put]
      refine wpAnyH_done (by kernel_rfl) ?_ _
      rw [u64v_set] at hg4
      have hT2 := vlt (hN.out l h he.out ll lh)
      have c4 := long_at hg4.out k (by rw [List.length_set, hlen.out]; exact hkt)
      rw [natAt_set_same _ _ _ (by rw [hlen.out]; exact hkt)] at c4
      have f4 : w4.frozen? ⟨w.heap.size, k, none⟩ = false := frozen_of_row _ _ _ _ _ hg4.out
      have et4 := turn64 l ll
      have hset := world_set_cell hg4.out k (.int .u64 ((18446744073709551615 - l : Nat) : Int))
      rw [u64v_set, List.set_set] at hset
      have hb5 := hb4.set (i := k) (.int .u64 ((18446744073709551615 - l : Nat) : Int))
      generalize 18446744073709551615 - l = m at *
      have et5 : bits .xor .u64 (if IntKind.u64.signed = true then (-1 : Int) else IntKind.u64.max) (l : Int) = (m : Int) := et4
      clear he hN hg4
      go_wp2
      go_roundw
      case rel => exact ⟨k + 1, h, _, by omega, by go_num, rfl, lh, hset, hT2, hb5⟩
      case measure => simp [intOf]; omega
    · obtain rfl : k = 4 := by omega
      have hbwr : Below w.heap.size w wr := But.below hbwV hbt (by omega) (by omega)
      have hgZr : Hid (wr.heap[w.heap.size + 1]? = some (.cells (u64v (uptoW 4 [])).toArray 68 (0, 0))) := (hbt.block _ (by omega) (by intro e; injection e; omega)).trans hgZV.out
      have hlaR := hlaV.but hgl hbt
      have hsR : w.heap.size + 1 < wr.heap.size := (Array.getElem?_eq_some_iff.1 hgZr.out).1
      clear hlaV hbt hgZV hbwV hsV
      have c3 := long_at hg.out 3 (by rw [hL.out.len]; decide)
      have l3 := natB_mem hL.out.bound 3
      obtain ⟨m, em, lm, hm⟩ := under_val _ l3
      have HM := vlt hm
      have hR0 := vlt (show Nmore (natAt X 3 / 9223372036854775808) oL X X 0 0 from Nmore.first hL.out.len hL.out.bound)
      generalize natAt X 3 = y3 at c3 em
      go_upto_region 12 with fail
      obtain ⟨Y0, hY0⟩ : ∃ Y0, Y0 = wr := ⟨_, rfl⟩
      subst hY0
      clear c3 em hm
      go_wp2_with fail
      generalize (4 : Nat) = kk
      go_loopw [6, 59] (fun cc s wi => ∃ (k c : Nat) (R : List Nat), k ≤ 4 ∧ s = .int .i64 (k : Int) ∧ cc = .int .u64 (c : Int) ∧ c ≤ 1 ∧ Hid (wi.heap[w.heap.size]? = some (.cells (u64v R).toArray 68 (0, 0))) ∧ Vlt (Nmore (natAt X 3 / 9223372036854775808) oL X R k c) ∧ But w.heap.size Y0 wi) (fun _ s _ => 4 - (intOf s).toNat)
      case atStart => exact ⟨0, 0, X, by omega, rfl, rfl, by decide, hg, hR0, But.refl _ _⟩
      case round =>
        clear hg hR0
        obtain ⟨k, c2, R, hk, rfl, rfl, hc2, hg, hR, hbt⟩ := hrel
        by_cases hkt : k < 4
        · have hlaR2 := hlaR.but hgl hbt
          have c0 := hlaR2.1 k _ (oL_at k hkt)
          have c1 := long_at hg.out k (by rw [hR.out.len]; exact hkt)
          have lo := natB_mem oL_lt k
          have lx := natB_mem hR.out.bound k
          have hA := HM.out _ lo
          have hN := vlt (fun low high e hl hh => hR.out.step rfl hkt low high e hl hh)
          have hlen := Lib.hid hR.out.len
          generalize natAt oL k = o at *
          generalize natAt R k = x at *
          obtain ⟨p, hp⟩ : ∃ p, p = natAt X 3 / 9223372036854775808 * o := ⟨_, rfl⟩
          rw [← hp] at hA hN
          obtain ⟨ea, lp⟩ := hA
          obtain ⟨s1, o1, r1, e1, ls1, lo1⟩ := add64_ex add_run x p c2 lx lp hc2
          clear hR hlaR2 hp
          go_wp2_with fail
          refine c_start (S := (fun W' => W'.cell? ⟨1, k, none⟩ = some (.int .u64 (o : Int)) ∧ W'.cell? ⟨w.heap.size, k, none⟩ = some (.int .u64 (x : Int)))) 15 (by kernel_rfl) (⟨c0, c1⟩) (fun hHeld => ?_)
          refine c_take (i := 0) (oi := ⟨(some 63), _, _, _, _, _⟩) (v := ?vq2_0) rfl (by decide) (by kernel_rfl) (by kernel_rfl) (by kernel_rfl) (fun _ _ _ h => h) (Or.inl ⟨by rfl, ?yq2_0⟩) hHeld ?_
          case yq2_0 => (intro W0 hSw; go_simp; try with_reducible rfl)
          try simp only [Act.put, List.setIfInBounds_toArray, List.set_cons_zero, List.set_cons_succ]
          refine c_take (i := 1) (oi := ⟨(some 64), _, _, _, _, _⟩) (v := ?vq2_1) rfl (by decide) (by kernel_rfl) (by kernel_rfl) (by kernel_rfl) (fun _ _ _ h => h) (Or.inl ⟨by rfl, ?yq2_1⟩) hHeld ?_
          case yq2_1 => (intro W0 hSw; go_simp; try with_reducible rfl)
          try simp only [Act.put, List.setIfInBounds_toArray, List.set_cons_zero, List.set_cons_succ]
          refine c_take (i := 2) (oi := ⟨(some 65), _, _, _, _, _⟩) (v := ?vq2_2) rfl (by decide) (by kernel_rfl) (by kernel_rfl) (by kernel_rfl) (fun _ _ _ h => h) (Or.inl ⟨by rfl, ?yq2_2⟩) hHeld ?_
          case yq2_2 => (intro W0 hSw; go_simp; try with_reducible rfl)
          try simp only [Act.put, List.setIfInBounds_toArray, List.set_cons_zero, List.set_cons_succ]
          refine c_read (i := 3) (oi := ⟨(some 66), _, _, _, _, _⟩) (v := ?vq2_3) rfl (by decide) (by kernel_rfl) (by kernel_rfl) (by kernel_rfl) (by kernel_rfl) (by kernel_rfl) (fun _ _ _ h => h) (Or.inl ⟨by rfl, ?yq2_3⟩) hHeld ?_
          case yq2_3 => (intro W0 hSw; go_simp; try with_reducible rfl)
          try simp only [Act.put, List.setIfInBounds_toArray, List.set_cons_zero, List.set_cons_succ]
          refine c_take (i := 4) (oi := ⟨(some 67), _, _, _, _, _⟩) (v := ?vq2_4) rfl (by decide) (by kernel_rfl) (by kernel_rfl) (by kernel_rfl) (fun _ _ _ h => h) (Or.inl ⟨by rfl, ?yq2_4⟩) hHeld ?_
          case yq2_4 => (intro W0 hSw; go_simp; try with_reducible rfl)
          try simp only [Act.put, List.setIfInBounds_toArray, List.set_cons_zero, List.set_cons_succ]
          refine c_take (i := 5) (oi := ⟨(some 68), _, _, _, _, _⟩) (v := ?vq2_5) rfl (by decide) (by kernel_rfl) (by kernel_rfl) (by kernel_rfl) (fun _ _ _ h => h) (Or.inl ⟨by rfl, ?yq2_5⟩) hHeld ?_
          case yq2_5 => (intro W0 hSw; go_simp; try with_reducible rfl)
          try simp only [Act.put, List.setIfInBounds_toArray, List.set_cons_zero, List.set_cons_succ]
          refine c_read (i := 6) (oi := ⟨(some 69), _, _, _, _, _⟩) (v := ?vq2_6) rfl (by decide) (by kernel_rfl) (by kernel_rfl) (by kernel_rfl) (by kernel_rfl) (by kernel_rfl) (fun _ _ _ h => h) (Or.inl ⟨by rfl, ?yq2_6⟩) hHeld ?_
          case yq2_6 => (intro W0 hSw; go_simp; try with_reducible rfl)
          try simp only [Act.put, List.setIfInBounds_toArray, List.set_cons_zero, List.set_cons_succ]
          refine c_take (i := 7) (oi := ⟨(some 70), _, _, _, _, _⟩) (v := ?vq2_7) rfl (by decide) (by kernel_rfl) (by kernel_rfl) (by kernel_rfl) (fun _ _ _ h => h) (Or.inl ⟨by rfl, ?yq2_7⟩) hHeld ?_
          case yq2_7 => (intro W0 hSw; go_simp; try with_reducible rfl)
          try simp only [Act.put, List.setIfInBounds_toArray, List.set_cons_zero, List.set_cons_succ]
          refine c_take (i := 8) (oi := ⟨(some 71), _, _, _, _, _⟩) (v := ?vq2_8) rfl (by decide) (by kernel_rfl) (by kernel_rfl) (by kernel_rfl) (fun _ _ _ h => h) (Or.inl ⟨by rfl, ?yq2_8⟩) hHeld ?_
          case yq2_8 => (intro W0 hSw; go_simp; try with_reducible rfl)
          try simp only [Act.put, List.setIfInBounds_toArray, List.set_cons_zero, List.set_cons_succ]
          refine c_take (i := 9) (oi := ⟨(some 72), _, _, _, _, _⟩) (v := ?vq2_9) rfl (by decide) (by kernel_rfl) (by kernel_rfl) (by kernel_rfl) (fun _ _ _ h => h) (Or.inl ⟨by rfl, ?yq2_9⟩) hHeld ?_
          case yq2_9 => (intro W0 hSw; go_simp; try with_reducible rfl)
          try simp only [Act.put, List.setIfInBounds_toArray, List.set_cons_zero, List.set_cons_succ]
          refine c_take (i := 10) (oi := ⟨(some 73), _, _, _, _, _⟩) (v := ?vq2_10) rfl (by decide) (by kernel_rfl) (by kernel_rfl) (by kernel_rfl) (fun _ _ _ h => h) (Or.inl ⟨by rfl, ?yq2_10⟩) hHeld ?_
          case yq2_10 => (intro W0 hSw; go_simp; try with_reducible rfl)
          try simp only [Act.put, List.setIfInBounds_toArray, List.set_cons_zero, List.set_cons_succ]
          refine c_take (i := 11) (oi := ⟨(some 62), _, _, _, _, _⟩) (v := ?vq2_11) rfl (by decide) (by kernel_rfl) (by kernel_rfl) (by kernel_rfl) (fun _ _ _ h => h) (Or.inl ⟨by rfl, ?yq2_11⟩) hHeld ?_
          case yq2_11 => (intro W0 hSw; go_simp; try with_reducible rfl)
          try simp only [Act.put, List.setIfInBounds_toArray, List.set_cons_zero, List.set_cons_succ]
          refine c_take (i := 12) (oi := ⟨(some 74), _, _, _, _, _⟩) (v := ?vq2_12) rfl (by decide) (by kernel_rfl) (by kernel_rfl) (by kernel_rfl) (fun _ _ _ h => h) (Or.inl ⟨by rfl, ?yq2_12⟩) hHeld ?_
          case yq2_12 => (intro W0 hSw; go_simp; try with_reducible rfl)
          try simp only [Act.put, List.setIfInBounds_toArray, List.set_cons_zero, List.set_cons_succ]
          refine c_take (i := 13) (oi := ⟨(some 75), _, _, _, _, _⟩) (v := ?vq2_13) rfl (by decide) (by kernel_rfl) (by kernel_rfl) (by kernel_rfl) (fun _ _ _ h => h) (Or.inl ⟨by rfl, ?yq2_13⟩) hHeld ?_
          case yq2_13 => (intro W0 hSw; go_simp; try with_reducible rfl)
          try simp only [Act.put, List.setIfInBounds_toArray, List.set_cons_zero, List.set_cons_succ]
          refine c_take (i := 14) (oi := ⟨(some 76), _, _, _, _, _⟩) (v := ?vq2_14) rfl (by decide) (by kernel_rfl) (by kernel_rfl) (by kernel_rfl) (fun _ _ _ h => h) (Or.inl ⟨by rfl, ?yq2_14⟩) hHeld ?_
          case yq2_14 => (intro W0 hSw; go_simp; try with_reducible rfl)
          try simp only [Act.put, List.setIfInBounds_toArray, List.set_cons_zero, List.set_cons_succ]
          refine c_call (S' := (fun _ => True)) (o := ⟨none, _, _, _, _, _⟩) (by kernel_rfl) (by kernel_rfl) rfl (fun K hK => ?_)
          clear hHeld
          refine step_set rfl 45 (.tmp 76) (.tmp 74) rfl Tryd.sizeU64s w.heap.size k (by rfl) .u64 (s1 : Int) (by rfl) (u64v R) 68 hg.out (by rw [u64v_len, hlen.out]; exact hkt) Y0 hbt.drew ?_
          intro w4 hg4 hb4
          refine hK.out _ _ (trivial) (fun hHeld => ?_)
          clear hK K
          try simp only [Act.put]
          refine wpAnyH_take (i := 16) (oi := ⟨(some 6), _, _, _, _, _⟩) (v := ?vq2_15) rfl (by kernel_rfl) (by kernel_rfl) (by kernel_rfl) (fun _ _ _ h => h) (Or.inl ⟨by rfl, ?yq2_15⟩) hHeld ?_
          case yq2_15 => (intro W0 hSw; go_simp; try with_reducible rfl)
          try simp only [Act.put, List.setIfInBounds_toArray, List.set_cons_zero, List.set_cons_succ]
          refine wpAnyH_done (by kernel_rfl) ?_ _
          rw [u64v_set] at hg4
          have hT2 := vlt (hN.out s1 o1 e1.out ls1 lo1)
          clear e1 hN
          go_wp2
          go_roundw
          case rel => exact ⟨k + 1, o1, _, by omega, by go_num, rfl, lo1, hg4, hT2, hb4⟩
          case measure => simp [intOf]; omega
        · obtain rfl : k = 4 := by omega
          have HE := vlt (next_list x0 x1 x2 x3 low q c c2 X R h0 h1 h2 hlow HN.out HQ.out (by have h := hL.out; rwa [← HX0.out] at h) hR.out)
          have hRL := Lib.hid hR.out.len
          have hRB := vlt hR.out.bound
          have HUS := Lib.hid (show (u64v R).toArray.size = 4 by simp [u64v_len, hRL.out])
          have HZS := Lib.hid (show (u64v (uptoW 4 [])).toArray.size = 4 from rfl)
          have hz4 : Hid (wr.heap[w.heap.size + 1]? = some (.cells (u64v (uptoW 4 [])).toArray 68 (0, 0))) := (hbt.block _ (by omega) (by intro e; injection e; omega)).trans hgZr.out
          have hb4 : Below w.heap.size w wr := But.below hbwr hbt (by omega) (by omega)
          clear hR hL HM HX0
          go_wp2_with (first
            | (with_reducible refine wpList_load_row rfl 68 (.tmp 2) rfl w.heap.size rfl 68 (u64v R).toArray (0, 0) _ hg.out Tryd.underlying68 rfl (by rw [HUS.out]; kernel_rfl) ?_)
            | (with_reducible refine wpList_store_row rfl 68 (.tmp 4) (.tmp 78) rfl (w.heap.size + 1) (u64v R).toArray rfl rfl 68 _ hz4.out (by rw [HUS.out]; kernel_rfl) (by rw [HUS.out]; exact HZS.out) (all_oneCell_toArray (u64v_one _)) ?_))
          refine bodyPost_ret (v := .agg (u64v R).toArray) (results_cell_row Tryd.results74 _ _ (w.heap.size + 1) 68 _ (0, 0) _ rfl (setRow_heap _ _ _ _ _ _ hz4.out) Tryd.underlying68 rfl (by rw [HUS.out]; kernel_rfl)) rfl ⟨R, rfl, HE, hRL, hRB, below_setRow hb4 (by omega) _⟩
end Go.Proofs.YtehkalbiomagjaaDoor
namespace Go.Proofs.YtehkalbiomagjaaDoor
open Go.RowKit

theorem four_list (X : List Nat) (h : X.length = 4) (hb : ∀ x ∈ X, x < B64) : ∃ a b c d, X = [a, b, c, d] ∧ a < B64 ∧ b < B64 ∧ c < B64 ∧ d < B64 := by
  match X, h with
  | [a, b, c, d], _ => exact ⟨a, b, c, d, rfl, hb _ (by simp), hb _ (by simp), hb _ (by simp), hb _ (by simp)⟩
theorem u64v_size (l : List Nat) {n : Nat} (h : l.length = n) : (u64v l).toArray.size = n := by simp [u64v_len, h]
set_option maxRecDepth 100000 in
set_option maxHeartbeats 1000000 in
theorem lbelow_any (w : World) (hla : LaidO w) (A : List Nat) (hA : A.length = 8) (bA : ∀ x ∈ A, x < B64) :
    Calls Tryd.prog 46 #[.agg (u64v A).toArray] w fun e w' => ∃ X, e = .returned (.agg (u64v X).toArray) ∧ Vlt (nB X = nB A % FL) ∧ Hid (X.length = 4) ∧ Vlt (∀ x ∈ X, x < B64) ∧ Below w.heap.size w w' := by
  have hzn := zero_num
  obtain ⟨W, hW, hgA, hgZ, hbW, hsW⟩ := pair_new w (u64v A).toArray (u64v (uptoW 4 [])).toArray 70 68
  have HW := Lib.hid hW
  have HAL := Lib.hid hA
  have HBA := vlt bA
  have hlaW := hla.below hla.2 hbW
  have hgl := hla.2
  have hs1 : w.heap.size + 1 < W.heap.size := by have := hsW.out; omega
  clear hW hA bA hsW hla
  go_enter Tryd.func46, Tryd.ntmps46
  go_upto_region 1 with fail
  rw [HW.out]
  go_upto_region 2 with fail
  obtain ⟨V, hV, hgT, hbV, hsV⟩ := one_new W (u64v (uptoW 4 [])).toArray 68
  rw [hV]
  obtain ⟨T, hT⟩ : ∃ T, T = W.heap.size := ⟨_, rfl⟩
  rw [← hT] at hgT hs1 hbV ⊢
  have hgA1 : Hid (V.heap[w.heap.size]? = some (.cells (u64v A).toArray 70 (0, 0))) := (hbV.block _ (by omega)).trans hgA.out
  have hgZ1 : Hid (V.heap[w.heap.size + 1]? = some (.cells (u64v (uptoW 4 [])).toArray 68 (0, 0))) := (hbV.block _ (by omega)).trans hgZ.out
  have hbw1 := below_next hbW hbW.size (by rw [hT] at hbV; exact hbV)
  have hlaV := hlaW.below (by omega) hbV
  have hsT : T < V.heap.size := (Array.getElem?_eq_some_iff.1 hgT.out).1
  clear hV hbV hgA hgZ hbW hsV hT HW hlaW
  go_wp2_with fail
  go_loopw [4] (fun s wr => ∃ (k x0 x1 x2 x3 : Nat), k ≤ 8 ∧ s = .int .i64 ((k : Int) - 1) ∧ Hid (wr.heap[T]? = some (.cells (u64v [x0, x1, x2, x3]).toArray 68 (0, 0))) ∧ (x0 < B64 ∧ x1 < B64 ∧ x2 < B64 ∧ x3 < B64) ∧ Vlt (n4 x0 x1 x2 x3 = nB (A.drop k) % FL) ∧ Below T V wr) (fun s _ => ((intOf s) + 1).toNat)
  case atStart => exact ⟨8, 0, 0, 0, 0, by omega, rfl, hgT, by decide, vlt (by rw [List.drop_eq_nil_of_le (by rw [HAL.out]; decide)]; rfl), Below.refl _ _⟩
  case round =>
    clear hgT
    obtain ⟨k, x0, x1, x2, x3, hk, rfl, hg, ⟨l0, l1, l2, l3⟩, hv, hbt⟩ := hrel
    by_cases hkt : 0 < k
    · obtain ⟨j, rfl⟩ : ∃ j, k = j + 1 := ⟨k - 1, by omega⟩
      rw [show ((j + 1 : Nat) : Int) - 1 = (j : Int) by omega]
      have hj8 : (j : Int) < 8 := by omega
      have hgx : Hid (wr.heap[w.heap.size]? = some (.cells (u64v A).toArray 70 (0, 0))) := (hbt.block _ (by omega)).trans hgA1.out
      have c0 := long_at hgx.out j (by rw [HAL.out]; omega)
      have lx := natB_mem HBA.out j
      have hlaR := hlaV.below (by omega) hbt
      have hN : n4 x0 x1 x2 x3 < FL := by rw [hv.out]; exact Nat.mod_lt _ fl_pos
      have HN := vlt hN
      have HV := vlt (show (natAt A j + 18446744073709551616 * n4 x0 x1 x2 x3) % FL = nB (A.drop j) % FL by rw [hv.out, below_step, ← nB_drop A j (by rw [HAL.out]; omega)])
      have HX := vlt (show natAt A j = natAt A j from rfl)
      generalize natAt A j = x at *
      have hsr : T < wr.heap.size := (Array.getElem?_eq_some_iff.1 hg.out).1
      clear hv hN HX
      go_wp2_with fail
      refine c_start (S := (fun W' => W'.heap[T]? = some (.cells (u64v [x0, x1, x2, x3]).toArray 68 (0, 0)) ∧ W'.cell? ⟨w.heap.size, j, none⟩ = some (.int .u64 (x : Int)))) 5 (by kernel_rfl) (⟨hg.out, c0⟩) (fun hHeld => ?_)
      refine c_read (i := 0) (oi := ⟨(some 9), _, _, _, _, _⟩) (v := _) rfl (by decide) (by kernel_rfl) (by kernel_rfl) (by kernel_rfl) (by kernel_rfl) (by kernel_rfl) (fun _ _ _ h => h) (yieldsIf_load_mid (by rfl) _ _ rfl T 0 rfl (u64v [x0, x1, x2, x3]) _ (fun W' hW' => range_row hW'.1) (Tryd.underlying68) (rfl) (by kernel_rfl)) hHeld ?_
      try simp only [Act.put, List.setIfInBounds_toArray, List.set_cons_zero, List.set_cons_succ]
      refine c_take (i := 1) (oi := ⟨(some 10), _, _, _, _, _⟩) (v := ?vq1_0) rfl (by decide) (by kernel_rfl) (by kernel_rfl) (by kernel_rfl) (fun _ _ _ h => h) (Or.inl ⟨by rfl, ?yq1_0⟩) hHeld ?_
      case yq1_0 => (intro W0 hSw; go_simp; try with_reducible rfl)
      try simp only [Act.put, List.setIfInBounds_toArray, List.set_cons_zero, List.set_cons_succ]
      refine c_take (i := 2) (oi := ⟨(some 11), _, _, _, _, _⟩) (v := ?vq1_1) rfl (by decide) (by kernel_rfl) (by kernel_rfl) (by kernel_rfl) (fun _ _ _ h => h) (Or.inl ⟨by rfl, ?yq1_1⟩) hHeld ?_
      case yq1_1 => (intro W0 hSw; go_simp; try with_reducible rfl)
      try simp only [Act.put, List.setIfInBounds_toArray, List.set_cons_zero, List.set_cons_succ]
      refine c_read (i := 3) (oi := ⟨(some 12), _, _, _, _, _⟩) (v := ?vq1_2) rfl (by decide) (by kernel_rfl) (by kernel_rfl) (by kernel_rfl) (by kernel_rfl) (by kernel_rfl) (fun _ _ _ h => h) (Or.inl ⟨by rfl, ?yq1_2⟩) hHeld ?_
      case yq1_2 => (intro W0 hSw; go_simp; try with_reducible rfl)
      try simp only [Act.put, List.setIfInBounds_toArray, List.set_cons_zero, List.set_cons_succ]
      refine c_step (i := 4) (o := ⟨(some 13), _, _, _, _, _⟩) (by kernel_rfl) rfl (fun K hK => ?_)
      go_simp
      refine (lnext_any wr.drew ⟨hlaR.1, hlaR.2⟩ x0 x1 x2 x3 x l0 l1 l2 lx HN.out).mono ?_
      rintro e w3 ⟨R, rfl, e3, HRL, HRB, hb3d⟩
      have hb3 : Below wr.heap.size wr w3 := below_undrew hb3d
      refine hK.out _ _ (⟨(hb3.block _ hsr).trans hHeld.1, (World.cell?_of_block (hb3.block w.heap.size (by omega))).trans hHeld.2⟩) (fun hHeld => ?_)
      clear hK K
      try simp only [Act.put, List.setIfInBounds_toArray, List.set_cons_zero, List.set_cons_succ]
      have hg3 : Hid (w3.heap[T]? = some (.cells (u64v [x0, x1, x2, x3]).toArray 68 (0, 0))) := (hb3.block _ hsr).trans hg.out
      have HRS := Lib.hid (u64v_size R HRL.out)
      have hbt3 := below_next hbt (Nat.le_of_lt hsr) hb3
      refine c_call (S' := (fun _ => True)) (o := ⟨none, _, _, _, _, _⟩) (by kernel_rfl) (by kernel_rfl) rfl (fun K hK => ?_)
      clear hHeld
      refine step_store_row rfl 68 (.tmp 3) (.tmp 13) (by rfl) T (u64v R).toArray (by rfl) (by rfl) 68 _ hg3.out (by rw [HRS.out]; kernel_rfl) (by rw [HRS.out]; kernel_rfl) (all_oneCell_toArray (u64v_one _)) ?_
      refine hK.out _ _ (trivial) (fun hHeld => ?_)
      clear hK K
      try simp only [Act.put]
      refine wpAnyH_done (by kernel_rfl) ?_ _
      have hset : Hid ((w3.setRow T (u64v R).toArray).heap[T]? = some (.cells (u64v R).toArray 68 (0, 0))) := setRow_heap _ _ _ _ _ _ hg3.out
      have hb5 : Below T V (w3.setRow T (u64v R).toArray) := below_setRow hbt3 (Nat.le_refl _) _
      obtain ⟨a, b, c, d, hR, la, lb, lc, ld⟩ := four_list R HRL.out HRB.out
      have HV2 := vlt (show n4 a b c d = nB (A.drop j) % FL by rw [← nB_four, ← hR, e3.out, HV.out])
      generalize w3.setRow T (u64v R).toArray = w5 at *
      rw [hR] at hset
      clear e3 hg hg3 hbt3 HV hR
      go_wp2
      go_roundw
      case rel => exact ⟨j, a, b, c, d, by omega, by go_num, hset, ⟨la, lb, lc, ld⟩, HV2, hb5⟩
      case measure => simp [intOf]
    · obtain rfl : k = 0 := by omega
      have HV2 := vlt (show nB [x0, x1, x2, x3] = nB A % FL by rw [nB_four, hv.out, List.drop_zero])
      have hBD := vlt (show ∀ x ∈ [x0, x1, x2, x3], x < B64 by
        intro x hx
        simp only [List.mem_cons, List.not_mem_nil, or_false] at hx
        rcases hx with rfl | rfl | rfl | rfl <;> assumption)
      have hz4 : Hid (wr.heap[w.heap.size + 1]? = some (.cells (u64v (uptoW 4 [])).toArray 68 (0, 0))) := (hbt.block _ (by omega)).trans hgZ1.out
      have hb4 : Below w.heap.size w wr := ⟨hbt.os.trans hbw1.os, hbt.tape.trans hbw1.tape, hbt.output.trans hbw1.output, Nat.le_trans hbw1.size hbt.size, fun k hk => (hbt.block k (by omega)).trans (hbw1.block k hk)⟩
      clear hv
      go_wp2_with (first
        | (with_reducible refine wpList_load_row rfl 68 (.tmp 3) rfl T rfl 68 (u64v [x0, x1, x2, x3]).toArray (0, 0) _ hg.out Tryd.underlying68 rfl (by kernel_rfl) ?_)
        | (with_reducible refine wpList_store_row rfl 68 (.tmp 2) (.tmp 14) rfl (w.heap.size + 1) (u64v [x0, x1, x2, x3]).toArray rfl rfl 68 _ hz4.out (by kernel_rfl) (by kernel_rfl) (all_oneCell_toArray (u64v_one _)) ?_))
      refine bodyPost_ret (v := .agg (u64v [x0, x1, x2, x3]).toArray) (results_cell_row Tryd.results46 _ _ (w.heap.size + 1) 68 _ (0, 0) _ rfl (setRow_heap _ _ _ _ _ _ hz4.out) Tryd.underlying68 rfl (by kernel_rfl)) rfl ⟨_, rfl, HV2, rfl, hBD, below_setRow hb4 (by omega) _⟩
end Go.Proofs.YtehkalbiomagjaaDoor
namespace Go.Proofs.YtehkalbiomagjaaDoor
open Go.RowKit

theorem le_set (v k : Nat) (h : k < 32) : (uptoB 32 (le v k)).set k (UInt8.ofNat (v / 2 ^ (8 * k))) = uptoB 32 (le v (k + 1)) := by
  obtain ⟨m, hm⟩ : ∃ m, 32 - (le v k).length = m + 1 := ⟨31 - k, by rw [le_len]; omega⟩
  have e : uptoB 32 (le v (k + 1)) = le v k ++ (UInt8.ofNat (v / 2 ^ (8 * k)) :: List.replicate m 0) := by
    rw [uptoB, le, List.append_assoc, List.length_append, List.length_singleton]
    congr 2
    rw [show 32 - ((le v k).length + 1) = m by omega]; rfl
  have e2 : (uptoB 32 (le v k)).set (le v k).length (UInt8.ofNat (v / 2 ^ (8 * k))) = le v k ++ (UInt8.ofNat (v / 2 ^ (8 * k)) :: List.replicate m 0) := by
    rw [uptoB, List.set_append_right _ _ (Nat.le_refl _), Nat.sub_self, hm, List.replicate_succ, List.set_cons_zero]
  rw [le_len] at e2
  rw [e2, e]
set_option maxRecDepth 100000 in
set_option maxHeartbeats 1000000 in
theorem ltold_any (w : World) (X : List Nat) (hX : X.length = 4) (bX : ∀ x ∈ X, x < B64) :
    Calls Tryd.prog 47 #[.agg (u64v X).toArray] w fun e w' => ∃ l, e = .returned (.agg (bv l).toArray) ∧ Vlt (l = le (nB X) 32) ∧ Hid (l.length = 32) ∧ Below w.heap.size w w' := by
  have hzw : ∀ w : World, (zeroValue 23).run Tryd.prog w = .ok (.agg (bv (uptoB 32 [])).toArray) w := fun w => by kernel_rfl
  obtain ⟨W, hW, hgX, hgZ, hbW, hsW⟩ := pair_new w (u64v X).toArray (bv (uptoB 32 [])).toArray 68 23
  have HW := Lib.hid hW
  have HXL := Lib.hid hX
  have HBX := vlt bX
  have hs1 : w.heap.size + 1 < W.heap.size := by have := hsW.out; omega
  clear hW hX bX hsW
  go_enter Tryd.func47, Tryd.ntmps47
  go_upto_region 1 with fail
  rw [HW.out]
  go_upto_region 2 with fail
  obtain ⟨V, hV, hgT, hbV, hsV⟩ := one_new W (bv (uptoB 32 [])).toArray 23
  rw [hV]
  obtain ⟨T, hT⟩ : ∃ T, T = W.heap.size := ⟨_, rfl⟩
  rw [← hT] at hgT hs1 ⊢
  have hgX1 : Hid (V.heap[w.heap.size]? = some (.cells (u64v X).toArray 68 (0, 0))) := (hbV.block _ (by omega)).trans hgX.out
  have hgZ1 : Hid (V.heap[w.heap.size + 1]? = some (.cells (bv (uptoB 32 [])).toArray 23 (0, 0))) := (hbV.block _ (by omega)).trans hgZ.out
  have hbw1 := below_next hbW hbW.size hbV
  have hsT : w.heap.size + 1 < V.heap.size := (Array.getElem?_eq_some_iff.1 hgZ1.out).1
  clear hV hbV hgX hgZ hbW hsV hT HW
  go_wp2_with fail
  go_loopw [5] (fun i wr => ∃ k : Nat, k ≤ 32 ∧ i = .int .i64 (k : Int) ∧ Hid (wr.heap[T]? = some (.cells (bv (uptoB 32 (le (nB X) k))).toArray 23 (0, 0))) ∧ But T V wr) (fun i _ => 32 - (intOf i).toNat)
  case atStart => exact ⟨0, by omega, rfl, hgT, But.refl _ _⟩
  case round =>
    clear hgT
    obtain ⟨k, hk, rfl, hg, hbt⟩ := hrel
    by_cases hlt : k < 32
    · have hgx : Hid (wr.heap[w.heap.size]? = some (.cells (u64v X).toArray 68 (0, 0))) := (hbt.block _ (by omega) (by intro e; injection e; omega)).trans hgX1.out
      have c0 := long_at hgx.out (k / 8) (by rw [HXL.out]; omega)
      have hbp := vlt (byte_piece HBX.out k)
      have lx := natB_mem HBX.out (k / 8)
      have et : Int.tdiv (k : Int) 8 = ((k / 8 : Nat) : Int) := (Int.ofNat_tdiv k 8).symm
      have em : Int.tmod (k : Int) 8 = ((k % 8 : Nat) : Int) := (Int.ofNat_tmod k 8).symm
      have f0 : wr.frozen? ⟨T, k, none⟩ = false := frozen_of_row _ _ _ _ _ hg.out
      obtain ⟨u0, hu0⟩ : ∃ u, wr.cell? ⟨T, k, none⟩ = some u := by
        rw [cell_of_row _ _ _ _ _ _ hg.out]
        exact ⟨_, List.getElem?_toArray .. ▸ List.getElem?_eq_getElem (by rw [bv_len, uptoB_len _ _ (by rw [le_len]; exact hk)]; exact hlt)⟩
      generalize natAt X (k / 8) = x at *
      have hset := world_set_cell hg.out k (.int .u8 ((x : Int) / 2 ^ (k % 8 * 8) % 256))
      rw [byte_of x (k % 8 * 8), bv_set, hbp.out, le_set _ _ hlt, ← hbp.out, ← byte_of x (k % 8 * 8)] at hset
      have hb2 := hbt.set (i := k) (.int .u8 ((x : Int) / 2 ^ (k % 8 * 8) % 256))
      clear hbp
      go_wp2_with fail
      go_roundw
      case rel => exact ⟨k + 1, by omega, by go_num, hset, hb2⟩
      case measure => simp [intOf]; omega
    · have HK := Lib.hid (show k = 32 by omega)
      obtain ⟨l, hl⟩ : ∃ l, l = le (nB X) k := ⟨_, rfl⟩
      rw [← hl] at hg
      have HE := vlt (show l = le (nB X) 32 by rw [hl, HK.out])
      have HL := Lib.hid (show l.length = 32 by rw [hl, le_len]; exact HK.out)
      rw [uptoB_all _ _ HL.out] at hg
      have HLS := Lib.hid (bv_size l HL.out)
      have HZ := Lib.hid (show (bv (uptoB 32 [])).toArray.size = 32 from rfl)
      have hz4 : Hid (wr.heap[w.heap.size + 1]? = some (.cells (bv (uptoB 32 [])).toArray 23 (0, 0))) := (hbt.block _ (by omega) (by intro e; injection e; omega)).trans hgZ1.out
      have hb4 : Below w.heap.size w wr := But.below hbw1 hbt (by omega) (by omega)
      clear hl
      go_wp2_with (first
        | (with_reducible refine wpList_load_row rfl 23 (.tmp 3) rfl T rfl 23 (bv l).toArray (0, 0) _ hg.out Tryd.underlying23 rfl (by rw [HLS.out]; kernel_rfl) ?_)
        | (with_reducible refine wpList_store_row rfl 23 (.tmp 2) (.tmp 20) rfl (w.heap.size + 1) (bv l).toArray rfl rfl 23 _ hz4.out (by rw [HLS.out]; kernel_rfl) (by rw [HLS.out]; exact HZ.out) (all_oneCell_toArray (bv_one _)) ?_))
      refine bodyPost_ret (v := .agg (bv l).toArray) (results_cell_row Tryd.results47 _ _ (w.heap.size + 1) 23 _ (0, 0) _ rfl (setRow_heap _ _ _ _ _ _ hz4.out) Tryd.underlying23 rfl (by rw [HLS.out]; kernel_rfl)) rfl ⟨l, rfl, HE, HL, below_setRow hb4 (by omega) _⟩
end Go.Proofs.YtehkalbiomagjaaDoor
namespace Go.Proofs.YtehkalbiomagjaaDoor
open Go.RowKit

theorem bv_size64 (l : List UInt8) (h : l.length = 64) : (bv l).toArray.size = 64 := by simp [bv_len, h]
theorem zero_w64 (w : World) : (zeroValue 74).run Tryd.prog w = .ok (.agg (bv (List.replicate 64 0)).toArray) w := by kernel_rfl
theorem ln_zeros (n : Nat) : ln (List.replicate n 0) = 0 := by
  induction n with
  | zero => rfl
  | succ n ih => rw [List.replicate_succ, ln, ih]; rfl
theorem ln_join : ∀ (l m : List UInt8), ln (l ++ m) = ln l + 256 ^ l.length * ln m
  | [], m => by simp [ln]
  | a :: l, m => by
    rw [List.cons_append, ln, ln, ln_join l m, List.length_cons, Nat.pow_succ]
    grind
theorem nB_word (b : List UInt8) (h : b.length = 32) : nB (pcs b 4) = ln b := by rw [nB_pcs b 4 (by omega), List.take_of_length_le (by omega)]
theorem nB_long (b : List UInt8) (h : b.length = 64) : nB (pcs b 8) = ln b := by rw [nB_pcs b 8 (by omega), List.take_of_length_le (by omega)]
theorem le_mod (N : Nat) : le (N % FL) 32 = wl N := rfl
def oneN : List Nat := [1, 0, 0, 0]
def nilN : List Nat := [0, 0, 0, 0]
def lessN : List Nat := [6346243789798364140, 1503914060200516822, 0, 1152921504606846976]
theorem nB_oneN : nB oneN = 1 := by decide
theorem nB_nilN : nB nilN = 0 := by decide
theorem nB_lessN : nB lessN = FL - 1 := by decide +kernel
theorem built_oneN : Tryd.prog.built 68 [(0, .int .u64 1)] = some (u64v oneN).toArray := by kernel_rfl
theorem built_nilN : Tryd.prog.built 68 [] = some (u64v nilN).toArray := by kernel_rfl
theorem built_lessN : Tryd.prog.built 68 [(0, .int .u64 6346243789798364140), (1, .int .u64 1503914060200516822), (2, .int .u64 0), (3, .int .u64 1152921504606846976)] = some (u64v lessN).toArray := by kernel_rfl

set_option maxRecDepth 100000 in
set_option maxHeartbeats 1000000 in
theorem llong_any (w : World) (hla : LaidO w) (b : List UInt8) (hb : b.length = 64) :
    Calls Tryd.prog 48 #[.agg (bv b).toArray] w fun e w' => ∃ l, e = .returned (.agg (bv l).toArray) ∧ Vlt (l = wl (ln b)) ∧ Hid (l.length = 32) ∧ Below w.heap.size w w' := by
  have hzw := zero_word
  obtain ⟨W, hW, hgA, hgZ, hbW, hsW⟩ := pair_new w (bv b).toArray (bv z32).toArray 74 23
  have HW := Lib.hid hW
  have HA := Lib.hid hb
  have HS := Lib.hid (bv_size64 b hb)
  have hlaW := hla.below hla.2 hbW
  have hs : w.heap.size + 1 < W.heap.size := by have := hsW.out; omega
  clear hW hb hsW hla
  go_enter Tryd.func48, Tryd.ntmps48
  go_upto_region 1 with fail
  rw [HW.out]
  go_wp2_with (with_reducible refine wpList_load_row rfl 74 (.tmp 1) rfl w.heap.size rfl 74 (bv b).toArray (0, 0) _ hgA.out Tryd.underlying74 rfl (by rw [HS.out]; kernel_rfl) ?_)
  refine (longOf_any W b HA.out).mono ?_
  rintro e w1 ⟨X, rfl, e1, HXL, hb1⟩
  have hbw1 := below_next hbW hbW.size hb1
  have hz1 : Hid (w1.heap[w.heap.size + 1]? = some (.cells (bv z32).toArray 23 (0, 0))) := (hb1.block _ (by omega)).trans hgZ.out
  have hs1 : w.heap.size + 1 < w1.heap.size := (Array.getElem?_eq_some_iff.1 hz1.out).1
  have hla1 := hlaW.below hlaW.2 hb1
  have hbx : ∀ x ∈ X, x < B64 := by rw [e1.out]; exact pcs_lt b 8 (by rw [HA.out]; decide)
  go_wp2_with fail
  refine (lbelow_any w1 hla1 X HXL.out hbx).mono ?_
  rintro e w2 ⟨Y, rfl, e2, HYL, HYB, hb2⟩
  have hbw2 := below_next hbw1 hbw1.size hb2
  have hz2 : Hid (w2.heap[w.heap.size + 1]? = some (.cells (bv z32).toArray 23 (0, 0))) := (hb2.block _ (by omega)).trans hz1.out
  have hs2 : w.heap.size + 1 < w2.heap.size := (Array.getElem?_eq_some_iff.1 hz2.out).1
  go_wp2_with fail
  refine (ltold_any w2 Y HYL.out HYB.out).mono ?_
  rintro e w3 ⟨l, rfl, e3, HL, hb3⟩
  have HE := vlt (show l = wl (ln b) by rw [e3.out, e2.out, e1.out, nB_long b HA.out, le_mod])
  clear e1 e2 e3 hbx
  have hbw3 := below_next hbw2 hbw2.size hb3
  have hz3 : Hid (w3.heap[w.heap.size + 1]? = some (.cells (bv z32).toArray 23 (0, 0))) := (hb3.block _ (by omega)).trans hz2.out
  have HLS := Lib.hid (bv_size l HL.out)
  go_wp2_with (with_reducible refine wpList_store_row rfl 23 (.tmp 2) (.tmp 6) rfl (w.heap.size + 1) (bv l).toArray rfl rfl 23 _ hz3.out (by rw [HLS.out]; kernel_rfl) (by rw [HLS.out]; kernel_rfl) (all_oneCell_toArray (bv_one _)) ?_)
  refine bodyPost_ret (v := .agg (bv l).toArray) (results_cell_row Tryd.results48 _ _ (w.heap.size + 1) 23 _ (0, 0) _ rfl (setRow_heap _ _ _ _ _ _ hz3.out) Tryd.underlying23 rfl (by rw [HLS.out]; kernel_rfl)) rfl ⟨l, rfl, HE, HL, below_setRow hbw3 (by omega) _⟩

set_option maxRecDepth 100000 in
set_option maxHeartbeats 1000000 in
theorem lnorm_any (w : World) (hla : LaidO w) (a : List UInt8) (ha : a.length = 32) :
    Calls Tryd.prog 21 #[.agg (bv a).toArray] w fun e w' => ∃ l, e = .returned (.agg (bv l).toArray) ∧ Vlt (l = wl (ln a)) ∧ Hid (l.length = 32) ∧ Below w.heap.size w w' := by
  have hzw := zero_word
  have hz64 := zero_w64
  obtain ⟨W, hW, hgA, hgZ, hbW, hsW⟩ := pair_new w (bv a).toArray (bv z32).toArray 23 23
  have HW := Lib.hid hW
  have HA := Lib.hid ha
  have hlaW := hla.below hla.2 hbW
  have hs : w.heap.size + 1 < W.heap.size := by have := hsW.out; omega
  clear hW ha hsW hla
  obtain ⟨z, hz⟩ : ∃ z : List UInt8, z = List.replicate 64 0 := ⟨_, rfl⟩
  have HZ := vlt hz
  have HZL := Lib.hid (show z.length = 64 by rw [hz]; rfl)
  rw [← hz] at hz64
  clear hz
  go_enter Tryd.func21, Tryd.ntmps21
  go_upto_region 1 with fail
  rw [HW.out]
  go_upto_region 2 with fail
  obtain ⟨V, hV, hgT, hbV, hsV⟩ := one_new W (bv z).toArray 74
  rw [hV]
  obtain ⟨T, hT⟩ : ∃ T, T = W.heap.size := ⟨_, rfl⟩
  rw [← hT] at hgT hs hbV ⊢
  have hgA1 : Hid (V.heap[w.heap.size]? = some (.cells (bv a).toArray 23 (0, 0))) := (hbV.block _ (by omega)).trans hgA.out
  have hgZ1 : Hid (V.heap[w.heap.size + 1]? = some (.cells (bv z32).toArray 23 (0, 0))) := (hbV.block _ (by omega)).trans hgZ.out
  have hbw1 := below_next hbW hbW.size (by rw [hT] at hbV; exact hbV)
  have hlaV := hlaW.below (by have := hlaW.2; omega) hbV
  have hsZ1 : w.heap.size + 1 < V.heap.size := (Array.getElem?_eq_some_iff.1 hgZ1.out).1
  have hTg : 1 < T := by rw [hT]; exact hlaW.2
  clear hV hbV hgA hgZ hbW hsV hT HW hlaW
  have hc7 := cut_all Tryd.underlying74 Tryd.sizeByte T 0 (by decide)
  have hc5 := cut_all Tryd.underlying23 Tryd.sizeByte w.heap.size 0 (by decide)
  go_region_law ((refine step_copy_vals rfl (.tmp 4) (.tmp 5) 48 rfl 5 Tryd.underlying48 Tryd.sizeByte T 0 64 64 32 32 w.heap.size 0 (by rfl) (by rfl) (bv z) 74 hgT.out (bv a) (by rw [bv_len, HA.out]; rfl) (row_cells hgA1.out) (bv_one _) (by rw [bv_len, HZL.out]; decide) V (But.refl T V).drew ?_; intro w2 hg2' hb2))
  rw [splice_bv] at hg2'
  have HU := vlt (show ln (z.take 0 ++ (a ++ z.drop (0 + a.length))) = ln a by rw [HZ.out, List.take_zero, List.nil_append, List.drop_replicate, ln_join, ln_zeros, Nat.mul_zero, Nat.add_zero])
  have HUL := Lib.hid (show (z.take 0 ++ (a ++ z.drop (0 + a.length))).length = 64 by simp [HA.out, HZL.out])
  generalize z.take 0 ++ (a ++ z.drop (0 + a.length)) = u at *
  have HUS := Lib.hid (bv_size64 u HUL.out)
  have hgZ2 : Hid (w2.heap[w.heap.size + 1]? = some (.cells (bv z32).toArray 23 (0, 0))) := (hb2.block _ (by omega) (by intro e; injection e; omega)).trans hgZ1.out
  have hbw2 : Below w.heap.size w w2 := But.below hbw1 hb2 (by omega) (by omega)
  have hla2 := hlaV.but hTg hb2
  have hs2 : w.heap.size + 1 < w2.heap.size := (Array.getElem?_eq_some_iff.1 hgZ2.out).1
  clear hc7 hc5 hgT hlaV hb2 hgZ1 hgA1
  go_wp2_with (with_reducible refine wpList_load_row rfl 74 (.tmp 3) rfl T rfl 74 (bv u).toArray (0, 0) _ hg2'.out Tryd.underlying74 rfl (by rw [HUS.out]; kernel_rfl) ?_)
  refine (llong_any w2 hla2 u HUL.out).mono ?_
  rintro e w3 ⟨l, rfl, e3, HL, hb3⟩
  have HE := vlt (show l = wl (ln a) by rw [e3.out, HU.out])
  clear e3
  have hbw3 := below_next hbw2 hbw2.size hb3
  have hz3 : Hid (w3.heap[w.heap.size + 1]? = some (.cells (bv z32).toArray 23 (0, 0))) := (hb3.block _ (by omega)).trans hgZ2.out
  have HLS := Lib.hid (bv_size l HL.out)
  go_wp2_with (with_reducible refine wpList_store_row rfl 23 (.tmp 2) (.tmp 8) rfl (w.heap.size + 1) (bv l).toArray rfl rfl 23 _ hz3.out (by rw [HLS.out]; kernel_rfl) (by rw [HLS.out]; kernel_rfl) (all_oneCell_toArray (bv_one _)) ?_)
  refine bodyPost_ret (v := .agg (bv l).toArray) (results_cell_row Tryd.results21 _ _ (w.heap.size + 1) 23 _ (0, 0) _ rfl (setRow_heap _ _ _ _ _ _ hz3.out) Tryd.underlying23 rfl (by rw [HLS.out]; kernel_rfl)) rfl ⟨l, rfl, HE, HL, below_setRow hbw3 (by omega) _⟩

set_option maxRecDepth 100000 in
set_option maxHeartbeats 1000000 in
theorem ladd_any (w : World) (hla : LaidO w) (a b : List UInt8) (ha : a.length = 32) (hb : b.length = 32) :
    Calls Tryd.prog 20 #[.agg (bv a).toArray, .agg (bv b).toArray] w fun e w' => ∃ l, e = .returned (.agg (bv l).toArray) ∧ Vlt (l = wl (ln a + ln b)) ∧ Hid (l.length = 32) ∧ Below w.heap.size w w' := by
  have hzw := zero_word
  have hzn := zero_num
  obtain ⟨W, hW, hgA, hgB, hgZ, hbW, hsW⟩ := three_new w (bv a).toArray (bv b).toArray (bv z32).toArray 23 23 23
  have HW := Lib.hid hW
  have HA := Lib.hid ha
  have HB := Lib.hid hb
  have HAS := Lib.hid (show (bv a).length = 32 by rw [bv_len, ha])
  have HBS := Lib.hid (show (bv b).length = 32 by rw [bv_len, hb])
  have hlaW := hla.below hla.2 hbW
  have hs : w.heap.size + 2 < W.heap.size := by have := hsW.out; omega
  clear hW ha hb hsW hla
  go_enter Tryd.func20, Tryd.ntmps20
  go_upto_region 1 with fail
  rw [HW.out]
  refine wp_region_held_drew (S := (fun W' => W'.heap[w.heap.size]? = some (.cells (bv a).toArray 23 (0, 0)) ∧ W'.heap[w.heap.size + 1]? = some (.cells (bv b).toArray 23 (0, 0)))) (by kernel_rfl) (⟨hgA.out, hgB.out⟩) (fun hHeld => ?_)
  refine wpAnyH_take (i := 0) (oi := ⟨(some 5), _, _, _, _, _⟩) (v := _) rfl (by kernel_rfl) (by kernel_rfl) (by kernel_rfl) (fun _ _ _ h => h) (yieldsIf_load_mid (by rfl) _ _ rfl w.heap.size 0 rfl (bv a) _ (fun W' hW' => range_row hW'.1) (Tryd.underlying23) (rfl) (by rw [HAS.out]; kernel_rfl)) hHeld ?_
  try simp only [Act.put, List.setIfInBounds_toArray, List.set_cons_zero, List.set_cons_succ]
  refine wpAnyH_take (i := 2) (oi := ⟨(some 7), _, _, _, _, _⟩) (v := _) rfl (by kernel_rfl) (by kernel_rfl) (by kernel_rfl) (fun _ _ _ h => h) (yields_build (by rfl) _ _ rfl [(0, .int .u64 1)] (by rfl) _ (built_oneN)) hHeld ?_
  try simp only [Act.put, List.setIfInBounds_toArray, List.set_cons_zero, List.set_cons_succ]
  refine wpAnyH_take (i := 3) (oi := ⟨(some 8), _, _, _, _, _⟩) (v := _) rfl (by kernel_rfl) (by kernel_rfl) (by kernel_rfl) (fun _ _ _ h => h) (yieldsIf_load_mid (by rfl) _ _ rfl (w.heap.size + 1) 0 rfl (bv b) _ (fun W' hW' => range_row hW'.2) (Tryd.underlying23) (rfl) (by rw [HBS.out]; kernel_rfl)) hHeld ?_
  try simp only [Act.put, List.setIfInBounds_toArray, List.set_cons_zero, List.set_cons_succ]
  refine wpAnyH_ready (rs := [1]) (by kernel_rfl) (by simp) ?_
  refine AllReadyH.cons (i := 1) (o := ⟨(some 6), _, _, _, _, _⟩) rfl (fun K hK => ?_) AllReadyH.nil
  go_simp
  refine (lnumberOf_any _ a HA.out).mono ?_
  rintro e w1 ⟨A, rfl, eA, HAL, hb1d⟩
  have hb1 : Below W.heap.size W w1 := below_undrew hb1d
  refine hK.out _ _ (⟨(hb1.block _ (by omega)).trans hHeld.1, (hb1.block _ (by omega)).trans hHeld.2⟩) (fun hHeld => ?_)
  clear hK K
  try simp only [Act.put, List.setIfInBounds_toArray, List.set_cons_zero, List.set_cons_succ]
  have hbw1 := below_next hbW hbW.size hb1
  have hz1 : Hid (w1.heap[w.heap.size + 2]? = some (.cells (bv z32).toArray 23 (0, 0))) := (hb1.block _ (by omega)).trans hgZ.out
  have hs1 : w.heap.size + 2 < w1.heap.size := (Array.getElem?_eq_some_iff.1 hz1.out).1
  have hla1 := hlaW.below hlaW.2 hb1
  have HAB := vlt (show ∀ x ∈ A, x < B64 by rw [eA.out]; exact pcs_lt a 4 (by rw [HA.out]; decide))
  refine wpAnyH_ready (rs := [4]) (by kernel_rfl) (by simp) ?_
  refine AllReadyH.cons (i := 4) (o := ⟨(some 9), _, _, _, _, _⟩) rfl (fun K hK => ?_) AllReadyH.nil
  go_simp
  refine (lnumberOf_any w1 b HB.out).mono ?_
  rintro e w2 ⟨B, rfl, eB, HBL, hb2⟩
  refine hK.out _ _ (⟨(hb2.block _ (by omega)).trans hHeld.1, (hb2.block _ (by omega)).trans hHeld.2⟩) (fun hHeld => ?_)
  clear hK K
  try simp only [Act.put, List.setIfInBounds_toArray, List.set_cons_zero, List.set_cons_succ]
  have hbw2 := below_next hbw1 hbw1.size hb2
  have hz2 : Hid (w2.heap[w.heap.size + 2]? = some (.cells (bv z32).toArray 23 (0, 0))) := (hb2.block _ (by omega)).trans hz1.out
  have hs2 : w.heap.size + 2 < w2.heap.size := (Array.getElem?_eq_some_iff.1 hz2.out).1
  have hla2 := hla1.below hla1.2 hb2
  have HBB := vlt (show ∀ x ∈ B, x < B64 by rw [eB.out]; exact pcs_lt b 4 (by rw [HB.out]; decide))
  refine wpAnyH_ready (rs := [5]) (by kernel_rfl) (by simp) ?_
  refine AllReadyH.cons (i := 5) (o := ⟨(some 10), _, _, _, _, _⟩) rfl (fun K hK => ?_) AllReadyH.nil
  go_simp
  refine (ltimes_any w2 A oneN B HAL.out rfl HBL.out HAB.out (by decide) HBB.out).mono ?_
  rintro e w3 ⟨U, rfl, e3, HUL, HUB, hb3⟩
  refine hK.out _ _ (⟨(hb3.block _ (by omega)).trans hHeld.1, (hb3.block _ (by omega)).trans hHeld.2⟩) (fun hHeld => ?_)
  clear hK K
  try simp only [Act.put, List.setIfInBounds_toArray, List.set_cons_zero, List.set_cons_succ]
  have hbw3 := below_next hbw2 hbw2.size hb3
  have hz3 : Hid (w3.heap[w.heap.size + 2]? = some (.cells (bv z32).toArray 23 (0, 0))) := (hb3.block _ (by omega)).trans hz2.out
  have hs3 : w.heap.size + 2 < w3.heap.size := (Array.getElem?_eq_some_iff.1 hz3.out).1
  have hla3 := hla2.below hla2.2 hb3
  refine wpAnyH_ready (rs := [6]) (by kernel_rfl) (by simp) ?_
  refine AllReadyH.cons (i := 6) (o := ⟨(some 11), _, _, _, _, _⟩) rfl (fun K hK => ?_) AllReadyH.nil
  go_simp
  refine (lbelow_any w3 hla3 U HUL.out HUB.out).mono ?_
  rintro e w4 ⟨Y, rfl, e4, HYL, HYB, hb4⟩
  refine hK.out _ _ (⟨(hb4.block _ (by omega)).trans hHeld.1, (hb4.block _ (by omega)).trans hHeld.2⟩) (fun hHeld => ?_)
  clear hK K
  try simp only [Act.put, List.setIfInBounds_toArray, List.set_cons_zero, List.set_cons_succ]
  have hbw4 := below_next hbw3 hbw3.size hb4
  have hz4 : Hid (w4.heap[w.heap.size + 2]? = some (.cells (bv z32).toArray 23 (0, 0))) := (hb4.block _ (by omega)).trans hz3.out
  have hs4 : w.heap.size + 2 < w4.heap.size := (Array.getElem?_eq_some_iff.1 hz4.out).1
  refine wpAnyH_ready (rs := [7]) (by kernel_rfl) (by simp) ?_
  refine AllReadyH.cons (i := 7) (o := ⟨(some 12), _, _, _, _, _⟩) rfl (fun K hK => ?_) AllReadyH.nil
  go_simp
  refine (ltold_any w4 Y HYL.out HYB.out).mono ?_
  rintro e w5 ⟨l, rfl, e5, HL, hb5⟩
  refine hK.out _ _ (⟨(hb5.block _ (by omega)).trans hHeld.1, (hb5.block _ (by omega)).trans hHeld.2⟩) (fun hHeld => ?_)
  clear hK K
  try simp only [Act.put, List.setIfInBounds_toArray, List.set_cons_zero, List.set_cons_succ]
  have hbw5 := below_next hbw4 hbw4.size hb5
  have hz5 : Hid (w5.heap[w.heap.size + 1 + 1]? = some (.cells (bv z32).toArray 23 (0, 0))) := (hb5.block _ (by omega)).trans hz4.out
  have hs5 : w.heap.size + 2 < w5.heap.size := (Array.getElem?_eq_some_iff.1 hz5.out).1
  have HE := vlt (show l = wl (ln a + ln b) by rw [e5.out, e4.out, e3.out, eA.out, eB.out, nB_word a HA.out, nB_word b HB.out, nB_oneN, Nat.mul_one, Nat.add_comm, le_mod])
  clear e3 e4 e5 eA eB
  have HLS := Lib.hid (bv_size l HL.out)
  refine wpAnyH_ready (rs := [8]) (by kernel_rfl) (by simp) ?_
  refine AllReadyH.cons (i := 8) (o := ⟨none, _, _, _, _, _⟩) rfl (fun K hK => ?_) AllReadyH.nil
  refine step_store_row rfl 23 (.tmp 4) (.tmp 12) rfl (w.heap.size + 1 + 1) (bv l).toArray rfl rfl 23 _ hz5.out (by rw [HLS.out]; kernel_rfl) (by rw [HLS.out]; kernel_rfl) (all_oneCell_toArray (bv_one _)) ?_
  refine hK.out _ _ (⟨(setRow_other _ _ _ _ (by omega)).trans hHeld.1, (setRow_other _ _ _ _ (by omega)).trans hHeld.2⟩) (fun hHeld => ?_)
  clear hK K
  try simp only [Act.put]
  refine wpAnyH_done (by kernel_rfl) ?_ _
  go_wp2_with fail
  refine bodyPost_ret (v := .agg (bv l).toArray) (results_cell_row Tryd.results20 _ _ (w.heap.size + 1 + 1) 23 _ (0, 0) _ rfl (setRow_heap _ _ _ _ _ _ hz5.out) Tryd.underlying23 rfl (by rw [HLS.out]; kernel_rfl)) rfl ⟨l, rfl, HE, HL, below_setRow hbw5 (by omega) _⟩

set_option maxRecDepth 100000 in
set_option maxHeartbeats 1000000 in
theorem lmul_any (w : World) (hla : LaidO w) (a b : List UInt8) (ha : a.length = 32) (hb : b.length = 32) :
    Calls Tryd.prog 22 #[.agg (bv a).toArray, .agg (bv b).toArray] w fun e w' => ∃ l, e = .returned (.agg (bv l).toArray) ∧ Vlt (l = wl (ln a * ln b)) ∧ Hid (l.length = 32) ∧ Below w.heap.size w w' := by
  have hzw := zero_word
  have hzn := zero_num
  obtain ⟨W, hW, hgA, hgB, hgZ, hbW, hsW⟩ := three_new w (bv a).toArray (bv b).toArray (bv z32).toArray 23 23 23
  have HW := Lib.hid hW
  have HA := Lib.hid ha
  have HB := Lib.hid hb
  have HAS := Lib.hid (show (bv a).length = 32 by rw [bv_len, ha])
  have HBS := Lib.hid (show (bv b).length = 32 by rw [bv_len, hb])
  have hlaW := hla.below hla.2 hbW
  have hs : w.heap.size + 2 < W.heap.size := by have := hsW.out; omega
  clear hW ha hb hsW hla
  go_enter Tryd.func22, Tryd.ntmps22
  go_upto_region 1 with fail
  rw [HW.out]
  refine wp_region_held_drew (S := (fun W' => W'.heap[w.heap.size]? = some (.cells (bv a).toArray 23 (0, 0)) ∧ W'.heap[w.heap.size + 1]? = some (.cells (bv b).toArray 23 (0, 0)))) (by kernel_rfl) (⟨hgA.out, hgB.out⟩) (fun hHeld => ?_)
  refine wpAnyH_take (i := 0) (oi := ⟨(some 5), _, _, _, _, _⟩) (v := _) rfl (by kernel_rfl) (by kernel_rfl) (by kernel_rfl) (fun _ _ _ h => h) (yieldsIf_load_mid (by rfl) _ _ rfl w.heap.size 0 rfl (bv a) _ (fun W' hW' => range_row hW'.1) (Tryd.underlying23) (rfl) (by rw [HAS.out]; kernel_rfl)) hHeld ?_
  try simp only [Act.put, List.setIfInBounds_toArray, List.set_cons_zero, List.set_cons_succ]
  refine wpAnyH_take (i := 2) (oi := ⟨(some 7), _, _, _, _, _⟩) (v := _) rfl (by kernel_rfl) (by kernel_rfl) (by kernel_rfl) (fun _ _ _ h => h) (yieldsIf_load_mid (by rfl) _ _ rfl (w.heap.size + 1) 0 rfl (bv b) _ (fun W' hW' => range_row hW'.2) (Tryd.underlying23) (rfl) (by rw [HBS.out]; kernel_rfl)) hHeld ?_
  try simp only [Act.put, List.setIfInBounds_toArray, List.set_cons_zero, List.set_cons_succ]
  refine wpAnyH_take (i := 4) (oi := ⟨(some 9), _, _, _, _, _⟩) (v := _) rfl (by kernel_rfl) (by kernel_rfl) (by kernel_rfl) (fun _ _ _ h => h) (yields_build (by rfl) _ _ rfl [] (by rfl) _ (built_nilN)) hHeld ?_
  try simp only [Act.put, List.setIfInBounds_toArray, List.set_cons_zero, List.set_cons_succ]
  refine wpAnyH_ready (rs := [1]) (by kernel_rfl) (by simp) ?_
  refine AllReadyH.cons (i := 1) (o := ⟨(some 6), _, _, _, _, _⟩) rfl (fun K hK => ?_) AllReadyH.nil
  go_simp
  refine (lnumberOf_any _ a HA.out).mono ?_
  rintro e w1 ⟨A, rfl, eA, HAL, hb1d⟩
  have hb1 : Below W.heap.size W w1 := below_undrew hb1d
  refine hK.out _ _ (⟨(hb1.block _ (by omega)).trans hHeld.1, (hb1.block _ (by omega)).trans hHeld.2⟩) (fun hHeld => ?_)
  clear hK K
  try simp only [Act.put, List.setIfInBounds_toArray, List.set_cons_zero, List.set_cons_succ]
  have hbw1 := below_next hbW hbW.size hb1
  have hz1 : Hid (w1.heap[w.heap.size + 2]? = some (.cells (bv z32).toArray 23 (0, 0))) := (hb1.block _ (by omega)).trans hgZ.out
  have hs1 : w.heap.size + 2 < w1.heap.size := (Array.getElem?_eq_some_iff.1 hz1.out).1
  have hla1 := hlaW.below hlaW.2 hb1
  have HAB := vlt (show ∀ x ∈ A, x < B64 by rw [eA.out]; exact pcs_lt a 4 (by rw [HA.out]; decide))
  refine wpAnyH_ready (rs := [3]) (by kernel_rfl) (by simp) ?_
  refine AllReadyH.cons (i := 3) (o := ⟨(some 8), _, _, _, _, _⟩) rfl (fun K hK => ?_) AllReadyH.nil
  go_simp
  refine (lnumberOf_any w1 b HB.out).mono ?_
  rintro e w2 ⟨B, rfl, eB, HBL, hb2⟩
  refine hK.out _ _ (⟨(hb2.block _ (by omega)).trans hHeld.1, (hb2.block _ (by omega)).trans hHeld.2⟩) (fun hHeld => ?_)
  clear hK K
  try simp only [Act.put, List.setIfInBounds_toArray, List.set_cons_zero, List.set_cons_succ]
  have hbw2 := below_next hbw1 hbw1.size hb2
  have hz2 : Hid (w2.heap[w.heap.size + 2]? = some (.cells (bv z32).toArray 23 (0, 0))) := (hb2.block _ (by omega)).trans hz1.out
  have hs2 : w.heap.size + 2 < w2.heap.size := (Array.getElem?_eq_some_iff.1 hz2.out).1
  have hla2 := hla1.below hla1.2 hb2
  have HBB := vlt (show ∀ x ∈ B, x < B64 by rw [eB.out]; exact pcs_lt b 4 (by rw [HB.out]; decide))
  refine wpAnyH_ready (rs := [5]) (by kernel_rfl) (by simp) ?_
  refine AllReadyH.cons (i := 5) (o := ⟨(some 10), _, _, _, _, _⟩) rfl (fun K hK => ?_) AllReadyH.nil
  go_simp
  refine (ltimes_any w2 A B nilN HAL.out HBL.out rfl HAB.out HBB.out (by decide)).mono ?_
  rintro e w3 ⟨U, rfl, e3, HUL, HUB, hb3⟩
  refine hK.out _ _ (⟨(hb3.block _ (by omega)).trans hHeld.1, (hb3.block _ (by omega)).trans hHeld.2⟩) (fun hHeld => ?_)
  clear hK K
  try simp only [Act.put, List.setIfInBounds_toArray, List.set_cons_zero, List.set_cons_succ]
  have hbw3 := below_next hbw2 hbw2.size hb3
  have hz3 : Hid (w3.heap[w.heap.size + 2]? = some (.cells (bv z32).toArray 23 (0, 0))) := (hb3.block _ (by omega)).trans hz2.out
  have hs3 : w.heap.size + 2 < w3.heap.size := (Array.getElem?_eq_some_iff.1 hz3.out).1
  have hla3 := hla2.below hla2.2 hb3
  refine wpAnyH_ready (rs := [6]) (by kernel_rfl) (by simp) ?_
  refine AllReadyH.cons (i := 6) (o := ⟨(some 11), _, _, _, _, _⟩) rfl (fun K hK => ?_) AllReadyH.nil
  go_simp
  refine (lbelow_any w3 hla3 U HUL.out HUB.out).mono ?_
  rintro e w4 ⟨Y, rfl, e4, HYL, HYB, hb4⟩
  refine hK.out _ _ (⟨(hb4.block _ (by omega)).trans hHeld.1, (hb4.block _ (by omega)).trans hHeld.2⟩) (fun hHeld => ?_)
  clear hK K
  try simp only [Act.put, List.setIfInBounds_toArray, List.set_cons_zero, List.set_cons_succ]
  have hbw4 := below_next hbw3 hbw3.size hb4
  have hz4 : Hid (w4.heap[w.heap.size + 2]? = some (.cells (bv z32).toArray 23 (0, 0))) := (hb4.block _ (by omega)).trans hz3.out
  have hs4 : w.heap.size + 2 < w4.heap.size := (Array.getElem?_eq_some_iff.1 hz4.out).1
  refine wpAnyH_ready (rs := [7]) (by kernel_rfl) (by simp) ?_
  refine AllReadyH.cons (i := 7) (o := ⟨(some 12), _, _, _, _, _⟩) rfl (fun K hK => ?_) AllReadyH.nil
  go_simp
  refine (ltold_any w4 Y HYL.out HYB.out).mono ?_
  rintro e w5 ⟨l, rfl, e5, HL, hb5⟩
  refine hK.out _ _ (⟨(hb5.block _ (by omega)).trans hHeld.1, (hb5.block _ (by omega)).trans hHeld.2⟩) (fun hHeld => ?_)
  clear hK K
  try simp only [Act.put, List.setIfInBounds_toArray, List.set_cons_zero, List.set_cons_succ]
  have hbw5 := below_next hbw4 hbw4.size hb5
  have hz5 : Hid (w5.heap[w.heap.size + 1 + 1]? = some (.cells (bv z32).toArray 23 (0, 0))) := (hb5.block _ (by omega)).trans hz4.out
  have hs5 : w.heap.size + 2 < w5.heap.size := (Array.getElem?_eq_some_iff.1 hz5.out).1
  have HE := vlt (show l = wl (ln a * ln b) by rw [e5.out, e4.out, e3.out, eA.out, eB.out, nB_word a HA.out, nB_word b HB.out, nB_nilN, Nat.zero_add, le_mod])
  clear e3 e4 e5 eA eB
  have HLS := Lib.hid (bv_size l HL.out)
  refine wpAnyH_ready (rs := [8]) (by kernel_rfl) (by simp) ?_
  refine AllReadyH.cons (i := 8) (o := ⟨none, _, _, _, _, _⟩) rfl (fun K hK => ?_) AllReadyH.nil
  refine step_store_row rfl 23 (.tmp 4) (.tmp 12) rfl (w.heap.size + 1 + 1) (bv l).toArray rfl rfl 23 _ hz5.out (by rw [HLS.out]; kernel_rfl) (by rw [HLS.out]; kernel_rfl) (all_oneCell_toArray (bv_one _)) ?_
  refine hK.out _ _ (⟨(setRow_other _ _ _ _ (by omega)).trans hHeld.1, (setRow_other _ _ _ _ (by omega)).trans hHeld.2⟩) (fun hHeld => ?_)
  clear hK K
  try simp only [Act.put]
  refine wpAnyH_done (by kernel_rfl) ?_ _
  go_wp2_with fail
  refine bodyPost_ret (v := .agg (bv l).toArray) (results_cell_row Tryd.results22 _ _ (w.heap.size + 1 + 1) 23 _ (0, 0) _ rfl (setRow_heap _ _ _ _ _ _ hz5.out) Tryd.underlying23 rfl (by rw [HLS.out]; kernel_rfl)) rfl ⟨l, rfl, HE, HL, below_setRow hbw5 (by omega) _⟩

end Go.Proofs.YtehkalbiomagjaaDoor
namespace Go.Proofs.YtehkalbiomagjaaDoor
open Go.RowKit

structure LaidQ (w : World) : Prop where
  p : LaidP w
  o : LaidO w
theorem LaidQ.next {w w' : World} (h : LaidQ w) (hb : Below w.heap.size w w') : LaidQ w' := ⟨h.p.next hb, h.o.below h.o.2 hb⟩
end Go.Proofs.YtehkalbiomagjaaDoor
