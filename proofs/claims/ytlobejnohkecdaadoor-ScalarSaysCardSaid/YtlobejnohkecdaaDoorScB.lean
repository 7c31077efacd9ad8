/-
  Contract of scalar's times. Conditions: pieces below 2^64.
-/
import Derived.Test.YtlobejnohkecdaaDoorScA
import Derived.Test.YtlobejnohkecdaaDoorRegC
namespace Go.Proofs.YtlobejnohkecdaaDoor
open Go.RowKit

theorem Tryd.sizeU64 : (Tryd.prog.info? 38).map (·.size) = some 1 := by kernel_rfl
/-- Four new blocks. -/
theorem four_new (w : World) (a b c d : Array Value) (s t u v : TypeId) :
    ∃ W, (((w.alloc (.cells a s)).alloc (.cells b t)).alloc (.cells c u)).alloc (.cells d v) = W ∧ Hid (W.heap[w.heap.size]? = some (.cells a s (0, 0))) ∧ Hid (W.heap[w.heap.size + 1]? = some (.cells b t (0, 0))) ∧ Hid (W.heap[w.heap.size + 2]? = some (.cells c u (0, 0))) ∧ Hid (W.heap[w.heap.size + 3]? = some (.cells d v (0, 0))) ∧ Below w.heap.size w W ∧ Hid (W.heap.size = w.heap.size + 4) := by
  obtain ⟨V, hV, g0, g1, g2, hb, hs⟩ := three_new w a b c s t u
  rw [hV]
  have h0 := hs.out
  refine ⟨_, rfl, (Below.heap_alloc _ _ _ (by omega)).trans g0.out, (Below.heap_alloc _ _ _ (by omega)).trans g1.out, (Below.heap_alloc _ _ _ (by omega)).trans g2.out, ?_, hb.alloc hb.size _, show _ = _ by simp [h0]⟩
  rw [← h0]
  exact heap_alloc_new _ _
/-- copy of numbers into a block that is known whole, as one step of a region that draws its order. -/
theorem step_copy_vals {P : Program} {ops : Array Oper} {o : Oper} {a : Act} {w : World} {K : Act → World → Prop} {Q : Exit → Act → World → Prop} {E : Prop} (hgd : o.guard = none) (d s : Operand) (T : TypeId)
    (ho : o.op = .call { callee := .builtin .copy, args := #[d, s], argTypes := #[T, T] }) (elem : TypeId) (hu : P.underlying T = some (.slice elem)) (hsz : (P.info? elem).map (·.size) = some 1)
    (g off dLen dCap sLen sCap b o' : Nat) (hd : a.eval d = .slice (some ⟨g, off, none⟩) dLen dCap) (hs : a.eval s = .slice (some ⟨b, o', none⟩) sLen sCap)
    (cur : List Value) (t : TypeId) (hg : w.heap[g]? = some (.cells cur.toArray t (0, 0))) (news : List Value) (hlen : news.length = min sLen dLen)
    (hsrc : ∀ j v, news[j]? = some v → w.cell? ⟨b, o' + j, none⟩ = some v) (hone : ∀ u ∈ news, u.oneCell' = true)
    (hfit : off + dLen ≤ cur.length) (w0 : World) (hb : But g w0 w)
    (h : ∀ w', Hid (w'.heap[g]? = some (.cells (splice cur off news).toArray t (0, 0))) → But g w0 w' → K (a.put o.dst (.int .i64 ((min sLen dLen : Nat) : Int))) w') :
    if Region.wanted o (yielded ops a.tmps) = true then Oper.wp P o a w K Q else E := by
  have hw : Region.wanted o (yielded ops a.tmps) = true := by simp [Region.wanted, hgd]
  rw [if_pos hw]
  have hsrc' : ∀ j v, news[j]? = some v → w.cell? ((⟨b, o', none⟩ : Addr).add j) = some v := by
    intro j v hj
    rw [addr_add]
    exact hsrc j v hj
  have hrun := run_copy_row (P := P) w T T o.type elem g off dLen dCap ⟨b, o', none⟩ sLen sCap cur.toArray t news hu hsz hg hlen hsrc' (by simp only [List.size_toArray]; omega) hone
  unfold Oper.wp
  simp [execOp, ho, resolve, invoke, builtin, hd, hs, hrun, Result.andThen]
  have h3 := h _ (show _ = _ by simpa [splice] using setRow_heap w g _ _ t _ hg) (hb.row _)
  rw [hlen] at h3 ⊢
  exact h3
theorem row_cells {w : World} {g : Nat} {cs : List Value} {t : TypeId} (hg : w.heap[g]? = some (.cells cs.toArray t (0, 0))) : ∀ j v, cs[j]? = some v → w.cell? ⟨g, 0 + j, none⟩ = some v := by
  intro j v hj
  rw [Nat.zero_add, cell_of_row _ _ _ _ _ _ hg]
  simpa using hj
theorem long_start (Z : List Nat) (hZ : Z.length = 4) : splice (u64v (uptoW 8 [])) 0 (u64v Z) = u64v (Z ++ [0, 0, 0, 0]) := by
  match Z, hZ with
  | [a, b, c, d], _ => rfl
theorem tout_first (A Y Z : List Nat) (hZ : Z.length = 4) (bZ : ∀ x ∈ Z, x < B64) : Tout A Y Z (Z ++ [0, 0, 0, 0]) 0 := by
  match Z, hZ with
  | [a, b, c, d], _ => exact Tout.first a b c d (bZ _ (by simp)) (bZ _ (by simp)) (bZ _ (by simp)) (bZ _ (by simp))

set_option maxRecDepth 100000 in
set_option maxHeartbeats 2000000 in
theorem ltimes_any (w : World) (X Y Z : List Nat) (hX : X.length = 4) (hY : Y.length = 4) (hZ : Z.length = 4) (bX : ∀ x ∈ X, x < B64) (bY : ∀ x ∈ Y, x < B64) (bZ : ∀ x ∈ Z, x < B64) :
    Calls Tryd.prog 22 #[.agg (u64v X).toArray, .agg (u64v Y).toArray, .agg (u64v Z).toArray] w fun e w' => ∃ U, e = .returned (.agg (u64v U).toArray) ∧ Vlt (nB U = nB Z + nB X * nB Y) ∧ Hid (U.length = 8) ∧ Vlt (∀ x ∈ U, x < B64) ∧ Below w.heap.size w w' := by
  have hzl := zero_long
  obtain ⟨W, hW, hgX, hgY, hgZ, hgR, hbW, hsW⟩ := four_new w (u64v X).toArray (u64v Y).toArray (u64v Z).toArray (u64v (uptoW 8 [])).toArray 41 41 41 43
  have HW := Lib.hid hW
  have HXL := Lib.hid hX
  have HYL := Lib.hid hY
  have HZL := Lib.hid hZ
  have HBX := vlt bX
  have HBY := vlt bY
  have HBZ := vlt bZ
  have hs1 : w.heap.size + 3 < W.heap.size := by have := hsW.out; omega
  clear hW hX hY hZ bX bY bZ hsW
  go_enter Tryd.func22, Tryd.ntmps22
  go_upto_region 1 with fail
  rw [HW.out]
  go_upto_region 2 with fail
  obtain ⟨V, hV, hgT, hbV, hsV⟩ := one_new W (u64v (uptoW 8 [])).toArray 43
  rw [hV]
  obtain ⟨T, hT⟩ : ∃ T, T = W.heap.size := ⟨_, rfl⟩
  rw [← hT] at hgT hs1 ⊢
  have hgX1 : Hid (V.heap[w.heap.size]? = some (.cells (u64v X).toArray 41 (0, 0))) := (hbV.block _ (by omega)).trans hgX.out
  have hgY1 : Hid (V.heap[w.heap.size + 1]? = some (.cells (u64v Y).toArray 41 (0, 0))) := (hbV.block _ (by omega)).trans hgY.out
  have hgZ1 : Hid (V.heap[w.heap.size + 2]? = some (.cells (u64v Z).toArray 41 (0, 0))) := (hbV.block _ (by omega)).trans hgZ.out
  have hgR1 : Hid (V.heap[w.heap.size + 3]? = some (.cells (u64v (uptoW 8 [])).toArray 43 (0, 0))) := (hbV.block _ (by omega)).trans hgR.out
  have hbw1 := below_next hbW hbW.size hbV
  have hsz1 : w.heap.size + 3 < V.heap.size := (Array.getElem?_eq_some_iff.1 hgR1.out).1
  clear hV hbV hgX hgY hgZ hgR hbW hsV hT HW
  have hc7 := cut_all Tryd.underlying43 Tryd.sizeU64 T 0 (by decide)
  have hc5 := cut_all Tryd.underlying41 Tryd.sizeU64 (w.heap.size + 2) 0 (by decide)
  go_region_law ((refine step_copy_vals rfl (.tmp 11) (.tmp 12) 52 rfl 38 Tryd.underlying52 Tryd.sizeU64 T 0 8 8 4 4 (w.heap.size + 2) 0 (by rfl) (by rfl) (u64v (uptoW 8 [])) 43 hgT.out (u64v Z) (by rw [u64v_len, HZL.out]; rfl) (row_cells hgZ1.out) (u64v_one _) (by decide) V (But.refl T V).drew ?_; intro w2 hg2' hb2))
  rw [long_start Z HZL.out] at hg2'
  have hTo := vlt (tout_first X Y Z HZL.out HBZ.out)
  generalize Z ++ [0, 0, 0, 0] = U0 at hg2' hTo
  clear hc7 hc5 hgT
  have hsT : T < w2.heap.size := (Array.getElem?_eq_some_iff.1 hg2'.out).1
  go_wp2_with fail
  go_loopw [14] (fun s wr => ∃ (i : Nat) (U : List Nat), i ≤ 4 ∧ s = .int .i64 (i : Int) ∧ Hid (wr.heap[T]? = some (.cells (u64v U).toArray 43 (0, 0))) ∧ Vlt (Tout X Y Z U i) ∧ But T V wr) (fun s _ => 4 - (intOf s).toNat)
  case atStart => exact ⟨0, U0, by omega, rfl, hg2', hTo, hb2⟩
  case round =>
    clear hg2' hTo hb2
    obtain ⟨i, U, hi, rfl, hg, hO, hbt⟩ := hrel
    by_cases hlt : i < 4
    · have lx := natB_mem HBX.out i
      have hRow := vlt hO.out.row
      obtain ⟨x, hx⟩ : ∃ x, x = natAt X i := ⟨_, rfl⟩
      rw [← hx] at lx hRow
      have HX := vlt hx
      clear hx
      go_upto_region 7 with fail
      obtain ⟨Y0, hY0⟩ : ∃ Y0, Y0 = wr := ⟨_, rfl⟩
      subst hY0
      go_wp2_with fail
      generalize decide ((i : Int) < 4) = b1
      go_loopw [9, 17] (fun cc kk wi => ∃ (k c : Nat) (U1 : List Nat), k ≤ 4 ∧ kk = .int .i64 (k : Int) ∧ cc = .int .u64 (c : Int) ∧ c < B64 ∧ Hid (wi.heap[T]? = some (.cells (u64v U1).toArray 43 (0, 0))) ∧ Vlt (Trow x Y U U1 i k c) ∧ But T V wi) (fun _ kk _ => 4 - (intOf kk).toNat)
      case atStart => exact ⟨0, 0, U, by omega, rfl, rfl, by decide, hg, hRow, hbt⟩
      case round =>
        clear hg hbt hRow
        obtain ⟨k, c, U1, hk, rfl, rfl, hc, hg, hR, hbt⟩ := hrel
        by_cases hkt : k < 4
        · have hgx : Hid (wr.heap[w.heap.size]? = some (.cells (u64v X).toArray 41 (0, 0))) := (hbt.block _ (by omega) (by intro e; injection e; omega)).trans hgX1.out
          have hgy : Hid (wr.heap[w.heap.size + 1]? = some (.cells (u64v Y).toArray 41 (0, 0))) := (hbt.block _ (by omega) (by intro e; injection e; omega)).trans hgY1.out
          have c0 := long_at hgx.out i (by rw [HXL.out]; exact hlt)
          rw [← HX.out] at c0
          have c1 := long_at hgy.out k (by rw [HYL.out]; exact hkt)
          have c2 := long_at hg.out (i + k) (by rw [hR.out.len]; omega)
          have ly := natB_mem HBY.out k
          have lz := natB_mem hR.out.bound (i + k)
          have hN := vlt (fun low high e hl hh => hR.out.step HYL.out hlt hkt low high e hl hh)
          have hlen := Lib.hid hR.out.len
          have hik : IntKind.i64.wrap ((i : Int) + (k : Int)) = (i : Int) + (k : Int) := IntWalk.i64_in _ (by omega)
          have hin1 : 0 ≤ (i : Int) + (k : Int) := by omega
          have hin2 : (i : Int) + (k : Int) < 8 := by omega
          have hin3 : ((i : Int) + (k : Int)).toNat = i + k := by omega
          generalize natAt Y k = y at *
          generalize natAt U1 (i + k) = z at *
          clear hR
          go_wp2_with fail
          refine c_start (S := (fun W' => W'.cell? ⟨w.heap.size, i, none⟩ = some (.int .u64 (x : Int)) ∧ W'.cell? ⟨w.heap.size + 1, k, none⟩ = some (.int .u64 (y : Int)) ∧ W'.cell? ⟨T, i + k, none⟩ = some (.int .u64 (z : Int)))) 21 (by kernel_rfl) (⟨c0, c1, c2⟩) (fun hHeld => ?_)
          refine c_take (i := 0) (oi := ⟨(some 21), _, _, _, _, _⟩) (v := ?vq1_0) rfl (by decide) (by kernel_rfl) (by kernel_rfl) (by kernel_rfl) (fun _ _ _ h => h) (Or.inl ⟨by rfl, ?yq1_0⟩) hHeld ?_
          case yq1_0 => (intro W0 hSw; go_simp; try with_reducible rfl)
          try simp only [Act.put, List.setIfInBounds_toArray, List.set_cons_zero, List.set_cons_succ]
          refine c_take (i := 1) (oi := ⟨(some 22), _, _, _, _, _⟩) (v := ?vq1_1) rfl (by decide) (by kernel_rfl) (by kernel_rfl) (by kernel_rfl) (fun _ _ _ h => h) (Or.inl ⟨by rfl, ?yq1_1⟩) hHeld ?_
          case yq1_1 => (intro W0 hSw; go_simp; try with_reducible rfl)
          try simp only [Act.put, List.setIfInBounds_toArray, List.set_cons_zero, List.set_cons_succ]
          refine c_take (i := 2) (oi := ⟨(some 23), _, _, _, _, _⟩) (v := ?vq1_2) rfl (by decide) (by kernel_rfl) (by kernel_rfl) (by kernel_rfl) (fun _ _ _ h => h) (Or.inl ⟨by rfl, ?yq1_2⟩) hHeld ?_
          case yq1_2 => (intro W0 hSw; go_simp; try with_reducible rfl)
          try simp only [Act.put, List.setIfInBounds_toArray, List.set_cons_zero, List.set_cons_succ]
          refine c_take (i := 3) (oi := ⟨(some 24), _, _, _, _, _⟩) (v := ?vq1_3) rfl (by decide) (by kernel_rfl) (by kernel_rfl) (by kernel_rfl) (fun _ _ _ h => h) (Or.inl ⟨by rfl, ?yq1_3⟩) hHeld ?_
          case yq1_3 => (intro W0 hSw; go_simp; try with_reducible rfl)
          try simp only [Act.put, List.setIfInBounds_toArray, List.set_cons_zero, List.set_cons_succ]
          refine c_take (i := 4) (oi := ⟨(some 25), _, _, _, _, _⟩) (v := ?vq1_4) rfl (by decide) (by kernel_rfl) (by kernel_rfl) (by kernel_rfl) (fun _ _ _ h => h) (Or.inl ⟨by rfl, ?yq1_4⟩) hHeld ?_
          case yq1_4 => (intro W0 hSw; go_simp; try with_reducible rfl)
          try simp only [Act.put, List.setIfInBounds_toArray, List.set_cons_zero, List.set_cons_succ]
          refine c_read (i := 5) (oi := ⟨(some 26), _, _, _, _, _⟩) (v := ?vq1_5) rfl (by decide) (by kernel_rfl) (by kernel_rfl) (by kernel_rfl) (by kernel_rfl) (by kernel_rfl) (fun _ _ _ h => h) (Or.inl ⟨by rfl, ?yq1_5⟩) hHeld ?_
          case yq1_5 => (intro W0 hSw; go_simp; try with_reducible rfl)
          try simp only [Act.put, List.setIfInBounds_toArray, List.set_cons_zero, List.set_cons_succ]
          refine c_take (i := 6) (oi := ⟨(some 27), _, _, _, _, _⟩) (v := ?vq1_6) rfl (by decide) (by kernel_rfl) (by kernel_rfl) (by kernel_rfl) (fun _ _ _ h => h) (Or.inl ⟨by rfl, ?yq1_6⟩) hHeld ?_
          case yq1_6 => (intro W0 hSw; go_simp; try with_reducible rfl)
          try simp only [Act.put, List.setIfInBounds_toArray, List.set_cons_zero, List.set_cons_succ]
          refine c_take (i := 7) (oi := ⟨(some 28), _, _, _, _, _⟩) (v := ?vq1_7) rfl (by decide) (by kernel_rfl) (by kernel_rfl) (by kernel_rfl) (fun _ _ _ h => h) (Or.inl ⟨by rfl, ?yq1_7⟩) hHeld ?_
          case yq1_7 => (intro W0 hSw; go_simp; try with_reducible rfl)
          try simp only [Act.put, List.setIfInBounds_toArray, List.set_cons_zero, List.set_cons_succ]
          refine c_read (i := 8) (oi := ⟨(some 29), _, _, _, _, _⟩) (v := ?vq1_8) rfl (by decide) (by kernel_rfl) (by kernel_rfl) (by kernel_rfl) (by kernel_rfl) (by kernel_rfl) (fun _ _ _ h => h) (Or.inl ⟨by rfl, ?yq1_8⟩) hHeld ?_
          case yq1_8 => (intro W0 hSw; go_simp; try with_reducible rfl)
          try simp only [Act.put, List.setIfInBounds_toArray, List.set_cons_zero, List.set_cons_succ]
          refine c_take (i := 9) (oi := ⟨(some 30), _, _, _, _, _⟩) (v := ?vq1_9) rfl (by decide) (by kernel_rfl) (by kernel_rfl) (by kernel_rfl) (fun _ _ _ h => h) (Or.inl ⟨by rfl, ?yq1_9⟩) hHeld ?_
          case yq1_9 => (intro W0 hSw; go_simp; try with_reducible rfl)
          try simp only [Act.put, List.setIfInBounds_toArray, List.set_cons_zero, List.set_cons_succ]
          refine c_take (i := 10) (oi := ⟨(some 31), _, _, _, _, _⟩) (v := ?vq1_10) rfl (by decide) (by kernel_rfl) (by kernel_rfl) (by kernel_rfl) (fun _ _ _ h => h) (Or.inl ⟨by rfl, ?yq1_10⟩) hHeld ?_
          case yq1_10 => (intro W0 hSw; go_simp; try with_reducible rfl)
          try simp only [Act.put, List.setIfInBounds_toArray, List.set_cons_zero, List.set_cons_succ]
          refine c_take (i := 11) (oi := ⟨(some 32), _, _, _, _, _⟩) (v := ?vq1_11) rfl (by decide) (by kernel_rfl) (by kernel_rfl) (by kernel_rfl) (fun _ _ _ h => h) (Or.inl ⟨by rfl, ?yq1_11⟩) hHeld ?_
          case yq1_11 => (intro W0 hSw; go_simp; try with_reducible rfl)
          try simp only [Act.put, List.setIfInBounds_toArray, List.set_cons_zero, List.set_cons_succ]
          refine c_take (i := 12) (oi := ⟨(some 33), _, _, _, _, _⟩) (v := ?vq1_12) rfl (by decide) (by kernel_rfl) (by kernel_rfl) (by kernel_rfl) (fun _ _ _ h => h) (Or.inl ⟨by rfl, ?yq1_12⟩) hHeld ?_
          case yq1_12 => (intro W0 hSw; go_simp; try with_reducible rfl)
          try simp only [Act.put, List.setIfInBounds_toArray, List.set_cons_zero, List.set_cons_succ]
          refine c_read (i := 13) (oi := ⟨(some 34), _, _, _, _, _⟩) (v := ?vq1_13) rfl (by decide) (by kernel_rfl) (by kernel_rfl) (by kernel_rfl) (by kernel_rfl) (by kernel_rfl) (fun _ _ _ h => h) (Or.inl ⟨by rfl, ?yq1_13⟩) hHeld ?_
          case yq1_13 => (intro W0 hSw; go_simp; try with_reducible rfl)
          try simp only [Act.put, List.setIfInBounds_toArray, List.set_cons_zero, List.set_cons_succ]
          refine c_take (i := 14) (oi := ⟨(some 35), _, _, _, _, _⟩) (v := ?vq1_14) rfl (by decide) (by kernel_rfl) (by kernel_rfl) (by kernel_rfl) (fun _ _ _ h => h) (Or.inl ⟨by rfl, ?yq1_14⟩) hHeld ?_
          case yq1_14 => (intro W0 hSw; go_simp; try with_reducible rfl)
          try simp only [Act.put, List.setIfInBounds_toArray, List.set_cons_zero, List.set_cons_succ]
          refine c_step (i := 15) (o := ⟨(some 36), _, _, _, _, _⟩) (by kernel_rfl) rfl (fun K hK => ?_)
          go_simp
          refine (lstep_any _ x y z c lx ly lz hc).mono ?_
          rintro e w3 ⟨h, l, rfl, he, lh, ll, rfl⟩
          refine hK.out _ _ (hHeld) (fun hHeld => ?_)
          clear hK K
          try simp only [Act.put, List.setIfInBounds_toArray, List.set_cons_zero, List.set_cons_succ]
          refine c_take (i := 16) (oi := ⟨(some 20), _, _, _, _, _⟩) (v := ?vq1_15) rfl (by decide) (by kernel_rfl) (by kernel_rfl) (by kernel_rfl) (fun _ _ _ h => h) (Or.inl ⟨by rfl, ?yq1_15⟩) hHeld ?_
          case yq1_15 => (intro W0 hSw; go_simp; try with_reducible rfl)
          try simp only [Act.put, List.setIfInBounds_toArray, List.set_cons_zero, List.set_cons_succ]
          refine c_take (i := 17) (oi := ⟨(some 37), _, _, _, _, _⟩) (v := ?vq1_16) rfl (by decide) (by kernel_rfl) (by kernel_rfl) (by kernel_rfl) (fun _ _ _ h => h) (Or.inl ⟨by rfl, ?yq1_16⟩) hHeld ?_
          case yq1_16 => (intro W0 hSw; go_simp; try with_reducible rfl)
          try simp only [Act.put, List.setIfInBounds_toArray, List.set_cons_zero, List.set_cons_succ]
          refine c_take (i := 18) (oi := ⟨(some 38), _, _, _, _, _⟩) (v := ?vq1_17) rfl (by decide) (by kernel_rfl) (by kernel_rfl) (by kernel_rfl) (fun _ _ _ h => h) (Or.inl ⟨by rfl, ?yq1_17⟩) hHeld ?_
          case yq1_17 => (intro W0 hSw; go_simp; try with_reducible rfl)
          try simp only [Act.put, List.setIfInBounds_toArray, List.set_cons_zero, List.set_cons_succ]
          refine c_take (i := 19) (oi := ⟨(some 9), _, _, _, _, _⟩) (v := ?vq1_18) rfl (by decide) (by kernel_rfl) (by kernel_rfl) (by kernel_rfl) (fun _ _ _ h => h) (Or.inl ⟨by rfl, ?yq1_18⟩) hHeld ?_
          case yq1_18 => (intro W0 hSw; go_simp; try with_reducible rfl)
          try simp only [Act.put, List.setIfInBounds_toArray, List.set_cons_zero, List.set_cons_succ]
          refine c_take (i := 20) (oi := ⟨(some 39), _, _, _, _, _⟩) (v := ?vq1_19) rfl (by decide) (by kernel_rfl) (by kernel_rfl) (by kernel_rfl) (fun _ _ _ h => h) (Or.inl ⟨by rfl, ?yq1_19⟩) hHeld ?_
          case yq1_19 => (intro W0 hSw; go_simp; try with_reducible rfl)
          try simp only [Act.put, List.setIfInBounds_toArray, List.set_cons_zero, List.set_cons_succ]
          refine c_call (S' := (fun _ => True)) (o := ⟨none, _, _, _, _, _⟩) (by kernel_rfl) (by kernel_rfl) rfl (fun K hK => ?_)
          clear hHeld
          refine step_set rfl 38 (.tmp 39) (.tmp 38) rfl Tryd.sizeU64 T (i + k) (by rfl) .u64 (l : Int) (by rfl) (u64v U1) 43 hg.out (by rw [u64v_len, hlen.out]; omega) V hbt.drew ?_
          intro w4 hg4 hb4
          refine hK.out _ _ (trivial) (fun hHeld => ?_)
          clear hK K
          try simp only [Act.put]
          refine wpAnyH_done (by kernel_rfl) ?_ _
          rw [u64v_set] at hg4
          have hT2 := vlt (hN.out l h he.out ll lh)
          clear he hN
          go_wp2
          go_roundw
          case rel => exact ⟨k + 1, h, _, by omega, by go_num, rfl, lh, hg4, hT2, hb4⟩
          case measure => simp [intOf]; omega
        · obtain rfl : k = 4 := by omega
          have hO2 := vlt (hO.out.next HXL.out HYL.out hlt (by have h := hR.out; rwa [HX.out] at h))
          have c2 := long_at hg.out (i + 4) (by rw [hR.out.len]; omega)
          have f2 : wr.frozen? ⟨T, i + 4, none⟩ = false := frozen_of_row _ _ _ _ _ hg.out
          have hset := world_set_cell hg.out (i + 4) (.int .u64 (c : Int))
          rw [u64v_set] at hset
          have hb3 := hbt.set (i := i + 4) (.int .u64 (c : Int))
          generalize natAt U1 (i + 4) = z at *
          clear hg hR hO hbt
          go_wp2
          go_roundw
          case rel => exact ⟨i + 1, _, by omega, by go_num, hset, hO2, hb3⟩
          case measure => simp [intOf]; omega
    · obtain rfl : i = 4 := by omega
      have hV := vlt (show nB U = nB Z + nB X * nB Y by have h := hO.out.val; rwa [List.take_of_length_le (by rw [HXL.out]; decide)] at h)
      have hUL := Lib.hid hO.out.len
      have hUB := vlt hO.out.bound
      have HUS := Lib.hid (show (u64v U).toArray.size = 8 by simp [u64v_len, hUL.out])
      have HZS := Lib.hid (show (u64v (uptoW 8 [])).toArray.size = 8 from rfl)
      have hz4 : Hid (wr.heap[w.heap.size + 3]? = some (.cells (u64v (uptoW 8 [])).toArray 43 (0, 0))) := (hbt.block _ (by omega) (by intro e; injection e; omega)).trans hgR1.out
      have hb4 : Below w.heap.size w wr := But.below hbw1 hbt (by omega) (by omega)
      clear hO
      go_wp2_with (first
        | (with_reducible refine wpList_load_row rfl 43 (.tmp 7) rfl T rfl 43 (u64v U).toArray (0, 0) _ hg.out Tryd.underlying43 rfl (by rw [HUS.out]; kernel_rfl) ?_)
        | (with_reducible refine wpList_store_row rfl 43 (.tmp 6) (.tmp 46) rfl (w.heap.size + 1 + 1 + 1) (u64v U).toArray rfl rfl 43 _ hz4.out (by rw [HUS.out]; kernel_rfl) (by rw [HUS.out]; exact HZS.out) (all_oneCell_toArray (u64v_one _)) ?_))
      refine bodyPost_ret (v := .agg (u64v U).toArray) (results_cell_row Tryd.results22 _ _ (w.heap.size + 1 + 1 + 1) 43 _ (0, 0) _ rfl (setRow_heap _ _ _ _ _ _ hz4.out) Tryd.underlying43 rfl (by rw [HUS.out]; kernel_rfl)) rfl ⟨U, rfl, hV, hUL, hUB, below_setRow hb4 (by omega) _⟩
end Go.Proofs.YtlobejnohkecdaaDoor
