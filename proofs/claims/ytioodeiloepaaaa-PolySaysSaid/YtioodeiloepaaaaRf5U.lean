/-
  Contract of the document's own times: the walk. Conditions: seventeen numbers each, below 2^16.
-/
import Derived.Test.YtioodeiloepaaaaRf5T
namespace Go.Proofs.Ytioodeiloepaaaa
open Go.RowKit

theorem Pprod.at_lt {A B X : List Nat} {i k : Nat} (h : Pprod A B X i k) (hi : i ≤ 17) (hk : k ≤ 17) (j : Nat) : natAt X j < 1125899906842624 := by
  refine natAt_mem (fun x hx => ?_) (by decide) j
  have h1 := h.bound x hx
  have h2 : (17 * i + k) * STEP ≤ 306 * STEP := Nat.mul_le_mul_right _ (by omega)
  have h3 : 306 * STEP < 1125899906842624 := by decide
  omega
theorem pw_ex (x y : Nat) (hx : x < 65536) (hy : y < 65536) : ∃ p : Nat, (x : Int) * (y : Int) = (p : Int) ∧ IntKind.u64.wrap ((x : Int) * (y : Int)) = (p : Int) ∧ Hid (p = x * y) ∧ p < 4294967296 := by
  have h := prod_lt x y hx hy
  exact ⟨x * y, by rw [← Int.natCast_mul], by rw [← Int.natCast_mul, wrap64, Nat.mod_eq_of_lt (by omega)], rfl, h⟩

set_option maxRecDepth 100000 in
set_option maxHeartbeats 4000000 in
theorem rtimes_any (w : World) (A B : List Nat) (hA : A.length = 17) (hB : B.length = 17) (la : ∀ x ∈ A, x < 65536) (lb : ∀ x ∈ B, x < 65536) :
    Calls Try.prog 20 #[.agg (u32v A).toArray, .agg (u32v B).toArray] w fun e w' => ∃ X, e = .returned (.agg (u32v X).toArray) ∧ Hid (X.length = 17) ∧ Vlt ((∀ j, j < 17 → natAt X j < 256) ∧ lvN X < 1361129467683753853853498429727072845824 ∧ lvN X % PP = lvN A * lvN B % PP) ∧ Below w.heap.size w w' := by
  have hzn := zero_w17
  have hzl := zero_l17
  obtain ⟨W, hW, hgA, hgB, hgZ, hbW, hsW⟩ := three_new w (u32v A).toArray (u32v B).toArray (u32v z17).toArray 50 50 50
  have HW := Lib.hid hW
  have HA := Lib.hid hA
  have HB := Lib.hid hB
  have LA := Lib.hid la
  have LB := Lib.hid lb
  have hs1 : w.heap.size + 2 < W.heap.size := by have := hsW.out; omega
  clear hW hA hB la lb
  go_enter Try.func20, Try.ntmps20
  go_upto_region 1 with fail
  rw [HW.out]
  go_upto_region 2 with fail
  have hgP : Hid ((W.alloc (.cells (u64v z17).toArray 59)).heap[W.heap.size]? = some (.cells (u64v z17).toArray 59 (0, 0))) := heap_alloc_new _ _
  have hbV : Below W.heap.size W (W.alloc (.cells (u64v z17).toArray 59)) := (Below.refl _ _).alloc (Nat.le_refl _) _
  have hsV : W.heap.size < (W.alloc (.cells (u64v z17).toArray 59)).heap.size := by simp
  generalize W.alloc (.cells (u64v z17).toArray 59) = V at *
  obtain ⟨g, hg⟩ : ∃ g, g = W.heap.size := ⟨_, rfl⟩
  have hwg : w.heap.size + 2 < g := by omega
  have hgA2 : Hid (V.heap[w.heap.size]? = some (.cells (u32v A).toArray 50 (0, 0))) := (hbV.block _ (by omega)).trans hgA.out
  have hgB2 : Hid (V.heap[w.heap.size + 1]? = some (.cells (u32v B).toArray 50 (0, 0))) := (hbV.block _ (by omega)).trans hgB.out
  have hgZ2 : Hid (V.heap[w.heap.size + 2]? = some (.cells (u32v z17).toArray 50 (0, 0))) := (hbV.block _ (by omega)).trans hgZ.out
  have hbV2 : Below w.heap.size w V := below_next hbW hbW.size hbV
  rw [← hg] at hgP hsV ⊢
  clear hg hgA hgB hgZ hbV hbW hs1 hsW
  go_wp2_with fail
  go_loopw [6] (fun i wr => ∃ (k : Nat) (X : List Nat), k ≤ 17 ∧ i = .int .i64 (k : Int) ∧ Hid (wr.heap[g]? = some (.cells (u64v X).toArray 59 (0, 0))) ∧ Vlt (Pprod A B X k 0) ∧ But g V wr) (fun i _ => 17 - (intOf i).toNat)
  case atStart => exact ⟨0, z17, by omega, rfl, hgP, vlt ⟨rfl, fun x hx => by rw [List.eq_of_mem_replicate hx]; exact Nat.zero_le _, by simp [z17, lvN]⟩, But.refl _ _⟩
  case round =>
    clear hgP
    obtain ⟨i, X0, hi, rfl, hgX, hpp, hbt⟩ := hrel
    by_cases hlt : i < 17
    · generalize hdd : decide ((i : Int) < 17) = dd
      have lx := natAt_mem LA.out (by decide) i
      have hi17 : (i : Int) < 17 := by omega
      go_wp2_with fail
      go_loopw [7] (fun kk wr => ∃ (k : Nat) (X : List Nat), k ≤ 17 ∧ kk = .int .i64 (k : Int) ∧ Hid (wr.heap[g]? = some (.cells (u64v X).toArray 59 (0, 0))) ∧ Vlt (Pprod A B X i k) ∧ But g V wr) (fun i _ => 17 - (intOf i).toNat)
      case atStart => exact ⟨0, X0, by omega, rfl, hgX, hpp, hbt⟩
      case round =>
        clear hgX hpp hbt
        obtain ⟨k, X, hk, rfl, hgX, hpp, hbt⟩ := hrel
        by_cases hlk : k < 17
        · have HXL := Lib.hid hpp.out.len
          have hgAr : Hid (wr.heap[w.heap.size]? = some (.cells (u32v A).toArray 50 (0, 0))) := (hbt.block _ (by omega) (by intro e; injection e; omega)).trans hgA2.out
          have hgBr : Hid (wr.heap[w.heap.size + 1]? = some (.cells (u32v B).toArray 50 (0, 0))) := (hbt.block _ (by omega) (by intro e; injection e; omega)).trans hgB2.out
          have c0 := word_at hgAr.out i (by rw [HA.out]; exact hlt)
          have c1 := word_at hgBr.out k (by rw [HB.out]; exact hlk)
          have ly := natAt_mem LB.out (by decide) k
          have hk17 : (k : Int) < 17 := by omega
          have HSTEP := vlt (show ∀ j, j < 17 → (i + k = j ∨ i + k = j + 17) → Pprod A B (X.set j (natAt X j + (if i + k = j then natAt A i * natAt B k else 320 * (natAt A i * natAt B k)))) i (k + 1) from fun j hj h => Pprod.step HB.out LA.out LB.out hpp.out hlk hj h)
          have HLT := vlt (show ∀ j, natAt X j < 1125899906842624 from Pprod.at_lt hpp.out (by omega) hk)
          obtain ⟨p, ep, ew, hp, lp⟩ := pw_ex (natAt A i) (natAt B k) lx ly
          rw [← hp.out] at HSTEP
          clear hp
          generalize natAt A i = x0 at *
          generalize natAt B k = y0 at *
          have v1 : IntKind.u64.wrap (x0 : Int) = (x0 : Int) := IntWalk.u64_in _ (by omega)
          have v2 : IntKind.u64.wrap (y0 : Int) = (y0 : Int) := IntWalk.u64_in _ (by omega)
          clear hpp hgAr hgBr
          go_wp2_with fail
          go_quiet (fail)
          have hgq : Hid ((wr.drewN nq).heap[g]? = some (.cells (u64v X).toArray 59 (0, 0))) := hgX.out
          have hbq : But g V (wr.drewN nq) := But.below_to hbt (below_drewN (Below.refl wr.heap.size wr) nq) (Nat.le_refl _)
          clear c0 c1 hgX hbt v1 v2
          generalize wr.drewN nq = wq at *
          by_cases hj : i + k < 17
          · obtain ⟨j, ej, hj2, hj3⟩ : ∃ j : Nat, (i : Int) + (k : Int) = (j : Int) ∧ i + k = j ∧ j < 17 := ⟨i + k, by omega, rfl, by omega⟩
            have ge1 : ¬ (17 : Int) ≤ (i : Int) + (k : Int) := by omega
            have cq := long_at hgq.out j (by rw [HXL.out]; exact hj3)
            have f0 : wq.frozen? ⟨g, j, none⟩ = false := frozen_of_row _ _ _ _ _ hgq.out
            have hl := HLT.out j
            have HP := HSTEP.out j hj3 (.inl hj2)
            rw [if_pos hj2] at HP
            have HPP := vlt HP
            have hset := world_set_cell hgq.out j (.int .u64 ((natAt X j + p : Nat) : Int))
            rw [u64v_set] at hset
            have hb2 := hbq.set (i := j) (.int .u64 ((natAt X j + p : Nat) : Int))
            obtain ⟨s, es, hs⟩ : ∃ s : Nat, (natAt X j : Int) + (p : Int) = (s : Int) ∧ s = natAt X j + p := ⟨_, by omega, rfl⟩
            rw [← hs] at hset hb2 HPP
            have lj : (j : Int) < 17 := by omega
            have ge2 : ¬ (17 : Int) ≤ (j : Int) := by omega
            clear HP HSTEP HLT ew ep hs hj2 hj
            generalize natAt X j = xj at *
            go_wp2
            exact ⟨⟨k + 1, _, by omega, by go_num, hset, HPP, hb2⟩, by simp [intOf]; omega⟩
          · obtain ⟨j, ej, hj2, hj3⟩ : ∃ j : Nat, (i : Int) + (k : Int) - 17 = (j : Int) ∧ i + k = j + 17 ∧ j < 17 := ⟨i + k - 17, by omega, by omega, by omega⟩
            have ge1 : (17 : Int) ≤ (i : Int) + (k : Int) := by omega
            have cq := long_at hgq.out j (by rw [HXL.out]; exact hj3)
            have f0 : wq.frozen? ⟨g, j, none⟩ = false := frozen_of_row _ _ _ _ _ hgq.out
            have hl := HLT.out j
            have HP := HSTEP.out j hj3 (.inr hj2)
            rw [if_neg (by omega)] at HP
            have HPP := vlt HP
            have hset := world_set_cell hgq.out j (.int .u64 ((natAt X j + 320 * p : Nat) : Int))
            rw [u64v_set] at hset
            have hb2 := hbq.set (i := j) (.int .u64 ((natAt X j + 320 * p : Nat) : Int))
            obtain ⟨s, es, hs⟩ : ∃ s : Nat, (natAt X j : Int) + 320 * (p : Int) = (s : Int) ∧ s = natAt X j + 320 * p := ⟨_, by omega, rfl⟩
            rw [← hs] at hset hb2 HPP
            have lj : (j : Int) < 17 := by omega
            clear HP HSTEP HLT ew ep hs hj2 hj
            generalize natAt X j = xj at *
            go_wp2
            exact ⟨⟨k + 1, _, by omega, by go_num, hset, HPP, hb2⟩, by simp [intOf]; omega⟩
        · have HP := vlt (show Pprod A B X (i + 1) 0 from Pprod.row HA.out HB.out (by have := hpp.out; rwa [show k = 17 by omega] at this) hlt)
          clear hpp
          go_wp2
          exact ⟨⟨i + 1, _, by omega, by go_num, hgX, HP, hbt⟩, by simp [intOf]; omega⟩
    · have HT0 := vlt (show Pturns (lvN A * lvN B) X0 0 from Pturns.start HA.out (by have := hpp.out; rwa [show i = 17 by omega] at this))
      have hs2 := hbt.size
      have hgZ3 : Hid (wr.heap[w.heap.size + 2]? = some (.cells (u32v z17).toArray 50 (0, 0))) := (hbt.block _ (by omega) (by intro e; injection e; omega)).trans hgZ2.out
      have hbw : Below w.heap.size w wr := But.below hbV2 hbt (by omega) (by omega)
      have hsg : g < wr.heap.size := by omega
      have hi17 : ¬ (i : Int) < 17 := by omega
      clear hpp hgZ2 hbt hbV2 hgA2 hgB2
      go_wp2_with fail
      have hgR : Hid ((wr.alloc (.cells (u32v z17).toArray 50)).heap[wr.heap.size]? = some (.cells (u32v z17).toArray 50 (0, 0))) := heap_alloc_new _ _
      have hb1 : Below wr.heap.size wr (wr.alloc (.cells (u32v z17).toArray 50)) := (Below.refl _ _).alloc (Nat.le_refl _) _
      have hsR : wr.heap.size < (wr.alloc (.cells (u32v z17).toArray 50)).heap.size := by simp
      generalize wr.alloc (.cells (u32v z17).toArray 50) = U at *
      have hgX1 : Hid (U.heap[g]? = some (.cells (u64v X0).toArray 59 (0, 0))) := (hb1.block _ hsg).trans hgX.out
      have hgZ4 : Hid (U.heap[w.heap.size + 2]? = some (.cells (u32v z17).toArray 50 (0, 0))) := (hb1.block _ (by omega)).trans hgZ3.out
      have hbU : Below w.heap.size w U := below_next hbw hbw.size hb1
      obtain ⟨R, hR⟩ : ∃ R, R = wr.heap.size := ⟨_, rfl⟩
      rw [← hR] at hgR hsR hsg ⊢
      clear hR hb1 hgX hgZ3 hbw hs2
      go_loopw [10] (fun tt wr => ∃ (t : Nat) (X : List Nat), t ≤ 3 ∧ tt = .int .i64 (t : Int) ∧ Hid (wr.heap[g]? = some (.cells (u64v X).toArray 59 (0, 0))) ∧ Vlt (Pturns (lvN A * lvN B) X t) ∧ But g U wr) (fun i _ => 3 - (intOf i).toNat)
      case atStart => exact ⟨0, X0, by omega, rfl, hgX1, HT0, But.refl _ _⟩
      case round =>
        clear hgX1 HT0
        obtain ⟨t, Y, ht, rfl, hgY, hpt, hbt⟩ := hrel
        by_cases hlt3 : t < 3
        · have ht3 : (t : Int) < 3 := by omega
          have HYL := Lib.hid hpt.out.len
          have HYB := Lib.hid hpt.out.bound
          go_wp2_with fail
          go_loopw [11, 12] (fun cc kk wr => ∃ (k c : Nat) (X : List Nat), k ≤ 17 ∧ kk = .int .i64 (k : Int) ∧ cc = .int .u64 (c : Int) ∧ c < 1152921504606846976 ∧ Hid (wr.heap[g]? = some (.cells (u64v X).toArray 59 (0, 0))) ∧ Vlt (Pturn Y X k c) ∧ But g U wr) (fun _ i _ => 17 - (intOf i).toNat)
          case atStart => exact ⟨0, 0, Y, by omega, rfl, rfl, by decide, hgY, vlt ⟨HYL.out, fun _ _ => rfl, fun _ h => by omega, fun _ => by simp [lvN], fun h => by omega, by decide⟩, hbt⟩
          case round =>
            clear hgY hbt
            obtain ⟨k, c, X, hk, rfl, rfl, lc, hgX, hp, hbt⟩ := hrel
            have HXL := Lib.hid hp.out.len
            by_cases hlk : k < 17
            · have hk17 : (k : Int) < 17 := by omega
              have c0 := long_at hgX.out k (by rw [HXL.out]; exact hlk)
              have f0 : wr.frozen? ⟨g, k, none⟩ = false := frozen_of_row _ _ _ _ _ hgX.out
              rw [hp.out.rest k (Nat.le_refl _)] at c0
              have ly := natAt_mem HYB.out (by decide) k
              have HS1 := vlt (show k < 16 → Pturn Y (X.set k ((c + natAt Y k) % 256)) (k + 1) ((c + natAt Y k) / 256) from fun h => Pturn.step HYL.out HYB.out hp.out h)
              have HS2 := vlt (show k = 16 → Pturn Y (X.set k ((c + natAt Y k) % 4)) (k + 1) ((c + natAt Y k) / 4) from fun h => by subst h; exact Pturn.last HYL.out HYB.out hp.out)
              generalize natAt Y k = y0 at *
              obtain ⟨v, ev, hv, lv⟩ : ∃ v : Nat, (c : Int) + (y0 : Int) = (v : Int) ∧ v = c + y0 ∧ v < 2305843009213693952 := ⟨_, by omega, rfl, by omega⟩
              rw [← hv] at HS1 HS2
              clear hv hp
              by_cases hk16 : k < 16
              · have hki : (k : Int) < 16 := by omega
                have e1 := and8l v (by omega)
                have e3 : (v : Int) / 256 = ((v / 256 : Nat) : Int) := by omega
                have HP := vlt (HS1.out hk16)
                have ld : v / 256 < 1152921504606846976 := by omega
                have hset := world_set_cell hgX.out k (.int .u64 ((v % 256 : Nat) : Int))
                rw [u64v_set] at hset
                have hb2 := hbt.set (i := k) (.int .u64 ((v % 256 : Nat) : Int))
                clear HS1 HS2
                generalize v % 256 = q at *
                generalize v / 256 = d at *
                go_wp2
                exact ⟨⟨k + 1, d, _, by omega, by go_num, rfl, ld, hset, HP, hb2⟩, by simp [intOf]; omega⟩
              · have hki : ¬ (k : Int) < 16 := by omega
                have e1 := and2l v (by omega)
                have e3 : (v : Int) / 4 = ((v / 4 : Nat) : Int) := by omega
                have HP := vlt (HS2.out (by omega))
                have ld : v / 4 < 1152921504606846976 := by omega
                have hset := world_set_cell hgX.out k (.int .u64 ((v % 4 : Nat) : Int))
                rw [u64v_set] at hset
                have hb2 := hbt.set (i := k) (.int .u64 ((v % 4 : Nat) : Int))
                clear HS1 HS2
                generalize v % 4 = q at *
                generalize v / 4 = d at *
                go_wp2
                exact ⟨⟨k + 1, d, _, by omega, by go_num, rfl, ld, hset, HP, hb2⟩, by simp [intOf]; omega⟩
            · have hki : ¬ (k : Int) < 17 := by omega
              obtain ⟨hs1, hs2, hs3⟩ := Pturns.step hpt.out hlt3 (by have := hp.out; rwa [show k = 17 by omega] at this)
              have HP := vlt hs1
              have c0 := long_at hgX.out 0 (by rw [HXL.out]; decide)
              have f0 : wr.frozen? ⟨g, 0, none⟩ = false := frozen_of_row _ _ _ _ _ hgX.out
              have hset := world_set_cell hgX.out 0 (.int .u64 ((natAt X 0 + 5 * c : Nat) : Int))
              rw [u64v_set] at hset
              have hb2 := hbt.set (i := 0) (.int .u64 ((natAt X 0 + 5 * c : Nat) : Int))
              obtain ⟨s, es, hs⟩ : ∃ s : Nat, (natAt X 0 : Int) + 5 * (c : Int) = (s : Int) ∧ s = natAt X 0 + 5 * c := ⟨_, by omega, rfl⟩
              rw [← hs] at hset hb2 HP
              clear hs1 hp hpt hs
              generalize natAt X 0 = x0 at *
              go_wp2
              exact ⟨⟨t + 1, _, by omega, by go_num, hset, HP, hb2⟩, by simp [intOf]; omega⟩
        · have ht3 : ¬ (t : Int) < 3 := by omega
          obtain ⟨hd, _, hV⟩ := hpt.out.end_ (by omega)
          have HD := vlt (show ∀ j, j < 17 → natAt Y j < 256 from hd)
          have HV := vlt (show lvN Y < 1361129467683753853853498429727072845824 ∧ lvN Y % PP = lvN A * lvN B % PP from ⟨hV, hpt.out.val⟩)
          have HYL := Lib.hid hpt.out.len
          have hgR2 : Hid (wr.heap[R]? = some (.cells (u32v z17).toArray 50 (0, 0))) := (hbt.block _ hsR (by intro e; injection e; omega)).trans hgR.out
          have hgZ5 : Hid (wr.heap[w.heap.size + 2]? = some (.cells (u32v z17).toArray 50 (0, 0))) := (hbt.block _ (by omega) (by intro e; injection e; omega)).trans hgZ4.out
          have hbw : Below w.heap.size w wr := But.below hbU hbt (by omega) hbU.size
          have hsw : R < wr.heap.size := by have := hbt.size; omega
          clear hd hV hpt hgR hgZ4 hbU hbt
          obtain ⟨U2, hU2⟩ : ∃ U2, U2 = wr := ⟨_, rfl⟩
          subst hU2
          go_wp2_with fail
          go_loopw [13] (fun kk ws => ∃ (k : Nat), k ≤ 17 ∧ kk = .int .i64 (k : Int) ∧ Hid (ws.heap[R]? = some (.cells (u32v (uptoW 17 (Y.take k))).toArray 50 (0, 0))) ∧ But R U2 ws) (fun i _ => 17 - (intOf i).toNat)
          case atStart => exact ⟨0, by omega, rfl, hgR2, But.refl _ _⟩
          case round =>
            clear hgR2
            obtain ⟨k, hk, rfl, hgr, hbt⟩ := hrel
            by_cases hlk : k < 17
            · have hk17 : (k : Int) < 17 := by omega
              have hgYr : Hid (wr.heap[g]? = some (.cells (u64v Y).toArray 59 (0, 0))) := (hbt.block _ (by omega) (by intro e; injection e; omega)).trans hgY.out
              have c0 := long_at hgYr.out k (by rw [HYL.out]; exact hlk)
              have hl : (Y.take k).length = k := by rw [List.length_take, HYL.out]; omega
              have c1 := word_at hgr.out k (by rw [uptoW_len 17 _ (by rw [hl]; omega)]; exact hlk)
              have f0 : wr.frozen? ⟨R, k, none⟩ = false := frozen_of_row _ _ _ _ _ hgr.out
              have lx := HD.out k hlk
              have hset := world_set_cell hgr.out k (.int .u32 ((natAt Y k : Nat) : Int))
              have e1 : (uptoW 17 (Y.take k)).set k (natAt Y k) = uptoW 17 (Y.take (k + 1)) := by
                have h1 := uptoW_set 17 (Y.take k) (natAt Y k) (by rw [hl]; exact hlk)
                rw [hl] at h1
                rw [h1, List.take_succ_eq_append_getElem (by rw [HYL.out]; exact hlk)]
                congr 3
                simp [natAt, List.getElem?_eq_getElem (show k < Y.length by rw [HYL.out]; exact hlk)]
              rw [u32v_set, e1] at hset
              have hb2 := hbt.set (i := k) (.int .u32 ((natAt Y k : Nat) : Int))
              clear e1 hl
              generalize natAt Y k = x at *
              generalize natAt (uptoW 17 (Y.take k)) k = z at *
              go_wp2
              exact ⟨⟨k + 1, by omega, by go_num, hset, hb2⟩, by simp [intOf]; omega⟩
            · have hki : ¬ (k : Int) < 17 := by omega
              have hgf : Hid (wr.heap[R]? = some (.cells (u32v Y).toArray 50 (0, 0))) := by
                have h1 := hgr.out
                rw [List.take_of_length_le (by rw [HYL.out]; omega), uptoW_all 17 Y HYL.out] at h1
                exact h1
              have hsY := Lib.hid (show (u32v Y).toArray.size = 17 by simp [u32v_len, HYL.out])
              have HZS := Lib.hid (show (u32v z17).toArray.size = 17 from rfl)
              have hgZ6 : Hid (wr.heap[w.heap.size + 1 + 1]? = some (.cells (u32v z17).toArray 50 (0, 0))) := (hbt.block _ (by omega) (by intro e; injection e; omega)).trans hgZ5.out
              have hbw2 : Below w.heap.size w wr := But.below hbw hbt (by omega) hbw.size
              have HRES := vlt (show (∀ j, j < 17 → natAt Y j < 256) ∧ lvN Y < 1361129467683753853853498429727072845824 ∧ lvN Y % PP = lvN A * lvN B % PP from ⟨HD.out, HV.out⟩)
              clear hgr
              go_wp2_with (first
                | (with_reducible refine wpList_load_row rfl 50 (.tmp 9) rfl R rfl 50 (u32v Y).toArray (0, 0) _ hgf.out Try.underlying50 rfl (by rw [hsY.out]; kernel_rfl) ?_)
                | (with_reducible refine wpList_store_row rfl 50 (.tmp 4) (.tmp 103) rfl (w.heap.size + 1 + 1) (u32v Y).toArray rfl rfl 50 _ hgZ6.out (by rw [hsY.out]; kernel_rfl) (by rw [hsY.out]; exact HZS.out) (all_oneCell_toArray (u32v_one _)) ?_))
              refine bodyPost_ret (v := .agg (u32v Y).toArray) (results_cell_row Try.results20 _ _ (w.heap.size + 1 + 1) 50 _ (0, 0) _ rfl (setRow_heap _ _ _ _ _ _ hgZ6.out) Try.underlying50 rfl (by rw [hsY.out]; kernel_rfl)) rfl ⟨Y, rfl, HYL, HRES, below_setRow hbw2 (by omega) _⟩
end Go.Proofs.Ytioodeiloepaaaa
