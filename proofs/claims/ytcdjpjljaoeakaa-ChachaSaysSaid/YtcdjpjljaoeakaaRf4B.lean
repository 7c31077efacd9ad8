/-
  Contract of the document's own Block of chapter 4. Conditions: a key of 32 bytes, a nonce of 12, a count below 2^32.
-/
import Derived.Test.YtcdjpjljaoeakaaRf4Q
import Derived.Test.YtcdjpjljaoeakaaRefAL
import Derived.Test.YtcdjpjljaoeakaaChX
namespace Go.Proofs.Ytcdjpjljaoeakaa
open Go.RowKit

theorem wpList_build_to {P : Program} {ops : Array Oper} {rest : List Oper} {o : Oper} {a : Act} {w : World} {Q : Exit → Act → World → Prop} (hg : o.guard = none) (t : TypeId) (parts : Array (Nat × Operand)) (ho : o.op = .build t parts) (lst : List (Nat × Value)) (hp : (parts.map fun (i, x) => (i, a.eval x)).toList = lst) (cs : Array Value) (hf : P.built t lst = some cs)
    (h : wpList P ops Q rest (a.put o.dst (.agg cs)) w) : wpList P ops Q (o :: rest) a w :=
  wpList_build hg t parts ho (by rw [hp, hf]; rfl) (by rw [hp, hf]; exact h)
def cs4 : List Nat := [1634760805, 857760878, 2036477234, 1797285236]
def s16 : List Nat := uptoW 16 cs4
theorem built_s : Try.prog.built 48 [(0, .int .u32 1634760805), (1, .int .u32 857760878), (2, .int .u32 2036477234), (3, .int .u32 1797285236)] = some (u32v s16).toArray := by kernel_rfl
theorem built_blk : Try.prog.built 36 [] = some (bv z64).toArray := by kernel_rfl
theorem ln_le4 (v : Nat) (hv : v < 4294967296) : ln (le v 4) = v := by
  have e : ∀ n, ln (le v n) = v % 256 ^ n := by
    intro n
    induction n with
    | zero => simp [le, ln, Nat.mod_one]
    | succ n ih =>
      have e0 : 2 ^ (8 * n) = 256 ^ n := by rw [Nat.pow_mul]
      have e1 : 256 ^ (n + 1) = 256 ^ n * 256 := Nat.pow_succ 256 n
      have e2 : (UInt8.ofNat (v / 256 ^ n)).toNat = v / 256 ^ n % 256 := UInt8.toNat_ofNat'
      rw [le, ln_snoc, ih, le_len, e0, e1, e2, Nat.mod_mul, Nat.mul_comm (256 ^ n)]
  rw [e, show (256 : Nat) ^ 4 = 4294967296 from rfl]
  exact Nat.mod_eq_of_lt hv
theorem lw_ahead : lw aheadB 4 = cs4 := by decide +kernel
theorem first_parts (key nonce : List UInt8) (count : Nat) (hk : key.length = 32) (hc : count < 4294967296) : firstOf key count nonce = cs4 ++ lw key 8 ++ [count] ++ lw nonce 3 := by
  have h1 := lw_app (aheadB ++ key ++ le count 4) nonce 13 (by simp [aheadB, le_len, hk]) 3
  have h2 := lw_app (aheadB ++ key) (le count 4) 12 (by simp [aheadB, hk]) 1
  have h3 := lw_app aheadB key 4 (by simp [aheadB]) 8
  have h4 : lw (le count 4) 1 = [count] := by
    show [] ++ [ln (((le count 4).drop (4 * 0)).take 4)] = [count]
    rw [Nat.mul_zero, List.drop_zero, List.take_of_length_le (by rw [le_len]; decide), ln_le4 count hc, List.nil_append]
  rw [firstOf, rowOf, h1, h2, h3, lw_ahead, h4]
theorem byt_row_at {w : World} {g k : Nat} {l : List UInt8} {t : TypeId} (hg : w.heap[g]? = some (.cells (bv l).toArray t (0, 0))) : Byt w w.heap.size (some ⟨g, k, none⟩) (l.drop k) := by
  refine .inr ⟨g, k, rfl, (Array.getElem?_eq_some_iff.1 hg).1, fun j b hj => ?_⟩
  rw [cell_of_row _ _ _ _ _ _ hg]
  rw [List.getElem?_drop] at hj
  simp only [List.getElem?_toArray, bv_at, hj]; rfl
theorem refLittle4n (v : Nat) (w : World) (hv : v < 4294967296) :
    Calls Try.prog 24 #[.slice none 0 0, .int .u64 (v : Int), .int .i64 4] w fun e w' => ∃ A c, e = .returned (.slice A 4 c) ∧ Res w' w.heap.size 5 A 4 c (le v 4) ∧ Below w.heap.size w w' := by
  have h := refLittle_any none [] 0 0 v 4 w Byt.none_ rfl (by decide) (by omega)
  exact h
/-- The next word is laid. -/
theorem row_next {w : World} {g k v : Nat} {l : List Nat} {t : TypeId} (hl : l.length = k) (hk : k < 16) (hg : w.heap[g]? = some (.cells (u32v (uptoW 16 l)).toArray t (0, 0))) :
    (w.setCell ⟨g, k, none⟩ (.int .u32 (v : Int))).heap[g]? = some (.cells (u32v (uptoW 16 (l ++ [v]))).toArray t (0, 0)) := by
  have h1 := heap_setCell_same w g k _ _ (.int .u32 (v : Int)) hg
  refine h1.trans ?_
  have h2 := uptoW_set 16 l v (by omega)
  rw [hl] at h2
  rw [← h2, ← u32v_set]
  simp
theorem row_cell {w : World} {g k : Nat} {l : List Nat} {t : TypeId} (hl : l.length = k) (hk : k < 16) (hg : w.heap[g]? = some (.cells (u32v (uptoW 16 l)).toArray t (0, 0))) : w.cell? ⟨g, k, none⟩ = some (.int .u32 0) := by
  have hx := uptoW_at 16 l (by omega)
  rw [hl] at hx
  rw [cell_of_row _ _ _ _ _ _ hg]
  simp [u32v_at, hx]

set_option maxRecDepth 100000 in
set_option maxHeartbeats 1000000 in
theorem refBlock_any (w : World) (key nonce : List UInt8) (count : Nat) (hk : key.length = 32) (hn : nonce.length = 12) (hc : count < 4294967296) :
    Calls Try.prog 14 #[.agg (bv key).toArray, .int .u32 (count : Int), .agg (bv nonce).toArray] w fun e w' => e = .returned (.agg (bv (blockOf key count nonce)).toArray) ∧ Below w.heap.size w w' := by
  have hz := zero_w16
  have hzb := zero_b64
  have HK := Lib.hid hk
  have HN := Lib.hid hn
  have HZS := Lib.hid (show (u32v z16w).toArray.size = 16 from rfl)
  have HS16 := Lib.hid (show (u32v s16).toArray.size = 16 from rfl)
  have HFP := vlt (first_parts key nonce count hk hc)
  obtain ⟨W, hW, hgK, hgN, hgZ, hbW, hsW⟩ := three_new w (bv key).toArray (bv nonce).toArray (bv z64).toArray 31 32 36
  have HW := Lib.hid hW
  clear hW hk hn
  have hsW0 : w.heap.size < W.heap.size := by have := hsW.out; omega
  have hsW1 : w.heap.size + 1 < W.heap.size := by have := hsW.out; omega
  have hsW2 : w.heap.size + 2 < W.heap.size := by have := hsW.out; omega
  go_enter Try.func14, Try.ntmps14
  go_upto_region 1 with fail
  rw [HW.out]
  go_upto_region 2 with (first
    | (with_reducible refine wpList_build_to rfl 48 _ rfl [(0, .int .u32 1634760805), (1, .int .u32 857760878), (2, .int .u32 2036477234), (3, .int .u32 1797285236)] (by rfl) _ built_s ?_)
    | ((with_reducible refine wpList_store_row rfl 48 (.tmp 7) (.tmp 19) rfl W.heap.size (u32v s16).toArray rfl rfl 48 _ (heap_alloc_new _ _) (by rw [HS16.out]; kernel_rfl) (by rw [HS16.out]; exact HZS.out) (all_oneCell_toArray (u32v_one _)) ?_); rw [World.setRow_alloc_new]))
  have hg7 : Hid ((W.alloc (.cells (u32v s16).toArray 48)).heap[W.heap.size]? = some (.cells (u32v (uptoW 16 (cs4 ++ lw key 0))).toArray 48 (0, 0))) := by
    show _ = _
    rw [show uptoW 16 (cs4 ++ lw key 0) = s16 from rfl]; exact heap_alloc_new _ _
  have hb7 : Below W.heap.size W (W.alloc (.cells (u32v s16).toArray 48)) := (Below.refl _ _).alloc (Nat.le_refl _) _
  generalize W.alloc (.cells (u32v s16).toArray 48) = w2 at *
  go_wp2
  go_loopw [8] (fun i wr => ∃ k : Nat, k ≤ 8 ∧ i = .int .i64 (k : Int) ∧ Hid (wr.heap[W.heap.size]? = some (.cells (u32v (uptoW 16 (cs4 ++ lw key k))).toArray 48 (0, 0))) ∧ Below W.heap.size W wr) (fun i _ => 8 - (intOf i).toNat)
  case atStart => exact ⟨0, by omega, rfl, hg7, hb7⟩
  case round =>
    clear hg7 hb7
    obtain ⟨k, hk, rfl, hg, hb⟩ := hrel
    by_cases hlt : k < 8
    · have hcut := cut_l Try.underlying31 Try.sizeByte w.heap.size 0 (4 * k) (4 * (k : Int)) (by omega) (by omega)
      rw [Nat.zero_add] at hcut
      have hgKr : wr.heap[w.heap.size]? = some (.cells (bv key).toArray 31 (0, 0)) := (hb.block _ hsW0).trans hgK.out
      have hword := refWord_any (some ⟨w.heap.size, 4 * k, none⟩) (key.drop (4 * k)) (32 - 4 * k) (32 - 4 * k) wr (byt_row_at hgKr) (by rw [List.length_drop, HK.out]) (by omega) (Nat.le_refl _)
      clear hgKr
      go_wp2_with fail
      refine hword.mono ?_
      rintro e w5 ⟨v, rfl, hv, lv, hb5⟩
      clear hword hcut
      have hl4 : (cs4 ++ lw key k).length = 4 + k := by rw [List.length_append, lw_len]; rfl
      have hg5 : Hid (w5.heap[W.heap.size]? = some (.cells (u32v (uptoW 16 (cs4 ++ lw key k))).toArray 48 (0, 0))) := (hb5.block _ (Array.getElem?_eq_some_iff.1 hg.out).1).trans hg.out
      have hcl := row_cell hl4 (by omega) hg5.out
      have hf : w5.frozen? ⟨W.heap.size, 4 + k, none⟩ = false := frozen_of_row _ _ _ _ _ hg5.out
      have hnx : Hid ((w5.setCell ⟨W.heap.size, 4 + k, none⟩ (.int .u32 (v : Int))).heap[W.heap.size]? = some (.cells (u32v (uptoW 16 (cs4 ++ lw key (k + 1)))).toArray 48 (0, 0))) := by
        have h1 := row_next (v := v) hl4 (by omega) hg5.out
        rw [hv.out, List.append_assoc] at h1
        rw [lw, hv.out]
        exact h1
      have hb6 : Below W.heap.size W (w5.setCell ⟨W.heap.size, 4 + k, none⟩ (.int .u32 (v : Int))) := (below_next hb hb.size hb5).setCell (Nat.le_refl _) _
      clear hl4
      go_wp2
      go_roundw
      case rel => exact ⟨k + 1, by omega, by go_num, hnx, hb6⟩
      case measure => simp [intOf]; omega
    · have HK8 := Lib.hid (show k = 8 by omega)
      have hg1 : Hid (wr.heap[W.heap.size]? = some (.cells (u32v (uptoW 16 (cs4 ++ lw key 8))).toArray 48 (0, 0))) := by
        have h1 := hg.out
        rw [HK8.out] at h1
        exact h1
      have hl12 : (cs4 ++ lw key 8).length = 12 := by rw [List.length_append, lw_len]; rfl
      have hcl := row_cell hl12 (by omega) hg1.out
      have hf : wr.frozen? ⟨W.heap.size, 12, none⟩ = false := frozen_of_row _ _ _ _ _ hg1.out
      have hnx : Hid ((wr.setCell ⟨W.heap.size, 12, none⟩ (.int .u32 (count : Int))).heap[W.heap.size]? = some (.cells (u32v (uptoW 16 (cs4 ++ lw key 8 ++ [count] ++ lw nonce 0))).toArray 48 (0, 0))) := by
        have h1 := row_next (v := count) hl12 (by omega) hg1.out
        rw [lw, List.append_nil]
        exact h1
      have hb3 : Below W.heap.size W (wr.setCell ⟨W.heap.size, 12, none⟩ (.int .u32 (count : Int))) := hb.setCell (Nat.le_refl _) _
      clear hl12 hg hg1 hb HK8
      go_upto_region 7 with fail
      generalize wr.setCell ⟨W.heap.size, 12, none⟩ (.int .u32 (count : Int)) = w3 at *
      clear hcl hf
      generalize decide ((k : Int) < 8) = d1
      go_wp2
      go_loopw [9] (fun i wr => ∃ k : Nat, k ≤ 3 ∧ i = .int .i64 (k : Int) ∧ Hid (wr.heap[W.heap.size]? = some (.cells (u32v (uptoW 16 (cs4 ++ lw key 8 ++ [count] ++ lw nonce k))).toArray 48 (0, 0))) ∧ Below W.heap.size W wr) (fun i _ => 3 - (intOf i).toNat)
      case atStart => exact ⟨0, by omega, rfl, hnx, hb3⟩
      case round =>
        clear hnx hb3 hk hlt
        obtain ⟨k2, hk, rfl, hg, hb⟩ := hrel
        by_cases hlt : k2 < 3
        · have hcut := cut_l Try.underlying32 Try.sizeByte (w.heap.size + 1) 0 (4 * k2) (4 * (k2 : Int)) (by omega) (by omega)
          rw [Nat.zero_add] at hcut
          have hgNr : wr.heap[w.heap.size + 1]? = some (.cells (bv nonce).toArray 32 (0, 0)) := (hb.block _ hsW1).trans hgN.out
          have hword := refWord_any (some ⟨w.heap.size + 1, 4 * k2, none⟩) (nonce.drop (4 * k2)) (12 - 4 * k2) (12 - 4 * k2) wr (byt_row_at hgNr) (by rw [List.length_drop, HN.out]) (by omega) (Nat.le_refl _)
          clear hgNr
          go_wp2_with fail
          refine hword.mono ?_
          rintro e w5 ⟨v, rfl, hv, lv, hb5⟩
          clear hword hcut
          have hl4 : (cs4 ++ lw key 8 ++ [count] ++ lw nonce k2).length = 13 + k2 := by rw [List.length_append, List.length_append, List.length_append, lw_len, lw_len]; rfl
          have hg5 : Hid (w5.heap[W.heap.size]? = some (.cells (u32v (uptoW 16 (cs4 ++ lw key 8 ++ [count] ++ lw nonce k2))).toArray 48 (0, 0))) := (hb5.block _ (Array.getElem?_eq_some_iff.1 hg.out).1).trans hg.out
          have hcl := row_cell hl4 (by omega) hg5.out
          have hf : w5.frozen? ⟨W.heap.size, 13 + k2, none⟩ = false := frozen_of_row _ _ _ _ _ hg5.out
          have hnx : Hid ((w5.setCell ⟨W.heap.size, 13 + k2, none⟩ (.int .u32 (v : Int))).heap[W.heap.size]? = some (.cells (u32v (uptoW 16 (cs4 ++ lw key 8 ++ [count] ++ lw nonce (k2 + 1)))).toArray 48 (0, 0))) := by
            have h1 := row_next (v := v) hl4 (by omega) hg5.out
            rw [hv.out, List.append_assoc (cs4 ++ lw key 8 ++ [count])] at h1
            rw [show lw nonce (k2 + 1) = lw nonce k2 ++ [ln ((nonce.drop (4 * k2)).take 4)] from rfl, hv.out]
            exact h1
          have hb6 : Below W.heap.size W (w5.setCell ⟨W.heap.size, 13 + k2, none⟩ (.int .u32 (v : Int))) := (below_next hb hb.size hb5).setCell (Nat.le_refl _) _
          clear hl4
          go_wp2
          go_roundw
          case rel => exact ⟨k2 + 1, by omega, by go_num, hnx, hb6⟩
          case measure => simp [intOf]; omega
        · obtain ⟨F, hF⟩ : ∃ F, F = firstOf key count nonce := ⟨_, rfl⟩
          have hgF : Hid (wr.heap[W.heap.size]? = some (.cells (u32v F).toArray 48 (0, 0))) := by
            have h1 := hg.out
            rw [show k2 = 3 by omega, ← HFP.out, uptoW_all 16 _ (firstOf_len _ _ _), ← hF] at h1
            exact h1
          have HFL := Lib.hid (show F.length = 16 by rw [hF]; exact firstOf_len _ _ _)
          have hFs : small32 F := by rw [hF]; exact firstOf_small _ _ _
          have HFS := Lib.hid (show (u32v F).toArray.size = 16 by simp [u32v_len, HFL.out])
          have HF := vlt hF
          have hsr : W.heap.size < wr.heap.size := (Array.getElem?_eq_some_iff.1 hgF.out).1
          clear hF hg HFP
          go_upto_region 12 with (first
            | (with_reducible refine wpList_load_row rfl 48 (.tmp 7) rfl W.heap.size rfl 48 (u32v F).toArray (0, 0) _ hgF.out Try.underlying48 rfl (by rw [HFS.out]; kernel_rfl) ?_)
            | ((with_reducible refine wpList_store_row rfl 48 (.tmp 10) (.tmp 44) rfl wr.heap.size (u32v F).toArray rfl rfl 48 _ (heap_alloc_new _ _) (by rw [HFS.out]; kernel_rfl) (by rw [HFS.out]; exact HZS.out) (all_oneCell_toArray (u32v_one _)) ?_); rw [World.setRow_alloc_new]))
          have hg10 : Hid ((wr.alloc (.cells (u32v F).toArray 48)).heap[wr.heap.size]? = some (.cells (u32v (rounds F 0)).toArray 48 (0, 0))) := heap_alloc_new _ _
          have hgF2 : Hid ((wr.alloc (.cells (u32v F).toArray 48)).heap[W.heap.size]? = some (.cells (u32v F).toArray 48 (0, 0))) := (Below.heap_alloc _ _ _ hsr).trans hgF.out
          have hbV : Below W.heap.size W (wr.alloc (.cells (u32v F).toArray 48)) := hb.alloc (Nat.le_of_lt hsr) _
          have hsV : wr.heap.size < (wr.alloc (.cells (u32v F).toArray 48)).heap.size := by simp
          generalize wr.alloc (.cells (u32v F).toArray 48) = V at *
          obtain ⟨G, hG⟩ : ∃ G, G = wr.heap.size := ⟨_, rfl⟩
          rw [← hG] at hg10 hsV hsr ⊢
          clear hG hgF hb hk hlt
          generalize decide ((k2 : Int) < 3) = d2
          go_wp2
          go_loopw [11] (fun i wt => ∃ k : Nat, k ≤ 10 ∧ i = .int .i64 (k : Int) ∧ Hid (wt.heap[G]? = some (.cells (u32v (rounds F k)).toArray 48 (0, 0))) ∧ But G V wt) (fun i _ => 10 - (intOf i).toNat)
          case atStart => exact ⟨0, by omega, rfl, hg10, But.refl _ _⟩
          case round =>
            clear hg10
            obtain ⟨r, hr, rfl, hgr, hbr⟩ := hrel
            by_cases hlt : r < 10
            · obtain ⟨X, hX⟩ : ∃ X, X = rounds F r := ⟨_, rfl⟩
              rw [← hX] at hgr
              have HXL := Lib.hid (show X.length = 16 by rw [hX, rounds_len]; exact HFL.out)
              have hXs : small32 X := by rw [hX]; exact rounds_small F hFs r
              have HX := vlt (show rounds F (r + 1) = half (half X 0 4) 1 4 by rw [rounds, ← hX]; rfl)
              clear hX
              go_wp2
              generalize decide ((r : Int) < 10) = d3
              go_loopw [12] (fun i wt => ∃ n : Nat, n ≤ 4 ∧ i = .int .i64 (n : Int) ∧ Hid (wt.heap[G]? = some (.cells (u32v (half X 0 n)).toArray 48 (0, 0))) ∧ But G V wt) (fun i _ => 4 - (intOf i).toNat)
              case atStart => exact ⟨0, by omega, rfl, hgr, hbr⟩
              case round =>
                clear hgr hbr
                obtain ⟨n, hn, rfl, hgn, hbn⟩ := hrel
                by_cases hlt2 : n < 4
                · skip
                  obtain ⟨Y, hY⟩ : ∃ Y, Y = half X 0 n := ⟨_, rfl⟩
                  rw [← hY] at hgn
                  have HYL := Lib.hid (show Y.length = 16 by rw [hY, half_len]; exact HXL.out)
                  have hYs : small32 Y := by rw [hY]; exact half_small X 0 hXs n
                  obtain ⟨j, hj⟩ : ∃ j, j = 4 + (n + 0) % 4 := ⟨_, rfl⟩
                  obtain ⟨k, hk'⟩ : ∃ k, k = 8 + (n + 2 * 0) % 4 := ⟨_, rfl⟩
                  obtain ⟨m, hm⟩ : ∃ m, m = 12 + (n + 3 * 0) % 4 := ⟨_, rfl⟩
                  have HH := vlt (show half X 0 (n + 1) = q4 Y n j k m by rw [half, ← hY, hj, hk', hm])
                  have ln : n < 16 := by omega
                  have lj : j < 16 := by omega
                  have lk : k < 16 := by omega
                  have lm : m < 16 := by omega
                  have in_ : (n : Int) < 16 := by omega
                  have ij : (j : Int) < 16 := by omega
                  have ik : (k : Int) < 16 := by omega
                  have im : (m : Int) < 16 := by omega
                  have hw1 : IntKind.i64.wrap (4 + (n : Int)) = (j : Int) := by rw [IntWalk.i64_in _ (by omega)]; omega
                  have hw2 : IntKind.i64.wrap (8 + (n : Int)) = (k : Int) := by rw [IntWalk.i64_in _ (by omega)]; omega
                  have hw3 : IntKind.i64.wrap (12 + (n : Int)) = (m : Int) := by rw [IntWalk.i64_in _ (by omega)]; omega
                  clear hY hj hk' hm
                  have c0 := word_at hgn.out n (by rw [HYL.out]; exact ln)
                  have c1 := word_at hgn.out j (by rw [HYL.out]; exact lj)
                  have c2 := word_at hgn.out k (by rw [HYL.out]; exact lk)
                  have c3 := word_at hgn.out m (by rw [HYL.out]; exact lm)
                  have HQ := Lib.hid (fun p q r s => q4_eq (s := Y) (i := n) (j := j) (k := k) (l := m) (p := p) (q := q) (r := r) (t := s))
                  have b1 := hYs.at_ j
                  have b3 := hYs.at_ m
                  generalize natAt Y n = x0 at *
                  generalize natAt Y j = x1 at *
                  generalize natAt Y k = x2 at *
                  generalize natAt Y m = x3 at *
                  go_wp2_with fail
                  refine c_start (S := (fun W => W.cell? ⟨G, n, none⟩ = some (.int .u32 (x0 : Int)) ∧ W.cell? ⟨G, j, none⟩ = some (.int .u32 (x1 : Int)) ∧ W.cell? ⟨G, k, none⟩ = some (.int .u32 (x2 : Int)) ∧ W.cell? ⟨G, m, none⟩ = some (.int .u32 (x3 : Int)))) 22 (by kernel_rfl) (⟨c0, c1, c2, c3⟩) (fun hHeld => ?_)
                  refine c_take (i := 0) (oi := ⟨(some 54), _, _, _, _, _⟩) (v := ?vq1_0) rfl (by decide) (by kernel_rfl) (by kernel_rfl) (by kernel_rfl) (fun _ _ _ h => h) (Or.inl ⟨by rfl, ?yq1_0⟩) hHeld ?_
                  case yq1_0 => (intro W0 hSw; go_simp; try with_reducible rfl)
                  try simp only [Act.put, List.setIfInBounds_toArray, List.set_cons_zero, List.set_cons_succ]
                  refine c_take (i := 1) (oi := ⟨(some 55), _, _, _, _, _⟩) (v := ?vq1_1) rfl (by decide) (by kernel_rfl) (by kernel_rfl) (by kernel_rfl) (fun _ _ _ h => h) (Or.inl ⟨by rfl, ?yq1_1⟩) hHeld ?_
                  case yq1_1 => (intro W0 hSw; go_simp; try with_reducible rfl)
                  try simp only [Act.put, List.setIfInBounds_toArray, List.set_cons_zero, List.set_cons_succ]
                  refine c_take (i := 2) (oi := ⟨(some 56), _, _, _, _, _⟩) (v := ?vq1_2) rfl (by decide) (by kernel_rfl) (by kernel_rfl) (by kernel_rfl) (fun _ _ _ h => h) (Or.inl ⟨by rfl, ?yq1_2⟩) hHeld ?_
                  case yq1_2 => (intro W0 hSw; go_simp; try with_reducible rfl)
                  try simp only [Act.put, List.setIfInBounds_toArray, List.set_cons_zero, List.set_cons_succ]
                  refine c_take (i := 3) (oi := ⟨(some 57), _, _, _, _, _⟩) (v := ?vq1_3) rfl (by decide) (by kernel_rfl) (by kernel_rfl) (by kernel_rfl) (fun _ _ _ h => h) (Or.inl ⟨by rfl, ?yq1_3⟩) hHeld ?_
                  case yq1_3 => (intro W0 hSw; go_simp; try with_reducible rfl)
                  try simp only [Act.put, List.setIfInBounds_toArray, List.set_cons_zero, List.set_cons_succ]
                  refine c_take (i := 4) (oi := ⟨(some 58), _, _, _, _, _⟩) (v := ?vq1_4) rfl (by decide) (by kernel_rfl) (by kernel_rfl) (by kernel_rfl) (fun _ _ _ h => h) (Or.inl ⟨by rfl, ?yq1_4⟩) hHeld ?_
                  case yq1_4 => (intro W0 hSw; go_simp; try with_reducible rfl)
                  try simp only [Act.put, List.setIfInBounds_toArray, List.set_cons_zero, List.set_cons_succ]
                  refine c_take (i := 5) (oi := ⟨(some 59), _, _, _, _, _⟩) (v := ?vq1_5) rfl (by decide) (by kernel_rfl) (by kernel_rfl) (by kernel_rfl) (fun _ _ _ h => h) (Or.inl ⟨by rfl, ?yq1_5⟩) hHeld ?_
                  case yq1_5 => (intro W0 hSw; go_simp; try with_reducible rfl)
                  try simp only [Act.put, List.setIfInBounds_toArray, List.set_cons_zero, List.set_cons_succ]
                  refine c_take (i := 6) (oi := ⟨(some 60), _, _, _, _, _⟩) (v := ?vq1_6) rfl (by decide) (by kernel_rfl) (by kernel_rfl) (by kernel_rfl) (fun _ _ _ h => h) (Or.inl ⟨by rfl, ?yq1_6⟩) hHeld ?_
                  case yq1_6 => (intro W0 hSw; go_simp; try with_reducible rfl)
                  try simp only [Act.put, List.setIfInBounds_toArray, List.set_cons_zero, List.set_cons_succ]
                  refine c_take (i := 7) (oi := ⟨(some 61), _, _, _, _, _⟩) (v := ?vq1_7) rfl (by decide) (by kernel_rfl) (by kernel_rfl) (by kernel_rfl) (fun _ _ _ h => h) (Or.inl ⟨by rfl, ?yq1_7⟩) hHeld ?_
                  case yq1_7 => (intro W0 hSw; go_simp; try with_reducible rfl)
                  try simp only [Act.put, List.setIfInBounds_toArray, List.set_cons_zero, List.set_cons_succ]
                  refine c_take (i := 8) (oi := ⟨(some 62), _, _, _, _, _⟩) (v := ?vq1_8) rfl (by decide) (by kernel_rfl) (by kernel_rfl) (by kernel_rfl) (fun _ _ _ h => h) (Or.inl ⟨by rfl, ?yq1_8⟩) hHeld ?_
                  case yq1_8 => (intro W0 hSw; go_simp; try with_reducible rfl)
                  try simp only [Act.put, List.setIfInBounds_toArray, List.set_cons_zero, List.set_cons_succ]
                  refine c_read (i := 9) (oi := ⟨(some 63), _, _, _, _, _⟩) (v := ?vq1_9) rfl (by decide) (by kernel_rfl) (by kernel_rfl) (by kernel_rfl) (by kernel_rfl) (by kernel_rfl) (fun _ _ _ h => h) (Or.inl ⟨by rfl, ?yq1_9⟩) hHeld ?_
                  case yq1_9 => (intro W0 hSw; go_simp; try with_reducible rfl)
                  try simp only [Act.put, List.setIfInBounds_toArray, List.set_cons_zero, List.set_cons_succ]
                  refine c_take (i := 10) (oi := ⟨(some 64), _, _, _, _, _⟩) (v := ?vq1_10) rfl (by decide) (by kernel_rfl) (by kernel_rfl) (by kernel_rfl) (fun _ _ _ h => h) (Or.inl ⟨by rfl, ?yq1_10⟩) hHeld ?_
                  case yq1_10 => (intro W0 hSw; go_simp; try with_reducible rfl)
                  try simp only [Act.put, List.setIfInBounds_toArray, List.set_cons_zero, List.set_cons_succ]
                  refine c_take (i := 11) (oi := ⟨(some 65), _, _, _, _, _⟩) (v := ?vq1_11) rfl (by decide) (by kernel_rfl) (by kernel_rfl) (by kernel_rfl) (fun _ _ _ h => h) (Or.inl ⟨by rfl, ?yq1_11⟩) hHeld ?_
                  case yq1_11 => (intro W0 hSw; go_simp; try with_reducible rfl)
                  try simp only [Act.put, List.setIfInBounds_toArray, List.set_cons_zero, List.set_cons_succ]
                  refine c_take (i := 12) (oi := ⟨(some 66), _, _, _, _, _⟩) (v := ?vq1_12) rfl (by decide) (by kernel_rfl) (by kernel_rfl) (by kernel_rfl) (fun _ _ _ h => h) (Or.inl ⟨by rfl, ?yq1_12⟩) hHeld ?_
                  case yq1_12 => (intro W0 hSw; go_simp; try with_reducible rfl)
                  try simp only [Act.put, List.setIfInBounds_toArray, List.set_cons_zero, List.set_cons_succ]
                  refine c_read (i := 13) (oi := ⟨(some 67), _, _, _, _, _⟩) (v := ?vq1_13) rfl (by decide) (by kernel_rfl) (by kernel_rfl) (by kernel_rfl) (by kernel_rfl) (by kernel_rfl) (fun _ _ _ h => h) (Or.inl ⟨by rfl, ?yq1_13⟩) hHeld ?_
                  case yq1_13 => (intro W0 hSw; go_simp; try with_reducible rfl)
                  try simp only [Act.put, List.setIfInBounds_toArray, List.set_cons_zero, List.set_cons_succ]
                  refine c_take (i := 14) (oi := ⟨(some 68), _, _, _, _, _⟩) (v := ?vq1_14) rfl (by decide) (by kernel_rfl) (by kernel_rfl) (by kernel_rfl) (fun _ _ _ h => h) (Or.inl ⟨by rfl, ?yq1_14⟩) hHeld ?_
                  case yq1_14 => (intro W0 hSw; go_simp; try with_reducible rfl)
                  try simp only [Act.put, List.setIfInBounds_toArray, List.set_cons_zero, List.set_cons_succ]
                  refine c_take (i := 15) (oi := ⟨(some 69), _, _, _, _, _⟩) (v := ?vq1_15) rfl (by decide) (by kernel_rfl) (by kernel_rfl) (by kernel_rfl) (fun _ _ _ h => h) (Or.inl ⟨by rfl, ?yq1_15⟩) hHeld ?_
                  case yq1_15 => (intro W0 hSw; go_simp; try with_reducible rfl)
                  try simp only [Act.put, List.setIfInBounds_toArray, List.set_cons_zero, List.set_cons_succ]
                  refine c_take (i := 16) (oi := ⟨(some 70), _, _, _, _, _⟩) (v := ?vq1_16) rfl (by decide) (by kernel_rfl) (by kernel_rfl) (by kernel_rfl) (fun _ _ _ h => h) (Or.inl ⟨by rfl, ?yq1_16⟩) hHeld ?_
                  case yq1_16 => (intro W0 hSw; go_simp; try with_reducible rfl)
                  try simp only [Act.put, List.setIfInBounds_toArray, List.set_cons_zero, List.set_cons_succ]
                  refine c_read (i := 17) (oi := ⟨(some 71), _, _, _, _, _⟩) (v := ?vq1_17) rfl (by decide) (by kernel_rfl) (by kernel_rfl) (by kernel_rfl) (by kernel_rfl) (by kernel_rfl) (fun _ _ _ h => h) (Or.inl ⟨by rfl, ?yq1_17⟩) hHeld ?_
                  case yq1_17 => (intro W0 hSw; go_simp; try with_reducible rfl)
                  try simp only [Act.put, List.setIfInBounds_toArray, List.set_cons_zero, List.set_cons_succ]
                  refine c_take (i := 18) (oi := ⟨(some 72), _, _, _, _, _⟩) (v := ?vq1_18) rfl (by decide) (by kernel_rfl) (by kernel_rfl) (by kernel_rfl) (fun _ _ _ h => h) (Or.inl ⟨by rfl, ?yq1_18⟩) hHeld ?_
                  case yq1_18 => (intro W0 hSw; go_simp; try with_reducible rfl)
                  try simp only [Act.put, List.setIfInBounds_toArray, List.set_cons_zero, List.set_cons_succ]
                  refine c_take (i := 19) (oi := ⟨(some 73), _, _, _, _, _⟩) (v := ?vq1_19) rfl (by decide) (by kernel_rfl) (by kernel_rfl) (by kernel_rfl) (fun _ _ _ h => h) (Or.inl ⟨by rfl, ?yq1_19⟩) hHeld ?_
                  case yq1_19 => (intro W0 hSw; go_simp; try with_reducible rfl)
                  try simp only [Act.put, List.setIfInBounds_toArray, List.set_cons_zero, List.set_cons_succ]
                  refine c_take (i := 20) (oi := ⟨(some 74), _, _, _, _, _⟩) (v := ?vq1_20) rfl (by decide) (by kernel_rfl) (by kernel_rfl) (by kernel_rfl) (fun _ _ _ h => h) (Or.inl ⟨by rfl, ?yq1_20⟩) hHeld ?_
                  case yq1_20 => (intro W0 hSw; go_simp; try with_reducible rfl)
                  try simp only [Act.put, List.setIfInBounds_toArray, List.set_cons_zero, List.set_cons_succ]
                  refine c_read (i := 21) (oi := ⟨(some 75), _, _, _, _, _⟩) (v := ?vq1_21) rfl (by decide) (by kernel_rfl) (by kernel_rfl) (by kernel_rfl) (by kernel_rfl) (by kernel_rfl) (fun _ _ _ h => h) (Or.inl ⟨by rfl, ?yq1_21⟩) hHeld ?_
                  case yq1_21 => (intro W0 hSw; go_simp; try with_reducible rfl)
                  try simp only [Act.put, List.setIfInBounds_toArray, List.set_cons_zero, List.set_cons_succ]
                  refine c_call (S' := (fun _ => True)) (o := ⟨(some 76), _, _, _, _, _⟩) (by kernel_rfl) (by kernel_rfl) rfl (fun K hK => ?_)
                  clear hHeld
                  go_simp
                  refine (refQuarter_any x0 x1 x2 x3 _ b1 b3).mono ?_
                  rintro e w2 ⟨p, q, r, s, rfl, hqr, ⟨lp, lq, lr, ls⟩, rfl⟩
                  refine hK.out _ _ (trivial) (fun hHeld => ?_)
                  clear hK K
                  try simp only [Act.put, List.setIfInBounds_toArray, List.set_cons_zero, List.set_cons_succ]
                  refine wpAnyH_take (i := 23) (oi := ⟨(some 53), _, _, _, _, _⟩) (v := ?vq1_22) rfl (by kernel_rfl) (by kernel_rfl) (by kernel_rfl) (fun _ _ _ h => h) (Or.inl ⟨by rfl, ?yq1_22⟩) hHeld ?_
                  case yq1_22 => (intro W0 hSw; go_simp; try with_reducible rfl)
                  try simp only [Act.put, List.setIfInBounds_toArray, List.set_cons_zero, List.set_cons_succ]
                  refine wpAnyH_take (i := 24) (oi := ⟨(some 77), _, _, _, _, _⟩) (v := ?vq1_23) rfl (by kernel_rfl) (by kernel_rfl) (by kernel_rfl) (fun _ _ _ h => h) (Or.inl ⟨by rfl, ?yq1_23⟩) hHeld ?_
                  case yq1_23 => (intro W0 hSw; go_simp; try with_reducible rfl)
                  try simp only [Act.put, List.setIfInBounds_toArray, List.set_cons_zero, List.set_cons_succ]
                  refine wpAnyH_take (i := 25) (oi := ⟨(some 78), _, _, _, _, _⟩) (v := ?vq1_24) rfl (by kernel_rfl) (by kernel_rfl) (by kernel_rfl) (fun _ _ _ h => h) (Or.inl ⟨by rfl, ?yq1_24⟩) hHeld ?_
                  case yq1_24 => (intro W0 hSw; go_simp; try with_reducible rfl)
                  try simp only [Act.put, List.setIfInBounds_toArray, List.set_cons_zero, List.set_cons_succ]
                  refine wpAnyH_take (i := 26) (oi := ⟨(some 79), _, _, _, _, _⟩) (v := ?vq1_25) rfl (by kernel_rfl) (by kernel_rfl) (by kernel_rfl) (fun _ _ _ h => h) (Or.inl ⟨by rfl, ?yq1_25⟩) hHeld ?_
                  case yq1_25 => (intro W0 hSw; go_simp; try with_reducible rfl)
                  try simp only [Act.put, List.setIfInBounds_toArray, List.set_cons_zero, List.set_cons_succ]
                  refine wpAnyH_take (i := 27) (oi := ⟨(some 80), _, _, _, _, _⟩) (v := ?vq1_26) rfl (by kernel_rfl) (by kernel_rfl) (by kernel_rfl) (fun _ _ _ h => h) (Or.inl ⟨by rfl, ?yq1_26⟩) hHeld ?_
                  case yq1_26 => (intro W0 hSw; go_simp; try with_reducible rfl)
                  try simp only [Act.put, List.setIfInBounds_toArray, List.set_cons_zero, List.set_cons_succ]
                  refine wpAnyH_take (i := 28) (oi := ⟨(some 81), _, _, _, _, _⟩) (v := ?vq1_27) rfl (by kernel_rfl) (by kernel_rfl) (by kernel_rfl) (fun _ _ _ h => h) (Or.inl ⟨by rfl, ?yq1_27⟩) hHeld ?_
                  case yq1_27 => (intro W0 hSw; go_simp; try with_reducible rfl)
                  try simp only [Act.put, List.setIfInBounds_toArray, List.set_cons_zero, List.set_cons_succ]
                  refine wpAnyH_ready (rs := [29]) (by kernel_rfl) (by simp) ?_
                  refine AllReadyH.cons (i := 29) (o := ⟨none, _, _, _, _, _⟩) rfl (fun K hK => ?_) AllReadyH.nil
                  refine step_set rfl 23 (.tmp 81) (.tmp 77) rfl Try.sizeU32 G n (by rfl) .u32 (p : Int) (by rfl) (u32v Y) 48 hgn.out (by rw [u32v_len, HYL.out]; exact ln) wr (But.refl G wr).drew ?_
                  intro w3 hg3 hb3
                  refine hK.out _ _ (trivial) (fun hHeld => ?_)
                  clear hK K
                  try simp only [Act.put]
                  refine wpAnyH_take (i := 30) (oi := ⟨(some 82), _, _, _, _, _⟩) (v := ?vq1_28) rfl (by kernel_rfl) (by kernel_rfl) (by kernel_rfl) (fun _ _ _ h => h) (Or.inl ⟨by rfl, ?yq1_28⟩) hHeld ?_
                  case yq1_28 => (intro W0 hSw; go_simp; try with_reducible rfl)
                  try simp only [Act.put, List.setIfInBounds_toArray, List.set_cons_zero, List.set_cons_succ]
                  refine wpAnyH_ready (rs := [31]) (by kernel_rfl) (by simp) ?_
                  refine AllReadyH.cons (i := 31) (o := ⟨none, _, _, _, _, _⟩) rfl (fun K hK => ?_) AllReadyH.nil
                  refine step_set rfl 23 (.tmp 82) (.tmp 78) rfl Try.sizeU32 G j (by rfl) .u32 (q : Int) (by rfl) _ 48 hg3.out (by rw [List.length_set, u32v_len, HYL.out]; exact lj) wr hb3 ?_
                  intro w4 hg4 hb4
                  refine hK.out _ _ (trivial) (fun hHeld => ?_)
                  clear hK K
                  try simp only [Act.put]
                  refine wpAnyH_take (i := 32) (oi := ⟨(some 83), _, _, _, _, _⟩) (v := ?vq1_29) rfl (by kernel_rfl) (by kernel_rfl) (by kernel_rfl) (fun _ _ _ h => h) (Or.inl ⟨by rfl, ?yq1_29⟩) hHeld ?_
                  case yq1_29 => (intro W0 hSw; go_simp; try with_reducible rfl)
                  try simp only [Act.put, List.setIfInBounds_toArray, List.set_cons_zero, List.set_cons_succ]
                  refine wpAnyH_ready (rs := [33]) (by kernel_rfl) (by simp) ?_
                  refine AllReadyH.cons (i := 33) (o := ⟨none, _, _, _, _, _⟩) rfl (fun K hK => ?_) AllReadyH.nil
                  refine step_set rfl 23 (.tmp 83) (.tmp 79) rfl Try.sizeU32 G k (by rfl) .u32 (r : Int) (by rfl) _ 48 hg4.out (by rw [List.length_set, List.length_set, u32v_len, HYL.out]; exact lk) wr hb4 ?_
                  intro w5 hg5 hb5
                  refine hK.out _ _ (trivial) (fun hHeld => ?_)
                  clear hK K
                  try simp only [Act.put]
                  refine wpAnyH_take (i := 34) (oi := ⟨(some 84), _, _, _, _, _⟩) (v := ?vq1_30) rfl (by kernel_rfl) (by kernel_rfl) (by kernel_rfl) (fun _ _ _ h => h) (Or.inl ⟨by rfl, ?yq1_30⟩) hHeld ?_
                  case yq1_30 => (intro W0 hSw; go_simp; try with_reducible rfl)
                  try simp only [Act.put, List.setIfInBounds_toArray, List.set_cons_zero, List.set_cons_succ]
                  refine wpAnyH_ready (rs := [35]) (by kernel_rfl) (by simp) ?_
                  refine AllReadyH.cons (i := 35) (o := ⟨none, _, _, _, _, _⟩) rfl (fun K hK => ?_) AllReadyH.nil
                  refine step_set rfl 23 (.tmp 84) (.tmp 80) rfl Try.sizeU32 G m (by rfl) .u32 (s : Int) (by rfl) _ 48 hg5.out (by rw [List.length_set, List.length_set, List.length_set, u32v_len, HYL.out]; exact lm) wr hb5 ?_
                  intro w6 hg6 hb6
                  refine hK.out _ _ (trivial) (fun hHeld => ?_)
                  clear hK K
                  try simp only [Act.put]
                  refine wpAnyH_done (by kernel_rfl) ?_ _
                  have hg7 : Hid (w6.heap[G]? = some (.cells (u32v (half X 0 (n + 1))).toArray 48 (0, 0))) := by
                    have h1 := hg6.out
                    rw [u32v_set, u32v_set, u32v_set, u32v_set, ← HQ.out p q r s hqr.out, ← HH.out] at h1
                    exact h1
                  clear hg3 hg4 hg5 hg6 hb3 hb4 hb5 c0 c1 c2 c3
                  go_wp2
                  go_roundw
                  case rel => exact ⟨n + 1, by omega, by go_num, hg7, hbn.trans hb6⟩
                  case measure => simp [intOf]; omega
                · obtain ⟨Z, hZ⟩ : ∃ Z, Z = half X 0 4 := ⟨_, rfl⟩
                  have hgz : Hid (wr.heap[G]? = some (.cells (u32v Z).toArray 48 (0, 0))) := by
                    have h1 := hgn.out
                    rw [show n = 4 by omega, ← hZ] at h1
                    exact h1
                  have HZL := Lib.hid (show Z.length = 16 by rw [hZ, half_len]; exact HXL.out)
                  have hZs : small32 Z := by rw [hZ]; exact half_small X 0 hXs 4
                  rw [← hZ] at HX
                  clear hZ hgn
                  go_upto_region 20 with fail
                  clear hn hlt2
                  generalize decide ((n : Int) < 4) = d4
                  go_loopw [13] (fun i wt => ∃ n : Nat, n ≤ 4 ∧ i = .int .i64 (n : Int) ∧ Hid (wt.heap[G]? = some (.cells (u32v (half Z 1 n)).toArray 48 (0, 0))) ∧ But G V wt) (fun i _ => 4 - (intOf i).toNat)
                  case atStart => exact ⟨0, by omega, rfl, hgz, hbn⟩
                  case round =>
                    clear hgz hbn
                    obtain ⟨n, hn, rfl, hgn, hbn⟩ := hrel
                    by_cases hlt2 : n < 4
                    · skip
                      obtain ⟨Y, hY⟩ : ∃ Y, Y = half Z 1 n := ⟨_, rfl⟩
                      rw [← hY] at hgn
                      have HYL := Lib.hid (show Y.length = 16 by rw [hY, half_len]; exact HZL.out)
                      have hYs : small32 Y := by rw [hY]; exact half_small Z 1 hZs n
                      obtain ⟨j, hj⟩ : ∃ j, j = 4 + (n + 1) % 4 := ⟨_, rfl⟩
                      obtain ⟨k, hk'⟩ : ∃ k, k = 8 + (n + 2 * 1) % 4 := ⟨_, rfl⟩
                      obtain ⟨m, hm⟩ : ∃ m, m = 12 + (n + 3 * 1) % 4 := ⟨_, rfl⟩
                      have HH := vlt (show half Z 1 (n + 1) = q4 Y n j k m by rw [half, ← hY, hj, hk', hm])
                      have ln : n < 16 := by omega
                      have lj : j < 16 := by omega
                      have lk : k < 16 := by omega
                      have lm : m < 16 := by omega
                      have in_ : (n : Int) < 16 := by omega
                      have ij : (j : Int) < 16 := by omega
                      have ik : (k : Int) < 16 := by omega
                      have im : (m : Int) < 16 := by omega
                      have EJ := Lib.hid (show (4 : Int) + ((n : Int) + 1) % 4 = (j : Int) by omega)
                      have EK := Lib.hid (show (8 : Int) + ((n : Int) + 2) % 4 = (k : Int) by omega)
                      have EM := Lib.hid (show (12 : Int) + ((n : Int) + 3) % 4 = (m : Int) by omega)
                      clear hY hj hk' hm
                      have c0 := word_at hgn.out n (by rw [HYL.out]; exact ln)
                      have c1 := word_at hgn.out j (by rw [HYL.out]; exact lj)
                      have c2 := word_at hgn.out k (by rw [HYL.out]; exact lk)
                      have c3 := word_at hgn.out m (by rw [HYL.out]; exact lm)
                      have HQ := Lib.hid (fun p q r s => q4_eq (s := Y) (i := n) (j := j) (k := k) (l := m) (p := p) (q := q) (r := r) (t := s))
                      have b1 := hYs.at_ j
                      have b3 := hYs.at_ m
                      generalize natAt Y n = x0 at *
                      generalize natAt Y j = x1 at *
                      generalize natAt Y k = x2 at *
                      generalize natAt Y m = x3 at *
                      go_wp2_with fail
                      rw [EJ.out, EK.out, EM.out]
                      refine c_start (S := (fun W => W.cell? ⟨G, n, none⟩ = some (.int .u32 (x0 : Int)) ∧ W.cell? ⟨G, j, none⟩ = some (.int .u32 (x1 : Int)) ∧ W.cell? ⟨G, k, none⟩ = some (.int .u32 (x2 : Int)) ∧ W.cell? ⟨G, m, none⟩ = some (.int .u32 (x3 : Int)))) 16 (by kernel_rfl) (⟨c0, c1, c2, c3⟩) (fun hHeld => ?_)
                      refine c_take (i := 0) (oi := ⟨(some 102), _, _, _, _, _⟩) (v := ?vq2_0) rfl (by decide) (by kernel_rfl) (by kernel_rfl) (by kernel_rfl) (fun _ _ _ h => h) (Or.inl ⟨by rfl, ?yq2_0⟩) hHeld ?_
                      case yq2_0 => (intro W0 hSw; go_simp; try with_reducible rfl)
                      try simp only [Act.put, List.setIfInBounds_toArray, List.set_cons_zero, List.set_cons_succ]
                      refine c_take (i := 1) (oi := ⟨(some 103), _, _, _, _, _⟩) (v := ?vq2_1) rfl (by decide) (by kernel_rfl) (by kernel_rfl) (by kernel_rfl) (fun _ _ _ h => h) (Or.inl ⟨by rfl, ?yq2_1⟩) hHeld ?_
                      case yq2_1 => (intro W0 hSw; go_simp; try with_reducible rfl)
                      try simp only [Act.put, List.setIfInBounds_toArray, List.set_cons_zero, List.set_cons_succ]
                      refine c_take (i := 2) (oi := ⟨(some 104), _, _, _, _, _⟩) (v := ?vq2_2) rfl (by decide) (by kernel_rfl) (by kernel_rfl) (by kernel_rfl) (fun _ _ _ h => h) (Or.inl ⟨by rfl, ?yq2_2⟩) hHeld ?_
                      case yq2_2 => (intro W0 hSw; go_simp; try with_reducible rfl)
                      try simp only [Act.put, List.setIfInBounds_toArray, List.set_cons_zero, List.set_cons_succ]
                      refine c_take (i := 3) (oi := ⟨(some 105), _, _, _, _, _⟩) (v := ?vq2_3) rfl (by decide) (by kernel_rfl) (by kernel_rfl) (by kernel_rfl) (fun _ _ _ h => h) (Or.inl ⟨by rfl, ?yq2_3⟩) hHeld ?_
                      case yq2_3 => (intro W0 hSw; go_simp; try with_reducible rfl)
                      try simp only [Act.put, List.setIfInBounds_toArray, List.set_cons_zero, List.set_cons_succ]
                      refine c_take (i := 4) (oi := ⟨(some 106), _, _, _, _, _⟩) (v := ?vq2_4) rfl (by decide) (by kernel_rfl) (by kernel_rfl) (by kernel_rfl) (fun _ _ _ h => h) (Or.inl ⟨by rfl, ?yq2_4⟩) hHeld ?_
                      case yq2_4 => (intro W0 hSw; go_simp; try with_reducible rfl)
                      try simp only [Act.put, List.setIfInBounds_toArray, List.set_cons_zero, List.set_cons_succ]
                      refine c_take (i := 5) (oi := ⟨(some 107), _, _, _, _, _⟩) (v := ?vq2_5) rfl (by decide) (by kernel_rfl) (by kernel_rfl) (by kernel_rfl) (fun _ _ _ h => h) (Or.inl ⟨by rfl, ?yq2_5⟩) hHeld ?_
                      case yq2_5 => (intro W0 hSw; go_simp; try with_reducible rfl)
                      try simp only [Act.put, List.setIfInBounds_toArray, List.set_cons_zero, List.set_cons_succ]
                      refine c_read (i := 6) (oi := ⟨(some 108), _, _, _, _, _⟩) (v := ?vq2_6) rfl (by decide) (by kernel_rfl) (by kernel_rfl) (by kernel_rfl) (by kernel_rfl) (by kernel_rfl) (fun _ _ _ h => h) (Or.inl ⟨by rfl, ?yq2_6⟩) hHeld ?_
                      case yq2_6 => (intro W0 hSw; go_simp; try with_reducible rfl)
                      try simp only [Act.put, List.setIfInBounds_toArray, List.set_cons_zero, List.set_cons_succ]
                      refine c_take (i := 7) (oi := ⟨(some 109), _, _, _, _, _⟩) (v := ?vq2_7) rfl (by decide) (by kernel_rfl) (by kernel_rfl) (by kernel_rfl) (fun _ _ _ h => h) (Or.inl ⟨by rfl, ?yq2_7⟩) hHeld ?_
                      case yq2_7 => (intro W0 hSw; go_simp; try with_reducible rfl)
                      try simp only [Act.put, List.setIfInBounds_toArray, List.set_cons_zero, List.set_cons_succ]
                      refine c_take (i := 8) (oi := ⟨(some 110), _, _, _, _, _⟩) (v := ?vq2_8) rfl (by decide) (by kernel_rfl) (by kernel_rfl) (by kernel_rfl) (fun _ _ _ h => h) (Or.inl ⟨by rfl, ?yq2_8⟩) hHeld ?_
                      case yq2_8 => (intro W0 hSw; go_simp; try with_reducible rfl)
                      try simp only [Act.put, List.setIfInBounds_toArray, List.set_cons_zero, List.set_cons_succ]
                      refine c_read (i := 9) (oi := ⟨(some 111), _, _, _, _, _⟩) (v := ?vq2_9) rfl (by decide) (by kernel_rfl) (by kernel_rfl) (by kernel_rfl) (by kernel_rfl) (by kernel_rfl) (fun _ _ _ h => h) (Or.inl ⟨by rfl, ?yq2_9⟩) hHeld ?_
                      case yq2_9 => (intro W0 hSw; go_simp; try with_reducible rfl)
                      try simp only [Act.put, List.setIfInBounds_toArray, List.set_cons_zero, List.set_cons_succ]
                      refine c_take (i := 10) (oi := ⟨(some 112), _, _, _, _, _⟩) (v := ?vq2_10) rfl (by decide) (by kernel_rfl) (by kernel_rfl) (by kernel_rfl) (fun _ _ _ h => h) (Or.inl ⟨by rfl, ?yq2_10⟩) hHeld ?_
                      case yq2_10 => (intro W0 hSw; go_simp; try with_reducible rfl)
                      try simp only [Act.put, List.setIfInBounds_toArray, List.set_cons_zero, List.set_cons_succ]
                      refine c_take (i := 11) (oi := ⟨(some 113), _, _, _, _, _⟩) (v := ?vq2_11) rfl (by decide) (by kernel_rfl) (by kernel_rfl) (by kernel_rfl) (fun _ _ _ h => h) (Or.inl ⟨by rfl, ?yq2_11⟩) hHeld ?_
                      case yq2_11 => (intro W0 hSw; go_simp; try with_reducible rfl)
                      try simp only [Act.put, List.setIfInBounds_toArray, List.set_cons_zero, List.set_cons_succ]
                      refine c_read (i := 12) (oi := ⟨(some 114), _, _, _, _, _⟩) (v := ?vq2_12) rfl (by decide) (by kernel_rfl) (by kernel_rfl) (by kernel_rfl) (by kernel_rfl) (by kernel_rfl) (fun _ _ _ h => h) (Or.inl ⟨by rfl, ?yq2_12⟩) hHeld ?_
                      case yq2_12 => (intro W0 hSw; go_simp; try with_reducible rfl)
                      try simp only [Act.put, List.setIfInBounds_toArray, List.set_cons_zero, List.set_cons_succ]
                      refine c_take (i := 13) (oi := ⟨(some 115), _, _, _, _, _⟩) (v := ?vq2_13) rfl (by decide) (by kernel_rfl) (by kernel_rfl) (by kernel_rfl) (fun _ _ _ h => h) (Or.inl ⟨by rfl, ?yq2_13⟩) hHeld ?_
                      case yq2_13 => (intro W0 hSw; go_simp; try with_reducible rfl)
                      try simp only [Act.put, List.setIfInBounds_toArray, List.set_cons_zero, List.set_cons_succ]
                      refine c_take (i := 14) (oi := ⟨(some 116), _, _, _, _, _⟩) (v := ?vq2_14) rfl (by decide) (by kernel_rfl) (by kernel_rfl) (by kernel_rfl) (fun _ _ _ h => h) (Or.inl ⟨by rfl, ?yq2_14⟩) hHeld ?_
                      case yq2_14 => (intro W0 hSw; go_simp; try with_reducible rfl)
                      try simp only [Act.put, List.setIfInBounds_toArray, List.set_cons_zero, List.set_cons_succ]
                      refine c_read (i := 15) (oi := ⟨(some 117), _, _, _, _, _⟩) (v := ?vq2_15) rfl (by decide) (by kernel_rfl) (by kernel_rfl) (by kernel_rfl) (by kernel_rfl) (by kernel_rfl) (fun _ _ _ h => h) (Or.inl ⟨by rfl, ?yq2_15⟩) hHeld ?_
                      case yq2_15 => (intro W0 hSw; go_simp; try with_reducible rfl)
                      try simp only [Act.put, List.setIfInBounds_toArray, List.set_cons_zero, List.set_cons_succ]
                      refine c_call (S' := (fun _ => True)) (o := ⟨(some 118), _, _, _, _, _⟩) (by kernel_rfl) (by kernel_rfl) rfl (fun K hK => ?_)
                      clear hHeld
                      go_simp
                      refine (refQuarter_any x0 x1 x2 x3 _ b1 b3).mono ?_
                      rintro e w2 ⟨p, q, r, s, rfl, hqr, ⟨lp, lq, lr, ls⟩, rfl⟩
                      refine hK.out _ _ (trivial) (fun hHeld => ?_)
                      clear hK K
                      try simp only [Act.put, List.setIfInBounds_toArray, List.set_cons_zero, List.set_cons_succ]
                      refine wpAnyH_take (i := 17) (oi := ⟨(some 101), _, _, _, _, _⟩) (v := ?vq2_16) rfl (by kernel_rfl) (by kernel_rfl) (by kernel_rfl) (fun _ _ _ h => h) (Or.inl ⟨by rfl, ?yq2_16⟩) hHeld ?_
                      case yq2_16 => (intro W0 hSw; go_simp; try with_reducible rfl)
                      try simp only [Act.put, List.setIfInBounds_toArray, List.set_cons_zero, List.set_cons_succ]
                      refine wpAnyH_take (i := 18) (oi := ⟨(some 119), _, _, _, _, _⟩) (v := ?vq2_17) rfl (by kernel_rfl) (by kernel_rfl) (by kernel_rfl) (fun _ _ _ h => h) (Or.inl ⟨by rfl, ?yq2_17⟩) hHeld ?_
                      case yq2_17 => (intro W0 hSw; go_simp; try with_reducible rfl)
                      try simp only [Act.put, List.setIfInBounds_toArray, List.set_cons_zero, List.set_cons_succ]
                      refine wpAnyH_take (i := 19) (oi := ⟨(some 120), _, _, _, _, _⟩) (v := ?vq2_18) rfl (by kernel_rfl) (by kernel_rfl) (by kernel_rfl) (fun _ _ _ h => h) (Or.inl ⟨by rfl, ?yq2_18⟩) hHeld ?_
                      case yq2_18 => (intro W0 hSw; go_simp; try with_reducible rfl)
                      try simp only [Act.put, List.setIfInBounds_toArray, List.set_cons_zero, List.set_cons_succ]
                      refine wpAnyH_take (i := 20) (oi := ⟨(some 121), _, _, _, _, _⟩) (v := ?vq2_19) rfl (by kernel_rfl) (by kernel_rfl) (by kernel_rfl) (fun _ _ _ h => h) (Or.inl ⟨by rfl, ?yq2_19⟩) hHeld ?_
                      case yq2_19 => (intro W0 hSw; go_simp; try with_reducible rfl)
                      try simp only [Act.put, List.setIfInBounds_toArray, List.set_cons_zero, List.set_cons_succ]
                      refine wpAnyH_take (i := 21) (oi := ⟨(some 122), _, _, _, _, _⟩) (v := ?vq2_20) rfl (by kernel_rfl) (by kernel_rfl) (by kernel_rfl) (fun _ _ _ h => h) (Or.inl ⟨by rfl, ?yq2_20⟩) hHeld ?_
                      case yq2_20 => (intro W0 hSw; go_simp; try with_reducible rfl)
                      try simp only [Act.put, List.setIfInBounds_toArray, List.set_cons_zero, List.set_cons_succ]
                      refine wpAnyH_take (i := 22) (oi := ⟨(some 123), _, _, _, _, _⟩) (v := ?vq2_21) rfl (by kernel_rfl) (by kernel_rfl) (by kernel_rfl) (fun _ _ _ h => h) (Or.inl ⟨by rfl, ?yq2_21⟩) hHeld ?_
                      case yq2_21 => (intro W0 hSw; go_simp; try with_reducible rfl)
                      try simp only [Act.put, List.setIfInBounds_toArray, List.set_cons_zero, List.set_cons_succ]
                      refine wpAnyH_ready (rs := [23]) (by kernel_rfl) (by simp) ?_
                      refine AllReadyH.cons (i := 23) (o := ⟨none, _, _, _, _, _⟩) rfl (fun K hK => ?_) AllReadyH.nil
                      refine step_set rfl 23 (.tmp 123) (.tmp 119) rfl Try.sizeU32 G n (by rfl) .u32 (p : Int) (by rfl) (u32v Y) 48 hgn.out (by rw [u32v_len, HYL.out]; exact ln) wr (But.refl G wr).drew ?_
                      intro w3 hg3 hb3
                      refine hK.out _ _ (trivial) (fun hHeld => ?_)
                      clear hK K
                      try simp only [Act.put]
                      refine wpAnyH_take (i := 24) (oi := ⟨(some 124), _, _, _, _, _⟩) (v := ?vq2_22) rfl (by kernel_rfl) (by kernel_rfl) (by kernel_rfl) (fun _ _ _ h => h) (Or.inl ⟨by rfl, ?yq2_22⟩) hHeld ?_
                      case yq2_22 => (intro W0 hSw; go_simp; try with_reducible rfl)
                      try simp only [Act.put, List.setIfInBounds_toArray, List.set_cons_zero, List.set_cons_succ]
                      refine wpAnyH_ready (rs := [25]) (by kernel_rfl) (by simp) ?_
                      refine AllReadyH.cons (i := 25) (o := ⟨none, _, _, _, _, _⟩) rfl (fun K hK => ?_) AllReadyH.nil
                      refine step_set rfl 23 (.tmp 124) (.tmp 120) rfl Try.sizeU32 G j (by rfl) .u32 (q : Int) (by rfl) _ 48 hg3.out (by rw [List.length_set, u32v_len, HYL.out]; exact lj) wr hb3 ?_
                      intro w4 hg4 hb4
                      refine hK.out _ _ (trivial) (fun hHeld => ?_)
                      clear hK K
                      try simp only [Act.put]
                      refine wpAnyH_take (i := 26) (oi := ⟨(some 125), _, _, _, _, _⟩) (v := ?vq2_23) rfl (by kernel_rfl) (by kernel_rfl) (by kernel_rfl) (fun _ _ _ h => h) (Or.inl ⟨by rfl, ?yq2_23⟩) hHeld ?_
                      case yq2_23 => (intro W0 hSw; go_simp; try with_reducible rfl)
                      try simp only [Act.put, List.setIfInBounds_toArray, List.set_cons_zero, List.set_cons_succ]
                      refine wpAnyH_ready (rs := [27]) (by kernel_rfl) (by simp) ?_
                      refine AllReadyH.cons (i := 27) (o := ⟨none, _, _, _, _, _⟩) rfl (fun K hK => ?_) AllReadyH.nil
                      refine step_set rfl 23 (.tmp 125) (.tmp 121) rfl Try.sizeU32 G k (by rfl) .u32 (r : Int) (by rfl) _ 48 hg4.out (by rw [List.length_set, List.length_set, u32v_len, HYL.out]; exact lk) wr hb4 ?_
                      intro w5 hg5 hb5
                      refine hK.out _ _ (trivial) (fun hHeld => ?_)
                      clear hK K
                      try simp only [Act.put]
                      refine wpAnyH_take (i := 28) (oi := ⟨(some 126), _, _, _, _, _⟩) (v := ?vq2_24) rfl (by kernel_rfl) (by kernel_rfl) (by kernel_rfl) (fun _ _ _ h => h) (Or.inl ⟨by rfl, ?yq2_24⟩) hHeld ?_
                      case yq2_24 => (intro W0 hSw; go_simp; try with_reducible rfl)
                      try simp only [Act.put, List.setIfInBounds_toArray, List.set_cons_zero, List.set_cons_succ]
                      refine wpAnyH_ready (rs := [29]) (by kernel_rfl) (by simp) ?_
                      refine AllReadyH.cons (i := 29) (o := ⟨none, _, _, _, _, _⟩) rfl (fun K hK => ?_) AllReadyH.nil
                      refine step_set rfl 23 (.tmp 126) (.tmp 122) rfl Try.sizeU32 G m (by rfl) .u32 (s : Int) (by rfl) _ 48 hg5.out (by rw [List.length_set, List.length_set, List.length_set, u32v_len, HYL.out]; exact lm) wr hb5 ?_
                      intro w6 hg6 hb6
                      refine hK.out _ _ (trivial) (fun hHeld => ?_)
                      clear hK K
                      try simp only [Act.put]
                      refine wpAnyH_done (by kernel_rfl) ?_ _
                      have hg7 : Hid (w6.heap[G]? = some (.cells (u32v (half Z 1 (n + 1))).toArray 48 (0, 0))) := by
                        have h1 := hg6.out
                        rw [u32v_set, u32v_set, u32v_set, u32v_set, ← HQ.out p q r s hqr.out, ← HH.out] at h1
                        exact h1
                      clear hg3 hg4 hg5 hg6 hb3 hb4 hb5 c0 c1 c2 c3
                      go_wp2
                      go_roundw
                      case rel => exact ⟨n + 1, by omega, by go_num, hg7, hbn.trans hb6⟩
                      case measure => simp [intOf]; omega
                    · have hgf : Hid (wr.heap[G]? = some (.cells (u32v (rounds F (r + 1))).toArray 48 (0, 0))) := by
                        have h1 := hgn.out
                        rw [show n = 4 by omega, ← HX.out] at h1
                        exact h1
                      go_wp2
                      go_roundw
                      case rel => exact ⟨r + 1, by omega, by go_num, hgf, hbn⟩
                      case measure => simp [intOf]; omega
            · obtain ⟨M, hM⟩ : ∃ M, M = rounds F r := ⟨_, rfl⟩
              rw [← hM] at hgr
              have HML := Lib.hid (show M.length = 16 by rw [hM, rounds_len]; exact HFL.out)
              have hMs : small32 M := by rw [hM]; exact rounds_small F hFs r
              have HM := vlt (show blockOf key count nonce = outw M F 16 by rw [blockOf, ← HF.out, hM, show r = 10 by omega])
              have HZ64 := Lib.hid (show (bv z64).toArray.size = 64 from rfl)
              have hsz1 := hbr.size
              have hgF3 : Hid (wr.heap[W.heap.size]? = some (.cells (u32v F).toArray 48 (0, 0))) := (hbr.block _ (by omega) (by intro e; injection e; omega)).trans hgF2.out
              have hbw : Below W.heap.size W wr := But.below hbV hbr (by omega) (by omega)
              clear hM
              go_upto_region 25 with (first
                | (with_reducible refine wpList_build_to rfl 36 _ rfl [] (by rfl) _ built_blk ?_)
                | ((with_reducible refine wpList_store_row rfl 36 (.tmp 17) (.tmp 127) rfl wr.heap.size (bv z64).toArray rfl rfl 36 _ (heap_alloc_new _ _) (by rw [HZ64.out]; kernel_rfl) (by rw [HZ64.out]) (all_oneCell_toArray (bv_one _)) ?_); rw [World.setRow_alloc_new]))
              have hg17 : Hid ((wr.alloc (.cells (bv z64).toArray 36)).heap[wr.heap.size]? = some (.cells (bv (uptoB 64 (outw M F 0))).toArray 36 (0, 0))) := by
                show _ = _
                rw [show uptoB 64 (outw M F 0) = z64 from rfl]; exact heap_alloc_new _ _
              have hg10' : Hid ((wr.alloc (.cells (bv z64).toArray 36)).heap[G]? = some (.cells (u32v M).toArray 48 (0, 0))) := (Below.heap_alloc _ _ _ (by omega)).trans hgr.out
              have hg7' : Hid ((wr.alloc (.cells (bv z64).toArray 36)).heap[W.heap.size]? = some (.cells (u32v F).toArray 48 (0, 0))) := (Below.heap_alloc _ _ _ (by omega)).trans hgF3.out
              have hbv : Below W.heap.size W (wr.alloc (.cells (bv z64).toArray 36)) := hbw.alloc (by omega) _
              have hsv : wr.heap.size < (wr.alloc (.cells (bv z64).toArray 36)).heap.size := by simp
              generalize wr.alloc (.cells (bv z64).toArray 36) = V2 at *
              obtain ⟨T, hT⟩ : ∃ T, T = wr.heap.size := ⟨_, rfl⟩
              have hGT : G < T := by omega
              have hWT : W.heap.size < T := by omega
              rw [← hT] at hg17 hsv ⊢
              clear hT hr hlt hgr hbr hgF3 hbw hgF2 hbV hsV hsz1
              generalize decide ((r : Int) < 10) = d5
              go_wp2
              go_loopw [18] (fun i wt => ∃ j : Nat, j ≤ 16 ∧ i = .int .i64 (j : Int) ∧ Hid (wt.heap[T]? = some (.cells (bv (uptoB 64 (outw M F j))).toArray 36 (0, 0))) ∧ But T V2 wt) (fun i _ => 16 - (intOf i).toNat)
              case atStart => exact ⟨0, by omega, rfl, hg17, But.refl _ _⟩
              case round =>
                clear hg17
                obtain ⟨j, hj, rfl, hg9, hb⟩ := hrel
                have hsz : T < wr.heap.size := (Array.getElem?_eq_some_iff.1 hg9.out).1
                have hgx : Hid (wr.heap[G]? = some (.cells (u32v M).toArray 48 (0, 0))) := (hb.block _ (by omega) (by intro e; injection e; omega)).trans hg10'.out
                have hgs : Hid (wr.heap[W.heap.size]? = some (.cells (u32v F).toArray 48 (0, 0))) := (hb.block _ (by omega) (by intro e; injection e; omega)).trans hg7'.out
                by_cases hlt : j < 16
                · have hcx := word_at hgx.out j (by rw [HML.out]; exact hlt)
                  have hcs := word_at hgs.out j (by rw [HFL.out]; exact hlt)
                  have hcut := cut_l Try.underlying36 Try.sizeByte T 0 (4 * j) (4 * (j : Int)) (by omega) (by omega)
                  rw [Nat.zero_add] at hcut
                  have hwr : IntKind.i64.wrap (4 * (j : Int)) = 4 * (j : Int) := IntWalk.i64_in _ (by omega)
                  have HO := vlt (show outw M F (j + 1) = outw M F j ++ le ((natAt M j + natAt F j) % 4294967296) 4 from rfl)
                  generalize natAt M j = m0 at *
                  generalize natAt F j = f0 at *
                  obtain ⟨s, hs⟩ : ∃ s, s = (m0 + f0) % 4294967296 := ⟨_, rfl⟩
                  rw [← hs] at HO
                  have hws : IntKind.u32.wrap ((m0 : Int) + (f0 : Int)) = (s : Int) := by rw [hs]; simp [IntKind.wrap, IntKind.bits, IntKind.signed]
                  have ls : s < 4294967296 := by rw [hs]; exact Nat.mod_lt _ (by decide)
                  have hwu : IntKind.u64.wrap (s : Int) = (s : Int) := IntWalk.u64_in _ (by omega)
                  have ij : (j : Int) < 16 := by omega
                  have HP := Lib.hid (show (uptoB 64 (outw M F j)).length = 64 from uptoB_len 64 _ (by rw [outw_len]; omega))
                  clear hs
                  go_wp2_with fail
                  refine wp_region_held_drew (S := (fun W' => Below T wr W' ∧ W'.cell? ⟨G, j, none⟩ = some (.int .u32 (m0 : Int)) ∧ W'.cell? ⟨W.heap.size, j, none⟩ = some (.int .u32 (f0 : Int)))) (by kernel_rfl) (⟨(Below.refl _ _).drew, hcx, hcs⟩) (fun hHeld => ?_)
                  refine wpAnyH_take (i := 0) (oi := ⟨(some 132), _, _, _, _, _⟩) (v := ?vq3_0) rfl (by kernel_rfl) (by kernel_rfl) (by kernel_rfl) (fun _ _ _ h => h) (Or.inl ⟨by rfl, ?yq3_0⟩) hHeld ?_
                  case yq3_0 => (intro W0 hSw; go_simp; try with_reducible rfl)
                  try simp only [Act.put, List.setIfInBounds_toArray, List.set_cons_zero, List.set_cons_succ]
                  refine wpAnyH_take (i := 1) (oi := ⟨(some 133), _, _, _, _, _⟩) (v := ?vq3_1) rfl (by kernel_rfl) (by kernel_rfl) (by kernel_rfl) (fun _ _ _ h => h) (Or.inl ⟨by rfl, ?yq3_1⟩) hHeld ?_
                  case yq3_1 => (intro W0 hSw; go_simp; try with_reducible rfl)
                  try simp only [Act.put, List.setIfInBounds_toArray, List.set_cons_zero, List.set_cons_succ]
                  refine wpAnyH_take (i := 2) (oi := ⟨(some 134), _, _, _, _, _⟩) (v := ?vq3_2) rfl (by kernel_rfl) (by kernel_rfl) (by kernel_rfl) (fun _ _ _ h => h) (Or.inl ⟨by rfl, ?yq3_2⟩) hHeld ?_
                  case yq3_2 => (intro W0 hSw; go_simp; try with_reducible rfl)
                  try simp only [Act.put, List.setIfInBounds_toArray, List.set_cons_zero, List.set_cons_succ]
                  refine wpAnyH_take (i := 3) (oi := ⟨(some 135), _, _, _, _, _⟩) (v := ?vq3_3) rfl (by kernel_rfl) (by kernel_rfl) (by kernel_rfl) (fun _ _ _ h => h) (Or.inl ⟨by rfl, ?yq3_3⟩) hHeld ?_
                  case yq3_3 => (intro W0 hSw; go_simp; try with_reducible rfl)
                  try simp only [Act.put, List.setIfInBounds_toArray, List.set_cons_zero, List.set_cons_succ]
                  refine wpAnyH_take (i := 4) (oi := ⟨(some 136), _, _, _, _, _⟩) (v := ?vq3_4) rfl (by kernel_rfl) (by kernel_rfl) (by kernel_rfl) (fun _ _ _ h => h) (Or.inl ⟨by rfl, ?yq3_4⟩) hHeld ?_
                  case yq3_4 => (intro W0 hSw; go_simp; try with_reducible rfl)
                  try simp only [Act.put, List.setIfInBounds_toArray, List.set_cons_zero, List.set_cons_succ]
                  refine wpAnyH_take (i := 5) (oi := ⟨(some 137), _, _, _, _, _⟩) (v := ?vq3_5) rfl (by kernel_rfl) (by kernel_rfl) (by kernel_rfl) (fun _ _ _ h => h) (Or.inl ⟨by rfl, ?yq3_5⟩) hHeld ?_
                  case yq3_5 => (intro W0 hSw; go_simp; try with_reducible rfl)
                  try simp only [Act.put, List.setIfInBounds_toArray, List.set_cons_zero, List.set_cons_succ]
                  refine wpAnyH_take (i := 6) (oi := ⟨(some 138), _, _, _, _, _⟩) (v := ?vq3_6) rfl (by kernel_rfl) (by kernel_rfl) (by kernel_rfl) (fun _ _ _ h => h) (Or.inl ⟨by rfl, ?yq3_6⟩) hHeld ?_
                  case yq3_6 => (intro W0 hSw; go_simp; try with_reducible rfl)
                  try simp only [Act.put, List.setIfInBounds_toArray, List.set_cons_zero, List.set_cons_succ]
                  refine wpAnyH_take (i := 7) (oi := ⟨(some 139), _, _, _, _, _⟩) (v := ?vq3_7) rfl (by kernel_rfl) (by kernel_rfl) (by kernel_rfl) (fun _ _ _ h => h) (Or.inl ⟨by rfl, ?yq3_7⟩) hHeld ?_
                  case yq3_7 => (intro W0 hSw; go_simp; try with_reducible rfl)
                  try simp only [Act.put, List.setIfInBounds_toArray, List.set_cons_zero, List.set_cons_succ]
                  refine wpAnyH_take (i := 8) (oi := ⟨(some 140), _, _, _, _, _⟩) (v := ?vq3_8) rfl (by kernel_rfl) (by kernel_rfl) (by kernel_rfl) (fun _ _ _ h => h) (Or.inl ⟨by rfl, ?yq3_8⟩) hHeld ?_
                  case yq3_8 => (intro W0 hSw; go_simp; try with_reducible rfl)
                  try simp only [Act.put, List.setIfInBounds_toArray, List.set_cons_zero, List.set_cons_succ]
                  refine wpAnyH_take (i := 9) (oi := ⟨(some 141), _, _, _, _, _⟩) (v := ?vq3_9) rfl (by kernel_rfl) (by kernel_rfl) (by kernel_rfl) (fun _ _ _ h => h) (Or.inl ⟨by rfl, ?yq3_9⟩) hHeld ?_
                  case yq3_9 => (intro W0 hSw; go_simp; try with_reducible rfl)
                  try simp only [Act.put, List.setIfInBounds_toArray, List.set_cons_zero, List.set_cons_succ]
                  refine wpAnyH_take (i := 10) (oi := ⟨(some 142), _, _, _, _, _⟩) (v := ?vq3_10) rfl (by kernel_rfl) (by kernel_rfl) (by kernel_rfl) (fun _ _ _ h => h) (Or.inl ⟨by rfl, ?yq3_10⟩) hHeld ?_
                  case yq3_10 => (intro W0 hSw; go_simp; try with_reducible rfl)
                  try simp only [Act.put, List.setIfInBounds_toArray, List.set_cons_zero, List.set_cons_succ]
                  refine wpAnyH_ready (rs := [11]) (by kernel_rfl) (by simp) ?_
                  refine AllReadyH.cons (i := 11) (o := ⟨(some 143), _, _, _, _, _⟩) rfl (fun K hK => ?_) AllReadyH.nil
                  go_simp
                  with_reducible refine (refLittle4n s _ ls).mono ?_
                  rintro e w6 ⟨A6, c6, rfl, hr6, hb6⟩
                  have hb6' : Below T wr w6 := below_next hHeld.1 (by simp; omega) hb6
                  have hgW : Hid (w6.heap[T]? = some (.cells (bv (uptoB 64 (outw M F j))).toArray 36 (0, 0))) := (hb6.block _ (by simp; omega)).trans hg9.out
                  refine hK.out _ _ (⟨hb6', (hb6'.cell (p := ⟨G, j, none⟩) (by simp; omega)).trans hcx, (hb6'.cell (p := ⟨W.heap.size, j, none⟩) (by simp; omega)).trans hcs⟩) (fun hHeld => ?_)
                  clear hK K
                  try simp only [Act.put, List.setIfInBounds_toArray, List.set_cons_zero, List.set_cons_succ]
                  refine wpAnyH_ready (rs := [12]) (by kernel_rfl) (by simp) ?_
                  refine AllReadyH.cons (i := 12) (o := ⟨(some 144), _, _, _, _, _⟩) rfl (fun K hK => ?_) AllReadyH.nil
                  refine step_copy_but rfl (.tmp 134) (.tmp 143) 26 rfl 5 Try.underlying26 Try.sizeByte T (4 * j) (64 - 4 * j) (64 - 4 * j) 4 c6 A6 (by rfl) (by rfl) (bv (uptoB 64 (outw M F j))) 36 hgW.out (le s 4) w6.heap.size hr6.byt (le_len _ _) (by decide) (by rw [bv_len, HP.out]; omega) w6 (But.refl _ _) ?_
                  intro w7 hg18 hb7
                  have hb7' : Below T wr w7 := But.below hb6' hb7 (Nat.le_refl _) (by have := hb6.size; simp at this; omega)
                  refine hK.out _ _ (⟨hb7', (hb7'.cell (p := ⟨G, j, none⟩) (by simp; omega)).trans hcx, (hb7'.cell (p := ⟨W.heap.size, j, none⟩) (by simp; omega)).trans hcs⟩) (fun hHeld => ?_)
                  clear hK K
                  try simp only [Act.put, List.setIfInBounds_toArray, List.set_cons_zero, List.set_cons_succ]
                  refine wpAnyH_done (by kernel_rfl) ?_ _
                  have hg11 : Hid (w7.heap[T]? = some (.cells (bv (uptoB 64 (outw M F (j + 1)))).toArray 36 (0, 0))) := by
                    have h1 := hg18.out
                    have h2 := uptoB_splice 64 (outw M F j) (le s 4) (by rw [outw_len, le_len]; omega)
                    rw [outw_len] at h2
                    rw [List.take_of_length_le (by rw [le_len]; omega), h2, ← HO.out] at h1
                    exact h1
                  have hb8 : But T V2 w7 := hb.trans ((But.of_below (below_undrew hb6) (Nat.le_refl _)).trans hb7)
                  clear hg18 hgW hcx hcs hcut HO
                  go_wp2
                  go_roundw
                  case rel => exact ⟨j + 1, by omega, by go_num, hg11, hb8⟩
                  case measure => simp [intOf]; omega
                · have HJ := Lib.hid (show j = 16 by omega)
                  have HOUT := vlt (show uptoB 64 (outw M F j) = blockOf key count nonce by rw [HJ.out, uptoB_all 64 _ (outw_len _ _ _), HM.out])
                  have H64 := Lib.hid (show (bv (uptoB 64 (outw M F j))).toArray.size = 64 by simp [bv_len, uptoB_len 64 (outw M F j) (by rw [outw_len]; omega)])
                  have hbw5 : Below W.heap.size W wr := But.below hbv hb (by omega) (by omega)
                  have hz4 : Hid (wr.heap[w.heap.size + 2]? = some (.cells (bv z64).toArray 36 (0, 0))) := (hbw5.block _ hsW2).trans hgZ.out
                  have hb4 : Below w.heap.size w wr := hbW.trans (hbw5.mono (by omega))
                  obtain ⟨out, hout⟩ : ∃ out, out = uptoB 64 (outw M F j) := ⟨_, rfl⟩
                  rw [← hout] at HOUT H64 hg9
                  clear hout
                  go_wp2_with (first
                    | (with_reducible refine wpList_load_row rfl 36 (.tmp 17) rfl T rfl 36 (bv out).toArray (0, 0) _ hg9.out Try.underlying36 rfl (by rw [H64.out]; kernel_rfl) ?_)
                    | (with_reducible refine wpList_store_row rfl 36 (.tmp 6) (.tmp 145) rfl (w.heap.size + 1 + 1) (bv out).toArray rfl rfl 36 _ hz4.out (by rw [H64.out]; kernel_rfl) (by rw [H64.out]; exact HZ64.out) (all_oneCell_toArray (bv_one _)) ?_))
                  refine bodyPost_ret (v := .agg (bv out).toArray) (results_cell_row Try.results14 _ _ (w.heap.size + 1 + 1) 36 _ (0, 0) _ rfl (setRow_heap _ _ _ _ _ _ hz4.out) Try.underlying36 rfl (by rw [H64.out]; kernel_rfl)) rfl ⟨by rw [HOUT.out], below_setRow hb4 (by omega) _⟩
end Go.Proofs.Ytcdjpjljaoeakaa
