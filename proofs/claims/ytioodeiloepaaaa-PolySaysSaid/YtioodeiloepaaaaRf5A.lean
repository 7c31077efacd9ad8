/-
  Contract of the document's own plus. Conditions: seventeen bytes each.
-/
import Derived.Test.YtioodeiloepaaaaRf5S
import Derived.Test.YtioodeiloepaaaaNew
namespace Go.Proofs.Ytioodeiloepaaaa
open Go.RowKit

def z17 : List Nat := List.replicate 17 0
theorem zero_w17 (w : World) : (zeroValue 50).run Try.prog w = .ok (.agg (u32v z17).toArray) w := by kernel_rfl
theorem Try.sizeWord : (Try.prog.info? 49).map (·.size) = some 1 := by kernel_rfl
theorem and8w (x : Nat) (hx : x < 4294967296) : bits .and .u32 (x : Int) 255 = ((x % 256 : Nat) : Int) := by
  have h := u32_and_nat x 255 hx (by decide)
  rw [show ((255 : Nat) : Int) = 255 from rfl] at h
  rw [h, show (255 : Nat) = 2 ^ 8 - 1 by decide, Nat.and_two_pow_sub_one_eq_mod]
theorem and8l (x : Nat) (hx : x < 18446744073709551616) : bits .and .u64 (x : Int) 255 = ((x % 256 : Nat) : Int) := by
  have h := u64_and_nat x 255 hx (by decide)
  rw [show ((255 : Nat) : Int) = 255 from rfl] at h
  rw [h, show (255 : Nat) = 2 ^ 8 - 1 by decide, Nat.and_two_pow_sub_one_eq_mod]
theorem and2l (x : Nat) (hx : x < 18446744073709551616) : bits .and .u64 (x : Int) 3 = ((x % 4 : Nat) : Int) := by
  have h := u64_and_nat x 3 hx (by decide)
  rw [show ((3 : Nat) : Int) = 3 from rfl] at h
  rw [h, show (3 : Nat) = 2 ^ 2 - 1 by decide, Nat.and_two_pow_sub_one_eq_mod]
theorem natAt_mem {l : List Nat} {B : Nat} (h : ∀ x ∈ l, x < B) (h0 : 0 < B) (k : Nat) : natAt l k < B := getD_lt h h0 k
theorem natAt_all {l : List Nat} {B : Nat} (h : ∀ k, k < l.length → natAt l k < B) : ∀ x ∈ l, x < B := by
  intro x hx
  obtain ⟨k, hk, rfl⟩ := List.mem_iff_getElem.1 hx
  have := h k hk
  simpa [natAt, hk] using this
/-- What the loop of a sum keeps. -/
structure Psum (A B X : List Nat) (k c : Nat) : Prop where
  len : X.length = 17
  rest : ∀ j, k ≤ j → natAt X j = natAt A j
  low : ∀ j, j < k → j < 16 → natAt X j < 256
  top : k = 17 → natAt X 16 < 512 ∧ lvN X = lvN A + lvN B
  mid : k ≤ 16 → c ≤ 1 ∧ lvN (X.take k) + c * 256 ^ k = lvN (A.take k) + lvN (B.take k)
theorem Psum.step {A B X : List Nat} {k c : Nat} (hA : A.length = 17) (hB : B.length = 17) (la : ∀ x ∈ A, x < 256) (lb : ∀ x ∈ B, x < 256) (h : Psum A B X k c) (hk : k < 16) :
    Psum A B (X.set k ((c + natAt A k + natAt B k) % 256)) (k + 1) ((c + natAt A k + natAt B k) / 256) := by
  have hc := (h.mid (by omega)).1
  have h1 := natAt_mem la (by decide) k
  have h2 := natAt_mem lb (by decide) k
  refine ⟨by rw [List.length_set]; exact h.len, fun j hj => ?_, fun j hj hj2 => ?_, fun e => by omega, fun _ => ⟨by omega, ?_⟩⟩
  · rw [natAt_set _ _ _ _ (by rw [h.len]; omega), if_neg (by omega)]; exact h.rest j (by omega)
  · rw [natAt_set _ _ _ _ (by rw [h.len]; omega)]
    split
    · omega
    · exact h.low j (by omega) hj2
  · exact plus_val X _ A B k c (c + (natAt A k + natAt B k)) (by rw [List.length_set]; exact h.len) hA hB (by omega) rfl (h.mid (by omega)).2 (take_set_lt _ _ _) _ _ (by rw [natAt_set _ _ _ _ (by rw [h.len]; omega), if_pos rfl]) (by rw [← Nat.add_assoc]; omega)
theorem Psum.last {A B X : List Nat} {c : Nat} (hA : A.length = 17) (hB : B.length = 17) (la : ∀ x ∈ A, x < 256) (lb : ∀ x ∈ B, x < 256) (h : Psum A B X 16 c) (d : Nat) :
    Psum A B (X.set 16 (c + natAt A 16 + natAt B 16)) 17 d := by
  have hc := (h.mid (by omega)).1
  have h1 := natAt_mem la (by decide) 16
  have h2 := natAt_mem lb (by decide) 16
  refine ⟨by rw [List.length_set]; exact h.len, fun j hj => ?_, fun j hj hj2 => ?_, fun _ => ⟨?_, ?_⟩, fun e => by omega⟩
  · rw [natAt_set _ _ _ _ (by rw [h.len]; omega), if_neg (by omega)]; exact h.rest j (by omega)
  · rw [natAt_set _ _ _ _ (by rw [h.len]; omega), if_neg (by omega)]; exact h.low j (by omega) hj2
  · rw [natAt_set _ _ _ _ (by rw [h.len]; omega), if_pos rfl]; omega
  · have hv := plus_val X (X.set 16 (c + natAt A 16 + natAt B 16)) A B 16 c (c + (natAt A 16 + natAt B 16)) (by rw [List.length_set]; exact h.len) hA hB (by omega) rfl (h.mid (by omega)).2 (take_set_lt _ _ _) (c + natAt A 16 + natAt B 16) 0 (by rw [natAt_set _ _ _ _ (by rw [h.len]; omega), if_pos rfl]) (by omega)
    rw [Nat.zero_mul, Nat.add_zero, List.take_of_length_le (by rw [List.length_set, h.len]; decide), List.take_of_length_le (by rw [hA]; decide), List.take_of_length_le (by rw [hB]; decide)] at hv
    exact hv

set_option maxRecDepth 100000 in
set_option maxHeartbeats 1000000 in
theorem rplus_any (w : World) (A B : List Nat) (hA : A.length = 17) (hB : B.length = 17) (la : ∀ x ∈ A, x < 256) (lb : ∀ x ∈ B, x < 256) :
    Calls Try.prog 21 #[.agg (u32v A).toArray, .agg (u32v B).toArray] w fun e w' => ∃ X, e = .returned (.agg (u32v X).toArray) ∧ Hid (X.length = 17) ∧ Vlt ((∀ j, j < 16 → natAt X j < 256) ∧ natAt X 16 < 512 ∧ lvN X = lvN A + lvN B) ∧ Below w.heap.size w w' := by
  have hzn := zero_w17
  obtain ⟨W, hW, hgA, hgB, hgZ, hbW, hsW⟩ := three_new w (u32v A).toArray (u32v B).toArray (u32v z17).toArray 50 50 50
  have HW := Lib.hid hW
  have HA := Lib.hid hA
  have HB := Lib.hid hB
  have LA := Lib.hid la
  have LB := Lib.hid lb
  have hs1 : w.heap.size + 2 < W.heap.size := by have := hsW.out; omega
  clear hW hA hB la lb
  go_enter Try.func21, Try.ntmps21
  go_upto_region 1 with fail
  rw [HW.out]
  go_wp2_with fail
  go_loopw [5, 6] (fun cy i wr => ∃ (k c : Nat) (X : List Nat), k ≤ 17 ∧ i = .int .i64 (k : Int) ∧ cy = .int .u32 (c : Int) ∧ Hid (wr.heap[w.heap.size]? = some (.cells (u32v X).toArray 50 (0, 0))) ∧ Vlt (Psum A B X k c) ∧ But w.heap.size W wr) (fun _ i _ => 17 - (intOf i).toNat)
  case atStart => exact ⟨0, 0, A, by omega, rfl, rfl, hgA, vlt ⟨HA.out, fun _ _ => rfl, fun _ h _ => by omega, fun h => by omega, fun _ => ⟨by decide, by simp [lvN]⟩⟩, But.refl _ _⟩
  case round =>
    obtain ⟨k, c, X, hk, rfl, rfl, hg, hps, hbt⟩ := hrel
    by_cases hlt : k < 17
    · have hc1 : c ≤ 1 := (hps.out.mid (by omega)).1
      have HXL := Lib.hid hps.out.len
      have hgB2 : Hid (wr.heap[w.heap.size + 1]? = some (.cells (u32v B).toArray 50 (0, 0))) := (hbt.block _ (by omega) (by intro e; injection e; omega)).trans hgB.out
      have c0 := word_at hg.out k (by rw [HXL.out]; exact hlt)
      have c1 := word_at hgB2.out k (by rw [HB.out]; exact hlt)
      rw [hps.out.rest k (Nat.le_refl _)] at c0
      have lx := natAt_mem LA.out (by decide) k
      have ly := natAt_mem LB.out (by decide) k
      have HSTEP := vlt (show k < 16 → Psum A B (X.set k ((c + natAt A k + natAt B k) % 256)) (k + 1) ((c + natAt A k + natAt B k) / 256) from fun h => Psum.step HA.out HB.out LA.out LB.out hps.out h)
      have HLAST := vlt (show k = 16 → ∀ d, Psum A B (X.set k (c + natAt A k + natAt B k)) (k + 1) d from fun h d => by subst h; exact Psum.last HA.out HB.out LA.out LB.out hps.out d)
      generalize natAt A k = x0 at *
      generalize natAt B k = y0 at *
      clear hps hgB2
      go_wp2_with fail
      go_quiet (fail)
      have hgq : Hid ((wr.drewN nq).heap[w.heap.size]? = some (.cells (u32v X).toArray 50 (0, 0))) := hg.out
      have hbq : But w.heap.size W (wr.drewN nq) := But.below_to hbt (below_drewN (Below.refl wr.heap.size wr) nq) (Nat.le_refl _)
      clear c0 c1 hg hbt
      generalize wr.drewN nq = wq at *
      have f0 : wq.frozen? ⟨w.heap.size, k, none⟩ = false := frozen_of_row _ _ _ _ _ hgq.out
      have cq := word_at hgq.out k (by rw [HXL.out]; exact hlt)
      obtain ⟨v, ev, hv, lv⟩ : ∃ v : Nat, (c : Int) + (x0 : Int) + (y0 : Int) = (v : Int) ∧ v = c + x0 + y0 ∧ v < 512 := ⟨c + x0 + y0, by omega, rfl, by omega⟩
      rw [← hv] at HSTEP HLAST
      clear hv
      have hset1 := world_set_cell hgq.out k (.int .u32 (v : Int))
      rw [u32v_set] at hset1
      by_cases hk16 : k < 16
      · have e1 := and8w v (by omega)
        have hki : (k : Int) < 16 := by omega
        have hset2 := world_set_cell hset1.out k (.int .u32 ((v % 256 : Nat) : Int))
        rw [u32v_set, List.set_set] at hset2
        have hb2 := (hbq.set (i := k) (.int .u32 (v : Int))).set (i := k) (.int .u32 ((v % 256 : Nat) : Int))
        have HP := vlt (HSTEP.out hk16)
        have e3 : (v : Int) / 256 = ((v / 256 : Nat) : Int) := by omega
        clear HSTEP HLAST hset1
        generalize v % 256 = q at *
        generalize v / 256 = d at *
        go_wp2
        exact ⟨⟨k + 1, d, _, by omega, by go_num, rfl, hset2, HP, hb2⟩, by simp [intOf]; omega⟩
      · have hki : ¬ (k : Int) < 16 := by omega
        have hb2 := hbq.set (i := k) (.int .u32 (v : Int))
        have HP := vlt (HLAST.out (by omega) v)
        clear HSTEP HLAST
        go_wp2
        exact ⟨⟨k + 1, v, _, by omega, by go_num, by rw [ev], hset1, HP, hb2⟩, by simp [intOf]; omega⟩
    · have hk17 : k = 17 := by omega
      have hsX := Lib.hid (show (u32v X).toArray.size = 17 by simp [u32v_len, hps.out.len])
      have HXL := Lib.hid hps.out.len
      have HV := vlt (show (∀ j, j < 16 → natAt X j < 256) ∧ natAt X 16 < 512 ∧ lvN X = lvN A + lvN B from ⟨fun j hj => hps.out.low j (by omega) hj, hps.out.top hk17⟩)
      have hz : Hid (wr.heap[w.heap.size + 1 + 1]? = some (.cells (u32v z17).toArray 50 (0, 0))) := (hbt.block _ (by omega) (by intro e; injection e; omega)).trans hgZ.out
      have HZS := Lib.hid (show (u32v z17).toArray.size = 17 from rfl)
      have hbw : Below w.heap.size w wr := But.below hbW hbt (by omega) (by omega)
      clear hps
      go_wp2_with (first
        | (with_reducible refine wpList_load_row rfl 50 (.tmp 2) rfl w.heap.size rfl 50 (u32v X).toArray (0, 0) _ hg.out Try.underlying50 rfl (by rw [hsX.out]; kernel_rfl) ?_)
        | (with_reducible refine wpList_store_row rfl 50 (.tmp 4) (.tmp 31) rfl (w.heap.size + 1 + 1) (u32v X).toArray rfl rfl 50 _ hz.out (by rw [hsX.out]; kernel_rfl) (by rw [hsX.out]; exact HZS.out) (all_oneCell_toArray (u32v_one _)) ?_))
      refine bodyPost_ret (v := .agg (u32v X).toArray) (results_cell_row Try.results21 _ _ (w.heap.size + 1 + 1) 50 _ (0, 0) _ rfl (setRow_heap _ _ _ _ _ _ hz.out) Try.underlying50 rfl (by rw [hsX.out]; kernel_rfl)) rfl ⟨X, rfl, HXL, HV, below_setRow hbw (by omega) _⟩
end Go.Proofs.Ytioodeiloepaaaa
