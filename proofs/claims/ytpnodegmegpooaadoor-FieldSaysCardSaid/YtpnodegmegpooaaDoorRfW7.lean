/-
  Contract of the document's own power. Conditions: pieces nearly of 16 bits, 32 bytes.
-/
import Derived.Test.YtpnodegmegpooaaDoorRfT7
import Derived.Test.YtpnodegmegpooaaDoorFdE
namespace Go.Proofs.YtpnodegmegpooaaDoor
open Go.RowKit

theorem ln_byte : ∀ (l : List UInt8) (k c : Nat), l[k]? = some (UInt8.ofNat c) → c < 256 → ln l / 256 ^ k % 256 = c
  | b :: r, 0, c, h, hc => by
    have h1 : b = UInt8.ofNat c := by simpa using h
    have h2 : b.toNat = c := by rw [h1, UInt8.toNat_ofNat', show (2 : Nat) ^ 8 = 256 by decide, Nat.mod_eq_of_lt hc]
    rw [ln, Nat.pow_zero, Nat.div_one, h2]; omega
  | b :: r, k + 1, c, h, hc => by
    have ih := ln_byte r k c (by simpa using h) hc
    have h2 := b.toNat_lt
    rw [ln, Nat.pow_succ, Nat.mul_comm (256 ^ k) 256, ← Nat.div_div_eq_div_mul, show (b.toNat + 256 * ln r) / 256 = ln r by omega]
    exact ih
theorem bit_of (N k c i : Nat) (hc : N / 256 ^ (i / 8) % 256 = c) (hk : k = i % 8) : c / 2 ^ k % 2 = N / 2 ^ i % 2 := by
  subst hc hk
  have e : 2 ^ i = 256 ^ (i / 8) * 2 ^ (i % 8) := by
    rw [show (256 : Nat) = 2 ^ 8 by decide, ← Nat.pow_mul, ← Nat.pow_add, Nat.div_add_mod]
  rw [e, ← Nat.div_div_eq_div_mul]
  generalize N / 256 ^ (i / 8) = M
  have h8 : i % 8 < 8 := Nat.mod_lt _ (by decide)
  generalize i % 8 = j at *
  match j, h8 with
  | 0, _ | 1, _ | 2, _ | 3, _ | 4, _ | 5, _ | 6, _ | 7, _ => simp only [Nat.reducePow]; omega
theorem ipow_sq {C D X P : Int} {e : Nat} (h : D % P = (C * C) % P) (hc : C % P = X ^ e % P) : D % P = X ^ (e + e) % P := by
  rw [h, Int.mul_emod, hc, ← Int.mul_emod, ← Int.pow_add]
theorem ipow_one {C D X P : Int} {e : Nat} (h : D % P = (C * X) % P) (hc : C % P = X ^ e % P) : D % P = X ^ (e + 1) % P := by
  rw [h, Int.mul_emod, hc, ← Int.mul_emod, ← Int.pow_succ]
theorem half_exp (N i : Nat) : N / 2 ^ i = N / 2 ^ (i + 1) + N / 2 ^ (i + 1) + N / 2 ^ i % 2 := by
  rw [Nat.pow_succ, ← Nat.div_div_eq_div_mul]
  generalize N / 2 ^ i = M
  omega
def one16 : List Int := 1 :: List.replicate 15 0
theorem one16_set : (i64v z16).set 0 (.int .i64 1) = i64v one16 := by kernel_rfl
theorem one16_near : Near one16 := ⟨1, List.replicate 15 0, rfl, rfl, fun y hy => by rw [List.eq_of_mem_replicate hy]; decide, by decide, by decide⟩
theorem one16_val : fvs one16 = 1 := by decide
theorem i64v_z16_ne : ¬ i64v z16 = [] := fun h => by have h1 := congrArg List.length h; rw [i64v_len, z16_len] at h1; exact absurd h1 (by decide)
set_option maxRecDepth 100000 in
set_option maxHeartbeats 2000000 in
theorem rpower_any (w : World) (a : List Int) (hn : Near a) (b : List UInt8) (hb : b.length = 32) :
    Calls Tryd.prog 41 #[.agg (i64v a).toArray, .agg (bv b).toArray] w fun e w' => ∃ r, e = .returned (.agg (i64v r).toArray) ∧ Vlt (Near r ∧ fvs r % (FP : Int) = fvs a ^ ln b % (FP : Int)) ∧ Hid (r.length = 16) ∧ Below w.heap.size w w' := by
  have hzf := zero_fe
  have hone := one16_set
  have hnz := i64v_z16_ne
  obtain ⟨W, hW, hgA, hgB, hgZ, hbW, hsW⟩ := three_new w (i64v a).toArray (bv b).toArray (i64v z16).toArray 41 24 41
  have HW := Lib.hid hW
  have NA := vlt hn
  have HB := Lib.hid hb
  have HAS := Lib.hid (i64v_size a hn.len)
  have hs0 : w.heap.size + 2 < W.heap.size := by have := hsW.out; omega
  have HLT := vlt (show ln b / 2 ^ 256 = 0 from Nat.div_eq_of_lt (by have h := ln_lt 32 b hb; rw [show (256 : Nat) ^ 32 = 2 ^ 256 by decide] at h; exact h))
  clear hW hsW hn hb
  obtain ⟨ON, hON⟩ : ∃ ON, ON = one16 := ⟨_, rfl⟩
  rw [← hON] at hone
  have HON := vlt (show Near ON ∧ fvs ON = 1 by rw [hON]; exact ⟨one16_near, one16_val⟩)
  have HONS := Lib.hid (i64v_size ON HON.out.1.len)
  clear hON
  go_enter Tryd.func41, Tryd.ntmps41
  go_upto_region 1 with fail
  rw [HW.out]
  go_upto_region 2 with ((with_reducible refine wpList_store_row rfl 41 (.tmp 5) (.tmp 7) rfl W.heap.size (i64v ON).toArray rfl rfl 41 _ (heap_alloc_new _ _) (by rw [HONS.out]; kernel_rfl) (by rw [HONS.out]; kernel_rfl) (all_oneCell_toArray (i64v_one _)) ?_); rw [World.setRow_alloc_new])
  obtain ⟨V, hV⟩ : ∃ V, V = W.alloc (.cells (i64v ON).toArray 41) := ⟨_, rfl⟩
  rw [← hV]
  have hA : Hid (V.heap[w.heap.size]? = some (.cells (i64v a).toArray 41 (0, 0))) := by rw [hV]; exact (Below.heap_alloc _ _ _ (by omega)).trans hgA.out
  have hB : Hid (V.heap[w.heap.size + 1]? = some (.cells (bv b).toArray 24 (0, 0))) := by rw [hV]; exact (Below.heap_alloc _ _ _ (by omega)).trans hgB.out
  have hZ : Hid (V.heap[w.heap.size + 2]? = some (.cells (i64v z16).toArray 41 (0, 0))) := by rw [hV]; exact (Below.heap_alloc _ _ _ (by omega)).trans hgZ.out
  have hR : Hid (V.heap[W.heap.size]? = some (.cells (i64v ON).toArray 41 (0, 0))) := by rw [hV]; exact heap_alloc_new _ _
  have hbV : Below w.heap.size w V := by rw [hV]; exact hbW.alloc hbW.size _
  obtain ⟨R, hRe⟩ : ∃ R, R = W.heap.size := ⟨_, rfl⟩
  rw [← hRe] at hR hs0 ⊢
  clear hRe hV hgA hgB hgZ hbW
  have hsV : R < V.heap.size := (Array.getElem?_eq_some_iff.1 hR.out).1
  clear hone hnz
  go_wp2_with fail
  go_loopw [6] (fun s wr => ∃ (d : Nat) (o : List Int), d ≤ 256 ∧ s = .int .i64 ((d : Int) - 1) ∧ Hid (wr.heap[R]? = some (.cells (i64v o).toArray 41 (0, 0))) ∧ Vlt (Near o ∧ fvs o % (FP : Int) = fvs a ^ (ln b / 2 ^ d) % (FP : Int)) ∧ But R V wr) (fun s _ => (intOf s + 1).toNat)
  case atStart => exact ⟨256, ON, by omega, rfl, hR, vlt ⟨HON.out.1, by rw [HON.out.2, HLT.out, Int.pow_zero]⟩, But.refl _ _⟩
  case round =>
    obtain ⟨d, o, hd, rfl, hRi, hvi, hbi⟩ := hrel
    by_cases hd0 : 0 < d
    · obtain ⟨i, rfl⟩ : ∃ i, d = i + 1 := ⟨d - 1, by omega⟩
      have ei : ((i + 1 : Nat) : Int) - 1 = (i : Int) := by omega
      rw [ei]
      clear ei
      have hsi : R < wr.heap.size := (Array.getElem?_eq_some_iff.1 hRi.out).1
      have hAi : Hid (wr.heap[w.heap.size]? = some (.cells (i64v a).toArray 41 (0, 0))) := (hbi.block _ (by omega) (by intro e; injection e; omega)).trans hA.out
      have hBi : Hid (wr.heap[w.heap.size + 1]? = some (.cells (bv b).toArray 24 (0, 0))) := (hbi.block _ (by omega) (by intro e; injection e; omega)).trans hB.out
      have hso := Lib.hid (i64v_size o hvi.out.1.len)
      obtain ⟨c, lc, hc⟩ := byte_ex b (i / 8) (by rw [HB.out]; omega)
      have HBIT := vlt (bit_of (ln b) (i % 8) c i (ln_byte b (i / 8) c hc lc) rfl)
      have hcell := vlt (fun (w0 : World) (h0 : w0.heap[w.heap.size + 1]? = some (.cells (bv b).toArray 24 (0, 0))) => byte_cell' h0 lc hc)
      clear hc
      have lsh : c / 2 ^ (i % 8) < 256 := Nat.lt_of_le_of_lt (Nat.div_le_self _ _) lc
      have hlow := low8 _ lsh
      rw [show ((c / 2 ^ (i % 8) : Nat) : Int) = (c : Int) / 2 ^ (i % 8) by simp] at hlow
      obtain ⟨bt, hbt1⟩ : ∃ bt, bt = c / 2 ^ (i % 8) % 2 := ⟨_, rfl⟩
      rw [← hbt1] at hlow HBIT
      have hb2 : bt < 2 := by omega
      have HE1 := vlt (show ln b / 2 ^ i = ln b / 2 ^ (i + 1) + ln b / 2 ^ (i + 1) + bt by rw [HBIT.out]; exact half_exp _ _)
      clear hbt1 lsh HBIT
      go_wp2_with (with_reducible refine wpList_load_row rfl 41 (.tmp 5) rfl R rfl 41 (i64v o).toArray (0, 0) _ hRi.out Tryd.underlying41 rfl (by rw [hso.out]; kernel_rfl) ?_)
      refine (rtimes_any _ o o hvi.out.1 hvi.out.1).mono ?_
      rintro e w3 ⟨q, rfl, e1, hq, hb3⟩
      have hv1 := vlt (show Near q ∧ fvs q % (FP : Int) = fvs a ^ (ln b / 2 ^ (i + 1) + ln b / 2 ^ (i + 1)) % (FP : Int) from ⟨e1.out.1, ipow_sq e1.out.2 hvi.out.2⟩)
      have hR3 : Hid (w3.heap[R]? = some (.cells (i64v o).toArray 41 (0, 0))) := (hb3.block _ (by omega)).trans hRi.out
      have hA3 : Hid (w3.heap[w.heap.size]? = some (.cells (i64v a).toArray 41 (0, 0))) := (hb3.block _ (by omega)).trans hAi.out
      have hB3 : Hid (w3.heap[w.heap.size + 1]? = some (.cells (bv b).toArray 24 (0, 0))) := (hb3.block _ (by omega)).trans hBi.out
      have hbt3 := hbi.below_to hb3 (Nat.le_refl _)
      have hsq := Lib.hid (i64v_size q hq.out)
      clear hRi hAi hBi hbi e1 hvi
      go_upto_region 6 with (with_reducible refine wpList_store_row rfl 41 (.tmp 5) (.tmp 14) rfl R (i64v q).toArray rfl rfl 41 _ hR3.out (by rw [hsq.out]; kernel_rfl) (by rw [hsq.out, hso.out]) (all_oneCell_toArray (i64v_one _)) ?_)
      obtain ⟨w4, hw4⟩ : ∃ w4, w4 = w3.setRow R (i64v q).toArray := ⟨_, rfl⟩
      rw [← hw4]
      have hR4 : Hid (w4.heap[R]? = some (.cells (i64v q).toArray 41 (0, 0))) := by rw [hw4]; exact setRow_heap _ _ _ _ _ _ hR3.out
      have hA4 : Hid (w4.heap[w.heap.size]? = some (.cells (i64v a).toArray 41 (0, 0))) := by rw [hw4]; exact (setRow_other _ _ _ _ (by omega)).trans hA3.out
      have hB4 : Hid (w4.heap[w.heap.size + 1]? = some (.cells (bv b).toArray 24 (0, 0))) := by rw [hw4]; exact (setRow_other _ _ _ _ (by omega)).trans hB3.out
      have hbt4 : But R V w4 := by rw [hw4]; exact hbt3.row _
      have hs4 : R < w4.heap.size := (Array.getElem?_eq_some_iff.1 hR4.out).1
      have cb := hcell.out w4 hB4.out
      clear hw4 hR3 hA3 hB3 hbt3 hb3 hcell
      have hq8 : (i : Int).tdiv 8 = ((i / 8 : Nat) : Int) := (Int.ofNat_tdiv i 8).symm
      have hr8 : (i : Int).tmod 8 = ((i % 8 : Nat) : Int) := (Int.ofNat_tmod i 8).symm
      by_cases hone : bt = 1
      · subst hone
        go_wp2_with (first
          | (with_reducible refine wpList_load_row rfl 41 (.tmp 5) rfl R rfl 41 (i64v q).toArray (0, 0) _ hR4.out Tryd.underlying41 rfl (by rw [hsq.out]; kernel_rfl) ?_)
          | (with_reducible refine wpList_load_row rfl 41 (.tmp 2) rfl w.heap.size rfl 41 (i64v a).toArray (0, 0) _ hA4.out Tryd.underlying41 rfl (by rw [HAS.out]; kernel_rfl) ?_))
        refine (rtimes_any w4 q a hv1.out.1 NA.out).mono ?_
        rintro e w5 ⟨r, rfl, e2, hr, hb5⟩
        have hv2 := vlt (show Near r ∧ fvs r % (FP : Int) = fvs a ^ (ln b / 2 ^ i) % (FP : Int) from ⟨e2.out.1, by rw [HE1.out]; exact ipow_one e2.out.2 hv1.out.2⟩)
        have hR5 : Hid (w5.heap[R]? = some (.cells (i64v q).toArray 41 (0, 0))) := (hb5.block _ (by omega)).trans hR4.out
        have hbt5 := hbt4.below_to hb5 (Nat.le_refl _)
        have hsr := Lib.hid (i64v_size r hr.out)
        clear hv1 e2
        go_upto_region 4 with (with_reducible refine wpList_store_row rfl 41 (.tmp 5) (.tmp 27) rfl R (i64v r).toArray rfl rfl 41 _ hR5.out (by rw [hsr.out]; kernel_rfl) (by rw [hsr.out, hsq.out]) (all_oneCell_toArray (i64v_one _)) ?_)
        have hR6 : Hid ((w5.setRow R (i64v r).toArray).heap[R]? = some (.cells (i64v r).toArray 41 (0, 0))) := setRow_heap _ _ _ _ _ _ hR5.out
        have hbt6 := hbt5.row (i64v r).toArray
        generalize w5.setRow R (i64v r).toArray = w6 at *
        go_wp2
        go_roundw
        case rel => exact ⟨i, r, by omega, rfl, hR6, hv2, hbt6⟩
        case measure => simp [intOf]
      · obtain rfl : bt = 0 := by omega
        have hv2 := vlt (show Near q ∧ fvs q % (FP : Int) = fvs a ^ (ln b / 2 ^ i) % (FP : Int) from ⟨hv1.out.1, by rw [HE1.out, Nat.add_zero]; exact hv1.out.2⟩)
        go_wp2
        go_roundw
        case rel => exact ⟨i, q, by omega, rfl, hR4, hv2, hbt4⟩
        case measure => simp [intOf]
    · obtain rfl : d = 0 := by omega
      have HE := vlt (show Near o ∧ fvs o % (FP : Int) = fvs a ^ ln b % (FP : Int) from ⟨hvi.out.1, by have h := hvi.out.2; rwa [Nat.pow_zero, Nat.div_one] at h⟩)
      have HOL := Lib.hid hvi.out.1.len
      have hsz := Lib.hid (i64v_size o HOL.out)
      have hz : Hid (wr.heap[w.heap.size + 1 + 1]? = some (.cells (i64v z16).toArray 41 (0, 0))) := (hbi.block _ (by omega) (by intro e; injection e; omega)).trans hZ.out
      have hbw : Below w.heap.size w wr := But.below hbV hbi (by omega) (by omega)
      clear hvi
      go_wp2_with (first
        | (with_reducible refine wpList_load_row rfl 41 (.tmp 5) rfl R rfl 41 (i64v o).toArray (0, 0) _ hRi.out Tryd.underlying41 rfl (by rw [hsz.out]; kernel_rfl) ?_)
        | (with_reducible refine wpList_store_row rfl 41 (.tmp 4) (.tmp 28) rfl (w.heap.size + 1 + 1) (i64v o).toArray rfl rfl 41 _ hz.out (by rw [hsz.out]; kernel_rfl) (by rw [hsz.out]; kernel_rfl) (all_oneCell_toArray (i64v_one _)) ?_))
      refine bodyPost_ret (v := .agg (i64v o).toArray) (results_cell_row Tryd.results41 _ _ (w.heap.size + 1 + 1) 41 _ (0, 0) _ rfl (setRow_heap _ _ _ _ _ _ hz.out) Tryd.underlying41 rfl (by rw [hsz.out]; kernel_rfl)) rfl ⟨o, rfl, HE, HOL, below_setRow hbw (by omega) _⟩
end Go.Proofs.YtpnodegmegpooaaDoor
