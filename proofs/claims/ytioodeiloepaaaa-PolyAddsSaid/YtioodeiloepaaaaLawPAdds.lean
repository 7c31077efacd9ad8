/-
  PolyAdds: the law's Go text returns true, whatever the halves of the key and the bytes. Conditions: none beyond the row's own.
-/
import Derived.Test.YtioodeiloepaaaaPlStp
namespace Go.Proofs.Ytioodeiloepaaaa
open Go.RowKit

/-- The bytes of numbers, and of their sum. -/
theorem le_at (v : Nat) : ∀ n k, k < n → (le v n)[k]? = some (UInt8.ofNat (v / 2 ^ (8 * k)))
  | 0, k, h => by omega
  | n + 1, k, h => by
    rw [le]
    by_cases hk : k < n
    · rw [List.getElem?_append_left (by rw [le_len]; exact hk)]; exact le_at v n k hk
    · have : k = n := by omega
      subst this
      rw [List.getElem?_append_right (by rw [le_len]; exact Nat.le_refl _), le_len, Nat.sub_self]; rfl
theorem byte_le {w : World} {g v n : Nat} {t : TypeId} (hg : w.heap[g]? = some (.cells (bv (le v n)).toArray t (0, 0))) (k : Nat) (hk : k < n) : w.cell? ⟨g, k, none⟩ = some (.int .u8 ((v / 256 ^ k % 256 : Nat) : Int)) := by
  have h := byte_cell hg (le_at v n k hk)
  rw [UInt8.toNat_ofNat', Nat.pow_mul] at h
  exact h
theorem byte_ln {w : World} {g : Nat} {l : List UInt8} {t : TypeId} (hg : w.heap[g]? = some (.cells (bv l).toArray t (0, 0))) (k : Nat) (hk : k < l.length) : w.cell? ⟨g, k, none⟩ = some (.int .u8 ((ln l / 256 ^ k % 256 : Nat) : Int)) := by
  have h := byte_cell hg (List.getElem?_eq_getElem hk)
  have hs := ln_split l k (by omega)
  have hd : l.drop k = l[k] :: l.drop (k + 1) := List.drop_eq_getElem_cons hk
  have hl := ln_lt k (l.take k) (by simp; omega)
  have e : ln l / 256 ^ k % 256 = l[k].toNat := by
    rw [← hs, Nat.add_mul_div_left _ _ (Nat.pow_pos (by decide)), Nat.div_eq_of_lt hl, Nat.zero_add, hd, ln]
    have := l[k].toNat_lt
    omega
  rw [e]; exact h
def cyOf (H S k : Nat) : Nat := (H % 256 ^ k + S % 256 ^ k) / 256 ^ k
theorem cy_step (H S k : Nat) : (cyOf H S k + H / 256 ^ k % 256 + S / 256 ^ k % 256) % 256 = (H + S) / 256 ^ k % 256 ∧ (cyOf H S k + H / 256 ^ k % 256 + S / 256 ^ k % 256) / 256 = cyOf H S (k + 1) := by
  unfold cyOf
  rw [Nat.pow_succ]
  have hP : 0 < 256 ^ k := Nat.pow_pos (by decide)
  generalize 256 ^ k = P at *
  have eH := Nat.div_add_mod H P
  have eS := Nat.div_add_mod S P
  have e1 : (H + S) / P = H / P + S / P + (H % P + S % P) / P := by
    conv => lhs; rw [← eH, ← eS]
    rw [show P * (H / P) + H % P + (P * (S / P) + S % P) = (H % P + S % P) + P * (H / P + S / P) by grind, Nat.add_mul_div_left _ _ hP]; omega
  have e2 : (H % (P * 256) + S % (P * 256)) / (P * 256) = (H / P % 256 + S / P % 256 + (H % P + S % P) / P) / 256 := by
    rw [Nat.mod_mul, Nat.mod_mul, ← Nat.div_div_eq_div_mul]
    rw [show H % P + P * (H / P % 256) + (S % P + P * (S / P % 256)) = (H % P + S % P) + P * (H / P % 256 + S / P % 256) by grind, Nat.add_mul_div_left _ _ hP]
    congr 1; omega
  refine ⟨by rw [e1]; omega, ?_⟩
  rw [e2]
  congr 1
  omega
theorem cy_lt (H S k : Nat) : cyOf H S k < 2 := by
  unfold cyOf
  have hP : 0 < 256 ^ k := Nat.pow_pos (by decide)
  have := Nat.mod_lt H hP
  have := Nat.mod_lt S hP
  exact Nat.div_lt_of_lt_mul (by omega)

theorem cy_zero (H S : Nat) : cyOf H S 0 = 0 := by simp [cyOf, Nat.mod_one]
theorem tag_r (r s b : List UInt8) (hr : r.length = 16) : tagOf (r ++ s) b = le ((polyOf (ln (clampOf r)) b + ln s) % 340282366920938463463374607431768211456) 16 := by
  have e1 : (r ++ s).take 16 = r := by rw [← hr, List.take_left]
  have e2 : (r ++ s).drop 16 = s := by rw [← hr, List.drop_left]
  unfold tagOf rOf
  rw [e1, e2]

set_option maxRecDepth 100000 in
set_option maxHeartbeats 2000000 in
theorem walk_PolyAdds (w : World) (r : List UInt8) (hr : r.length = 16) (s : List UInt8) (hs : s.length = 16) (A : Option Addr) (b : List UInt8) (n c : Nat) (hb : Byt w w.heap.size A b) (hl : b.length = n) (hc : n ≤ c) :
    Calls Try.prog 6 #[.agg (bv r).toArray, .agg (bv s).toArray, .slice A n c] w fun e w' => e = .returned (.bool true) ∧ Below w.heap.size w w' := by
  have hz16 := zero_b16
  have hzw := zero_w32
  obtain ⟨W, hW, hgR, hgS, hbW, hsW⟩ := pair_new w (bv r).toArray (bv s).toArray 23 23
  have HW := Lib.hid hW
  have HR := Lib.hid hr
  have HS := Lib.hid hs
  have HL := Lib.hid hl
  have HZ16 := Lib.hid (show (bv z16).toArray.size = 16 from rfl)
  have HZ32 := Lib.hid (show (bv z32).toArray.size = 32 from rfl)
  have hs1 : w.heap.size + 1 < W.heap.size := by have := hsW.out; omega
  have hbW' : Byt W w.heap.size A b := hb.below hbW
  clear hW hr hs hl hb
  go_enter Try.func6, Try.ntmps6
  go_upto_region 1 with fail
  rw [HW.out]
  go_wp2_with fail
  refine (awake5_any W).mono ?_
  rintro e w1 ⟨rfl, hb1⟩
  have hgR1 : Hid (w1.heap[w.heap.size]? = some (.cells (bv r).toArray 23 (0, 0))) := (hb1.block _ (by omega)).trans hgR.out
  have hgS1 : Hid (w1.heap[w.heap.size + 1]? = some (.cells (bv s).toArray 23 (0, 0))) := (hb1.block _ hs1).trans hgS.out
  have hbt1 : Byt w1 w.heap.size A b := hbW'.keep fun p hp => hb1.cell (by omega)
  have hbw1 : Below w.heap.size w w1 := below_next hbW hbW.size hb1
  have hs2 : w.heap.size + 1 < w1.heap.size := by have := hb1.size; omega
  clear hgR hgS hbW' hb1
  by_cases hbig : 200 < n
  · have hbi : (200 : Int) < (n : Int) := by omega
    go_wp2
    go_ret
    exact ⟨rfl, hbw1⟩
  · have hbi : ¬ (200 : Int) < (n : Int) := by omega
    go_wp2_with (first
      | (with_reducible refine wpList_build_to rfl 26 _ rfl [] (by rfl) _ built_w32 ?_)
      | ((with_reducible refine wpList_store_row rfl 26 (.tmp 7) (.tmp 17) rfl w1.heap.size (bv z32).toArray rfl rfl 26 _ (heap_alloc_new _ _) (by rw [HZ32.out]; kernel_rfl) (by rw [HZ32.out]) (all_oneCell_toArray (bv_one _)) ?_); rw [World.setRow_alloc_new]))
    have gk := Lib.hid (heap_alloc_new w1 (.cells (bv z32).toArray 26))
    have hb2 : Below w1.heap.size w1 (w1.alloc (.cells (bv z32).toArray 26)) := (Below.refl _ _).alloc (Nat.le_refl _) _
    have lk2 : w1.heap.size < (w1.alloc (.cells (bv z32).toArray 26)).heap.size := by simp
    generalize w1.alloc (.cells (bv z32).toArray 26) = w2 at *
    have hgR2 : Hid (w2.heap[w.heap.size]? = some (.cells (bv r).toArray 23 (0, 0))) := (hb2.block _ (by omega)).trans hgR1.out
    have hgS2 : Hid (w2.heap[w.heap.size + 1]? = some (.cells (bv s).toArray 23 (0, 0))) := (hb2.block _ hs2).trans hgS1.out
    have hbt2 : Byt w2 w.heap.size A b := hbt1.keep fun p hp => hb2.cell (by omega)
    have hbw2 : Below w.heap.size w w2 := below_next hbw1 hbw1.size hb2
    obtain ⟨D, hD⟩ : ∃ D, D = w1.heap.size := ⟨_, rfl⟩
    rw [← hD] at gk lk2 hs2 ⊢
    clear hD hb2 hgR1 hgS1 hbt1 hbw1
    have hc1 := cut_all Try.underlying26 Try.sizeByte D 0 (by decide)
    have hc2 := cut_all Try.underlying23 Try.sizeByte w.heap.size 0 (by decide)
    have hbr := byt_row hgR2.out
    go_region_law ((refine step_copy_but rfl (.tmp 18) (.tmp 19) 27 rfl 5 Try.underlying27 Try.sizeByte D 0 32 32 16 16 (some ⟨w.heap.size, 0, none⟩) (by rfl) (by rfl) (bv z32) 26 gk.out r w2.heap.size hbr HR.out (by decide) (by decide) w2 (But.refl D w2).drew ?_; intro w3 hg3 hb3))
    have gk3 : Hid (w3.heap[D]? = some (.cells (bv (r ++ z16)).toArray 26 (0, 0))) := by
      have h1 := hg3.out
      rw [List.take_of_length_le (show r.length ≤ 32 by rw [HR.out]; decide), splice_bv, List.take_zero, List.nil_append, HR.out, show z32.drop (0 + 16) = z16 from rfl] at h1
      exact h1
    have hgR3 : Hid (w3.heap[w.heap.size]? = some (.cells (bv r).toArray 23 (0, 0))) := (hb3.block _ (by omega) (by intro e; injection e; omega)).trans hgR2.out
    have hgS3 : Hid (w3.heap[w.heap.size + 1]? = some (.cells (bv s).toArray 23 (0, 0))) := (hb3.block _ (by omega) (by intro e; injection e; omega)).trans hgS2.out
    have hbt3 : Byt w3 w.heap.size A b := hbt2.but hb3 (by omega) (by omega)
    have hbw3 : Below w.heap.size w w3 := But.below hbw2 hb3 (by omega) hbw2.size
    have hs3 : D < w3.heap.size := (Array.getElem?_eq_some_iff.1 gk3.out).1
    have hk3l := Lib.hid (show (r ++ z16).length = 32 by rw [List.length_append, HR.out]; rfl)
    have HKS := Lib.hid (show (bv (r ++ z16)).toArray.size = 32 by simp [bv_len, HR.out]; rfl)
    have htag := tag_slice w3 (r ++ z16) b A n c (hbt3.up (by omega)) hk3l.out HL.out hc (by omega)
    obtain ⟨H, hH⟩ : ∃ H, H = polyOf (ln (clampOf r)) b % 340282366920938463463374607431768211456 := ⟨_, rfl⟩
    have ht : tagOf (r ++ z16) b = le H 16 := by
      rw [tag_r r z16 b HR.out, show ln z16 = 0 from rfl, Nat.add_zero, hH]
    have hu : tagOf (r ++ s) b = le (H + ln s) 16 := by
      rw [tag_r r s b HR.out, ← le_mod (H + ln s) 16, show (2 : Nat) ^ (8 * 16) = 340282366920938463463374607431768211456 by decide, hH, Nat.mod_add_mod]
    rw [ht] at htag
    have HU := vlt hu
    have htl := Lib.hid (show (bv (le H 16)).toArray.size = 16 by simp [bv_len, le_len])
    have hul := Lib.hid (show (bv (le (H + ln s) 16)).toArray.size = 16 by simp [bv_len, le_len])
    clear hH ht hu hc1 hc2 hbr hg3 gk lk2 hgR2 hgS2 hbt2 hbw2 hb3
    obtain ⟨t, htt⟩ : ∃ t, t = le H 16 := ⟨_, rfl⟩
    rw [← htt] at htag htl
    have HT := vlt htt
    clear htt
    go_wp2_with (with_reducible refine wpList_load_row rfl 26 (.tmp 7) rfl D rfl 26 (bv (r ++ z16)).toArray (0, 0) _ gk3.out Try.underlying26 rfl (by rw [HKS.out]; kernel_rfl) ?_)
    refine htag.mono ?_
    rintro e w4 ⟨rfl, hb4⟩
    have gk4 : Hid (w4.heap[D]? = some (.cells (bv (r ++ z16)).toArray 26 (0, 0))) := (hb4.block _ hs3).trans gk3.out
    have hgS4 : Hid (w4.heap[w.heap.size + 1]? = some (.cells (bv s).toArray 23 (0, 0))) := (hb4.block _ (by omega)).trans hgS3.out
    have hbt4 : Byt w4 w.heap.size A b := hbt3.keep fun p hp => hb4.cell (by omega)
    have hbw4 : Below w.heap.size w w4 := below_next hbw3 hbw3.size hb4
    have hs4 : D < w4.heap.size := by have := hb4.size; omega
    clear htag gk3 hgR3 hgS3 hbt3 hbw3 hb4
    go_wp2_with ((with_reducible refine wpList_store_row rfl 23 (.tmp 8) (.tmp 24) rfl w4.heap.size (bv t).toArray rfl rfl 23 _ (heap_alloc_new _ _) (by rw [htl.out]; kernel_rfl) (by rw [htl.out]; exact HZ16.out) (all_oneCell_toArray (bv_one _)) ?_); rw [World.setRow_alloc_new])
    have gt := Lib.hid (heap_alloc_new w4 (.cells (bv t).toArray 23))
    have hb5 : Below w4.heap.size w4 (w4.alloc (.cells (bv t).toArray 23)) := (Below.refl _ _).alloc (Nat.le_refl _) _
    have lt5 : w4.heap.size < (w4.alloc (.cells (bv t).toArray 23)).heap.size := by simp
    generalize w4.alloc (.cells (bv t).toArray 23) = w5 at *
    have gk5 : Hid (w5.heap[D]? = some (.cells (bv (r ++ z16)).toArray 26 (0, 0))) := (hb5.block _ hs4).trans gk4.out
    have hgS5 : Hid (w5.heap[w.heap.size + 1]? = some (.cells (bv s).toArray 23 (0, 0))) := (hb5.block _ (by omega)).trans hgS4.out
    have hbt5 : Byt w5 w.heap.size A b := hbt4.keep fun p hp => hb5.cell (by omega)
    have hbw5 : Below w.heap.size w w5 := below_next hbw4 hbw4.size hb5
    obtain ⟨T, hT⟩ : ∃ T, T = w4.heap.size := ⟨_, rfl⟩
    have hDT : D < T := by omega
    rw [← hT] at gt lt5 ⊢
    clear hT gk4 hgS4 hbt4 hbw4 hb5 hs4
    have hc1 := cut_l Try.underlying26 Try.sizeByte D 0 16 16 rfl (by decide)
    have hc2 := cut_all Try.underlying23 Try.sizeByte (w.heap.size + 1) 0 (by decide)
    have hbs := byt_row hgS5.out
    go_region_law ((refine step_copy_but rfl (.tmp 25) (.tmp 26) 27 rfl 5 Try.underlying27 Try.sizeByte D 16 16 16 16 16 (some ⟨w.heap.size + 1, 0, none⟩) (by rfl) (by rfl) (bv (r ++ z16)) 26 gk5.out s w5.heap.size hbs HS.out (by decide) (by rw [bv_len, hk3l.out]; decide) w5 (But.refl D w5).drew ?_; intro w6 hg6 hb6))
    have gk6 : Hid (w6.heap[D]? = some (.cells (bv (r ++ s)).toArray 26 (0, 0))) := by
      have h1 := hg6.out
      rw [List.take_of_length_le (show s.length ≤ 16 by rw [HS.out]; decide), splice_bv, show (r ++ z16).take 16 = r by rw [← HR.out, List.take_left], List.drop_eq_nil_of_le (by rw [hk3l.out, HS.out]; decide), List.append_nil] at h1
      exact h1
    have gt6 : Hid (w6.heap[T]? = some (.cells (bv t).toArray 23 (0, 0))) := (hb6.block _ lt5 (by intro e; injection e; omega)).trans gt.out
    have hgS6 : Hid (w6.heap[w.heap.size + 1]? = some (.cells (bv s).toArray 23 (0, 0))) := (hb6.block _ (by omega) (by intro e; injection e; omega)).trans hgS5.out
    have hbt6 : Byt w6 w.heap.size A b := hbt5.but hb6 (by omega) (by omega)
    have hbw6 : Below w.heap.size w w6 := But.below hbw5 hb6 (by omega) hbw5.size
    have hs6 : T < w6.heap.size := (Array.getElem?_eq_some_iff.1 gt6.out).1
    have hk6l := Lib.hid (show (r ++ s).length = 32 by rw [List.length_append, HR.out, HS.out])
    have HKS2 := Lib.hid (show (bv (r ++ s)).toArray.size = 32 by simp [bv_len, HR.out, HS.out])
    have htag := tag_slice w6 (r ++ s) b A n c (hbt6.up (by omega)) hk6l.out HL.out hc (by omega)
    rw [HU.out] at htag
    obtain ⟨u, huu⟩ : ∃ u, u = le (H + ln s) 16 := ⟨_, rfl⟩
    rw [← huu] at htag hul
    have HU2 := vlt huu
    clear huu hc1 hc2 hbs hg6 gk5 gt hgS5 hbt5 hbw5 hb6 HU
    go_wp2_with (with_reducible refine wpList_load_row rfl 26 (.tmp 7) rfl D rfl 26 (bv (r ++ s)).toArray (0, 0) _ gk6.out Try.underlying26 rfl (by rw [HKS2.out]; kernel_rfl) ?_)
    refine htag.mono ?_
    rintro e w7 ⟨rfl, hb7⟩
    have gt7 : Hid (w7.heap[T]? = some (.cells (bv t).toArray 23 (0, 0))) := (hb7.block _ hs6).trans gt6.out
    have hgS7 : Hid (w7.heap[w.heap.size + 1]? = some (.cells (bv s).toArray 23 (0, 0))) := (hb7.block _ (by omega)).trans hgS6.out
    have hbw7 : Below w.heap.size w w7 := below_next hbw6 hbw6.size hb7
    have hs7 : T < w7.heap.size := by have := hb7.size; omega
    clear htag gk6 gt6 hgS6 hbt6 hbw6 hb7
    go_wp2_with ((with_reducible refine wpList_store_row rfl 23 (.tmp 9) (.tmp 31) rfl w7.heap.size (bv u).toArray rfl rfl 23 _ (heap_alloc_new _ _) (by rw [hul.out]; kernel_rfl) (by rw [hul.out]; exact HZ16.out) (all_oneCell_toArray (bv_one _)) ?_); rw [World.setRow_alloc_new])
    have gu : Hid ((w7.alloc (.cells (bv u).toArray 23)).heap[w7.heap.size]? = some (.cells (bv u).toArray 23 (0, 0))) := heap_alloc_new w7 (.cells (bv u).toArray 23)
    have hb8 : Below w7.heap.size w7 (w7.alloc (.cells (bv u).toArray 23)) := (Below.refl _ _).alloc (Nat.le_refl _) _
    generalize w7.alloc (.cells (bv u).toArray 23) = w8 at *
    have gt8 : Hid (w8.heap[T]? = some (.cells (bv t).toArray 23 (0, 0))) := (hb8.block _ hs7).trans gt7.out
    have hgS8 : Hid (w8.heap[w.heap.size + 1]? = some (.cells (bv s).toArray 23 (0, 0))) := (hb8.block _ (by omega)).trans hgS7.out
    have hbw8 : Below w.heap.size w w8 := below_next hbw7 hbw7.size hb8
    clear gt7 hgS7 hbw7 hb8
    go_loopw [10, 11] (fun cy i wr => ∃ (k y : Nat), k ≤ 16 ∧ i = .int .i64 (k : Int) ∧ cy = .int .i64 (y : Int) ∧ y < 2 ∧ Hid (y = cyOf H (ln s) k) ∧ Hid (wr.heap[T]? = some (.cells (bv t).toArray 23 (0, 0))) ∧ Hid (wr.heap[w7.heap.size]? = some (.cells (bv u).toArray 23 (0, 0))) ∧ Hid (wr.heap[w.heap.size + 1]? = some (.cells (bv s).toArray 23 (0, 0))) ∧ Below w.heap.size w wr) (fun _ i _ => 16 - (intOf i).toNat)
    case atStart => exact ⟨0, 0, by omega, rfl, rfl, by decide, show _ = _ from (cy_zero H (ln s)).symm, gt8, gu, hgS8, hbw8⟩
    case round =>
      clear gt8 gu hgS8 hbw8
      obtain ⟨k, y, hk, rfl, rfl, ly, hy, gtr, gur, gsr, hbr⟩ := hrel
      by_cases hlt : k < 16
      · have hi16 : (k : Int) < 16 := by omega
        have ct : wr.cell? ⟨T, k, none⟩ = some (.int .u8 ((H / 256 ^ k % 256 : Nat) : Int)) := byte_le (by rw [← HT.out]; exact gtr.out) k hlt
        have cs : wr.cell? ⟨w.heap.size + 1, k, none⟩ = some (.int .u8 ((ln s / 256 ^ k % 256 : Nat) : Int)) := byte_ln gsr.out k (by rw [HS.out]; exact hlt)
        have cu : wr.cell? ⟨w7.heap.size, k, none⟩ = some (.int .u8 (((H + ln s) / 256 ^ k % 256 : Nat) : Int)) := byte_le (by rw [← HU2.out]; exact gur.out) k hlt
        have hst := cy_step H (ln s) k
        rw [← hy.out] at hst
        have hcl := cy_lt H (ln s) (k + 1)
        rw [← hst.1] at cu
        have lx : H / 256 ^ k % 256 < 256 := Nat.mod_lt _ (by decide)
        have lz : ln s / 256 ^ k % 256 < 256 := Nat.mod_lt _ (by decide)
        have HN := vlt hst.2
        rw [← hst.2] at hcl
        clear hst
        generalize H / 256 ^ k % 256 = x at *
        generalize ln s / 256 ^ k % 256 = z at *
        have v1 : IntKind.i64.wrap (x : Int) = (x : Int) := IntWalk.i64_in _ (by omega)
        have v2 : IntKind.i64.wrap (z : Int) = (z : Int) := IntWalk.i64_in _ (by omega)
        have v3 : IntKind.i64.wrap ((y : Int) + (x : Int)) = (y : Int) + (x : Int) := IntWalk.i64_in _ (by omega)
        have v4 : IntKind.i64.wrap ((y : Int) + (x : Int) + (z : Int)) = (y : Int) + (x : Int) + (z : Int) := IntWalk.i64_in _ (by omega)
        obtain ⟨q, hq⟩ : ∃ q, q = (y + x + z) % 256 := ⟨_, rfl⟩
        rw [← hq] at cu
        have e1 : ((y : Int) + (x : Int) + (z : Int)) % 256 = (q : Int) := by omega
        have e2 : IntKind.u8.wrap ((y : Int) + (x : Int) + (z : Int)) = (q : Int) := by rw [IntKind.wrap_u8']; exact e1
        obtain ⟨d, hd⟩ : ∃ d, d = (y + x + z) / 256 := ⟨_, rfl⟩
        rw [← hd] at HN hcl
        have e3 : ((y : Int) + (x : Int) + (z : Int)) / 256 = (d : Int) := by omega
        have hd2 : d < 2 := by omega
        clear hq hd hcl
        go_wp2_with fail
        go_quiet (fail)
        have gt9 : Hid ((wr.drewN nq).heap[T]? = some (.cells (bv t).toArray 23 (0, 0))) := gtr
        have gu9 : Hid ((wr.drewN nq).heap[w7.heap.size]? = some (.cells (bv u).toArray 23 (0, 0))) := gur
        have gs9 : Hid ((wr.drewN nq).heap[w.heap.size + 1]? = some (.cells (bv s).toArray 23 (0, 0))) := gsr
        have cu9 : (wr.drewN nq).cell? ⟨w7.heap.size, k, none⟩ = some (.int .u8 (q : Int)) := cu
        have hb9 : Below w.heap.size w (wr.drewN nq) := below_drewN hbr nq
        generalize wr.drewN nq = V at *
        clear v1 v2 v3 v4 ct cs cu
        go_wp2
        exact ⟨⟨k + 1, d, by omega, by go_num, rfl, hd2, show _ = _ from HN.out, gt9, gu9, gs9, hb9⟩, by simp [intOf]; omega⟩
      · go_wp2
        go_ret
        exact ⟨rfl, hbr⟩
end Go.Proofs.Ytioodeiloepaaaa
