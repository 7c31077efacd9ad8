/-
  Contract of the document's own Times. Conditions: pieces nearly of 16 bits.
-/
import Derived.Test.YtpnodegmegpooaaDoorRfP7
import Derived.IntWalk
namespace Go.Proofs.YtpnodegmegpooaaDoor
open Go.RowKit

theorem prod16 (x y : Int) (h1 : -38 ≤ x) (h2 : x ≤ 65573) (h3 : -38 ≤ y) (h4 : y ≤ 65573) : -8589934592 ≤ x * y ∧ x * y ≤ 8589934592 := by
  have h : (x * y).natAbs ≤ 65573 * 65573 := by
    rw [Int.natAbs_mul]
    exact Nat.mul_le_mul (by omega) (by omega)
  omega
theorem fold_val (t : List Int) (h : t.length = 31) : (fvs (t.take 16) + 38 * fvs ((t.drop 16).take 16)) % (FP : Int) = fvs t % (FP : Int) := by
  have h1 : fvs t = fvs (t.take 16) + 65536 ^ 16 * fvs (t.drop 16) := by
    have := fvs_app (t.take 16) (t.drop 16)
    rw [List.take_append_drop, List.length_take, h] at this
    exact this
  rw [List.take_of_length_le (l := t.drop 16) (by rw [List.length_drop, h]; decide), h1, show (65536 : Int) ^ 16 = 2 * (FP : Int) + 38 by decide]
  rw [show fvs (t.take 16) + (2 * (FP : Int) + 38) * fvs (t.drop 16) = fvs (t.take 16) + 38 * fvs (t.drop 16) + (FP : Int) * (2 * fvs (t.drop 16)) by grind, Int.add_mul_emod_self_left]
theorem fold_step (t : List Int) (h : t.length = 31) (i : Nat) (hi : i < 15) : fvs (t.take i) + 38 * fvs ((t.drop 16).take i) + (iat t i + 38 * iat t (i + 16) - 0) * 65536 ^ i = fvs (t.take (i + 1)) + 38 * fvs ((t.drop 16).take (i + 1)) := by
  rw [fvs_take t i (by omega), fvs_take (t.drop 16) i (by rw [List.length_drop]; omega)]
  have : iat (t.drop 16) i = iat t (i + 16) := by rw [iat, iat, List.getD_eq_getElem?_getD, List.getD_eq_getElem?_getD, List.getElem?_drop, Nat.add_comm]
  rw [this]
  grind
theorem fold_last (t : List Int) (h : t.length = 31) : fvs (t.take 15) + 38 * fvs ((t.drop 16).take 15) + (iat t 15 - 0) * 65536 ^ 15 = fvs (t.take 16) + 38 * fvs ((t.drop 16).take 16) := by
  rw [fvs_take t 15 (by omega), List.take_of_length_le (l := t.drop 16) (i := 16) (by rw [List.length_drop]; omega), List.take_of_length_le (l := t.drop 16) (i := 15) (by rw [List.length_drop]; omega)]
  grind
structure Conv (t : List Int) (N K : Int) : Prop where
  len : t.length = 31
  val : fvs t = N
  bnd : ∀ x ∈ t, -K ≤ x ∧ x ≤ K
theorem Conv.step {t : List Int} {N K : Int} (h : Conv t N K) (j : Nat) (hj : j < 31) (p : Int) (hp : -8589934592 ≤ p ∧ p ≤ 8589934592) : Conv (t.set j (iat t j + p)) (N + p * 65536 ^ j) (K + 8589934592) :=
  ⟨by rw [List.length_set, h.len], by rw [fvs_set _ _ _ (by rw [h.len]; exact hj), h.val]; grind, mem_set (P := fun x => -(K + 8589934592) ≤ x ∧ x ≤ K + 8589934592) (fun x hx => by have := h.bnd x hx; omega) (by have := mem_iat (P := fun x => -K ≤ x ∧ x ≤ K) h.bnd (k := j) (by rw [h.len]; exact hj); omega)⟩
def z31 : List Int := List.replicate 31 0
theorem zero_31 (w : World) : (zeroValue 59).run Tryd.prog w = .ok (.agg (i64v z31).toArray) w := by kernel_rfl
set_option maxRecDepth 100000 in
set_option maxHeartbeats 4000000 in
theorem rtimes_any (w : World) (a b : List Int) (hna : Near a) (hnb : Near b) :
    Calls Tryd.prog 40 #[.agg (i64v a).toArray, .agg (i64v b).toArray] w fun e w' => ∃ r, e = .returned (.agg (i64v r).toArray) ∧ Vlt (Near r ∧ fvs r % (FP : Int) = (fvs a * fvs b) % (FP : Int)) ∧ Hid (r.length = 16) ∧ Below w.heap.size w w' := by
  have hzf := zero_fe
  have hz31 := zero_31
  obtain ⟨W0, hW, gA0, gB0, gZ0, hbW0, hsW⟩ := three_new w (i64v a).toArray (i64v b).toArray (i64v z16).toArray 41 41 41
  have HW := Lib.hid hW
  have NA := vlt hna
  have NB := vlt hnb
  have hs : w.heap.size + 2 < W0.heap.size := by have := hsW.out; omega
  clear hW hna hnb hsW
  go_enter Tryd.func40, Tryd.ntmps40
  go_upto_region 1 with fail
  rw [HW.out]
  go_upto_region 2 with fail
  obtain ⟨W, hW⟩ : ∃ W, W = W0.alloc (.cells (i64v z31).toArray 59) := ⟨_, rfl⟩
  rw [← hW]
  have gA : Hid (W.heap[w.heap.size]? = some (.cells (i64v a).toArray 41 (0, 0))) := by rw [hW]; exact (Below.heap_alloc _ _ _ (by omega)).trans gA0.out
  have gB : Hid (W.heap[w.heap.size + 1]? = some (.cells (i64v b).toArray 41 (0, 0))) := by rw [hW]; exact (Below.heap_alloc _ _ _ (by omega)).trans gB0.out
  have gZ : Hid (W.heap[w.heap.size + 2]? = some (.cells (i64v z16).toArray 41 (0, 0))) := by rw [hW]; exact (Below.heap_alloc _ _ _ (by omega)).trans gZ0.out
  have gT : Hid (W.heap[W0.heap.size]? = some (.cells (i64v z31).toArray 59 (0, 0))) := by rw [hW]; exact heap_alloc_new _ _
  have hbW : Below w.heap.size w W := by rw [hW]; exact hbW0.alloc hbW0.size _
  obtain ⟨R, hR⟩ : ∃ R, R = W0.heap.size := ⟨_, rfl⟩
  rw [← hR] at gT hs ⊢
  clear hW hR gA0 gB0 gZ0 hbW0
  have hsW : R < W.heap.size := (Array.getElem?_eq_some_iff.1 gT.out).1
  go_wp2_with fail
  go_loopw [6] (fun s wr => ∃ (i : Nat) (t : List Int), i ≤ 16 ∧ s = .int .i64 (i : Int) ∧ Hid (wr.heap[R]? = some (.cells (i64v t).toArray 59 (0, 0))) ∧ Vlt (Conv t (fvs (a.take i) * fvs b) ((16 * (i : Int)) * 8589934592)) ∧ But R W wr) (fun s _ => 16 - (intOf s).toNat)
  case atStart => exact ⟨0, z31, by omega, rfl, gT, vlt ⟨rfl, by rw [z31, fvs_zeros]; simp [fvs], fun x hx => by rw [List.eq_of_mem_replicate hx]; decide⟩, But.refl _ _⟩
  case round =>
    obtain ⟨i, t, hi, rfl, hg, hC, hbt⟩ := hrel
    by_cases hlt : i < 16
    · have la := near_iat NA.out i hlt
      have hft := vlt (fvs_take a i (by rw [NA.out.len]; exact hlt))
      obtain ⟨x, hx⟩ : ∃ x, x = iat a i := ⟨_, rfl⟩
      rw [← hx] at la hft
      have HX := vlt hx
      clear hx
      go_upto_region 6 with fail
      obtain ⟨Y0, hY0⟩ : ∃ Y0, Y0 = wr := ⟨_, rfl⟩
      subst hY0
      generalize decide ((i : Int) < 16) = b1
      go_loopw [7] (fun s wi => ∃ (k : Nat) (t : List Int), k ≤ 16 ∧ s = .int .i64 (k : Int) ∧ Hid (wi.heap[R]? = some (.cells (i64v t).toArray 59 (0, 0))) ∧ Vlt (Conv t (fvs (a.take i) * fvs b + x * 65536 ^ i * fvs (b.take k)) ((16 * (i : Int) + (k : Int)) * 8589934592)) ∧ But R W wi) (fun s _ => 16 - (intOf s).toNat)
      case atStart => exact ⟨0, t, by omega, rfl, hg, vlt (by have h := hC.out; simpa [fvs] using h), hbt⟩
      case round =>
        clear hg hC hbt
        obtain ⟨k, u, hk, rfl, hg, hC, hbt⟩ := hrel
        by_cases hkt : k < 16
        · have hga : Hid (wr.heap[w.heap.size]? = some (.cells (i64v a).toArray 41 (0, 0))) := (hbt.block _ (by omega) (by intro e; injection e; omega)).trans gA.out
          have hgb : Hid (wr.heap[w.heap.size + 1]? = some (.cells (i64v b).toArray 41 (0, 0))) := (hbt.block _ (by omega) (by intro e; injection e; omega)).trans gB.out
          have lb := near_iat NB.out k hkt
          have c0 := int_at hga.out i (by rw [NA.out.len]; exact hlt)
          rw [← HX.out] at c0
          have c1 := int_at hgb.out k (by rw [NB.out.len]; exact hkt)
          have hfb := vlt (fvs_take b k (by rw [NB.out.len]; exact hkt))
          obtain ⟨y, hy⟩ : ∃ y, y = iat b k := ⟨_, rfl⟩
          rw [← hy] at lb c1 hfb
          clear hy
          have hp := prod16 x y la.1 la.2 lb.1 lb.2
          have hpw : IntKind.i64.wrap (x * y) = x * y := IntWalk.i64_in _ (by omega)
          have c2 := int_at hg.out (i + k) (by rw [hC.out.len]; omega)
          have lu := mem_iat (P := fun x => -((16 * (i : Int) + (k : Int)) * 8589934592) ≤ x ∧ x ≤ (16 * (i : Int) + (k : Int)) * 8589934592) hC.out.bnd (k := i + k) (by rw [hC.out.len]; omega)
          have hC2 := vlt (hC.out.step (i + k) (by omega) (x * y) hp)
          have f0 : wr.frozen? ⟨R, i + k, none⟩ = false := frozen_of_row _ _ _ _ _ hg.out
          have hs2 := world_set_cell hg.out (i + k) (.int .i64 (iat u (i + k) + x * y))
          rw [i64v_set] at hs2
          have hb2 := hbt.set (i := i + k) (.int .i64 (iat u (i + k) + x * y))
          have hC3 := vlt (show Conv (u.set (i + k) (iat u (i + k) + x * y)) (fvs (a.take i) * fvs b + x * 65536 ^ i * fvs (b.take (k + 1))) ((16 * (i : Int) + ((k + 1 : Nat) : Int)) * 8589934592) by
            have h := hC2.out
            rw [show fvs (a.take i) * fvs b + x * 65536 ^ i * fvs (b.take k) + x * y * 65536 ^ (i + k) = fvs (a.take i) * fvs b + x * 65536 ^ i * fvs (b.take (k + 1)) by rw [hfb.out, Int.pow_add]; grind,
              show (16 * (i : Int) + (k : Int)) * 8589934592 + 8589934592 = (16 * (i : Int) + ((k + 1 : Nat) : Int)) * 8589934592 by omega] at h
            exact h)
          clear hC2 hfb
          obtain ⟨z, hz⟩ : ∃ z, z = iat u (i + k) := ⟨_, rfl⟩
          rw [← hz] at lu c2 hs2 hb2 hC3
          clear hz
          have lz : -2199023255552 ≤ z ∧ z ≤ 2199023255552 := by omega
          clear lu
          go_wp2_with fail
          go_region
          go_wp2
          go_roundw
          case rel => exact ⟨k + 1, _, by omega, by go_num, hs2, hC3, hb2.drew⟩
          case measure => simp [intOf]; omega
        · obtain rfl : k = 16 := by omega
          have hC3 := vlt (show Conv u (fvs (a.take (i + 1)) * fvs b) ((16 * ((i + 1 : Nat) : Int)) * 8589934592) by
            have h := hC.out
            rw [fvs_all b NB.out.len, show fvs (a.take i) * fvs b + x * 65536 ^ i * fvs b = fvs (a.take (i + 1)) * fvs b by rw [hft.out]; grind,
              show (16 * (i : Int) + ((16 : Nat) : Int)) * 8589934592 = (16 * ((i + 1 : Nat) : Int)) * 8589934592 by omega] at h
            exact h)
          go_wp2
          go_roundw
          case rel => exact ⟨i + 1, u, by omega, by go_num, hg, hC3, hbt⟩
          case measure => simp [intOf]; omega
    · obtain rfl : i = 16 := by omega
      have HT := vlt (show Conv t (fvs a * fvs b) 2199023255552 by have h := hC.out; rw [fvs_all a NA.out.len] at h; exact h)
      clear hC
      have hgZ : Hid (wr.heap[w.heap.size + 2]? = some (.cells (i64v z16).toArray 41 (0, 0))) := (hbt.block _ (by omega) (by intro e; injection e; omega)).trans gZ.out
      have hbw : Below w.heap.size w wr := But.below hbW hbt (by omega) (by omega)
      have hsr : R < wr.heap.size := (Array.getElem?_eq_some_iff.1 hg.out).1
      go_upto_region 10 with ((with_reducible refine wpList_store_row rfl 41 (.tmp 8) (.tmp 35) rfl wr.heap.size (i64v z16).toArray rfl rfl 41 _ (heap_alloc_new _ _) (by kernel_rfl) (by kernel_rfl) (all_oneCell_toArray (i64v_one _)) ?_); rw [World.setRow_alloc_new])
      obtain ⟨V, hV⟩ : ∃ V, V = wr.alloc (.cells (i64v z16).toArray 41) := ⟨_, rfl⟩
      rw [← hV]
      have vT : Hid (V.heap[R]? = some (.cells (i64v t).toArray 59 (0, 0))) := by rw [hV]; exact (Below.heap_alloc _ _ _ hsr).trans hg.out
      have vZ : Hid (V.heap[w.heap.size + 2]? = some (.cells (i64v z16).toArray 41 (0, 0))) := by rw [hV]; exact (Below.heap_alloc _ _ _ (by omega)).trans hgZ.out
      have vO : Hid (V.heap[wr.heap.size]? = some (.cells (i64v z16).toArray 41 (0, 0))) := by rw [hV]; exact heap_alloc_new _ _
      have hbV : Below w.heap.size w V := by rw [hV]; exact hbw.alloc hbw.size _
      obtain ⟨Q, hQ⟩ : ∃ Q, Q = wr.heap.size := ⟨_, rfl⟩
      rw [← hQ] at vO hsr ⊢
      clear hV hQ hg hgZ hbw hbt
      have hsV : Q < V.heap.size := (Array.getElem?_eq_some_iff.1 vO.out).1
      go_wp2_with fail
      obtain ⟨Y1, hY1⟩ : ∃ Y1 : World, Y1 = V := ⟨_, rfl⟩
      clear hY1
      go_loopw [9] (fun s wi => ∃ (i : Nat) (o : List Int), i ≤ 16 ∧ s = .int .i64 (i : Int) ∧ Hid (wi.heap[Q]? = some (.cells (i64v o).toArray 41 (0, 0))) ∧ Vlt (Fill o (fvs (t.take i) + 38 * fvs ((t.drop 16).take i)) i (fun _ => 0) (fun x => -140737488355328 ≤ x ∧ x ≤ 140737488355328)) ∧ But Q V wi) (fun s _ => 16 - (intOf s).toNat)
      case atStart => exact ⟨0, z16, by omega, rfl, vO, vlt ⟨rfl, by rw [z16, fvs_zeros]; simp [fvs], fun j _ _ => iat_zeros _ _, fun x hx => by rw [List.eq_of_mem_replicate hx]; decide⟩, But.refl _ _⟩
      case round =>
        obtain ⟨i, o, hi2, rfl, hg, hF, hbt⟩ := hrel
        by_cases hlt2 : i < 16
        · have hgt : Hid (wr.heap[R]? = some (.cells (i64v t).toArray 59 (0, 0))) := (hbt.block _ (by omega) (by intro e; injection e; omega)).trans vT.out
          have c0 := int_at hgt.out i (by rw [HT.out.len]; omega)
          have l0 := mem_iat (P := fun x => -2199023255552 ≤ x ∧ x ≤ 2199023255552) HT.out.bnd (k := i) (by rw [HT.out.len]; omega)
          have f0 : wr.frozen? ⟨Q, i, none⟩ = false := frozen_of_row _ _ _ _ _ hg.out
          have u0 := int_at hg.out i (by rw [hF.out.len]; exact hlt2)
          have hs1 := world_set_cell hg.out i (.int .i64 (iat t i))
          rw [i64v_set] at hs1
          have hb1 := hbt.set (i := i) (.int .i64 (iat t i))
          have hF1 := vlt (fun y (hy : -140737488355328 ≤ y ∧ y ≤ 140737488355328) => hF.out.step hlt2 y hy)
          by_cases h15 : i < 15
          · have c1 := int_at hgt.out (i + 16) (by rw [HT.out.len]; omega)
            have l1 := mem_iat (P := fun x => -2199023255552 ≤ x ∧ x ≤ 2199023255552) HT.out.bnd (k := i + 16) (by rw [HT.out.len]; omega)
            have hgt1 : Hid ((wr.setCell ⟨Q, i, none⟩ (.int .i64 (iat t i))).heap[R]? = some (.cells (i64v t).toArray 59 (0, 0))) := (hb1.block _ (by omega) (by intro e; injection e; omega)).trans vT.out
            have c2 := int_at hs1.out i (by rw [List.length_set, hF.out.len]; exact hlt2)
            rw [iat_set_same _ _ _ (by rw [hF.out.len]; exact hlt2)] at c2
            have c3 := int_at hgt1.out (i + 16) (by rw [HT.out.len]; omega)
            have f1 : (wr.setCell ⟨Q, i, none⟩ (.int .i64 (iat t i))).frozen? ⟨Q, i, none⟩ = false := frozen_of_row _ _ _ _ _ hs1.out
            have hs2 := world_set_cell hs1.out i (.int .i64 (iat t i + 38 * iat t (i + 16)))
            rw [i64v_set, List.set_set] at hs2
            have hb2 := hb1.set (i := i) (.int .i64 (iat t i + 38 * iat t (i + 16)))
            have hF2 := vlt (show Fill (o.set i (iat t i + 38 * iat t (i + 16))) (fvs (t.take (i + 1)) + 38 * fvs ((t.drop 16).take (i + 1))) (i + 1) (fun _ => 0) (fun x => -140737488355328 ≤ x ∧ x ≤ 140737488355328) by
              have h := hF1.out (iat t i + 38 * iat t (i + 16)) (by omega)
              rw [fold_step t HT.out.len i h15] at h
              exact h)
            clear hF1
            generalize iat o i = oi at u0
            generalize iat t i = p at *
            generalize iat t (i + 16) = q at *
            go_wp2_with fail
            go_region
            go_wp2
            go_roundw
            case rel => exact ⟨i + 1, _, by omega, by go_num, hs2, hF2, hb2.drew⟩
            case measure => simp [intOf]; omega
          · obtain rfl : i = 15 := by omega
            have hF2 := vlt (show Fill (o.set 15 (iat t 15)) (fvs (t.take 16) + 38 * fvs ((t.drop 16).take 16)) 16 (fun _ => 0) (fun x => -140737488355328 ≤ x ∧ x ≤ 140737488355328) by
              have h := hF1.out (iat t 15) (by omega)
              rw [fold_last t HT.out.len] at h
              exact h)
            clear hF1
            generalize iat o 15 = oi at u0
            generalize iat t 15 = p at *
            go_wp2
            go_roundw
            case rel => exact ⟨16, _, by omega, by go_num, hs1, hF2, hb1⟩
            case measure => simp [intOf]
        · obtain rfl : i = 16 := by omega
          have HV := vlt (show fvs o % (FP : Int) = (fvs a * fvs b) % (FP : Int) by rw [hF.out.val, fold_val t HT.out.len, HT.out.val])
          have HOL := Lib.hid hF.out.len
          have HOB := vlt (fun x hx => hF.out.bnd x hx)
          have HTW := vlt (carI_twice o hF.out.len (fun x hx => hF.out.bnd x hx))
          have hsz := Lib.hid (i64v_size o hF.out.len)
          have hz : Hid (wr.heap[w.heap.size + 2]? = some (.cells (i64v z16).toArray 41 (0, 0))) := (hbt.block _ (by omega) (by intro e; injection e; omega)).trans vZ.out
          have hbw : Below w.heap.size w wr := But.below hbV hbt (by omega) (by omega)
          have hsr2 : w.heap.size + 2 < wr.heap.size := (Array.getElem?_eq_some_iff.1 hz.out).1
          clear hF
          go_wp2_with (with_reducible refine wpList_load_row rfl 41 (.tmp 8) rfl Q rfl 41 (i64v o).toArray (0, 0) _ hg.out Tryd.underlying41 rfl (by rw [hsz.out]; kernel_rfl) ?_)
          refine (rcar_any wr o HOL.out (fun x hx => HOB.out x hx)).mono ?_
          rintro e w2 ⟨r1, rfl, e1, hr1, hb1⟩
          have hz1 : Hid (w2.heap[w.heap.size + 2]? = some (.cells (i64v z16).toArray 41 (0, 0))) := (hb1.block _ hsr2).trans hz.out
          have hbw1 := below_next hbw hbw.size hb1
          have hsr1 : w.heap.size + 2 < w2.heap.size := (Array.getElem?_eq_some_iff.1 hz1.out).1
          go_wp2_with fail
          refine (rcar_any w2 r1 hr1.out (fun x hx => by rw [e1.out] at hx; have := HTW.out.2.2 x hx; omega)).mono ?_
          rintro e w3 ⟨r2, rfl, e2, hr2, hb2⟩
          have HE := vlt (show Near r2 ∧ fvs r2 % (FP : Int) = (fvs a * fvs b) % (FP : Int) by rw [e2.out, e1.out, ← HV.out]; exact ⟨HTW.out.1, HTW.out.2.1⟩)
          clear e1 e2 HTW HV
          have hz2 : Hid (w3.heap[w.heap.size + 1 + 1]? = some (.cells (i64v z16).toArray 41 (0, 0))) := (hb2.block _ hsr1).trans hz1.out
          have hbw2 := below_next hbw1 hbw1.size hb2
          have hsz2 := Lib.hid (i64v_size r2 hr2.out)
          go_wp2_with (with_reducible refine wpList_store_row rfl 41 (.tmp 4) (.tmp 60) rfl (w.heap.size + 1 + 1) (i64v r2).toArray rfl rfl 41 _ hz2.out (by rw [hsz2.out]; kernel_rfl) (by rw [hsz2.out]; kernel_rfl) (all_oneCell_toArray (i64v_one _)) ?_)
          refine bodyPost_ret (v := .agg (i64v r2).toArray) (results_cell_row Tryd.results40 _ _ (w.heap.size + 1 + 1) 41 _ (0, 0) _ rfl (setRow_heap _ _ _ _ _ _ hz2.out) Tryd.underlying41 rfl (by rw [hsz2.out]; kernel_rfl)) rfl ⟨r2, rfl, HE, hr2, below_setRow hbw2 (by omega) _⟩
end Go.Proofs.YtpnodegmegpooaaDoor
