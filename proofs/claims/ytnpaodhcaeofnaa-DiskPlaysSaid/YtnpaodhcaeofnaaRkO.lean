/-
  The contract of the document's own Crash. Conditions: at most 2^40 bytes, files and writes.
-/
import Derived.Test.YtnpaodhcaeofnaaRkN
namespace Go.Proofs.Ytnpaodhcaeofnaa
open Go.RowKit

def fallTo (keep tn k : Nat) (L : List (ByteArray × Rf)) : List (ByteArray × Rf) := (L.take k).map (fun x => (x.1, x.2.fall keep tn)) ++ L.drop k
theorem fallTo_zero (keep tn : Nat) (L : List (ByteArray × Rf)) : fallTo keep tn 0 L = L := by simp [fallTo]
theorem fallTo_all (keep tn : Nat) (L : List (ByteArray × Rf)) {n : Nat} (h : L.length = n) : fallTo keep tn n L = onL (Rf.fall keep tn) L := by
  unfold fallTo
  rw [List.take_of_length_le (by omega), List.drop_of_length_le (by omega), List.append_nil]; rfl
theorem fallTo_at (keep tn k : Nat) (L : List (ByteArray × Rf)) (h : k < L.length) : (fallTo keep tn k L)[k]? = L[k]? := by
  unfold fallTo
  rw [List.getElem?_append_right (by simp; omega), List.getElem?_drop]
  congr 1
  simp; omega
theorem fallTo_next {keep tn k : Nat} {L : List (ByteArray × Rf)} {nm : ByteArray} {f : Rf} (h : L[k]? = some (nm, f)) : (fallTo keep tn k L).set k (nm, f.fall keep tn) = fallTo keep tn (k + 1) L := by
  have hk := (List.getElem?_eq_some_iff.1 h).1
  have e := (List.getElem?_eq_some_iff.1 h).2
  unfold fallTo
  have hl : ((L.take k).map (fun x => (x.1, x.2.fall keep tn))).length = k := by simp; omega
  rw [List.set_append_right _ _ (by omega), hl, Nat.sub_self, List.take_add_one, h, List.drop_eq_getElem_cons hk, e]
  simp
def Rk.crs (T : Rk) (keep tn : Nat) : Rk := { T with pf := true, L := onL (Rf.fall keep tn) T.L }

set_option maxRecDepth 100000 in
set_option maxHeartbeats 4000000 in
theorem rcrash_any (w : World) (G : Nat → Prop) (r : Nat) (T : Rk) (h : RkIs w G r T) (hn : T.L.length ≤ 1099511627776) (hz : sumL rfz T.L ≤ 1099511627776) (hws : ∀ x ∈ T.L, x.2.ws.length ≤ 1099511627776) (keep tn : Nat) (torn : Int) (hk : keep < 18446744073709551616) (ht : tn = torn.toNat) (ht2 : torn < 9223372036854775808) (ht3 : -9223372036854775808 ≤ torn) :
    Calls Try.prog 15 #[.pointer (some ⟨r, 0, none⟩), .int .u64 (keep : Int), .int .i64 torn] w fun e w' => e = .returned (.tuple #[]) ∧ (∃ G', RkIs w' G' r (T.crs keep tn) ∧ OwnG G G' w.heap.size) ∧ Off G w w' := by
  obtain ⟨D, A, n, c, xs, hat, hG⟩ := h
  obtain ⟨⟨c0, c1, c2, c3⟩, f1, f2, f3⟩ := row4 hat.row
  have hset := world_set_cell (cs := [.int .i64 (T.room : Int), .slice A n c, .bool T.pf, .int .i64 (T.lives : Int)]) hat.row 2 (.bool true)
  have hat0 := hat.cells (pf' := true) (lives' := T.lives) ((But.refl r w).set (i := 2) (.bool true)) hset.out
  have hoff0 : Off G w (w.setCell ⟨r, 2, none⟩ (.bool true)) := (Off.refl G w).set (i := 2) (.inl ((hG r).2 (.inl rfl))) (.bool true)
  have HLN := Lib.hid hat.len
  have hnT : n ≤ 1099511627776 := by rw [← hat.len]; exact hn
  have HZ := Lib.hid hz
  have HAT := Lib.hid hat
  have HTN := vlt ht
  obtain ⟨i0, hi, hz0, hz1, hz2⟩ := info_parts Try.infoByte
  clear hset hat hz hn ht
  go_enter Try.func15, Try.ntmps15
  go_upto_region 1 with fail
  generalize hw1 : w.setCell ⟨r, 2, none⟩ (.bool true) = w1 at *
  clear hw1 c0 c1 c2 c3 f1 f2 f3
  have HA1 := Lib.hid hat0
  have HO1 := Lib.hid hoff0
  clear hat0 hoff0
  go_wp2
  go_loopw [6] (fun i wr => ∃ (k : Nat) (D' : Nat → Prop) (xs' : List Value), i = .int .i64 (k : Int) ∧ k ≤ n ∧ Hid (RkAt wr D' r A n c T.room true T.lives xs' (fallTo keep tn k T.L)) ∧ Hid (Off G w wr) ∧ Hid (∀ j, D' j → D j ∨ w.heap.size ≤ j)) (fun i _ => n - (intOf i).toNat)
  case atStart => exact ⟨0, D, xs, rfl, Nat.zero_le _, Lib.hid (by rw [fallTo_zero]; exact HA1.out), HO1, Lib.hid fun _ h => .inl h⟩
  case round =>
    obtain ⟨k, D', xs', rfl, hkn, hatr, hoffr, hD'⟩ := hrel
    obtain ⟨⟨c0, c1, c2, c3⟩, _⟩ := row4 hatr.out.row
    have hnc := hatr.out.size.1
    by_cases hlt : k < n
    · obtain ⟨⟨nm, f⟩, hx⟩ : ∃ x, T.L[k]? = some x := ⟨_, List.getElem?_eq_getElem (by rw [HLN.out]; exact hlt)⟩
      have hx' : (fallTo keep tn k T.L)[k]? = some (nm, f) := by rw [fallTo_at _ _ _ _ (by rw [HLN.out]; exact hlt)]; exact hx
      obtain ⟨b, As, ns, cs, Aw, nw, cw, rfl, _, hrg, q1, q2, q3, q4, q5, q6⟩ := hatr.out.rng hx'
      have HX := vlt hx
      have HQ := Lib.hid (show BytF wr D' As f.safe ∧ PrtF wr D' Aw f.ws from ⟨q1, q4⟩)
      have HSL := Lib.hid q2
      have HWL := Lib.hid q5
      have hnwT : nw ≤ 1099511627776 := by rw [← q5]; exact hws _ (List.mem_of_getElem? hx)
      have hfz : f.all.length ≤ 1099511627776 := by have h9 : rfz f ≤ sumL rfz T.L := sumR_get hx; have := HZ.out; exact Nat.le_trans h9 this
      have HFZ := Lib.hid hfz
      have hns : ns ≤ 1099511627776 := by
        have h9 : f.safe.length = ns := q2
        have h8 := hfz
        simp only [Rf.all, List.length_append] at h8
        omega
      clear hx hx' q1 q2 q4 q5 hfz
      go_wp2_with (with_reducible refine wpList_load_mid rfl 56 (.tmp 30) rfl b (k * 3) rfl [.string nm, .slice As ns cs, .slice Aw nw cw] _ hrg Try.underlying56 rfl (by kernel_rfl) ?_)
      obtain ⟨WF, hWF⟩ : ∃ WF, WF = wr.alloc (.cells #[.string nm, .slice As ns cs, .slice Aw nw cw] 56) := ⟨_, rfl⟩
      have hrowF : WF.heap[wr.heap.size]? = some (.cells #[.string nm, .slice As ns cs, .slice Aw nw cw] 56 (0, 0)) := by rw [hWF]; exact heap_alloc_new wr _
      have hbF : Below wr.heap.size wr WF := by rw [hWF]; exact (Below.refl _ _).alloc (Nat.le_refl _) _
      have hszF : WF.heap.size = wr.heap.size + 1 := by rw [hWF]; simp
      rw [← hWF]
      clear hWF hrg c0 c1 c2 c3
      obtain ⟨g, hg⟩ : ∃ g, g = wr.heap.size := ⟨_, rfl⟩
      rw [← hg] at hrowF hszF ⊢
      have HG := vlt hg
      have HSF := vlt hszF
      have HRF := Lib.hid hrowF
      have HBF := Lib.hid hbF
      clear hg hszF hbF
      have cF2 : WF.cell? ⟨g, 2, none⟩ = some (.slice Aw nw cw) := by rw [cell_of_row _ _ _ _ _ _ hrowF]; rfl
      clear hrowF
      obtain ⟨Y0, hY0⟩ : ∃ Y0, Y0 = wr := ⟨_, rfl⟩
      subst hY0
      go_loopw [8, 9] (fun l kk wv => ∃ j : Nat, kk = .int .i64 (j : Int) ∧ j ≤ nw ∧ l = .int .i64 ((lastTo keep j : Int) - 1) ∧ wv = WF) (fun _ kk _ => nw - (intOf kk).toNat)
      case atStart => exact ⟨0, rfl, Nat.zero_le _, rfl, rfl⟩
      case round =>
        obtain ⟨j, rfl, hj, rfl, rfl⟩ := hrel
        by_cases hjl : j < nw
        · have hst := stays_any wr keep j hk (by omega)
          cases hs : stays keep j with
          | true =>
            rw [hs] at hst
            have HLT := vlt (show lastTo keep (j + 1) = j + 1 by simp [lastTo, hs])
            clear hs
            go_wp2_with fail
            refine hst.mono ?_
            rintro e wv2 ⟨rfl, rfl⟩
            clear hst
            go_wp2
            go_roundw
            case rel => exact ⟨j + 1, by go_num, by omega, by rw [HLT.out]; go_num, trivial⟩
            case measure => simp [intOf]; omega
          | false =>
            rw [hs] at hst
            have HLT := vlt (show lastTo keep (j + 1) = lastTo keep j by simp [lastTo, hs])
            clear hs
            obtain ⟨q, hq⟩ : ∃ q, q = lastTo keep j := ⟨_, rfl⟩
            rw [← hq] at HLT ⊢
            clear hq
            go_wp2_with fail
            refine hst.mono ?_
            rintro e wv2 ⟨rfl, rfl⟩
            clear hst
            go_wp2
            go_roundw
            case rel => exact ⟨j + 1, by go_num, by omega, by rw [HLT.out], trivial⟩
            case measure => simp [intOf]; omega
        · obtain rfl : j = nw := by omega
          obtain ⟨N, hN⟩ : ∃ N, N = lastTo keep j := ⟨_, rfl⟩
          rw [← hN]
          have HN := vlt hN
          have hNj : N ≤ j := by rw [hN]; exact lastTo_le keep j
          have hNT : N ≤ 1099511627776 := by omega
          have hglt : g < wr.heap.size := (Array.getElem?_eq_some_iff.1 HRF.out).1
          have cA1 : (wr.alloc (.cells #[] 5)).cell? ⟨g, 1, none⟩ = some (.slice As ns cs) := by
            rw [World.cell?_of_block (heap_alloc_old wr _ hglt), cell_of_row _ _ _ _ _ _ HRF.out]; rfl
          have hsB : Byt wr wr.heap.size As f.safe := (HQ.out.1.byt.below HBF.out).up HBF.out.size
          have HN2 : 0 + ns ≤ 140737488355328 := by omega
          have HN3 : wr.heap.size ≤ (wr.alloc (.cells #[] 5)).heap.size := by simp
          clear hN
          go_wp2_with (at_builtin; refine wp_append_src _ rfl _ _ 33 rfl 5 Try.underlying33 Try.infoByte wr.heap.size (some ⟨wr.heap.size, 0, none⟩) 0 0 [] rfl (Res.none_lit wr _ _ (Nat.le_refl _)) As ns cs rfl _ f.safe (hsB.alloc (Nat.le_refl _) _) HSL.out HN2 HN3 ?_)
          intro A1 cc1 w4 hr4 hb4
          have hb5 := hb4 wr.heap.size wr (Nat.le_refl _) ((Below.refl _ _).alloc (Nat.le_refl _) _)
          have HR4 := Lib.hid (show Res w4 wr.heap.size 5 A1 ns cc1 f.safe by simpa using hr4)
          have HB4 := Lib.hid hb5
          clear hb4 hr4 hb5 cA1 hsB HN2 HN3 cF2
          obtain ⟨Y1, hY1⟩ : ∃ Y1, Y1 = wr := ⟨_, rfl⟩
          subst hY1
          go_wp2
          go_loopw [10, 11] (fun bv kk wv => ∃ (q n1 c1 : Nat) (A1 : Option Addr) (l : List UInt8), kk = .int .i64 (q : Int) ∧ q ≤ N ∧ bv = .slice A1 n1 c1 ∧ Hid (Res wv Y1.heap.size 5 A1 n1 c1 l) ∧ Vlt (l = rb keep tn N f.safe f.ws q) ∧ Hid (Below Y1.heap.size Y1 wv)) (fun _ kk _ => N - (intOf kk).toNat)
          case atStart => exact ⟨0, ns, cc1, A1, f.safe, by go_num, Nat.zero_le _, by simp, HR4, vlt rfl, HB4⟩
          case round =>
            obtain ⟨q, n1, cb, A2, l, rfl, hq, rfl, hr, hl, hb⟩ := hrel
            have hrow := (hb.out.block g hglt).trans HRF.out
            have cF0 : wr.cell? ⟨g, 0, none⟩ = some (.string nm) := by rw [cell_of_row _ _ _ _ _ _ hrow]; rfl
            have cF2 : wr.cell? ⟨g, 2, none⟩ = some (.slice Aw j cw) := by rw [cell_of_row _ _ _ _ _ _ hrow]; rfl
            by_cases hql : q < N
            · have hql' : (q : Int) ≤ (N : Int) - 1 := by omega
              obtain ⟨b2, o2, Aj, nj, cj, p, rfl, hblt, hcell, hget, hpl, hle, hbp⟩ := HQ.out.2.at_ (k := q) (by rw [HWL.out]; omega)
              have hbelY : Below Y0.heap.size Y0 wr := below_next HBF.out HBF.out.size hb.out
              have hbw0 : Below wr.heap.size wr (wr.alloc (.cells #[] 5)) := (Below.refl _ _).alloc (Nat.le_refl _) _
              have hcr : (wr.alloc (.cells #[] 5)).cell? ⟨b2, o2 + q, none⟩ = some (.slice Aj nj cj) := ((below_next hbelY hbelY.size hbw0).cell (p := ⟨b2, o2 + q, none⟩) hblt).trans hcell
              have cF2a : (wr.alloc (.cells #[] 5)).cell? ⟨g, 2, none⟩ = some (.slice (some ⟨b2, o2, none⟩) j cw) := by
                rw [World.cell?_of_block (hbw0.block g (Array.getElem?_eq_some_iff.1 hrow).1), cell_of_row _ _ _ _ _ _ hrow]; rfl
              have hqj : q < j := by omega
              have hbpr : Byt wr wr.heap.size Aj p := (hbp.byt.below hbelY).up hbelY.size
              have hgetD : f.ws.getD q [] = p := by simp [List.getD, hget.out]
              have hlen1 : n1 + nj ≤ 1099511627776 := by
                have h1 := rb_len keep tn N f.safe f.ws q (by rw [HWL.out]; omega)
                have h2 := flat_at f.ws q (by rw [HWL.out]; omega)
                have h3 := flat_take_le f.ws (q + 1)
                have h4 := HFZ.out
                have h5 := hr.out.len
                have h6 := hpl.out
                have h7 := (List.getElem?_eq_some_iff.1 hget.out).2
                rw [← hl.out, h5] at h1
                rw [h7, h6] at h2
                simp only [Rf.all, List.length_append] at h4
                omega
              have HP := vlt (show rb keep tn N f.safe f.ws (q + 1) = l ++ piece keep tn N q p by rw [hl.out]; show rb keep tn N f.safe f.ws q ++ piece keep tn N q (f.ws.getD q []) = _; rw [hgetD])
              have HR0 := hr
              have HB0 := hb
              have HM2 : 0 + nj ≤ 140737488355328 := by omega
              have HM3 : wr.heap.size ≤ (wr.alloc (.cells #[] 5)).heap.size := by simp
              have hst0 := fun W => stays_any W keep q hk (by omega)
              clear hr hb hl hget hgetD hcell hbp
              go_wp2_with (at_builtin; refine wp_append_src _ rfl _ _ 33 rfl 5 Try.underlying33 Try.infoByte wr.heap.size (some ⟨wr.heap.size, 0, none⟩) 0 0 [] rfl (Res.none_lit wr _ _ (Nat.le_refl _)) Aj nj cj rfl _ p (hbpr.alloc (Nat.le_refl _) _) hpl.out HM2 HM3 ?_)
              intro A12 c12 w5 hr5 hb5
              have hb6 := hb5 wr.heap.size wr (Nat.le_refl _) ((Below.refl _ _).alloc (Nat.le_refl _) _)
              have HR5 := Lib.hid (show Res w5 wr.heap.size 5 A12 nj c12 p by simpa using hr5)
              have HB6 := Lib.hid (below_next HB0.out HB0.out.size hb6)
              have HRZ5 := Lib.hid (HR0.out.keep hb6)
              clear hb5 hr5 hb6 hcr cF2a hbw0 HM2 HM3 cF0 cF2
              have hst := hst0 w5
              cases hs : stays keep q with
              | true =>
                rw [hs] at hst
                have HZL := vlt (show p = zero keep q p by simp [zero, hs])
                clear hs hst0
                go_wp2_with fail
                refine hst.mono ?_
                rintro e wv2 ⟨rfl, rfl⟩
                clear hst
                have hBZ := HR5.out.byt
                have hcZ := HR5.out.cap
                by_cases hlast : q + 1 = N
                · have hlast' : (q : Int) = (N : Int) - 1 := by omega
                  by_cases htp : 0 < torn
                  · by_cases htl : (nj : Int) < torn
                    · have htn : nj ≤ tn := by rw [HTN.out]; omega
                      have HPI := vlt (show l = rb keep tn N f.safe f.ws (q + 1) by rw [HP.out, piece, if_pos hlast, ← HZL.out, hpl.out, show nj - tn = 0 by omega]; simp)
                      have HBS := Lib.hid (show Y1.heap.size ≤ wv2.heap.size from HB6.out.size)
                      have hsz9 : n1 + 0 ≤ 140737488355328 := by omega
                      go_wp2_with (at_builtin; refine wp_append_src _ rfl _ _ 33 rfl 5 Try.underlying33 Try.infoByte Y1.heap.size A2 n1 cb l rfl HRZ5.out none (0) 0 rfl 0 [] Byt.none_ rfl hsz9 HBS.out ?_)
                      intro A7 c7 w7 hr7 hb7
                      have HB9 := Lib.hid (hb7 Y1.heap.size Y1 (Nat.le_refl _) HB6.out)
                      have HR9 := Lib.hid (show Res w7 Y1.heap.size 5 A7 n1 c7 l by simpa using hr7)
                      clear hb7 hr7
                      go_wp2
                      go_roundw
                      case rel => exact ⟨q + 1, n1, c7, A7, l, by go_num, by omega, rfl, HR9, HPI, HB9⟩
                      case measure => simp [intOf]; omega
                    · have htn : (tn : Int) = torn := by rw [HTN.out]; omega
                      have hcut := run_cut_h (P := Try.prog) Try.underlying33 Try.sizeByte A12 nj c12 (nj - tn) ((nj : Int) - torn) (by omega) (by omega)
                      have HPI := vlt (show l ++ p.take (nj - tn) = rb keep tn N f.safe f.ws (q + 1) by rw [HP.out]; congr 1; rw [piece, if_pos hlast, ← HZL.out, hpl.out])
                      have HBS := Lib.hid (show Y1.heap.size ≤ wv2.heap.size from HB6.out.size)
                      have hsz9 : n1 + (nj - tn) ≤ 140737488355328 := by omega
                      go_wp2_with (at_builtin; refine wp_append_src _ rfl _ _ 33 rfl 5 Try.underlying33 Try.infoByte Y1.heap.size A2 n1 cb l rfl HRZ5.out A12 (nj - tn) c12 rfl _ (p.take (nj - tn)) (hBZ.take (nj - tn)) (by rw [List.length_take, hpl.out]; omega) hsz9 HBS.out ?_)
                      intro A7 c7 w7 hr7 hb7
                      have HB9 := Lib.hid (hb7 Y1.heap.size Y1 (Nat.le_refl _) HB6.out)
                      have HR9 := Lib.hid hr7
                      clear hb7 hr7
                      go_wp2
                      go_roundw
                      case rel => exact ⟨q + 1, n1 + (nj - tn), c7, A7, l ++ (p.take (nj - tn)), by go_num, by omega, rfl, HR9, HPI, HB9⟩
                      case measure => simp [intOf]; omega
                  · have htn : tn = 0 := by rw [HTN.out]; omega
                    have HPI := vlt (show l ++ p = rb keep tn N f.safe f.ws (q + 1) by rw [HP.out]; congr 1; rw [piece, if_pos hlast, ← HZL.out, htn, Nat.sub_zero, List.take_length])
                    have HBS := Lib.hid (show Y1.heap.size ≤ wv2.heap.size from HB6.out.size)
                    have hsz9 : n1 + nj ≤ 140737488355328 := by omega
                    go_wp2_with (at_builtin; refine wp_append_src _ rfl _ _ 33 rfl 5 Try.underlying33 Try.infoByte Y1.heap.size A2 n1 cb l rfl HRZ5.out A12 (nj) c12 rfl _ p hBZ hpl.out hsz9 HBS.out ?_)
                    intro A7 c7 w7 hr7 hb7
                    have HB9 := Lib.hid (hb7 Y1.heap.size Y1 (Nat.le_refl _) HB6.out)
                    have HR9 := Lib.hid hr7
                    clear hb7 hr7
                    go_wp2
                    go_roundw
                    case rel => exact ⟨q + 1, n1 + nj, c7, A7, l ++ p, by go_num, by omega, rfl, HR9, HPI, HB9⟩
                    case measure => simp [intOf]; omega
                · have hlast' : ¬ (q : Int) = (N : Int) - 1 := by omega
                  have HPI := vlt (show l ++ p = rb keep tn N f.safe f.ws (q + 1) by rw [HP.out]; congr 1; rw [piece, if_neg hlast, ← HZL.out])
                  have HBS := Lib.hid (show Y1.heap.size ≤ wv2.heap.size from HB6.out.size)
                  have hsz9 : n1 + nj ≤ 140737488355328 := by omega
                  go_wp2_with (at_builtin; refine wp_append_src _ rfl _ _ 33 rfl 5 Try.underlying33 Try.infoByte Y1.heap.size A2 n1 cb l rfl HRZ5.out A12 (nj) c12 rfl _ p hBZ hpl.out hsz9 HBS.out ?_)
                  intro A7 c7 w7 hr7 hb7
                  have HB9 := Lib.hid (hb7 Y1.heap.size Y1 (Nat.le_refl _) HB6.out)
                  have HR9 := Lib.hid hr7
                  clear hb7 hr7
                  go_wp2
                  go_roundw
                  case rel => exact ⟨q + 1, n1 + nj, c7, A7, l ++ p, by go_num, by omega, rfl, HR9, HPI, HB9⟩
                  case measure => simp [intOf]; omega
              | false =>
                rw [hs] at hst
                have HZL := vlt (show List.replicate nj 0 = zero keep q p by simp [zero, hs, hpl.out])
                obtain ⟨w6, hrun, hg6, hb6, _⟩ := make_bytes (P := Try.prog) Try.underlying33 hi hz0 hz1 hz2 nj nj (nj : Int) (nj : Int) rfl rfl (Nat.le_refl _) (by omega) w5
                have hzl : (List.replicate nj (0 : UInt8)).length = nj := by simp
                have hBZ := byt_row hg6.out
                have HB7 := Lib.hid (below_next HB6.out HB6.out.size hb6.out)
                have HRZ6 := Lib.hid (HRZ5.out.keep hb6.out)
                clear hs hst0
                go_wp2_with fail
                refine hst.mono ?_
                rintro e wv2 ⟨rfl, rfl⟩
                clear hst
                by_cases hlast : q + 1 = N
                · have hlast' : (q : Int) = (N : Int) - 1 := by omega
                  by_cases htp : 0 < torn
                  · by_cases htl : (nj : Int) < torn
                    · have htn : nj ≤ tn := by rw [HTN.out]; omega
                      have HPI := vlt (show l = rb keep tn N f.safe f.ws (q + 1) by rw [HP.out, piece, if_pos hlast, ← HZL.out, hzl, show nj - tn = 0 by omega]; simp)
                      have HBS := Lib.hid (show Y1.heap.size ≤ w6.heap.size from HB7.out.size)
                      have hsz9 : n1 + 0 ≤ 140737488355328 := by omega
                      go_wp2_with (at_builtin; refine wp_append_src _ rfl _ _ 33 rfl 5 Try.underlying33 Try.infoByte Y1.heap.size A2 n1 cb l rfl HRZ6.out none (0) 0 rfl 0 [] Byt.none_ rfl hsz9 HBS.out ?_)
                      intro A7 c7 w7 hr7 hb7
                      have HB9 := Lib.hid (hb7 Y1.heap.size Y1 (Nat.le_refl _) HB7.out)
                      have HR9 := Lib.hid (show Res w7 Y1.heap.size 5 A7 n1 c7 l by simpa using hr7)
                      clear hb7 hr7
                      go_wp2
                      go_roundw
                      case rel => exact ⟨q + 1, n1, c7, A7, l, by go_num, by omega, rfl, HR9, HPI, HB9⟩
                      case measure => simp [intOf]; omega
                    · have htn : (tn : Int) = torn := by rw [HTN.out]; omega
                      have hcut := run_cut_h (P := Try.prog) Try.underlying33 Try.sizeByte (some ⟨wv2.heap.size, 0, none⟩) nj nj (nj - tn) ((nj : Int) - torn) (by omega) (by omega)
                      have hBZ2 := hBZ.take (nj - tn)
                      rw [List.take_replicate, Nat.min_eq_left (Nat.sub_le _ _)] at hBZ2
                      have HPI := vlt (show l ++ List.replicate (nj - tn) 0 = rb keep tn N f.safe f.ws (q + 1) by rw [HP.out]; congr 1; rw [piece, if_pos hlast, ← HZL.out, hzl, List.take_replicate, Nat.min_eq_left (Nat.sub_le _ _)])
                      have HBS := Lib.hid (show Y1.heap.size ≤ w6.heap.size from HB7.out.size)
                      have hsz9 : n1 + (nj - tn) ≤ 140737488355328 := by omega
                      go_wp2_with (at_builtin; refine wp_append_src _ rfl _ _ 33 rfl 5 Try.underlying33 Try.infoByte Y1.heap.size A2 n1 cb l rfl HRZ6.out (some ⟨wv2.heap.size, 0, none⟩) (nj - tn) nj rfl _ (List.replicate (nj - tn) 0) hBZ2 (by simp) hsz9 HBS.out ?_)
                      intro A7 c7 w7 hr7 hb7
                      have HB9 := Lib.hid (hb7 Y1.heap.size Y1 (Nat.le_refl _) HB7.out)
                      have HR9 := Lib.hid hr7
                      clear hb7 hr7
                      go_wp2
                      go_roundw
                      case rel => exact ⟨q + 1, n1 + (nj - tn), c7, A7, l ++ (List.replicate (nj - tn) 0), by go_num, by omega, rfl, HR9, HPI, HB9⟩
                      case measure => simp [intOf]; omega
                  · have htn : tn = 0 := by rw [HTN.out]; omega
                    have HPI := vlt (show l ++ List.replicate nj 0 = rb keep tn N f.safe f.ws (q + 1) by rw [HP.out]; congr 1; rw [piece, if_pos hlast, ← HZL.out, htn, Nat.sub_zero, List.take_length])
                    have HBS := Lib.hid (show Y1.heap.size ≤ w6.heap.size from HB7.out.size)
                    have hsz9 : n1 + nj ≤ 140737488355328 := by omega
                    go_wp2_with (at_builtin; refine wp_append_src _ rfl _ _ 33 rfl 5 Try.underlying33 Try.infoByte Y1.heap.size A2 n1 cb l rfl HRZ6.out (some ⟨wv2.heap.size, 0, none⟩) (nj) nj rfl _ (List.replicate nj 0) hBZ hzl hsz9 HBS.out ?_)
                    intro A7 c7 w7 hr7 hb7
                    have HB9 := Lib.hid (hb7 Y1.heap.size Y1 (Nat.le_refl _) HB7.out)
                    have HR9 := Lib.hid hr7
                    clear hb7 hr7
                    go_wp2
                    go_roundw
                    case rel => exact ⟨q + 1, n1 + nj, c7, A7, l ++ (List.replicate nj 0), by go_num, by omega, rfl, HR9, HPI, HB9⟩
                    case measure => simp [intOf]; omega
                · have hlast' : ¬ (q : Int) = (N : Int) - 1 := by omega
                  have HPI := vlt (show l ++ List.replicate nj 0 = rb keep tn N f.safe f.ws (q + 1) by rw [HP.out]; congr 1; rw [piece, if_neg hlast, ← HZL.out])
                  have HBS := Lib.hid (show Y1.heap.size ≤ w6.heap.size from HB7.out.size)
                  have hsz9 : n1 + nj ≤ 140737488355328 := by omega
                  go_wp2_with (at_builtin; refine wp_append_src _ rfl _ _ 33 rfl 5 Try.underlying33 Try.infoByte Y1.heap.size A2 n1 cb l rfl HRZ6.out (some ⟨wv2.heap.size, 0, none⟩) (nj) nj rfl _ (List.replicate nj 0) hBZ hzl hsz9 HBS.out ?_)
                  intro A7 c7 w7 hr7 hb7
                  have HB9 := Lib.hid (hb7 Y1.heap.size Y1 (Nat.le_refl _) HB7.out)
                  have HR9 := Lib.hid hr7
                  clear hb7 hr7
                  go_wp2
                  go_roundw
                  case rel => exact ⟨q + 1, n1 + nj, c7, A7, l ++ (List.replicate nj 0), by go_num, by omega, rfl, HR9, HPI, HB9⟩
                  case measure => simp [intOf]; omega
            · obtain rfl : q = N := by omega
              have hql' : ¬ (q : Int) ≤ (q : Int) - 1 := by omega
              have HFA := vlt (show f.fall keep tn = ⟨l, []⟩ by unfold Rf.fall; rw [HWL.out, ← HN.out, ← hl.out])
              have hn1 : l.length = n1 := hr.out.len
              have hcap := hr.out.cap
              have HRR := hr
              have hbY : Below Y0.heap.size Y0 wr := below_next HBF.out HBF.out.size hb.out
              have hat9 := hatr.out.off (G := fun _ => False) (Off.of_below hbY fun i a b => by omega) fun _ _ h => h
              obtain ⟨⟨_, e1, _, _⟩, _⟩ := row4 hat9.row
              have hltr := hat9.ltr
              have hxl := hat9.size.2
              have hglw : g < wr.heap.size := (Array.getElem?_eq_some_iff.1 hrow).1
              have HA9 := Lib.hid hat9
              have HBY := Lib.hid hbY
              clear hl hr hb hat9 hbY cF2
              go_upto_region 23 with fail
              refine c_start (S := (fun W' => W'.cell? ⟨r, 1, none⟩ = some (.slice (some ⟨b, 0, none⟩) n c) ∧ W'.cell? ⟨g, 0, none⟩ = some (.string nm))) 10 (by kernel_rfl) (⟨e1,cF0⟩) (fun hHeld => ?_)
              refine c_take (i := 0) (oi := ⟨(some 86), _, _, _, _, _⟩) (v := ?vq1_0) rfl (by decide) (by kernel_rfl) (by kernel_rfl) (by kernel_rfl) (fun _ _ _ h => h) (Or.inl ⟨by rfl, ?yq1_0⟩) hHeld ?_
              case yq1_0 => (intro W0 hSw; go_simp; try with_reducible rfl)
              try simp only [Act.put, List.setIfInBounds_toArray, List.set_cons_zero, List.set_cons_succ]
              refine c_take (i := 1) (oi := ⟨(some 87), _, _, _, _, _⟩) (v := ?vq1_1) rfl (by decide) (by kernel_rfl) (by kernel_rfl) (by kernel_rfl) (fun _ _ _ h => h) (Or.inl ⟨by rfl, ?yq1_1⟩) hHeld ?_
              case yq1_1 => (intro W0 hSw; go_simp; try with_reducible rfl)
              try simp only [Act.put, List.setIfInBounds_toArray, List.set_cons_zero, List.set_cons_succ]
              refine c_take (i := 2) (oi := ⟨(some 88), _, _, _, _, _⟩) (v := ?vq1_2) rfl (by decide) (by kernel_rfl) (by kernel_rfl) (by kernel_rfl) (fun _ _ _ h => h) (Or.inl ⟨by rfl, ?yq1_2⟩) hHeld ?_
              case yq1_2 => (intro W0 hSw; go_simp; try with_reducible rfl)
              try simp only [Act.put, List.setIfInBounds_toArray, List.set_cons_zero, List.set_cons_succ]
              refine c_take (i := 4) (oi := ⟨(some 90), _, _, _, _, _⟩) (v := ?vq1_3) rfl (by decide) (by kernel_rfl) (by kernel_rfl) (by kernel_rfl) (fun _ _ _ h => h) (Or.inl ⟨by rfl, ?yq1_3⟩) hHeld ?_
              case yq1_3 => (intro W0 hSw; go_simp; try with_reducible rfl)
              try simp only [Act.put, List.setIfInBounds_toArray, List.set_cons_zero, List.set_cons_succ]
              refine c_take (i := 5) (oi := ⟨(some 91), _, _, _, _, _⟩) (v := ?vq1_4) rfl (by decide) (by kernel_rfl) (by kernel_rfl) (by kernel_rfl) (fun _ _ _ h => h) (Or.inl ⟨by rfl, ?yq1_4⟩) hHeld ?_
              case yq1_4 => (intro W0 hSw; go_simp; try with_reducible rfl)
              try simp only [Act.put, List.setIfInBounds_toArray, List.set_cons_zero, List.set_cons_succ]
              refine c_take (i := 7) (oi := ⟨(some 93), _, _, _, _, _⟩) (v := ?vq1_5) rfl (by decide) (by kernel_rfl) (by kernel_rfl) (by kernel_rfl) (fun _ _ _ h => h) (Or.inl ⟨by rfl, ?yq1_5⟩) hHeld ?_
              case yq1_5 => (intro W0 hSw; go_simp; try with_reducible rfl)
              try simp only [Act.put, List.setIfInBounds_toArray, List.set_cons_zero, List.set_cons_succ]
              refine c_read (i := 3) (oi := ⟨(some 89), _, _, _, _, _⟩) (v := ?vq1_6) rfl (by decide) (by kernel_rfl) (by kernel_rfl) (by kernel_rfl) (by kernel_rfl) (by kernel_rfl) (fun _ _ _ h => h) (Or.inl ⟨by rfl, ?yq1_6⟩) hHeld ?_
              case yq1_6 => (intro W0 hSw; go_simp; try with_reducible rfl)
              try simp only [Act.put, List.setIfInBounds_toArray, List.set_cons_zero, List.set_cons_succ]
              refine c_read (i := 6) (oi := ⟨(some 92), _, _, _, _, _⟩) (v := ?vq1_7) rfl (by decide) (by kernel_rfl) (by kernel_rfl) (by kernel_rfl) (by kernel_rfl) (by kernel_rfl) (fun _ _ _ h => h) (Or.inl ⟨by rfl, ?yq1_7⟩) hHeld ?_
              case yq1_7 => (intro W0 hSw; go_simp; try with_reducible rfl)
              try simp only [Act.put, List.setIfInBounds_toArray, List.set_cons_zero, List.set_cons_succ]
              refine c_take (i := 8) (oi := ⟨(some 94), _, _, _, _, _⟩) (v := ?vq1_8) rfl (by decide) (by kernel_rfl) (by kernel_rfl) (by kernel_rfl) (fun _ _ _ h => h) (Or.inl ⟨by rfl, ?yq1_8⟩) hHeld ?_
              case yq1_8 => (intro W0 hSw; go_simp; try with_reducible rfl)
              try simp only [Act.put, List.setIfInBounds_toArray, List.set_cons_zero, List.set_cons_succ]
              refine c_take (i := 9) (oi := ⟨(some 95), _, _, _, _, _⟩) (v := ?vq1_9) rfl (by decide) (by kernel_rfl) (by kernel_rfl) (by kernel_rfl) (fun _ _ _ h => h) (Or.inl ⟨by rfl, ?yq1_9⟩) hHeld ?_
              case yq1_9 => (intro W0 hSw; go_simp; try with_reducible rfl)
              try simp only [Act.put, List.setIfInBounds_toArray, List.set_cons_zero, List.set_cons_succ]
              have hown9 := HA9.out.own
              refine c_call (S' := (fun W' => RkAt W' (fun j => D' j ∨ (Y0.heap.size ≤ j ∧ j < wr.drew.heap.size)) r (some ⟨b, 0, none⟩) n c T.room true T.lives (setsL xs' (k * 3) [.string nm, .slice A2 n1 cb, .slice none 0 0]) ((fallTo keep tn k T.L).set k (nm, ⟨l, []⟩)) ∧ Off (RkG D' r (some ⟨b, 0, none⟩)) Y0 W')) (o := ⟨none, _, _, _, _, _⟩) (by kernel_rfl) (by kernel_rfl) rfl (fun K hK => ?_)
              clear hHeld
              refine step_store_own rfl 56 (.tmp 95) (.tmp 94) rfl b (k * 3) [.string nm, .slice A2 n1 cb, .slice none 0 0] (by rfl) (by rfl) (show wr.drew.ownsRow 0 56 3 (.slice (some ⟨b, 0, none⟩) n c) n xs' from hown9) (by rw [hxl]; simp; omega) (by kernel_rfl) (by simp [Value.oneCell']) ?_
              intro w9 hown10 hgr10
              have hput := hatr.out.putEnt (nm := nm) (f := ⟨l, []⟩) (As := A2) (ns := n1) (cs := cb) (Aw := none) (nw := 0) (cw := 0) (w3 := wr.drew) HBY.out.drew hown10 hgr10 hlt (by rw [sets_at (by rw [hxl]; simp; omega), if_pos (by simp)]; simp) (by rw [sets_at (by rw [hxl]; simp; omega), if_pos (by simp)]; simp) (by rw [sets_at (by rw [hxl]; simp; omega), if_pos (by simp)]; simp) (fun k hk => by rw [sets_at (by rw [hxl]; simp; omega), if_neg (by simpa using hk)]) ((show Res wr.drew Y1.heap.size 5 A2 n1 cb l from HRR.out).inF fun i hi => .inr (Nat.le_trans HBF.out.size hi)) hn1 hcap (.inl rfl) rfl (Nat.le_refl 0)
              refine hK.out _ _ (hput) (fun hHeld => ?_)
              clear hK K
              try simp only [Act.put]
              refine wpAnyH_done (by kernel_rfl) ?_ _
              have HR1 := Lib.hid hHeld.1
              have HR2 := Lib.hid hHeld.2
              clear hHeld
              go_wp2
              go_roundw
              case rel =>
                refine ⟨k + 1, fun j => D' j ∨ (Y0.heap.size ≤ j ∧ j < wr.drew.heap.size), setsL xs' (k * 3) [.string nm, .slice A2 n1 cb, .slice none 0 0], by go_num, by omega, Lib.hid ?_, Lib.hid (hoffr.out.trans HR2.out fun j hj => ?_), Lib.hid fun j hj => ?_⟩
                · have h1 := HR1.out
                  rw [← HFA.out, fallTo_next HX.out] at h1
                  exact h1
                · rcases hj with hj | hj | hj
                  · exact .inl ((hG j).2 (.inl hj))
                  · exact .inl ((hG j).2 (.inr (.inl hj)))
                  · rcases hD'.out j hj with hj | hj
                    · exact .inl ((hG j).2 (.inr (.inr hj)))
                    · exact .inr hj
                · rcases hj with hj | hj
                  · exact hD'.out j hj
                  · exact .inr (Nat.le_trans hoffr.out.size hj.1)
              case measure => simp [intOf]; omega
    · obtain rfl : k = n := by omega
      have HEND := Lib.hid (show RkIs wr (RkG D' r A) r (T.crs keep tn) from ⟨D', A, k, c, xs', by
        have h1 := hatr.out
        rw [fallTo_all _ _ _ HLN.out] at h1
        exact h1, fun _ => Iff.rfl⟩)
      clear hatr
      go_wp2
      go_end0
      refine ⟨rfl, ⟨_, HEND.out, fun j hj => ?_⟩, hoffr.out⟩
      rcases hj with hj | hj | hj
      · exact .inl ((hG j).2 (.inl hj))
      · exact .inl ((hG j).2 (.inr (.inl hj)))
      · rcases hD'.out j hj with hj | hj
        · exact .inl ((hG j).2 (.inr (.inr hj)))
        · exact .inr hj
end Go.Proofs.Ytnpaodhcaeofnaa
