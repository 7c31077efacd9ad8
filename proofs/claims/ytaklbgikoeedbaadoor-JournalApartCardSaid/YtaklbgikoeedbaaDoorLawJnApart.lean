/-
  Law 14: what All tells is the caller's own; the journal stands when it is written into. Conditions: none.
-/
import Derived.Test.YtaklbgikoeedbaaDoorJnCl
import Derived.Test.YtaklbgikoeedbaaDoorPkF
namespace Go.Proofs.YtaklbgikoeedbaaDoor
open Go.RowKit

set_option maxRecDepth 100000 in
set_option maxHeartbeats 8000000 in
theorem walk_JournalApart (w : World) (_ : Laid w) (A0 : Option Addr) (l0 : Rcs) (n0 c0 : Nat) (b0 : Prt w w.heap.size A0 l0) (e0 : l0.length = n0) (f0 : n0 ≤ c0) :
    Calls Tryd.prog 8 #[.slice A0 n0 c0] w fun e w' => e = .returned (.bool true) ∧ Below w.heap.size w w' := by
  have hawk := jawake_any w
  have E0 := Lib.hid e0
  clear e0
  by_cases hn0 : 10 < n0
  · have hn0' : (10 : Int) < (n0 : Int) := by omega
    go_enter Tryd.func8, Tryd.ntmps8
    go_wp2_with fail
    refine hawk.mono ?_
    rintro e w0 ⟨rfl, hb0⟩
    clear hawk
    go_wp2
    go_ret
    exact ⟨rfl, hb0⟩
  have hn0' : ¬ (10 : Int) < (n0 : Int) := by omega
  have hnew := fun w0 => hold_new w0 65536 (by decide) (by decide)
  have kN := kNo
  go_enter Tryd.func8, Tryd.ntmps8
  go_wp2_with fail
  refine hawk.mono ?_
  rintro e Y ⟨rfl, hb0⟩
  clear hawk
  have b0' := (b0.below hb0).up hb0.size
  clear b0
  have hnw := hnew Y
  clear hnew
  go_wp2_with fail
  refine hnw.mono ?_
  rintro e w1 ⟨d, rfl, h1⟩
  clear hnw
  have hop := lo_open kN (lo_new h1 (by decide)) (by decide)
  go_wp2_with fail
  refine hop.mono ?_
  rintro e w2 ⟨j, rfl, h2⟩
  have h3 : Lw Y w2 j d 65536 1000 (204 * 0) 1 [] [] 0 (KO Y.heap.size none 0 0 []) := (h2.turnK (kO _ _ _ _ _) fun F _ => ⟨fun _ => False, fun _ h => h.elim, Off.refl _ _, fun _ => False, [], ⟨rfl, .inl ⟨rfl, rfl⟩⟩, fun a ha => (by cases ha), fun _ h => h.elim, fun _ _ h => h, PL.nil⟩).more (by decide) (by decide) (by decide)
  clear hop h1 h2
  go_wp2_with fail
  go_loopw [7, 8] (fun s x wr => ∃ (k : Nat) (Q : Option Addr) (c : Nat), s = .slice Q k c ∧ x = .int .i64 (k : Int) ∧ k ≤ n0 ∧ Lw Y wr j d 65536 (1000 + 10 * k) (204 * k) 1 [] (l0.take k) 0 (KO Y.heap.size Q k c (l0.take k))) (fun _ x _ => n0 - (intOf x).toNat)
  case atStart => exact ⟨0, none, 0, rfl, rfl, Nat.zero_le _, h3⟩
  case round =>
    obtain ⟨k, Q, c, rfl, rfl, hk, h4⟩ := hrel
    have HK : Hid ((l0.take k).length = k) := show _ = _ by rw [List.length_take, E0.out]; exact Nat.min_eq_left hk
    by_cases hlt : k < n0
    · obtain ⟨b, o, Aj, nj, cj, p, hAj, hblt, hcY, hpk, hpj, hcj, hbpY⟩ := b0'.at_ (k := k) (by rw [E0.out]; exact hlt)
      have hbel := h4.bel
      have hcell : wr.cell? ⟨b, o + k, none⟩ = some (.slice Aj nj cj) := (hbel.cell (p := ⟨b, o + k, none⟩) hblt).trans hcY
      have hbw : b < wr.heap.size := Nat.lt_of_lt_of_le hblt hbel.size
      have hbp := (hbpY.below hbel).up hbel.size
      subst hAj
      by_cases hbg : 200 < nj
      · have hbg' : (200 : Int) < (nj : Int) := by omega
        have hend := hb0.trans (h4.bel.mono hb0.size)
        clear hbp hpk h4 b0' hbel hbpY
        go_wp2
        go_ret
        exact ⟨rfl, hend⟩
      · have hbg' : ¬ (200 : Int) < (nj : Int) := by omega
        have hst := vlt (take_step hpk.out)
        have hR0 := Res.none_lit wr 5 wr.heap.size (Nat.le_refl _)
        clear hbel hbpY
        go_wp2_with (at_builtin; refine wp_append_src _ rfl (.tmp 45) (.tmp 49) 31 rfl 5 Tryd.underlying31 Tryd.infoByte wr.heap.size (some ⟨wr.heap.size, 0, none⟩) 0 0 [] rfl hR0 Aj nj cj rfl _ p (hbp.alloc (Nat.le_refl _) _) hpj.out (by omega) (by simp) ?_)
        intro A3 c3 w3 hR3 hB3
        have hb3 : Below wr.heap.size wr w3 := hB3 _ _ (Nat.le_refl _) ((Below.refl _ _).alloc (Nat.le_refl _) _)
        have hp4 : PrtF (w3.alloc (.cells #[.slice A3 nj c3] 31)) (fun i => wr.heap.size ≤ i) (some ⟨w3.heap.size, 0, none⟩) [p] := (PL.one ((hR3.alloc _).inF fun _ h => h) hpj.out hR3.cap).prtF (heap_alloc_new w3 _) hb3.size
        have hb4 : Below wr.heap.size wr (w3.alloc (.cells #[.slice A3 nj c3] 31)) := hb3.alloc hb3.size _
        obtain ⟨D0, vs0, hown0, _, _, _, _⟩ := h4.data (kO _ _ _ _ _)
        have hown4 := owns_keep hown0 fun i hi _ => hb4.block i hi
        clear hown0 hbp hR0 hB3 hR3
        go_wp2_with (at_builtin; refine wp_append_sl _ rfl (.tmp 44) (.tmp 51) rfl Q k c vs0 rfl hown4 (some ⟨w3.heap.size, 0, none⟩) 1 1 rfl (fun i => wr.heap.size ≤ i) [p] hp4 rfl (by omega) ?_)
        intro Q' c' w5 us hus hown5 hgr hq
        have h5 := h4.push hb4 hus hown4 hown5 hgr (fun p hp => (hq p hp).imp id fun h => by simpa using h)
        rw [hst.out] at h5
        clear h4 hb4 hb3 hus hown4 hown5 hgr hq hp4
        have hbel5 := h5.bel
        have hcell5 : w5.cell? ⟨b, o + k, none⟩ = some (.slice Aj nj cj) := (hbel5.cell (p := ⟨b, o + k, none⟩) hblt).trans hcY
        have hb5 : b < w5.heap.size := Nat.lt_of_lt_of_le hblt hbel5.size
        have h6 := (h5.oldP b0').one (kAnd (kO _ _ _ _ _) (kP _ _)) (fun _ _ h => h.2) hpk.out rfl hb5 hcell5
        have hrb : (rb [p]).length ≤ 204 := by rw [rb_one, pt_len, hpj.out]; omega
        have had := lw_add (kAnd (kAnd (kO _ _ _ _ _) (kP _ _)) (kP _ _)) h6 (some ⟨w5.heap.size, 0, none⟩) [p] 1 1 (fun W F h => h.2) rfl (by decide) (by omega) (fun q hq => by rw [List.mem_singleton] at hq; subst hq; rw [hpj.out]; omega) (by rw [HK.out]; omega) (by omega)
        have HRB := Lib.hid hrb
        clear h5 h6 hbel5 hrb
        go_wp2_with fail
        refine had.mono ?_
        rintro e w6 ⟨rfl, h7⟩
        have h8 : Lw Y w6 j d 65536 (1000 + 10 * (k + 1)) (204 * (k + 1)) 1 [] (l0.take (k + 1)) 0 (KO Y.heap.size Q' (k + 1) c' (l0.take (k + 1))) := by
          have h := (h7.weak (K2 := KO Y.heap.size Q' (k + 1) c' (l0.take (k + 1))) fun _ _ h => h.1.1).more (NB' := 1000 + 10 * (k + 1)) (B' := 204 * (k + 1)) (LB' := 1) (by omega) (by have := HRB.out; omega) (Nat.le_refl _)
          rw [hst.out] at h; exact h
        clear had h7
        go_wp2
        go_roundw
        case rel => exact ⟨k + 1, Q', c', rfl, by go_num, by omega, h8⟩
        case measure => simp [intOf]; omega
    · obtain rfl : k = n0 := by omega
      have h5 : Lw Y wr j d 65536 2000 3000 1 [] l0 0 (KO Y.heap.size Q k c l0) := by
        have h := h4.more (NB' := 2000) (B' := 3000) (LB' := 1) (by omega) (by omega) (by decide)
        rw [List.take_of_length_le (by rw [E0.out]; exact Nat.le_refl _)] at h
        exact h
      clear h4 HK h3
      obtain ⟨Z, hZ⟩ : ∃ Z, Z = wr := ⟨_, rfl⟩
      subst hZ
      have hal := lw_own h5 (by rw [E0.out]; omega)
      go_wp2_with fail
      refine hal.mono ?_
      rintro e W1 ⟨m1, rfl, hm1, ⟨vs, hrow0, hPR⟩, hbW⟩
      obtain rfl : k = m1 := E0.out.symm.trans hm1.out
      have HV : Hid (vs.length = k) := hPR.1.trans E0.out
      have hok := h5.ok
      have HLN : Vlt (∀ (i : Nat) (A : Option Addr) (n c : Nat), vs[i]? = some (Value.slice A n c) → n ≤ 1099511627776) := vlt fun i A n c h => by
        have hi : i < l0.length := by rw [← hPR.1]; exact (List.getElem?_eq_some_iff.1 h).1
        obtain ⟨A', n', c', h1, h2⟩ := hPR.2 i _ (List.getElem?_eq_getElem hi)
        rw [h1] at h
        injection h with h
        injection h with a b c
        have h3 := h2.len
        have h4 := hok _ (List.getElem_mem hi)
        omega
      have hPB0 := vlt hPR.pb
      have hrow := vlt hrow0
      clear hal hPR hm1 hrow0 hok
      obtain ⟨G, hG⟩ : ∃ G, Z.heap.size = G := ⟨_, rfl⟩
      rw [hG] at hrow hPB0 hbW ⊢
      replace hG := Lib.hid hG
      go_wp2_with fail
      go_loopw [10] (fun x wr => ∃ q : Nat, x = .int .i64 (q : Int) ∧ q ≤ k ∧ Vlt (wr.heap[G]? = some (.cells vs.toArray 31 (0, 0))) ∧ Vlt (PB wr G vs) ∧ Below G Z wr) (fun x _ => k - (intOf x).toNat)
      case atStart => exact ⟨0, rfl, Nat.zero_le _, hrow, hPB0, hbW⟩
      case round =>
        obtain ⟨q, rfl, hq, hrw, hPB, hbZ⟩ := hrel
        by_cases hqk : q < k
        · obtain ⟨A, n, cc, hvq, hncc, _⟩ := hPB.out q (by rw [HV.out]; exact hqk)
          have HQ := vlt hvq
          have hnb := HLN.out q A n cc hvq
          obtain ⟨Y0, hY0⟩ : ∃ Y0, Y0 = wr := ⟨_, rfl⟩
          subst hY0
          clear hvq
          go_wp2_with fail
          go_loopw [11] (fun x wr => ∃ t : Nat, x = .int .i64 (t : Int) ∧ t ≤ n ∧ Vlt (wr.heap[G]? = some (.cells vs.toArray 31 (0, 0))) ∧ Vlt (PB wr G vs) ∧ Below G Z wr) (fun x _ => n - (intOf x).toNat)
          case atStart => exact ⟨0, rfl, Nat.zero_le _, hrw, hPB, hbZ⟩
          case round =>
            obtain ⟨t, rfl, ht, hrw1, hPB1, hbZ1⟩ := hrel
            have hcq : wr.cell? ⟨G, q, none⟩ = some (.slice A n cc) := by
              rw [cell_of_row _ _ _ _ _ _ hrw1.out]
              simpa using HQ.out
            by_cases htn : t < n
            · obtain ⟨A', n', cc', hv', _, hcl⟩ := hPB1.out q (by rw [HV.out]; exact hqk)
              rw [HQ.out] at hv'
              injection hv' with hv'
              injection hv' with e1 e2 e3
              subst e1 e2 e3
              obtain ⟨b, o, x, rfl, hGb, hcx, hfx⟩ := hcl t htn
              have hset := vlt (PB.set (x := IntKind.u8.wrap (x + 1)) hPB1.out hcx)
              have hb1 : Below (G + 1) wr (wr.setCell ⟨b, o + t, none⟩ (.int .u8 (IntKind.u8.wrap (x + 1)))) := (Below.refl _ _).setCell hGb _
              have hrw2 : Vlt ((wr.setCell ⟨b, o + t, none⟩ (.int .u8 (IntKind.u8.wrap (x + 1)))).heap[G]? = some (.cells vs.toArray 31 (0, 0))) := vlt ((hb1.block G (Nat.lt_succ_self _)).trans hrw1.out)
              have hbZ2 : Below G Z (wr.setCell ⟨b, o + t, none⟩ (.int .u8 (IntKind.u8.wrap (x + 1)))) := hbZ1.trans (hb1.mono (Nat.le_succ G))
              clear hb1 hPB1 hrw1 hbZ1
              go_wp2
              go_roundw
              case rel => exact ⟨t + 1, by go_num, by omega, hrw2, hset, hbZ2⟩
              case measure => simp [intOf]; omega
            · obtain rfl : t = n := by omega
              go_wp2
              go_roundw
              case rel => exact ⟨q + 1, by go_num, by omega, hrw1, hPB1, hbZ1⟩
              case measure => simp [intOf]; omega
        · obtain rfl : q = k := by omega
          have h6 := h5.next (kO _ _ _ _ _) (by rw [hG.out]; exact hbZ)
          have hal := lw_all (kO _ _ _ _ _) h6 (by rw [E0.out]; omega)
          clear h5 h6
          go_wp2_with fail
          refine hal.mono ?_
          rintro e w9 ⟨mr, rfl, hmr, hv, hb9, h9⟩
          obtain rfl : q = mr := E0.out.symm.trans hmr.out
          have hsm := same_any w9 (some ⟨wr.heap.size, 0, none⟩) Q l0 l0 q q q c (all_prt hv) E0.out (KO.prt (h9.data (kO _ _ _ _ _))) E0.out (by omega)
          rw [show decide (l0 = l0) = true by simp] at hsm
          clear hal hv
          go_wp2_with fail
          refine hsm.mono ?_
          rintro e w10 ⟨rfl, z, rfl⟩
          have hend := hb0.trans (((h9.drewN (kO _ _ _ _ _) z).bel).mono hb0.size)
          clear hsm h9
          go_wp2
          go_ret
          exact ⟨rfl, hend⟩
end Go.Proofs.YtaklbgikoeedbaaDoor
