/-
  Law 14: any calls, any crashes: what was safe is there, and of what was added behind it a beginning. Conditions: none.
-/
import Derived.Test.YtaklbgikoeedbaaDoorJnPl
import Derived.Test.YtaklbgikoeedbaaDoorPkF
namespace Go.Proofs.YtaklbgikoeedbaaDoor
open Go.RowKit

set_option maxRecDepth 100000 in
set_option maxHeartbeats 8000000 in
theorem walk_JournalPlays (w : World) (_ : Laid w) (A0 : Option Addr) (ks : List AcJ) (n0 c0 : Nat) (b0 : ActJP w w.heap.size A0 ks) (e0 : ks.length = n0) (f0 : n0 ≤ c0) :
    Calls Tryd.prog 4 #[.slice A0 n0 c0] w fun e w' => e = .returned (.bool true) ∧ Below w.heap.size w w' := by
  have hawk := jawake_any w
  have E0 := Lib.hid e0
  clear e0
  by_cases hn0 : 40 < n0
  · have hn0' : (40 : Int) < (n0 : Int) := by omega
    go_enter Tryd.func4, Tryd.ntmps4
    go_wp2_with fail
    refine hawk.mono ?_
    rintro e w0 ⟨rfl, hb0⟩
    clear hawk
    go_wp2
    go_ret
    exact ⟨rfl, hb0⟩
  have hn0' : ¬ (40 : Int) < (n0 : Int) := by omega
  have hnew := fun w0 => hold_new w0 262144 (by decide) (by decide)
  have kN := kNo
  go_enter Tryd.func4, Tryd.ntmps4
  go_wp2_with fail
  refine hawk.mono ?_
  rintro e Y ⟨rfl, hb0⟩
  clear hawk
  have b0' := (b0.below hb0).up hb0.size
  clear b0
  have hnw := hnew Y
  clear hnew
  go_wp2_with fail
  refine hnw.mono ?_
  rintro e w1 ⟨d, rfl, h1⟩
  clear hnw
  have hop := lo_open kN (lo_new h1 (by decide)) (by decide)
  go_wp2_with fail
  refine hop.mono ?_
  rintro e w2 ⟨j, rfl, h2⟩
  have h3 : Lw Y w2 j d 262144 (1000 + 300 * 0) (400 + 1300 * 0) (1 + 0) [] [] 0 (KP none []) := ((h2.old (kP none []) (.inl rfl)).weak fun _ _ h => h.2).more (by decide) (by decide) (by decide)
  clear hop h1 h2
  go_wp2_with fail
  go_loopw [5, 7, 8, 9, 10] (fun s5 s7 s8 s9 s10 wr => ∃ (k j : Nat) (bs : List UInt8) (Q : Option Addr) (m c safe : Nat) (recs : Rcs), s5 = .pointer (some ⟨j, 0, none⟩) ∧ s7 = .string ⟨bs.toArray⟩ ∧ s8 = .slice Q m c ∧ s9 = .int .i64 (safe : Int) ∧ s10 = .int .i64 (k : Int) ∧ k ≤ n0 ∧ Hid (recs.length = m) ∧ Hid (safe ≤ m) ∧ Hid (m ≤ 6 * k) ∧ Hid (bs.length ≤ 300) ∧ Hid (m ≤ c) ∧ Lw Y wr j d 262144 (1000 + 300 * k) (400 + 1300 * k) (1 + k) bs recs safe (KP Q recs)) (fun _ _ _ _ i _ => n0 - (intOf i).toNat)
  case atStart => exact ⟨0, j, [], none, 0, 0, 0, [], rfl, rfl, rfl, rfl, rfl, Nat.zero_le _, Lib.hid rfl, Lib.hid (Nat.le_refl _), Lib.hid (Nat.le_refl _), Lib.hid (Nat.zero_le _), Lib.hid (Nat.le_refl _), h3⟩
  case round =>
    clear h3
    obtain ⟨k, j, bs, Q, m, c, safe, recs, rfl, rfl, rfl, rfl, rfl, hkn, HM, HS, H6, HBS, HC, h4⟩ := hrel
    have hbelR := hb0.trans (h4.bel.mono hb0.size)
    by_cases hlt : k < n0
    · obtain ⟨g, o, ⟨Ab, nb, cb, Al, nl, cl⟩, ⟨op, nn, mask, b, l⟩, hA0, hg, _, hrngY, hok, hat⟩ := b0'.at_ (k := k) (by rw [E0.out]; exact hlt)
      subst hA0
      have hrng : wr.rangeAt g (o + k * 5) [.int .i64 op, .int .i64 nn, .int .u64 (mask : Int), .slice Ab nb cb, .slice Al nl cl] := rangeJ_below hrngY h4.bel hg
      obtain ⟨hk1, hk2⟩ := hok
      obtain ⟨hbl0, hbc, hbb, hll0, hlc, hlp⟩ := hat
      simp only at hk1 hk2 hbl0 hbc hbb hll0 hlc hlp
      have hbl := Lib.hid hbl0
      have hll := Lib.hid hll0
      have hnn : -9223372036854775808 ≤ nn ∧ nn < 9223372036854775808 := by
        have h : -9223372036854775808 ≤ nn ∧ nn ≤ 9223372036854775807 := by simpa [Lit.wf, IntKind.min, IntKind.max, IntKind.signed, IntKind.bits] using hk1
        omega
      clear hrngY hk1 hbl0 hll0
      by_cases q1 : 300 < nb
      · have q1' : (300 : Int) < (nb : Int) := by omega
        clear h4 hlp hbb
        go_wp2_with (with_reducible refine wpList_load_mid rfl 42 (.tmp 44) rfl g (o + k * 5) rfl [.int .i64 op, .int .i64 nn, .int .u64 (mask : Int), .slice Ab nb cb, .slice Al nl cl] _ hrng Tryd.underlying42 rfl (by kernel_rfl) ?_)
        go_ret
        exact ⟨rfl, hbelR.alloc hbelR.size _⟩
      have q1' : ¬ (300 : Int) < (nb : Int) := by omega
      by_cases q2 : 6 < nl
      · have q2' : (6 : Int) < (nl : Int) := by omega
        clear h4 hlp hbb
        go_wp2_with (with_reducible refine wpList_load_mid rfl 42 (.tmp 44) rfl g (o + k * 5) rfl [.int .i64 op, .int .i64 nn, .int .u64 (mask : Int), .slice Ab nb cb, .slice Al nl cl] _ hrng Tryd.underlying42 rfl (by kernel_rfl) ?_)
        go_ret
        exact ⟨rfl, hbelR.alloc hbelR.size _⟩
      have q2' : ¬ (6 : Int) < (nl : Int) := by omega
      go_wp2_with (with_reducible refine wpList_load_mid rfl 42 (.tmp 44) rfl g (o + k * 5) rfl [.int .i64 op, .int .i64 nn, .int .u64 (mask : Int), .slice Ab nb cb, .slice Al nl cl] _ hrng Tryd.underlying42 rfl (by kernel_rfl) ?_)
      obtain ⟨WF, hWF⟩ : ∃ WF, WF = wr.alloc (.cells #[.int .i64 op, .int .i64 nn, .int .u64 (mask : Int), .slice Ab nb cb, .slice Al nl cl] 42) := ⟨_, rfl⟩
      have hbF : Below wr.heap.size wr WF := by rw [hWF]; exact (Below.refl _ _).alloc (Nat.le_refl _) _
      have hrow : WF.heap[wr.heap.size]? = some (actJ op nn mask ⟨Ab, nb, cb, Al, nl, cl⟩) := by rw [hWF]; exact heap_alloc_new wr _
      have h5a := h4.fresh (kP Q recs) hbF (kRow wr.heap.size (actJ op nn mask ⟨Ab, nb, cb, Al, nl, cl⟩)) ⟨hrow, Nat.le_refl _⟩
      rw [← hWF]
      obtain ⟨x, hx⟩ : ∃ x, x = wr.heap.size := ⟨_, rfl⟩
      rw [← hx] at h5a hrow ⊢
      have h5 := (h5a.oldP hlp).oldB hbb
      have hbelF := hbelR.trans (hbF.mono hbelR.size)
      have hlp2 : Prt WF WF.heap.size Al l := (hlp.below h5.bel).up h5.bel.size
      clear h5a hbF hx hWF hrng h4 hbelR hlp hbb
      obtain ⟨e0, e1, e2, e3, e4⟩ := actJ_cells hrow
      simp only at e3 e4
      clear hrow
      have kM : Kp (KAnd (KAnd (KAnd (KP Q recs) (KRow x (actJ op nn mask ⟨Ab, nb, cb, Al, nl, cl⟩))) (KP Al l)) (KB Ab b)) := kAnd (kAnd (kAnd (kP _ _) (kRow _ _)) (kP _ _)) (kB _ _)
      go_wp2_with fail
      go_loopw [12] (fun y wq => ∃ q : Nat, y = .int .i64 (q : Int) ∧ q ≤ nl ∧ wq = WF ∧ Vlt (∀ p ∈ l.take q, p.length ≤ 200)) (fun y _ => nl - (intOf y).toNat)
      case atStart => exact ⟨0, rfl, Nat.zero_le _, rfl, vlt (fun p hp => by simp at hp)⟩
      case round =>
        obtain ⟨q, rfl, hq, rfl, hsh⟩ := hrel
        by_cases hqn : q < nl
        · obtain ⟨b', o', Aj, nj, cj, p, rfl, hblt, hcell, hpk, hpj, hcj, _⟩ := hlp2.at_ (k := q) (by rw [hll.out]; exact hqn)
          clear hlp2 h5 kM
          by_cases hbg : 200 < nj
          · have hbg' : (200 : Int) < (nj : Int) := by omega
            go_wp2
            go_ret
            exact ⟨rfl, hbelF⟩
          · have hbg' : ¬ (200 : Int) < (nj : Int) := by omega
            have hsh2 : Vlt (∀ p ∈ l.take (q + 1), p.length ≤ 200) := vlt (by
              intro p2 hp2
              rw [← take_step hpk.out, List.mem_append, List.mem_singleton] at hp2
              rcases hp2 with hp2 | rfl
              · exact hsh.out p2 hp2
              · rw [hpj.out]; omega)
            clear hsh
            go_wp2
            go_roundw
            case rel => exact ⟨q + 1, by go_num, by omega, trivial, hsh2⟩
            case measure => simp [intOf]; omega
        · obtain rfl : q = nl := by omega
          have h200 : Vlt (∀ p ∈ l, p.length ≤ 200) := vlt (by
            have h := hsh.out
            rwa [List.take_of_length_le (by rw [hll.out]; exact Nat.le_refl _)] at h)
          clear hsh hlp2
          by_cases o0 : op = 0
          · as_aux_lemma =>
              subst o0
              have hrb : (rb l).length ≤ 204 * q := by
                have h := rb_le h200.out
                rw [hll.out] at h; omega
              have had := lw_add kM h5 Al l q cl (fun W F h => h.1.2) hll.out (by omega) (by omega) (fun p hp => by have := h200.out p hp; omega) (by rw [HM.out]; have := H6.out; omega) (by omega)
              have HRB := Lib.hid hrb
              clear hrb h5 e1 e2 e3
              go_wp2_with fail
              refine had.mono ?_
              rintro e w3 ⟨rfl, h6⟩
              have h6d := h6.drew kM
              clear had h6
              have hrow6 := (h6d.data kM).1.1.2.1
              have f4 := (actJ_cells hrow6).2.2.2.2
              simp only at f4
              have hpQ := (h6d.data kM).1.1.1
              have hpL := (h6d.data kM).1.2
              have hxW : x < w3.drew.heap.size := (Array.getElem?_eq_some_iff.1 hrow6).1
              obtain ⟨us1, hs1, hp1⟩ := prt_news hpQ
              obtain ⟨us2, hs2, hp2⟩ := prt_news hpL
              have hu1 : us1.length = m := hp1.1.trans HM.out
              have hu2 : us2.length = q := hp2.1.trans hll.out
              have HU1 := Lib.hid hu1
              have HU2 := Lib.hid hu2
              clear hpQ hpL hrow6 hu1 hu2 e4 e0
              go_upto_region 36 with fail
              refine wp_region_held_drew (S := (fun W' => W'.cell? ⟨x, 4, none⟩ = some (.slice Al q cl))) (by kernel_rfl) (f4) (fun hHeld => ?_)
              generalize World.drew w3 = W4 at *
              refine wpAnyH_take (i := 1) (oi := ⟨(some 126), _, _, _, _, _⟩) (v := ?vq1_0) rfl (by kernel_rfl) (by kernel_rfl) (by kernel_rfl) (fun _ _ _ h => h) (Or.inl ⟨by rfl, ?yq1_0⟩) hHeld ?_
              case yq1_0 => (intro W0 hSw; go_simp; try with_reducible rfl)
              try simp only [Act.put, List.setIfInBounds_toArray, List.set_cons_zero, List.set_cons_succ]
              refine wpAnyH_take (i := 3) (oi := ⟨(some 128), _, _, _, _, _⟩) (v := ?vq1_1) rfl (by kernel_rfl) (by kernel_rfl) (by kernel_rfl) (fun _ _ _ h => h) (Or.inl ⟨by rfl, ?yq1_1⟩) hHeld ?_
              case yq1_1 => (intro W0 hSw; go_simp; try with_reducible rfl)
              try simp only [Act.put, List.setIfInBounds_toArray, List.set_cons_zero, List.set_cons_succ]
              refine wpAnyH_take (i := 4) (oi := ⟨(some 129), _, _, _, _, _⟩) (v := ?vq1_2) rfl (by kernel_rfl) (by kernel_rfl) (by kernel_rfl) (fun _ _ _ h => h) (Or.inl ⟨by rfl, ?yq1_2⟩) hHeld ?_
              case yq1_2 => (intro W0 hSw; go_simp; try with_reducible rfl)
              try simp only [Act.put, List.setIfInBounds_toArray, List.set_cons_zero, List.set_cons_succ]
              refine wpAnyH_ready (rs := [0]) (by kernel_rfl) (by simp) ?_
              refine AllReadyH.cons (i := 0) (o := ⟨(some 125), _, _, _, _, _⟩) rfl (fun K hK => ?_) AllReadyH.nil
              go_simp
              obtain ⟨V1, hV1⟩ : ∃ V, V = W4.alloc (.cells #[] 31) := ⟨_, rfl⟩
              rw [← hV1]
              have g1 : Below W4.heap.size W4 V1 := by rw [hV1]; exact (Below.refl _ _).alloc (Nat.le_refl _) _
              have o1 : V1.ownsRow 0 31 1 (.slice (some ⟨W4.heap.size, 0, none⟩) 0 0) 0 [] := by rw [hV1]; exact own_lit _ _
              clear hV1
              refine hK.out _ _ ((g1.cell (p := ⟨x, 4, none⟩) hxW).trans f4) (fun hHeld => ?_)
              clear hK K
              try simp only [Act.put, List.setIfInBounds_toArray, List.set_cons_zero, List.set_cons_succ]
              refine wpAnyH_ready (rs := [2]) (by kernel_rfl) (by simp) ?_
              refine AllReadyH.cons (i := 2) (o := ⟨(some 127), _, _, _, _, _⟩) rfl (fun K hK => ?_) AllReadyH.nil
              refine step_append_row V1 rfl (.tmp 125) (.tmp 126) 32 rfl 31 Tryd.underlying32 (.slice none 0 0) 1 24 Tryd.infoSlc rfl (by decide) (by decide) (some ⟨W4.heap.size, 0, none⟩) 0 0 [] rfl o1 Q m c rfl us1 (fun hm => (Src_.keep hs1 g1) (fun e => hm (by rw [← HU1.out, e]; rfl))) hp1.single (by rw [HU1.out, Nat.mul_one]) (by have := H6.out; omega) ?_
              intro A6 c6 V2 own6 gr6 q6 _ _
              rw [Nat.zero_add, List.nil_append] at own6
              rw [Nat.zero_add]
              have a6 : AtF (fun i => W4.heap.size ≤ i) A6 := fun p hp => (q6 p hp).elim (fun ⟨y, hy, e⟩ => by injection hy with hy; subst hy; rw [e]; exact Nat.le_refl _) (fun h => Nat.le_trans g1.size h)
              have g6 : Below W4.heap.size W4 V2 := (grown_off (K := fun i => W4.heap.size ≤ i) gr6 (fun p hp => by injection hp with hp; subst hp; exact Nat.le_refl _)).below g1 (fun _ h => h) g1.size
              refine hK.out _ _ ((g6.cell (p := ⟨x, 4, none⟩) hxW).trans f4) (fun hHeld => ?_)
              clear hK K
              try simp only [Act.put, List.setIfInBounds_toArray, List.set_cons_zero, List.set_cons_succ]
              refine wpAnyH_ready (rs := [5]) (by kernel_rfl) (by simp) ?_
              refine AllReadyH.cons (i := 5) (o := ⟨(some 130), _, _, _, _, _⟩) rfl (fun K hK => ?_) AllReadyH.nil
              refine step_append_row V2 rfl (.tmp 127) (.tmp 129) 32 rfl 31 Tryd.underlying32 (.slice none 0 0) 1 24 Tryd.infoSlc rfl (by decide) (by decide) A6 m c6 us1 rfl own6 Al q cl rfl us2 (fun hm => (Src_.keep hs2 g6) (fun e => hm (by rw [← HU2.out, e]; rfl))) hp2.single (by rw [HU2.out, Nat.mul_one]) (by have := H6.out; omega) ?_
              intro A7 c7 V3 own7 gr7 q7 _ _
              have a7 : AtF (fun i => W4.heap.size ≤ i) A7 := fun p hp => (q7 p hp).elim (fun ⟨y, hy, e⟩ => by rw [e]; exact a6 y hy) (fun h => Nat.le_trans g6.size h)
              have g7 : Below W4.heap.size W4 V3 := (grown_off gr7 a6).below g6 (fun _ h => h) g6.size
              refine hK.out _ _ ((g7.cell (p := ⟨x, 4, none⟩) hxW).trans f4) (fun hHeld => ?_)
              clear hK K
              try simp only [Act.put, List.setIfInBounds_toArray, List.set_cons_zero, List.set_cons_succ]
              refine wpAnyH_take (i := 6) (oi := ⟨(some 8), _, _, _, _, _⟩) (v := ?vq1_3) rfl (by kernel_rfl) (by kernel_rfl) (by kernel_rfl) (fun _ _ _ h => h) (Or.inl ⟨by rfl, ?yq1_3⟩) hHeld ?_
              case yq1_3 => (intro W0 hSw; go_simp; try with_reducible rfl)
              try simp only [Act.put, List.setIfInBounds_toArray, List.set_cons_zero, List.set_cons_succ]
              refine wpAnyH_done (by kernel_rfl) ?_ _
              clear hHeld
              have h8 := (Lw.joined kM h6d (fun _ _ h => h.1.1.1) (fun _ _ h => h.1.2) hp1 hs1 hp2 hs2 own7 g7 a7).more (NB' := 1000 + 300 * (k + 1)) (B' := 400 + 1300 * (k + 1)) (LB' := 1 + (k + 1)) (by omega) (by have := HRB.out; omega) (by omega)
              have HM2 : Hid ((recs ++ l).length = m + q) := show _ = _ by rw [List.length_append, HM.out, hll.out]
              have HS2 : Hid (safe ≤ m + q) := Nat.le_trans HS.out (Nat.le_add_right _ _)
              have H62 : Hid (m + q ≤ 6 * (k + 1)) := show _ ≤ _ by have := H6.out; omega
              have HC2 : Hid (m + q ≤ c7) := show _ ≤ _ from (owns_size own7).2.2
              clear h6d hp1 hs1 hp2 hs2 own6 own7 g1 g6 g7 a6 a7 gr6 gr7 q6 q7 o1 f4 hxW HRB HU1 HU2 kM
              obtain ⟨RR, hRR⟩ : ∃ RR, RR = recs ++ l := ⟨_, rfl⟩
              rw [← hRR] at h8 HM2
              clear hRR
              have kQ : Kp (KP A7 RR) := kP _ _
              have hba := lw_base kQ h8 (by have := HBS.out; omega)
              go_wp2_with fail
              refine hba.mono ?_
              rintro e w7 ⟨Ab2, nb2, cb2, rfl, hbA, hnb, hncb, hb7, h7⟩
              have hcx := conv_bytes (P := Tryd.prog) Tryd.underlying31 Tryd.underlying5 Tryd.underlying9 hbA nb2 cb2 hnb.out
              have hal := lw_all kQ h7 (by rw [HM2.out]; have := H62.out; omega)
              clear hba hb7 h7 h8
              go_wp2_with fail
              refine hal.mono ?_
              rintro e w8 ⟨mr, rfl, hmr, hv, _, h8⟩
              obtain rfl : (m + q) = mr := HM2.out.symm.trans hmr.out
              have hsm := same_any w8 (some ⟨w7.heap.size, 0, none⟩) A7 RR RR (m + q) (m + q) (m + q) c7 (all_prt hv) HM2.out (PrtF.prt (h8.data kQ)) HM2.out (by have := H62.out; omega)
              rw [show decide (RR = RR) = true by simp] at hsm
              clear hal hv hcx hbA hnb hncb hmr
              go_wp2_with fail
              refine hsm.mono ?_
              rintro e w9 ⟨rfl, z, rfl⟩
              have h9 := h8.drewN kQ z
              clear hsm h8
              generalize World.drewN w8 z = W9 at *
              have hdo := lw_done kQ h9
              clear h9
              go_wp2_with fail
              refine hdo.mono ?_
              rintro e w10 ⟨rfl, ⟨z2, rfl⟩, h10⟩
              clear hdo
              go_wp2
              go_roundw
              case rel => exact ⟨k + 1, j, bs, A7, (m + q), c7, safe, RR, rfl, rfl, rfl, rfl, by go_num, by omega, HM2, HS2, H62, HBS, HC2, h10⟩
              case measure => simp [intOf]; omega
          have o0' : ¬ op = 0 := o0
          by_cases o1 : op = 1
          · as_aux_lemma =>
              subst o1
              have hsn := lw_sync kM h5
              clear h5 e1 e2 e3
              go_wp2_with fail
              refine hsn.mono ?_
              rintro e w3 ⟨rfl, h6⟩
              rw [HM.out] at h6
              have h8 := (h6.weak (K2 := KP Q recs) fun _ _ h => h.1.1.1).more (NB' := 1000 + 300 * (k + 1)) (B' := 400 + 1300 * (k + 1)) (LB' := 1 + (k + 1)) (by omega) (by omega) (by omega)
              have HS2 : Hid (m ≤ m) := Nat.le_refl _
              have H62 : Hid (m ≤ 6 * (k + 1)) := show _ ≤ _ by have := H6.out; omega
              clear hsn h6 kM
              have kQ : Kp (KP Q recs) := kP _ _
              have hba := lw_base kQ h8 (by have := HBS.out; omega)
              go_wp2_with fail
              refine hba.mono ?_
              rintro e w7 ⟨Ab2, nb2, cb2, rfl, hbA, hnb, hncb, hb7, h7⟩
              have hcx := conv_bytes (P := Tryd.prog) Tryd.underlying31 Tryd.underlying5 Tryd.underlying9 hbA nb2 cb2 hnb.out
              have hal := lw_all kQ h7 (by rw [HM.out]; have := H62.out; omega)
              clear hba hb7 h7 h8
              go_wp2_with fail
              refine hal.mono ?_
              rintro e w8 ⟨mr, rfl, hmr, hv, _, h8⟩
              obtain rfl : m = mr := HM.out.symm.trans hmr.out
              have hsm := same_any w8 (some ⟨w7.heap.size, 0, none⟩) Q recs recs m m m c (all_prt hv) HM.out (PrtF.prt (h8.data kQ)) HM.out (by have := H62.out; omega)
              rw [show decide (recs = recs) = true by simp] at hsm
              clear hal hv hcx hbA hnb hncb hmr
              go_wp2_with fail
              refine hsm.mono ?_
              rintro e w9 ⟨rfl, z, rfl⟩
              have h9 := h8.drewN kQ z
              clear hsm h8
              generalize World.drewN w8 z = W9 at *
              have hdo := lw_done kQ h9
              clear h9
              go_wp2_with fail
              refine hdo.mono ?_
              rintro e w10 ⟨rfl, ⟨z2, rfl⟩, h10⟩
              clear hdo
              go_wp2
              go_roundw
              case rel => exact ⟨k + 1, j, bs, Q, m, c, m, recs, rfl, rfl, rfl, rfl, by go_num, by omega, HM, HS2, H62, HBS, HC, h10⟩
              case measure => simp [intOf]; omega
          have o1' : ¬ op = 1 := o1
          by_cases o2 : op = 2
          · as_aux_lemma =>
              subst o2
              have hke := lw_keep kM h5 Ab b nb cb (fun W F h => h.2) hbl.out (by omega) (by omega) (by omega)
              clear h5 e1 e2
              go_wp2_with fail
              refine hke.mono ?_
              rintro e w3 ⟨rfl, h6⟩
              have f3 := (actJ_cells (h6.data kM).1.1.2.1).2.2.2.1
              simp only at f3
              have hbb : Byt w3 w3.heap.size Ab b := ((h6.data kM).2).byt
              have hcx := conv_bytes (P := Tryd.prog) Tryd.underlying31 Tryd.underlying5 Tryd.underlying9 hbb nb cb hbl.out
              have h8 := ((h6.old (kP none []) (.inl rfl)).weak (K2 := KP none []) fun _ _ h => h.2).more (NB' := 1000 + 300 * (k + 1)) (B' := 400 + 1300 * (k + 1)) (LB' := 1 + (k + 1)) (by omega) (by omega) (by omega)
              have HM2 : Hid (([] : Rcs).length = 0) := rfl
              have HS2 : Hid (0 ≤ 0) := Nat.le_refl _
              have H62 : Hid (0 ≤ 6 * (k + 1)) := Nat.zero_le _
              have HBS2 : Hid (b.length ≤ 300) := show _ ≤ _ by rw [hbl.out]; omega
              have HC2 : Hid (0 ≤ 0) := Nat.le_refl _
              clear hke h6 kM hbb
              have kQ : Kp (KP none ([] : Rcs)) := kP _ _
              have hba := lw_base kQ h8 (by have := HBS2.out; omega)
              go_wp2_with fail
              refine hba.mono ?_
              rintro e w7 ⟨Ab2, nb2, cb2, rfl, hbA, hnb, hncb, hb7, h7⟩
              have hcx := conv_bytes (P := Tryd.prog) Tryd.underlying31 Tryd.underlying5 Tryd.underlying9 hbA nb2 cb2 hnb.out
              have hal := lw_all kQ h7 (by rw [HM2.out]; have := H62.out; omega)
              clear hba hb7 h7 h8
              go_wp2_with fail
              refine hal.mono ?_
              rintro e w8 ⟨mr, rfl, hmr, hv, _, h8⟩
              obtain rfl : 0 = mr := HM2.out.symm.trans hmr.out
              have hsm := same_any w8 (some ⟨w7.heap.size, 0, none⟩) none ([] : Rcs) ([] : Rcs) 0 0 0 0 (all_prt hv) HM2.out (PrtF.prt (h8.data kQ)) HM2.out (by have := H62.out; omega)
              rw [show decide (([] : Rcs) = ([] : Rcs)) = true by simp] at hsm
              clear hal hv hcx hbA hnb hncb hmr
              go_wp2_with fail
              refine hsm.mono ?_
              rintro e w9 ⟨rfl, z, rfl⟩
              have h9 := h8.drewN kQ z
              clear hsm h8
              generalize World.drewN w8 z = W9 at *
              have hdo := lw_done kQ h9
              clear h9
              go_wp2_with fail
              refine hdo.mono ?_
              rintro e w10 ⟨rfl, ⟨z2, rfl⟩, h10⟩
              clear hdo
              go_wp2
              go_roundw
              case rel => exact ⟨k + 1, j, b, none, 0, 0, 0, ([] : Rcs), rfl, rfl, rfl, rfl, by go_num, by omega, HM2, HS2, H62, HBS2, HC2, h10⟩
              case measure => simp [intOf]; omega
          have o2' : ¬ op = 2 := o2
          as_aux_lemma =>
            have hcr := lw_crash kM h5 mask nn.toNat nn hk2 rfl hnn.2 hnn.1
            clear h5 e3
            go_wp2_with fail
            refine hcr.mono ?_
            rintro e w3 ⟨rfl, h6⟩
            clear hcr e0 e1 e2 e4
            have hon := lc_on kM h6 (by omega) (by omega) (by decide)
            clear h6
            go_wp2_with fail
            refine hon.mono ?_
            rintro e w4 ⟨rfl, n, hn1, _, hn3, h7⟩
            rw [HM.out] at hn3
            clear hon
            have HN : Hid ((recs.take n).length = n) := show _ = _ by rw [List.length_take, HM.out]; exact Nat.min_eq_left hn3
            have hop := lo_open kM h7 (by rw [HN.out]; have := H6.out; omega)
            clear h7
            go_wp2_with fail
            refine hop.mono ?_
            rintro e w5 ⟨j2, rfl, h8⟩
            rw [HN.out] at h8
            clear hop
            have hal := lw_all kM h8 (by rw [HN.out]; have := H6.out; omega)
            clear h8
            go_wp2_with fail
            refine hal.mono ?_
            rintro e w11 ⟨m1, rfl, hm1, _, _, h18⟩
            obtain rfl : n = m1 := HN.out.symm.trans hm1.out
            clear hal hm1
            have h19 := h18.drew kM
            clear h18
            have hPw : Prt w11.drew w11.drew.heap.size Q (recs.take n) := (PrtF.prt (h19.data kM).1.1.1).take n
            have hal := lw_all kM h19 (by rw [HN.out]; have := H6.out; omega)
            have hmc : n ≤ c := Nat.le_trans hn3 HC.out
            have hcu := run_cut_h (P := Tryd.prog) Tryd.underlying32 (show (Tryd.prog.info? 31).map (·.size) = some 1 by kernel_rfl) Q m c n (n : Int) rfl hmc
            have hcv := run_cut_hm (P := Tryd.prog) Tryd.underlying32 (show (Tryd.prog.info? 31).map (·.size) = some 1 by kernel_rfl) Q m c n (n : Int) (n : Int) rfl rfl hmc
            have hms : ¬ (n : Int) < (safe : Int) := by omega
            have hmk : ¬ (m : Int) < (n : Int) := by omega
            have hd1 : decide ((n : Int) < (safe : Int)) = false := decide_eq_false hms
            have hd2 : decide ((m : Int) < (n : Int)) = false := decide_eq_false hmk
            go_upto_region 30 with fail
            refine wp_region_held_drew (S := (fun _ => True)) (by kernel_rfl) (trivial) (fun hHeld => ?_)
            refine wpAnyH_take (i := 0) (oi := ⟨(some 94), _, _, _, _, _⟩) (v := ?vq2_0) rfl (by kernel_rfl) (by kernel_rfl) (by kernel_rfl) (fun _ _ _ h => h) (Or.inl ⟨by rfl, ?yq2_0⟩) hHeld ?_
            case yq2_0 => (intro W0 hSw; go_simp; try with_reducible rfl)
            try simp only [Act.put, List.setIfInBounds_toArray, List.set_cons_zero, List.set_cons_succ]
            refine wpAnyH_take (i := 1) (oi := ⟨(some 95), _, _, _, _, _⟩) (v := ?vq2_1) rfl (by kernel_rfl) (by kernel_rfl) (by kernel_rfl) (fun _ _ _ h => h) (Or.inl ⟨by rfl, ?yq2_1⟩) hHeld ?_
            case yq2_1 => (intro W0 hSw; go_simp; try with_reducible rfl)
            try simp only [Act.put, List.setIfInBounds_toArray, List.set_cons_zero, List.set_cons_succ]
            refine wpAnyH_take (i := 2) (oi := ⟨(some 96), _, _, _, _, _⟩) (v := .bool false) rfl (by kernel_rfl) (by kernel_rfl) (by kernel_rfl) (fun _ _ _ h => h) (Or.inl ⟨by rfl, ?yA⟩) hHeld ?_
            case yA => (intro W0 hSw; go_simp; try omega)
            try simp only [Act.put, List.setIfInBounds_toArray, List.set_cons_zero, List.set_cons_succ]
            refine wpAnyH_take (i := 3) (oi := ⟨(some 97), _, _, _, _, _⟩) (v := ?vq2_2) rfl (by kernel_rfl) (by kernel_rfl) (by kernel_rfl) (fun _ _ _ h => h) (Or.inl ⟨by rfl, ?yq2_2⟩) hHeld ?_
            case yq2_2 => (intro W0 hSw; go_simp; try with_reducible rfl)
            try simp only [Act.put, List.setIfInBounds_toArray, List.set_cons_zero, List.set_cons_succ]
            refine wpAnyH_take (i := 4) (oi := ⟨(some 98), _, _, _, _, _⟩) (v := ?vq2_3) rfl (by kernel_rfl) (by kernel_rfl) (by kernel_rfl) (fun _ _ _ h => h) (Or.inl ⟨by rfl, ?yq2_3⟩) hHeld ?_
            case yq2_3 => (intro W0 hSw; go_simp; try with_reducible rfl)
            try simp only [Act.put, List.setIfInBounds_toArray, List.set_cons_zero, List.set_cons_succ]
            refine wpAnyH_take (i := 5) (oi := ⟨(some 99), _, _, _, _, _⟩) (v := ?vq2_4) rfl (by kernel_rfl) (by kernel_rfl) (by kernel_rfl) (fun _ _ _ h => h) (Or.inl ⟨by rfl, ?yq2_4⟩) hHeld ?_
            case yq2_4 => (intro W0 hSw; go_simp; try with_reducible rfl)
            try simp only [Act.put, List.setIfInBounds_toArray, List.set_cons_zero, List.set_cons_succ]
            refine wpAnyH_take (i := 6) (oi := ⟨(some 100), _, _, _, _, _⟩) (v := ?vq2_5) rfl (by kernel_rfl) (by kernel_rfl) (by kernel_rfl) (fun _ _ _ h => h) (Or.inl ⟨by rfl, ?yq2_5⟩) hHeld ?_
            case yq2_5 => (intro W0 hSw; go_simp; try with_reducible rfl)
            try simp only [Act.put, List.setIfInBounds_toArray, List.set_cons_zero, List.set_cons_succ]
            refine wpAnyH_take (i := 7) (oi := ⟨(some 101), _, _, _, _, _⟩) (v := .bool false) rfl (by kernel_rfl) (by kernel_rfl) (by kernel_rfl) (fun _ _ _ h => h) (Or.inl ⟨by rfl, ?yB⟩) hHeld ?_
            case yB => (intro W0 hSw; go_simp; try omega)
            try simp only [Act.put, List.setIfInBounds_toArray, List.set_cons_zero, List.set_cons_succ]
            refine wpAnyH_take (i := 8) (oi := ⟨(some 102), _, _, _, _, _⟩) (v := ?vq2_6) rfl (by kernel_rfl) (by kernel_rfl) (by kernel_rfl) (fun _ _ _ h => h) (Or.inl ⟨by rfl, ?yq2_6⟩) hHeld ?_
            case yq2_6 => (intro W0 hSw; go_simp; try with_reducible rfl)
            try simp only [Act.put, List.setIfInBounds_toArray, List.set_cons_zero, List.set_cons_succ]
            refine wpAnyH_take (i := 9) (oi := ⟨(some 103), _, _, _, _, _⟩) (v := ?vq2_7) rfl (by kernel_rfl) (by kernel_rfl) (by kernel_rfl) (fun _ _ _ h => h) (Or.inl ⟨by rfl, ?yq2_7⟩) hHeld ?_
            case yq2_7 => (intro W0 hSw; go_simp; try with_reducible rfl)
            try simp only [Act.put, List.setIfInBounds_toArray, List.set_cons_zero, List.set_cons_succ]
            refine wpAnyH_take (i := 10) (oi := ⟨(some 104), _, _, _, _, _⟩) (v := ?vq2_8) rfl (by kernel_rfl) (by kernel_rfl) (by kernel_rfl) (fun _ _ _ h => h) (Or.inl ⟨by rfl, ?yq2_8⟩) hHeld ?_
            case yq2_8 => (intro W0 hSw; go_simp; try with_reducible rfl)
            try simp only [Act.put, List.setIfInBounds_toArray, List.set_cons_zero, List.set_cons_succ]
            refine wpAnyH_take (i := 12) (oi := ⟨(some 106), _, _, _, _, _⟩) (v := ?vq2_9) rfl (by kernel_rfl) (by kernel_rfl) (by kernel_rfl) (fun _ _ _ h => h) (Or.inl ⟨by rfl, ?yq2_9⟩) hHeld ?_
            case yq2_9 => (intro W0 hSw; go_simp; try with_reducible rfl)
            try simp only [Act.put, List.setIfInBounds_toArray, List.set_cons_zero, List.set_cons_succ]
            refine wpAnyH_take (i := 13) (oi := ⟨(some 107), _, _, _, _, _⟩) (v := ?vq2_10) rfl (by kernel_rfl) (by kernel_rfl) (by kernel_rfl) (fun _ _ _ h => h) (Or.inl ⟨by rfl, ?yq2_10⟩) hHeld ?_
            case yq2_10 => (intro W0 hSw; go_simp; try with_reducible rfl)
            try simp only [Act.put, List.setIfInBounds_toArray, List.set_cons_zero, List.set_cons_succ]
            refine wpAnyH_take (i := 14) (oi := ⟨(some 108), _, _, _, _, _⟩) (v := ?vq2_11) rfl (by kernel_rfl) (by kernel_rfl) (by kernel_rfl) (fun _ _ _ h => h) (Or.inl ⟨by rfl, ?yq2_11⟩) hHeld ?_
            case yq2_11 => (intro W0 hSw; go_simp; try with_reducible rfl)
            try simp only [Act.put, List.setIfInBounds_toArray, List.set_cons_zero, List.set_cons_succ]
            refine wpAnyH_ready (rs := [11]) (by kernel_rfl) (by simp) ?_
            refine AllReadyH.cons (i := 11) (o := ⟨(some 105), _, _, _, _, _⟩) rfl (fun K hK => ?_) AllReadyH.nil
            go_simp
            refine hal.mono ?_
            rintro e w12 ⟨mr, rfl, hmr, hv, hb12, h20⟩
            obtain rfl : n = mr := HN.out.symm.trans hmr.out
            have hsm := same_any w12 (some ⟨w11.drew.heap.size, 0, none⟩) Q (recs.take n) (recs.take n) n n n c (all_prt hv) HN.out (hPw.next hb12) HN.out (by have := H6.out; omega)
            rw [show decide (recs.take n = recs.take n) = true by simp] at hsm
            clear hal
            refine hK.out _ _ (trivial) (fun hHeld => ?_)
            clear hK K
            try simp only [Act.put, List.setIfInBounds_toArray, List.set_cons_zero, List.set_cons_succ]
            refine wpAnyH_ready (rs := [15]) (by kernel_rfl) (by simp) ?_
            refine AllReadyH.cons (i := 15) (o := ⟨(some 109), _, _, _, _, _⟩) rfl (fun K hK => ?_) AllReadyH.nil
            go_simp
            refine hsm.mono ?_
            rintro e w13 ⟨rfl, zz, rfl⟩
            clear hsm
            refine hK.out _ _ (trivial) (fun hHeld => ?_)
            clear hK K
            try simp only [Act.put, List.setIfInBounds_toArray, List.set_cons_zero, List.set_cons_succ]
            refine wpAnyH_take (i := 16) (oi := ⟨(some 110), _, _, _, _, _⟩) (v := ?vq2_12) rfl (by kernel_rfl) (by kernel_rfl) (by kernel_rfl) (fun _ _ _ h => h) (Or.inl ⟨by rfl, ?yq2_12⟩) hHeld ?_
            case yq2_12 => (intro W0 hSw; go_simp; try with_reducible rfl)
            try simp only [Act.put, List.setIfInBounds_toArray, List.set_cons_zero, List.set_cons_succ]
            refine wpAnyH_take (i := 17) (oi := ⟨(some 111), _, _, _, _, _⟩) (v := ?vq2_13) rfl (by kernel_rfl) (by kernel_rfl) (by kernel_rfl) (fun _ _ _ h => h) (Or.inl ⟨by rfl, ?yq2_13⟩) hHeld ?_
            case yq2_13 => (intro W0 hSw; go_simp; try with_reducible rfl)
            try simp only [Act.put, List.setIfInBounds_toArray, List.set_cons_zero, List.set_cons_succ]
            refine wpAnyH_done (by kernel_rfl) ?_ _
            clear hHeld hPw hv h19 hcu
            have h21 := h20.drewN kM zz
            clear h20
            generalize World.drewN w12 zz = w13 at *
            have h22 := h21.drew kM
            clear h21
            go_upto_region 32 with fail
            refine wp_region_held_drew (S := (fun _ => True)) (by kernel_rfl) (trivial) (fun hHeld => ?_)
            generalize World.drew w13 = w14 at *
            refine wpAnyH_take (i := 0) (oi := ⟨(some 112), _, _, _, _, _⟩) (v := ?vq3_0) rfl (by kernel_rfl) (by kernel_rfl) (by kernel_rfl) (fun _ _ _ h => h) (Or.inl ⟨by rfl, ?yq3_0⟩) hHeld ?_
            case yq3_0 => (intro W0 hSw; go_simp; try with_reducible rfl)
            try simp only [Act.put, List.setIfInBounds_toArray, List.set_cons_zero, List.set_cons_succ]
            refine wpAnyH_take (i := 1) (oi := ⟨(some 113), _, _, _, _, _⟩) (v := ?vq3_1) rfl (by kernel_rfl) (by kernel_rfl) (by kernel_rfl) (fun _ _ _ h => h) (Or.inl ⟨by rfl, ?yq3_1⟩) hHeld ?_
            case yq3_1 => (intro W0 hSw; go_simp; try with_reducible rfl)
            try simp only [Act.put, List.setIfInBounds_toArray, List.set_cons_zero, List.set_cons_succ]
            refine wpAnyH_take (i := 2) (oi := ⟨(some 114), _, _, _, _, _⟩) (v := ?vq3_2) rfl (by kernel_rfl) (by kernel_rfl) (by kernel_rfl) (fun _ _ _ h => h) (Or.inl ⟨by rfl, ?yq3_2⟩) hHeld ?_
            case yq3_2 => (intro W0 hSw; go_simp; try with_reducible rfl)
            try simp only [Act.put, List.setIfInBounds_toArray, List.set_cons_zero, List.set_cons_succ]
            refine wpAnyH_take (i := 3) (oi := ⟨(some 115), _, _, _, _, _⟩) (v := ?vq3_3) rfl (by kernel_rfl) (by kernel_rfl) (by kernel_rfl) (fun _ _ _ h => h) (Or.inl ⟨by rfl, ?yq3_3⟩) hHeld ?_
            case yq3_3 => (intro W0 hSw; go_simp; try with_reducible rfl)
            try simp only [Act.put, List.setIfInBounds_toArray, List.set_cons_zero, List.set_cons_succ]
            refine wpAnyH_take (i := 4) (oi := ⟨(some 116), _, _, _, _, _⟩) (v := ?vq3_4) rfl (by kernel_rfl) (by kernel_rfl) (by kernel_rfl) (fun _ _ _ h => h) (Or.inl ⟨by rfl, ?yq3_4⟩) hHeld ?_
            case yq3_4 => (intro W0 hSw; go_simp; try with_reducible rfl)
            try simp only [Act.put, List.setIfInBounds_toArray, List.set_cons_zero, List.set_cons_succ]
            refine wpAnyH_take (i := 5) (oi := ⟨(some 117), _, _, _, _, _⟩) (v := ?vq3_5) rfl (by kernel_rfl) (by kernel_rfl) (by kernel_rfl) (fun _ _ _ h => h) (Or.inl ⟨by rfl, ?yq3_5⟩) hHeld ?_
            case yq3_5 => (intro W0 hSw; go_simp; try with_reducible rfl)
            try simp only [Act.put, List.setIfInBounds_toArray, List.set_cons_zero, List.set_cons_succ]
            refine wpAnyH_take (i := 6) (oi := ⟨(some 5), _, _, _, _, _⟩) (v := ?vq3_6) rfl (by kernel_rfl) (by kernel_rfl) (by kernel_rfl) (fun _ _ _ h => h) (Or.inl ⟨by rfl, ?yq3_6⟩) hHeld ?_
            case yq3_6 => (intro W0 hSw; go_simp; try with_reducible rfl)
            try simp only [Act.put, List.setIfInBounds_toArray, List.set_cons_zero, List.set_cons_succ]
            refine wpAnyH_take (i := 7) (oi := ⟨(some 8), _, _, _, _, _⟩) (v := ?vq3_7) rfl (by kernel_rfl) (by kernel_rfl) (by kernel_rfl) (fun _ _ _ h => h) (Or.inl ⟨by rfl, ?yq3_7⟩) hHeld ?_
            case yq3_7 => (intro W0 hSw; go_simp; try with_reducible rfl)
            try simp only [Act.put, List.setIfInBounds_toArray, List.set_cons_zero, List.set_cons_succ]
            refine wpAnyH_take (i := 8) (oi := ⟨(some 9), _, _, _, _, _⟩) (v := ?vq3_8) rfl (by kernel_rfl) (by kernel_rfl) (by kernel_rfl) (fun _ _ _ h => h) (Or.inl ⟨by rfl, ?yq3_8⟩) hHeld ?_
            case yq3_8 => (intro W0 hSw; go_simp; try with_reducible rfl)
            try simp only [Act.put, List.setIfInBounds_toArray, List.set_cons_zero, List.set_cons_succ]
            refine wpAnyH_done (by kernel_rfl) ?_ _
            clear hHeld hcv
            have h8 := (h22.weak (K2 := KP Q (recs.take n)) fun _ _ h => h.1.1.1.take n).more (NB' := 1000 + 300 * (k + 1)) (B' := 400 + 1300 * (k + 1)) (LB' := 1 + (k + 1)) (by omega) (by omega) (by omega)
            have HS2 : Hid (n ≤ n) := Nat.le_refl _
            have H62 : Hid (n ≤ 6 * (k + 1)) := show _ ≤ _ by have := H6.out; omega
            have HC2 : Hid (n ≤ n) := Nat.le_refl _
            clear h22 kM
            obtain ⟨RR, hRR⟩ : ∃ RR, RR = recs.take n := ⟨_, rfl⟩
            rw [← hRR] at h8 HN
            clear hRR
            have kQ : Kp (KP Q RR) := kP _ _
            have hba := lw_base kQ h8 (by have := HBS.out; omega)
            go_wp2_with fail
            refine hba.mono ?_
            rintro e w7 ⟨Ab2, nb2, cb2, rfl, hbA, hnb, hncb, hb7, h7⟩
            have hcx := conv_bytes (P := Tryd.prog) Tryd.underlying31 Tryd.underlying5 Tryd.underlying9 hbA nb2 cb2 hnb.out
            have hal := lw_all kQ h7 (by rw [HN.out]; have := H62.out; omega)
            clear hba hb7 h7 h8
            go_wp2_with fail
            refine hal.mono ?_
            rintro e w8 ⟨mr, rfl, hmr, hv, _, h8⟩
            obtain rfl : n = mr := HN.out.symm.trans hmr.out
            have hsm := same_any w8 (some ⟨w7.heap.size, 0, none⟩) Q RR RR n n n n (all_prt hv) HN.out (PrtF.prt (h8.data kQ)) HN.out (by have := H62.out; omega)
            rw [show decide (RR = RR) = true by simp] at hsm
            clear hal hv hcx hbA hnb hncb hmr
            go_wp2_with fail
            refine hsm.mono ?_
            rintro e w9 ⟨rfl, z, rfl⟩
            have h9 := h8.drewN kQ z
            clear hsm h8
            generalize World.drewN w8 z = W9 at *
            have hdo := lw_done kQ h9
            clear h9
            go_wp2_with fail
            refine hdo.mono ?_
            rintro e w10 ⟨rfl, ⟨z2, rfl⟩, h10⟩
            clear hdo
            go_wp2
            go_roundw
            case rel => exact ⟨k + 1, j2, bs, Q, n, n, n, RR, rfl, rfl, rfl, rfl, by go_num, by omega, HN, HS2, H62, HBS, HC2, h10⟩
            case measure => simp [intOf]; omega
    · obtain rfl : k = n0 := by omega
      go_wp2
      go_ret
      exact ⟨rfl, hbelR⟩
end Go.Proofs.YtaklbgikoeedbaaDoor
