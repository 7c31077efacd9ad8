/-
  Law BookGrows. Conditions: none.
-/
import Derived.Test.YtncjobhpiohkkaaPkE
import Derived.Test.YtncjobhpiohkkaaPkF
import Derived.Test.YtncjobhpiohkkaaLawBkOrder
import Derived.Test.YtncjobhpiohkkaaPkB
import Derived.Test.YtncjobhpiohkkaaPkA
namespace Go.Proofs.Ytncjobhpiohkkaa
open Go.RowKit

theorem ball_few {L : List Ed} {q f : ByteArray} (hL : BGood L) : (ball L q f).length ≤ 500 := by
  rw [ball, List.length_map]
  refine Nat.le_trans (List.length_filter_le _ _) ?_
  rw [blive, isorts_len]
  have := List.length_filter_le (isLive L) L
  have h3 := hL.few
  simp; omega
theorem bflds_few (L : List Ed) (q : ByteArray) (hL : BGood L) : (bflds L q).length ≤ 1048576 := by
  have h : ∀ (l r : List ByteArray), (usorts tlt r l).length ≤ r.length + l.length := by
    intro l
    induction l with
    | nil => intro r; simp [usorts]
    | cons y l ih =>
      intro r
      have h1 := ih (insU tlt y r)
      have h2 : (insU tlt y r).length ≤ r.length + 1 := by
        rw [insU]; split
        · omega
        · rw [ins_len]; omega
      rw [show usorts tlt r (y :: l) = usorts tlt (insU tlt y r) l from rfl, List.length_cons]
      omega
  have h1 := h (((blive L).filter fun x => decide (x.con = q)).map (·.fld)) []
  have h2 : (blive L).length ≤ L.length := by
    rw [blive, isorts_len]
    have := List.length_filter_le (isLive L) L
    simp; omega
  have h4 := List.length_filter_le (fun x => decide (x.con = q)) (blive L)
  have h3 := hL.few
  rw [bflds]
  simp at h1
  omega
set_option maxRecDepth 100000 in
set_option maxHeartbeats 8000000 in
theorem walk_BookGrows (w : World) (A1 : Option Addr) (l : List Ed) (n c : Nat) (b1 : EdsP w w.heap.size A1 l) (e1 : l.length = n) (_ : n ≤ c) (e : Ed) (he : e.seen.length = 8) :
    Calls Try.prog 7 #[.slice A1 n c, .agg e.cells.toArray] w fun x w' => x = .returned (.bool true) ∧ Below w.heap.size w w' := by
  have HN := Lib.hid e1
  have HE := Lib.hid he
  obtain ⟨W, hW, hgE, hbW, hsW⟩ := one_new w e.cells.toArray 32
  have HW := Lib.hid hW
  have b2 := b1.next hbW
  have DA := vlt (awake_any W)
  have hlW := row_size hgE
  clear e1 hW he
  go_enter Try.func7, Try.ntmps7
  go_upto_region 1 with fail
  rw [HW.out]
  go_upto_region 3 with (go_at_call 9; refine DA.out.mono ?_; rintro e' v0 ⟨rfl, hv0⟩; clear DA)
  have hgE0 := row_next2 hgE hv0
  by_cases h30 : n ≤ 30
  case neg =>
    have h1 : (30 : Int) < (n : Int) := by omega
    go_wp2
    go_ret
    exact ⟨rfl, below_next hbW hbW.size hv0⟩
  have h1 : ¬ (30 : Int) < (n : Int) := by omega
  obtain ⟨q, hq⟩ : ∃ q, elong e = q := ⟨_, rfl⟩
  have DLq := fun w' => blong_any w' e HE.out
  rw [hq] at DLq
  clear hq
  refine plain_start (S := fun W' => Below v0.heap.size v0 W') (by kernel_rfl) (Below.refl _ _) (fun hHeld => ?_)
  refine wpAnyH_take (i := 0) (oi := ⟨(some 16), _, _, _, _, _⟩) (v := .slice A1 n c) rfl (by kernel_rfl) (by kernel_rfl) (by kernel_rfl) (fun _ _ _ h => h) (Or.inl ⟨by rfl, ?yr3_0⟩) hHeld ?_
  case yr3_0 => (intro W0 hSw; go_simp; try with_reducible rfl)
  try simp only [pu]
  refine wpAnyH_take (i := 1) (oi := ⟨(some 17), _, _, _, _, _⟩) (v := .int .i64 (n : Int)) rfl (by kernel_rfl) (by kernel_rfl) (by kernel_rfl) (fun _ _ _ h => h) (Or.inl ⟨by rfl, ?yr3_1⟩) hHeld ?_
  case yr3_1 => (intro W0 hSw; go_simp; try with_reducible rfl)
  try simp only [pu]
  refine wpAnyH_take (i := 2) (oi := ⟨(some 18), _, _, _, _, _⟩) (v := .bool false) rfl (by kernel_rfl) (by kernel_rfl) (by kernel_rfl) (fun _ _ _ h => h) (Or.inl ⟨by rfl, ?yr3_2⟩) hHeld ?_
  case yr3_2 => (intro W0 hSw; go_simp; first | done | (simp; omega))
  try simp only [pu]
  refine wpAnyH_take (i := 3) (oi := ⟨(some 19), _, _, _, _, _⟩) (v := .bool false) rfl (by kernel_rfl) (by kernel_rfl) (by kernel_rfl) (fun _ _ _ h => h) (Or.inl ⟨by rfl, ?yr3_3⟩) hHeld ?_
  case yr3_3 => (intro W0 hSw; go_simp; try with_reducible rfl)
  try simp only [pu]
  refine wpAnyH_take (i := 4) (oi := ⟨(some 20), _, _, _, _, _⟩) (v := .agg e.cells.toArray) rfl (by kernel_rfl) (by kernel_rfl) (by kernel_rfl) (fun _ _ _ h => h) (yieldsIf_load_mid (by rfl) _ _ rfl (w.heap.size) 0 rfl e.cells _ (fun W' hW' => ed_allR (row_next2 hgE0 hW')) (Try.underlying32) rfl (by rw [Ed.cells_len HE.out]; kernel_rfl)) hHeld ?_
  try simp only [pu]
  refine wpAnyH_ready (rs := [5]) (by kernel_rfl) (by simp) ?_
  refine AllReadyH.cons (i := 5) (o := ⟨(some 21), _, _, _, _, _⟩) rfl (fun K hK => ?_) AllReadyH.nil
  go_simp
  refine (DLq _).mono ?_
  rintro e' r3W1 ⟨rfl, r3h1⟩
  refine hK.out _ _ (below_next hHeld hHeld.size r3h1) (fun hHeld => ?_)
  clear hK K r3h1
  try simp only [pu]
  refine wpAnyH_take (i := 6) (oi := ⟨(some 22), _, _, _, _, _⟩) (v := .bool q) rfl (by kernel_rfl) (by kernel_rfl) (by kernel_rfl) (fun _ _ _ h => h) (Or.inl ⟨by rfl, ?yr3_6⟩) hHeld ?_
  case yr3_6 => (intro W0 hSw; go_simp; try with_reducible rfl)
  try simp only [pu]
  refine wpAnyH_done (by kernel_rfl) ?_ _
  have hv1 := below_next hv0 hv0.size hHeld
  cases q with
  | true =>
    go_wp2
    go_ret
    exact ⟨rfl, below_next hbW hbW.size hv1⟩
  | false =>
  go_upto_region 5 with fail
  have D1 := vlt (new_bs (Bks.nil W.heap.size r3W1) hv1)
  go_upto_region 6 with (go_at_call 10; refine D1.out.mono ?_; rintro e' w1 ⟨a, rfl, hS1, hb1, hn1⟩; clear D1)
  clear h1 hv0 hn1 hHeld DLq hgE0
  go_wp2
  go_loopg [6] n (fun k s wr => ∃ (i : Nat), s = .int .i64 i ∧ n - i < k + 1 ∧ i ≤ n ∧ Vlt (Bks W.heap.size wr [(a, badds [] (l.take i))]) ∧ Below W.heap.size W wr)
  case atStart => exact ⟨0, rfl, by omega, Nat.zero_le _, vlt (by simpa [badds] using hS1), hb1⟩
  case round =>
    obtain ⟨i, rfl, hk, hin, H1, hbt⟩ := hrel
    by_cases hlt : i < n
    · have hltz : (i : Int) < (n : Int) := by omega
      obtain ⟨g, o, x, rfl, HX, HX8, hR⟩ := b2.rng (i := i) (by rw [HN.out]; omega)
      have hr1 := hR _ hbt
      obtain ⟨q, hq⟩ : ∃ q, elong x = q := ⟨_, rfl⟩
      have D1 := blong_any wr x HX8.out
      rw [hq] at D1
      have DL := vlt D1
      clear D1 hq
      cases q with
      | true =>
        go_wp2_with (first | (with_reducible refine wpList_load_mid rfl 32 (.tmp 32) rfl g (o + i * 15) rfl x.cells _ hr1 Try.underlying32 rfl (by rw [Ed.cells_len HX8.out]; kernel_rfl) ?_) | (go_at_call 21; refine DL.out.mono ?_; rintro e' w5 ⟨rfl, hb5⟩; have hbt5 := below_next hbt hbt.size hb5; clear DL))
        go_ret
        exact ⟨rfl, hbW.trans (hbt5.mono hbW.size)⟩
      | false =>
        obtain ⟨P, r, hbd⟩ : ∃ P r, badd (badds [] (l.take i)) x = (P, r) := ⟨_, _, rfl⟩
        have HP : Vlt (badds [] (l.take (i + 1)) = P) := vlt (by rw [badds_step HX.out, hbd])
        have HBD := vlt hbd
        clear hbd
        go_wp2_with (first | (with_reducible refine wpList_load_mid rfl 32 (.tmp 32) rfl g (o + i * 15) rfl x.cells _ hr1 Try.underlying32 rfl (by rw [Ed.cells_len HX8.out]; kernel_rfl) ?_) | (with_reducible refine wpList_load_mid rfl 32 (.tmp 38) rfl g (o + i * 15) rfl x.cells _ hr5 Try.underlying32 rfl (by rw [Ed.cells_len HX8.out]; kernel_rfl) ?_) | (go_at_call 21; refine DL.out.mono ?_; rintro e' w5 ⟨rfl, hb5⟩; have hbt5 := below_next hbt hbt.size hb5; have hr5 := hR _ hbt5; have VA := vlt (add_bs (H1.out.next hb5) hbt5 0 rfl x HX8.out HBD.out); clear DL) | (go_at_call 11; refine VA.out.mono ?_; rintro e' w6 ⟨rfl, hS6, hb6⟩; clear VA))
        go_roundg (n - (i + 1))
        case measure => omega
        case rel => exact ⟨i + 1, by go_num, by omega, by omega, vlt (by rw [HP.out]; exact hS6), hb6⟩
    · have hltz : ¬ (i : Int) < (n : Int) := by omega
      have H2 : Vlt (Bks W.heap.size wr [(a, badds [] l)]) := vlt (by have := H1.out; rwa [List.take_of_length_le (by rw [HN.out]; omega)] at this)
      go_upto_region 12 with fail
      clear H1 hlt hltz hk hin
      have hgA := H2.out.good (k := 0) rfl
      have hfa := badds_few (L := []) (es := l)
      rw [HN.out] at hfa
      obtain ⟨La, hLa⟩ : ∃ La, badds [] l = La := ⟨_, rfl⟩
      rw [hLa] at hgA hfa H2
      simp only [List.length_nil, Nat.zero_add] at hfa
      obtain ⟨M, r, hbd⟩ : ∃ M r, badd La e = (M, r) := ⟨_, _, rfl⟩
      have HBD := vlt hbd
      have V1 := vlt (copy_bs H2.out hbt 0 rfl)
      have HGA := vlt hgA
      clear hbd hLa hgA
      go_upto_region 13 with (go_at_call 14; refine V1.out.mono ?_; rintro e' w7 ⟨b, rfl, hS7, hb7⟩; clear V1)
      have hgE7 := row_next2 hgE hb7
      have V2 := vlt (add_bs hS7 hb7 1 rfl e HE.out HBD.out)
      by_cases hr0 : r = 0
      case neg =>
        have HM := vlt (badd_stays HBD.out hr0)
        go_wp2_with (first
            | (with_reducible refine wpList_load_row rfl 32 (.tmp 3) rfl w.heap.size rfl 32 e.cells.toArray (0, 0) _ hgE7.out Try.underlying32 rfl (by rw [Ed.cells_size HE.out]; kernel_rfl) ?_) | (go_at_call 11; refine V2.out.mono ?_; rintro e' w8 ⟨rfl, hS8, hb8⟩; have V3 := vlt (same_bs hS8 hb8 0 rfl (k2 := 1) rfl true (decide_eq_true HM.out.symm)); clear V2)
            | (go_at_call 15; refine V3.out.mono ?_; rintro e' w9 ⟨rfl, hS9, hb9⟩; clear V3))
        go_ret
        exact ⟨rfl, hbW.trans (hb9.mono hbW.size)⟩
      subst hr0
      go_upto_region 15 with (first | (with_reducible refine wpList_load_row rfl 32 (.tmp 3) rfl w.heap.size rfl 32 e.cells.toArray (0, 0) _ hgE7.out Try.underlying32 rfl (by rw [Ed.cells_size HE.out]; kernel_rfl) ?_) | (go_at_call 11; refine V2.out.mono ?_; rintro e' w8 ⟨rfl, hS8, hb8⟩; clear V2))
      have hgB := hS8.good (k := 1) rfl
      have HGV : Vlt (vle (bvec La) (bvec M) = true) := vlt (by have := grows_vec HGA.out HE.out; rwa [HBD.out] at this)
      have HGL : Vlt (∀ cq fq, (ball M cq fq).length ≤ (ball La cq fq).length + (if e.con = cq ∧ e.fld = fq then 1 else 0)) := vlt (fun cq fq => by have := grows_all (c := cq) (f := fq) HGA.out HE.out; rwa [HBD.out] at this)
      have hml : La.length ≤ M.length := by have := (badd_len (L := La) (e := e)).1; rwa [HBD.out] at this
      have h8 := hb8.size
      have HS8 : Vlt (Bks W.heap.size w8 [(a, La), (b, M)]) := vlt hS8
      have V3 := vlt (contacts_rd HS8.out 1 rfl)
      have hlva := bvec_len HGA.out
      have hlvb := bvec_len hgB
      obtain ⟨bc, hbc⟩ : ∃ bc, bcons M = bc := ⟨_, rfl⟩
      obtain ⟨nb, hnb⟩ : ∃ nb, bc.length = nb := ⟨_, rfl⟩
      rw [hbc, hnb] at V3
      have HNB := Lib.hid hnb
      have hfb : nb ≤ 1048576 := by rw [← hnb, ← hbc]; exact bcons_few M hgB
      have HGB := vlt hgB
      clear hbc hnb hgB hS8
      go_upto_region 16 with (go_at_call 19; refine V3.out.mono ?_; rintro e' wc ⟨A8, c8, rfl, hr8, hb8c⟩; clear V3)
      have hbc9 := below_next hb8 hb8.size hb8c
      have HS9 := vlt (HS8.out.next hb8c)
      have hgEc := row_next2 hgE hbc9
      clear hgE7 hS7 hb7 HS8 hb8c
      go_wp2
      go_loopg [9] nb (fun k s wr => ∃ (i : Nat), s = .int .i64 i ∧ nb - i < k + 1 ∧ i ≤ nb ∧ Below wc.heap.size wc wr)
      case atStart => exact ⟨0, rfl, by omega, Nat.zero_le _, Below.refl _ _⟩
      case round =>
        obtain ⟨i, rfl, hk, hin, hbk⟩ := hrel
        by_cases hlt : i < nb
        · have hltz : (i : Int) < (nb : Int) := by omega
          obtain ⟨G8, s8, rfl, hrow⟩ := hr8.at_ (by rw [HNB.out]; omega)
          obtain ⟨cq, hcq⟩ : ∃ cq, bc[i]? = some cq := ⟨_, List.getElem?_eq_getElem (by rw [HNB.out]; omega)⟩
          have HC := Lib.hid hcq
          have hrow7 := row_next2 hrow hbk
          have cc8 := text_at hrow7 hcq
          have V4 := vlt (fields_rd (HS9.out.next hbk) 1 rfl cq)
          obtain ⟨bf, hbf⟩ : ∃ bf, bflds M cq = bf := ⟨_, rfl⟩
          obtain ⟨nf, hnf⟩ : ∃ nf, bf.length = nf := ⟨_, rfl⟩
          rw [hbf, hnf] at V4
          have HNF := Lib.hid hnf
          have hff : nf ≤ 1048576 := by rw [← hnf, ← hbf]; exact bflds_few M cq HGB.out
          clear hbf hnf hcq
          obtain ⟨wo, hwo⟩ : ∃ wo, wo = wr := ⟨_, rfl⟩
          subst hwo
          go_upto_region 20 with (go_at_call 20; refine V4.out.mono ?_; rintro e' wf ⟨A10, c10, rfl, hr10, hbf⟩; clear V4)
          have hbkf := below_next hbk hbk.size hbf
          clear cc8
          go_wp2
          go_loopg [11] nf (fun k2 s wk => ∃ (k : Nat), s = .int .i64 k ∧ nf - k < k2 + 1 ∧ k ≤ nf ∧ Below wf.heap.size wf wk)
          case atStart => exact ⟨0, rfl, by omega, Nat.zero_le _, Below.refl _ _⟩
          case round =>
            obtain ⟨k, rfl, hk2, hkn, hbw⟩ := hrel
            obtain ⟨wk, hwk⟩ : ∃ wk, wk = wr := ⟨_, rfl⟩
            subst hwk
            by_cases hlt2 : k < nf
            · have hltz2 : (k : Int) < (nf : Int) := by omega
              obtain ⟨G10, s10, rfl, hrow2⟩ := hr10.at_ (by rw [HNF.out]; omega)
              obtain ⟨fq, hfq⟩ : ∃ fq, bf[k]? = some fq := ⟨_, List.getElem?_eq_getElem (by rw [HNF.out]; omega)⟩
              have HF := Lib.hid hfq
              have hbck := below_next hbkf hbkf.size hbw
              have hrow8 := row_next2 hrow hbck
              have hrow10 := row_next2 hrow2 hbw
              have hgEk := row_next2 hgEc hbck
              obtain ⟨pn, hpn⟩ : ∃ pn, (ball M cq fq).length = pn := ⟨_, rfl⟩
              obtain ⟨pm, hpm⟩ : ∃ pm, (ball La cq fq).length = pm := ⟨_, rfl⟩
              have HSk := vlt (HS9.out.next hbck)
              have HALb := vlt (fun w2 (h2 : Below wk.heap.size wk w2) => all_rd (HSk.out.next h2) 1 rfl cq fq hpn)
              have HALa := vlt (fun w2 (h2 : Below wk.heap.size wk w2) => all_rd (HSk.out.next h2) 0 rfl cq fq hpm)
              have hgl := HGL.out cq fq
              have hpms : pm ≤ 500 := by rw [← hpm]; exact ball_few HGA.out
              rw [hpn, hpm] at hgl
              clear hpn hpm hfq
              go_upto_region 23 with fail
              refine wp_region_held_drew (S := fun W' => Below wk.heap.size wk W') (by kernel_rfl) ((Below.refl _ _).drew) (fun hHeld => ?_)
              refine wpAnyH_take (i := 0) (oi := ⟨(some 70), _, _, _, _, _⟩) (v := .pointer (some ⟨b, 0, none⟩)) rfl (by kernel_rfl) (by kernel_rfl) (by kernel_rfl) (fun _ _ _ h => h) (Or.inl ⟨by rfl, ?yr23_0⟩) hHeld ?_
              case yr23_0 => (intro W0 hSw; go_simp; try with_reducible rfl)
              try simp only [pu]
              refine wpAnyH_take (i := 1) (oi := ⟨(some 71), _, _, _, _, _⟩) (v := .slice (some ⟨G8, 0, none⟩) nb c8) rfl (by kernel_rfl) (by kernel_rfl) (by kernel_rfl) (fun _ _ _ h => h) (Or.inl ⟨by rfl, ?yr23_1⟩) hHeld ?_
              case yr23_1 => (intro W0 hSw; go_simp; try with_reducible rfl)
              try simp only [pu]
              refine wpAnyH_take (i := 2) (oi := ⟨(some 72), _, _, _, _, _⟩) (v := .int .i64 (i : Int)) rfl (by kernel_rfl) (by kernel_rfl) (by kernel_rfl) (fun _ _ _ h => h) (Or.inl ⟨by rfl, ?yr23_2⟩) hHeld ?_
              case yr23_2 => (intro W0 hSw; go_simp; try with_reducible rfl)
              try simp only [pu]
              refine wpAnyH_take (i := 3) (oi := ⟨(some 73), _, _, _, _, _⟩) (v := .pointer (some ⟨G8, i, none⟩)) rfl (by kernel_rfl) (by kernel_rfl) (by kernel_rfl) (fun _ _ _ h => h) (Or.inl ⟨by rfl, ?yr23_3⟩) hHeld ?_
              case yr23_3 => (intro W0 hSw; go_simp; try with_reducible rfl)
              try simp only [pu]
              refine wpAnyH_take (i := 4) (oi := ⟨(some 74), _, _, _, _, _⟩) (v := .string cq) rfl (by kernel_rfl) (by kernel_rfl) (by kernel_rfl) (fun _ _ _ h => h) (Or.inl ⟨by rfl, ?yr23_4⟩) hHeld ?_
              case yr23_4 => (intro W0 hSw; have cc := text_at (row_next2 hrow8 hSw) HC.out; go_simp; try with_reducible rfl)
              try simp only [pu]
              refine wpAnyH_take (i := 5) (oi := ⟨(some 75), _, _, _, _, _⟩) (v := .slice (some ⟨G10, 0, none⟩) nf c10) rfl (by kernel_rfl) (by kernel_rfl) (by kernel_rfl) (fun _ _ _ h => h) (Or.inl ⟨by rfl, ?yr23_5⟩) hHeld ?_
              case yr23_5 => (intro W0 hSw; go_simp; try with_reducible rfl)
              try simp only [pu]
              refine wpAnyH_take (i := 6) (oi := ⟨(some 76), _, _, _, _, _⟩) (v := .int .i64 (k : Int)) rfl (by kernel_rfl) (by kernel_rfl) (by kernel_rfl) (fun _ _ _ h => h) (Or.inl ⟨by rfl, ?yr23_6⟩) hHeld ?_
              case yr23_6 => (intro W0 hSw; go_simp; try with_reducible rfl)
              try simp only [pu]
              refine wpAnyH_take (i := 7) (oi := ⟨(some 77), _, _, _, _, _⟩) (v := .pointer (some ⟨G10, k, none⟩)) rfl (by kernel_rfl) (by kernel_rfl) (by kernel_rfl) (fun _ _ _ h => h) (Or.inl ⟨by rfl, ?yr23_7⟩) hHeld ?_
              case yr23_7 => (intro W0 hSw; go_simp; try with_reducible rfl)
              try simp only [pu]
              refine wpAnyH_take (i := 8) (oi := ⟨(some 78), _, _, _, _, _⟩) (v := .string fq) rfl (by kernel_rfl) (by kernel_rfl) (by kernel_rfl) (fun _ _ _ h => h) (Or.inl ⟨by rfl, ?yr23_8⟩) hHeld ?_
              case yr23_8 => (intro W0 hSw; have cc := text_at (row_next2 hrow10 hSw) HF.out; go_simp; try with_reducible rfl)
              try simp only [pu]
              refine wpAnyH_take (i := 11) (oi := ⟨(some 81), _, _, _, _, _⟩) (v := .pointer (some ⟨a, 0, none⟩)) rfl (by kernel_rfl) (by kernel_rfl) (by kernel_rfl) (fun _ _ _ h => h) (Or.inl ⟨by rfl, ?yr23_11⟩) hHeld ?_
              case yr23_11 => (intro W0 hSw; go_simp; try with_reducible rfl)
              try simp only [pu]
              refine wpAnyH_take (i := 12) (oi := ⟨(some 82), _, _, _, _, _⟩) (v := .slice (some ⟨G8, 0, none⟩) nb c8) rfl (by kernel_rfl) (by kernel_rfl) (by kernel_rfl) (fun _ _ _ h => h) (Or.inl ⟨by rfl, ?yr23_12⟩) hHeld ?_
              case yr23_12 => (intro W0 hSw; go_simp; try with_reducible rfl)
              try simp only [pu]
              refine wpAnyH_take (i := 13) (oi := ⟨(some 83), _, _, _, _, _⟩) (v := .int .i64 (i : Int)) rfl (by kernel_rfl) (by kernel_rfl) (by kernel_rfl) (fun _ _ _ h => h) (Or.inl ⟨by rfl, ?yr23_13⟩) hHeld ?_
              case yr23_13 => (intro W0 hSw; go_simp; try with_reducible rfl)
              try simp only [pu]
              refine wpAnyH_take (i := 14) (oi := ⟨(some 84), _, _, _, _, _⟩) (v := .pointer (some ⟨G8, i, none⟩)) rfl (by kernel_rfl) (by kernel_rfl) (by kernel_rfl) (fun _ _ _ h => h) (Or.inl ⟨by rfl, ?yr23_14⟩) hHeld ?_
              case yr23_14 => (intro W0 hSw; go_simp; try with_reducible rfl)
              try simp only [pu]
              refine wpAnyH_take (i := 15) (oi := ⟨(some 85), _, _, _, _, _⟩) (v := .string cq) rfl (by kernel_rfl) (by kernel_rfl) (by kernel_rfl) (fun _ _ _ h => h) (Or.inl ⟨by rfl, ?yr23_15⟩) hHeld ?_
              case yr23_15 => (intro W0 hSw; have cc := text_at (row_next2 hrow8 hSw) HC.out; go_simp; try with_reducible rfl)
              try simp only [pu]
              refine wpAnyH_take (i := 16) (oi := ⟨(some 86), _, _, _, _, _⟩) (v := .slice (some ⟨G10, 0, none⟩) nf c10) rfl (by kernel_rfl) (by kernel_rfl) (by kernel_rfl) (fun _ _ _ h => h) (Or.inl ⟨by rfl, ?yr23_16⟩) hHeld ?_
              case yr23_16 => (intro W0 hSw; go_simp; try with_reducible rfl)
              try simp only [pu]
              refine wpAnyH_take (i := 17) (oi := ⟨(some 87), _, _, _, _, _⟩) (v := .int .i64 (k : Int)) rfl (by kernel_rfl) (by kernel_rfl) (by kernel_rfl) (fun _ _ _ h => h) (Or.inl ⟨by rfl, ?yr23_17⟩) hHeld ?_
              case yr23_17 => (intro W0 hSw; go_simp; try with_reducible rfl)
              try simp only [pu]
              refine wpAnyH_take (i := 18) (oi := ⟨(some 88), _, _, _, _, _⟩) (v := .pointer (some ⟨G10, k, none⟩)) rfl (by kernel_rfl) (by kernel_rfl) (by kernel_rfl) (fun _ _ _ h => h) (Or.inl ⟨by rfl, ?yr23_18⟩) hHeld ?_
              case yr23_18 => (intro W0 hSw; go_simp; try with_reducible rfl)
              try simp only [pu]
              refine wpAnyH_take (i := 19) (oi := ⟨(some 89), _, _, _, _, _⟩) (v := .string fq) rfl (by kernel_rfl) (by kernel_rfl) (by kernel_rfl) (fun _ _ _ h => h) (Or.inl ⟨by rfl, ?yr23_19⟩) hHeld ?_
              case yr23_19 => (intro W0 hSw; have cc := text_at (row_next2 hrow10 hSw) HF.out; go_simp; try with_reducible rfl)
              try simp only [pu]
              refine wpAnyH_ready (rs := [9]) (by kernel_rfl) (by simp) ?_
              refine AllReadyH.cons (i := 9) (o := ⟨(some 79), _, _, _, _, _⟩) rfl (fun K hK => ?_) AllReadyH.nil
              go_simp
              refine (HALb.out _ hHeld).mono ?_
              rintro e' r23W1 ⟨⟨A7, c7, rfl, _⟩, r23h1⟩
              refine hK.out _ _ (below_next hHeld hHeld.size r23h1) (fun hHeld => ?_)
              clear hK K r23h1
              try simp only [pu]
              refine wpAnyH_take (i := 10) (oi := ⟨(some 80), _, _, _, _, _⟩) (v := .int .i64 (pn : Int)) rfl (by kernel_rfl) (by kernel_rfl) (by kernel_rfl) (fun _ _ _ h => h) (Or.inl ⟨by rfl, ?yr23_10⟩) hHeld ?_
              case yr23_10 => (intro W0 hSw; go_simp; try with_reducible rfl)
              try simp only [pu]
              refine wpAnyH_ready (rs := [20]) (by kernel_rfl) (by simp) ?_
              refine AllReadyH.cons (i := 20) (o := ⟨(some 90), _, _, _, _, _⟩) rfl (fun K hK => ?_) AllReadyH.nil
              go_simp
              refine (HALa.out _ hHeld).mono ?_
              rintro e' r23W2 ⟨⟨A9, c9, rfl, _⟩, r23h2⟩
              refine hK.out _ _ (below_next hHeld hHeld.size r23h2) (fun hHeld => ?_)
              clear hK K r23h2
              try simp only [pu]
              refine wpAnyH_take (i := 21) (oi := ⟨(some 91), _, _, _, _, _⟩) (v := .int .i64 (pm : Int)) rfl (by kernel_rfl) (by kernel_rfl) (by kernel_rfl) (fun _ _ _ h => h) (Or.inl ⟨by rfl, ?yr23_21⟩) hHeld ?_
              case yr23_21 => (intro W0 hSw; go_simp; try with_reducible rfl)
              try simp only [pu]
              refine wpAnyH_take (i := 22) (oi := ⟨(some 12), _, _, _, _, _⟩) (v := .int .i64 (pn : Int)) rfl (by kernel_rfl) (by kernel_rfl) (by kernel_rfl) (fun _ _ _ h => h) (Or.inl ⟨by rfl, ?yr23_22⟩) hHeld ?_
              case yr23_22 => (intro W0 hSw; go_simp; try with_reducible rfl)
              try simp only [pu]
              refine wpAnyH_take (i := 23) (oi := ⟨(some 13), _, _, _, _, _⟩) (v := .int .i64 (pm : Int)) rfl (by kernel_rfl) (by kernel_rfl) (by kernel_rfl) (fun _ _ _ h => h) (Or.inl ⟨by rfl, ?yr23_23⟩) hHeld ?_
              case yr23_23 => (intro W0 hSw; go_simp; try with_reducible rfl)
              try simp only [pu]
              refine wpAnyH_done (by kernel_rfl) ?_ _
              have hgEz := row_next2 hgEk hHeld
              have hrow8z := row_next2 hrow8 hHeld
              have hrow10z := row_next2 hrow10 hHeld
              have hbz := below_next hbw hbw.size hHeld
              obtain ⟨wz, hwz⟩ : ∃ wz, wz = r23W2 := ⟨_, rfl⟩
              subst hwz
              clear hHeld HALb HALa
              have hadd : IntKind.i64.wrap ((pm : Int) + 1) = (pm : Int) + 1 := by rw [IntKind.wrap_i64]; omega
              by_cases hmore : pn ≤ pm
              · have hn1 : ¬ (pm : Int) < (pn : Int) := by omega
                have hn2 : ¬ (pm : Int) + 1 < (pn : Int) := by omega
                clear hgl
                go_upto_region 24 with fail
                refine wp_region_held_drew (S := fun W' => Below wz.heap.size wz W') (by kernel_rfl) ((Below.refl _ _).drew) (fun hHeld => ?_)
                refine wpAnyH_take (i := 0) (oi := ⟨(some 92), _, _, _, _, _⟩) (v := .int .i64 (pn : Int)) rfl (by kernel_rfl) (by kernel_rfl) (by kernel_rfl) (fun _ _ _ h => h) (Or.inl ⟨by rfl, ?yr24_0⟩) hHeld ?_
                case yr24_0 => (intro W0 hSw; go_simp; try with_reducible rfl)
                try simp only [pu]
                refine wpAnyH_take (i := 1) (oi := ⟨(some 93), _, _, _, _, _⟩) (v := .int .i64 (pm : Int)) rfl (by kernel_rfl) (by kernel_rfl) (by kernel_rfl) (fun _ _ _ h => h) (Or.inl ⟨by rfl, ?yr24_1⟩) hHeld ?_
                case yr24_1 => (intro W0 hSw; go_simp; try with_reducible rfl)
                try simp only [pu]
                refine wpAnyH_take (i := 2) (oi := ⟨(some 94), _, _, _, _, _⟩) (v := .int .i64 ((pm : Int) + 1)) rfl (by kernel_rfl) (by kernel_rfl) (by kernel_rfl) (fun _ _ _ h => h) (Or.inl ⟨by rfl, ?yr24_2⟩) hHeld ?_
                case yr24_2 => (intro W0 hSw; go_simp; try with_reducible rfl)
                try simp only [pu]
                refine wpAnyH_take (i := 3) (oi := ⟨(some 95), _, _, _, _, _⟩) (v := .bool false) rfl (by kernel_rfl) (by kernel_rfl) (by kernel_rfl) (fun _ _ _ h => h) (Or.inl ⟨by rfl, ?yr24_3⟩) hHeld ?_
                case yr24_3 => (intro W0 hSw; go_simp; first | done | (simp; omega))
                try simp only [pu]
                refine wpAnyH_take (i := 4) (oi := ⟨(some 96), _, _, _, _, _⟩) (v := .bool false) rfl (by kernel_rfl) (by kernel_rfl) (by kernel_rfl) (fun _ _ _ h => h) (Or.inl ⟨by rfl, ?yr24_4⟩) hHeld ?_
                case yr24_4 => (intro W0 hSw; go_simp; try with_reducible rfl)
                try simp only [pu]
                refine wpAnyH_take (i := 5) (oi := ⟨(some 97), _, _, _, _, _⟩) (v := .int .i64 (pn : Int)) rfl (by kernel_rfl) (by kernel_rfl) (by kernel_rfl) (fun _ _ _ h => h) (Or.inl ⟨by rfl, ?yr24_5⟩) hHeld ?_
                case yr24_5 => (intro W0 hSw; go_simp; try with_reducible rfl)
                try simp only [pu]
                refine wpAnyH_take (i := 6) (oi := ⟨(some 98), _, _, _, _, _⟩) (v := .int .i64 (pm : Int)) rfl (by kernel_rfl) (by kernel_rfl) (by kernel_rfl) (fun _ _ _ h => h) (Or.inl ⟨by rfl, ?yr24_6⟩) hHeld ?_
                case yr24_6 => (intro W0 hSw; go_simp; try with_reducible rfl)
                try simp only [pu]
                refine wpAnyH_take (i := 7) (oi := ⟨(some 99), _, _, _, _, _⟩) (v := .bool false) rfl (by kernel_rfl) (by kernel_rfl) (by kernel_rfl) (fun _ _ _ h => h) (Or.inl ⟨by rfl, ?yr24_7⟩) hHeld ?_
                case yr24_7 => (intro W0 hSw; go_simp; first | done | (simp; omega))
                try simp only [pu]
                refine wpAnyH_take (i := 8) (oi := ⟨(some 100), _, _, _, _, _⟩) (v := .bool false) rfl (by kernel_rfl) (by kernel_rfl) (by kernel_rfl) (fun _ _ _ h => h) (Or.inl ⟨by rfl, ?yr24_8⟩) hHeld ?_
                case yr24_8 => (intro W0 hSw; go_simp; try with_reducible rfl)
                try simp only [pu]
                refine wpAnyH_take (i := 9) (oi := ⟨(some 101), _, _, _, _, _⟩) (v := undef) rfl (by kernel_rfl) (by kernel_rfl) (by kernel_rfl) (fun _ _ _ h => h) (Or.inr ⟨by rfl, rfl⟩) hHeld ?_
                try simp only [pu]
                refine wpAnyH_take (i := 10) (oi := ⟨(some 102), _, _, _, _, _⟩) (v := undef) rfl (by kernel_rfl) (by kernel_rfl) (by kernel_rfl) (fun _ _ _ h => h) (Or.inr ⟨by rfl, rfl⟩) hHeld ?_
                try simp only [pu]
                refine wpAnyH_take (i := 11) (oi := ⟨(some 103), _, _, _, _, _⟩) (v := undef) rfl (by kernel_rfl) (by kernel_rfl) (by kernel_rfl) (fun _ _ _ h => h) (Or.inr ⟨by rfl, rfl⟩) hHeld ?_
                try simp only [pu]
                refine wpAnyH_take (i := 12) (oi := ⟨(some 104), _, _, _, _, _⟩) (v := undef) rfl (by kernel_rfl) (by kernel_rfl) (by kernel_rfl) (fun _ _ _ h => h) (Or.inr ⟨by rfl, rfl⟩) hHeld ?_
                try simp only [pu]
                refine wpAnyH_take (i := 13) (oi := ⟨(some 105), _, _, _, _, _⟩) (v := undef) rfl (by kernel_rfl) (by kernel_rfl) (by kernel_rfl) (fun _ _ _ h => h) (Or.inr ⟨by rfl, rfl⟩) hHeld ?_
                try simp only [pu]
                refine wpAnyH_take (i := 14) (oi := ⟨(some 106), _, _, _, _, _⟩) (v := undef) rfl (by kernel_rfl) (by kernel_rfl) (by kernel_rfl) (fun _ _ _ h => h) (Or.inr ⟨by rfl, rfl⟩) hHeld ?_
                try simp only [pu]
                refine wpAnyH_take (i := 15) (oi := ⟨(some 107), _, _, _, _, _⟩) (v := undef) rfl (by kernel_rfl) (by kernel_rfl) (by kernel_rfl) (fun _ _ _ h => h) (Or.inr ⟨by rfl, rfl⟩) hHeld ?_
                try simp only [pu]
                refine wpAnyH_take (i := 16) (oi := ⟨(some 108), _, _, _, _, _⟩) (v := undef) rfl (by kernel_rfl) (by kernel_rfl) (by kernel_rfl) (fun _ _ _ h => h) (Or.inr ⟨by rfl, rfl⟩) hHeld ?_
                try simp only [pu]
                refine wpAnyH_take (i := 17) (oi := ⟨(some 109), _, _, _, _, _⟩) (v := undef) rfl (by kernel_rfl) (by kernel_rfl) (by kernel_rfl) (fun _ _ _ h => h) (Or.inr ⟨by rfl, rfl⟩) hHeld ?_
                try simp only [pu]
                refine wpAnyH_take (i := 18) (oi := ⟨(some 110), _, _, _, _, _⟩) (v := undef) rfl (by kernel_rfl) (by kernel_rfl) (by kernel_rfl) (fun _ _ _ h => h) (Or.inr ⟨by rfl, rfl⟩) hHeld ?_
                try simp only [pu]
                refine wpAnyH_take (i := 19) (oi := ⟨(some 111), _, _, _, _, _⟩) (v := undef) rfl (by kernel_rfl) (by kernel_rfl) (by kernel_rfl) (fun _ _ _ h => h) (Or.inr ⟨by rfl, rfl⟩) hHeld ?_
                try simp only [pu]
                refine wpAnyH_take (i := 20) (oi := ⟨(some 112), _, _, _, _, _⟩) (v := undef) rfl (by kernel_rfl) (by kernel_rfl) (by kernel_rfl) (fun _ _ _ h => h) (Or.inr ⟨by rfl, rfl⟩) hHeld ?_
                try simp only [pu]
                refine wpAnyH_take (i := 21) (oi := ⟨(some 113), _, _, _, _, _⟩) (v := undef) rfl (by kernel_rfl) (by kernel_rfl) (by kernel_rfl) (fun _ _ _ h => h) (Or.inr ⟨by rfl, rfl⟩) hHeld ?_
                try simp only [pu]
                refine wpAnyH_take (i := 22) (oi := ⟨(some 114), _, _, _, _, _⟩) (v := undef) rfl (by kernel_rfl) (by kernel_rfl) (by kernel_rfl) (fun _ _ _ h => h) (Or.inr ⟨by rfl, rfl⟩) hHeld ?_
                try simp only [pu]
                refine wpAnyH_take (i := 23) (oi := ⟨(some 115), _, _, _, _, _⟩) (v := undef) rfl (by kernel_rfl) (by kernel_rfl) (by kernel_rfl) (fun _ _ _ h => h) (Or.inr ⟨by rfl, rfl⟩) hHeld ?_
                try simp only [pu]
                refine wpAnyH_take (i := 24) (oi := ⟨(some 116), _, _, _, _, _⟩) (v := undef) rfl (by kernel_rfl) (by kernel_rfl) (by kernel_rfl) (fun _ _ _ h => h) (Or.inr ⟨by rfl, rfl⟩) hHeld ?_
                try simp only [pu]
                refine wpAnyH_take (i := 25) (oi := ⟨(some 117), _, _, _, _, _⟩) (v := .bool false) rfl (by kernel_rfl) (by kernel_rfl) (by kernel_rfl) (fun _ _ _ h => h) (Or.inl ⟨by rfl, ?yr24_25⟩) hHeld ?_
                case yr24_25 => (intro W0 hSw; go_simp; try with_reducible rfl)
                try simp only [pu]
                refine wpAnyH_take (i := 26) (oi := ⟨(some 118), _, _, _, _, _⟩) (v := .bool false) rfl (by kernel_rfl) (by kernel_rfl) (by kernel_rfl) (fun _ _ _ h => h) (Or.inl ⟨by rfl, ?yr24_26⟩) hHeld ?_
                case yr24_26 => (intro W0 hSw; go_simp; try with_reducible rfl)
                try simp only [pu]
                refine wpAnyH_done (by kernel_rfl) ?_ _
                have hbz2 := hbz.trans ((Below.refl wf.heap.size wz).drew)
                go_wp2
                go_roundg (nf - (k + 1))
                case measure => omega
                case rel => exact ⟨k + 1, by go_num, by omega, by omega, hbz2⟩
              · have hcf : e.con = cq ∧ e.fld = fq := by
                  apply Decidable.byContradiction
                  intro hno
                  rw [if_neg hno] at hgl
                  omega
                rw [if_pos hcf] at hgl
                obtain ⟨hcq, hfq⟩ := hcf
                have hn1 : (pm : Int) < (pn : Int) := by omega
                have hn2 : ¬ (pm : Int) + 1 < (pn : Int) := by omega
                clear hgl
                go_upto_region 24 with fail
                refine wp_region_held_drew (S := fun W' => Below wz.heap.size wz W') (by kernel_rfl) ((Below.refl _ _).drew) (fun hHeld => ?_)
                refine wpAnyH_take (i := 0) (oi := ⟨(some 92), _, _, _, _, _⟩) (v := .int .i64 (pn : Int)) rfl (by kernel_rfl) (by kernel_rfl) (by kernel_rfl) (fun _ _ _ h => h) (Or.inl ⟨by rfl, ?yr24_0⟩) hHeld ?_
                case yr24_0 => (intro W0 hSw; go_simp; try with_reducible rfl)
                try simp only [pu]
                refine wpAnyH_take (i := 1) (oi := ⟨(some 93), _, _, _, _, _⟩) (v := .int .i64 (pm : Int)) rfl (by kernel_rfl) (by kernel_rfl) (by kernel_rfl) (fun _ _ _ h => h) (Or.inl ⟨by rfl, ?yr24_1⟩) hHeld ?_
                case yr24_1 => (intro W0 hSw; go_simp; try with_reducible rfl)
                try simp only [pu]
                refine wpAnyH_take (i := 2) (oi := ⟨(some 94), _, _, _, _, _⟩) (v := .int .i64 ((pm : Int) + 1)) rfl (by kernel_rfl) (by kernel_rfl) (by kernel_rfl) (fun _ _ _ h => h) (Or.inl ⟨by rfl, ?yr24_2⟩) hHeld ?_
                case yr24_2 => (intro W0 hSw; go_simp; try with_reducible rfl)
                try simp only [pu]
                refine wpAnyH_take (i := 3) (oi := ⟨(some 95), _, _, _, _, _⟩) (v := .bool false) rfl (by kernel_rfl) (by kernel_rfl) (by kernel_rfl) (fun _ _ _ h => h) (Or.inl ⟨by rfl, ?yr24_3⟩) hHeld ?_
                case yr24_3 => (intro W0 hSw; go_simp; first | done | (simp; omega))
                try simp only [pu]
                refine wpAnyH_take (i := 4) (oi := ⟨(some 96), _, _, _, _, _⟩) (v := .bool false) rfl (by kernel_rfl) (by kernel_rfl) (by kernel_rfl) (fun _ _ _ h => h) (Or.inl ⟨by rfl, ?yr24_4⟩) hHeld ?_
                case yr24_4 => (intro W0 hSw; go_simp; try with_reducible rfl)
                try simp only [pu]
                refine wpAnyH_take (i := 5) (oi := ⟨(some 97), _, _, _, _, _⟩) (v := .int .i64 (pn : Int)) rfl (by kernel_rfl) (by kernel_rfl) (by kernel_rfl) (fun _ _ _ h => h) (Or.inl ⟨by rfl, ?yr24_5⟩) hHeld ?_
                case yr24_5 => (intro W0 hSw; go_simp; try with_reducible rfl)
                try simp only [pu]
                refine wpAnyH_take (i := 6) (oi := ⟨(some 98), _, _, _, _, _⟩) (v := .int .i64 (pm : Int)) rfl (by kernel_rfl) (by kernel_rfl) (by kernel_rfl) (fun _ _ _ h => h) (Or.inl ⟨by rfl, ?yr24_6⟩) hHeld ?_
                case yr24_6 => (intro W0 hSw; go_simp; try with_reducible rfl)
                try simp only [pu]
                refine wpAnyH_take (i := 7) (oi := ⟨(some 99), _, _, _, _, _⟩) (v := .bool true) rfl (by kernel_rfl) (by kernel_rfl) (by kernel_rfl) (fun _ _ _ h => h) (Or.inl ⟨by rfl, ?yr24_7⟩) hHeld ?_
                case yr24_7 => (intro W0 hSw; go_simp; first | done | (simp; omega))
                try simp only [pu]
                refine wpAnyH_take (i := 8) (oi := ⟨(some 100), _, _, _, _, _⟩) (v := .bool true) rfl (by kernel_rfl) (by kernel_rfl) (by kernel_rfl) (fun _ _ _ h => h) (Or.inl ⟨by rfl, ?yr24_8⟩) hHeld ?_
                case yr24_8 => (intro W0 hSw; go_simp; try with_reducible rfl)
                try simp only [pu]
                refine wpAnyH_take (i := 9) (oi := ⟨(some 101), _, _, _, _, _⟩) (v := .pointer (some ⟨w.heap.size, 11, none⟩)) rfl (by kernel_rfl) (by kernel_rfl) (by kernel_rfl) (fun _ _ _ h => h) (Or.inl ⟨by rfl, ?yr24_9⟩) hHeld ?_
                case yr24_9 => (intro W0 hSw; go_simp; try with_reducible rfl)
                try simp only [pu]
                refine wpAnyH_take (i := 10) (oi := ⟨(some 102), _, _, _, _, _⟩) (v := .string e.con) rfl (by kernel_rfl) (by kernel_rfl) (by kernel_rfl) (fun _ _ _ h => h) (Or.inl ⟨by rfl, ?yr24_10⟩) hHeld ?_
                case yr24_10 => (intro W0 hSw; have cc := ed_con (row_next2 hgEz hSw) HE.out; go_simp; try with_reducible rfl)
                try simp only [pu]
                refine wpAnyH_take (i := 11) (oi := ⟨(some 103), _, _, _, _, _⟩) (v := .slice (some ⟨G8, 0, none⟩) nb c8) rfl (by kernel_rfl) (by kernel_rfl) (by kernel_rfl) (fun _ _ _ h => h) (Or.inl ⟨by rfl, ?yr24_11⟩) hHeld ?_
                case yr24_11 => (intro W0 hSw; go_simp; try with_reducible rfl)
                try simp only [pu]
                refine wpAnyH_take (i := 12) (oi := ⟨(some 104), _, _, _, _, _⟩) (v := .int .i64 (i : Int)) rfl (by kernel_rfl) (by kernel_rfl) (by kernel_rfl) (fun _ _ _ h => h) (Or.inl ⟨by rfl, ?yr24_12⟩) hHeld ?_
                case yr24_12 => (intro W0 hSw; go_simp; try with_reducible rfl)
                try simp only [pu]
                refine wpAnyH_take (i := 13) (oi := ⟨(some 105), _, _, _, _, _⟩) (v := .pointer (some ⟨G8, i, none⟩)) rfl (by kernel_rfl) (by kernel_rfl) (by kernel_rfl) (fun _ _ _ h => h) (Or.inl ⟨by rfl, ?yr24_13⟩) hHeld ?_
                case yr24_13 => (intro W0 hSw; go_simp; try with_reducible rfl)
                try simp only [pu]
                refine wpAnyH_take (i := 14) (oi := ⟨(some 106), _, _, _, _, _⟩) (v := .string cq) rfl (by kernel_rfl) (by kernel_rfl) (by kernel_rfl) (fun _ _ _ h => h) (Or.inl ⟨by rfl, ?yr24_14⟩) hHeld ?_
                case yr24_14 => (intro W0 hSw; have cc := text_at (row_next2 hrow8z hSw) HC.out; go_simp; try with_reducible rfl)
                try simp only [pu]
                refine wpAnyH_take (i := 15) (oi := ⟨(some 107), _, _, _, _, _⟩) (v := .bool false) rfl (by kernel_rfl) (by kernel_rfl) (by kernel_rfl) (fun _ _ _ h => h) (Or.inl ⟨by rfl, ?yr24_15⟩) hHeld ?_
                case yr24_15 => (intro W0 hSw; go_simp; first | done | (simp [hcq]; done))
                try simp only [pu]
                refine wpAnyH_take (i := 16) (oi := ⟨(some 108), _, _, _, _, _⟩) (v := .bool false) rfl (by kernel_rfl) (by kernel_rfl) (by kernel_rfl) (fun _ _ _ h => h) (Or.inl ⟨by rfl, ?yr24_16⟩) hHeld ?_
                case yr24_16 => (intro W0 hSw; go_simp; try with_reducible rfl)
                try simp only [pu]
                refine wpAnyH_take (i := 17) (oi := ⟨(some 109), _, _, _, _, _⟩) (v := .pointer (some ⟨w.heap.size, 12, none⟩)) rfl (by kernel_rfl) (by kernel_rfl) (by kernel_rfl) (fun _ _ _ h => h) (Or.inl ⟨by rfl, ?yr24_17⟩) hHeld ?_
                case yr24_17 => (intro W0 hSw; go_simp; try with_reducible rfl)
                try simp only [pu]
                refine wpAnyH_take (i := 18) (oi := ⟨(some 110), _, _, _, _, _⟩) (v := .string e.fld) rfl (by kernel_rfl) (by kernel_rfl) (by kernel_rfl) (fun _ _ _ h => h) (Or.inl ⟨by rfl, ?yr24_18⟩) hHeld ?_
                case yr24_18 => (intro W0 hSw; have cc := ed_fld (row_next2 hgEz hSw) HE.out; go_simp; try with_reducible rfl)
                try simp only [pu]
                refine wpAnyH_take (i := 19) (oi := ⟨(some 111), _, _, _, _, _⟩) (v := .slice (some ⟨G10, 0, none⟩) nf c10) rfl (by kernel_rfl) (by kernel_rfl) (by kernel_rfl) (fun _ _ _ h => h) (Or.inl ⟨by rfl, ?yr24_19⟩) hHeld ?_
                case yr24_19 => (intro W0 hSw; go_simp; try with_reducible rfl)
                try simp only [pu]
                refine wpAnyH_take (i := 20) (oi := ⟨(some 112), _, _, _, _, _⟩) (v := .int .i64 (k : Int)) rfl (by kernel_rfl) (by kernel_rfl) (by kernel_rfl) (fun _ _ _ h => h) (Or.inl ⟨by rfl, ?yr24_20⟩) hHeld ?_
                case yr24_20 => (intro W0 hSw; go_simp; try with_reducible rfl)
                try simp only [pu]
                refine wpAnyH_take (i := 21) (oi := ⟨(some 113), _, _, _, _, _⟩) (v := .pointer (some ⟨G10, k, none⟩)) rfl (by kernel_rfl) (by kernel_rfl) (by kernel_rfl) (fun _ _ _ h => h) (Or.inl ⟨by rfl, ?yr24_21⟩) hHeld ?_
                case yr24_21 => (intro W0 hSw; go_simp; try with_reducible rfl)
                try simp only [pu]
                refine wpAnyH_take (i := 22) (oi := ⟨(some 114), _, _, _, _, _⟩) (v := .string fq) rfl (by kernel_rfl) (by kernel_rfl) (by kernel_rfl) (fun _ _ _ h => h) (Or.inl ⟨by rfl, ?yr24_22⟩) hHeld ?_
                case yr24_22 => (intro W0 hSw; have cc := text_at (row_next2 hrow10z hSw) HF.out; go_simp; try with_reducible rfl)
                try simp only [pu]
                refine wpAnyH_take (i := 23) (oi := ⟨(some 115), _, _, _, _, _⟩) (v := .bool false) rfl (by kernel_rfl) (by kernel_rfl) (by kernel_rfl) (fun _ _ _ h => h) (Or.inl ⟨by rfl, ?yr24_23⟩) hHeld ?_
                case yr24_23 => (intro W0 hSw; go_simp; first | done | (simp [hfq]; done))
                try simp only [pu]
                refine wpAnyH_take (i := 24) (oi := ⟨(some 116), _, _, _, _, _⟩) (v := .bool false) rfl (by kernel_rfl) (by kernel_rfl) (by kernel_rfl) (fun _ _ _ h => h) (Or.inl ⟨by rfl, ?yr24_24⟩) hHeld ?_
                case yr24_24 => (intro W0 hSw; go_simp; try with_reducible rfl)
                try simp only [pu]
                refine wpAnyH_take (i := 25) (oi := ⟨(some 117), _, _, _, _, _⟩) (v := .bool false) rfl (by kernel_rfl) (by kernel_rfl) (by kernel_rfl) (fun _ _ _ h => h) (Or.inl ⟨by rfl, ?yr24_25⟩) hHeld ?_
                case yr24_25 => (intro W0 hSw; go_simp; try with_reducible rfl)
                try simp only [pu]
                refine wpAnyH_take (i := 26) (oi := ⟨(some 118), _, _, _, _, _⟩) (v := .bool false) rfl (by kernel_rfl) (by kernel_rfl) (by kernel_rfl) (fun _ _ _ h => h) (Or.inl ⟨by rfl, ?yr24_26⟩) hHeld ?_
                case yr24_26 => (intro W0 hSw; go_simp; try with_reducible rfl)
                try simp only [pu]
                refine wpAnyH_done (by kernel_rfl) ?_ _
                have hbz2 := hbz.trans ((Below.refl wf.heap.size wz).drew)
                go_wp2
                go_roundg (nf - (k + 1))
                case measure => omega
                case rel => exact ⟨k + 1, by go_num, by omega, by omega, hbz2⟩
            · have hltz2 : ¬ (k : Int) < (nf : Int) := by omega
              have hbz := below_next hbkf hbkf.size hbw
              go_wp2
              go_roundg (nb - (i + 1))
              case measure => omega
              case rel => exact ⟨i + 1, by go_num, by omega, by omega, hbz⟩
        · have hltz : ¬ (i : Int) < (nb : Int) := by omega
          obtain ⟨va, hva⟩ : ∃ va, bvec La = va := ⟨_, rfl⟩
          obtain ⟨vb, hvb⟩ : ∃ vb, bvec M = vb := ⟨_, rfl⟩
          have V1 := vlt (vec_rd (HS9.out.next hbk) 0 rfl)
          have HVB := vlt hvb
          have HLE := HGV
          rw [hva, hvb] at HLE
          rw [hva] at V1 hlva
          rw [hvb] at hlvb
          clear hva hvb
          go_wp2_with (first
              | (go_at_call 17; refine V1.out.mono ?_; rintro e' w11 ⟨rfl, hb11⟩; have hbk1 := below_next hbk hbk.size hb11; have D2 := vec_rd (HS9.out.next hbk1) 1 rfl; rw [HVB.out] at D2; have V2 := vlt D2; clear V1 D2)
              | (go_at_call 17; refine V2.out.mono ?_; rintro e' w12 ⟨rfl, hb12⟩; have hbk2 := below_next hbk1 hbk1.size hb12; have D3 := vle_any w12 va vb hlva hlvb; rw [HLE.out] at D3; have V3 := vlt D3; clear V2 D3)
              | (go_at_call 26; refine V3.out.mono ?_; rintro e' w13 ⟨rfl, hb13⟩; have hbk3 := below_next hbk2 hbk2.size hb13; have V4 := vlt (edits_rd (HS9.out.next hbk3) 1 rfl); clear V3)
              | (go_at_call 22; refine V4.out.mono ?_; rintro e' w14 ⟨A14, c14, rfl, _, hb14⟩; have hbk4 := below_next hbk3 hbk3.size hb14; have V5 := vlt (edits_rd (HS9.out.next hbk4) 0 rfl); clear V4)
              | (go_at_call 22; refine V5.out.mono ?_; rintro e' w15 ⟨A15, c15, rfl, _, hb15⟩; have hbk5 := below_next hbk4 hbk4.size hb15; clear V5))
          go_ret
          exact ⟨by first | (simp; done) | (simp; omega), (hbW.trans (hbc9.mono hbW.size)).trans (hbk5.mono (Nat.le_trans hbW.size hbc9.size))⟩
end Go.Proofs.Ytncjobhpiohkkaa
