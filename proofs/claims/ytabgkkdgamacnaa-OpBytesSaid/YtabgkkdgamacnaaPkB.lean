/-
  Words and contracts that other texts share, several in one text. No statement of the seat is proved here. Conditions: as each contract says.
  Contract of op's name: may a text be that of a contact or of a field? Conditions: a text of at most 2^47 bytes.
  Contract of vec's Good. Conditions: arrays of eight numbers.
  Contract of vec's Has. Conditions: arrays of eight numbers.
  Contracts of op's next, says and Good. Conditions: a vector of eight numbers.
  Contract of wire.front: the number that bytes begin with, and how many bytes it takes. Conditions: the slice is as it came in.
  Lists of lists of bytes that came in: words that other texts share. No statement is proved here. Conditions: none.
  An empty literal of bytes: a word that other texts share. No statement is proved here. Conditions: none.
  append(own, src...) where src came in, nil or not: a law for the walks of this seat. Conditions: the sum of the lengths is at most 2^47.
  Contracts of slices.Grow, slices.Concat and slices.Clone over bytes. Conditions: fewer than 2^46 bytes in all, fewer than 2^32 parts.
  The reader in memory, and the contracts of its inner calls spoil and take. Conditions: the reader lies in a block of its own, apart from the bytes that it has.
  Bytes and rows in a later world. No statement is proved here. Conditions: none.
  Contracts of wire.Read and of a reader's Num, Bytes, Text, Bad, End. Conditions: the reader lies in a block of its own, apart from the bytes that it has; fewer than 2^46 bytes.
  One law on regions that draw their order, for the texts of this seat: the condition that is held may be made stronger on the way. Conditions: none.
  Laws on regions that draw their order, for the texts of this seat: a condition on the world that is held only till operation c has come up (a load that c waits for may be taken first, though the region writes its cell behind c). Conditions: none.
  Contracts of a reader's counted and Text. Conditions: the reader lies in a block of its own, apart from the bytes that it has; fewer than 2^46 bytes.
  Contract of wire.groups: a number's bytes. Conditions: the number is one of 64 bits.
  Contract of wire.Num: what was there, and the number's bytes behind it. Conditions: fewer than 2^45 bytes.
  Contract of vec's Put. Conditions: an array of eight numbers of 64 bits; fewer than 2^44 bytes ahead.
  Numbers read one behind the other, as lists of bytes, by wire's reader and by the document's own. No statement is proved here. Conditions: none.
  Edits read out of bytes, by wire's reader and by the document's own. No statement is proved here. Conditions: none.
  A reader's Num and Text in one row each: what is read, what is left, whether it is bad. Conditions: the reader lies in a block of its own, apart from the bytes that it has.
  Contract of vec's Get. Conditions: the reader lies in a block of its own, apart from the bytes that it has.
  A function's results, the first in a row of its own, the second in a slot. No statement is proved here. Conditions: none.
  Two arrays of the same bytes are equal: a law for the walks of this seat. Conditions: none.
  Contract of op's Get. Conditions: the slice is as the row reads it; fewer than 2^46 bytes.
-/
import Derived.Test.YtabgkkdgamacnaaPkA
import Derived.Laws.ShiftsVar
import Derived.LoopTactic
import Derived.Lib.AppendZeros
import Derived.Lib.SliceRun
import Derived.Deep.RegionHeld3
import Derived.StillTail
import Derived.Laws.ResultCell
import Derived.Laws.StructEq
namespace Go.Proofs.Ytabgkkdgamacnaa
open Go.RowKit

set_option maxRecDepth 100000 in
theorem oname_any (w : World) (s : ByteArray) : Calls Try.prog 31 #[.string s] w fun e w' => e = .returned (.bool (nm s)) ∧ w = w' := by
  obtain ⟨o, ho⟩ : ∃ o, o = nm s := ⟨_, rfl⟩
  have HO := vlt ho
  rw [← ho]
  clear ho
  go_enter Try.func31, Try.ntmps31
  by_cases h1 : 1 ≤ s.size
  · by_cases h2 : s.size ≤ 40
    · have h1' : ¬ (s.size : Int) < 1 := by omega
      have h2' : ¬ (40 : Int) < (s.size : Int) := by omega
      go_wp2
      go_loopw [14, 3] (fun i _ wr => ∃ k : Nat, i = .int .i64 (k : Int) ∧ k ≤ s.size ∧ Vlt ((s.data.toList.take k).all nmB = true) ∧ wr = w) (fun i _ _ => s.size - (intOf i).toNat)
      case atStart => exact ⟨0, rfl, Nat.zero_le _, vlt rfl, rfl⟩
      case round =>
        obtain ⟨k, rfl, hk, h0, rfl⟩ := hrel
        by_cases hlt : k < s.size
        · have hb : s.data.toList[k]? = some s[k] := by
            show _ = some s.data[k]
            rw [List.getElem?_eq_getElem (by simpa using hlt)]; simp
          by_cases h3 : s[k].toNat < 33
          · have HN := vlt (show o = false by
              have h2 := nm_no hb (by simp [nmB]; omega)
              rw [HO.out]; unfold nm; rw [h2]; simp)
            have h3' : (s[k].toNat : Int) < 33 := by omega
            clear hb h0
            go_wp2
            go_ret
            exact ⟨by rw [HN.out]; rfl, rfl⟩
          · have h3' : ¬ (s[k].toNat : Int) < 33 := by omega
            by_cases h4 : 126 < s[k].toNat
            · have HN := vlt (show o = false by
                have h2 := nm_no hb (by simp [nmB]; omega)
                rw [HO.out]; unfold nm; rw [h2]; simp)
              have h4' : (126 : Int) < (s[k].toNat : Int) := by omega
              clear hb h0
              go_wp2
              go_ret
              exact ⟨by rw [HN.out]; rfl, rfl⟩
            · have h4' : ¬ (126 : Int) < (s[k].toNat : Int) := by omega
              have HT := vlt (nm_take h0.out hb (by simp [nmB]; omega))
              clear hb h0
              go_wp2
              go_roundw
              case rel => exact ⟨k + 1, by go_num, by omega, HT, trivial⟩
              case measure => simp [intOf]; omega
        · obtain rfl : k = s.size := by omega
          have HM := vlt (show o = true by
            have h3 := h0.out
            rw [List.take_of_length_le (by simp)] at h3
            rw [HO.out]; unfold nm; rw [h3]; simp [h1, h2])
          clear h0 hlt
          go_wp2
          go_ret
          exact ⟨by rw [HM.out]; rfl, rfl⟩
    · have h1' : ¬ (s.size : Int) < 1 := by omega
      have h2' : (40 : Int) < (s.size : Int) := by omega
      have HN := vlt (show o = false by rw [HO.out]; simp [nm]; omega)
      clear h1 h2
      go_wp2
      go_ret
      exact ⟨by rw [HN.out]; rfl, rfl⟩
  · have h1' : (s.size : Int) < 1 := by omega
    have HN := vlt (show o = false by rw [HO.out]; simp [nm]; omega)
    clear h1
    go_wp2
    go_ret
    exact ⟨by rw [HN.out]; rfl, rfl⟩
end Go.Proofs.Ytabgkkdgamacnaa
namespace Go.Proofs.Ytabgkkdgamacnaa
open Go.RowKit

theorem good_no {a : List Int} {m : Int} (h : m ∈ a) (h0 : ¬ 0 ≤ m) : vgood a = false := by
  rw [vgood, decide_eq_false_iff_not]
  exact fun hh => h0 (hh m h).1
theorem good_of {a : List Int} {m x : Int} (h1 : m ∈ a ∧ ∀ y ∈ a, m ≤ y) (h2 : x ∈ a ∧ ∀ y ∈ a, y ≤ x) (h0 : 0 ≤ m) : decide (x ≤ 1099511627776) = vgood a := by
  rw [vgood]
  apply decide_eq_decide.2
  constructor
  · intro h y hy
    have := h1.2 y hy
    have := h2.2 y hy
    omega
  · intro h
    exact (h x h2.1).2
set_option maxRecDepth 100000 in
theorem vgood_any (w : World) (a : List Int) (ha : a.length = 8) :
    Calls Try.prog 52 #[.agg (i64v a).toArray] w fun e w' => e = .returned (.bool (vgood a)) ∧ Below w.heap.size w w' := by
  obtain ⟨W, hW, hgW, hbW, hsW⟩ := one_new w (i64v a).toArray 26
  have HW := Lib.hid hW
  have hmn := smin_any W w.heap.size _ a hgW ha
  have hmx := smax_any W w.heap.size _ a hgW ha
  have hcut := cut_all (P := Try.prog) Try.underlying26 Try.sizeByte w.heap.size 0 (by decide)
  obtain ⟨o, ho⟩ : ∃ o, o = vgood a := ⟨_, rfl⟩
  have HO := vlt ho
  rw [← ho]
  clear hW ha ho
  go_enter Try.func52, Try.ntmps52
  go_upto_region 1 with fail
  rw [HW.out]
  go_wp2_with fail
  refine hmn.mono ?_
  rintro e w1 ⟨m, rfl, HM, rfl⟩
  clear hmn
  by_cases h0 : 0 ≤ m
  · go_wp2_with fail
    refine hmx.mono ?_
    rintro e w2 ⟨x, rfl, HX, rfl⟩
    have HG := Lib.hid ((good_of HM.out HX.out h0).trans HO.out.symm)
    clear hmx
    go_wp2
    go_ret
    exact ⟨ret_bool HG.out, hbW⟩
  · have HG := Lib.hid (HO.out.trans (good_no HM.out.1 h0))
    clear hmx
    go_wp2
    go_ret
    exact ⟨ret_bool HG.out.symm, hbW⟩
def z8 : List Int := List.replicate 8 0
theorem zero_vec (w : World) : (zeroValue 26).run Try.prog w = .ok (.agg (i64v z8).toArray) w := by kernel_rfl
theorem int8_size {l : List Int} (h : l.length = 8) : (i64v l).toArray.size = 8 := by simp [i64v_len, h]
end Go.Proofs.Ytabgkkdgamacnaa
namespace Go.Proofs.Ytabgkkdgamacnaa
open Go.RowKit

theorem Below.toN {B : Nat} {w w' : World} (h : Below B w w') (k : Nat) : Below B w (w'.drewN k) := ⟨h.os, h.tape, h.output, h.size, h.block⟩
/-- One dot of api: its device, its number. -/
theorem vhas_dev {a : List Int} {d n : Int} (h : ¬ (0 ≤ d ∧ d < 8)) : vhas a d n = false := by
  rw [vhas, decide_eq_false_iff_not]; omega
theorem vhas_num {a : List Int} {d n : Int} (h : ¬ 1 ≤ n) : vhas a d n = false := by
  rw [vhas, decide_eq_false_iff_not]; omega
theorem vhas_in {a : List Int} {k : Nat} {n : Int} (hk : k < 8) (h : 1 ≤ n) : vhas a (k : Int) n = decide (n ≤ iat a k) := by
  rw [vhas]
  apply decide_eq_decide.2
  rw [show ((k : Int)).toNat = k by omega]
  omega
set_option maxRecDepth 100000 in
theorem vhas_any (w : World) (a : List Int) (ha : a.length = 8) (d n : Int) :
    Calls Try.prog 21 #[.agg (i64v a).toArray, .agg #[.int .i64 d, .int .i64 n]] w fun e w' => e = .returned (.bool (vhas a d n)) ∧ Below w.heap.size w w' := by
  obtain ⟨W, hW, hgA, hgD, hbW, hsW⟩ := pair_new w (i64v a).toArray #[.int .i64 d, .int .i64 n] 26 24
  have HW := Lib.hid hW
  have HA := Lib.hid ha
  have c0 : W.cell? ⟨w.heap.size + 1, 0, none⟩ = some (.int .i64 d) := by rw [cell_of_row _ _ _ _ _ _ hgD.out]; rfl
  have c1 : W.cell? ⟨w.heap.size + 1, 1, none⟩ = some (.int .i64 n) := by rw [cell_of_row _ _ _ _ _ _ hgD.out]; rfl
  obtain ⟨o, ho⟩ : ∃ o, o = vhas a d n := ⟨_, rfl⟩
  have HO := vlt ho
  rw [← ho]
  clear hW ha ho hgD hsW
  go_enter Try.func21, Try.ntmps21
  go_upto_region 1 with fail
  rw [HW.out]
  clear HW
  by_cases h0 : 0 ≤ d ∧ d < 8
  · by_cases h1 : 1 ≤ n
    · obtain ⟨k, rfl⟩ : ∃ k : Nat, d = (k : Int) := ⟨d.toNat, by omega⟩
      obtain ⟨_, h2⟩ := h0
      have hk : k < 8 := by omega
      have HV := vlt (HO.out.trans (vhas_in hk h1))
      have ck := int_at hgA.out k (by rw [HA.out]; exact hk)
      generalize iat a k = y at HV ck
      clear HO hgA
      go_quiet (fail)
      go_wp2
      go_ret
      exact ⟨ret_bool HV.out.symm, Below.toN hbW _⟩
    · have HV := vlt (HO.out.trans (vhas_num h1))
      obtain ⟨h3, h4⟩ := h0
      clear HO hgA
      go_quiet (fail)
      go_wp2
      go_ret
      exact ⟨ret_bool HV.out.symm, Below.toN hbW _⟩
  · have HV := vlt (HO.out.trans (vhas_dev h0))
    clear HO hgA
    by_cases h1 : d < 0
    · have h2 : ¬ 0 ≤ d := by omega
      clear h0 h1
      go_quiet (fail)
      go_wp2
      go_ret
      exact ⟨ret_bool HV.out.symm, Below.toN hbW _⟩
    · have h2 : 0 ≤ d := by omega
      have h3 : ¬ d < 8 := by omega
      clear h0 h1
      go_quiet (fail)
      go_wp2
      go_ret
      exact ⟨ret_bool HV.out.symm, Below.toN hbW _⟩
end Go.Proofs.Ytabgkkdgamacnaa
namespace Go.Proofs.Ytabgkkdgamacnaa
open Go.RowKit

theorem nxt_no {d n : Int} {s : List Int} (h : ¬ (0 ≤ d ∧ d < 8 ∧ 1 ≤ n ∧ n ≤ 1099511627776)) : nxt d n s = false := by
  rw [nxt, decide_eq_false h]; rfl
theorem nxt_bad {d n : Int} {s : List Int} (h : vgood s = false) : nxt d n s = false := by
  rw [nxt, h]; simp
theorem nxt_in {k : Nat} {n : Int} {s : List Int} (hk : k < 8) (h1 : 1 ≤ n) (h2 : n ≤ 1099511627776) (h : vgood s = true) : nxt (k : Int) n s = decide (iat s k = n - 1) := by
  rw [nxt, decide_eq_true ⟨by omega, by omega, h1, h2⟩, h]; simp
set_option maxRecDepth 100000 in
theorem onext_any (w : World) (d n : Int) (a : List Int) (ha : a.length = 8) :
    Calls Try.prog 30 #[.agg #[.int .i64 d, .int .i64 n], .agg (i64v a).toArray] w fun e w' => e = .returned (.bool (nxt d n a)) ∧ Below w.heap.size w w' := by
  obtain ⟨W, hW, hgD, hgA, hbW, hsW⟩ := pair_new w #[.int .i64 d, .int .i64 n] (i64v a).toArray 24 26
  have HW := Lib.hid hW
  have HA := Lib.hid ha
  have hs1 := row_size hgA
  have c0 : W.cell? ⟨w.heap.size, 0, none⟩ = some (.int .i64 d) := by rw [cell_of_row _ _ _ _ _ _ hgD.out]; rfl
  have c1 : W.cell? ⟨w.heap.size, 1, none⟩ = some (.int .i64 n) := by rw [cell_of_row _ _ _ _ _ _ hgD.out]; rfl
  have hs0 := row_size hgD
  have hgd := fun w => vgood_any w a ha
  obtain ⟨gd, hgd2⟩ : ∃ o, o = vgood a := ⟨_, rfl⟩
  obtain ⟨o, ho⟩ : ∃ o, o = nxt d n a := ⟨_, rfl⟩
  have HO := vlt ho
  have HG := vlt hgd2
  simp only [← hgd2] at hgd
  rw [← ho]
  clear hW ha ho hgd2 hsW
  go_enter Try.func30, Try.ntmps30
  go_upto_region 1 with fail
  rw [HW.out]
  clear HW
  by_cases hin : 0 ≤ d ∧ d < 8 ∧ 1 ≤ n ∧ n ≤ 1099511627776
  · obtain ⟨k, rfl⟩ : ∃ k : Nat, d = (k : Int) := ⟨d.toNat, by omega⟩
    obtain ⟨_, h2, h3, h4⟩ := hin
    have h1' : ¬ (k : Int) < 0 := by omega
    have h2' : ¬ (8 : Int) ≤ (k : Int) := by omega
    have h3' : ¬ n < 1 := by omega
    have h4' : ¬ (1099511627776 : Int) < n := by omega
    have hk : k < 8 := by omega
    have ck := int_at hgA.out k (by rw [HA.out]; exact hk)
    have hw : IntKind.i64.wrap (n - 1) = n - 1 := by rw [IntKind.wrap_i64]; omega
    go_upto_region 3 with fail
    clear h1' h2' h3' h4'
    cases gd
    · have HV := vlt (HO.out.trans (nxt_bad HG.out.symm))
      refine wp_region_held_drew (S := fun W' => Below W.heap.size W W') (by kernel_rfl) ((Below.refl _ _).drew) (fun hHeld => ?_)
      refine wpAnyH_take (i := 0) (oi := ⟨(some 23), _, _, _, _, _⟩) (v := .agg (i64v a).toArray) rfl (by kernel_rfl) (by kernel_rfl) (by kernel_rfl) (fun _ _ _ h => h) (yieldsIf_load_mid (by rfl) _ _ rfl (w.heap.size + 1) 0 rfl (i64v a) _ (fun W' hW' => range_row ((hW'.block _ hs1).trans hgA.out)) (Try.underlying26) rfl (by rw [i64v_len, HA.out]; kernel_rfl)) hHeld ?_
      try simp only [pu]
      refine wpAnyH_ready (rs := [1]) (by kernel_rfl) (by simp) ?_
      refine AllReadyH.cons (i := 1) (o := ⟨(some 24), _, _, _, _, _⟩) rfl (fun K hK => ?_) AllReadyH.nil
      go_simp
      refine (hgd _).mono ?_
      rintro e r3W1 ⟨rfl, r3h1⟩
      refine hK.out _ _ (below_next hHeld hHeld.size r3h1) (fun hHeld => ?_)
      clear hK K r3h1
      try simp only [pu]
      refine wpAnyH_take (i := 2) (oi := ⟨(some 25), _, _, _, _, _⟩) (v := .bool false) rfl (by kernel_rfl) (by kernel_rfl) (by kernel_rfl) (fun _ _ _ h => h) (Or.inl ⟨by rfl, ?yr3_2⟩) hHeld ?_
      case yr3_2 => (intro W0 hSw; go_simp; try with_reducible rfl)
      try simp only [pu]
      refine wpAnyH_take (i := 3) (oi := ⟨(some 26), _, _, _, _, _⟩) (v := undef) rfl (by kernel_rfl) (by kernel_rfl) (by kernel_rfl) (fun _ _ _ h => h) (Or.inr ⟨by rfl, rfl⟩) hHeld ?_
      try simp only [pu]
      refine wpAnyH_take (i := 4) (oi := ⟨(some 27), _, _, _, _, _⟩) (v := undef) rfl (by kernel_rfl) (by kernel_rfl) (by kernel_rfl) (fun _ _ _ h => h) (Or.inr ⟨by rfl, rfl⟩) hHeld ?_
      try simp only [pu]
      refine wpAnyH_take (i := 5) (oi := ⟨(some 28), _, _, _, _, _⟩) (v := undef) rfl (by kernel_rfl) (by kernel_rfl) (by kernel_rfl) (fun _ _ _ h => h) (Or.inr ⟨by rfl, rfl⟩) hHeld ?_
      try simp only [pu]
      refine wpAnyH_take (i := 6) (oi := ⟨(some 29), _, _, _, _, _⟩) (v := undef) rfl (by kernel_rfl) (by kernel_rfl) (by kernel_rfl) (fun _ _ _ h => h) (Or.inr ⟨by rfl, rfl⟩) hHeld ?_
      try simp only [pu]
      refine wpAnyH_take (i := 7) (oi := ⟨(some 30), _, _, _, _, _⟩) (v := undef) rfl (by kernel_rfl) (by kernel_rfl) (by kernel_rfl) (fun _ _ _ h => h) (Or.inr ⟨by rfl, rfl⟩) hHeld ?_
      try simp only [pu]
      refine wpAnyH_take (i := 8) (oi := ⟨(some 31), _, _, _, _, _⟩) (v := undef) rfl (by kernel_rfl) (by kernel_rfl) (by kernel_rfl) (fun _ _ _ h => h) (Or.inr ⟨by rfl, rfl⟩) hHeld ?_
      try simp only [pu]
      refine wpAnyH_take (i := 9) (oi := ⟨(some 32), _, _, _, _, _⟩) (v := undef) rfl (by kernel_rfl) (by kernel_rfl) (by kernel_rfl) (fun _ _ _ h => h) (Or.inr ⟨by rfl, rfl⟩) hHeld ?_
      try simp only [pu]
      refine wpAnyH_take (i := 10) (oi := ⟨(some 33), _, _, _, _, _⟩) (v := undef) rfl (by kernel_rfl) (by kernel_rfl) (by kernel_rfl) (fun _ _ _ h => h) (Or.inr ⟨by rfl, rfl⟩) hHeld ?_
      try simp only [pu]
      refine wpAnyH_take (i := 11) (oi := ⟨(some 34), _, _, _, _, _⟩) (v := .bool false) rfl (by kernel_rfl) (by kernel_rfl) (by kernel_rfl) (fun _ _ _ h => h) (Or.inl ⟨by rfl, ?yr3_11⟩) hHeld ?_
      case yr3_11 => (intro W0 hSw; go_simp; try with_reducible rfl)
      try simp only [pu]
      refine wpAnyH_take (i := 12) (oi := ⟨(some 4), _, _, _, _, _⟩) (v := .bool false) rfl (by kernel_rfl) (by kernel_rfl) (by kernel_rfl) (fun _ _ _ h => h) (Or.inl ⟨by rfl, ?yr3_12⟩) hHeld ?_
      case yr3_12 => (intro W0 hSw; go_simp; try with_reducible rfl)
      try simp only [pu]
      refine wpAnyH_done (by kernel_rfl) ?_ _
      go_wp2
      go_ret
      exact ⟨ret_bool HV.out.symm, below_next hbW hbW.size hHeld⟩
    · have HV := vlt (HO.out.trans (nxt_in hk h3 h4 HG.out.symm))
      generalize iat a k = y at HV ck
      refine wp_region_held_drew (S := fun W' => Below W.heap.size W W') (by kernel_rfl) ((Below.refl _ _).drew) (fun hHeld => ?_)
      refine wpAnyH_take (i := 0) (oi := ⟨(some 23), _, _, _, _, _⟩) (v := .agg (i64v a).toArray) rfl (by kernel_rfl) (by kernel_rfl) (by kernel_rfl) (fun _ _ _ h => h) (yieldsIf_load_mid (by rfl) _ _ rfl (w.heap.size + 1) 0 rfl (i64v a) _ (fun W' hW' => range_row ((hW'.block _ hs1).trans hgA.out)) (Try.underlying26) rfl (by rw [i64v_len, HA.out]; kernel_rfl)) hHeld ?_
      try simp only [pu]
      refine wpAnyH_ready (rs := [1]) (by kernel_rfl) (by simp) ?_
      refine AllReadyH.cons (i := 1) (o := ⟨(some 24), _, _, _, _, _⟩) rfl (fun K hK => ?_) AllReadyH.nil
      go_simp
      refine (hgd _).mono ?_
      rintro e r3W1 ⟨rfl, r3h1⟩
      refine hK.out _ _ (below_next hHeld hHeld.size r3h1) (fun hHeld => ?_)
      clear hK K r3h1
      try simp only [pu]
      refine wpAnyH_take (i := 2) (oi := ⟨(some 25), _, _, _, _, _⟩) (v := .bool true) rfl (by kernel_rfl) (by kernel_rfl) (by kernel_rfl) (fun _ _ _ h => h) (Or.inl ⟨by rfl, ?yr3_2⟩) hHeld ?_
      case yr3_2 => (intro W0 hSw; go_simp; try with_reducible rfl)
      try simp only [pu]
      refine wpAnyH_take (i := 3) (oi := ⟨(some 26), _, _, _, _, _⟩) (v := .pointer (some ⟨w.heap.size, 0, none⟩)) rfl (by kernel_rfl) (by kernel_rfl) (by kernel_rfl) (fun _ _ _ h => h) (Or.inl ⟨by rfl, ?yr3_3⟩) hHeld ?_
      case yr3_3 => (intro W0 hSw; go_simp; try with_reducible rfl)
      try simp only [pu]
      refine wpAnyH_take (i := 4) (oi := ⟨(some 27), _, _, _, _, _⟩) (v := .int .i64 (k : Int)) rfl (by kernel_rfl) (by kernel_rfl) (by kernel_rfl) (fun _ _ _ h => h) (Or.inl ⟨by rfl, ?yr3_4⟩) hHeld ?_
      case yr3_4 => (intro W0 hSw; have cc := (hSw.cell (p := ⟨w.heap.size, 0, none⟩) hs0).trans c0; go_simp; try with_reducible rfl)
      try simp only [pu]
      refine wpAnyH_take (i := 5) (oi := ⟨(some 28), _, _, _, _, _⟩) (v := .pointer (some ⟨w.heap.size + 1, k, none⟩)) rfl (by kernel_rfl) (by kernel_rfl) (by kernel_rfl) (fun _ _ _ h => h) (Or.inl ⟨by rfl, ?yr3_5⟩) hHeld ?_
      case yr3_5 => (intro W0 hSw; go_simp; try (intro hc; omega))
      try simp only [pu]
      refine wpAnyH_take (i := 6) (oi := ⟨(some 29), _, _, _, _, _⟩) (v := .int .i64 y) rfl (by kernel_rfl) (by kernel_rfl) (by kernel_rfl) (fun _ _ _ h => h) (Or.inl ⟨by rfl, ?yr3_6⟩) hHeld ?_
      case yr3_6 => (intro W0 hSw; have cc := (hSw.cell (p := ⟨w.heap.size + 1, k, none⟩) hs1).trans ck; go_simp; try with_reducible rfl)
      try simp only [pu]
      refine wpAnyH_take (i := 7) (oi := ⟨(some 30), _, _, _, _, _⟩) (v := .pointer (some ⟨w.heap.size, 1, none⟩)) rfl (by kernel_rfl) (by kernel_rfl) (by kernel_rfl) (fun _ _ _ h => h) (Or.inl ⟨by rfl, ?yr3_7⟩) hHeld ?_
      case yr3_7 => (intro W0 hSw; go_simp; try with_reducible rfl)
      try simp only [pu]
      refine wpAnyH_take (i := 8) (oi := ⟨(some 31), _, _, _, _, _⟩) (v := .int .i64 n) rfl (by kernel_rfl) (by kernel_rfl) (by kernel_rfl) (fun _ _ _ h => h) (Or.inl ⟨by rfl, ?yr3_8⟩) hHeld ?_
      case yr3_8 => (intro W0 hSw; have cc := (hSw.cell (p := ⟨w.heap.size, 1, none⟩) hs0).trans c1; go_simp; try with_reducible rfl)
      try simp only [pu]
      refine wpAnyH_take (i := 9) (oi := ⟨(some 32), _, _, _, _, _⟩) (v := .int .i64 (n - 1)) rfl (by kernel_rfl) (by kernel_rfl) (by kernel_rfl) (fun _ _ _ h => h) (Or.inl ⟨by rfl, ?yr3_9⟩) hHeld ?_
      case yr3_9 => (intro W0 hSw; go_simp; try simp only [hw]; try with_reducible rfl)
      try simp only [pu]
      refine wpAnyH_take (i := 10) (oi := ⟨(some 33), _, _, _, _, _⟩) (v := .bool o) rfl (by kernel_rfl) (by kernel_rfl) (by kernel_rfl) (fun _ _ _ h => h) (Or.inl ⟨by rfl, ?yr3_10⟩) hHeld ?_
      case yr3_10 => (intro W0 hSw; go_simp; simp only [HV.out]; try rfl)
      try simp only [pu]
      refine wpAnyH_take (i := 11) (oi := ⟨(some 34), _, _, _, _, _⟩) (v := .bool o) rfl (by kernel_rfl) (by kernel_rfl) (by kernel_rfl) (fun _ _ _ h => h) (Or.inl ⟨by rfl, ?yr3_11⟩) hHeld ?_
      case yr3_11 => (intro W0 hSw; go_simp; try with_reducible rfl)
      try simp only [pu]
      refine wpAnyH_take (i := 12) (oi := ⟨(some 4), _, _, _, _, _⟩) (v := .bool o) rfl (by kernel_rfl) (by kernel_rfl) (by kernel_rfl) (fun _ _ _ h => h) (Or.inl ⟨by rfl, ?yr3_12⟩) hHeld ?_
      case yr3_12 => (intro W0 hSw; go_simp; try with_reducible rfl)
      try simp only [pu]
      refine wpAnyH_done (by kernel_rfl) ?_ _
      go_wp2
      go_ret
      exact ⟨rfl, below_next hbW hbW.size hHeld⟩
  · have HV := vlt (HO.out.trans (nxt_no hin))
    clear HO hgA hgd HG
    by_cases h1 : d < 0
    · go_wp2
      go_ret
      exact ⟨ret_bool HV.out.symm, hbW⟩
    · by_cases h2 : (8 : Int) ≤ d
      · go_wp2
        go_ret
        exact ⟨ret_bool HV.out.symm, hbW⟩
      · by_cases h3 : n < 1
        · go_wp2
          go_ret
          exact ⟨ret_bool HV.out.symm, hbW⟩
        · have h4 : (1099511627776 : Int) < n := by omega
          clear hin
          go_wp2
          go_ret
          exact ⟨ret_bool HV.out.symm, hbW⟩
theorem empty_is (f : ByteArray) : f.toList.isEmpty = decide (f.size = 0) := by
  rw [ByteArray.toList_eq, Bool.eq_iff_iff, List.isEmpty_iff, decide_eq_true_iff, ← List.length_eq_zero_iff]
  simp
theorem empty_iff (f : ByteArray) : f.toList = [] ↔ f.size = 0 := by
  rw [← List.isEmpty_iff, empty_is, decide_eq_true_iff]
set_option maxRecDepth 100000 in
theorem osays_any (w : World) (a : Ed) (ha : a.seen.length = 8) :
    Calls Try.prog 32 #[.agg a.cells.toArray] w fun e w' => e = .returned (.bool (tsays a.kind a.fld a.val)) ∧ Below w.heap.size w w' := by
  obtain ⟨W, hW, hgA, hbW, hsW⟩ := one_new w a.cells.toArray 28
  have HW := Lib.hid hW
  have c2 := ed_kind hgA ha
  have c4 := ed_fld hgA ha
  have c5 := ed_val hgA ha
  obtain ⟨o, ho⟩ : ∃ o, o = tsays a.kind a.fld a.val := ⟨_, rfl⟩
  have HO := vlt ho
  rw [← ho]
  generalize a.kind = k at *
  generalize a.fld = f at *
  generalize a.val = v at *
  have hn := oname_any W f
  obtain ⟨b, hb⟩ : ∃ b, b = nm f := ⟨_, rfl⟩
  have HB := vlt hb
  rw [← hb] at hn
  clear hW ha ho hsW hgA hb
  go_enter Try.func32, Try.ntmps32
  go_upto_region 1 with fail
  rw [HW.out]
  clear HW
  by_cases k1 : k = 1
  · subst k1
    have HV := vlt (show o = (b && decide (v.size ≤ 200)) by rw [HO.out, HB.out]; rfl)
    clear HO HB
    go_wp2_with fail
    refine hn.mono ?_
    rintro e w1 ⟨rfl, rfl⟩
    clear hn
    cases b
    · go_wp2
      go_ret
      exact ⟨by rw [HV.out]; rfl, hbW⟩
    · by_cases h1 : v.size ≤ 200
      · have h2 : (v.size : Int) ≤ 200 := by omega
        go_wp2
        go_ret
        exact ⟨ret_bool (by rw [HV.out]; simp [h1]), hbW⟩
      · have h2 : ¬ (v.size : Int) ≤ 200 := by omega
        go_wp2
        go_ret
        exact ⟨ret_bool (by rw [HV.out]; simp [h1]; omega), hbW⟩
  · have k1' : (k == 1) = false := by simp [k1]
    by_cases k2 : k = 2
    · subst k2
      have HV := vlt (show o = (decide (f.size = 0) && decide (v.size = 0)) by rw [HO.out]; rfl)
      clear HO HB hn
      go_wp2
      · go_ret
        rename_i h
        rw [empty_iff] at h
        exact ⟨ret_bool (by rw [HV.out, empty_is, h]; rfl), hbW⟩
      · go_ret
        rename_i h
        rw [empty_iff] at h
        exact ⟨ret_bool (by rw [HV.out, decide_eq_false h]; rfl), hbW⟩
    · have k2' : (k == 2) = false := by simp [k2]
      have HV := vlt (show o = false by rw [HO.out, tsays, if_neg k1, if_neg k2])
      clear HO HB hn
      go_wp2
      go_ret
      exact ⟨by rw [HV.out]; rfl, hbW⟩
theorem good_of_parts (a : Ed) : a.good = (nxt a.dev a.num a.seen && decide (0 ≤ a.time ∧ a.time ≤ 1099511627776) && nm a.con && tsays a.kind a.fld a.val) := rfl
set_option maxRecDepth 100000 in
theorem ogood_any (w : World) (a : Ed) (ha : a.seen.length = 8) :
    Calls Try.prog 11 #[.agg a.cells.toArray] w fun e w' => e = .returned (.bool a.good) ∧ Below w.heap.size w w' := by
  obtain ⟨W, hW, hgA, hbW, hsW⟩ := one_new w a.cells.toArray 28
  have HW := Lib.hid hW
  have HA := Lib.hid ha
  have d1 := fun w => onext_any w a.dev a.num a.seen ha
  have d2 := fun w => oname_any w a.con
  have d3 := fun w => osays_any w a ha
  have HG := vlt (good_of_parts a)
  obtain ⟨o, ho⟩ : ∃ o, o = a.good := ⟨_, rfl⟩
  obtain ⟨x1, h1⟩ : ∃ o, o = nxt a.dev a.num a.seen := ⟨_, rfl⟩
  obtain ⟨x2, h2⟩ : ∃ o, o = nm a.con := ⟨_, rfl⟩
  obtain ⟨x3, h3⟩ : ∃ o, o = tsays a.kind a.fld a.val := ⟨_, rfl⟩
  simp only [← h1] at d1
  simp only [← h2] at d2
  simp only [← h3] at d3
  rw [← ho, ← h1, ← h2, ← h3] at HG
  rw [← ho]
  clear hW ha hsW ho h1 h2 h3
  go_enter Try.func11, Try.ntmps11
  go_upto_region 1 with fail
  rw [HW.out]
  clear HW
  cases x1
  · skip
    refine plain_start (S := fun W' => Below W.heap.size W W') (by kernel_rfl) (Below.refl _ _) (fun hHeld => ?_)
    refine wpAnyH_take (i := 0) (oi := ⟨(some 3), _, _, _, _, _⟩) (v := .pointer (some ⟨w.heap.size, 0, none⟩)) rfl (by kernel_rfl) (by kernel_rfl) (by kernel_rfl) (fun _ _ _ h => h) (Or.inl ⟨by rfl, ?yr1_0⟩) hHeld ?_
    case yr1_0 => (intro W0 hSw; go_simp; try with_reducible rfl)
    try simp only [pu]
    refine wpAnyH_take (i := 1) (oi := ⟨(some 4), _, _, _, _, _⟩) (v := .agg [.int .i64 a.dev, .int .i64 a.num].toArray) rfl (by kernel_rfl) (by kernel_rfl) (by kernel_rfl) (fun _ _ _ h => h) (yieldsIf_load_mid (by rfl) _ _ rfl (w.heap.size) 0 rfl [.int .i64 a.dev, .int .i64 a.num] _ (fun W' hW' => ed_dotR (row_next2 hgA hW')) (Try.underlying24) rfl (by kernel_rfl)) hHeld ?_
    try simp only [pu]
    refine wpAnyH_take (i := 2) (oi := ⟨(some 5), _, _, _, _, _⟩) (v := .pointer (some ⟨w.heap.size, 2, none⟩)) rfl (by kernel_rfl) (by kernel_rfl) (by kernel_rfl) (fun _ _ _ h => h) (Or.inl ⟨by rfl, ?yr1_2⟩) hHeld ?_
    case yr1_2 => (intro W0 hSw; go_simp; try with_reducible rfl)
    try simp only [pu]
    refine wpAnyH_take (i := 3) (oi := ⟨(some 6), _, _, _, _, _⟩) (v := .agg (i64v a.seen).toArray) rfl (by kernel_rfl) (by kernel_rfl) (by kernel_rfl) (fun _ _ _ h => h) (yieldsIf_load_mid (by rfl) _ _ rfl (w.heap.size) 2 rfl (i64v a.seen) _ (fun W' hW' => ed_seenR (row_next2 hgA hW')) (Try.underlying26) rfl (by rw [i64v_len, HA.out]; kernel_rfl)) hHeld ?_
    try simp only [pu]
    refine wpAnyH_ready (rs := [4]) (by kernel_rfl) (by simp) ?_
    refine AllReadyH.cons (i := 4) (o := ⟨(some 7), _, _, _, _, _⟩) rfl (fun K hK => ?_) AllReadyH.nil
    go_simp
    refine (d1 _).mono ?_
    rintro e r1W1 ⟨rfl, r1h1⟩
    refine hK.out _ _ (below_next hHeld hHeld.size r1h1) (fun hHeld => ?_)
    clear hK K r1h1
    try simp only [pu]
    refine wpAnyH_take (i := 5) (oi := ⟨(some 8), _, _, _, _, _⟩) (v := .bool false) rfl (by kernel_rfl) (by kernel_rfl) (by kernel_rfl) (fun _ _ _ h => h) (Or.inl ⟨by rfl, ?yr1_5⟩) hHeld ?_
    case yr1_5 => (intro W0 hSw; go_simp; try with_reducible rfl)
    try simp only [pu]
    refine wpAnyH_take (i := 6) (oi := ⟨(some 9), _, _, _, _, _⟩) (v := undef) rfl (by kernel_rfl) (by kernel_rfl) (by kernel_rfl) (fun _ _ _ h => h) (Or.inr ⟨by rfl, rfl⟩) hHeld ?_
    try simp only [pu]
    refine wpAnyH_take (i := 7) (oi := ⟨(some 10), _, _, _, _, _⟩) (v := undef) rfl (by kernel_rfl) (by kernel_rfl) (by kernel_rfl) (fun _ _ _ h => h) (Or.inr ⟨by rfl, rfl⟩) hHeld ?_
    try simp only [pu]
    refine wpAnyH_take (i := 8) (oi := ⟨(some 11), _, _, _, _, _⟩) (v := undef) rfl (by kernel_rfl) (by kernel_rfl) (by kernel_rfl) (fun _ _ _ h => h) (Or.inr ⟨by rfl, rfl⟩) hHeld ?_
    try simp only [pu]
    refine wpAnyH_take (i := 9) (oi := ⟨(some 12), _, _, _, _, _⟩) (v := .bool false) rfl (by kernel_rfl) (by kernel_rfl) (by kernel_rfl) (fun _ _ _ h => h) (Or.inl ⟨by rfl, ?yr1_9⟩) hHeld ?_
    case yr1_9 => (intro W0 hSw; go_simp; try with_reducible rfl)
    try simp only [pu]
    refine wpAnyH_take (i := 10) (oi := ⟨(some 13), _, _, _, _, _⟩) (v := .bool false) rfl (by kernel_rfl) (by kernel_rfl) (by kernel_rfl) (fun _ _ _ h => h) (Or.inl ⟨by rfl, ?yr1_10⟩) hHeld ?_
    case yr1_10 => (intro W0 hSw; go_simp; try with_reducible rfl)
    try simp only [pu]
    refine wpAnyH_take (i := 11) (oi := ⟨(some 14), _, _, _, _, _⟩) (v := undef) rfl (by kernel_rfl) (by kernel_rfl) (by kernel_rfl) (fun _ _ _ h => h) (Or.inr ⟨by rfl, rfl⟩) hHeld ?_
    try simp only [pu]
    refine wpAnyH_take (i := 12) (oi := ⟨(some 15), _, _, _, _, _⟩) (v := undef) rfl (by kernel_rfl) (by kernel_rfl) (by kernel_rfl) (fun _ _ _ h => h) (Or.inr ⟨by rfl, rfl⟩) hHeld ?_
    try simp only [pu]
    refine wpAnyH_take (i := 13) (oi := ⟨(some 16), _, _, _, _, _⟩) (v := undef) rfl (by kernel_rfl) (by kernel_rfl) (by kernel_rfl) (fun _ _ _ h => h) (Or.inr ⟨by rfl, rfl⟩) hHeld ?_
    try simp only [pu]
    refine wpAnyH_take (i := 14) (oi := ⟨(some 17), _, _, _, _, _⟩) (v := .bool false) rfl (by kernel_rfl) (by kernel_rfl) (by kernel_rfl) (fun _ _ _ h => h) (Or.inl ⟨by rfl, ?yr1_14⟩) hHeld ?_
    case yr1_14 => (intro W0 hSw; go_simp; try with_reducible rfl)
    try simp only [pu]
    refine wpAnyH_take (i := 15) (oi := ⟨(some 18), _, _, _, _, _⟩) (v := .bool false) rfl (by kernel_rfl) (by kernel_rfl) (by kernel_rfl) (fun _ _ _ h => h) (Or.inl ⟨by rfl, ?yr1_15⟩) hHeld ?_
    case yr1_15 => (intro W0 hSw; go_simp; try with_reducible rfl)
    try simp only [pu]
    refine wpAnyH_take (i := 16) (oi := ⟨(some 19), _, _, _, _, _⟩) (v := undef) rfl (by kernel_rfl) (by kernel_rfl) (by kernel_rfl) (fun _ _ _ h => h) (Or.inr ⟨by rfl, rfl⟩) hHeld ?_
    try simp only [pu]
    refine wpAnyH_take (i := 17) (oi := ⟨(some 20), _, _, _, _, _⟩) (v := undef) rfl (by kernel_rfl) (by kernel_rfl) (by kernel_rfl) (fun _ _ _ h => h) (Or.inr ⟨by rfl, rfl⟩) hHeld ?_
    try simp only [pu]
    refine wpAnyH_take (i := 18) (oi := ⟨(some 21), _, _, _, _, _⟩) (v := undef) rfl (by kernel_rfl) (by kernel_rfl) (by kernel_rfl) (fun _ _ _ h => h) (Or.inr ⟨by rfl, rfl⟩) hHeld ?_
    try simp only [pu]
    refine wpAnyH_take (i := 19) (oi := ⟨(some 22), _, _, _, _, _⟩) (v := .bool false) rfl (by kernel_rfl) (by kernel_rfl) (by kernel_rfl) (fun _ _ _ h => h) (Or.inl ⟨by rfl, ?yr1_19⟩) hHeld ?_
    case yr1_19 => (intro W0 hSw; go_simp; try with_reducible rfl)
    try simp only [pu]
    refine wpAnyH_take (i := 20) (oi := ⟨(some 23), _, _, _, _, _⟩) (v := .bool false) rfl (by kernel_rfl) (by kernel_rfl) (by kernel_rfl) (fun _ _ _ h => h) (Or.inl ⟨by rfl, ?yr1_20⟩) hHeld ?_
    case yr1_20 => (intro W0 hSw; go_simp; try with_reducible rfl)
    try simp only [pu]
    refine wpAnyH_take (i := 21) (oi := ⟨(some 24), _, _, _, _, _⟩) (v := undef) rfl (by kernel_rfl) (by kernel_rfl) (by kernel_rfl) (fun _ _ _ h => h) (Or.inr ⟨by rfl, rfl⟩) hHeld ?_
    try simp only [pu]
    refine wpAnyH_take (i := 22) (oi := ⟨(some 25), _, _, _, _, _⟩) (v := undef) rfl (by kernel_rfl) (by kernel_rfl) (by kernel_rfl) (fun _ _ _ h => h) (Or.inr ⟨by rfl, rfl⟩) hHeld ?_
    try simp only [pu]
    refine wpAnyH_take (i := 23) (oi := ⟨(some 26), _, _, _, _, _⟩) (v := .bool false) rfl (by kernel_rfl) (by kernel_rfl) (by kernel_rfl) (fun _ _ _ h => h) (Or.inl ⟨by rfl, ?yr1_23⟩) hHeld ?_
    case yr1_23 => (intro W0 hSw; go_simp; try with_reducible rfl)
    try simp only [pu]
    refine wpAnyH_take (i := 24) (oi := ⟨(some 2), _, _, _, _, _⟩) (v := .bool false) rfl (by kernel_rfl) (by kernel_rfl) (by kernel_rfl) (fun _ _ _ h => h) (Or.inl ⟨by rfl, ?yr1_24⟩) hHeld ?_
    case yr1_24 => (intro W0 hSw; go_simp; try with_reducible rfl)
    try simp only [pu]
    refine wpAnyH_done (by kernel_rfl) ?_ _
    go_wp2
    go_ret
    exact ⟨ret_bool (by rw [HG.out]; rfl), below_next hbW hbW.size hHeld⟩
  · by_cases ht1 : 0 ≤ a.time
    · by_cases ht2 : a.time ≤ 1099511627776
      · cases x2
        · skip
          refine plain_start (S := fun W' => Below W.heap.size W W') (by kernel_rfl) (Below.refl _ _) (fun hHeld => ?_)
          refine wpAnyH_take (i := 0) (oi := ⟨(some 3), _, _, _, _, _⟩) (v := .pointer (some ⟨w.heap.size, 0, none⟩)) rfl (by kernel_rfl) (by kernel_rfl) (by kernel_rfl) (fun _ _ _ h => h) (Or.inl ⟨by rfl, ?yr1_0⟩) hHeld ?_
          case yr1_0 => (intro W0 hSw; go_simp; try with_reducible rfl)
          try simp only [pu]
          refine wpAnyH_take (i := 1) (oi := ⟨(some 4), _, _, _, _, _⟩) (v := .agg [.int .i64 a.dev, .int .i64 a.num].toArray) rfl (by kernel_rfl) (by kernel_rfl) (by kernel_rfl) (fun _ _ _ h => h) (yieldsIf_load_mid (by rfl) _ _ rfl (w.heap.size) 0 rfl [.int .i64 a.dev, .int .i64 a.num] _ (fun W' hW' => ed_dotR (row_next2 hgA hW')) (Try.underlying24) rfl (by kernel_rfl)) hHeld ?_
          try simp only [pu]
          refine wpAnyH_take (i := 2) (oi := ⟨(some 5), _, _, _, _, _⟩) (v := .pointer (some ⟨w.heap.size, 2, none⟩)) rfl (by kernel_rfl) (by kernel_rfl) (by kernel_rfl) (fun _ _ _ h => h) (Or.inl ⟨by rfl, ?yr1_2⟩) hHeld ?_
          case yr1_2 => (intro W0 hSw; go_simp; try with_reducible rfl)
          try simp only [pu]
          refine wpAnyH_take (i := 3) (oi := ⟨(some 6), _, _, _, _, _⟩) (v := .agg (i64v a.seen).toArray) rfl (by kernel_rfl) (by kernel_rfl) (by kernel_rfl) (fun _ _ _ h => h) (yieldsIf_load_mid (by rfl) _ _ rfl (w.heap.size) 2 rfl (i64v a.seen) _ (fun W' hW' => ed_seenR (row_next2 hgA hW')) (Try.underlying26) rfl (by rw [i64v_len, HA.out]; kernel_rfl)) hHeld ?_
          try simp only [pu]
          refine wpAnyH_ready (rs := [4]) (by kernel_rfl) (by simp) ?_
          refine AllReadyH.cons (i := 4) (o := ⟨(some 7), _, _, _, _, _⟩) rfl (fun K hK => ?_) AllReadyH.nil
          go_simp
          refine (d1 _).mono ?_
          rintro e r1W1 ⟨rfl, r1h1⟩
          refine hK.out _ _ (below_next hHeld hHeld.size r1h1) (fun hHeld => ?_)
          clear hK K r1h1
          try simp only [pu]
          refine wpAnyH_take (i := 5) (oi := ⟨(some 8), _, _, _, _, _⟩) (v := .bool true) rfl (by kernel_rfl) (by kernel_rfl) (by kernel_rfl) (fun _ _ _ h => h) (Or.inl ⟨by rfl, ?yr1_5⟩) hHeld ?_
          case yr1_5 => (intro W0 hSw; go_simp; try with_reducible rfl)
          try simp only [pu]
          refine wpAnyH_take (i := 6) (oi := ⟨(some 9), _, _, _, _, _⟩) (v := .pointer (some ⟨w.heap.size, 14, none⟩)) rfl (by kernel_rfl) (by kernel_rfl) (by kernel_rfl) (fun _ _ _ h => h) (Or.inl ⟨by rfl, ?yr1_6⟩) hHeld ?_
          case yr1_6 => (intro W0 hSw; go_simp; try with_reducible rfl)
          try simp only [pu]
          refine wpAnyH_take (i := 7) (oi := ⟨(some 10), _, _, _, _, _⟩) (v := .int .i64 a.time) rfl (by kernel_rfl) (by kernel_rfl) (by kernel_rfl) (fun _ _ _ h => h) (Or.inl ⟨by rfl, ?yr1_7⟩) hHeld ?_
          case yr1_7 => (intro W0 hSw; have cc := ed_time (row_next2 hgA hSw) HA.out; go_simp; try with_reducible rfl)
          try simp only [pu]
          refine wpAnyH_take (i := 8) (oi := ⟨(some 11), _, _, _, _, _⟩) (v := .bool true) rfl (by kernel_rfl) (by kernel_rfl) (by kernel_rfl) (fun _ _ _ h => h) (Or.inl ⟨by rfl, ?yr1_8⟩) hHeld ?_
          case yr1_8 => (intro W0 hSw; go_simp; try simp [ht1])
          try simp only [pu]
          refine wpAnyH_take (i := 9) (oi := ⟨(some 12), _, _, _, _, _⟩) (v := .bool true) rfl (by kernel_rfl) (by kernel_rfl) (by kernel_rfl) (fun _ _ _ h => h) (Or.inl ⟨by rfl, ?yr1_9⟩) hHeld ?_
          case yr1_9 => (intro W0 hSw; go_simp; try with_reducible rfl)
          try simp only [pu]
          refine wpAnyH_take (i := 10) (oi := ⟨(some 13), _, _, _, _, _⟩) (v := .bool true) rfl (by kernel_rfl) (by kernel_rfl) (by kernel_rfl) (fun _ _ _ h => h) (Or.inl ⟨by rfl, ?yr1_10⟩) hHeld ?_
          case yr1_10 => (intro W0 hSw; go_simp; try with_reducible rfl)
          try simp only [pu]
          refine wpAnyH_take (i := 11) (oi := ⟨(some 14), _, _, _, _, _⟩) (v := .pointer (some ⟨w.heap.size, 14, none⟩)) rfl (by kernel_rfl) (by kernel_rfl) (by kernel_rfl) (fun _ _ _ h => h) (Or.inl ⟨by rfl, ?yr1_11⟩) hHeld ?_
          case yr1_11 => (intro W0 hSw; go_simp; try with_reducible rfl)
          try simp only [pu]
          refine wpAnyH_take (i := 12) (oi := ⟨(some 15), _, _, _, _, _⟩) (v := .int .i64 a.time) rfl (by kernel_rfl) (by kernel_rfl) (by kernel_rfl) (fun _ _ _ h => h) (Or.inl ⟨by rfl, ?yr1_12⟩) hHeld ?_
          case yr1_12 => (intro W0 hSw; have cc := ed_time (row_next2 hgA hSw) HA.out; go_simp; try with_reducible rfl)
          try simp only [pu]
          refine wpAnyH_take (i := 13) (oi := ⟨(some 16), _, _, _, _, _⟩) (v := .bool true) rfl (by kernel_rfl) (by kernel_rfl) (by kernel_rfl) (fun _ _ _ h => h) (Or.inl ⟨by rfl, ?yr1_13⟩) hHeld ?_
          case yr1_13 => (intro W0 hSw; go_simp; try simp [ht2])
          try simp only [pu]
          refine wpAnyH_take (i := 14) (oi := ⟨(some 17), _, _, _, _, _⟩) (v := .bool true) rfl (by kernel_rfl) (by kernel_rfl) (by kernel_rfl) (fun _ _ _ h => h) (Or.inl ⟨by rfl, ?yr1_14⟩) hHeld ?_
          case yr1_14 => (intro W0 hSw; go_simp; try with_reducible rfl)
          try simp only [pu]
          refine wpAnyH_take (i := 15) (oi := ⟨(some 18), _, _, _, _, _⟩) (v := .bool true) rfl (by kernel_rfl) (by kernel_rfl) (by kernel_rfl) (fun _ _ _ h => h) (Or.inl ⟨by rfl, ?yr1_15⟩) hHeld ?_
          case yr1_15 => (intro W0 hSw; go_simp; try with_reducible rfl)
          try simp only [pu]
          refine wpAnyH_take (i := 16) (oi := ⟨(some 19), _, _, _, _, _⟩) (v := .pointer (some ⟨w.heap.size, 11, none⟩)) rfl (by kernel_rfl) (by kernel_rfl) (by kernel_rfl) (fun _ _ _ h => h) (Or.inl ⟨by rfl, ?yr1_16⟩) hHeld ?_
          case yr1_16 => (intro W0 hSw; go_simp; try with_reducible rfl)
          try simp only [pu]
          refine wpAnyH_take (i := 17) (oi := ⟨(some 20), _, _, _, _, _⟩) (v := .string a.con) rfl (by kernel_rfl) (by kernel_rfl) (by kernel_rfl) (fun _ _ _ h => h) (Or.inl ⟨by rfl, ?yr1_17⟩) hHeld ?_
          case yr1_17 => (intro W0 hSw; have cc := ed_con (row_next2 hgA hSw) HA.out; go_simp; try with_reducible rfl)
          try simp only [pu]
          refine wpAnyH_ready (rs := [18]) (by kernel_rfl) (by simp) ?_
          refine AllReadyH.cons (i := 18) (o := ⟨(some 21), _, _, _, _, _⟩) rfl (fun K hK => ?_) AllReadyH.nil
          go_simp
          refine (d2 _).mono ?_
          rintro e r1W2 ⟨rfl, r1h2⟩
          refine hK.out _ _ (r1h2 ▸ hHeld) (fun hHeld => ?_)
          clear hK K r1h2
          try simp only [pu]
          refine wpAnyH_take (i := 19) (oi := ⟨(some 22), _, _, _, _, _⟩) (v := .bool false) rfl (by kernel_rfl) (by kernel_rfl) (by kernel_rfl) (fun _ _ _ h => h) (Or.inl ⟨by rfl, ?yr1_19⟩) hHeld ?_
          case yr1_19 => (intro W0 hSw; go_simp; try with_reducible rfl)
          try simp only [pu]
          refine wpAnyH_take (i := 20) (oi := ⟨(some 23), _, _, _, _, _⟩) (v := .bool false) rfl (by kernel_rfl) (by kernel_rfl) (by kernel_rfl) (fun _ _ _ h => h) (Or.inl ⟨by rfl, ?yr1_20⟩) hHeld ?_
          case yr1_20 => (intro W0 hSw; go_simp; try with_reducible rfl)
          try simp only [pu]
          refine wpAnyH_take (i := 21) (oi := ⟨(some 24), _, _, _, _, _⟩) (v := undef) rfl (by kernel_rfl) (by kernel_rfl) (by kernel_rfl) (fun _ _ _ h => h) (Or.inr ⟨by rfl, rfl⟩) hHeld ?_
          try simp only [pu]
          refine wpAnyH_take (i := 22) (oi := ⟨(some 25), _, _, _, _, _⟩) (v := undef) rfl (by kernel_rfl) (by kernel_rfl) (by kernel_rfl) (fun _ _ _ h => h) (Or.inr ⟨by rfl, rfl⟩) hHeld ?_
          try simp only [pu]
          refine wpAnyH_take (i := 23) (oi := ⟨(some 26), _, _, _, _, _⟩) (v := .bool false) rfl (by kernel_rfl) (by kernel_rfl) (by kernel_rfl) (fun _ _ _ h => h) (Or.inl ⟨by rfl, ?yr1_23⟩) hHeld ?_
          case yr1_23 => (intro W0 hSw; go_simp; try with_reducible rfl)
          try simp only [pu]
          refine wpAnyH_take (i := 24) (oi := ⟨(some 2), _, _, _, _, _⟩) (v := .bool false) rfl (by kernel_rfl) (by kernel_rfl) (by kernel_rfl) (fun _ _ _ h => h) (Or.inl ⟨by rfl, ?yr1_24⟩) hHeld ?_
          case yr1_24 => (intro W0 hSw; go_simp; try with_reducible rfl)
          try simp only [pu]
          refine wpAnyH_done (by kernel_rfl) ?_ _
          go_wp2
          go_ret
          exact ⟨ret_bool (by rw [HG.out]; simp), below_next hbW hbW.size hHeld⟩
        · skip
          refine plain_start (S := fun W' => Below W.heap.size W W') (by kernel_rfl) (Below.refl _ _) (fun hHeld => ?_)
          refine wpAnyH_take (i := 0) (oi := ⟨(some 3), _, _, _, _, _⟩) (v := .pointer (some ⟨w.heap.size, 0, none⟩)) rfl (by kernel_rfl) (by kernel_rfl) (by kernel_rfl) (fun _ _ _ h => h) (Or.inl ⟨by rfl, ?yr1_0⟩) hHeld ?_
          case yr1_0 => (intro W0 hSw; go_simp; try with_reducible rfl)
          try simp only [pu]
          refine wpAnyH_take (i := 1) (oi := ⟨(some 4), _, _, _, _, _⟩) (v := .agg [.int .i64 a.dev, .int .i64 a.num].toArray) rfl (by kernel_rfl) (by kernel_rfl) (by kernel_rfl) (fun _ _ _ h => h) (yieldsIf_load_mid (by rfl) _ _ rfl (w.heap.size) 0 rfl [.int .i64 a.dev, .int .i64 a.num] _ (fun W' hW' => ed_dotR (row_next2 hgA hW')) (Try.underlying24) rfl (by kernel_rfl)) hHeld ?_
          try simp only [pu]
          refine wpAnyH_take (i := 2) (oi := ⟨(some 5), _, _, _, _, _⟩) (v := .pointer (some ⟨w.heap.size, 2, none⟩)) rfl (by kernel_rfl) (by kernel_rfl) (by kernel_rfl) (fun _ _ _ h => h) (Or.inl ⟨by rfl, ?yr1_2⟩) hHeld ?_
          case yr1_2 => (intro W0 hSw; go_simp; try with_reducible rfl)
          try simp only [pu]
          refine wpAnyH_take (i := 3) (oi := ⟨(some 6), _, _, _, _, _⟩) (v := .agg (i64v a.seen).toArray) rfl (by kernel_rfl) (by kernel_rfl) (by kernel_rfl) (fun _ _ _ h => h) (yieldsIf_load_mid (by rfl) _ _ rfl (w.heap.size) 2 rfl (i64v a.seen) _ (fun W' hW' => ed_seenR (row_next2 hgA hW')) (Try.underlying26) rfl (by rw [i64v_len, HA.out]; kernel_rfl)) hHeld ?_
          try simp only [pu]
          refine wpAnyH_ready (rs := [4]) (by kernel_rfl) (by simp) ?_
          refine AllReadyH.cons (i := 4) (o := ⟨(some 7), _, _, _, _, _⟩) rfl (fun K hK => ?_) AllReadyH.nil
          go_simp
          refine (d1 _).mono ?_
          rintro e r1W1 ⟨rfl, r1h1⟩
          refine hK.out _ _ (below_next hHeld hHeld.size r1h1) (fun hHeld => ?_)
          clear hK K r1h1
          try simp only [pu]
          refine wpAnyH_take (i := 5) (oi := ⟨(some 8), _, _, _, _, _⟩) (v := .bool true) rfl (by kernel_rfl) (by kernel_rfl) (by kernel_rfl) (fun _ _ _ h => h) (Or.inl ⟨by rfl, ?yr1_5⟩) hHeld ?_
          case yr1_5 => (intro W0 hSw; go_simp; try with_reducible rfl)
          try simp only [pu]
          refine wpAnyH_take (i := 6) (oi := ⟨(some 9), _, _, _, _, _⟩) (v := .pointer (some ⟨w.heap.size, 14, none⟩)) rfl (by kernel_rfl) (by kernel_rfl) (by kernel_rfl) (fun _ _ _ h => h) (Or.inl ⟨by rfl, ?yr1_6⟩) hHeld ?_
          case yr1_6 => (intro W0 hSw; go_simp; try with_reducible rfl)
          try simp only [pu]
          refine wpAnyH_take (i := 7) (oi := ⟨(some 10), _, _, _, _, _⟩) (v := .int .i64 a.time) rfl (by kernel_rfl) (by kernel_rfl) (by kernel_rfl) (fun _ _ _ h => h) (Or.inl ⟨by rfl, ?yr1_7⟩) hHeld ?_
          case yr1_7 => (intro W0 hSw; have cc := ed_time (row_next2 hgA hSw) HA.out; go_simp; try with_reducible rfl)
          try simp only [pu]
          refine wpAnyH_take (i := 8) (oi := ⟨(some 11), _, _, _, _, _⟩) (v := .bool true) rfl (by kernel_rfl) (by kernel_rfl) (by kernel_rfl) (fun _ _ _ h => h) (Or.inl ⟨by rfl, ?yr1_8⟩) hHeld ?_
          case yr1_8 => (intro W0 hSw; go_simp; try simp [ht1])
          try simp only [pu]
          refine wpAnyH_take (i := 9) (oi := ⟨(some 12), _, _, _, _, _⟩) (v := .bool true) rfl (by kernel_rfl) (by kernel_rfl) (by kernel_rfl) (fun _ _ _ h => h) (Or.inl ⟨by rfl, ?yr1_9⟩) hHeld ?_
          case yr1_9 => (intro W0 hSw; go_simp; try with_reducible rfl)
          try simp only [pu]
          refine wpAnyH_take (i := 10) (oi := ⟨(some 13), _, _, _, _, _⟩) (v := .bool true) rfl (by kernel_rfl) (by kernel_rfl) (by kernel_rfl) (fun _ _ _ h => h) (Or.inl ⟨by rfl, ?yr1_10⟩) hHeld ?_
          case yr1_10 => (intro W0 hSw; go_simp; try with_reducible rfl)
          try simp only [pu]
          refine wpAnyH_take (i := 11) (oi := ⟨(some 14), _, _, _, _, _⟩) (v := .pointer (some ⟨w.heap.size, 14, none⟩)) rfl (by kernel_rfl) (by kernel_rfl) (by kernel_rfl) (fun _ _ _ h => h) (Or.inl ⟨by rfl, ?yr1_11⟩) hHeld ?_
          case yr1_11 => (intro W0 hSw; go_simp; try with_reducible rfl)
          try simp only [pu]
          refine wpAnyH_take (i := 12) (oi := ⟨(some 15), _, _, _, _, _⟩) (v := .int .i64 a.time) rfl (by kernel_rfl) (by kernel_rfl) (by kernel_rfl) (fun _ _ _ h => h) (Or.inl ⟨by rfl, ?yr1_12⟩) hHeld ?_
          case yr1_12 => (intro W0 hSw; have cc := ed_time (row_next2 hgA hSw) HA.out; go_simp; try with_reducible rfl)
          try simp only [pu]
          refine wpAnyH_take (i := 13) (oi := ⟨(some 16), _, _, _, _, _⟩) (v := .bool true) rfl (by kernel_rfl) (by kernel_rfl) (by kernel_rfl) (fun _ _ _ h => h) (Or.inl ⟨by rfl, ?yr1_13⟩) hHeld ?_
          case yr1_13 => (intro W0 hSw; go_simp; try simp [ht2])
          try simp only [pu]
          refine wpAnyH_take (i := 14) (oi := ⟨(some 17), _, _, _, _, _⟩) (v := .bool true) rfl (by kernel_rfl) (by kernel_rfl) (by kernel_rfl) (fun _ _ _ h => h) (Or.inl ⟨by rfl, ?yr1_14⟩) hHeld ?_
          case yr1_14 => (intro W0 hSw; go_simp; try with_reducible rfl)
          try simp only [pu]
          refine wpAnyH_take (i := 15) (oi := ⟨(some 18), _, _, _, _, _⟩) (v := .bool true) rfl (by kernel_rfl) (by kernel_rfl) (by kernel_rfl) (fun _ _ _ h => h) (Or.inl ⟨by rfl, ?yr1_15⟩) hHeld ?_
          case yr1_15 => (intro W0 hSw; go_simp; try with_reducible rfl)
          try simp only [pu]
          refine wpAnyH_take (i := 16) (oi := ⟨(some 19), _, _, _, _, _⟩) (v := .pointer (some ⟨w.heap.size, 11, none⟩)) rfl (by kernel_rfl) (by kernel_rfl) (by kernel_rfl) (fun _ _ _ h => h) (Or.inl ⟨by rfl, ?yr1_16⟩) hHeld ?_
          case yr1_16 => (intro W0 hSw; go_simp; try with_reducible rfl)
          try simp only [pu]
          refine wpAnyH_take (i := 17) (oi := ⟨(some 20), _, _, _, _, _⟩) (v := .string a.con) rfl (by kernel_rfl) (by kernel_rfl) (by kernel_rfl) (fun _ _ _ h => h) (Or.inl ⟨by rfl, ?yr1_17⟩) hHeld ?_
          case yr1_17 => (intro W0 hSw; have cc := ed_con (row_next2 hgA hSw) HA.out; go_simp; try with_reducible rfl)
          try simp only [pu]
          refine wpAnyH_ready (rs := [18]) (by kernel_rfl) (by simp) ?_
          refine AllReadyH.cons (i := 18) (o := ⟨(some 21), _, _, _, _, _⟩) rfl (fun K hK => ?_) AllReadyH.nil
          go_simp
          refine (d2 _).mono ?_
          rintro e r1W2 ⟨rfl, r1h2⟩
          refine hK.out _ _ (r1h2 ▸ hHeld) (fun hHeld => ?_)
          clear hK K r1h2
          try simp only [pu]
          refine wpAnyH_take (i := 19) (oi := ⟨(some 22), _, _, _, _, _⟩) (v := .bool true) rfl (by kernel_rfl) (by kernel_rfl) (by kernel_rfl) (fun _ _ _ h => h) (Or.inl ⟨by rfl, ?yr1_19⟩) hHeld ?_
          case yr1_19 => (intro W0 hSw; go_simp; try with_reducible rfl)
          try simp only [pu]
          refine wpAnyH_take (i := 20) (oi := ⟨(some 23), _, _, _, _, _⟩) (v := .bool true) rfl (by kernel_rfl) (by kernel_rfl) (by kernel_rfl) (fun _ _ _ h => h) (Or.inl ⟨by rfl, ?yr1_20⟩) hHeld ?_
          case yr1_20 => (intro W0 hSw; go_simp; try with_reducible rfl)
          try simp only [pu]
          refine wpAnyH_take (i := 21) (oi := ⟨(some 24), _, _, _, _, _⟩) (v := .agg a.cells.toArray) rfl (by kernel_rfl) (by kernel_rfl) (by kernel_rfl) (fun _ _ _ h => h) (yieldsIf_load_mid (by rfl) _ _ rfl (w.heap.size) 0 rfl a.cells _ (fun W' hW' => ed_allR (row_next2 hgA hW')) (Try.underlying28) rfl (by rw [Ed.cells_len HA.out]; kernel_rfl)) hHeld ?_
          try simp only [pu]
          refine wpAnyH_ready (rs := [22]) (by kernel_rfl) (by simp) ?_
          refine AllReadyH.cons (i := 22) (o := ⟨(some 25), _, _, _, _, _⟩) rfl (fun K hK => ?_) AllReadyH.nil
          go_simp
          refine (d3 _).mono ?_
          rintro e r1W3 ⟨rfl, r1h3⟩
          refine hK.out _ _ (below_next hHeld hHeld.size r1h3) (fun hHeld => ?_)
          clear hK K r1h3
          try simp only [pu]
          refine wpAnyH_take (i := 23) (oi := ⟨(some 26), _, _, _, _, _⟩) (v := .bool x3) rfl (by kernel_rfl) (by kernel_rfl) (by kernel_rfl) (fun _ _ _ h => h) (Or.inl ⟨by rfl, ?yr1_23⟩) hHeld ?_
          case yr1_23 => (intro W0 hSw; go_simp; try with_reducible rfl)
          try simp only [pu]
          refine wpAnyH_take (i := 24) (oi := ⟨(some 2), _, _, _, _, _⟩) (v := .bool x3) rfl (by kernel_rfl) (by kernel_rfl) (by kernel_rfl) (fun _ _ _ h => h) (Or.inl ⟨by rfl, ?yr1_24⟩) hHeld ?_
          case yr1_24 => (intro W0 hSw; go_simp; try with_reducible rfl)
          try simp only [pu]
          refine wpAnyH_done (by kernel_rfl) ?_ _
          go_wp2
          go_ret
          exact ⟨ret_bool (by rw [HG.out]; simp [ht1, ht2]), below_next hbW hbW.size hHeld⟩
      · skip
        refine plain_start (S := fun W' => Below W.heap.size W W') (by kernel_rfl) (Below.refl _ _) (fun hHeld => ?_)
        refine wpAnyH_take (i := 0) (oi := ⟨(some 3), _, _, _, _, _⟩) (v := .pointer (some ⟨w.heap.size, 0, none⟩)) rfl (by kernel_rfl) (by kernel_rfl) (by kernel_rfl) (fun _ _ _ h => h) (Or.inl ⟨by rfl, ?yr1_0⟩) hHeld ?_
        case yr1_0 => (intro W0 hSw; go_simp; try with_reducible rfl)
        try simp only [pu]
        refine wpAnyH_take (i := 1) (oi := ⟨(some 4), _, _, _, _, _⟩) (v := .agg [.int .i64 a.dev, .int .i64 a.num].toArray) rfl (by kernel_rfl) (by kernel_rfl) (by kernel_rfl) (fun _ _ _ h => h) (yieldsIf_load_mid (by rfl) _ _ rfl (w.heap.size) 0 rfl [.int .i64 a.dev, .int .i64 a.num] _ (fun W' hW' => ed_dotR (row_next2 hgA hW')) (Try.underlying24) rfl (by kernel_rfl)) hHeld ?_
        try simp only [pu]
        refine wpAnyH_take (i := 2) (oi := ⟨(some 5), _, _, _, _, _⟩) (v := .pointer (some ⟨w.heap.size, 2, none⟩)) rfl (by kernel_rfl) (by kernel_rfl) (by kernel_rfl) (fun _ _ _ h => h) (Or.inl ⟨by rfl, ?yr1_2⟩) hHeld ?_
        case yr1_2 => (intro W0 hSw; go_simp; try with_reducible rfl)
        try simp only [pu]
        refine wpAnyH_take (i := 3) (oi := ⟨(some 6), _, _, _, _, _⟩) (v := .agg (i64v a.seen).toArray) rfl (by kernel_rfl) (by kernel_rfl) (by kernel_rfl) (fun _ _ _ h => h) (yieldsIf_load_mid (by rfl) _ _ rfl (w.heap.size) 2 rfl (i64v a.seen) _ (fun W' hW' => ed_seenR (row_next2 hgA hW')) (Try.underlying26) rfl (by rw [i64v_len, HA.out]; kernel_rfl)) hHeld ?_
        try simp only [pu]
        refine wpAnyH_ready (rs := [4]) (by kernel_rfl) (by simp) ?_
        refine AllReadyH.cons (i := 4) (o := ⟨(some 7), _, _, _, _, _⟩) rfl (fun K hK => ?_) AllReadyH.nil
        go_simp
        refine (d1 _).mono ?_
        rintro e r1W1 ⟨rfl, r1h1⟩
        refine hK.out _ _ (below_next hHeld hHeld.size r1h1) (fun hHeld => ?_)
        clear hK K r1h1
        try simp only [pu]
        refine wpAnyH_take (i := 5) (oi := ⟨(some 8), _, _, _, _, _⟩) (v := .bool true) rfl (by kernel_rfl) (by kernel_rfl) (by kernel_rfl) (fun _ _ _ h => h) (Or.inl ⟨by rfl, ?yr1_5⟩) hHeld ?_
        case yr1_5 => (intro W0 hSw; go_simp; try with_reducible rfl)
        try simp only [pu]
        refine wpAnyH_take (i := 6) (oi := ⟨(some 9), _, _, _, _, _⟩) (v := .pointer (some ⟨w.heap.size, 14, none⟩)) rfl (by kernel_rfl) (by kernel_rfl) (by kernel_rfl) (fun _ _ _ h => h) (Or.inl ⟨by rfl, ?yr1_6⟩) hHeld ?_
        case yr1_6 => (intro W0 hSw; go_simp; try with_reducible rfl)
        try simp only [pu]
        refine wpAnyH_take (i := 7) (oi := ⟨(some 10), _, _, _, _, _⟩) (v := .int .i64 a.time) rfl (by kernel_rfl) (by kernel_rfl) (by kernel_rfl) (fun _ _ _ h => h) (Or.inl ⟨by rfl, ?yr1_7⟩) hHeld ?_
        case yr1_7 => (intro W0 hSw; have cc := ed_time (row_next2 hgA hSw) HA.out; go_simp; try with_reducible rfl)
        try simp only [pu]
        refine wpAnyH_take (i := 8) (oi := ⟨(some 11), _, _, _, _, _⟩) (v := .bool true) rfl (by kernel_rfl) (by kernel_rfl) (by kernel_rfl) (fun _ _ _ h => h) (Or.inl ⟨by rfl, ?yr1_8⟩) hHeld ?_
        case yr1_8 => (intro W0 hSw; go_simp; try simp [ht1])
        try simp only [pu]
        refine wpAnyH_take (i := 9) (oi := ⟨(some 12), _, _, _, _, _⟩) (v := .bool true) rfl (by kernel_rfl) (by kernel_rfl) (by kernel_rfl) (fun _ _ _ h => h) (Or.inl ⟨by rfl, ?yr1_9⟩) hHeld ?_
        case yr1_9 => (intro W0 hSw; go_simp; try with_reducible rfl)
        try simp only [pu]
        refine wpAnyH_take (i := 10) (oi := ⟨(some 13), _, _, _, _, _⟩) (v := .bool true) rfl (by kernel_rfl) (by kernel_rfl) (by kernel_rfl) (fun _ _ _ h => h) (Or.inl ⟨by rfl, ?yr1_10⟩) hHeld ?_
        case yr1_10 => (intro W0 hSw; go_simp; try with_reducible rfl)
        try simp only [pu]
        refine wpAnyH_take (i := 11) (oi := ⟨(some 14), _, _, _, _, _⟩) (v := .pointer (some ⟨w.heap.size, 14, none⟩)) rfl (by kernel_rfl) (by kernel_rfl) (by kernel_rfl) (fun _ _ _ h => h) (Or.inl ⟨by rfl, ?yr1_11⟩) hHeld ?_
        case yr1_11 => (intro W0 hSw; go_simp; try with_reducible rfl)
        try simp only [pu]
        refine wpAnyH_take (i := 12) (oi := ⟨(some 15), _, _, _, _, _⟩) (v := .int .i64 a.time) rfl (by kernel_rfl) (by kernel_rfl) (by kernel_rfl) (fun _ _ _ h => h) (Or.inl ⟨by rfl, ?yr1_12⟩) hHeld ?_
        case yr1_12 => (intro W0 hSw; have cc := ed_time (row_next2 hgA hSw) HA.out; go_simp; try with_reducible rfl)
        try simp only [pu]
        refine wpAnyH_take (i := 13) (oi := ⟨(some 16), _, _, _, _, _⟩) (v := .bool false) rfl (by kernel_rfl) (by kernel_rfl) (by kernel_rfl) (fun _ _ _ h => h) (Or.inl ⟨by rfl, ?yr1_13⟩) hHeld ?_
        case yr1_13 => (intro W0 hSw; go_simp; try simp [ht2])
        try simp only [pu]
        refine wpAnyH_take (i := 14) (oi := ⟨(some 17), _, _, _, _, _⟩) (v := .bool false) rfl (by kernel_rfl) (by kernel_rfl) (by kernel_rfl) (fun _ _ _ h => h) (Or.inl ⟨by rfl, ?yr1_14⟩) hHeld ?_
        case yr1_14 => (intro W0 hSw; go_simp; try with_reducible rfl)
        try simp only [pu]
        refine wpAnyH_take (i := 15) (oi := ⟨(some 18), _, _, _, _, _⟩) (v := .bool false) rfl (by kernel_rfl) (by kernel_rfl) (by kernel_rfl) (fun _ _ _ h => h) (Or.inl ⟨by rfl, ?yr1_15⟩) hHeld ?_
        case yr1_15 => (intro W0 hSw; go_simp; try with_reducible rfl)
        try simp only [pu]
        refine wpAnyH_take (i := 16) (oi := ⟨(some 19), _, _, _, _, _⟩) (v := undef) rfl (by kernel_rfl) (by kernel_rfl) (by kernel_rfl) (fun _ _ _ h => h) (Or.inr ⟨by rfl, rfl⟩) hHeld ?_
        try simp only [pu]
        refine wpAnyH_take (i := 17) (oi := ⟨(some 20), _, _, _, _, _⟩) (v := undef) rfl (by kernel_rfl) (by kernel_rfl) (by kernel_rfl) (fun _ _ _ h => h) (Or.inr ⟨by rfl, rfl⟩) hHeld ?_
        try simp only [pu]
        refine wpAnyH_take (i := 18) (oi := ⟨(some 21), _, _, _, _, _⟩) (v := undef) rfl (by kernel_rfl) (by kernel_rfl) (by kernel_rfl) (fun _ _ _ h => h) (Or.inr ⟨by rfl, rfl⟩) hHeld ?_
        try simp only [pu]
        refine wpAnyH_take (i := 19) (oi := ⟨(some 22), _, _, _, _, _⟩) (v := .bool false) rfl (by kernel_rfl) (by kernel_rfl) (by kernel_rfl) (fun _ _ _ h => h) (Or.inl ⟨by rfl, ?yr1_19⟩) hHeld ?_
        case yr1_19 => (intro W0 hSw; go_simp; try with_reducible rfl)
        try simp only [pu]
        refine wpAnyH_take (i := 20) (oi := ⟨(some 23), _, _, _, _, _⟩) (v := .bool false) rfl (by kernel_rfl) (by kernel_rfl) (by kernel_rfl) (fun _ _ _ h => h) (Or.inl ⟨by rfl, ?yr1_20⟩) hHeld ?_
        case yr1_20 => (intro W0 hSw; go_simp; try with_reducible rfl)
        try simp only [pu]
        refine wpAnyH_take (i := 21) (oi := ⟨(some 24), _, _, _, _, _⟩) (v := undef) rfl (by kernel_rfl) (by kernel_rfl) (by kernel_rfl) (fun _ _ _ h => h) (Or.inr ⟨by rfl, rfl⟩) hHeld ?_
        try simp only [pu]
        refine wpAnyH_take (i := 22) (oi := ⟨(some 25), _, _, _, _, _⟩) (v := undef) rfl (by kernel_rfl) (by kernel_rfl) (by kernel_rfl) (fun _ _ _ h => h) (Or.inr ⟨by rfl, rfl⟩) hHeld ?_
        try simp only [pu]
        refine wpAnyH_take (i := 23) (oi := ⟨(some 26), _, _, _, _, _⟩) (v := .bool false) rfl (by kernel_rfl) (by kernel_rfl) (by kernel_rfl) (fun _ _ _ h => h) (Or.inl ⟨by rfl, ?yr1_23⟩) hHeld ?_
        case yr1_23 => (intro W0 hSw; go_simp; try with_reducible rfl)
        try simp only [pu]
        refine wpAnyH_take (i := 24) (oi := ⟨(some 2), _, _, _, _, _⟩) (v := .bool false) rfl (by kernel_rfl) (by kernel_rfl) (by kernel_rfl) (fun _ _ _ h => h) (Or.inl ⟨by rfl, ?yr1_24⟩) hHeld ?_
        case yr1_24 => (intro W0 hSw; go_simp; try with_reducible rfl)
        try simp only [pu]
        refine wpAnyH_done (by kernel_rfl) ?_ _
        go_wp2
        go_ret
        exact ⟨ret_bool (by rw [HG.out, decide_eq_false (fun h => by omega)]; simp), below_next hbW hbW.size hHeld⟩
    · skip
      refine plain_start (S := fun W' => Below W.heap.size W W') (by kernel_rfl) (Below.refl _ _) (fun hHeld => ?_)
      refine wpAnyH_take (i := 0) (oi := ⟨(some 3), _, _, _, _, _⟩) (v := .pointer (some ⟨w.heap.size, 0, none⟩)) rfl (by kernel_rfl) (by kernel_rfl) (by kernel_rfl) (fun _ _ _ h => h) (Or.inl ⟨by rfl, ?yr1_0⟩) hHeld ?_
      case yr1_0 => (intro W0 hSw; go_simp; try with_reducible rfl)
      try simp only [pu]
      refine wpAnyH_take (i := 1) (oi := ⟨(some 4), _, _, _, _, _⟩) (v := .agg [.int .i64 a.dev, .int .i64 a.num].toArray) rfl (by kernel_rfl) (by kernel_rfl) (by kernel_rfl) (fun _ _ _ h => h) (yieldsIf_load_mid (by rfl) _ _ rfl (w.heap.size) 0 rfl [.int .i64 a.dev, .int .i64 a.num] _ (fun W' hW' => ed_dotR (row_next2 hgA hW')) (Try.underlying24) rfl (by kernel_rfl)) hHeld ?_
      try simp only [pu]
      refine wpAnyH_take (i := 2) (oi := ⟨(some 5), _, _, _, _, _⟩) (v := .pointer (some ⟨w.heap.size, 2, none⟩)) rfl (by kernel_rfl) (by kernel_rfl) (by kernel_rfl) (fun _ _ _ h => h) (Or.inl ⟨by rfl, ?yr1_2⟩) hHeld ?_
      case yr1_2 => (intro W0 hSw; go_simp; try with_reducible rfl)
      try simp only [pu]
      refine wpAnyH_take (i := 3) (oi := ⟨(some 6), _, _, _, _, _⟩) (v := .agg (i64v a.seen).toArray) rfl (by kernel_rfl) (by kernel_rfl) (by kernel_rfl) (fun _ _ _ h => h) (yieldsIf_load_mid (by rfl) _ _ rfl (w.heap.size) 2 rfl (i64v a.seen) _ (fun W' hW' => ed_seenR (row_next2 hgA hW')) (Try.underlying26) rfl (by rw [i64v_len, HA.out]; kernel_rfl)) hHeld ?_
      try simp only [pu]
      refine wpAnyH_ready (rs := [4]) (by kernel_rfl) (by simp) ?_
      refine AllReadyH.cons (i := 4) (o := ⟨(some 7), _, _, _, _, _⟩) rfl (fun K hK => ?_) AllReadyH.nil
      go_simp
      refine (d1 _).mono ?_
      rintro e r1W1 ⟨rfl, r1h1⟩
      refine hK.out _ _ (below_next hHeld hHeld.size r1h1) (fun hHeld => ?_)
      clear hK K r1h1
      try simp only [pu]
      refine wpAnyH_take (i := 5) (oi := ⟨(some 8), _, _, _, _, _⟩) (v := .bool true) rfl (by kernel_rfl) (by kernel_rfl) (by kernel_rfl) (fun _ _ _ h => h) (Or.inl ⟨by rfl, ?yr1_5⟩) hHeld ?_
      case yr1_5 => (intro W0 hSw; go_simp; try with_reducible rfl)
      try simp only [pu]
      refine wpAnyH_take (i := 6) (oi := ⟨(some 9), _, _, _, _, _⟩) (v := .pointer (some ⟨w.heap.size, 14, none⟩)) rfl (by kernel_rfl) (by kernel_rfl) (by kernel_rfl) (fun _ _ _ h => h) (Or.inl ⟨by rfl, ?yr1_6⟩) hHeld ?_
      case yr1_6 => (intro W0 hSw; go_simp; try with_reducible rfl)
      try simp only [pu]
      refine wpAnyH_take (i := 7) (oi := ⟨(some 10), _, _, _, _, _⟩) (v := .int .i64 a.time) rfl (by kernel_rfl) (by kernel_rfl) (by kernel_rfl) (fun _ _ _ h => h) (Or.inl ⟨by rfl, ?yr1_7⟩) hHeld ?_
      case yr1_7 => (intro W0 hSw; have cc := ed_time (row_next2 hgA hSw) HA.out; go_simp; try with_reducible rfl)
      try simp only [pu]
      refine wpAnyH_take (i := 8) (oi := ⟨(some 11), _, _, _, _, _⟩) (v := .bool false) rfl (by kernel_rfl) (by kernel_rfl) (by kernel_rfl) (fun _ _ _ h => h) (Or.inl ⟨by rfl, ?yr1_8⟩) hHeld ?_
      case yr1_8 => (intro W0 hSw; go_simp; try simp [ht1])
      try simp only [pu]
      refine wpAnyH_take (i := 9) (oi := ⟨(some 12), _, _, _, _, _⟩) (v := .bool false) rfl (by kernel_rfl) (by kernel_rfl) (by kernel_rfl) (fun _ _ _ h => h) (Or.inl ⟨by rfl, ?yr1_9⟩) hHeld ?_
      case yr1_9 => (intro W0 hSw; go_simp; try with_reducible rfl)
      try simp only [pu]
      refine wpAnyH_take (i := 10) (oi := ⟨(some 13), _, _, _, _, _⟩) (v := .bool false) rfl (by kernel_rfl) (by kernel_rfl) (by kernel_rfl) (fun _ _ _ h => h) (Or.inl ⟨by rfl, ?yr1_10⟩) hHeld ?_
      case yr1_10 => (intro W0 hSw; go_simp; try with_reducible rfl)
      try simp only [pu]
      refine wpAnyH_take (i := 11) (oi := ⟨(some 14), _, _, _, _, _⟩) (v := undef) rfl (by kernel_rfl) (by kernel_rfl) (by kernel_rfl) (fun _ _ _ h => h) (Or.inr ⟨by rfl, rfl⟩) hHeld ?_
      try simp only [pu]
      refine wpAnyH_take (i := 12) (oi := ⟨(some 15), _, _, _, _, _⟩) (v := undef) rfl (by kernel_rfl) (by kernel_rfl) (by kernel_rfl) (fun _ _ _ h => h) (Or.inr ⟨by rfl, rfl⟩) hHeld ?_
      try simp only [pu]
      refine wpAnyH_take (i := 13) (oi := ⟨(some 16), _, _, _, _, _⟩) (v := undef) rfl (by kernel_rfl) (by kernel_rfl) (by kernel_rfl) (fun _ _ _ h => h) (Or.inr ⟨by rfl, rfl⟩) hHeld ?_
      try simp only [pu]
      refine wpAnyH_take (i := 14) (oi := ⟨(some 17), _, _, _, _, _⟩) (v := .bool false) rfl (by kernel_rfl) (by kernel_rfl) (by kernel_rfl) (fun _ _ _ h => h) (Or.inl ⟨by rfl, ?yr1_14⟩) hHeld ?_
      case yr1_14 => (intro W0 hSw; go_simp; try with_reducible rfl)
      try simp only [pu]
      refine wpAnyH_take (i := 15) (oi := ⟨(some 18), _, _, _, _, _⟩) (v := .bool false) rfl (by kernel_rfl) (by kernel_rfl) (by kernel_rfl) (fun _ _ _ h => h) (Or.inl ⟨by rfl, ?yr1_15⟩) hHeld ?_
      case yr1_15 => (intro W0 hSw; go_simp; try with_reducible rfl)
      try simp only [pu]
      refine wpAnyH_take (i := 16) (oi := ⟨(some 19), _, _, _, _, _⟩) (v := undef) rfl (by kernel_rfl) (by kernel_rfl) (by kernel_rfl) (fun _ _ _ h => h) (Or.inr ⟨by rfl, rfl⟩) hHeld ?_
      try simp only [pu]
      refine wpAnyH_take (i := 17) (oi := ⟨(some 20), _, _, _, _, _⟩) (v := undef) rfl (by kernel_rfl) (by kernel_rfl) (by kernel_rfl) (fun _ _ _ h => h) (Or.inr ⟨by rfl, rfl⟩) hHeld ?_
      try simp only [pu]
      refine wpAnyH_take (i := 18) (oi := ⟨(some 21), _, _, _, _, _⟩) (v := undef) rfl (by kernel_rfl) (by kernel_rfl) (by kernel_rfl) (fun _ _ _ h => h) (Or.inr ⟨by rfl, rfl⟩) hHeld ?_
      try simp only [pu]
      refine wpAnyH_take (i := 19) (oi := ⟨(some 22), _, _, _, _, _⟩) (v := .bool false) rfl (by kernel_rfl) (by kernel_rfl) (by kernel_rfl) (fun _ _ _ h => h) (Or.inl ⟨by rfl, ?yr1_19⟩) hHeld ?_
      case yr1_19 => (intro W0 hSw; go_simp; try with_reducible rfl)
      try simp only [pu]
      refine wpAnyH_take (i := 20) (oi := ⟨(some 23), _, _, _, _, _⟩) (v := .bool false) rfl (by kernel_rfl) (by kernel_rfl) (by kernel_rfl) (fun _ _ _ h => h) (Or.inl ⟨by rfl, ?yr1_20⟩) hHeld ?_
      case yr1_20 => (intro W0 hSw; go_simp; try with_reducible rfl)
      try simp only [pu]
      refine wpAnyH_take (i := 21) (oi := ⟨(some 24), _, _, _, _, _⟩) (v := undef) rfl (by kernel_rfl) (by kernel_rfl) (by kernel_rfl) (fun _ _ _ h => h) (Or.inr ⟨by rfl, rfl⟩) hHeld ?_
      try simp only [pu]
      refine wpAnyH_take (i := 22) (oi := ⟨(some 25), _, _, _, _, _⟩) (v := undef) rfl (by kernel_rfl) (by kernel_rfl) (by kernel_rfl) (fun _ _ _ h => h) (Or.inr ⟨by rfl, rfl⟩) hHeld ?_
      try simp only [pu]
      refine wpAnyH_take (i := 23) (oi := ⟨(some 26), _, _, _, _, _⟩) (v := .bool false) rfl (by kernel_rfl) (by kernel_rfl) (by kernel_rfl) (fun _ _ _ h => h) (Or.inl ⟨by rfl, ?yr1_23⟩) hHeld ?_
      case yr1_23 => (intro W0 hSw; go_simp; try with_reducible rfl)
      try simp only [pu]
      refine wpAnyH_take (i := 24) (oi := ⟨(some 2), _, _, _, _, _⟩) (v := .bool false) rfl (by kernel_rfl) (by kernel_rfl) (by kernel_rfl) (fun _ _ _ h => h) (Or.inl ⟨by rfl, ?yr1_24⟩) hHeld ?_
      case yr1_24 => (intro W0 hSw; go_simp; try with_reducible rfl)
      try simp only [pu]
      refine wpAnyH_done (by kernel_rfl) ?_ _
      go_wp2
      go_ret
      exact ⟨ret_bool (by rw [HG.out, decide_eq_false (fun h => by omega)]; simp), below_next hbW hbW.size hHeld⟩
end Go.Proofs.Ytabgkkdgamacnaa
namespace Go.Proofs.Ytabgkkdgamacnaa
open Go.RowKit

theorem i64_or_nat (a b : Nat) (ha : a < 9223372036854775808) (hb : b < 9223372036854775808) : bits .or .i64 (a : Int) (b : Int) = ((a ||| b : Nat) : Int) := by
  have h : (BitVec.ofInt 64 (a : Int) ||| BitVec.ofInt 64 (b : Int)).toNat = a ||| b := by
    rw [BitVec.toNat_or, BitVec.toNat_ofInt, BitVec.toNat_ofInt, show ((a : Int) % ((2 ^ 64 : Nat) : Int)).toNat = a by omega, show ((b : Int) % ((2 ^ 64 : Nat) : Int)).toNat = b by omega]
  have hlt : a ||| b < 2 ^ 63 := Nat.or_lt_two_pow ha hb
  show IntKind.i64.wrap ((BitVec.ofInt 64 (a : Int) ||| BitVec.ofInt 64 (b : Int)).toNat : Int) = _
  rw [h, IntKind.wrap_i64]
  omega
theorem seven_lt (k x : Nat) (hk : k < 9) (hx : x < 128) : x * 2 ^ (7 * k) < 9223372036854775808 := by
  have h1 : 2 ^ (7 * k) ≤ 2 ^ 56 := Nat.pow_le_pow_right (by decide) (by omega)
  have h2 : x * 2 ^ (7 * k) ≤ 127 * 2 ^ 56 := Nat.mul_le_mul (by omega) h1
  omega
theorem or_seven (k V x : Nat) (hk : k < 9) (hV : V < 2 ^ (7 * k)) (hx : x < 128) : bits .or .i64 (V : Int) (IntKind.i64.wrap ((x : Int) * 2 ^ (7 * k))) = ((V + x * 2 ^ (7 * k) : Nat) : Int) := by
  have e : ((x : Int) * 2 ^ (7 * k)) = ((x * 2 ^ (7 * k) : Nat) : Int) := by simp
  have h1 := seven_lt k x hk hx
  have h2 : 2 ^ (7 * k) ≤ 2 ^ 56 := Nat.pow_le_pow_right (by decide) (by omega)
  rw [e, show IntKind.i64.wrap ((x * 2 ^ (7 * k) : Nat) : Int) = ((x * 2 ^ (7 * k) : Nat) : Int) by rw [IntKind.wrap_i64]; omega, i64_or_nat _ _ (by omega) h1, or_add V x _ hV]
theorem seven_next (k V x : Nat) (hV : V < 2 ^ (7 * k)) (hx : x < 128) : V + x * 2 ^ (7 * k) < 2 ^ (7 * (k + 1)) := by
  have hp : 2 ^ (7 * (k + 1)) = 128 * 2 ^ (7 * k) := by rw [show 7 * (k + 1) = 7 * k + 7 by omega, Nat.pow_add, Nat.mul_comm]
  have : x * 2 ^ (7 * k) ≤ 127 * 2 ^ (7 * k) := Nat.mul_le_mul_right _ (by omega)
  omega
theorem frL_at {l : List UInt8} {k : Nat} {b : UInt8} (h : l[k]? = some b) (V : Nat) : frL (l.drop k) k V = if 128 ≤ b.toNat then frL (l.drop (k + 1)) (k + 1) (V + b.toNat % 128 * 2 ^ (7 * k)) else if b.toNat = 0 ∧ 0 < k then (0, 0) else (V + b.toNat * 2 ^ (7 * k), k + 1) := by
  obtain ⟨hk, rfl⟩ := List.getElem?_eq_some_iff.1 h
  rw [List.drop_eq_getElem_cons hk, frL]

set_option maxRecDepth 100000 in
set_option maxHeartbeats 1000000 in
theorem front_any (w : World) (A : Option Addr) (l : List UInt8) (n c : Nat) (ha : Byt w w.heap.size A l) (hl : l.length = n) (hc : n ≤ c) :
    Calls Try.prog 44 #[.slice A n c] w fun e w' => ∃ v s : Nat, e = .returned (.tuple #[.int .i64 (v : Int), .int .i64 (s : Int)]) ∧ Vlt ((v, s) = frontOf l) ∧ w = w' := by
  obtain ⟨t, ht, htn⟩ : ∃ t, t = min n 9 ∧ (l.take 9).length = t := ⟨min n 9, rfl, by rw [List.length_take, hl]; exact Nat.min_comm _ _⟩
  have ht9 : t ≤ 9 := by omega
  have hcut := fun w0 => run_cut_h (P := Try.prog) Try.underlying29 Try.sizeByte A n c t (t : Int) rfl (by omega) w0
  obtain ⟨m, hm⟩ : ∃ m, m = l.take 9 := ⟨_, rfl⟩
  have ham : Byt w w.heap.size A m := by rw [hm]; exact ha.take 9
  have HML := Lib.hid (show m.length = t by rw [hm]; exact htn)
  have HF := vlt (show frL m 0 0 = frontOf l by rw [hm]; rfl)
  have hmin : min (n : Int) 9 = (t : Int) := by omega
  clear hm htn hl ha
  by_cases h9 : 9 < n
  · obtain rfl : t = 9 := by omega
    clear ht9 ht hmin
    go_enter Try.func44, Try.ntmps44
    go_wp2
    go_loopw [2, 12] (fun a i wr => ∃ k V : Nat, k ≤ 9 ∧ i = .int .i64 (k : Int) ∧ a = .int .i64 (V : Int) ∧ Hid (V < 2 ^ (7 * k)) ∧ Vlt (frL (m.drop k) k V = frontOf l) ∧ wr = w) (fun _ i _ => 9 - (intOf i).toNat)
    case atStart => exact ⟨0, 0, Nat.zero_le _, rfl, rfl, show _ < _ by decide, HF, rfl⟩
    case round =>
      obtain ⟨k, V, hk, rfl, rfl, hV, HK, rfl⟩ := hrel
      by_cases hlt : k < 9
      · obtain ⟨g, o, x, rfl, hg, hx, hcell, hget⟩ := ham.at_ (k := k) (by rw [HML.out]; exact hlt)
        have hxx : (UInt8.ofNat x).toNat = x := by simp; omega
        have HK2 := vlt (HK.out.symm.trans (frL_at hget.out V))
        rw [hxx] at HK2
        have h7 := or_seven k V (x % 128) (by omega) hV.out (Nat.mod_lt _ (by decide))
        have h8 := Lib.hid (seven_next k V (x % 128) hV.out (Nat.mod_lt _ (by decide)))
        have h9 := Lib.hid (show x % 128 ≤ x from Nat.mod_le _ _)
        obtain ⟨Y, hY⟩ : ∃ Y, Y = V + x % 128 * 2 ^ (7 * k) := ⟨_, rfl⟩
        rw [← hY] at h7 h8
        have HY := vlt hY
        rw [Int.natCast_emod] at h7
        have h7' : bits .or .i64 (V : Int) (Go.RowKit.wrap64 (((x : Int) % 128) * 2 ^ (7 * k))) = (Y : Int) := by rw [← IntWalk.i64_left]; exact h7
        clear h7 hY hxx HK ham
        by_cases hm : 128 ≤ x
        · have HK3 : Vlt (frL (m.drop (k + 1)) (k + 1) Y = frontOf l) := vlt (by rw [HK2.out, if_pos hm, ← HY.out])
          clear HK2 HY
          go_wp2
          go_roundw
          case rel => exact ⟨k + 1, Y, by omega, by go_num, rfl, h8, HK3, trivial⟩
          case measure => simp [intOf]; omega
        · have hxm : (x : Int) % 128 = (x : Int) := by omega
          rw [hxm] at h7'
          have hY2 : Vlt (Y = V + x * 2 ^ (7 * k)) := vlt (by rw [HY.out, Nat.mod_eq_of_lt (show x < 128 by omega)])
          clear HY h8 h9
          by_cases hx0 : x = 0
          · have hxl : (x : Int) ≤ 0 := by omega
            by_cases hk0 : 0 < k
            · have HK3 : Vlt ((0, 0) = frontOf l) := vlt (by rw [HK2.out, if_neg hm, if_pos ⟨hx0, hk0⟩])
              clear HK2 hY2 hx0
              go_wp2
              go_ret2
              exact ⟨0, 0, rfl, HK3, rfl⟩
            · have HK3 : Vlt ((Y, k + 1) = frontOf l) := vlt (by rw [HK2.out, if_neg hm, if_neg (fun h => hk0 h.2), ← hY2.out])
              clear HK2 hY2 hx0
              go_wp2
              go_ret2
              exact ⟨Y, k + 1, by go_num, HK3, rfl⟩
          · have HK3 : Vlt ((Y, k + 1) = frontOf l) := vlt (by rw [HK2.out, if_neg hm, if_neg (fun h => hx0 h.1), ← hY2.out])
            clear HK2 hY2
            go_wp2
            go_ret2
            exact ⟨Y, k + 1, by go_num, HK3, rfl⟩
      · obtain rfl : k = 9 := by omega
        have HK3 : Vlt ((0, 0) = frontOf l) := vlt (by rw [← HK.out, List.drop_eq_nil_of_le (by rw [HML.out]; exact Nat.le_refl _), frL])
        clear HK
        go_wp2
        go_ret2
        exact ⟨0, 0, rfl, HK3, rfl⟩
  · obtain rfl : t = n := by omega
    clear ht9 ht hmin
    go_enter Try.func44, Try.ntmps44
    go_wp2
    go_loopw [2, 12] (fun a i wr => ∃ k V : Nat, k ≤ t ∧ i = .int .i64 (k : Int) ∧ a = .int .i64 (V : Int) ∧ Hid (V < 2 ^ (7 * k)) ∧ Vlt (frL (m.drop k) k V = frontOf l) ∧ wr = w) (fun _ i _ => t - (intOf i).toNat)
    case atStart => exact ⟨0, 0, Nat.zero_le _, rfl, rfl, show _ < _ by decide, HF, rfl⟩
    case round =>
      obtain ⟨k, V, hk, rfl, rfl, hV, HK, rfl⟩ := hrel
      by_cases hlt : k < t
      · obtain ⟨g, o, x, rfl, hg, hx, hcell, hget⟩ := ham.at_ (k := k) (by rw [HML.out]; exact hlt)
        have hxx : (UInt8.ofNat x).toNat = x := by simp; omega
        have HK2 := vlt (HK.out.symm.trans (frL_at hget.out V))
        rw [hxx] at HK2
        have h7 := or_seven k V (x % 128) (by omega) hV.out (Nat.mod_lt _ (by decide))
        have h8 := Lib.hid (seven_next k V (x % 128) hV.out (Nat.mod_lt _ (by decide)))
        have h9 := Lib.hid (show x % 128 ≤ x from Nat.mod_le _ _)
        obtain ⟨Y, hY⟩ : ∃ Y, Y = V + x % 128 * 2 ^ (7 * k) := ⟨_, rfl⟩
        rw [← hY] at h7 h8
        have HY := vlt hY
        rw [Int.natCast_emod] at h7
        have h7' : bits .or .i64 (V : Int) (Go.RowKit.wrap64 (((x : Int) % 128) * 2 ^ (7 * k))) = (Y : Int) := by rw [← IntWalk.i64_left]; exact h7
        clear h7 hY hxx HK ham
        by_cases hm : 128 ≤ x
        · have HK3 : Vlt (frL (m.drop (k + 1)) (k + 1) Y = frontOf l) := vlt (by rw [HK2.out, if_pos hm, ← HY.out])
          clear HK2 HY
          go_wp2
          go_roundw
          case rel => exact ⟨k + 1, Y, by omega, by go_num, rfl, h8, HK3, trivial⟩
          case measure => simp [intOf]; omega
        · have hxm : (x : Int) % 128 = (x : Int) := by omega
          rw [hxm] at h7'
          have hY2 : Vlt (Y = V + x * 2 ^ (7 * k)) := vlt (by rw [HY.out, Nat.mod_eq_of_lt (show x < 128 by omega)])
          clear HY h8 h9
          by_cases hx0 : x = 0
          · have hxl : (x : Int) ≤ 0 := by omega
            by_cases hk0 : 0 < k
            · have HK3 : Vlt ((0, 0) = frontOf l) := vlt (by rw [HK2.out, if_neg hm, if_pos ⟨hx0, hk0⟩])
              clear HK2 hY2 hx0
              go_wp2
              go_ret2
              exact ⟨0, 0, rfl, HK3, rfl⟩
            · have HK3 : Vlt ((Y, k + 1) = frontOf l) := vlt (by rw [HK2.out, if_neg hm, if_neg (fun h => hk0 h.2), ← hY2.out])
              clear HK2 hY2 hx0
              go_wp2
              go_ret2
              exact ⟨Y, k + 1, by go_num, HK3, rfl⟩
          · have HK3 : Vlt ((Y, k + 1) = frontOf l) := vlt (by rw [HK2.out, if_neg hm, if_neg (fun h => hx0 h.1), ← hY2.out])
            clear HK2 hY2
            go_wp2
            go_ret2
            exact ⟨Y, k + 1, by go_num, HK3, rfl⟩
      · obtain rfl : k = t := by omega
        have HK3 : Vlt ((0, 0) = frontOf l) := vlt (by rw [← HK.out, List.drop_eq_nil_of_le (by rw [HML.out]; exact Nat.le_refl _), frL])
        clear HK
        go_wp2
        go_ret2
        exact ⟨0, 0, rfl, HK3, rfl⟩
end Go.Proofs.Ytabgkkdgamacnaa
namespace Go.Proofs.Ytabgkkdgamacnaa
open Go.RowKit

/-- A list of lists of bytes that came in. -/
def Prt (w : World) (B : Nat) (A : Option Addr) (ps : List (List UInt8)) : Prop :=
  ps = [] ∨ ∃ b o, A = some ⟨b, o, none⟩ ∧ b < B ∧ ∀ j p, ps[j]? = some p → ∃ Aj nj cj, w.cell? ⟨b, o + j, none⟩ = some (.slice Aj nj cj) ∧ p.length = nj ∧ nj ≤ cj ∧ Byt w B Aj p
section
variable {w w' : World} {B B' : Nat} {A : Option Addr} {ps : List (List UInt8)}
theorem Prt.below (h : Prt w B A ps) (hb : Below B w w') : Prt w' B A ps := by
  rcases h with h | ⟨b, o, hA, hlt, hc⟩
  · exact .inl h
  · refine .inr ⟨b, o, hA, hlt, fun j p hj => ?_⟩
    obtain ⟨Aj, nj, cj, h1, h2, h3, h4⟩ := hc j p hj
    exact ⟨Aj, nj, cj, (hb.cell (p := ⟨b, o + j, none⟩) hlt).trans h1, h2, h3, h4.below hb⟩
theorem Prt.up (h : Prt w B A ps) (hB : B ≤ B') : Prt w B' A ps := by
  rcases h with h | ⟨b, o, hA, hlt, hc⟩
  · exact .inl h
  · refine .inr ⟨b, o, hA, by omega, fun j p hj => ?_⟩
    obtain ⟨Aj, nj, cj, h1, h2, h3, h4⟩ := hc j p hj
    exact ⟨Aj, nj, cj, h1, h2, h3, h4.up hB⟩
theorem Prt.at_ (h : Prt w B A ps) {k : Nat} (hk : k < ps.length) : ∃ b o Aj nj cj p, A = some ⟨b, o, none⟩ ∧ b < B ∧ w.cell? ⟨b, o + k, none⟩ = some (.slice Aj nj cj) ∧ Hid (ps[k]? = some p) ∧ Hid (p.length = nj) ∧ nj ≤ cj ∧ Byt w B Aj p := by
  rcases h with h | ⟨b, o, hA, hlt, hc⟩
  · subst h; simp at hk
  · obtain ⟨Aj, nj, cj, h1, h2, h3, h4⟩ := hc k _ (List.getElem?_eq_getElem hk)
    exact ⟨b, o, Aj, nj, cj, _, hA, hlt, h1, List.getElem?_eq_getElem hk, h2, h3, h4⟩
end
theorem flat_take {ps : List (List UInt8)} {k : Nat} {p : List UInt8} (h : ps[k]? = some p) : (ps.take (k + 1)).flatten = (ps.take k).flatten ++ p := by
  obtain ⟨hk, rfl⟩ := List.getElem?_eq_some_iff.1 h
  rw [List.take_succ_eq_append_getElem hk, List.flatten_append, List.flatten_cons, List.flatten_nil, List.append_nil]
theorem flat_le (ps : List (List UInt8)) (k : Nat) : (ps.take k).flatten.length ≤ ps.flatten.length := by
  have h : ps.flatten.length = ((ps.take k) ++ (ps.drop k)).flatten.length := by rw [List.take_append_drop]
  rw [h, List.flatten_append, List.length_append]; omega
/-- A list of one list. -/
theorem Prt.one {w : World} {E : TypeId} {A : Option Addr} {l : List UInt8} {n c : Nat} (ha : Byt w w.heap.size A l) (hl : l.length = n) (hc : n ≤ c) :
    Prt (w.alloc (.cells #[.slice A n c] E)) (w.alloc (.cells #[.slice A n c] E)).heap.size (some ⟨w.heap.size, 0, none⟩) [l] := by
  refine .inr ⟨w.heap.size, 0, rfl, by simp, fun j p hj => ?_⟩
  match j, hj with
  | 0, hj =>
    simp at hj
    subst hj
    exact ⟨A, n, c, by simp, hl, hc, (ha.alloc (Nat.le_refl _) _).up (by simp)⟩
/-- A list of two lists. -/
theorem Prt.two {w : World} {E : TypeId} {A D : Option Addr} {l m : List UInt8} {n c k d : Nat} (ha : Byt w w.heap.size A l) (hl : l.length = n) (hc : n ≤ c) (hd : Byt w w.heap.size D m) (hm : m.length = k) (hk : k ≤ d) :
    Prt (w.alloc (.cells #[.slice A n c, .slice D k d] E)) (w.alloc (.cells #[.slice A n c, .slice D k d] E)).heap.size (some ⟨w.heap.size, 0, none⟩) [l, m] := by
  refine .inr ⟨w.heap.size, 0, rfl, by simp, fun j p hj => ?_⟩
  match j, hj with
  | 0, hj =>
    simp at hj
    subst hj
    exact ⟨A, n, c, by simp, hl, hc, (ha.alloc (Nat.le_refl _) _).up (by simp)⟩
  | 1, hj =>
    simp at hj
    subst hj
    exact ⟨D, k, d, by simp, hm, hk, (hd.alloc (Nat.le_refl _) _).up (by simp)⟩
theorem Prt.next {w w' : World} {A : Option Addr} {ps : List (List UInt8)} (h : Prt w w.heap.size A ps) (hb : Below w.heap.size w w') : Prt w' w'.heap.size A ps := (h.below hb).up hb.size
end Go.Proofs.Ytabgkkdgamacnaa
namespace Go.Proofs.Ytabgkkdgamacnaa
open Go.RowKit

theorem Res.none_lit (w : World) (E : TypeId) (base : Nat) (hb : base ≤ w.heap.size) : Res (w.alloc (.cells #[] E)) base E (some ⟨w.heap.size, 0, none⟩) 0 0 [] :=
  Res.row hb (heap_alloc_new w _) (Nat.le_refl _) (by omega) rfl rfl rfl
end Go.Proofs.Ytabgkkdgamacnaa
namespace Go.Proofs.Ytabgkkdgamacnaa
open Go.RowKit

theorem new_byted (w : World) (E : TypeId) (x : Int) (b : UInt8) (hx : x = (b.toNat : Int)) :
    ∀ j u, (bv [b])[j]? = some u → (w.alloc (.cells #[.int .u8 x] E)).drew.cell? ((⟨w.heap.size, 0, none⟩ : Addr).add j) = some u := new_byte w E x b hx

theorem append_nothing {P : Program} (w : World) {base t ty e size n c : Nat} {i : TypeInfo} {v : Value} {xs : List Value} (ht : P.underlying t = some (.slice e)) (hi : P.info? e = some i) (hown : w.ownsRow base e size v n xs) :
    (Builtin.append_ #[t, t] ty #[v, .slice none 0 c]).run P w = .ok v w := by
  rcases hown.2 with ⟨rfl, _⟩ | ⟨g, cap, cur, rfl, _, _, hle, _⟩
  · simp [Builtin.append_, run_underlying ht, typeInfo, sizeOf, hi, Builtin.lenOf, Builtin.firstCells]
  · simp [Builtin.append_, run_underlying ht, typeInfo, sizeOf, hi, Builtin.lenOf, Builtin.firstCells, storeCells, hle]

theorem wp_append_src {P : Program} (w : World) {ops : Array Oper} {rest : List Oper} {o : Oper} {a : Act} {Q : Exit → Act → World → Prop} (hgd : o.guard = none) (s x : Operand) (T : TypeId)
    (ho : o.op = .call { callee := .builtin .append, args := #[s, x], argTypes := #[T, T] }) (E : TypeId) (hT : P.underlying T = some (.slice E))
    (hI : (P.info? E).map (fun i => (i.zero, i.size, i.bytes)) = some (some (.int .u8 0), 1, 1)) (base : Nat) (A : Option Addr) (n c : Nat) (l : List UInt8) (hs : a.eval s = .slice A n c) (hr : Res w base E A n c l)
    (D : Option Addr) (m c2 : Nat) (hx : a.eval x = .slice D m c2) (B : Nat) (news : List UInt8) (hb : Byt w B D news) (hl : news.length = m) (hsz : n + m ≤ 140737488355328) (hbase : base ≤ w.heap.size)
    (h : ∀ A' c' w', Res w' base E A' (n + m) c' (l ++ news) → (∀ B w0, B ≤ base → Below B w0 w → Below B w0 w') → wpList P ops Q rest (a.put o.dst (.slice A' (n + m) c')) w') : wpList P ops Q (o :: rest) a w := by
  cases D with
  | some ad =>
    refine wp_append_bytes w hgd s x T ho E hT hI base A n c l hs hr ad m c2 hx news hl (fun j u hj => ?_) hsz hbase h
    have h0 : 0 < (bv news).length := Nat.lt_of_le_of_lt (Nat.zero_le _) (List.getElem?_eq_some_iff.1 hj).1
    obtain ⟨_, ad', he, hc⟩ := hb.src (some ⟨0, 0, none⟩) _ rfl h0
    injection he with he
    subst he
    exact hc j u hj
  | none =>
    have hn : news = [] := by
      rcases hb with h | ⟨_, _, h, _⟩
      · exact h
      · cases h
    subst hn
    subst hl
    obtain ⟨i, hi, _⟩ := info_parts hI
    refine wpList_plain hgd fun K hK => ?_
    have hrun := append_nothing (P := P) (ty := o.type) (c := c2) w hT hi hr
    unfold Oper.wp
    simp only [execOp, ho, resolve, invoke, builtin, Sem.run_bind, Sem.run_pure, Result.andThen_ok, List.map_toArray, List.map_cons, List.map_nil, hs, hx, List.length_nil, hrun]
    refine hK _ _ ?_
    have h2 := h A c w (by simpa using hr) (fun _ _ _ hb => hb)
    simpa using h2
end Go.Proofs.Ytabgkkdgamacnaa
namespace Go.Proofs.Ytabgkkdgamacnaa
open Go.RowKit

set_option maxRecDepth 100000 in
theorem grow_b (w : World) (n : Nat) (hn : n ≤ 140737488355328) :
    Calls Try.prog 54 #[.slice none 0 0, .int .i64 (n : Int)] w fun e w' => ∃ A c, e = .returned (.slice A 0 c) ∧ Res w' w.heap.size 5 A 0 c [] ∧ Below w.heap.size w w' := by
  obtain ⟨i, hi, hz, h1, h2⟩ := info_parts Try.infoByte
  by_cases h0 : 0 < n
  · have hr := fun ty => Lib.run_append_nil_zeros (P := Try.prog) w 29 3 ty 5 i (.int .u8 0) .i64 .i64 Try.underlying29 Try.underlying3 hi hz n h0 (by omega) (by omega) (by rw [h2]; omega)
    have hc1 : n ≤ grownCap w n 0 5 := grownCap_ge w n 0 _
    have hc2 : grownCap w n 0 5 ≤ maxLen := grownCap_le_maxLen w n 0 _ (by unfold maxLen; omega)
    have hsz : (Builtin.zeroCells (Value.int .u8 0).cells n ++ Builtin.zeroCells (Value.int .u8 0).cells (grownCap w n 0 5 - n)).size = grownCap w n 0 5 * 1 := by
      rw [Array.size_append, size_zeroCells, size_zeroCells]
      have : (Value.int .u8 0).cells.size = 1 := rfl
      rw [this]; omega
    have hown := World.ownsRow_made (w := w.drew) (e := 5) (base := w.heap.size) (size := 1) _ (grownCap w n 0 5) (Nat.le_refl _) hc2 hsz
    have hbl : Below w.heap.size w (w.drew.alloc (.cells (Builtin.zeroCells (Value.int .u8 0).cells n ++ Builtin.zeroCells (Value.int .u8 0).cells (grownCap w n 0 5 - n)) 5)) := (Below.refl _ _).drew.alloc (Nat.le_refl _) _
    generalize w.drew.alloc (.cells (Builtin.zeroCells (Value.int .u8 0).cells n ++ Builtin.zeroCells (Value.int .u8 0).cells (grownCap w n 0 5 - n)) 5) = w2 at *
    generalize grownCap w n 0 5 = C at *
    have HOWN := Lib.hid hown
    clear hown hsz hi hz h1 h2
    go_enter Try.func54, Try.ntmps54
    go_wp2_with (at_builtin; refine Lib.wpList_append_run _ rfl _ _ _ _ rfl _ _ rfl rfl _ _ (hr _) ?_)
    go_ret
    exact ⟨_, _, rfl, HOWN.out, hbl⟩
  · obtain rfl : n = 0 := by omega
    go_enter Try.func54, Try.ntmps54
    go_wp2
    go_ret
    exact ⟨none, 0, rfl, World.ownsRow_nil _ _ _ _, Below.refl _ _⟩
set_option maxRecDepth 100000 in
set_option maxHeartbeats 1000000 in
theorem concat_b (w : World) (A : Option Addr) (ps : List (List UInt8)) (n c : Nat) (hp : Prt w w.heap.size A ps) (hl : ps.length = n) (hn : n ≤ 4294967296) (hsz : ps.flatten.length ≤ 70368744177664) :
    Calls Try.prog 49 #[.slice A n c] w fun e w' => ∃ A' m c', e = .returned (.slice A' m c') ∧ Res w' w.heap.size 5 A' m c' ps.flatten ∧ Below w.heap.size w w' := by
  have HL := Lib.hid hl
  have HZ := Lib.hid hsz
  clear hl hsz
  go_enter Try.func49, Try.ntmps49
  go_wp2
  go_loopw [3, 11] (fun s i wr => ∃ k m : Nat, k ≤ n ∧ i = .int .i64 (k : Int) ∧ s = .int .i64 (m : Int) ∧ Hid (m = (ps.take k).flatten.length) ∧ wr = w) (fun _ i _ => n - (intOf i).toNat)
  case atStart => exact ⟨0, 0, Nat.zero_le _, rfl, rfl, show _ = _ by simp, rfl⟩
  case round =>
    obtain ⟨k, m, hk, rfl, rfl, hm, rfl⟩ := hrel
    have hm2 : m ≤ 70368744177664 := by
      have h1 := flat_le ps k
      have h2 := HZ.out
      rw [hm.out]; omega
    by_cases h0 : k < n
    · obtain ⟨b, o, Aj, nj, cj, p, rfl, hb, hc, hpk, hpn, hjc, hby⟩ := hp.at_ (k := k) (by rw [HL.out]; exact h0)
      have hm3 : Hid (m + nj = (ps.take (k + 1)).flatten.length) := by
        show _ = _
        rw [flat_take hpk.out, List.length_append, ← hm.out, hpn.out]
      have hm4 : m + nj ≤ 70368744177664 := by
        have h1 := flat_le ps (k + 1)
        have h2 := HZ.out
        rw [hm3.out]; omega
      clear hp
      go_wp2
      go_roundw
      case rel => exact ⟨k + 1, m + nj, by omega, by go_num, by go_num, hm3, trivial⟩
      case measure => simp [intOf]; omega
    · obtain rfl : k = n := by omega
      have hgrow := grow_b wr m (by omega)
      go_wp2_with fail
      refine hgrow.mono ?_
      rintro e w1 ⟨A0, c0, rfl, hr0, hb0⟩
      clear hgrow
      have HR := Lib.hid hr0
      clear hr0
      go_wp2_with fail
      obtain ⟨Y0, h⟩ : ∃ Y0, Y0 = wr := ⟨_, rfl⟩
      subst h
      go_loopw [6, 27] (fun s i wr => ∃ (k' m' c' : Nat) (A' : Option Addr) (X : List UInt8), k' ≤ k ∧ i = .int .i64 (k' : Int) ∧ s = .slice A' m' c' ∧ Hid (X = (ps.take k').flatten) ∧ Hid (Res wr Y0.heap.size 5 A' m' c' X) ∧ Below Y0.heap.size Y0 wr) (fun _ i _ => k - (intOf i).toNat)
      case atStart => exact ⟨0, 0, c0, A0, [], Nat.zero_le _, rfl, rfl, show _ = _ by simp, HR, hb0⟩
      case round =>
        clear HR hb0
        obtain ⟨k', m', c', A', X, hk', rfl, rfl, hX, HR, hb⟩ := hrel
        have hm5 : m' ≤ 70368744177664 := by
          have h1 := flat_le ps k'
          have h2 := HZ.out
          have h3 := HR.out.len
          rw [hX.out] at h3; omega
        by_cases h0 : k' < k
        · obtain ⟨b, o, Aj, nj, cj, p, rfl, hbb, hc, hpk, hpn, hjc, hby⟩ := (hp.below hb).at_ (k := k') (by rw [HL.out]; exact h0)
          have hX2 : Hid (X ++ p = (ps.take (k' + 1)).flatten) := by
            show _ = _
            rw [flat_take hpk.out, ← hX.out]
          have hm6 : m' + nj ≤ 70368744177664 := by
            have h1 := flat_le ps (k' + 1)
            have h2 := HZ.out
            have h3 := HR.out.len
            rw [← hX2.out, List.length_append, h3, hpn.out] at h1; omega
          go_wp2_with (at_builtin; refine wp_append_src _ rfl _ _ 29 rfl 5 Try.underlying29 Try.infoByte Y0.heap.size A' m' c' X rfl HR.out Aj nj cj rfl _ p hby hpn.out (by omega) hb.size ?_; intro A2 c2 w2 hr2 hup)
          go_roundw
          case rel => exact ⟨k' + 1, m' + nj, c2, A2, _, by omega, by go_num, rfl, hX2, hr2, hup _ _ (Nat.le_refl _) hb⟩
          case measure => simp [intOf]; omega
        · obtain rfl : k' = k := by omega
          have hX3 : X = ps.flatten := by
            rw [hX.out, List.take_of_length_le (by rw [HL.out]; exact Nat.le_refl _)]
          clear hX
          subst hX3
          clear hp
          go_wp2
          go_ret
          exact ⟨A', m', c', rfl, HR.out, hb⟩
set_option maxRecDepth 100000 in
theorem clone_b (w : World) (A : Option Addr) (l : List UInt8) (n c : Nat) (ha : Byt w w.heap.size A l) (hl : l.length = n) (hn : n ≤ 70368744177664) :
    Calls Try.prog 43 #[.slice A n c] w fun e w' => ∃ A' c', e = .returned (.slice A' n c') ∧ Res w' w.heap.size 5 A' n c' l ∧ Below w.heap.size w w' := by
  have HL := Lib.hid hl
  cases A with
  | none =>
    have h0 : l = [] := by
      rcases ha with h | ⟨_, _, h, _⟩
      · exact h
      · cases h
    subst h0
    obtain rfl : n = 0 := hl.symm
    clear HL hl
    have hnil := fun w0 => Lib.run_eql_slice_nil (P := Try.prog) w0 29 5 none 0 c 0 0 Try.underlying29
    go_enter Try.func43, Try.ntmps43
    go_wp2
    go_ret
    exact ⟨none, 0, rfl, World.ownsRow_nil _ _ _ _, Below.refl _ _⟩
  | some ad =>
    clear hl
    have hnil := fun w0 => Lib.run_eql_slice_nil (P := Try.prog) w0 29 5 (some ad) n c 0 0 Try.underlying29
    go_enter Try.func43, Try.ntmps43
    go_wp2_with (at_builtin; refine wp_append_src _ rfl _ _ 29 rfl 5 Try.underlying29 Try.infoByte w.heap.size (some ⟨w.heap.size, 0, none⟩) 0 0 [] rfl (Res.none_lit w _ _ (Nat.le_refl _)) (some ad) n c rfl _ l (ha.alloc (Nat.le_refl _) _) HL.out (by omega) (by simp) ?_)
    intro A1 c1 w1 hr1 hb1
    have hb2 := hb1 w.heap.size w (Nat.le_refl _) ((Below.refl _ _).alloc (Nat.le_refl _) _)
    clear hb1
    have hr2 : Res w1 w.heap.size 5 A1 n c1 l := by
      have h := hr1
      simpa using h
    clear hr1
    go_wp2
    go_ret
    exact ⟨A1, c1, rfl, hr2, hb2⟩
end Go.Proofs.Ytabgkkdgamacnaa
namespace Go.Proofs.Ytabgkkdgamacnaa
open Go.RowKit

/-- Bytes in blocks from lo to hi, apart from g. -/
def SrcIn (w : World) (lo hi g : Nat) (A : Option Addr) (m : List UInt8) : Prop :=
  m = [] ∨ ∃ b o, A = some ⟨b, o, none⟩ ∧ b ≠ g ∧ lo ≤ b ∧ b < hi ∧ ∀ j x, m[j]? = some x → w.cell? ⟨b, o + j, none⟩ = some (.int .u8 (x.toNat : Int))
/-- A reader at g: the bytes l are left to it; is it bad? It and they lie in blocks from lo to hi. -/
def RdIs (w : World) (lo hi g : Nat) (l : List UInt8) (bad : Bool) : Prop :=
  (lo ≤ g ∧ g < hi ∧ hi ≤ w.heap.size) ∧ ∃ A n c, w.heap[g]? = some (.cells #[.slice A n c, .bool bad] 70 (0, 0)) ∧ SrcIn w lo hi g A l ∧ l.length = n ∧ n ≤ c
section
variable {w w' : World} {lo hi g h k c : Nat} {A : Option Addr} {l m : List UInt8} {bad : Bool}
theorem SrcIn.byt (hs : SrcIn w lo hi g A m) (hz : hi ≤ w.heap.size) : Byt w w.heap.size A m := by
  rcases hs with h | ⟨b, o, hA, hne, h1, h2, hc⟩
  · exact .inl h
  · exact .inr ⟨b, o, hA, by omega, hc⟩
/-- What turns is another block. -/
theorem SrcIn.keep (hs : SrcIn w lo hi g A m) (hb : ∀ k, lo ≤ k → k < hi → k ≠ g → w'.heap[k]? = w.heap[k]?) : SrcIn w' lo hi g A m := by
  rcases hs with h | ⟨b, o, hA, hne, h1, h2, hc⟩
  · exact .inl h
  · exact .inr ⟨b, o, hA, hne, h1, h2, fun j x hj => (World.cell?_of_block (w := w) (hb b h1 h2 hne)).trans (hc j x hj)⟩
theorem SrcIn.but (hs : SrcIn w lo hi g A m) (hb : But g w w') (hz : hi ≤ w.heap.size) : SrcIn w' lo hi g A m :=
  hs.keep fun k _ hk hne => hb.block k (by omega) (fun e => hne (by injection e))
theorem SrcIn.cut (hs : SrcIn w lo hi g A m) (t c : Nat) (hc : m.length ≤ c) : SrcIn w lo hi g (if c = t then A else A.map (·.add t)) (m.drop t) := by
  rcases hs with h | ⟨b, o, rfl, hne, h1, h2, hcell⟩
  · subst h; exact .inl (by simp)
  · by_cases ht : c = t
    · exact .inl (List.drop_eq_nil_of_le (by omega))
    · rw [if_neg ht]
      refine .inr ⟨b, o + t, by rw [Option.map_some, addr_add], hne, h1, h2, fun j x hj => ?_⟩
      rw [List.getElem?_drop] at hj
      rw [Nat.add_assoc]; exact hcell _ x hj
theorem SrcIn.take (hs : SrcIn w lo hi g A m) (k : Nat) : SrcIn w lo hi g A (m.take k) := by
  rcases hs with h | ⟨b, o, hA, hne, h1, h2, hc⟩
  · subst h; exact .inl (by simp)
  · refine .inr ⟨b, o, hA, hne, h1, h2, fun j x hj => hc j x ?_⟩
    have hjk : j < k := by
      have := (List.getElem?_eq_some_iff.1 hj).1
      simp at this; omega
    rwa [List.getElem?_take_of_lt hjk] at hj
theorem RdIs.lt (h : RdIs w lo hi g l bad) : g < w.heap.size := Nat.lt_of_lt_of_le h.1.2.1 h.1.2.2
theorem RdIs.keep (h : RdIs w lo hi g l bad) (hb : ∀ k, lo ≤ k → k < hi → w'.heap[k]? = w.heap[k]?) (hz : w.heap.size ≤ w'.heap.size) : RdIs w' lo hi g l bad := by
  obtain ⟨h0, A, n, c, h1, h2, h3⟩ := h
  exact ⟨⟨h0.1, h0.2.1, by omega⟩, A, n, c, (hb g h0.1 h0.2.1).trans h1, h2.keep (fun k h4 h5 _ => hb k h4 h5), h3⟩
/-- Whatever lies below is as it was. -/
theorem RdIs.next (h : RdIs w lo hi g l bad) (hb : Below w.heap.size w w') : RdIs w' lo hi g l bad :=
  h.keep (fun k _ hk => hb.block k (by have := h.1.2.2; omega)) hb.size
/-- A block apart from the reader's has turned. -/
theorem RdIs.far (h : RdIs w lo hi g l bad) (hb : But k w w') (hk : k < lo ∨ hi ≤ k) : RdIs w' lo hi g l bad :=
  h.keep (fun i h1 h2 => hb.block i (by have := h.1.2.2; omega) (fun e => by injection e; omega)) hb.size
theorem RdIs.drew (h : RdIs w lo hi g l bad) : RdIs w.drew lo hi g l bad := h
theorem RdIs.row2 (h0 : lo ≤ g ∧ g < hi ∧ hi ≤ w.heap.size) {n : Nat} (hr : w.heap[g]? = some (.cells #[.slice A n c, .bool bad] 70 (0, 0))) (hs : SrcIn w lo hi g A l) (hl : l.length = n) (hc : n ≤ c) : RdIs w lo hi g l bad := ⟨h0, A, n, c, hr, hs, hl, hc⟩
end
/-- Bytes that lie below, apart from the block that has turned. -/
theorem Byt.past {w w' : World} {g : Nat} {A : Option Addr} {l : List UInt8} {B : Nat} (h : Byt w B A l) (hb : But g w w') (hB : B ≤ g) (hg : g < w.heap.size) : Byt w' B A l :=
  h.keep fun p hp => World.cell?_of_block (hb.block p.block (by omega) (fun e => by injection e; omega))

set_option maxRecDepth 100000 in
theorem spoil_any (w : World) (lo hi g : Nat) (l : List UInt8) (bad : Bool) (hr : RdIs w lo hi g l bad) :
    Calls Try.prog 45 #[.pointer (some ⟨g, 0, none⟩)] w fun e w' => e = .returned (.tuple #[]) ∧ RdIs w' lo hi g [] true ∧ But g w w' := by
  obtain ⟨hh0, A, n, c, hrow, hs, hl, hc⟩ := hr
  have c0 : w.cell? ⟨g, 0, none⟩ = some (.slice A n c) := by rw [cell_of_row _ _ _ _ _ _ hrow]; rfl
  have c1 : w.cell? ⟨g, 1, none⟩ = some (.bool bad) := by rw [cell_of_row _ _ _ _ _ _ hrow]; rfl
  have f0 : w.frozen? ⟨g, 0, none⟩ = false := frozen_of_row _ _ _ _ _ hrow
  have f1 : w.frozen? ⟨g, 1, none⟩ = false := frozen_of_row _ _ _ _ _ hrow
  have h1 := world_set_cell (cs := [.slice A n c, .bool bad]) hrow 0 (.slice none 0 0)
  have h2 := world_set_cell h1.out 1 (.bool true)
  have hb := ((But.refl g w).set (i := 0) (.slice none 0 0)).set (i := 1) (.bool true)
  have HROW := Lib.hid hrow
  clear hrow hs hl hc h1
  go_enter Try.func45, Try.ntmps45
  go_wp2
  go_end0
  exact ⟨rfl, RdIs.row2 ⟨hh0.1, hh0.2.1, Nat.le_trans hh0.2.2 hb.size⟩ h2.out (.inl rfl) rfl (Nat.le_refl _), hb⟩

set_option maxRecDepth 100000 in
theorem take_no (w : World) (lo hi g : Nat) (l : List UInt8) (bad : Bool) (k : Nat) (hr : RdIs w lo hi g l bad) (hk : l.length < k) :
    Calls Try.prog 46 #[.pointer (some ⟨g, 0, none⟩), .int .i64 (k : Int)] w fun e w' => e = .returned (.slice none 0 0) ∧ RdIs w' lo hi g [] true ∧ But g w w' := by
  have hsp := spoil_any w lo hi g l bad hr
  obtain ⟨hh0, A, n, c, hrow, hs, hl, hc⟩ := hr
  have hkn : (n : Int) < (k : Int) := by omega
  have c0 : w.cell? ⟨g, 0, none⟩ = some (.slice A n c) := by rw [cell_of_row _ _ _ _ _ _ hrow]; rfl
  clear hrow hs hl hc hk
  go_enter Try.func46, Try.ntmps46
  go_wp2_with fail
  refine hsp.mono ?_
  rintro e w1 ⟨rfl, hr1, hb1⟩
  go_wp2
  go_ret
  exact ⟨rfl, hr1, hb1⟩

set_option maxRecDepth 100000 in
theorem take_ok (w : World) (lo hi g : Nat) (l : List UInt8) (bad : Bool) (k : Nat) (hr : RdIs w lo hi g l bad) (hk : k ≤ l.length) :
    Calls Try.prog 46 #[.pointer (some ⟨g, 0, none⟩), .int .i64 (k : Int)] w fun e w' => ∃ A c, e = .returned (.slice A k c) ∧ k ≤ c ∧ SrcIn w' lo hi g A (l.take k) ∧ RdIs w' lo hi g (l.drop k) bad ∧ But g w w' := by
  obtain ⟨hh0, A, n, c, hrow, hs, hl, hc⟩ := hr
  have hkn : ¬ (n : Int) < (k : Int) := by omega
  have hkn2 : k ≤ n := by omega
  have c0 : w.cell? ⟨g, 0, none⟩ = some (.slice A n c) := by rw [cell_of_row _ _ _ _ _ _ hrow]; rfl
  have f0 : w.frozen? ⟨g, 0, none⟩ = false := frozen_of_row _ _ _ _ _ hrow
  have hcut := fun w0 => run_cut_h (P := Try.prog) Try.underlying29 Try.sizeByte A n c k (k : Int) rfl (by omega) w0
  have hcut2 := fun w0 => run_cut_l (P := Try.prog) Try.underlying29 Try.sizeByte A n c k (k : Int) rfl hkn2 w0
  obtain ⟨A2, hA2⟩ : ∃ A2, A2 = (if c = k then A else A.map (·.add k)) := ⟨_, rfl⟩
  have hs2 := hs.cut k c (by omega)
  rw [← hA2] at hs2
  simp only [← hA2] at hcut2
  obtain ⟨n2, hn2⟩ : ∃ n2, n2 = n - k := ⟨_, rfl⟩
  obtain ⟨c2, hc2⟩ : ∃ c2, c2 = c - k := ⟨_, rfl⟩
  simp only [← hn2, ← hc2] at hcut2
  have h1 := world_set_cell (cs := [.slice A n c, .bool bad]) hrow 0 (.slice A2 n2 c2)
  have hb := (But.refl g w).set (i := 0) (.slice A2 n2 c2)
  have HS := Lib.hid hs
  have HL2 := Lib.hid (show (l.drop k).length = n2 by rw [List.length_drop, hl, hn2])
  have hnc2 : n2 ≤ c2 := by omega
  have hkc : k ≤ c := by omega
  clear hrow hl hk hA2 hn2 hc2 hs
  go_enter Try.func46, Try.ntmps46
  go_wp2
  go_ret
  exact ⟨A, c, rfl, hkc, (HS.out.take k).but hb hh0.2.2, RdIs.row2 ⟨hh0.1, hh0.2.1, Nat.le_trans hh0.2.2 hb.size⟩ h1.out (hs2.but hb hh0.2.2) HL2.out hnc2, hb⟩
end Go.Proofs.Ytabgkkdgamacnaa
namespace Go.Proofs.Ytabgkkdgamacnaa
open Go.RowKit

theorem Byt.next {w w' : World} {A : Option Addr} {l : List UInt8} (h : Byt w w.heap.size A l) (hb : Below w.heap.size w w') : Byt w' w'.heap.size A l := (h.below hb).up hb.size
theorem row_next {w w' : World} {g : Nat} {cs : Array Value} {t : TypeId} (h : Hid (w.heap[g]? = some (.cells cs t (0, 0)))) (hb : Below w.heap.size w w') : Hid (w'.heap[g]? = some (.cells cs t (0, 0))) :=
  (hb.block _ (Array.getElem?_eq_some_iff.1 h.out).1).trans h.out
end Go.Proofs.Ytabgkkdgamacnaa
namespace Go.Proofs.Ytabgkkdgamacnaa
open Go.RowKit

set_option maxRecDepth 100000 in
theorem read_any (w : World) (A : Option Addr) (l : List UInt8) (n c : Nat) (ha : Byt w w.heap.size A l) (hl : l.length = n) (hn : n ≤ 70368744177664) :
    Calls Try.prog 22 #[.slice A n c] w fun e w' => ∃ g, e = .returned (.pointer (some ⟨g, 0, none⟩)) ∧ RdIs w' w.heap.size w'.heap.size g l false ∧ Below w.heap.size w w' := by
  have hcl := clone_b w A l n c ha hl hn
  clear hl
  go_enter Try.func22, Try.ntmps22
  go_wp2_with fail
  refine hcl.mono ?_
  rintro e w1 ⟨A1, c1, rfl, hr1, hb1⟩
  have hs1 : SrcIn (w1.alloc (.cells #[.slice A1 n c1, .bool false] 70)) w.heap.size (w1.alloc (.cells #[.slice A1 n c1, .bool false] 70)).heap.size w1.heap.size A1 l := by
    rcases hr1.2 with ⟨_, h0⟩ | ⟨g, cap, cur, hv, hge, hg, _⟩
    · refine .inl (List.eq_nil_of_length_eq_zero ?_)
      rw [hr1.len, h0]
    · rcases hr1.byt with h | ⟨b, o, hA, hlt, hc⟩
      · exact .inl h
      · injection hv with hv _ _
        rw [hA] at hv
        injection hv with hv
        injection hv with hv1 hv2
        exact .inr ⟨b, o, hA, by omega, by omega, by simp; omega, fun j x hj => (((Below.refl _ _).alloc (Nat.le_refl _) _).cell (p := ⟨b, o + j, none⟩) hlt).trans (hc j x hj)⟩
  have hrow := heap_alloc_new w1 (.cells #[.slice A1 n c1, .bool false] 70)
  have hbw := hb1.alloc hb1.size (.cells #[.slice A1 n c1, .bool false] 70)
  have HR := Lib.hid (RdIs.row2 ⟨hb1.size, by simp, Nat.le_refl _⟩ hrow hs1 hr1.len hr1.cap)
  clear hrow hs1 hcl
  go_wp2
  go_ret
  exact ⟨_, rfl, HR.out, hbw⟩

set_option maxRecDepth 100000 in
theorem bad_any (w : World) (lo hi g : Nat) (l : List UInt8) (bad : Bool) (hr : RdIs w lo hi g l bad) :
    Calls Try.prog 47 #[.pointer (some ⟨g, 0, none⟩)] w fun e w' => e = .returned (.bool bad) ∧ w = w' := by
  obtain ⟨hh0, A, n, c, hrow, hs, hl, hc⟩ := hr
  have c1 : w.cell? ⟨g, 1, none⟩ = some (.bool bad) := by rw [cell_of_row _ _ _ _ _ _ hrow]; rfl
  clear hrow hs hl hc
  go_enter Try.func47, Try.ntmps47
  go_wp2
  go_ret
  exact ⟨rfl, rfl⟩

set_option maxRecDepth 100000 in
theorem end_any (w : World) (lo hi g : Nat) (l : List UInt8) (bad : Bool) (hr : RdIs w lo hi g l bad) :
    Calls Try.prog 26 #[.pointer (some ⟨g, 0, none⟩)] w fun e w' => e = .returned (.bool (!bad && decide (l.length = 0))) ∧ w = w' := by
  obtain ⟨hh0, A, n, c, hrow, hs, hl, hc⟩ := hr
  have c0 : w.cell? ⟨g, 0, none⟩ = some (.slice A n c) := by rw [cell_of_row _ _ _ _ _ _ hrow]; rfl
  have c1 : w.cell? ⟨g, 1, none⟩ = some (.bool bad) := by rw [cell_of_row _ _ _ _ _ _ hrow]; rfl
  rw [hl]
  clear hrow hs hl hc
  cases bad
  · by_cases h0 : n = 0
    · subst h0
      go_enter Try.func26, Try.ntmps26
      go_wp2
      go_ret
      exact ⟨rfl, rfl⟩
    · have hd : decide (n = 0) = false := by simp [h0]
      have hd2 : ¬ (n : Int) = 0 := by omega
      rw [hd]
      go_enter Try.func26, Try.ntmps26
      go_wp2
      go_ret
      exact ⟨by simp [h0], rfl⟩
  · go_enter Try.func26, Try.ntmps26
    go_wp2
    go_ret
    exact ⟨rfl, rfl⟩

set_option maxRecDepth 100000 in
theorem num_ok (w : World) (lo hi g : Nat) (l : List UInt8) (bad : Bool) (most : Int) (x s : Nat) (hr : RdIs w lo hi g l bad) (hf : Vlt (frontOf l = (x, s))) (hs : 0 < s) (hx : (x : Int) ≤ max most 0) :
    Calls Try.prog 23 #[.pointer (some ⟨g, 0, none⟩), .int .i64 most] w fun e w' => e = .returned (.int .i64 (x : Int)) ∧ RdIs w' lo hi g (l.drop s) bad ∧ But g w w' := by
  have hsl : s ≤ l.length := by
    have h := front_len l
    rw [hf.out] at h; exact h
  have htk := take_ok w lo hi g l bad s hr hsl
  obtain ⟨hh0, A, n, c, hrow, hsr, hl, hc⟩ := hr
  have c0 : w.cell? ⟨g, 0, none⟩ = some (.slice A n c) := by rw [cell_of_row _ _ _ _ _ _ hrow]; rfl
  have hfr := front_any w A l n c (hsr.byt hh0.2.2) hl hc
  have hs0 : ¬ (s : Int) = 0 := by omega
  clear hrow hsr hl hc hsl
  go_enter Try.func23, Try.ntmps23
  go_wp2_with fail
  refine hfr.mono ?_
  rintro e w1 ⟨v, t, rfl, hvt, rfl⟩
  have hh := hvt.out.trans hf.out
  injection hh with h1 h2
  subst h1 h2
  clear hvt hf hfr
  have hs1 : ((t : Int) == 0) = false := by simp; omega
  rcases Int.lt_or_le most 0 with hm | hm
  · have hx0 : (v : Int) ≤ 0 := by omega
    clear hx
    go_wp2_with fail
    refine htk.mono ?_
    rintro e w2 ⟨A2, c2, rfl, _, _, hr2, hb2⟩
    go_wp2
    go_ret
    exact ⟨rfl, hr2, hb2⟩
  · have hx0 : (v : Int) ≤ most := by omega
    clear hx
    go_wp2_with fail
    refine htk.mono ?_
    rintro e w2 ⟨A2, c2, rfl, _, _, hr2, hb2⟩
    go_wp2
    go_ret
    exact ⟨rfl, hr2, hb2⟩

set_option maxRecDepth 100000 in
theorem num_no (w : World) (lo hi g : Nat) (l : List UInt8) (bad : Bool) (most : Int) (x s : Nat) (hr : RdIs w lo hi g l bad) (hf : Vlt (frontOf l = (x, s))) (hs : s = 0 ∨ max most 0 < (x : Int)) :
    Calls Try.prog 23 #[.pointer (some ⟨g, 0, none⟩), .int .i64 most] w fun e w' => e = .returned (.int .i64 0) ∧ RdIs w' lo hi g [] true ∧ But g w w' := by
  have hsp := spoil_any w lo hi g l bad hr
  obtain ⟨hh0, A, n, c, hrow, hsr, hl, hc⟩ := hr
  have c0 : w.cell? ⟨g, 0, none⟩ = some (.slice A n c) := by rw [cell_of_row _ _ _ _ _ _ hrow]; rfl
  have hfr := front_any w A l n c (hsr.byt hh0.2.2) hl hc
  clear hrow hsr hl hc
  go_enter Try.func23, Try.ntmps23
  go_wp2_with fail
  refine hfr.mono ?_
  rintro e w1 ⟨v, t, rfl, hvt, rfl⟩
  have hh := hvt.out.trans hf.out
  injection hh with h1 h2
  subst h1 h2
  clear hvt hf hfr
  by_cases ht : t = 0
  · subst ht
    go_wp2_with fail
    refine hsp.mono ?_
    rintro e w2 ⟨rfl, hr2, hb2⟩
    go_wp2
    go_ret
    exact ⟨rfl, hr2, hb2⟩
  · have hs1 : ((t : Int) == 0) = false := by simp; omega
    have hs2 : ¬ (t : Int) = 0 := by omega
    have hx : max most 0 < (v : Int) := by omega
    rcases Int.lt_or_le most 0 with hm | hm
    · have hx0 : 0 < v := by omega
      clear hx hs
      go_wp2_with fail
      refine hsp.mono ?_
      rintro e w2 ⟨rfl, hr2, hb2⟩
      go_wp2
      go_ret
      exact ⟨rfl, hr2, hb2⟩
    · have hx0 : most < (v : Int) := by omega
      clear hx hs
      go_wp2_with fail
      refine hsp.mono ?_
      rintro e w2 ⟨rfl, hr2, hb2⟩
      go_wp2
      go_ret
      exact ⟨rfl, hr2, hb2⟩
end Go.Proofs.Ytabgkkdgamacnaa
namespace Go.Proofs.Ytabgkkdgamacnaa
open Go.RowKit

theorem held_more {P : Program} {ops : Array Oper} {Q : Exit → Act → World → Prop} {md : Region.Mode} {S S' : World → Prop} (h : ∀ w, S' w → S w) :
    ∀ (fuel : Nat) (listed : Array Bool) (a : Act) (w : World), wpAnyH P md ops Q S' fuel listed a w → wpAnyH P md ops Q S fuel listed a w
  | 0, _, _, _, H => H
  | fuel + 1, _, _, _, H => ⟨H.1, fun i hi => wpOp_mono (fun a' w' h' => ⟨h _ h'.1, held_more h fuel _ a' w' h'.2⟩) (H.2 i hi)⟩
end Go.Proofs.Ytabgkkdgamacnaa
namespace Go.Proofs.Ytabgkkdgamacnaa
open Go.RowKit

section
variable {P : Program} {ops : Array Oper} {Q : Exit → Act → World → Prop} {md : Region.Mode} {S : World → Prop} {c : Nat}
def wpAnyC (P : Program) (md : Region.Mode) (ops : Array Oper) (Q : Exit → Act → World → Prop) (S : World → Prop) (c : Nat) : Nat → Array Bool → Act → World → Prop
  | 0, listed, a, w => Region.ready md ops listed = [] ∧ Q .normal a w
  | fuel + 1, listed, a, w =>
    (Region.ready md ops listed = [] → Q .normal a w) ∧
    ∀ i ∈ Region.ready md ops listed, wpOp P ops Q i (fun a' w' => ((listed.setIfInBounds i true).getD c true = false → S w') ∧ wpAnyC P md ops Q S c fuel (listed.setIfInBounds i true) a' w') a w
theorem any_of_c : ∀ (fuel : Nat) (listed : Array Bool) (a : Act) (w : World), wpAnyC P md ops Q S c fuel listed a w → wpAny P md ops Q fuel listed a w
  | 0, _, _, _, h => h
  | fuel + 1, _, _, _, h => ⟨h.1, fun i hi => wpOp_mono (fun a' w' h' => any_of_c fuel _ a' w' h'.2) (h.2 i hi)⟩
theorem getD_stays {listed : Array Bool} {i c : Nat} (h : listed.getD c true = true) : (listed.setIfInBounds i true).getD c true = true := by
  by_cases hic : i = c
  · subst hic
    rcases Nat.lt_or_ge i listed.size with h' | h'
    · simp [h']
    · simp
  · rw [getD_set_ne true hic]; exact h
/-- Behind c another condition may be held, or none. -/
theorem c_of_held {S' : World → Prop} : ∀ (fuel : Nat) (listed : Array Bool) (a : Act) (w : World), listed.getD c true = true → wpAnyH P md ops Q S' fuel listed a w → wpAnyC P md ops Q S c fuel listed a w
  | 0, _, _, _, _, h => h
  | fuel + 1, _, _, _, hc, h => ⟨h.1, fun i hi => wpOp_mono (fun a' w' h' => ⟨fun h0 => (by rw [getD_stays hc] at h0; cases h0), c_of_held fuel _ a' w' (getD_stays hc) h'.2⟩) (h.2 i hi)⟩
theorem c_first {S' : World → Prop} {i : Nat} {oi : Oper} {v : Value} (hi : ops[i]? = some oi) (hsel : ∀ (j : Nat) (o : Oper) cs b, ops[j]? = some o → o.op ≠ .select cs b) (hci : i ≠ c)
    (hQ : ∀ x a w, Q (.panic x) (a.put oi.dst v) w → Q (.panic x) a w) :
    ∀ (fuel : Nat) (listed : Array Bool) (a : Act) (w : World),
      (∀ j oj, ops[j]? = some oj → j ≠ i → listed.getD j true = false → (∀ e ∈ oj.after, Region.binds md e = true → e.on ≠ i) → oi.apart ops oj = true) →
      i ∈ Region.ready md ops listed → YieldsIf P ops S' oi v a →
      ((∀ w, S' w) ∨ ((∀ w, S w → S' w) ∧ Region.waitsFor md ops c i = true ∧ listed.getD c true = false)) → (listed.getD c true = false → S w) →
      wpAnyC P md ops Q S c fuel (listed.setIfInBounds i true) (a.put oi.dst v) w → wpAnyC P md ops Q S c (fuel + 1) listed a w := by
  intro fuel
  induction fuel with
  | zero =>
    intro listed a w _ hr hy hcond hS H
    have hS' : S' w := hcond.elim (fun h => h w) (fun h => h.1 w (hS h.2.2))
    refine ⟨fun h => (by rw [h] at hr; cases hr), fun j hj => ?_⟩
    by_cases hji : j = i
    · subst hji; exact hy.wpOp hi hS' ⟨fun h0 => hS (by rwa [getD_set_ne true hci] at h0), H⟩
    · have := ready_mono hj hji
      rw [H.1] at this
      cases this
  | succ fuel ih =>
    intro listed a w hfree hr hy hcond hS H
    have hS' : S' w := hcond.elim (fun h => h w) (fun h => h.1 w (hS h.2.2))
    refine ⟨fun h => (by rw [h] at hr; cases hr), fun j hj => ?_⟩
    by_cases hji : j = i
    · subst hji; exact hy.wpOp hi hS' ⟨fun h0 => hS (by rwa [getD_set_ne true hci] at h0), H⟩
    · have h1 := H.2 j (ready_mono hj hji)
      obtain ⟨hjun, oj, hoj, hall⟩ := mem_ready.1 hj
      have hnot : ∀ e ∈ oj.after, Region.binds md e = true → e.on ≠ i := fun e he hb heq => by
        have h1 := hall e he hb
        have h0 := (mem_ready.1 hr).1
        rw [heq] at h1
        rcases Nat.lt_or_ge i listed.size with h' | h'
        · simp [h'] at h0 h1; rw [h0] at h1; cases h1
        · simp [Array.getElem?_eq_none h'] at h1
      have h2 := wpOp_putIf hoj (hfree j oj hoj hji hjun hnot) (fun cs b => hsel i oi cs b hi) (fun cs b => hsel j oj cs b hoj) hQ hy h1
      have hfree' : ∀ k ok, ops[k]? = some ok → k ≠ i → (listed.setIfInBounds j true).getD k true = false →
          (∀ e ∈ ok.after, Region.binds md e = true → e.on ≠ i) → oi.apart ops ok = true := fun k ok hk hki hun hno => by
        refine hfree k ok hk hki ?_ hno
        by_cases hjk : j = k
        · subst hjk; exact hjun
        · rw [getD_set_ne true hjk] at hun; exact hun
      have hcond' : (∀ w, S' w) ∨ ((∀ w, S w → S' w) ∧ Region.waitsFor md ops c i = true ∧ (listed.setIfInBounds j true).getD c true = false) := by
        rcases hcond with h | ⟨h3, h4, h5⟩
        · exact .inl h
        · have hjc : j ≠ c := by
            rintro rfl
            obtain ⟨oj', hoj', e, he, hb, hon⟩ := Region.waitsFor_spec h4
            obtain rfl := Option.some.inj (hoj'.symm.trans hoj)
            exact hnot e he hb hon
          exact .inr ⟨h3, h4, by rw [getD_set_ne true hjc]; exact h5⟩
      refine wpOp_mono (fun a' w' h3 => ?_) h2
      have hS3 : (listed.setIfInBounds j true).getD c true = false → S w' := fun h0 => h3.2.1 (by rw [Array.setIfInBounds_comm _ _ (Ne.symm hji), getD_set_ne true hci]; exact h0)
      refine ⟨hS3, ih (listed.setIfInBounds j true) a' w' hfree' (ready_mono hr (Ne.symm hji)) h3.1 hcond' hS3 ?_⟩
      rw [Array.setIfInBounds_comm _ _ hji]
      exact h3.2.2

/-- An operation that yields in whatever world. -/
theorem c_take {i : Nat} {oi : Oper} {v : Value} {fuel : Nat} {listed : Array Bool} {a : Act} {w : World} (hi : ops[i]? = some oi) (hci : i ≠ c)
    (hs : Region.noSelect ops = true) (hf : Region.free md ops listed i = true) (hr : (Region.ready md ops listed).contains i = true)
    (hQ : ∀ c a w, Q (.panic c) (a.put oi.dst v) w → Q (.panic c) a w) (hy : YieldsIf P ops (fun _ => True) oi v a) (hS : S w)
    (h : wpAnyC P md ops Q S c fuel (listed.setIfInBounds i true) (a.put oi.dst v) w) : wpAnyC P md ops Q S c (fuel + 1) listed a w :=
  c_first hi (Region.noSelect_spec hs) hci hQ fuel listed a w (Region.free_spec hi hf) (by simpa using hr) hy (.inl fun _ => trivial) (fun _ => hS) h
/-- An operation that yields in every world that meets S, and that c waits for. -/
theorem c_read {i : Nat} {oi : Oper} {v : Value} {fuel : Nat} {listed : Array Bool} {a : Act} {w : World} (hi : ops[i]? = some oi) (hci : i ≠ c)
    (hs : Region.noSelect ops = true) (hf : Region.free md ops listed i = true) (hr : (Region.ready md ops listed).contains i = true) (hw : Region.waitsFor md ops c i = true) (hun : listed.getD c true = false)
    (hQ : ∀ c a w, Q (.panic c) (a.put oi.dst v) w → Q (.panic c) a w) (hy : YieldsIf P ops S oi v a) (hS : S w)
    (h : wpAnyC P md ops Q S c fuel (listed.setIfInBounds i true) (a.put oi.dst v) w) : wpAnyC P md ops Q S c (fuel + 1) listed a w :=
  c_first hi (Region.noSelect_spec hs) hci hQ fuel listed a w (Region.free_spec hi hf) (by simpa using hr) hy (.inr ⟨fun _ h => h, hw, hun⟩) (fun _ => hS) h
/-- Another operation, where nothing else can come up; S stays. -/
theorem c_step {i : Nat} {o : Oper} {fuel : Nat} {listed : Array Bool} {a : Act} {w : World} (hr : Region.ready md ops listed = [i]) (ho : ops[i]? = some o)
    (h : ∀ K' : Act → World → Prop, Shut (∀ a w, S w → (S w → wpAnyC P md ops Q S c fuel (listed.setIfInBounds i true) a w) → K' a w) → if Region.wanted o (yielded ops a.tmps) = true then Oper.wp P o a w K' Q else K' (a.put o.dst undef) w) :
    wpAnyC P md ops Q S c (fuel + 1) listed a w := by
  refine ⟨fun h0 => (by rw [hr] at h0; cases h0), fun j hj => ?_⟩
  rw [hr] at hj
  obtain rfl : j = i := by simpa using hj
  exact wpOp_step ho (fun K' hK => h K' (fun a w hS hW => hK a w ⟨fun _ => hS, hW hS⟩))
/-- c itself, where nothing else can come up; behind it S' is held. -/
theorem c_call {S' : World → Prop} {o : Oper} {fuel : Nat} {listed : Array Bool} {a : Act} {w : World} (hr : Region.ready md ops listed = [c]) (hl : (listed.setIfInBounds c true).getD c true = true) (ho : ops[c]? = some o)
    (h : ∀ K' : Act → World → Prop, Shut (∀ a w, S' w → (S' w → wpAnyH P md ops Q S' fuel (listed.setIfInBounds c true) a w) → K' a w) → if Region.wanted o (yielded ops a.tmps) = true then Oper.wp P o a w K' Q else K' (a.put o.dst undef) w) :
    wpAnyC P md ops Q S c (fuel + 1) listed a w := by
  refine ⟨fun h0 => (by rw [hr] at h0; cases h0), fun i hi => ?_⟩
  rw [hr] at hi
  obtain rfl : i = c := by simpa using hi
  exact wpOp_step ho (fun K' hK => h K' (fun a w hS hW => hK a w ⟨fun h0 => (by rw [hl] at h0; cases h0), c_of_held fuel _ a w hl (hW hS)⟩))
theorem c_start {id : Nat} {a : Act} {w : World} (c : Nat) (hm : P.follows .mixedOrders = true) (hS : S w.drew)
    (h : S w.drew → wpAnyC P .any ops Q S c ops.size (Array.replicate ops.size false) a w.drew) : (Code.region id ops true).wp P Q a w :=
  wp_region_any hm (any_of_c _ _ _ _ (h hS))
end

/-- A number is stored into a block that is known whole, as one step of a region that draws its order. -/
theorem step_set {P : Program} {ops : Array Oper} {o : Oper} {a : Act} {w : World} {K : Act → World → Prop} {Q : Exit → Act → World → Prop} {E : Prop} (hgd : o.guard = none) (ty : TypeId) (x y : Operand) (ho : o.op = .store ty x y)
    (hs : (P.info? ty).map (·.size) = some 1) (g k : Nat) (hx : a.eval x = .pointer (some ⟨g, k, none⟩)) (kd : IntKind) (n : Int) (hy : a.eval y = .int kd n) (cs : List Value) (t : TypeId)
    (hg : w.heap[g]? = some (.cells cs.toArray t (0, 0))) (hk : k < cs.length) (w0 : World) (hb : But g w0 w)
    (h : ∀ w', Hid (w'.heap[g]? = some (.cells (cs.set k (.int kd n)).toArray t (0, 0))) → But g w0 w' → K (a.put o.dst undef) w') :
    if Region.wanted o (yielded ops a.tmps) = true then Oper.wp P o a w K Q else E := by
  have hw : Region.wanted o (yielded ops a.tmps) = true := by simp [Region.wanted, hgd]
  rw [if_pos hw]
  obtain ⟨i, hi', hi2⟩ := Option.map_eq_some_iff.1 hs
  have hc : w.cell? ⟨g, k, none⟩ = some cs[k] := by rw [cell_of_row _ _ _ _ _ _ hg]; simp [hk]
  have hf : w.frozen? ⟨g, k, none⟩ = false := frozen_of_row _ _ _ _ _ hg
  have h1 := heap_setCell_same w g k _ _ (.int kd n) hg
  have h2 := h (w.setCell ⟨g, k, none⟩ (.int kd n)) (show _ = _ by rw [h1]; simp) (hb.set _)
  unfold Oper.wp
  simp [execOp, ho, hx, hy, Instr.storeAt, Instr.sureAddr, storeVar, sizeOf, typeInfo, hi', hi2, Value.cells, storeCells, run_store_int, stored, hc, hf, addr_add]
  exact h2
end Go.Proofs.Ytabgkkdgamacnaa
namespace Go.Proofs.Ytabgkkdgamacnaa
open Go.RowKit

theorem But.toBelow {g B : Nat} {w w' : World} (h : But g w w') (hg : B ≤ g) (hB : B ≤ w.heap.size) : Below B w w' := ⟨h.os, h.tape, h.output, h.size, fun i hi => h.block i (by omega) (fun e => by injection e; omega)⟩

set_option maxRecDepth 100000 in
theorem counted_ok (w : World) (lo hi g : Nat) (l : List UInt8) (bad : Bool) (most : Int) (x s : Nat) (hr : RdIs w lo hi g l bad) (hf : Vlt (frontOf l = (x, s))) (hs : 0 < s) (hx : (x : Int) ≤ max most 0) (hx2 : x ≤ (l.drop s).length) :
    Calls Try.prog 48 #[.pointer (some ⟨g, 0, none⟩), .int .i64 most] w fun e w' => ∃ A c, e = .returned (.slice A x c) ∧ x ≤ c ∧ SrcIn w' lo hi g A ((l.drop s).take x) ∧ RdIs w' lo hi g ((l.drop s).drop x) bad ∧ But g w w' := by
  have hnum := num_ok w lo hi g l bad most x s hr hf hs hx
  go_enter Try.func48, Try.ntmps48
  go_wp2_with fail
  refine hnum.mono ?_
  rintro e w1 ⟨rfl, hr1, hb1⟩
  have htk := take_ok w1 lo hi g (l.drop s) bad x hr1 hx2
  go_wp2_with fail
  refine htk.mono ?_
  rintro e w2 ⟨A2, c2, rfl, hc2, hs2, hr2, hb2⟩
  go_wp2
  go_ret
  exact ⟨A2, c2, rfl, hc2, hs2, hr2, hb1.trans hb2⟩
set_option maxRecDepth 100000 in
theorem counted_short (w : World) (lo hi g : Nat) (l : List UInt8) (bad : Bool) (most : Int) (x s : Nat) (hr : RdIs w lo hi g l bad) (hf : Vlt (frontOf l = (x, s))) (hs : 0 < s) (hx : (x : Int) ≤ max most 0) (hx2 : (l.drop s).length < x) :
    Calls Try.prog 48 #[.pointer (some ⟨g, 0, none⟩), .int .i64 most] w fun e w' => e = .returned (.slice none 0 0) ∧ RdIs w' lo hi g [] true ∧ But g w w' := by
  have hnum := num_ok w lo hi g l bad most x s hr hf hs hx
  go_enter Try.func48, Try.ntmps48
  go_wp2_with fail
  refine hnum.mono ?_
  rintro e w1 ⟨rfl, hr1, hb1⟩
  have htk := take_no w1 lo hi g (l.drop s) bad x hr1 hx2
  go_wp2_with fail
  refine htk.mono ?_
  rintro e w2 ⟨rfl, hr2, hb2⟩
  go_wp2
  go_ret
  exact ⟨rfl, hr2, hb1.trans hb2⟩

set_option maxRecDepth 100000 in
theorem rtext_ok (w : World) (lo hi g : Nat) (l : List UInt8) (bad : Bool) (most : Int) (x s : Nat) (hr : RdIs w lo hi g l bad) (hf : Vlt (frontOf l = (x, s))) (hs : 0 < s) (hx : (x : Int) ≤ max most 0) (hx2 : x ≤ (l.drop s).length) :
    Calls Try.prog 25 #[.pointer (some ⟨g, 0, none⟩), .int .i64 most] w fun e w' => e = .returned (.string ⟨((l.drop s).take x).toArray⟩) ∧ RdIs w' lo hi g ((l.drop s).drop x) bad ∧ But g w w' := by
  have hcn := counted_ok w lo hi g l bad most x s hr hf hs hx hx2
  have hlen : ((l.drop s).take x).length = x := by rw [List.length_take]; omega
  obtain ⟨T, hT⟩ : ∃ T, T = (l.drop s).take x := ⟨_, rfl⟩
  rw [← hT] at hcn hlen
  rw [← hT]
  have HLEN := Lib.hid hlen
  clear hT hlen hx2 hx hs hf hr
  go_enter Try.func25, Try.ntmps25
  go_wp2_with fail
  refine hcn.mono ?_
  rintro e w1 ⟨A1, c1, rfl, hc1, hs1, hr1, hb1⟩
  have hcv := conv_bytes (P := Try.prog) Try.underlying29 Try.underlying5 Try.underlying9 (hs1.byt hr1.1.2.2) x c1 HLEN.out
  go_wp2
  go_ret
  exact ⟨rfl, hr1, hb1⟩
end Go.Proofs.Ytabgkkdgamacnaa
namespace Go.Proofs.Ytabgkkdgamacnaa
open Go.RowKit

theorem u8_128 (x : Nat) (hx : x < 128) : bits .or .i64 (x : Int) 128 = ((x + 128 : Nat) : Int) := by
  have h : (BitVec.ofInt 64 (x : Int) ||| BitVec.ofInt 64 128).toNat = x + 128 := by
    rw [BitVec.toNat_or, BitVec.toNat_ofInt, show ((x : Int) % ((2 ^ 64 : Nat) : Int)).toNat = x by omega, show (BitVec.ofInt 64 128).toNat = 1 * 2 ^ 7 from rfl, or_add x 1 7 hx]
  show IntKind.i64.wrap ((BitVec.ofInt 64 (x : Int) ||| BitVec.ofInt 64 128).toNat : Int) = _
  rw [h, IntKind.wrap_i64]
  omega
theorem make9 (w : World) : (Instr.makeSlice 29 (.int .i64 0) (.int .i64 9)).run Try.prog w = .ok (.slice (some ⟨w.heap.size, 0, none⟩) 0 9) (w.alloc (.cells (bv (List.replicate 9 0)).toArray 5)) := by kernel_rfl
theorem Res.made9 (w : World) : Res (w.alloc (.cells (bv (List.replicate 9 0)).toArray 5)) w.heap.size 5 (some ⟨w.heap.size, 0, none⟩) 0 9 [] :=
  Res.row (Nat.le_refl _) (heap_alloc_new w _) (by omega) (by omega) rfl rfl rfl

set_option maxRecDepth 100000 in
set_option maxHeartbeats 1000000 in
theorem groups_any (w : World) (v : Int) (x : Nat) (hx : x < 9223372036854775808) (hv : max v 0 = (x : Int)) :
    Calls Try.prog 50 #[.int .i64 v] w fun e w' => ∃ A n c, e = .returned (.slice A n c) ∧ Res w' w.heap.size 5 A n c (gr x) ∧ Below w.heap.size w w' := by
  have hmk := make9 w
  obtain ⟨W, hW, _, hbW, hsW⟩ := one_new w (bv (List.replicate 9 0)).toArray 5
  have hr0 := Lib.hid (Res.made9 w)
  rw [hW] at hmk hr0
  clear hW
  rcases Int.lt_or_le v 0 with h | h
  · obtain rfl : x = 0 := by omega
    clear hv
    go_enter Try.func50, Try.ntmps50
    go_wp2
    go_loopw [0, 3] (fun a s wr => ∃ (k f m c' : Nat) (A' : Option Addr) (X : List UInt8), a = .int .i64 (k : Int) ∧ s = .slice A' m c' ∧ k < 2 ^ (7 * (f + 1)) ∧ k < 9223372036854775808 ∧ m + f ≤ 8 ∧ Hid (X ++ grN f k = gr 0) ∧ Hid (Res wr w.heap.size 5 A' m c' X) ∧ Below w.heap.size w wr) (fun a _ _ => (intOf a).toNat)
    case atStart => exact ⟨0, 8, 0, 9, _, [], rfl, rfl, by simp, by decide, Nat.le_refl _, rfl, hr0, hbW⟩
    case round =>
      clear hr0 hbW hmk hsW
      obtain ⟨k, f, m, c', A', X, rfl, rfl, hkf, hk, hm, hX, HR, hb⟩ := hrel
      by_cases h0 : k < 128
      · have hX2 : Hid (gr 0 = X ++ [UInt8.ofNat k]) := by
          show _ = _
          rw [← hX.out, grN_small f k h0]
        go_wp2_with (at_builtin; refine wp_append_bytes _ rfl (.tmp 18) (.tmp 21) 29 rfl 5 Try.underlying29 Try.infoByte w.heap.size A' m c' X rfl (HR.out.alloc _) ⟨wr.heap.size, 0, none⟩ 1 1 rfl [UInt8.ofNat k] rfl (new_byte _ _ _ _ (by simp; omega)) (by omega) (by have := hb.size; simp; omega) ?_)
        intro A3 c3 w3 hres3 hb3
        have hbel3 := hb3 w.heap.size w (Nat.le_refl _) (hb.alloc (by have := hb.size; omega) _)
        clear hb3
        go_wp2
        go_ret
        exact ⟨A3, m + 1, c3, rfl, by rw [hX2.out]; exact hres3, hbel3⟩
      · obtain ⟨f', rfl⟩ : ∃ f', f = f' + 1 := by
          cases f with
          | zero => exact absurd (show k < 128 by simpa using hkf) h0
          | succ f' => exact ⟨f', rfl⟩
        have hX2 : Hid ((X ++ [UInt8.ofNat (k % 128 + 128)]) ++ grN f' (k / 128) = gr 0) := by
          show _ = _
          rw [← hX.out, grN_more f' k h0, List.append_assoc]; rfl
        have hkf2 : k / 128 < 2 ^ (7 * (f' + 1)) := by
          have : 2 ^ (7 * (f' + 1 + 1)) = 2 ^ (7 * (f' + 1)) * 128 := by rw [show 7 * (f' + 1 + 1) = 7 * (f' + 1) + 7 by omega, Nat.pow_add]
          rw [this] at hkf
          exact Nat.div_lt_of_lt_mul (by rw [Nat.mul_comm]; exact hkf)
        obtain ⟨y, hy⟩ : ∃ y, y = k % 128 + 128 := ⟨_, rfl⟩
        have e1 : bits .or .i64 ((k : Int) % 128) 128 = (y : Int) := by
          have h := u8_128 (k % 128) (Nat.mod_lt _ (by decide))
          rw [← hy, Int.natCast_emod] at h
          exact h
        rw [← hy] at hX2
        have hy2 : y < 256 := by omega
        clear hy
        clear hkf hX
        go_wp2_with (at_builtin; refine wp_append_bytes _ rfl (.tmp 9) (.tmp 14) 29 rfl 5 Try.underlying29 Try.infoByte w.heap.size A' m c' X rfl (HR.out.alloc _) ⟨wr.heap.size, 0, none⟩ 1 1 rfl [UInt8.ofNat y] rfl (new_byte _ _ _ _ (by simp; omega)) (by omega) (by have := hb.size; simp; omega) ?_)
        intro A3 c3 w3 hres3 hb3
        have hbel3 := hb3 w.heap.size w (Nat.le_refl _) (hb.alloc (by have := hb.size; omega) _)
        clear hb3
        go_wp2
        go_roundw
        case rel => exact ⟨k / 128, f', m + 1, c3, A3, _, by go_num, rfl, hkf2, by omega, by omega, hX2, hres3, hbel3⟩
        case measure => simp [intOf]; omega
  · obtain rfl : v = (x : Int) := by omega
    clear hv
    go_enter Try.func50, Try.ntmps50
    go_wp2
    go_loopw [0, 3] (fun a s wr => ∃ (k f m c' : Nat) (A' : Option Addr) (X : List UInt8), a = .int .i64 (k : Int) ∧ s = .slice A' m c' ∧ k < 2 ^ (7 * (f + 1)) ∧ k < 9223372036854775808 ∧ m + f ≤ 8 ∧ Hid (X ++ grN f k = gr x) ∧ Hid (Res wr w.heap.size 5 A' m c' X) ∧ Below w.heap.size w wr) (fun a _ _ => (intOf a).toNat)
    case atStart => exact ⟨x, 8, 0, 9, _, [], rfl, rfl, by simpa using hx, hx, Nat.le_refl _, rfl, hr0, hbW⟩
    case round =>
      clear hr0 hbW hmk hsW
      obtain ⟨k, f, m, c', A', X, rfl, rfl, hkf, hk, hm, hX, HR, hb⟩ := hrel
      by_cases h0 : k < 128
      · have hX2 : Hid (gr x = X ++ [UInt8.ofNat k]) := by
          show _ = _
          rw [← hX.out, grN_small f k h0]
        go_wp2_with (at_builtin; refine wp_append_bytes _ rfl (.tmp 18) (.tmp 21) 29 rfl 5 Try.underlying29 Try.infoByte w.heap.size A' m c' X rfl (HR.out.alloc _) ⟨wr.heap.size, 0, none⟩ 1 1 rfl [UInt8.ofNat k] rfl (new_byte _ _ _ _ (by simp; omega)) (by omega) (by have := hb.size; simp; omega) ?_)
        intro A3 c3 w3 hres3 hb3
        have hbel3 := hb3 w.heap.size w (Nat.le_refl _) (hb.alloc (by have := hb.size; omega) _)
        clear hb3
        go_wp2
        go_ret
        exact ⟨A3, m + 1, c3, rfl, by rw [hX2.out]; exact hres3, hbel3⟩
      · obtain ⟨f', rfl⟩ : ∃ f', f = f' + 1 := by
          cases f with
          | zero => exact absurd (show k < 128 by simpa using hkf) h0
          | succ f' => exact ⟨f', rfl⟩
        have hX2 : Hid ((X ++ [UInt8.ofNat (k % 128 + 128)]) ++ grN f' (k / 128) = gr x) := by
          show _ = _
          rw [← hX.out, grN_more f' k h0, List.append_assoc]; rfl
        have hkf2 : k / 128 < 2 ^ (7 * (f' + 1)) := by
          have : 2 ^ (7 * (f' + 1 + 1)) = 2 ^ (7 * (f' + 1)) * 128 := by rw [show 7 * (f' + 1 + 1) = 7 * (f' + 1) + 7 by omega, Nat.pow_add]
          rw [this] at hkf
          exact Nat.div_lt_of_lt_mul (by rw [Nat.mul_comm]; exact hkf)
        obtain ⟨y, hy⟩ : ∃ y, y = k % 128 + 128 := ⟨_, rfl⟩
        have e1 : bits .or .i64 ((k : Int) % 128) 128 = (y : Int) := by
          have h := u8_128 (k % 128) (Nat.mod_lt _ (by decide))
          rw [← hy, Int.natCast_emod] at h
          exact h
        rw [← hy] at hX2
        have hy2 : y < 256 := by omega
        clear hy
        clear hkf hX
        go_wp2_with (at_builtin; refine wp_append_bytes _ rfl (.tmp 9) (.tmp 14) 29 rfl 5 Try.underlying29 Try.infoByte w.heap.size A' m c' X rfl (HR.out.alloc _) ⟨wr.heap.size, 0, none⟩ 1 1 rfl [UInt8.ofNat y] rfl (new_byte _ _ _ _ (by simp; omega)) (by omega) (by have := hb.size; simp; omega) ?_)
        intro A3 c3 w3 hres3 hb3
        have hbel3 := hb3 w.heap.size w (Nat.le_refl _) (hb.alloc (by have := hb.size; omega) _)
        clear hb3
        go_wp2
        go_roundw
        case rel => exact ⟨k / 128, f', m + 1, c3, A3, _, by go_num, rfl, hkf2, by omega, by omega, hX2, hres3, hbel3⟩
        case measure => simp [intOf]; omega
end Go.Proofs.Ytabgkkdgamacnaa
namespace Go.Proofs.Ytabgkkdgamacnaa
open Go.RowKit

set_option maxRecDepth 100000 in
theorem wnum_any (w : World) (A : Option Addr) (l : List UInt8) (n c : Nat) (v : Int) (x : Nat) (ha : Byt w w.heap.size A l) (hl : l.length = n) (hc : n ≤ c) (hn : n ≤ 35184372088832) (hx : x < 9223372036854775808) (hv : max v 0 = (x : Int)) :
    Calls Try.prog 27 #[.slice A n c, .int .i64 v] w fun e w' => ∃ A' m c', e = .returned (.slice A' m c') ∧ Res w' w.heap.size 5 A' m c' (l ++ gr x) ∧ Below w.heap.size w w' := by
  have hgr := groups_any w v x hx hv
  have HGL := Lib.hid (gr_le x)
  obtain ⟨G, hG⟩ : ∃ G, G = gr x := ⟨_, rfl⟩
  rw [← hG] at hgr HGL
  rw [← hG]
  have HL := Lib.hid hl
  clear hl hG
  go_enter Try.func27, Try.ntmps27
  go_wp2_with fail
  refine hgr.mono ?_
  rintro e w1 ⟨A1, n1, c1, rfl, hr1, hb1⟩
  have hprt := Prt.two (E := 29) (ha.next hb1) HL.out hc hr1.byt hr1.len hr1.cap
  have hcat := concat_b _ _ _ 2 2 hprt rfl (by decide) (by simp only [List.flatten_cons, List.flatten_nil, List.append_nil, List.length_append, HL.out]; have := HGL.out; omega)
  have hba := hb1.alloc hb1.size (.cells #[.slice A n c, .slice A1 n1 c1] 29)
  clear hprt hgr
  go_wp2_with fail
  refine hcat.mono ?_
  rintro e w2 ⟨A2, n2, c2, rfl, hr2, hb2⟩
  have hr3 : Res w2 w.heap.size 5 A2 n2 c2 (l ++ G) := by
    have h := hr2.base_le hba.size
    simpa using h
  have hb3 := below_next hba hba.size hb2
  clear hr2 hcat
  go_wp2
  go_ret
  exact ⟨A2, n2, c2, rfl, hr3, hb3⟩
end Go.Proofs.Ytabgkkdgamacnaa
namespace Go.Proofs.Ytabgkkdgamacnaa
open Go.RowKit

/-- Numbers of 64 bits with a sign. -/
def I64s (a : List Int) : Prop := ∀ x ∈ a, -9223372036854775808 ≤ x ∧ x < 9223372036854775808
theorem I64s.at_ {a : List Int} (h : I64s a) {k : Nat} (hk : k < a.length) : (iat a k).toNat < 9223372036854775808 ∧ max (iat a k) 0 = ((iat a k).toNat : Int) := by
  have := h _ (mem_iat hk)
  omega
theorem vput_len {a : List Int} (ha : a.length = 8) : (vput a).length ≤ 72 := by
  have := vpt_le a 8 (by omega)
  rw [vpt_all ha] at this
  omega

set_option maxRecDepth 100000 in
set_option maxHeartbeats 1000000 in
theorem vput_any (w : World) (A : Option Addr) (l : List UInt8) (n c : Nat) (a : List Int) (hA : Byt w w.heap.size A l) (hl : l.length = n) (hc : n ≤ c) (hn : n ≤ 17592186044416) (ha : a.length = 8) (hr : Hid (I64s a)) :
    Calls Try.prog 28 #[.slice A n c, .agg (i64v a).toArray] w fun e w' => ∃ A' m c', e = .returned (.slice A' m c') ∧ Res w' w.heap.size 5 A' m c' (l ++ vput a) ∧ Below w.heap.size w w' := by
  obtain ⟨W, hW, hgW, hbW, hsW⟩ := one_new w (i64v a).toArray 26
  have HW := Lib.hid hW
  have HA := Lib.hid ha
  have HL := Lib.hid hl
  have hAW := hA.below hbW
  have hAW2 := hAW.up hbW.size
  clear hW ha hl hA hAW hsW
  go_enter Try.func28, Try.ntmps28
  go_upto_region 1 with fail
  rw [HW.out]
  clear HW
  go_wp2_with (with_reducible refine wpList_load_row rfl 26 (.tmp 3) rfl w.heap.size rfl 26 (i64v a).toArray (0, 0) _ hgW.out Try.underlying26 rfl (by rw [int8_size HA.out]; kernel_rfl) ?_)
  go_loopw [5, 9] (fun s i wr => ∃ (k m c' : Nat) (D : Option Addr), k ≤ 8 ∧ s = .slice D m c' ∧ i = .int .i64 (k : Int) ∧ m ≤ 72 ∧ Hid (Res wr W.heap.size 5 D m c' (vpt a k)) ∧ Below W.heap.size W wr) (fun _ i _ => 8 - (intOf i).toNat)
  case atStart => exact ⟨0, 0, 0, none, by omega, rfl, rfl, by omega, ⟨rfl, .inl ⟨rfl, rfl⟩⟩, Below.refl _ _⟩
  case round =>
    obtain ⟨k, m, c', D, hk, rfl, rfl, hm, HR, hb⟩ := hrel
    by_cases hlt : k < 8
    · have hkl : k < a.length := by rw [HA.out]; exact hlt
      have hcell : (i64v a)[k]? = some (.int .i64 (iat a k)) := by rw [i64v_at, iat_at hkl]; rfl
      have hix := fun W => at_agg (P := Try.prog) Try.underlying26 Try.sizeI64 Try.underlying2 (i64v a) k _ (k : Int) rfl hlt hcell W
      have hnum := wnum_any wr D (vpt a k) m c' (iat a k) (iat a k).toNat HR.out.byt HR.out.len HR.out.cap (by omega) (hr.out.at_ hkl).1 (hr.out.at_ hkl).2
      rw [← vpt_next hkl] at hnum
      have HLE := Lib.hid (vpt_le a (k + 1) (by rw [HA.out]; omega))
      generalize iat a k = y at hnum hix
      clear hcell HR
      go_wp2_with fail
      refine hnum.mono ?_
      rintro e w1 ⟨D1, m1, c1, rfl, hr1, hb1⟩
      have hm1 : m1 ≤ 72 := by have h1 := hr1.len; have h2 := HLE.out; omega
      have HR1 := Lib.hid (hr1.base_le hb.size)
      have hb2 := below_next hb hb.size hb1
      clear hnum hr1 hb1 hix
      go_wp2
      go_roundw
      case rel => exact ⟨k + 1, m1, c1, D1, by omega, rfl, by go_num, hm1, HR1, hb2⟩
      case measure => simp [intOf]; omega
    · obtain rfl : k = 8 := by omega
      have hr8 := HR.out
      rw [vpt_all HA.out] at hr8
      have hprt := Prt.two (E := 29) (hAW2.next hb) HL.out hc hr8.byt hr8.len hr8.cap
      have hcat := concat_b _ _ _ 2 2 hprt rfl (by decide) (by simp only [List.flatten_cons, List.flatten_nil, List.append_nil, List.length_append, HL.out]; have := hr8.len; omega)
      have hbw := below_next hbW hbW.size hb
      have hba := hbw.alloc hbw.size (.cells #[.slice A n c, .slice D m c'] 29)
      clear hprt hr8 HR
      go_wp2_with fail
      refine hcat.mono ?_
      rintro e w2 ⟨A2, n2, c2, rfl, hr2, hb2⟩
      have hr3 : Res w2 w.heap.size 5 A2 n2 c2 (l ++ vput a) := by
        have h := hr2.base_le hba.size
        simpa using h
      have hb3 := below_next hba hba.size hb2
      clear hr2 hcat
      go_wp2
      go_ret
      exact ⟨A2, n2, c2, rfl, hr3, hb3⟩
end Go.Proofs.Ytabgkkdgamacnaa
namespace Go.Proofs.Ytabgkkdgamacnaa
open Go.RowKit

/-- One number of at most m read: the number, what is left, whether it is bad. -/
def rd1 (m : Nat) (s : List UInt8 × Bool) : Int × List UInt8 × Bool :=
  if (frontOf s.1).2 = 0 ∨ m < (frontOf s.1).1 then (0, [], true) else ((frontOf s.1).1, s.1.drop (frontOf s.1).2, s.2)
def rdk (m : Nat) : Nat → List UInt8 × Bool → List Int × List UInt8 × Bool
  | 0, s => ([], s)
  | k + 1, s => ((rdk m k s).1 ++ [(rd1 m (rdk m k s).2).1], (rd1 m (rdk m k s).2).2)
theorem rdk_len (m : Nat) (s : List UInt8 × Bool) : ∀ k, (rdk m k s).1.length = k
  | 0 => rfl
  | k + 1 => by rw [rdk, List.length_append, rdk_len m s k]; rfl
/-- Eight numbers, noughts if it is bad then. -/
def vrd (s : List UInt8 × Bool) : List Int × List UInt8 × Bool :=
  if (rdk 1099511627776 8 s).2.2 = true then (z8, (rdk 1099511627776 8 s).2) else rdk 1099511627776 8 s
theorem vrd_len (s : List UInt8 × Bool) : (vrd s).1.length = 8 := by
  rw [vrd]; split
  · rfl
  · exact rdk_len _ _ _
/-- The same by the document's own reader: where it stands in the bytes B. -/
def rd1R (B : List UInt8) (m : Nat) (s : Nat × Bool) : Int × Nat × Bool :=
  if s.2 = true then (0, s.1, true) else
  if (frontOf (B.drop s.1)).2 = 0 ∨ m < (frontOf (B.drop s.1)).1 then (0, s.1, true) else ((frontOf (B.drop s.1)).1, s.1 + (frontOf (B.drop s.1)).2, false)
def rdkR (B : List UInt8) (m : Nat) : Nat → Nat × Bool → List Int × Nat × Bool
  | 0, s => ([], s)
  | k + 1, s => ((rdkR B m k s).1 ++ [(rd1R B m (rdkR B m k s).2).1], (rd1R B m (rdkR B m k s).2).2)
theorem rdkR_len (B : List UInt8) (m : Nat) (s : Nat × Bool) : ∀ k, (rdkR B m k s).1.length = k
  | 0 => rfl
  | k + 1 => by rw [rdkR, List.length_append, rdkR_len B m s k]; rfl
def vrdR (B : List UInt8) (s : Nat × Bool) : List Int × Nat × Bool :=
  if (rdkR B 1099511627776 8 s).2.2 = true then (z8, (rdkR B 1099511627776 8 s).2) else rdkR B 1099511627776 8 s
/-- Both readers stand at one place. -/
def Alike (B : List UInt8) (s : List UInt8 × Bool) (t : Nat × Bool) : Prop := s.2 = t.2 ∧ t.1 ≤ B.length ∧ s.1 = if s.2 = true then [] else B.drop t.1
theorem alike_rd1 {B : List UInt8} {m : Nat} {s : List UInt8 × Bool} {t : Nat × Bool} (h : Alike B s t) : (rd1 m s).1 = (rd1R B m t).1 ∧ Alike B (rd1 m s).2 (rd1R B m t).2 := by
  obtain ⟨l, bad⟩ := s
  obtain ⟨i, bad'⟩ := t
  obtain ⟨rfl, h2, h3⟩ := h
  cases bad
  · simp only [Bool.false_eq_true, if_false] at h3
    subst h3
    have hl := front_len (B.drop i)
    rw [List.length_drop] at hl
    rw [rd1, rd1R]
    simp only [Bool.false_eq_true, if_false]
    by_cases hc : (frontOf (B.drop i)).2 = 0 ∨ m < (frontOf (B.drop i)).1
    · rw [if_pos hc, if_pos hc]
      exact ⟨rfl, rfl, h2, rfl⟩
    · rw [if_neg hc, if_neg hc]
      refine ⟨rfl, rfl, ?_, ?_⟩
      · show i + _ ≤ _
        have h2' : i ≤ B.length := h2
        omega
      · show (B.drop i).drop _ = _
        rw [List.drop_drop]; rfl
  · simp only [if_true] at h3
    subst h3
    exact ⟨rfl, rfl, h2, rfl⟩
theorem alike_rdk {B : List UInt8} {m : Nat} {s : List UInt8 × Bool} {t : Nat × Bool} (h : Alike B s t) : ∀ k, (rdk m k s).1 = (rdkR B m k t).1 ∧ Alike B (rdk m k s).2 (rdkR B m k t).2
  | 0 => ⟨rfl, h⟩
  | k + 1 => by
    have h1 := alike_rdk h k (m := m)
    have h2 := alike_rd1 (m := m) h1.2
    refine ⟨?_, h2.2⟩
    rw [rdk, rdkR, h1.1, h2.1]
theorem alike_vrd {B : List UInt8} {s : List UInt8 × Bool} {t : Nat × Bool} (h : Alike B s t) : (vrd s).1 = (vrdR B t).1 ∧ Alike B (vrd s).2 (vrdR B t).2 := by
  have h1 := alike_rdk h 8 (m := 1099511627776)
  rw [vrd, vrdR]
  generalize rdk 1099511627776 8 s = p at h1 ⊢
  generalize rdkR B 1099511627776 8 t = q at h1 ⊢
  rw [← h1.2.1]
  by_cases hb : p.2.2 = true
  · rw [if_pos hb, if_pos hb]; exact ⟨rfl, h1.2⟩
  · rw [if_neg hb, if_neg hb]; exact h1
/-- At the end of the bytes, both or none. -/
theorem alike_end {B : List UInt8} {s : List UInt8 × Bool} {t : Nat × Bool} (h : Alike B s t) : (!s.2 && decide (s.1.length = 0)) = (!t.2 && decide (t.1 = B.length)) := by
  obtain ⟨h1, h2, h3⟩ := h
  rw [h3, ← h1]
  cases s.2
  · simp only [Bool.false_eq_true, if_false, Bool.not_false, Bool.true_and, List.length_drop]
    apply decide_eq_decide.2
    omega
  · rfl
/-- What is written is read. -/
theorem vput_cons (x : Int) (r : List Int) : vput (x :: r) = gr x.toNat ++ vput r := rfl
theorem rdk_put {a : List Int} (hg : vgood a = true) (rest : List UInt8) : ∀ k, k ≤ a.length → rdk 1099511627776 k (vput a ++ rest, false) = (a.take k, vput (a.drop k) ++ rest, false)
  | 0, _ => rfl
  | k + 1, hk => by
    have h1 := rdk_put hg rest k (by omega)
    have hx := (vgood_iff a).1 hg k (by omega)
    have hd : a.drop k = iat a k :: a.drop (k + 1) := by
      rw [List.drop_eq_getElem_cons (by omega), show iat a k = a[k] by simp [iat, show k < a.length by omega]]
    have hf := front_gr (iat a k).toNat (by omega) (vput (a.drop (k + 1)) ++ rest)
    have hp := gr_pos (iat a k).toNat
    rw [rdk, h1, hd, vput_cons, List.append_assoc, rd1]
    simp only
    rw [hf]
    simp only
    rw [if_neg (by omega), List.drop_left, List.take_succ_eq_append_getElem (by omega), show a[k] = iat a k by simp [iat, show k < a.length by omega]]
    rw [show ((iat a k).toNat : Int) = iat a k by omega]
theorem vrd_put {a : List Int} (ha : a.length = 8) (hg : vgood a = true) : vrd (vput a, false) = (a, [], false) := by
  have h := rdk_put hg [] 8 (by omega)
  rw [List.append_nil, List.take_of_length_le (by omega), List.drop_eq_nil_of_le (by omega)] at h
  rw [vrd, h]; rfl
theorem vrd_seven : vrd ([1, 2, 3, 4, 5, 6, 7], false) = (z8, [], true) := by decide +kernel
end Go.Proofs.Ytabgkkdgamacnaa
namespace Go.Proofs.Ytabgkkdgamacnaa
open Go.RowKit

def noText : ByteArray := ⟨#[]⟩
/-- One text of at most m bytes read: the text, what is left, whether it is bad. -/
def rdt (m : Nat) (s : List UInt8 × Bool) : ByteArray × List UInt8 × Bool :=
  if (frontOf s.1).2 = 0 ∨ m < (frontOf s.1).1 ∨ (s.1.drop (frontOf s.1).2).length < (frontOf s.1).1 then (noText, [], true)
  else (⟨((s.1.drop (frontOf s.1).2).take (frontOf s.1).1).toArray⟩, (s.1.drop (frontOf s.1).2).drop (frontOf s.1).1, s.2)
/-- An edit read, a part behind the other. -/
structure ERead (s : List UInt8 × Bool) (e : Ed) (t : List UInt8 × Bool) : Prop where
  all : ∃ s1 s2 s3 s4 s5 s6 s7, rd1 7 s = (e.dev, s1) ∧ rd1 1099511627776 s1 = (e.num, s2) ∧ vrd s2 = (e.seen, s3) ∧ rd1 2 s3 = (e.kind, s4) ∧ rd1 1099511627776 s4 = (e.time, s5) ∧ rdt 40 s5 = (e.con, s6) ∧ rdt 40 s6 = (e.fld, s7) ∧ rdt 200 s7 = (e.val, t)
def eread (s : List UInt8 × Bool) : Ed × List UInt8 × Bool :=
  let a := rd1 7 s
  let b := rd1 1099511627776 a.2
  let c := vrd b.2
  let d := rd1 2 c.2
  let f := rd1 1099511627776 d.2
  let g := rdt 40 f.2
  let h := rdt 40 g.2
  let i := rdt 200 h.2
  (⟨a.1, b.1, c.1, d.1, g.1, h.1, i.1, f.1⟩, i.2)
theorem ERead.eq {s t : List UInt8 × Bool} {e : Ed} (h : ERead s e t) : eread s = (e, t) := by
  obtain ⟨s1, s2, s3, s4, s5, s6, s7, h1, h2, h3, h4, h5, h6, h7, h8⟩ := h.all
  simp only [eread, h1, h2, h3, h4, h5, h6, h7, h8]
theorem pair_is {α β : Type} (p : α × β) : ∃ x t, p = (x, t) := ⟨p.1, p.2, rfl⟩
theorem ERead.of (s : List UInt8 × Bool) : ERead s (eread s).1 (eread s).2 := by
  obtain ⟨x1, s1, h1⟩ := pair_is (rd1 7 s)
  obtain ⟨x2, s2, h2⟩ := pair_is (rd1 1099511627776 s1)
  obtain ⟨x3, s3, h3⟩ := pair_is (vrd s2)
  obtain ⟨x4, s4, h4⟩ := pair_is (rd1 2 s3)
  obtain ⟨x5, s5, h5⟩ := pair_is (rd1 1099511627776 s4)
  obtain ⟨x6, s6, h6⟩ := pair_is (rdt 40 s5)
  obtain ⟨x7, s7, h7⟩ := pair_is (rdt 40 s6)
  obtain ⟨x8, s8, h8⟩ := pair_is (rdt 200 s7)
  have h : ERead s ⟨x1, x2, x3, x4, x6, x7, x8, x5⟩ s8 := ⟨⟨s1, s2, s3, s4, s5, s6, s7, h1, h2, h3, h4, h5, h6, h7, h8⟩⟩
  rw [h.eq]
  exact h
/-- The edit that the bytes are, if they are one. -/
def egot (e : Ed) (t : List UInt8 × Bool) : Option Ed := if (!t.2 && decide (t.1.length = 0)) = true ∧ e.good = true then some e else none
def eget (l : List UInt8) : Option Ed := egot (eread (l, false)).1 (eread (l, false)).2

/-! What is written is read. -/
theorem rd1_gr {m : Nat} {x : Int} (hx : 0 ≤ x ∧ x ≤ (m : Int)) (hm : m < 9223372036854775808) (r : List UInt8) : rd1 m (gr x.toNat ++ r, false) = (x, r, false) := by
  have hf := front_gr x.toNat (by omega) r
  have hp := gr_pos x.toNat
  rw [rd1]; simp only
  rw [hf]; simp only
  rw [if_neg (by omega), List.drop_left, show ((x.toNat : Nat) : Int) = x by omega]
theorem rdt_txt {m : Nat} {s : ByteArray} (hm : s.size ≤ m) (hv : s.size < 9223372036854775808) (r : List UInt8) : rdt m (txt s ++ r, false) = (s, r, false) := by
  have hf := front_gr s.size hv (s.data.toList ++ r)
  have hp := gr_pos s.size
  have hz : s.data.toList.length = s.size := by simp
  rw [rdt, txt, List.append_assoc]; simp only
  rw [hf]; simp only
  rw [List.drop_left, if_neg (by rw [List.length_append]; omega), List.take_append_of_le_length (by omega), List.take_of_length_le (by omega), List.drop_append_of_le_length (by omega), List.drop_of_length_le (by omega), List.nil_append]
theorem vrd_put2 {a : List Int} (ha : a.length = 8) (hg : vgood a = true) (r : List UInt8) : vrd (vput a ++ r, false) = (a, r, false) := by
  have h := rdk_put hg r 8 (by omega)
  rw [List.take_of_length_le (by omega), List.drop_eq_nil_of_le (by omega)] at h
  rw [vrd, h]; rfl
theorem eget_put {e : Ed} (hl : e.seen.length = 8) (h : e.good = true) : eget e.put = some e := by
  have f := Ed.fine h
  have f1 := f.dev
  have f2 := f.num
  have f3 := f.time
  have f4 := f.kind
  have f5 := nm_size f.con
  have f6 := f.fld
  have f7 := f.val
  have hr : ERead (e.put, false) e ([], false) := by
    rw [Ed.put, if_pos h, Ed.raw]
    have h8 := rdt_txt (m := 200) (s := e.val) (by omega) (by omega) []
    rw [List.append_nil] at h8
    exact ⟨⟨_, _, _, _, _, _, _, rd1_gr (by omega) (by decide) _, rd1_gr (by omega) (by decide) _, vrd_put2 hl f.seen _, rd1_gr (by omega) (by decide) _, rd1_gr (by omega) (by decide) _, rdt_txt (by omega) (by omega) _, rdt_txt (by omega) (by omega) _, h8⟩⟩
  rw [eget, hr.eq, egot, if_pos ⟨rfl, h⟩]
theorem put_inj {a b : Ed} (ha : a.seen.length = 8) (hb : b.seen.length = 8) (ga : a.good = true) (gb : b.good = true) : decide (a.put = b.put) = decide (a = b) := by
  apply decide_eq_decide.2
  constructor
  · intro h
    have h1 := eget_put ha ga
    rw [h, eget_put hb gb] at h1
    exact (Option.some.inj h1).symm
  · rintro rfl; rfl

/-! What stands behind does not count. -/
theorem frL_more (r : List UInt8) : ∀ (l : List UInt8) (i a : Nat), (frL l i a).2 ≠ 0 → frL (l ++ r) i a = frL l i a
  | [], i, a, h => absurd rfl h
  | b :: l, i, a, h => by
    rw [frL] at h
    rw [List.cons_append, frL, frL]
    split
    · rename_i hb
      rw [if_pos hb] at h
      exact frL_more r l _ _ h
    · rfl
theorem front_more {l : List UInt8} (r : List UInt8) (h : (frontOf l).2 ≠ 0) : frontOf (l ++ r) = frontOf l := by
  rw [frontOf] at h
  rw [frontOf, frontOf, List.take_append]
  exact frL_more _ _ _ _ h
theorem rd1_more {m : Nat} {s t : List UInt8 × Bool} {x : Int} (h : rd1 m s = (x, t)) (ht : t.2 = false) (r : List UInt8) : s.2 = false ∧ rd1 m (s.1 ++ r, s.2) = (x, t.1 ++ r, t.2) := by
  rw [rd1] at h
  split at h
  · simp only [Prod.mk.injEq] at h
    rw [← h.2] at ht; exact absurd ht (by simp)
  · rename_i hc
    simp only [Prod.mk.injEq] at h
    obtain ⟨h1, rfl⟩ := h
    have hl := front_len s.1
    refine ⟨ht, ?_⟩
    rw [rd1]
    simp only
    rw [front_more r (by omega), if_neg hc, List.drop_append_of_le_length hl, h1]
theorem rdt_more {m : Nat} {s t : List UInt8 × Bool} {x : ByteArray} (h : rdt m s = (x, t)) (ht : t.2 = false) (r : List UInt8) : s.2 = false ∧ rdt m (s.1 ++ r, s.2) = (x, t.1 ++ r, t.2) := by
  rw [rdt] at h
  split at h
  · simp only [Prod.mk.injEq] at h
    rw [← h.2] at ht; exact absurd ht (by simp)
  · rename_i hc
    simp only [Prod.mk.injEq] at h
    obtain ⟨h1, rfl⟩ := h
    have hl := front_len s.1
    refine ⟨ht, ?_⟩
    rw [rdt]
    simp only
    rw [front_more r (by omega), List.drop_append_of_le_length hl, if_neg (by rw [List.length_append]; omega), List.take_append_of_le_length (by omega), List.drop_append_of_le_length (by omega), h1]
theorem rdk_more {m : Nat} {s : List UInt8 × Bool} (r : List UInt8) : ∀ k, (rdk m k s).2.2 = false → s.2 = false ∧ rdk m k (s.1 ++ r, s.2) = ((rdk m k s).1, (rdk m k s).2.1 ++ r, (rdk m k s).2.2)
  | 0, h => ⟨h, rfl⟩
  | k + 1, h => by
    have h1 := rd1_more (m := m) (s := (rdk m k s).2) (x := (rd1 m (rdk m k s).2).1) (t := (rd1 m (rdk m k s).2).2) rfl h r
    have h2 := rdk_more r k h1.1
    refine ⟨h2.1, ?_⟩
    rw [rdk, h2.2]
    have h3 := h1.2
    simp only
    rw [h3, rdk]
theorem vrd_more {s t : List UInt8 × Bool} {o : List Int} (h : vrd s = (o, t)) (ht : t.2 = false) (r : List UInt8) : s.2 = false ∧ vrd (s.1 ++ r, s.2) = (o, t.1 ++ r, t.2) := by
  rw [vrd] at h
  split at h
  · rename_i hb
    simp only [Prod.mk.injEq] at h
    rw [← h.2, hb] at ht; exact absurd ht (by simp)
  · rename_i hb
    have hb' : (rdk 1099511627776 8 s).2.2 = false := by simpa using hb
    have h2 := rdk_more r 8 hb'
    refine ⟨h2.1, ?_⟩
    rw [vrd, h2.2]
    simp only
    rw [if_neg hb, h]
theorem ERead.more {s t : List UInt8 × Bool} {e : Ed} (h : ERead s e t) (ht : t.2 = false) (r : List UInt8) : s.2 = false ∧ ERead (s.1 ++ r, s.2) e (t.1 ++ r, t.2) := by
  obtain ⟨s1, s2, s3, s4, s5, s6, s7, h1, h2, h3, h4, h5, h6, h7, h8⟩ := h.all
  have q8 := rdt_more h8 ht r
  have q7 := rdt_more h7 q8.1 r
  have q6 := rdt_more h6 q7.1 r
  have q5 := rd1_more h5 q6.1 r
  have q4 := rd1_more h4 q5.1 r
  have q3 := vrd_more h3 q4.1 r
  have q2 := rd1_more h2 q3.1 r
  have q1 := rd1_more h1 q2.1 r
  exact ⟨q1.1, ⟨⟨_, _, _, _, _, _, _, q1.2, q2.2, q3.2, q4.2, q5.2, q6.2, q7.2, q8.2⟩⟩⟩
/-- A beginning of one is none. -/
theorem eget_cut {e : Ed} (hl : e.seen.length = 8) (h : e.good = true) {k : Nat} (hk : k < e.put.length) : eget (e.put.take k) = none := by
  have h0 := eget_put hl h
  rw [eget, egot] at h0 ⊢
  by_cases hc : (!(eread (e.put.take k, false)).2.2 && decide ((eread (e.put.take k, false)).2.1.length = 0)) = true ∧ (eread (e.put.take k, false)).1.good = true
  · exfalso
    simp only [Bool.and_eq_true, Bool.not_eq_true', decide_eq_true_eq] at hc
    have hm := (ERead.of (e.put.take k, false)).more hc.1.1 (e.put.drop k)
    have h2 := hm.2.eq
    simp only at h2
    rw [List.take_append_drop] at h2
    split at h0
    · rename_i hq
      rw [h2] at hq
      simp only [Bool.and_eq_true, Bool.not_eq_true', decide_eq_true_eq, List.length_append, List.length_drop] at hq
      omega
    · exact absurd h0 (by simp)
  · rw [if_neg hc]
end Go.Proofs.Ytabgkkdgamacnaa
namespace Go.Proofs.Ytabgkkdgamacnaa
open Go.RowKit

theorem num_rdm (w : World) (lo hi g : Nat) (l : List UInt8) (bad : Bool) (m : Nat) (M : Int) (hM : M = (m : Int)) (hr : RdIs w lo hi g l bad) :
    Calls Try.prog 23 #[.pointer (some ⟨g, 0, none⟩), .int .i64 M] w fun e w' => ∃ x l' b', Vlt (rd1 m (l, bad) = (x, l', b')) ∧ e = .returned (.int .i64 x) ∧ RdIs w' lo hi g l' b' ∧ But g w w' := by
  subst hM
  obtain ⟨x, s, hf⟩ := pair_is (frontOf l)
  by_cases hc : s = 0 ∨ m < x
  · refine (num_no w lo hi g l bad m x s hr (vlt hf) (by omega)).mono ?_
    rintro e w' ⟨rfl, h1, h2⟩
    exact ⟨0, [], true, vlt (by rw [rd1]; simp only [hf]; rw [if_pos hc]), rfl, h1, h2⟩
  · refine (num_ok w lo hi g l bad m x s hr (vlt hf) (by omega) (by omega)).mono ?_
    rintro e w' ⟨rfl, h1, h2⟩
    exact ⟨x, l.drop s, bad, vlt (by rw [rd1]; simp only [hf]; rw [if_neg hc]), rfl, h1, h2⟩
set_option maxRecDepth 100000 in
theorem counted_no (w : World) (lo hi g : Nat) (l : List UInt8) (bad : Bool) (most : Int) (x s : Nat) (hr : RdIs w lo hi g l bad) (hf : Vlt (frontOf l = (x, s))) (hs : s = 0 ∨ max most 0 < (x : Int)) :
    Calls Try.prog 48 #[.pointer (some ⟨g, 0, none⟩), .int .i64 most] w fun e w' => ∃ A c, e = .returned (.slice A 0 c) ∧ RdIs w' lo hi g [] true ∧ But g w w' := by
  have hnum := num_no w lo hi g l bad most x s hr hf hs
  go_enter Try.func48, Try.ntmps48
  go_wp2_with fail
  refine hnum.mono ?_
  rintro e w1 ⟨rfl, hr1, hb1⟩
  have htk := take_ok w1 lo hi g [] true 0 hr1 (Nat.le_refl _)
  go_wp2_with fail
  refine htk.mono ?_
  rintro e w2 ⟨A2, c2, rfl, hc2, hs2, hr2, hb2⟩
  go_wp2
  go_ret
  exact ⟨A2, c2, rfl, hr2, hb1.trans hb2⟩
/-- Where what is counted is nothing. -/
theorem rtext_none (w : World) (lo hi g : Nat) (most : Int)
    (hcn : Calls Try.prog 48 #[.pointer (some ⟨g, 0, none⟩), .int .i64 most] w fun e w' => ∃ A c, e = .returned (.slice A 0 c) ∧ RdIs w' lo hi g [] true ∧ But g w w') :
    Calls Try.prog 25 #[.pointer (some ⟨g, 0, none⟩), .int .i64 most] w fun e w' => e = .returned (.string noText) ∧ RdIs w' lo hi g [] true ∧ But g w w' := by
  go_enter Try.func25, Try.ntmps25
  go_wp2_with fail
  refine hcn.mono ?_
  rintro e w1 ⟨A1, c1, rfl, hr1, hb1⟩
  have hcv := conv_bytes (P := Try.prog) Try.underlying29 Try.underlying5 Try.underlying9 (w := w1) (B := 0) (A := A1) (l := []) (.inl rfl) 0 c1 rfl
  go_wp2
  go_ret
  exact ⟨rfl, hr1, hb1⟩
theorem rtext_rdt (w : World) (lo hi g : Nat) (l : List UInt8) (bad : Bool) (m : Nat) (M : Int) (hM : M = (m : Int)) (hr : RdIs w lo hi g l bad) :
    Calls Try.prog 25 #[.pointer (some ⟨g, 0, none⟩), .int .i64 M] w fun e w' => ∃ x l' b', Vlt (rdt m (l, bad) = (x, l', b')) ∧ e = .returned (.string x) ∧ RdIs w' lo hi g l' b' ∧ But g w w' := by
  subst hM
  obtain ⟨x, s, hf⟩ := pair_is (frontOf l)
  by_cases hc : s = 0 ∨ m < x
  · refine (rtext_none w lo hi g m (counted_no w lo hi g l bad m x s hr (vlt hf) (by omega))).mono ?_
    rintro e w' ⟨rfl, h1, h2⟩
    exact ⟨noText, [], true, vlt (by rw [rdt]; simp only [hf]; rw [if_pos (by omega)]), rfl, h1, h2⟩
  · by_cases hd : (l.drop s).length < x
    · refine (rtext_none w lo hi g m ((counted_short w lo hi g l bad m x s hr (vlt hf) (by omega) (by omega) hd).mono fun e w' h => ⟨none, 0, h⟩)).mono ?_
      rintro e w' ⟨rfl, h1, h2⟩
      exact ⟨noText, [], true, vlt (by rw [rdt]; simp only [hf]; rw [if_pos (by omega)]), rfl, h1, h2⟩
    · refine (rtext_ok w lo hi g l bad m x s hr (vlt hf) (by omega) (by omega) (by omega)).mono ?_
      rintro e w' ⟨rfl, h1, h2⟩
      exact ⟨_, _, _, vlt (by rw [rdt]; simp only [hf]; rw [if_neg (by omega)]), rfl, h1, h2⟩
end Go.Proofs.Ytabgkkdgamacnaa
namespace Go.Proofs.Ytabgkkdgamacnaa
open Go.RowKit

theorem num_rd1 (w : World) (lo hi g : Nat) (l : List UInt8) (bad : Bool) (hr : RdIs w lo hi g l bad) :
    Calls Try.prog 23 #[.pointer (some ⟨g, 0, none⟩), .int .i64 1099511627776] w fun e w' => ∃ x l' b', Vlt (rd1 1099511627776 (l, bad) = (x, l', b')) ∧ e = .returned (.int .i64 x) ∧ RdIs w' lo hi g l' b' ∧ But g w w' := by
  obtain ⟨x, s, hf⟩ : ∃ x s, frontOf l = (x, s) := ⟨_, _, rfl⟩
  by_cases hc : s = 0 ∨ 1099511627776 < x
  · refine (num_no w lo hi g l bad 1099511627776 x s hr (vlt hf) (by omega)).mono ?_
    rintro e w' ⟨rfl, h1, h2⟩
    exact ⟨0, [], true, vlt (by rw [rd1]; simp only [hf]; rw [if_pos hc]), rfl, h1, h2⟩
  · refine (num_ok w lo hi g l bad 1099511627776 x s hr (vlt hf) (by omega) (by omega)).mono ?_
    rintro e w' ⟨rfl, h1, h2⟩
    exact ⟨x, l.drop s, bad, vlt (by rw [rd1]; simp only [hf]; rw [if_neg hc]), rfl, h1, h2⟩
/-- Read below k. -/
structure Got (o : List Int) (i : Nat) (s t : List UInt8 × Bool) : Prop where
  len : o.length = 8
  num : (rdk 1099511627776 i s).1 = o.take i
  rest : (rdk 1099511627776 i s).2 = t
theorem Got.step {o : List Int} {i : Nat} {s t u : List UInt8 × Bool} {x : Int} (h : Got o i s t) (hi : i < 8) (hx : rd1 1099511627776 t = (x, u)) : Got (o.set i x) (i + 1) s u := by
  refine ⟨by rw [List.length_set, h.len], ?_, ?_⟩
  · rw [rdk, h.num, h.rest, hx, List.take_succ_eq_append_getElem (by rw [List.length_set, h.len]; exact hi), List.take_set_of_le (Nat.le_refl _), List.getElem_set_self]
  · rw [rdk, h.rest, hx]
theorem Got.all {o : List Int} {s t : List UInt8 × Bool} (h : Got o 8 s t) : rdk 1099511627776 8 s = (o, t) := by
  have h1 := h.num
  rw [List.take_of_length_le (by rw [h.len]; decide)] at h1
  have h2 := h.rest
  generalize rdk 1099511627776 8 s = p at h1 h2 ⊢
  rw [← h1, ← h2]
theorem vrd_bad {s t : List UInt8 × Bool} {o : List Int} (h : rdk 1099511627776 8 s = (o, t)) (hb : t.2 = true) : vrd s = (z8, t) := by
  rw [vrd, h]
  generalize t = t at hb
  simp only
  rw [if_pos hb]
theorem vrd_good {s t : List UInt8 × Bool} {o : List Int} (h : rdk 1099511627776 8 s = (o, t)) (hb : t.2 = false) : vrd s = (o, t) := by
  rw [vrd, h]
  simp only
  rw [if_neg (by rw [hb]; exact Bool.false_ne_true)]
theorem built_vec0 : Try.prog.built 26 [] = some (i64v z8).toArray := by kernel_rfl

set_option maxRecDepth 100000 in
set_option maxHeartbeats 1000000 in
theorem vget_any (w : World) (lo hi g : Nat) (l : List UInt8) (bad : Bool) (hr : RdIs w lo hi g l bad) :
    Calls Try.prog 24 #[.pointer (some ⟨g, 0, none⟩)] w fun e w' => ∃ o l' b', Vlt (vrd (l, bad) = (o, l', b')) ∧ Hid (o.length = 8) ∧ e = .returned (.agg (i64v o).toArray) ∧ RdIs w' lo hi g l' b' ∧ But g w w' := by
  have hzf := zero_vec
  obtain ⟨W, hW, hgZ, hbW, hsW⟩ := one_new w (i64v z8).toArray 26
  have HW := Lib.hid hW
  have hs : w.heap.size < W.heap.size := by have := hsW.out; omega
  have hrW := hr.next hbW
  have hgw := hr.lt
  have hhi := hr.1.2.2
  clear hW hsW
  go_enter Try.func24, Try.ntmps24
  go_upto_region 1 with fail
  rw [HW.out]
  clear HW
  go_upto_region 2 with fail
  obtain ⟨V, hV⟩ : ∃ V, V = W.alloc (.cells (i64v z8).toArray 26) := ⟨_, rfl⟩
  rw [← hV]
  have gZ : Hid (V.heap[w.heap.size]? = some (.cells (i64v z8).toArray 26 (0, 0))) := by rw [hV]; exact (Below.heap_alloc _ _ _ (by omega)).trans hgZ.out
  have gO : Hid (V.heap[W.heap.size]? = some (.cells (i64v z8).toArray 26 (0, 0))) := by rw [hV]; exact heap_alloc_new _ _
  have hbV : Below w.heap.size w V := by rw [hV]; exact hbW.alloc hbW.size _
  have hrV : RdIs V lo hi g l bad := by rw [hV]; exact hrW.next ((Below.refl _ _).alloc (Nat.le_refl _) _)
  obtain ⟨R, hR⟩ : ∃ R, R = W.heap.size := ⟨_, rfl⟩
  rw [← hR] at gO hs ⊢
  clear hV hR hgZ hrW hr hbW
  have hsV : R < V.heap.size := (Array.getElem?_eq_some_iff.1 gO.out).1
  have hgR : g ≠ R := by omega
  go_wp2_with fail
  go_loopw [5] (fun s wr => ∃ (i : Nat) (o : List Int) (l' : List UInt8) (b' : Bool), i ≤ 8 ∧ s = .int .i64 (i : Int) ∧ Hid (wr.heap[R]? = some (.cells (i64v o).toArray 26 (0, 0))) ∧ Hid (wr.heap[w.heap.size]? = some (.cells (i64v z8).toArray 26 (0, 0))) ∧ Vlt (Got o i (l, bad) (l', b')) ∧ Hid (RdIs wr lo hi g l' b') ∧ But g w wr) (fun s _ => 8 - (intOf s).toNat)
  case atStart => exact ⟨0, z8, l, bad, by omega, rfl, gO, gZ, vlt ⟨rfl, rfl, rfl⟩, hrV, But.of_below hbV (Nat.le_refl _)⟩
  case round =>
    obtain ⟨i, o, l', b', hi8, rfl, hg, hz, hF, hrd, hbt⟩ := hrel
    by_cases hlt : i < 8
    · have hnum := num_rd1 wr lo hi g l' b' hrd.out
      have hol := Lib.hid hF.out.len
      clear gO gZ hrV
      go_wp2_with fail
      refine hnum.mono ?_
      rintro e w1 ⟨x, l2, b2, hx, rfl, hr1, hb1⟩
      have hg1 := row_but hg hb1 (fun e => hgR e.symm)
      have hz1 := row_but hz hb1 (by omega)
      have hF2 := vlt (hF.out.step hlt hx.out)
      have f0 : w1.frozen? ⟨R, i, none⟩ = false := frozen_of_row _ _ _ _ _ hg1.out
      have u0 := int_at hg1.out i (by rw [hol.out]; exact hlt)
      have hs2 := world_set_cell hg1.out i (.int .i64 x)
      rw [i64v_set] at hs2
      have hk : But R w1 (w1.setCell ⟨R, i, none⟩ (.int .i64 x)) := (But.refl R w1).set (i := i) (.int .i64 x)
      have hz2 := row_but hz1 hk (by omega)
      have hr2 := Lib.hid (hr1.far hk (.inr (by omega)))
      have hb2 := (hbt.trans hb1).on hk (by omega)
      generalize iat o i = oi at u0
      clear hnum hg1 hz1 hr1 hb1 hg hz hF hrd hbt hk hx hol
      go_wp2
      go_roundw
      case rel => exact ⟨i + 1, o.set i x, l2, b2, by omega, by go_num, hs2, hz2, hF2, hr2, hb2⟩
      case measure => simp [intOf]; omega
    · obtain rfl : i = 8 := by omega
      have HE := vlt hF.out.all
      have HOL := Lib.hid hF.out.len
      have hsz := Lib.hid (int8_size hF.out.len)
      have hbad := bad_any wr lo hi g l' b' hrd.out
      have hbz : Byt wr 0 none [] := .inl rfl
      clear hF gO gZ hrV
      go_wp2_with fail
      refine hbad.mono ?_
      rintro e w1 ⟨rfl, rfl⟩
      clear hbad hbz
      cases b'
      · have HV := vlt (vrd_good HE.out rfl)
        go_wp2_with (first
          | (with_reducible refine wpList_load_row rfl 26 (.tmp 3) rfl R rfl 26 (i64v o).toArray (0, 0) _ hg.out Try.underlying26 rfl (by rw [hsz.out]; kernel_rfl) ?_)
          | (with_reducible refine wpList_store_row rfl 26 (.tmp 2) (.tmp 16) rfl w.heap.size (i64v o).toArray rfl rfl 26 _ hz.out (by rw [hsz.out]; kernel_rfl) (by rw [hsz.out]; kernel_rfl) (all_oneCell_toArray (i64v_one _)) ?_))
        have hk := (But.refl w.heap.size wr).row (i64v o).toArray
        refine bodyPost_ret (v := .agg (i64v o).toArray) (results_cell_row Try.results24 _ _ w.heap.size 26 _ (0, 0) _ rfl (setRow_heap _ _ _ _ _ _ hz.out) Try.underlying26 rfl (by rw [hsz.out]; kernel_rfl)) rfl ⟨o, l', false, HV, HOL, rfl, hrd.out.far hk (.inr hhi), hbt.on hk (Nat.le_refl _)⟩
      · have HV := vlt (vrd_bad HE.out rfl)
        have hsz2 := Lib.hid (int8_size (show z8.length = 8 from rfl))
        go_wp2_with (first
          | (with_reducible refine wpList_build_as rfl 26 rfl _ built_vec0 ?_)
          | (with_reducible refine wpList_store_row rfl 26 (.tmp 2) (.tmp 15) rfl w.heap.size (i64v z8).toArray rfl rfl 26 _ hz.out (by kernel_rfl) (by kernel_rfl) (all_oneCell_toArray (i64v_one _)) ?_))
        have hk := (But.refl w.heap.size wr).row (i64v z8).toArray
        refine bodyPost_ret (v := .agg (i64v z8).toArray) (results_cell_row Try.results24 _ _ w.heap.size 26 _ (0, 0) _ rfl (setRow_heap _ _ _ _ _ _ hz.out) Try.underlying26 rfl (by kernel_rfl)) rfl ⟨z8, l', true, HV, rfl, rfl, hrd.out.far hk (.inr hhi), hbt.on hk (Nat.le_refl _)⟩
end Go.Proofs.Ytabgkkdgamacnaa
namespace Go.Proofs.Ytabgkkdgamacnaa
open Go.RowKit

theorem results_row_tmp {P : Program} {fn : Func} {p u : Tmp} {ty : TypeId} (h : fn.results = #[.cell p ty, .tmp u]) (tmps : Array Value) (w : World) (g : Nat) (t : TypeId) (cs : Array Value) (fr : Nat × Nat) (d : TypeDesc)
    (hp : tmps.getD p undef = .pointer (some ⟨g, 0, none⟩)) (hg : w.heap[g]? = some (.cells cs t fr))
    (hu : P.underlying ty = some d) (hd : (match d with | .struct _ | .array _ _ => true | _ => false) = true) (hi : (P.info? ty).map (·.size) = some cs.size) (v : Value) (hv : tmps.getD u undef = v) :
    (results fn tmps).run P w = .ok (.tuple #[.agg cs, v]) w := by
  rw [results_cell_tmp h, hp, hv]
  simp [asAddr, run_loadVar_row w g t ty cs fr d hg hu hd hi, Result.andThen]
end Go.Proofs.Ytabgkkdgamacnaa
namespace Go.Proofs.Ytabgkkdgamacnaa
open Go.RowKit

section
variable {P : Program} {t e n : Nat} (ht : P.underlying t = some (.array n e)) (he : P.underlying e = some (.int .u8)) (hs : (P.info? e).map (·.size) = some 1)
include ht he hs
theorem part_bytes (l : List UInt8) (k : Nat) (b : UInt8) (hb : l[k]? = some b) (w : World) : (part e (bv l).toArray (k * 1)).run P w = .ok (.int .u8 (b.toNat : Int)) w := by
  obtain ⟨i, hi', hi2⟩ := Option.map_eq_some_iff.1 hs
  have h1 : (bv l)[k]? = some (.int .u8 (b.toNat : Int)) := by rw [bv_at, hb]; rfl
  have _ := ht
  simp [part, isAgg, run_underlying he, h1]
theorem eq_bytes_same (l : List UInt8) (hl : l.length = n) (d : Nat) (w : World) : (Op.equalIn (d + 2) t (.agg (bv l).toArray) (.agg (bv l).toArray)).run P w = .ok true w := by
  obtain ⟨i, hi', hi2⟩ := Option.map_eq_some_iff.1 hs
  have hp := part_bytes ht he hs l
  have hfor : ∀ (is : List Nat), (∀ k ∈ is, k < l.length) → (forIn (m := Sem) is ((none : Option Bool), ()) fun i _ => do
      let a ← part e (bv l).toArray (i * 1)
      let b ← part e (bv l).toArray (i * 1)
      let r ← Op.equalIn (d + 1) e a b
      if (!r) = true then pure (ForInStep.done (some false, ())) else pure (ForInStep.yield (none, ()))).run P w = .ok (none, ()) w := by
    intro is
    induction is with
    | nil => intro _; simp
    | cons k ks ih =>
      intro hk
      have hk1 : k < l.length := hk k (by simp)
      have h1 := hp k l[k] (List.getElem?_eq_getElem hk1)
      have h2 := ih (fun j hj => hk j (by simp [hj]))
      rw [List.forIn_cons]
      simp only [Sem.run_bind, h1, Result.andThen_ok, run_equalIn_int w d e .u8 .u8 _ _ he]
      simpa using h2
  rw [Op.equalIn]
  have hsz : (sizeOf e).run P w = .ok 1 w := by simp [sizeOf, typeInfo, hi', hi2]
  simp only [Sem.run_bind, run_underlying ht, Result.andThen_ok, hsz]
  have hr := hfor (List.range' 0 n) (fun k hk => by rw [hl]; simpa using hk)
  simp only [Std.Legacy.Range.forIn_eq_forIn_range', Std.Legacy.Range.size, Nat.sub_zero, Nat.add_one_sub_one, Nat.div_one, hr]
  simp
theorem eql_bytes_same (l : List UInt8) (hl : l.length = n) (w : World) : (binOp .eql t (.agg (bv l).toArray) (.agg (bv l).toArray)).run P w = .ok (.bool true) w := by
  rw [run_eql_struct, eq_bytes_same ht he hs l hl 9998 w]
  rfl
end
/-- Operations with a guard that says yes: a whole row is read, an array is built, two arrays are held against each other. -/
theorem wpList_wanted {P : Program} {ops : Array Oper} {rest : List Oper} {o : Oper} {a : Act} {w : World} {Q : Exit → Act → World → Prop} (hw : Region.wanted o (yielded ops a.tmps) = true)
    (h : ∀ K : Act → World → Prop, (∀ a w, wpList P ops Q rest a w → K a w) → o.wp P a w K Q) : wpList P ops Q (o :: rest) a w :=
  wpList_step fun K hK => by rw [if_pos hw]; exact h K hK
theorem wpList_load_row_w {P : Program} {ops : Array Oper} {rest : List Oper} {o : Oper} {a : Act} {w : World} {Q : Exit → Act → World → Prop} (hw : Region.wanted o (yielded ops a.tmps) = true) (ty : TypeId) (x : Operand) (ho : o.op = .load ty x)
    (g : Nat) (hx : a.eval x = .pointer (some ⟨g, 0, none⟩)) (t : TypeId) (cs : Array Value) (fr : Nat × Nat) (d : TypeDesc) (hg : w.heap[g]? = some (.cells cs t fr))
    (hu : P.underlying ty = some d) (hd : (match d with | .struct _ | .array _ _ => true | _ => false) = true) (hi : (P.info? ty).map (·.size) = some cs.size)
    (h : wpList P ops Q rest (a.put o.dst (.agg cs)) w) : wpList P ops Q (o :: rest) a w :=
  wpList_wanted hw fun _ hK => wp_load_row ty x ho g hx t cs fr d hg hu hd hi (hK _ _ h)
theorem wpList_build_w {P : Program} {ops : Array Oper} {rest : List Oper} {o : Oper} {a : Act} {w : World} {Q : Exit → Act → World → Prop} (hw : Region.wanted o (yielded ops a.tmps) = true) (t : TypeId) (parts : Array (Nat × Operand)) (ho : o.op = .build t parts) (lst : List (Nat × Value)) (hp : (parts.map fun (i, x) => (i, a.eval x)).toList = lst) (cs : Array Value) (hf : P.built t lst = some cs)
    (h : wpList P ops Q rest (a.put o.dst (.agg cs)) w) : wpList P ops Q (o :: rest) a w :=
  wpList_wanted hw fun _ hK => wp_build t parts ho (by rw [hp, hf]; rfl) (by rw [hp, hf]; exact hK _ _ h)
theorem wpList_eql_w {P : Program} {ops : Array Oper} {rest : List Oper} {o : Oper} {a : Act} {w : World} {Q : Exit → Act → World → Prop} (hw : Region.wanted o (yielded ops a.tmps) = true) (t s : TypeId) (x y : Operand) (ho : o.op = .binOp .eql t x y s)
    (hm : P.eqGuardType P.depth t = false) (xs ys : Array Value) (hx : a.eval x = .agg xs) (hy : a.eval y = .agg ys) (b : Bool) (hr : (binOp .eql t (.agg xs) (.agg ys)).run P w = .ok (.bool b) w) (h : wpList P ops Q rest (a.put o.dst (.bool b)) w) : wpList P ops Q (o :: rest) a w :=
  wpList_wanted hw fun K hK => by
    have hg := run_eqGuard_agg (P := P) (w := w) .eql t x y xs ys hm
    unfold Oper.wp
    simp only [execOp, ho, hx, hy, Sem.run_bind, hg, hr, Result.andThen_ok]
    exact hK _ _ h
end Go.Proofs.Ytabgkkdgamacnaa
namespace Go.Proofs.Ytabgkkdgamacnaa
open Go.RowKit

/-- What is answered of bytes: the edit, and whether there is one. -/
def Gets (l : List UInt8) (x : Ed) (o : Bool) : Prop := eget l = (if o = true then some x else none) ∧ (o = false → x = ed0)
theorem gets_yes {l l' : List UInt8} {x : Ed} {b : Bool} (h : ERead (l, false) x (l', b)) (h1 : (!b && decide (l'.length = 0)) = true) (h2 : x.good = true) : Gets l x true := by
  refine ⟨?_, fun e => absurd e (by simp)⟩
  rw [eget, h.eq, egot, if_pos ⟨h1, h2⟩]; rfl
theorem gets_no {l l' : List UInt8} {x : Ed} {b : Bool} (h : ERead (l, false) x (l', b)) (h1 : (!b && decide (l'.length = 0)) = false ∨ x.good = false) : Gets l ed0 false := by
  refine ⟨?_, fun _ => rfl⟩
  rw [eget, h.eq, egot, if_neg (fun hh => by
    rcases h1 with h1 | h1
    · rw [h1] at hh; exact absurd hh.1 (by simp)
    · rw [h1] at hh; exact absurd hh.2 (by simp))]
  rfl
set_option maxRecDepth 100000 in
set_option maxHeartbeats 4000000 in
theorem oget_any (w : World) (A : Option Addr) (l : List UInt8) (n c : Nat) (hA : Byt w w.heap.size A l) (hl : l.length = n) (hn : n ≤ 70368744177664) :
    Calls Try.prog 9 #[.slice A n c] w fun e w' => ∃ x o, Vlt (Gets l x o) ∧ Hid (x.seen.length = 8) ∧ e = .returned (.tuple #[.agg x.cells.toArray, .int .i64 (if o = true then 0 else 3)]) ∧ Below w.heap.size w w' := by
  have hzf := zero_ed
  obtain ⟨W, hW, hgZ, hbW, hsW⟩ := one_new w ed0.cells.toArray 28
  have HW := Lib.hid hW
  have hs : w.heap.size < W.heap.size := by have := hsW.out; omega
  have hrd := read_any W A l n c ((hA.below hbW).up hbW.size) hl hn
  clear hW hsW hA hl hn
  go_enter Try.func9, Try.ntmps9
  go_upto_region 1 with fail
  rw [HW.out]
  clear HW
  go_wp2_with fail
  refine hrd.mono ?_
  rintro e w1 ⟨g, rfl, hr, hb⟩
  have hbw1 := below_next hbW hbW.size hb
  have gZ1 := row_next2 hgZ hb
  have hg1 := hr.1.1
  have hg2 := hr.1.2.1
  have hwg : w.heap.size ≤ g := by omega
  have hneR : w.heap.size ≠ g := by omega
  clear hrd hb hgZ hbW
  go_upto_region 3 with fail
  obtain ⟨V0, hV⟩ : ∃ V, V = w1.alloc (.cells ed0.cells.toArray 28) := ⟨_, rfl⟩
  rw [← hV]
  have gE0 : Hid (V0.heap[w1.heap.size]? = some (.cells ed0.cells.toArray 28 (0, 0))) := by rw [hV]; exact heap_alloc_new _ _
  have hb01 : Below w1.heap.size w1 V0 := by rw [hV]; exact (Below.refl _ _).alloc (Nat.le_refl _) _
  have gR0 := row_next2 gZ1 hb01
  have hr0 := hr.next hb01
  have hb0 := below_next hbw1 hbw1.size hb01
  obtain ⟨E, hE⟩ : ∃ E, E = w1.heap.size := ⟨_, rfl⟩
  have hneE : E ≠ g := by omega
  have hRE : w.heap.size ≠ E := by omega
  have hwE : w.heap.size ≤ E := by omega
  rw [← hE] at gE0 hr0 ⊢
  clear hV hE hr gZ1 hb01 hbw1 hg1 hg2 hs
  have hc := num_rdm V0 W.heap.size E g l false 7 7 rfl hr0
  go_wp2_with fail
  refine hc.mono ?_
  rintro e U ⟨x1, l1, b1, hx1, rfl, hr, hb⟩
  have gE := row_but gE0 hb hneE
  have gR := row_but gR0 hb hneR
  have f0 : U.frozen? ⟨E, 0, none⟩ = false := frozen_of_row _ _ _ _ _ gE.out
  have u0 := ed_dev gE
  have gEn := put_dev gE x1
  have hk : But E U (U.setCell ⟨E, 0, none⟩ (.int .i64 x1)) := (But.refl E U).set (i := 0) (.int .i64 x1)
  have gRn := row_but gR hk hRE
  have hrn := hr.far hk (.inr (Nat.le_refl _))
  have hbm := But.below hb0 hb hwg hb0.size
  have hbn := But.below hbm hk hwE hbm.size
  clear hc gE gR hr hb hk hbm gE0 gR0 hr0 hb0
  go_upto_region 4 with fail
  obtain ⟨V1, hV⟩ : ∃ V, V = U.setCell ⟨E, 0, none⟩ (.int .i64 x1) := ⟨_, rfl⟩
  rw [← hV] at gRn hrn hbn gEn ⊢
  have gE1 := gEn
  have gR1 := gRn
  have hr1 := hrn
  have hb1 := hbn
  clear hV gEn gRn hrn hbn f0 u0
  have hc := num_rdm V1 W.heap.size E g l1 b1 1099511627776 1099511627776 rfl hr1
  go_wp2_with fail
  refine hc.mono ?_
  rintro e U ⟨x2, l2, b2, hx2, rfl, hr, hb⟩
  have gE := row_but gE1 hb hneE
  have gR := row_but gR1 hb hneR
  have f0 : U.frozen? ⟨E, 1, none⟩ = false := frozen_of_row _ _ _ _ _ gE.out
  have u0 := ed_num gE
  have gEn := put_num gE x2
  have hk : But E U (U.setCell ⟨E, 1, none⟩ (.int .i64 x2)) := (But.refl E U).set (i := 1) (.int .i64 x2)
  have gRn := row_but gR hk hRE
  have hrn := hr.far hk (.inr (Nat.le_refl _))
  have hbm := But.below hb1 hb hwg hb1.size
  have hbn := But.below hbm hk hwE hbm.size
  clear hc gE gR hr hb hk hbm gE1 gR1 hr1 hb1
  go_upto_region 5 with fail
  obtain ⟨V2, hV⟩ : ∃ V, V = U.setCell ⟨E, 1, none⟩ (.int .i64 x2) := ⟨_, rfl⟩
  rw [← hV] at gRn hrn hbn gEn ⊢
  have gE2 := gEn
  have gR2 := gRn
  have hr2 := hrn
  have hb2 := hbn
  clear hV gEn gRn hrn hbn f0 u0
  have hc := vget_any V2 W.heap.size E g l2 b2 hr2
  go_wp2_with fail
  refine hc.mono ?_
  rintro e U ⟨x3, l3, b3, hx3, hol, rfl, hr, hb⟩
  have gE := row_but gE2 hb hneE
  have gR := row_but gR2 hb hneR
  have gEn := put_seen gE ed0_len x3 hol.out
  have hk := gEn.2
  have ht := there_seen gE ed0_len x3 hol.out
  have gRn := row_but gR hk hRE
  have hrn := hr.far hk (.inr (Nat.le_refl _))
  have hbm := But.below hb2 hb hwg hb2.size
  have hbn := But.below hbm hk hwE hbm.size
  clear hc gE gR hr hb hk hbm gE2 gR2 hr2 hb2
  go_upto_region 6 with (with_reducible refine wpList_store_mid rfl 26 (.tmp 18) (.tmp 17) rfl E 2 (i64v x3).toArray rfl rfl ht (by rw [List.size_toArray, i64v_len, hol.out]; kernel_rfl) (all_oneCell_toArray (i64v_one _)) ?_)
  obtain ⟨V3, hV⟩ : ∃ V, V = U.setCells E 2 (i64v x3) := ⟨_, rfl⟩
  rw [← hV] at gRn hrn hbn gEn ⊢
  have gE3 := gEn.1
  have gR3 := gRn
  have hr3 := hrn
  have hb3 := hbn
  clear hV gEn gRn hrn hbn ht
  have hc := num_rdm V3 W.heap.size E g l3 b3 2 2 rfl hr3
  go_wp2_with fail
  refine hc.mono ?_
  rintro e U ⟨x4, l4, b4, hx4, rfl, hr, hb⟩
  have gE := row_but gE3 hb hneE
  have gR := row_but gR3 hb hneR
  have f0 : U.frozen? ⟨E, 10, none⟩ = false := frozen_of_row _ _ _ _ _ gE.out
  have u0 := ed_kind gE hol.out
  have gEn := put_kind gE hol.out x4
  have hk : But E U (U.setCell ⟨E, 10, none⟩ (.int .i64 x4)) := (But.refl E U).set (i := 10) (.int .i64 x4)
  have gRn := row_but gR hk hRE
  have hrn := hr.far hk (.inr (Nat.le_refl _))
  have hbm := But.below hb3 hb hwg hb3.size
  have hbn := But.below hbm hk hwE hbm.size
  clear hc gE gR hr hb hk hbm gE3 gR3 hr3 hb3
  go_upto_region 7 with fail
  obtain ⟨V4, hV⟩ : ∃ V, V = U.setCell ⟨E, 10, none⟩ (.int .i64 x4) := ⟨_, rfl⟩
  rw [← hV] at gRn hrn hbn gEn ⊢
  have gE4 := gEn
  have gR4 := gRn
  have hr4 := hrn
  have hb4 := hbn
  clear hV gEn gRn hrn hbn f0 u0
  have hc := num_rdm V4 W.heap.size E g l4 b4 1099511627776 1099511627776 rfl hr4
  go_wp2_with fail
  refine hc.mono ?_
  rintro e U ⟨x5, l5, b5, hx5, rfl, hr, hb⟩
  have gE := row_but gE4 hb hneE
  have gR := row_but gR4 hb hneR
  have f0 : U.frozen? ⟨E, 14, none⟩ = false := frozen_of_row _ _ _ _ _ gE.out
  have u0 := ed_time gE hol.out
  have gEn := put_time gE hol.out x5
  have hk : But E U (U.setCell ⟨E, 14, none⟩ (.int .i64 x5)) := (But.refl E U).set (i := 14) (.int .i64 x5)
  have gRn := row_but gR hk hRE
  have hrn := hr.far hk (.inr (Nat.le_refl _))
  have hbm := But.below hb4 hb hwg hb4.size
  have hbn := But.below hbm hk hwE hbm.size
  clear hc gE gR hr hb hk hbm gE4 gR4 hr4 hb4
  go_upto_region 8 with fail
  obtain ⟨V5, hV⟩ : ∃ V, V = U.setCell ⟨E, 14, none⟩ (.int .i64 x5) := ⟨_, rfl⟩
  rw [← hV] at gRn hrn hbn gEn ⊢
  have gE5 := gEn
  have gR5 := gRn
  have hr5 := hrn
  have hb5 := hbn
  clear hV gEn gRn hrn hbn f0 u0
  have hc := rtext_rdt V5 W.heap.size E g l5 b5 40 40 rfl hr5
  go_wp2_with fail
  refine hc.mono ?_
  rintro e U ⟨x6, l6, b6, hx6, rfl, hr, hb⟩
  have gE := row_but gE5 hb hneE
  have gR := row_but gR5 hb hneR
  have f0 : U.frozen? ⟨E, 11, none⟩ = false := frozen_of_row _ _ _ _ _ gE.out
  have u0 := ed_con gE hol.out
  have gEn := put_con gE hol.out x6
  have hk : But E U (U.setCell ⟨E, 11, none⟩ (.string x6)) := (But.refl E U).set (i := 11) (.string x6)
  have gRn := row_but gR hk hRE
  have hrn := hr.far hk (.inr (Nat.le_refl _))
  have hbm := But.below hb5 hb hwg hb5.size
  have hbn := But.below hbm hk hwE hbm.size
  clear hc gE gR hr hb hk hbm gE5 gR5 hr5 hb5
  go_upto_region 9 with fail
  obtain ⟨V6, hV⟩ : ∃ V, V = U.setCell ⟨E, 11, none⟩ (.string x6) := ⟨_, rfl⟩
  rw [← hV] at gRn hrn hbn gEn ⊢
  have gE6 := gEn
  have gR6 := gRn
  have hr6 := hrn
  have hb6 := hbn
  clear hV gEn gRn hrn hbn f0 u0
  have hc := rtext_rdt V6 W.heap.size E g l6 b6 40 40 rfl hr6
  go_wp2_with fail
  refine hc.mono ?_
  rintro e U ⟨x7, l7, b7, hx7, rfl, hr, hb⟩
  have gE := row_but gE6 hb hneE
  have gR := row_but gR6 hb hneR
  have f0 : U.frozen? ⟨E, 12, none⟩ = false := frozen_of_row _ _ _ _ _ gE.out
  have u0 := ed_fld gE hol.out
  have gEn := put_fld gE hol.out x7
  have hk : But E U (U.setCell ⟨E, 12, none⟩ (.string x7)) := (But.refl E U).set (i := 12) (.string x7)
  have gRn := row_but gR hk hRE
  have hrn := hr.far hk (.inr (Nat.le_refl _))
  have hbm := But.below hb6 hb hwg hb6.size
  have hbn := But.below hbm hk hwE hbm.size
  clear hc gE gR hr hb hk hbm gE6 gR6 hr6 hb6
  go_upto_region 10 with fail
  obtain ⟨V7, hV⟩ : ∃ V, V = U.setCell ⟨E, 12, none⟩ (.string x7) := ⟨_, rfl⟩
  rw [← hV] at gRn hrn hbn gEn ⊢
  have gE7 := gEn
  have gR7 := gRn
  have hr7 := hrn
  have hb7 := hbn
  clear hV gEn gRn hrn hbn f0 u0
  have hc := rtext_rdt V7 W.heap.size E g l7 b7 200 200 rfl hr7
  go_wp2_with fail
  refine hc.mono ?_
  rintro e U ⟨x8, l8, b8, hx8, rfl, hr, hb⟩
  have gE := row_but gE7 hb hneE
  have gR := row_but gR7 hb hneR
  have f0 : U.frozen? ⟨E, 13, none⟩ = false := frozen_of_row _ _ _ _ _ gE.out
  have u0 := ed_val gE hol.out
  have gEn := put_val gE hol.out x8
  have hk : But E U (U.setCell ⟨E, 13, none⟩ (.string x8)) := (But.refl E U).set (i := 13) (.string x8)
  have gRn := row_but gR hk hRE
  have hrn := hr.far hk (.inr (Nat.le_refl _))
  have hbm := But.below hb7 hb hwg hb7.size
  have hbn := But.below hbm hk hwE hbm.size
  clear hc gE gR hr hb hk hbm gE7 gR7 hr7 hb7
  go_upto_region 11 with fail
  obtain ⟨V8, hV⟩ : ∃ V, V = U.setCell ⟨E, 13, none⟩ (.string x8) := ⟨_, rfl⟩
  rw [← hV] at gRn hrn hbn gEn ⊢
  have gE8 := gEn
  have gR8 := gRn
  have hr8 := hrn
  have hb8 := hbn
  clear hV gEn gRn hrn hbn f0 u0
  have HR := vlt (show ERead (l, false) (Ed.mk x1 x2 x3 x4 x6 x7 x8 x5) (l8, b8) from ⟨⟨_, _, _, _, _, _, _, hx1.out, hx2.out, hx3.out, hx4.out, hx5.out, hx6.out, hx7.out, hx8.out⟩⟩)
  obtain ⟨x, hx⟩ : ∃ x, x = Ed.mk x1 x2 x3 x4 x6 x7 x8 x5 := ⟨_, rfl⟩
  have HXL := Lib.hid (show x.seen.length = 8 by rw [hx]; exact hol.out)
  rw [← hx] at gE8 HR
  clear hx hx1 hx2 hx3 hx4 hx5 hx6 hx7 hx8 hol
  have hend := end_any V8 W.heap.size E g l8 b8 hr8
  obtain ⟨o1, ho1⟩ : ∃ o, o = (!b8 && decide (l8.length = 0)) := ⟨_, rfl⟩
  have H1 := vlt ho1
  rw [← ho1] at hend
  clear ho1
  have d1 := fun w => ogood_any w x HXL.out
  obtain ⟨o2, ho2⟩ : ∃ o, o = x.good := ⟨_, rfl⟩
  have H2 := vlt ho2
  simp only [← ho2] at d1
  clear ho2
  go_wp2_with fail
  refine hend.mono ?_
  rintro e U ⟨rfl, rfl⟩
  clear hend hr8
  cases o1
  · clear d1
    have HN := vlt (gets_no HR.out (.inl H1.out.symm))
    go_wp2_with (first | (with_reducible refine wpList_build_as rfl 28 rfl _ built_ed0 ?_) | (with_reducible refine wpList_store_row rfl 28 (.tmp 2) (.tmp 42) rfl w.heap.size ed0.cells.toArray rfl rfl 28 _ gR8.out (by kernel_rfl) (by kernel_rfl) (all_oneCell_toArray (Ed.cells_one _)) ?_))
    refine bodyPost_ret (v := .tuple #[.agg ed0.cells.toArray, .int .i64 3]) (results_row_tmp Try.results9 _ _ w.heap.size 28 _ (0, 0) _ rfl (setRow_heap _ _ _ _ _ _ gR8.out) Try.underlying28 rfl (by kernel_rfl) _ rfl) rfl ⟨ed0, false, HN, ed0_len, rfl, below_setRow hb8 (Nat.le_refl _) _⟩
  · go_wp2_with (with_reducible refine wpList_load_row_w (by kernel_rfl) 28 (.tmp 5) rfl E rfl 28 x.cells.toArray (0, 0) _ gE8.out Try.underlying28 rfl (by rw [Ed.cells_size HXL.out]; kernel_rfl) ?_)
    refine (d1 _).mono ?_
    rintro e U ⟨rfl, hb⟩
    have gE := row_next2 gE8 hb
    have gR := row_next2 gR8 hb
    have hbU := below_next hb8 hb8.size hb
    clear d1 hb gE8 gR8 hb8
    cases o2
    · skip
      have HN := vlt (gets_no HR.out (.inr H2.out.symm))
      go_wp2_with (first | (with_reducible refine wpList_build_as rfl 28 rfl _ built_ed0 ?_) | (with_reducible refine wpList_store_row rfl 28 (.tmp 2) (.tmp 42) rfl w.heap.size ed0.cells.toArray rfl rfl 28 _ gR.out (by kernel_rfl) (by kernel_rfl) (all_oneCell_toArray (Ed.cells_one _)) ?_))
      refine bodyPost_ret (v := .tuple #[.agg ed0.cells.toArray, .int .i64 3]) (results_row_tmp Try.results9 _ _ w.heap.size 28 _ (0, 0) _ rfl (setRow_heap _ _ _ _ _ _ gR.out) Try.underlying28 rfl (by kernel_rfl) _ rfl) rfl ⟨ed0, false, HN, ed0_len, rfl, below_setRow hbU (Nat.le_refl _) _⟩
    · have HY := vlt (gets_yes HR.out H1.out.symm H2.out.symm)
      go_wp2_with (first | (with_reducible refine wpList_load_row rfl 28 (.tmp 5) rfl E rfl 28 x.cells.toArray (0, 0) _ gE.out Try.underlying28 rfl (by rw [Ed.cells_size HXL.out]; kernel_rfl) ?_) | (with_reducible refine wpList_store_row rfl 28 (.tmp 2) (.tmp 43) rfl w.heap.size x.cells.toArray rfl rfl 28 _ gR.out (by rw [Ed.cells_size HXL.out]; kernel_rfl) (by rw [Ed.cells_size HXL.out]; kernel_rfl) (all_oneCell_toArray (Ed.cells_one _)) ?_))
      refine bodyPost_ret (v := .tuple #[.agg x.cells.toArray, .int .i64 0]) (results_row_tmp Try.results9 _ _ w.heap.size 28 _ (0, 0) _ rfl (setRow_heap _ _ _ _ _ _ gR.out) Try.underlying28 rfl (by rw [Ed.cells_size HXL.out]; kernel_rfl) _ rfl) rfl ⟨x, true, HY, HXL, rfl, below_setRow hbU (Nat.le_refl _) _⟩
end Go.Proofs.Ytabgkkdgamacnaa
