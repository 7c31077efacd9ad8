/-
  Contracts of the document's own reader of chapter 11: Num, End. Conditions: the reader lies in a block of its own, apart from the bytes that it has; at most 2^40 bytes.
-/
import Derived.Test.YtkenldlhkmocjaaVcG
import Derived.Test.YtkenldlhkmocjaaWpl
namespace Go.Proofs.Ytkenldlhkmocjaa
open Go.RowKit

/-- The document's own reader at g: it stands at t in the bytes B; is it bad? -/
def RrIs (w : World) (z g : Nat) (A : Option Addr) (n c : Nat) (B : List UInt8) (t : Nat) (bad : Bool) : Prop :=
  (g < w.heap.size ∧ z ≤ w.heap.size) ∧ w.heap[g]? = some (.cells #[.slice A n c, .int .i64 (t : Int), .bool bad] 38 (0, 0)) ∧ SrcIn w 0 z g A B
section
variable {w w' : World} {z g n c t k : Nat} {A : Option Addr} {B : List UInt8} {bad : Bool}
theorem RrIs.toN (h : RrIs w z g A n c B t bad) (k : Nat) : RrIs (w.drewN k) z g A n c B t bad := h
theorem RrIs.byt (h : RrIs w z g A n c B t bad) : Byt w w.heap.size A B := h.2.2.byt h.1.2
theorem RrIs.but (h : RrIs w z g A n c B t bad) {cs : List Value} (hb : But g w w') (hr : w'.heap[g]? = some (.cells cs.toArray 38 (0, 0))) (t' : Nat) (b' : Bool) (hcs : cs = [.slice A n c, .int .i64 (t' : Int), .bool b']) : RrIs w' z g A n c B t' b' :=
  ⟨⟨Nat.lt_of_lt_of_le h.1.1 hb.size, Nat.le_trans h.1.2 hb.size⟩, by rw [hr, hcs], h.2.2.but hb h.1.2⟩
theorem RrIs.spoil (h : RrIs w z g A n c B t bad) : RrIs (w.setCell ⟨g, 2, none⟩ (.bool true)) z g A n c B t true ∧ But g w (w.setCell ⟨g, 2, none⟩ (.bool true)) := by
  have hb := (But.refl g w).set (i := 2) (.bool true)
  exact ⟨h.but hb (world_set_cell (cs := [.slice A n c, .int .i64 (t : Int), .bool bad]) h.2.1 2 (.bool true)).out t true rfl, hb⟩
theorem RrIs.step (h : RrIs w z g A n c B t bad) (t' : Nat) : RrIs (w.setCell ⟨g, 1, none⟩ (.int .i64 (t' : Int))) z g A n c B t' bad ∧ But g w (w.setCell ⟨g, 1, none⟩ (.int .i64 (t' : Int))) := by
  have hb := (But.refl g w).set (i := 1) (.int .i64 (t' : Int))
  exact ⟨h.but hb (world_set_cell (cs := [.slice A n c, .int .i64 (t : Int), .bool bad]) h.2.1 1 (.int .i64 (t' : Int))).out t' bad rfl, hb⟩
theorem But.ofN {g k : Nat} {w w' : World} (h : But g (w.drewN k) w') : But g w w' := ⟨h.os, h.tape, h.output, h.size, h.block⟩
theorem RrIs.spoilN (h : RrIs w z g A n c B t bad) (k : Nat) : RrIs ((w.drewN k).setCell ⟨g, 2, none⟩ (.bool true)) z g A n c B t true ∧ But g w ((w.drewN k).setCell ⟨g, 2, none⟩ (.bool true)) :=
  ⟨((h.toN k).spoil).1, ((h.toN k).spoil).2.ofN⟩
theorem RrIs.stepN (h : RrIs w z g A n c B t bad) (t' : Nat) (x : Int) (hx : x = (t' : Int)) (k : Nat) : RrIs ((w.drewN k).setCell ⟨g, 1, none⟩ (.int .i64 x)) z g A n c B t' bad ∧ But g w ((w.drewN k).setCell ⟨g, 1, none⟩ (.int .i64 x)) := by
  subst hx
  exact ⟨((h.toN k).step t').1, ((h.toN k).step t').2.ofN⟩
theorem RrIs.next (h : RrIs w z g A n c B t bad) (hb : Below w.heap.size w w') : RrIs w' z g A n c B t bad :=
  ⟨⟨Nat.lt_of_lt_of_le h.1.1 hb.size, Nat.le_trans h.1.2 hb.size⟩, (hb.block g h.1.1).trans h.2.1, h.2.2.keep fun k _ hk _ => hb.block k (by have := h.1.2; omega)⟩
theorem RrIs.far (h : RrIs w z g A n c B t bad) (hb : But k w w') (hk : k ≠ g) (hz : z ≤ k) : RrIs w' z g A n c B t bad :=
  ⟨⟨Nat.lt_of_lt_of_le h.1.1 hb.size, Nat.le_trans h.1.2 hb.size⟩, (hb.block g h.1.1 (fun e => by injection e with e; exact hk e.symm)).trans h.2.1, h.2.2.keep fun i _ hi _ => hb.block i (by have := h.1.2; omega) (fun e => by injection e; omega)⟩
end
set_option maxRecDepth 100000 in
theorem rrend_any (w : World) (z g : Nat) (A : Option Addr) (n c : Nat) (B : List UInt8) (t : Nat) (bad : Bool) (hr : RrIs w z g A n c B t bad) :
    Calls Try.prog 18 #[.pointer (some ⟨g, 0, none⟩)] w fun e w' => e = .returned (.bool (!bad && decide (t = n))) ∧ ∃ k, w' = w.drewN k := by
  obtain ⟨_, hrow, _⟩ := hr
  have c0 : w.cell? ⟨g, 0, none⟩ = some (.slice A n c) := by rw [cell_of_row _ _ _ _ _ _ hrow]; rfl
  have c1 : w.cell? ⟨g, 1, none⟩ = some (.int .i64 (t : Int)) := by rw [cell_of_row _ _ _ _ _ _ hrow]; rfl
  have c2 : w.cell? ⟨g, 2, none⟩ = some (.bool bad) := by rw [cell_of_row _ _ _ _ _ _ hrow]; rfl
  clear hrow
  cases bad
  · by_cases h0 : t = n
    · subst h0
      go_enter Try.func18, Try.ntmps18
      go_wp2_with fail
      go_quiet (fail)
      go_wp2
      go_ret
      exact ⟨ret_bool (by simp), _, rfl⟩
    · have h1 : ((t : Int) == (n : Int)) = false := by simp; omega
      have h2 : ¬ (t : Int) = (n : Int) := by omega
      go_enter Try.func18, Try.ntmps18
      go_wp2_with fail
      go_quiet (fail)
      go_wp2
      go_ret
      exact ⟨ret_bool (by simp [h0]), _, rfl⟩
  · go_enter Try.func18, Try.ntmps18
    go_wp2_with fail
    go_quiet (fail)
    go_wp2
    go_ret
    exact ⟨rfl, _, rfl⟩

theorem rd1R_bad (B : List UInt8) (m t : Nat) : rd1R B m (t, true) = (0, t, true) := rfl
theorem rd1R_no {B : List UInt8} {m t x s : Nat} (h : (x, s) = frontOf (B.drop t)) (hc : s = 0 ∨ m < x) : rd1R B m (t, false) = (0, t, true) := by
  rw [rd1R]; simp only [Bool.false_eq_true, if_false]; rw [← h, if_pos hc]
theorem rd1R_ok {B : List UInt8} {m t x s : Nat} (h : (x, s) = frontOf (B.drop t)) (hc : ¬ (s = 0 ∨ m < x)) : rd1R B m (t, false) = ((x : Int), t + s, false) := by
  rw [rd1R]; simp only [Bool.false_eq_true, if_false]; rw [← h, if_neg hc]
theorem low7 (x : Nat) (hx : x < 256) : bits .and .u8 (x : Int) 127 = ((x % 128 : Nat) : Int) := by
  rw [show (127 : Int) = ((127 : Nat) : Int) from rfl, u8_and_nat x 127 hx (by decide), show (127 : Nat) = 2 ^ 7 - 1 by decide, Nat.and_two_pow_sub_one_eq_mod, show (2 : Nat) ^ 7 = 128 by decide]
theorem seven_at {B : List UInt8} {t k : Nat} {b : UInt8} (h : B[t + k]? = some b) (hk : k < 9) : ((B.drop t).take 9)[k]? = some b := by
  rw [List.getElem?_take_of_lt hk, List.getElem?_drop, h]

set_option maxRecDepth 100000 in
set_option maxHeartbeats 2000000 in
theorem rrnum_any (w : World) (z g : Nat) (A : Option Addr) (n c : Nat) (B : List UInt8) (t : Nat) (bad : Bool) (hr : RrIs w z g A n c B t bad) (hl : B.length = n) (ht : t ≤ n) (hn : n ≤ 1099511627776) :
    Calls Try.prog 34 #[.pointer (some ⟨g, 0, none⟩), .int .i64 1099511627776] w fun e w' => ∃ x t' b', Vlt (rd1R B 1099511627776 (t, bad) = (x, t', b')) ∧ e = .returned (.int .i64 x) ∧ RrIs w' z g A n c B t' b' ∧ t' ≤ n ∧ But g w w' := by
  cases bad
  · obtain ⟨m, hm⟩ : ∃ m, m = (B.drop t).take 9 := ⟨_, rfl⟩
    have HM := vlt hm
    have HL := Lib.hid hl
    have HF := vlt (show frL m 0 0 = frontOf (B.drop t) by rw [hm]; rfl)
    clear hm hl
    go_enter Try.func34, Try.ntmps34
    go_wp2_with fail
    go_loopw [5, 6] (fun a i wr => ∃ k V : Nat, k ≤ 9 ∧ t + k ≤ n ∧ i = .int .i64 (k : Int) ∧ a = .int .i64 (V : Int) ∧ Hid (V < 2 ^ (7 * k)) ∧ Vlt (frL (m.drop k) k V = frontOf (B.drop t)) ∧ ∃ q, wr = w.drewN q) (fun _ i _ => 9 - (intOf i).toNat)
    case atStart => exact ⟨0, 0, Nat.zero_le _, ht, rfl, rfl, show _ < _ by decide, HF, 0, rfl⟩
    case round =>
      obtain ⟨k, V, hk, htk, rfl, rfl, hV, HK, q, rfl⟩ := hrel
      have hrow := hr.2.1
      have c0 : w.cell? ⟨g, 0, none⟩ = some (.slice A n c) := by rw [cell_of_row _ _ _ _ _ _ hrow]; rfl
      have c1 : w.cell? ⟨g, 1, none⟩ = some (.int .i64 (t : Int)) := by rw [cell_of_row _ _ _ _ _ _ hrow]; rfl
      have c2 : w.cell? ⟨g, 2, none⟩ = some (.bool false) := by rw [cell_of_row _ _ _ _ _ _ hrow]; rfl
      have f1 : w.frozen? ⟨g, 1, none⟩ = false := frozen_of_row _ _ _ _ _ hrow
      have f2 : w.frozen? ⟨g, 2, none⟩ = false := frozen_of_row _ _ _ _ _ hrow
      have hw : IntKind.i64.wrap ((t : Int) + (k : Int)) = (t : Int) + (k : Int) := by rw [IntKind.wrap_i64]; omega
      have hby := hr.byt
      clear hrow HF
      by_cases h9 : k < 9
      · by_cases hlt : t + k < n
        · obtain ⟨gb, o, x, rfl, hgb, hx, hcell, hget⟩ := hby.at_ (k := t + k) (by rw [HL.out]; exact hlt)
          have i1 : (0 : Int) ≤ (t : Int) + (k : Int) := by omega
          have i2 : (t : Int) + (k : Int) < (n : Int) := by omega
          have i3 : ((t : Int) + (k : Int)).toNat = t + k := by omega
          have i4 : ¬ (n : Int) ≤ (t : Int) + (k : Int) := by omega
          have i5 : ¬ (9 : Int) ≤ (k : Int) := by omega
          have hxx : (UInt8.ofNat x).toNat = x := by simp; omega
          have hlm : m[k]? = some (UInt8.ofNat x) := by rw [HM.out]; exact seven_at hget.out h9
          have HK2 := vlt (HK.out.symm.trans (frL_at hlm V))
          rw [hxx] at HK2
          have h7 := or_seven k V (x % 128) h9 hV.out (Nat.mod_lt _ (by decide))
          have h8 := Lib.hid (seven_next k V (x % 128) hV.out (Nat.mod_lt _ (by decide)))
          obtain ⟨Y, hY⟩ : ∃ Y, Y = V + x % 128 * 2 ^ (7 * k) := ⟨_, rfl⟩
          rw [← hY] at h7 h8
          have HY := vlt hY
          have h7' : bits .or .i64 (V : Int) (Go.RowKit.wrap64 (Go.RowKit.wrap64 (bits .and .u8 (x : Int) 127) * 2 ^ (7 * k))) = (Y : Int) := by
            rw [low7 x hx, ← IntWalk.i64_left, ← IntWalk.i64_left, show IntKind.i64.wrap ((x % 128 : Nat) : Int) = ((x % 128 : Nat) : Int) by rw [IntKind.wrap_i64]; omega]
            exact h7
          clear h7 hY hxx HK hlm
          go_wp2_with fail
          go_quiet (fail)
          go_wp2_with fail
          go_quiet (fail)
          by_cases hm : 128 ≤ x
          · have HK3 : Vlt (frL (m.drop (k + 1)) (k + 1) Y = frontOf (B.drop t)) := vlt (by rw [HK2.out, if_pos hm, ← HY.out])
            clear HK2 HY
            go_wp2
            go_roundw
            case rel => exact ⟨k + 1, Y, by omega, by omega, by go_num, rfl, h8, HK3, _, rfl⟩
            case measure => simp [intOf]; omega
          · have hY2 : Vlt (Y = V + x * 2 ^ (7 * k)) := vlt (by rw [HY.out, Nat.mod_eq_of_lt (show x < 128 by omega)])
            clear HY h8
            by_cases hx0 : x = 0
            · have hxl : (x : Int) ≤ 0 := by omega
              by_cases hk0 : 0 < k
              · have HV := vlt (rd1R_no (m := 1099511627776) (x := 0) (s := 0) (B := B) (t := t) (by rw [HK2.out, if_neg hm, if_pos ⟨hx0, hk0⟩]) (.inl rfl))
                clear HK2 hY2 hx0
                go_wp2
                go_ret
                exact ⟨0, t, true, HV, rfl, (hr.spoilN _).1, ht, (hr.spoilN _).2⟩
              · have HK3 : Vlt ((Y, k + 1) = frontOf (B.drop t)) := vlt (by rw [HK2.out, if_neg hm, if_neg (fun h => hk0 h.2), ← hY2.out])
                clear hx0
                by_cases hbig : 1099511627776 < Y
                · have HV := vlt (rd1R_no (m := 1099511627776) (B := B) (t := t) HK3.out (.inr hbig))
                  clear HK3 hY2 HK2
                  go_wp2
                  go_ret
                  exact ⟨0, t, true, HV, rfl, (hr.spoilN _).1, ht, (hr.spoilN _).2⟩
                · have HV := vlt (rd1R_ok (m := 1099511627776) (B := B) (t := t) HK3.out (by omega))
                  clear HK3 hY2 HK2
                  go_wp2
                  go_ret
                  exact ⟨Y, t + (k + 1), false, HV, rfl, (hr.stepN (t + (k + 1)) _ (by omega) _).1, by omega, (hr.stepN (t + (k + 1)) _ (by omega) _).2⟩
            · have HK3 : Vlt ((Y, k + 1) = frontOf (B.drop t)) := vlt (by rw [HK2.out, if_neg hm, if_neg (fun h => hx0 h.1), ← hY2.out])
              have hx1 : ((x : Int) == 0) = false := by simp; omega
              by_cases hbig : 1099511627776 < Y
              · have HV := vlt (rd1R_no (m := 1099511627776) (B := B) (t := t) HK3.out (.inr hbig))
                clear HK3 hY2 HK2
                go_wp2
                go_ret
                exact ⟨0, t, true, HV, rfl, (hr.spoilN _).1, ht, (hr.spoilN _).2⟩
              · have HV := vlt (rd1R_ok (m := 1099511627776) (B := B) (t := t) HK3.out (by omega))
                clear HK3 hY2 HK2
                go_wp2
                go_ret
                exact ⟨Y, t + (k + 1), false, HV, rfl, (hr.stepN (t + (k + 1)) _ (by omega) _).1, by omega, (hr.stepN (t + (k + 1)) _ (by omega) _).2⟩
        · have hnk : (n : Int) ≤ (t : Int) + (k : Int) := by omega
          have HV := vlt (rd1R_no (m := 1099511627776) (x := 0) (s := 0) (B := B) (t := t) (by rw [← HK.out, List.drop_eq_nil_of_le (by rw [HM.out, List.length_take, List.length_drop, HL.out]; omega), frL]) (.inl rfl))
          clear HK
          go_wp2_with fail
          go_quiet (fail)
          go_wp2
          go_ret
          exact ⟨0, t, true, HV, rfl, (hr.spoilN _).1, ht, (hr.spoilN _).2⟩
      · obtain rfl : k = 9 := by omega
        have HV := vlt (rd1R_no (m := 1099511627776) (x := 0) (s := 0) (B := B) (t := t) (by rw [← HK.out, List.drop_eq_nil_of_le (by rw [HM.out, List.length_take]; omega), frL]) (.inl rfl))
        have hw9 : IntKind.i64.wrap ((t : Int) + 9) = (t : Int) + 9 := by rw [IntKind.wrap_i64]; omega
        clear HK
        by_cases hnk : (n : Int) ≤ (t : Int) + 9
        · go_wp2_with fail
          go_quiet (fail)
          go_wp2
          go_ret
          exact ⟨0, t, true, HV, rfl, (hr.spoilN _).1, ht, (hr.spoilN _).2⟩
        · go_wp2_with fail
          go_quiet (fail)
          go_wp2
          go_ret
          exact ⟨0, t, true, HV, rfl, (hr.spoilN _).1, ht, (hr.spoilN _).2⟩
  · have hrow := hr.2.1
    have c2 : w.cell? ⟨g, 2, none⟩ = some (.bool true) := by rw [cell_of_row _ _ _ _ _ _ hrow]; rfl
    have f2 : w.frozen? ⟨g, 2, none⟩ = false := frozen_of_row _ _ _ _ _ hrow
    have hsp := hr.spoil
    clear hrow hl
    go_enter Try.func34, Try.ntmps34
    go_wp2_with fail
    go_loopw [5, 6] (fun a i wr => a = .int .i64 0 ∧ i = .int .i64 0 ∧ wr = w) (fun _ _ _ => 0)
    case atStart => exact ⟨rfl, rfl, rfl⟩
    case round =>
      obtain ⟨rfl, rfl, rfl⟩ := hrel
      go_wp2
      go_ret
      exact ⟨0, t, true, vlt rfl, rfl, hsp.1, ht, hsp.2⟩
end Go.Proofs.Ytkenldlhkmocjaa
