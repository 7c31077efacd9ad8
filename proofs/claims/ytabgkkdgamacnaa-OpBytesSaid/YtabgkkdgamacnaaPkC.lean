/-
  Words and contracts that other texts share, several in one text. No statement of the seat is proved here. Conditions: as each contract says.
  A long region in the text's order, an operation a row. No statement is proved here. Conditions: none.
  Contracts of the document's own reader of chapter 11: Num, End. Conditions: the reader lies in a block of its own, apart from the bytes that it has; at most 2^40 bytes.
  Edits read by the document's own reader, held against wire's. No statement is proved here. Conditions: none.
  append(own, src...) as one step of a region that draws its order. No statement is proved here. Conditions: the sum of the lengths is at most 2^47.
  Contracts of the document's own reader of chapter 11: take and Bytes. Conditions: the reader lies in a block of its own, apart from the bytes that it has; at most 2^40 bytes.
  Contracts of the document's own answers for chapter 15: GoodVec, Has. Conditions: arrays of eight numbers.
  Contract of the document's own answer for chapter 15: GetVec. Conditions: the reader lies in a block of its own, apart from the bytes that it has; at most 2^40 bytes.
  Contract of the document's own name: may a text be that of a contact or of a field? Conditions: a text of at most 2^47 bytes.
  Bytes turned into a text, as a fact of the world now; a reader whose bytes are told in another way. No statement is proved here. Conditions: none.
  Bytes turned into a text that has a name. No statement is proved here. Conditions: none.
-/
import Derived.Test.YtabgkkdgamacnaaPkB
import Derived.Deep.RegionHeld3
import Derived.Test.YtabgkkdgamacnaaPkA
namespace Go.Proofs.Ytabgkkdgamacnaa
open Go.RowKit

section
variable {P : Program} {ops : Array Oper} {Q : Exit → Act → World → Prop} {rest : List Oper} {o : Oper} {a : Act} {w : World}
theorem wpl_take {v : Value} (hw : Region.wanted o (yielded ops a.tmps) = true) (hy : (execOp a.eval o).run P w = .ok (.value v) w) (h : wpList P ops Q rest (a.put o.dst v) w) : wpList P ops Q (o :: rest) a w := by
  refine wpList_wanted hw fun K hK => ?_
  unfold Oper.wp
  rw [hy, Oper.upon_value]
  exact hK _ _ h
theorem wpl_skip (hw : Region.wanted o (yielded ops a.tmps) = false) (h : wpList P ops Q rest (a.put o.dst undef) w) : wpList P ops Q (o :: rest) a w := by
  unfold wpList
  rw [if_neg (by rw [hw]; exact Bool.false_ne_true)]
  exact h
theorem wpl_call (hw : Region.wanted o (yielded ops a.tmps) = true) (h : ∀ K : Act → World → Prop, Shut (∀ a w, wpList P ops Q rest a w → K a w) → o.wp P a w K Q) : wpList P ops Q (o :: rest) a w := wpList_wanted hw h
theorem wpl_nil (h : Q .normal a w) : wpList P ops Q [] a w := h
end
end Go.Proofs.Ytabgkkdgamacnaa
namespace Go.Proofs.Ytabgkkdgamacnaa
open Go.RowKit

/-- The document's own reader at g: it stands at t in the bytes B; is it bad? -/
def RrIs (w : World) (z g : Nat) (A : Option Addr) (n c : Nat) (B : List UInt8) (t : Nat) (bad : Bool) : Prop :=
  (g < w.heap.size ∧ z ≤ w.heap.size) ∧ w.heap[g]? = some (.cells #[.slice A n c, .int .i64 (t : Int), .bool bad] 61 (0, 0)) ∧ SrcIn w 0 z g A B
section
variable {w w' : World} {z g n c t k : Nat} {A : Option Addr} {B : List UInt8} {bad : Bool}
theorem RrIs.toN (h : RrIs w z g A n c B t bad) (k : Nat) : RrIs (w.drewN k) z g A n c B t bad := h
theorem RrIs.byt (h : RrIs w z g A n c B t bad) : Byt w w.heap.size A B := h.2.2.byt h.1.2
theorem RrIs.but (h : RrIs w z g A n c B t bad) {cs : List Value} (hb : But g w w') (hr : w'.heap[g]? = some (.cells cs.toArray 61 (0, 0))) (t' : Nat) (b' : Bool) (hcs : cs = [.slice A n c, .int .i64 (t' : Int), .bool b']) : RrIs w' z g A n c B t' b' :=
  ⟨⟨Nat.lt_of_lt_of_le h.1.1 hb.size, Nat.le_trans h.1.2 hb.size⟩, by rw [hr, hcs], h.2.2.but hb h.1.2⟩
theorem RrIs.spoil (h : RrIs w z g A n c B t bad) : RrIs (w.setCell ⟨g, 2, none⟩ (.bool true)) z g A n c B t true ∧ But g w (w.setCell ⟨g, 2, none⟩ (.bool true)) := by
  have hb := (But.refl g w).set (i := 2) (.bool true)
  exact ⟨h.but hb (world_set_cell (cs := [.slice A n c, .int .i64 (t : Int), .bool bad]) h.2.1 2 (.bool true)).out t true rfl, hb⟩
theorem RrIs.step (h : RrIs w z g A n c B t bad) (t' : Nat) : RrIs (w.setCell ⟨g, 1, none⟩ (.int .i64 (t' : Int))) z g A n c B t' bad ∧ But g w (w.setCell ⟨g, 1, none⟩ (.int .i64 (t' : Int))) := by
  have hb := (But.refl g w).set (i := 1) (.int .i64 (t' : Int))
  exact ⟨h.but hb (world_set_cell (cs := [.slice A n c, .int .i64 (t : Int), .bool bad]) h.2.1 1 (.int .i64 (t' : Int))).out t' bad rfl, hb⟩
theorem But.ofN {g k : Nat} {w w' : World} (h : But g (w.drewN k) w') : But g w w' := ⟨h.os, h.tape, h.output, h.size, h.block⟩
theorem RrIs.spoilN (h : RrIs w z g A n c B t bad) (k : Nat) : RrIs ((w.drewN k).setCell ⟨g, 2, none⟩ (.bool true)) z g A n c B t true ∧ But g w ((w.drewN k).setCell ⟨g, 2, none⟩ (.bool true)) :=
  ⟨((h.toN k).spoil).1, ((h.toN k).spoil).2.ofN⟩
theorem RrIs.stepN (h : RrIs w z g A n c B t bad) (t' : Nat) (x : Int) (hx : x = (t' : Int)) (k : Nat) : RrIs ((w.drewN k).setCell ⟨g, 1, none⟩ (.int .i64 x)) z g A n c B t' bad ∧ But g w ((w.drewN k).setCell ⟨g, 1, none⟩ (.int .i64 x)) := by
  subst hx
  exact ⟨((h.toN k).step t').1, ((h.toN k).step t').2.ofN⟩
theorem RrIs.next (h : RrIs w z g A n c B t bad) (hb : Below w.heap.size w w') : RrIs w' z g A n c B t bad :=
  ⟨⟨Nat.lt_of_lt_of_le h.1.1 hb.size, Nat.le_trans h.1.2 hb.size⟩, (hb.block g h.1.1).trans h.2.1, h.2.2.keep fun k _ hk _ => hb.block k (by have := h.1.2; omega)⟩
theorem RrIs.far (h : RrIs w z g A n c B t bad) (hb : But k w w') (hk : k ≠ g) (hz : z ≤ k) : RrIs w' z g A n c B t bad :=
  ⟨⟨Nat.lt_of_lt_of_le h.1.1 hb.size, Nat.le_trans h.1.2 hb.size⟩, (hb.block g h.1.1 (fun e => by injection e with e; exact hk e.symm)).trans h.2.1, h.2.2.keep fun i _ hi _ => hb.block i (by have := h.1.2; omega) (fun e => by injection e; omega)⟩
end
set_option maxRecDepth 100000 in
theorem rrend_any (w : World) (z g : Nat) (A : Option Addr) (n c : Nat) (B : List UInt8) (t : Nat) (bad : Bool) (hr : RrIs w z g A n c B t bad) :
    Calls Try.prog 36 #[.pointer (some ⟨g, 0, none⟩)] w fun e w' => e = .returned (.bool (!bad && decide (t = n))) ∧ ∃ k, w' = w.drewN k := by
  obtain ⟨_, hrow, _⟩ := hr
  have c0 : w.cell? ⟨g, 0, none⟩ = some (.slice A n c) := by rw [cell_of_row _ _ _ _ _ _ hrow]; rfl
  have c1 : w.cell? ⟨g, 1, none⟩ = some (.int .i64 (t : Int)) := by rw [cell_of_row _ _ _ _ _ _ hrow]; rfl
  have c2 : w.cell? ⟨g, 2, none⟩ = some (.bool bad) := by rw [cell_of_row _ _ _ _ _ _ hrow]; rfl
  clear hrow
  cases bad
  · by_cases h0 : t = n
    · subst h0
      go_enter Try.func36, Try.ntmps36
      go_wp2_with fail
      go_quiet (fail)
      go_wp2
      go_ret
      exact ⟨ret_bool (by simp), _, rfl⟩
    · have h1 : ((t : Int) == (n : Int)) = false := by simp; omega
      have h2 : ¬ (t : Int) = (n : Int) := by omega
      go_enter Try.func36, Try.ntmps36
      go_wp2_with fail
      go_quiet (fail)
      go_wp2
      go_ret
      exact ⟨ret_bool (by simp [h0]), _, rfl⟩
  · go_enter Try.func36, Try.ntmps36
    go_wp2_with fail
    go_quiet (fail)
    go_wp2
    go_ret
    exact ⟨rfl, _, rfl⟩

theorem rd1R_bad (B : List UInt8) (m t : Nat) : rd1R B m (t, true) = (0, t, true) := rfl
theorem rd1R_no {B : List UInt8} {m t x s : Nat} (h : (x, s) = frontOf (B.drop t)) (hc : s = 0 ∨ m < x) : rd1R B m (t, false) = (0, t, true) := by
  rw [rd1R]; simp only [Bool.false_eq_true, if_false]; rw [← h, if_pos hc]
theorem rd1R_ok {B : List UInt8} {m t x s : Nat} (h : (x, s) = frontOf (B.drop t)) (hc : ¬ (s = 0 ∨ m < x)) : rd1R B m (t, false) = ((x : Int), t + s, false) := by
  rw [rd1R]; simp only [Bool.false_eq_true, if_false]; rw [← h, if_neg hc]
theorem low7 (x : Nat) (hx : x < 256) : bits .and .u8 (x : Int) 127 = ((x % 128 : Nat) : Int) := by
  rw [show (127 : Int) = ((127 : Nat) : Int) from rfl, u8_and_nat x 127 hx (by decide), show (127 : Nat) = 2 ^ 7 - 1 by decide, Nat.and_two_pow_sub_one_eq_mod, show (2 : Nat) ^ 7 = 128 by decide]
theorem seven_at {B : List UInt8} {t k : Nat} {b : UInt8} (h : B[t + k]? = some b) (hk : k < 9) : ((B.drop t).take 9)[k]? = some b := by
  rw [List.getElem?_take_of_lt hk, List.getElem?_drop, h]

set_option maxRecDepth 100000 in
set_option maxHeartbeats 2000000 in
theorem rrnum_of (mx : Nat) (w : World) (z g : Nat) (A : Option Addr) (n c : Nat) (B : List UInt8) (t : Nat) (bad : Bool) (hr : RrIs w z g A n c B t bad) (hl : B.length = n) (ht : t ≤ n) (hn : n ≤ 1099511627776) :
    Calls Try.prog 33 #[.pointer (some ⟨g, 0, none⟩), .int .i64 (mx : Int)] w fun e w' => ∃ x t' b', Vlt (rd1R B mx (t, bad) = (x, t', b')) ∧ e = .returned (.int .i64 x) ∧ RrIs w' z g A n c B t' b' ∧ t' ≤ n ∧ But g w w' := by
  cases bad
  · obtain ⟨m, hm⟩ : ∃ m, m = (B.drop t).take 9 := ⟨_, rfl⟩
    have HM := vlt hm
    have HL := Lib.hid hl
    have HF := vlt (show frL m 0 0 = frontOf (B.drop t) by rw [hm]; rfl)
    clear hm hl
    go_enter Try.func33, Try.ntmps33
    go_wp2_with fail
    go_loopw [5, 6] (fun a i wr => ∃ k V : Nat, k ≤ 9 ∧ t + k ≤ n ∧ i = .int .i64 (k : Int) ∧ a = .int .i64 (V : Int) ∧ Hid (V < 2 ^ (7 * k)) ∧ Vlt (frL (m.drop k) k V = frontOf (B.drop t)) ∧ ∃ q, wr = w.drewN q) (fun _ i _ => 9 - (intOf i).toNat)
    case atStart => exact ⟨0, 0, Nat.zero_le _, ht, rfl, rfl, show _ < _ by decide, HF, 0, rfl⟩
    case round =>
      obtain ⟨k, V, hk, htk, rfl, rfl, hV, HK, q, rfl⟩ := hrel
      have hrow := hr.2.1
      have c0 : w.cell? ⟨g, 0, none⟩ = some (.slice A n c) := by rw [cell_of_row _ _ _ _ _ _ hrow]; rfl
      have c1 : w.cell? ⟨g, 1, none⟩ = some (.int .i64 (t : Int)) := by rw [cell_of_row _ _ _ _ _ _ hrow]; rfl
      have c2 : w.cell? ⟨g, 2, none⟩ = some (.bool false) := by rw [cell_of_row _ _ _ _ _ _ hrow]; rfl
      have f1 : w.frozen? ⟨g, 1, none⟩ = false := frozen_of_row _ _ _ _ _ hrow
      have f2 : w.frozen? ⟨g, 2, none⟩ = false := frozen_of_row _ _ _ _ _ hrow
      have hw : IntKind.i64.wrap ((t : Int) + (k : Int)) = (t : Int) + (k : Int) := by rw [IntKind.wrap_i64]; omega
      have hby := hr.byt
      clear hrow HF
      by_cases h9 : k < 9
      · by_cases hlt : t + k < n
        · obtain ⟨gb, o, x, rfl, hgb, hx, hcell, hget⟩ := hby.at_ (k := t + k) (by rw [HL.out]; exact hlt)
          have i1 : (0 : Int) ≤ (t : Int) + (k : Int) := by omega
          have i2 : (t : Int) + (k : Int) < (n : Int) := by omega
          have i3 : ((t : Int) + (k : Int)).toNat = t + k := by omega
          have i4 : ¬ (n : Int) ≤ (t : Int) + (k : Int) := by omega
          have i5 : ¬ (9 : Int) ≤ (k : Int) := by omega
          have hxx : (UInt8.ofNat x).toNat = x := by simp; omega
          have hlm : m[k]? = some (UInt8.ofNat x) := by rw [HM.out]; exact seven_at hget.out h9
          have HK2 := vlt (HK.out.symm.trans (frL_at hlm V))
          rw [hxx] at HK2
          have h7 := or_seven k V (x % 128) h9 hV.out (Nat.mod_lt _ (by decide))
          have h8 := Lib.hid (seven_next k V (x % 128) hV.out (Nat.mod_lt _ (by decide)))
          obtain ⟨Y, hY⟩ : ∃ Y, Y = V + x % 128 * 2 ^ (7 * k) := ⟨_, rfl⟩
          rw [← hY] at h7 h8
          have HY := vlt hY
          have h7' : bits .or .i64 (V : Int) (Go.RowKit.wrap64 (Go.RowKit.wrap64 (bits .and .u8 (x : Int) 127) * 2 ^ (7 * k))) = (Y : Int) := by
            rw [low7 x hx, ← IntWalk.i64_left, ← IntWalk.i64_left, show IntKind.i64.wrap ((x % 128 : Nat) : Int) = ((x % 128 : Nat) : Int) by rw [IntKind.wrap_i64]; omega]
            exact h7
          clear h7 hY hxx HK hlm
          go_wp2_with fail
          go_quiet (fail)
          go_wp2_with fail
          go_quiet (fail)
          by_cases hm : 128 ≤ x
          · have HK3 : Vlt (frL (m.drop (k + 1)) (k + 1) Y = frontOf (B.drop t)) := vlt (by rw [HK2.out, if_pos hm, ← HY.out])
            clear HK2 HY
            go_wp2
            go_roundw
            case rel => exact ⟨k + 1, Y, by omega, by omega, by go_num, rfl, h8, HK3, _, rfl⟩
            case measure => simp [intOf]; omega
          · have hY2 : Vlt (Y = V + x * 2 ^ (7 * k)) := vlt (by rw [HY.out, Nat.mod_eq_of_lt (show x < 128 by omega)])
            clear HY h8
            by_cases hx0 : x = 0
            · have hxl : (x : Int) ≤ 0 := by omega
              by_cases hk0 : 0 < k
              · have HV := vlt (rd1R_no (m := mx) (x := 0) (s := 0) (B := B) (t := t) (by rw [HK2.out, if_neg hm, if_pos ⟨hx0, hk0⟩]) (.inl rfl))
                clear HK2 hY2 hx0
                go_wp2
                go_ret
                exact ⟨0, t, true, HV, rfl, (hr.spoilN _).1, ht, (hr.spoilN _).2⟩
              · have HK3 : Vlt ((Y, k + 1) = frontOf (B.drop t)) := vlt (by rw [HK2.out, if_neg hm, if_neg (fun h => hk0 h.2), ← hY2.out])
                clear hx0
                by_cases hbig : mx < Y
                · have HV := vlt (rd1R_no (m := mx) (B := B) (t := t) HK3.out (.inr hbig))
                  clear HK3 hY2 HK2
                  go_wp2
                  go_ret
                  exact ⟨0, t, true, HV, rfl, (hr.spoilN _).1, ht, (hr.spoilN _).2⟩
                · have HV := vlt (rd1R_ok (m := mx) (B := B) (t := t) HK3.out (by omega))
                  clear HK3 hY2 HK2
                  go_wp2
                  go_ret
                  exact ⟨Y, t + (k + 1), false, HV, rfl, (hr.stepN (t + (k + 1)) _ (by omega) _).1, by omega, (hr.stepN (t + (k + 1)) _ (by omega) _).2⟩
            · have HK3 : Vlt ((Y, k + 1) = frontOf (B.drop t)) := vlt (by rw [HK2.out, if_neg hm, if_neg (fun h => hx0 h.1), ← hY2.out])
              have hx1 : ((x : Int) == 0) = false := by simp; omega
              by_cases hbig : mx < Y
              · have HV := vlt (rd1R_no (m := mx) (B := B) (t := t) HK3.out (.inr hbig))
                clear HK3 hY2 HK2
                go_wp2
                go_ret
                exact ⟨0, t, true, HV, rfl, (hr.spoilN _).1, ht, (hr.spoilN _).2⟩
              · have HV := vlt (rd1R_ok (m := mx) (B := B) (t := t) HK3.out (by omega))
                clear HK3 hY2 HK2
                go_wp2
                go_ret
                exact ⟨Y, t + (k + 1), false, HV, rfl, (hr.stepN (t + (k + 1)) _ (by omega) _).1, by omega, (hr.stepN (t + (k + 1)) _ (by omega) _).2⟩
        · have hnk : (n : Int) ≤ (t : Int) + (k : Int) := by omega
          have HV := vlt (rd1R_no (m := mx) (x := 0) (s := 0) (B := B) (t := t) (by rw [← HK.out, List.drop_eq_nil_of_le (by rw [HM.out, List.length_take, List.length_drop, HL.out]; omega), frL]) (.inl rfl))
          clear HK
          go_wp2_with fail
          go_quiet (fail)
          go_wp2
          go_ret
          exact ⟨0, t, true, HV, rfl, (hr.spoilN _).1, ht, (hr.spoilN _).2⟩
      · obtain rfl : k = 9 := by omega
        have HV := vlt (rd1R_no (m := mx) (x := 0) (s := 0) (B := B) (t := t) (by rw [← HK.out, List.drop_eq_nil_of_le (by rw [HM.out, List.length_take]; omega), frL]) (.inl rfl))
        have hw9 : IntKind.i64.wrap ((t : Int) + 9) = (t : Int) + 9 := by rw [IntKind.wrap_i64]; omega
        clear HK
        by_cases hnk : (n : Int) ≤ (t : Int) + 9
        · go_wp2_with fail
          go_quiet (fail)
          go_wp2
          go_ret
          exact ⟨0, t, true, HV, rfl, (hr.spoilN _).1, ht, (hr.spoilN _).2⟩
        · go_wp2_with fail
          go_quiet (fail)
          go_wp2
          go_ret
          exact ⟨0, t, true, HV, rfl, (hr.spoilN _).1, ht, (hr.spoilN _).2⟩
  · have hrow := hr.2.1
    have c2 : w.cell? ⟨g, 2, none⟩ = some (.bool true) := by rw [cell_of_row _ _ _ _ _ _ hrow]; rfl
    have f2 : w.frozen? ⟨g, 2, none⟩ = false := frozen_of_row _ _ _ _ _ hrow
    have hsp := hr.spoil
    clear hrow hl
    go_enter Try.func33, Try.ntmps33
    go_wp2_with fail
    go_loopw [5, 6] (fun a i wr => a = .int .i64 0 ∧ i = .int .i64 0 ∧ wr = w) (fun _ _ _ => 0)
    case atStart => exact ⟨rfl, rfl, rfl⟩
    case round =>
      obtain ⟨rfl, rfl, rfl⟩ := hrel
      go_wp2
      go_ret
      exact ⟨0, t, true, vlt rfl, rfl, hsp.1, ht, hsp.2⟩
theorem rrnum_any (w : World) (z g : Nat) (A : Option Addr) (n c : Nat) (B : List UInt8) (t : Nat) (bad : Bool) (hr : RrIs w z g A n c B t bad) (hl : B.length = n) (ht : t ≤ n) (hn : n ≤ 1099511627776) :
    Calls Try.prog 33 #[.pointer (some ⟨g, 0, none⟩), .int .i64 1099511627776] w fun e w' => ∃ x t' b', Vlt (rd1R B 1099511627776 (t, bad) = (x, t', b')) ∧ e = .returned (.int .i64 x) ∧ RrIs w' z g A n c B t' b' ∧ t' ≤ n ∧ But g w w' :=
  rrnum_of 1099511627776 w z g A n c B t bad hr hl ht hn
end Go.Proofs.Ytabgkkdgamacnaa
namespace Go.Proofs.Ytabgkkdgamacnaa
open Go.RowKit

/-- One text of at most m bytes, read by the document's own reader: the text, where it stands, whether it is bad. -/
def rdtR (B : List UInt8) (m : Nat) (t : Nat × Bool) : ByteArray × Nat × Bool :=
  if (rd1R B m t).2.2 = true ∨ (B.length : Int) - ((rd1R B m t).2.1 : Int) < (rd1R B m t).1 then (noText, (rd1R B m t).2.1, true)
  else (⟨((B.drop (rd1R B m t).2.1).take (rd1R B m t).1.toNat).toArray⟩, (rd1R B m t).2.1 + (rd1R B m t).1.toNat, false)
theorem alike_rdt {B : List UInt8} {m : Nat} {s : List UInt8 × Bool} {t : Nat × Bool} (h : Alike B s t) : (rdt m s).1 = (rdtR B m t).1 ∧ Alike B (rdt m s).2 (rdtR B m t).2 := by
  obtain ⟨l, bad⟩ := s
  obtain ⟨i, bad'⟩ := t
  obtain ⟨rfl, h2, h3⟩ := h
  cases bad
  · simp only [Bool.false_eq_true, if_false] at h3
    subst h3
    have hl := front_len (B.drop i)
    rw [List.length_drop] at hl
    have h2' : i ≤ B.length := h2
    rw [rdt, rdtR, rd1R]
    simp only [Bool.false_eq_true, if_false]
    by_cases hc : (frontOf (B.drop i)).2 = 0 ∨ m < (frontOf (B.drop i)).1
    · rw [if_pos hc, if_pos (by omega)]
      simp only [true_or, if_true]
      exact ⟨trivial, rfl, h2, rfl⟩
    · rw [if_neg hc]
      simp only [Bool.false_eq_true, false_or, List.length_drop]
      by_cases hd : B.length - i - (frontOf (B.drop i)).2 < (frontOf (B.drop i)).1
      · rw [if_pos (by omega), if_pos (by omega)]
        refine ⟨rfl, rfl, ?_, rfl⟩
        show i + _ ≤ _
        omega
      · rw [if_neg (by omega), if_neg (by omega)]
        simp only [Int.toNat_natCast, List.drop_drop]
        refine ⟨trivial, rfl, ?_, ?_⟩
        · show i + _ + _ ≤ _
          omega
        · show List.drop _ B = List.drop _ B
          congr 1
  · simp only [if_true] at h3
    subst h3
    have e : rd1R B m (i, true) = (0, i, true) := rfl
    rw [rdt, rdtR, e]
    simp only [true_or, if_true]
    exact ⟨rfl, rfl, h2, rfl⟩
def ereadR (B : List UInt8) (s : Nat × Bool) : Ed × Nat × Bool :=
  let a := rd1R B 7 s
  let b := rd1R B 1099511627776 a.2
  let c := vrdR B b.2
  let d := rd1R B 2 c.2
  let f := rd1R B 1099511627776 d.2
  let g := rdtR B 40 f.2
  let h := rdtR B 40 g.2
  let i := rdtR B 200 h.2
  (⟨a.1, b.1, c.1, d.1, g.1, h.1, i.1, f.1⟩, i.2)
theorem ereadR_eq {B : List UInt8} {s s1 s2 s3 s4 s5 s6 s7 t : Nat × Bool} {e : Ed} (h1 : rd1R B 7 s = (e.dev, s1)) (h2 : rd1R B 1099511627776 s1 = (e.num, s2)) (h3 : vrdR B s2 = (e.seen, s3)) (h4 : rd1R B 2 s3 = (e.kind, s4)) (h5 : rd1R B 1099511627776 s4 = (e.time, s5))
    (h6 : rdtR B 40 s5 = (e.con, s6)) (h7 : rdtR B 40 s6 = (e.fld, s7)) (h8 : rdtR B 200 s7 = (e.val, t)) : ereadR B s = (e, t) := by
  simp only [ereadR, h1, h2, h3, h4, h5, h6, h7, h8]
theorem alike_eread {B : List UInt8} {s : List UInt8 × Bool} {t : Nat × Bool} (h : Alike B s t) : (eread s).1 = (ereadR B t).1 ∧ Alike B (eread s).2 (ereadR B t).2 := by
  have h1 := alike_rd1 (m := 7) h
  have h2 := alike_rd1 (m := 1099511627776) h1.2
  have h3 := alike_vrd h2.2
  have h4 := alike_rd1 (m := 2) h3.2
  have h5 := alike_rd1 (m := 1099511627776) h4.2
  have h6 := alike_rdt (m := 40) h5.2
  have h7 := alike_rdt (m := 40) h6.2
  have h8 := alike_rdt (m := 200) h7.2
  simp only [eread, ereadR]
  exact ⟨by rw [h1.1, h2.1, h3.1, h4.1, h5.1, h6.1, h7.1, h8.1], h8.2⟩
/-- What the document's own answer says of what is read. -/
def egotR (B : List UInt8) (e : Ed) (t : Nat × Bool) : Option Ed := if (!t.2 && decide (t.1 = B.length)) = true ∧ e.good = true then some e else none
theorem egotR_eq {B : List UInt8} {e : Ed} {t : Nat × Bool} (h : ereadR B (0, false) = (e, t)) : egotR B e t = eget B := by
  have ha := alike_eread (B := B) (s := (B, false)) (t := (0, false)) ⟨rfl, Nat.zero_le _, rfl⟩
  have he := alike_end ha.2
  rw [eget, egot, egotR, he, ha.1, h]
theorem rdtR_le {B : List UInt8} {m : Nat} {t : Nat × Bool} (ht : t.1 ≤ B.length) : (rdtR B m t).2.1 ≤ B.length := by
  rw [rdtR]
  have h1 : (rd1R B m t).2.1 ≤ B.length ∧ 0 ≤ (rd1R B m t).1 := by
    rw [rd1R]
    have hl := front_len (B.drop t.1)
    rw [List.length_drop] at hl
    split
    · exact ⟨ht, Int.le_refl _⟩
    · split
      · exact ⟨ht, Int.le_refl _⟩
      · exact ⟨by show t.1 + _ ≤ _; omega, by simp⟩
  split
  · exact h1.1
  · show (rd1R B m t).2.1 + _ ≤ _
    omega
end Go.Proofs.Ytabgkkdgamacnaa
namespace Go.Proofs.Ytabgkkdgamacnaa
open Go.RowKit

/-- append(own, src...) as one step of a region that draws its order; src nil or not. -/
theorem step_append_src {P : Program} (w : World) {ops : Array Oper} {o : Oper} {a : Act} {K : Act → World → Prop} {Q : Exit → Act → World → Prop} {E' : Prop} (hgd : o.guard = none) (s x : Operand) (T : TypeId)
    (ho : o.op = .call { callee := .builtin .append, args := #[s, x], argTypes := #[T, T] }) (E : TypeId) (hT : P.underlying T = some (.slice E))
    (hI : (P.info? E).map (fun i => (i.zero, i.size, i.bytes)) = some (some (.int .u8 0), 1, 1)) (base : Nat) (A : Option Addr) (n c : Nat) (l : List UInt8) (hs : a.eval s = .slice A n c) (hr : Res w base E A n c l)
    (D : Option Addr) (m c2 : Nat) (hx : a.eval x = .slice D m c2) (B : Nat) (news : List UInt8) (hb : Byt w B D news) (hl : news.length = m) (hsz : n + m ≤ 140737488355328) (hbase : base ≤ w.heap.size)
    (h : ∀ A' c' w', Res w' base E A' (n + m) c' (l ++ news) → (∀ B w0, B ≤ base → Below B w0 w → Below B w0 w') → K (a.put o.dst (.slice A' (n + m) c')) w') :
    if Region.wanted o (yielded ops a.tmps) = true then Oper.wp P o a w K Q else E' := by
  cases D with
  | some ad => exact step_append_bytes w hgd s x T ho E hT hI base A n c l hs hr ad m c2 hx news hl (cells_at hb) hsz hbase h
  | none =>
    have hn : news = [] := by
      rcases hb with h | ⟨_, _, h, _⟩
      · exact h
      · cases h
    subst hn
    subst hl
    have hw : Region.wanted o (yielded ops a.tmps) = true := by simp [Region.wanted, hgd]
    rw [if_pos hw]
    obtain ⟨i, hi, _⟩ := info_parts hI
    have hrun := append_nothing (P := P) (ty := o.type) (c := c2) w hT hi hr
    unfold Oper.wp
    simp only [execOp, ho, resolve, invoke, builtin, Sem.run_bind, Sem.run_pure, Result.andThen_ok, List.map_toArray, List.map_cons, List.map_nil, hs, hx, List.length_nil, hrun]
    have h2 : K (a.put o.dst (.slice A n c)) w := h A c w (by simpa using hr) (fun _ _ _ hb => hb)
    exact h2
end Go.Proofs.Ytabgkkdgamacnaa
namespace Go.Proofs.Ytabgkkdgamacnaa
open Go.RowKit

set_option maxRecDepth 100000 in
theorem rrtake_no (w : World) (z g : Nat) (A : Option Addr) (n c : Nat) (B : List UInt8) (t x : Nat) (hr : RrIs w z g A n c B t false) (hn : n ≤ 1099511627776) (ht : t ≤ n) (hx : (n : Int) - (t : Int) < (x : Int)) :
    Calls Try.prog 53 #[.pointer (some ⟨g, 0, none⟩), .int .i64 (x : Int)] w fun e w' => e = .returned (.slice none 0 0) ∧ RrIs w' z g A n c B t true ∧ But g w w' := by
  have hrow := hr.2.1
  have c0 : w.cell? ⟨g, 0, none⟩ = some (.slice A n c) := by rw [cell_of_row _ _ _ _ _ _ hrow]; rfl
  have c1 : w.cell? ⟨g, 1, none⟩ = some (.int .i64 (t : Int)) := by rw [cell_of_row _ _ _ _ _ _ hrow]; rfl
  have c2 : w.cell? ⟨g, 2, none⟩ = some (.bool false) := by rw [cell_of_row _ _ _ _ _ _ hrow]; rfl
  have f2 : w.frozen? ⟨g, 2, none⟩ = false := frozen_of_row _ _ _ _ _ hrow
  have hw : IntKind.i64.wrap ((n : Int) - (t : Int)) = (n : Int) - (t : Int) := by rw [IntKind.wrap_i64]; omega
  have hsp := fun k => hr.spoilN k
  clear hrow hr
  go_enter Try.func53, Try.ntmps53
  go_wp2_with fail
  go_quiet (fail)
  go_wp2
  go_ret
  exact ⟨rfl, (hsp _).1, (hsp _).2⟩
theorem res_but {w w' : World} {base E n c g : Nat} {A : Option Addr} {l : List UInt8} (h : Res w base E A n c l) (hb : But g w w') (hg : g < base) : Res w' base E A n c l := by
  refine ⟨h.1, ?_⟩
  rcases h.2 with hn | ⟨k, cap, cur, hv, hB, hk, r⟩
  · exact .inl hn
  · exact .inr ⟨k, cap, cur, hv, hB, (hb.block k (Array.getElem?_eq_some_iff.1 hk).1 (fun e => by injection e; omega)).trans hk, r⟩
theorem But.toN {g : Nat} {w w' : World} (h : But g w w') (k : Nat) : But g w (w'.drewN k) := ⟨h.os, h.tape, h.output, h.size, h.block⟩
set_option maxRecDepth 100000 in
theorem rrtake_ok (w : World) (z g : Nat) (A : Option Addr) (n c : Nat) (B : List UInt8) (t x : Nat) (hr : RrIs w z g A n c B t false) (hl : B.length = n) (hc : n ≤ c) (hn : n ≤ 1099511627776) (hx : t + x ≤ n) :
    Calls Try.prog 53 #[.pointer (some ⟨g, 0, none⟩), .int .i64 (x : Int)] w fun e w' => ∃ A' c', e = .returned (.slice A' x c') ∧ Res w' w.heap.size 5 A' x c' ((B.drop t).take x) ∧ RrIs w' z g A n c B (t + x) false ∧ But g w w' := by
  have hrow := hr.2.1
  have c0 : w.cell? ⟨g, 0, none⟩ = some (.slice A n c) := by rw [cell_of_row _ _ _ _ _ _ hrow]; rfl
  have c1 : w.cell? ⟨g, 1, none⟩ = some (.int .i64 (t : Int)) := by rw [cell_of_row _ _ _ _ _ _ hrow]; rfl
  have c2 : w.cell? ⟨g, 2, none⟩ = some (.bool false) := by rw [cell_of_row _ _ _ _ _ _ hrow]; rfl
  have hgs0 := hr.1.1
  have hw : IntKind.i64.wrap ((n : Int) - (t : Int)) = (n : Int) - (t : Int) := by rw [IntKind.wrap_i64]; omega
  obtain ⟨q, hq⟩ : ∃ q, q = t + x := ⟨_, rfl⟩
  have hw2 : IntKind.i64.wrap ((t : Int) + (x : Int)) = (q : Int) := by rw [IntKind.wrap_i64]; omega
  have hlt : ¬ (n : Int) - (t : Int) < (x : Int) := by omega
  have hcut := fun w0 => run_cut_lh (P := Try.prog) Try.underlying29 Try.sizeByte A n c t q (t : Int) (q : Int) rfl rfl (by omega) (by omega) w0
  have hby := ((hr.byt.cut t c (by omega)).take x)
  obtain ⟨A2, hA2⟩ : ∃ A2, A2 = (if c = t then A else A.map (·.add t)) := ⟨_, rfl⟩
  rw [← hA2] at hby
  simp only [← hA2, show q - t = x by omega] at hcut
  obtain ⟨c3, hc3⟩ : ∃ c3, c3 = c - t := ⟨_, rfl⟩
  simp only [← hc3] at hcut
  obtain ⟨T, hT⟩ : ∃ T, T = (B.drop t).take x := ⟨_, rfl⟩
  have HT := Lib.hid (show T.length = x by rw [hT, List.length_take, List.length_drop]; omega)
  rw [← hT] at hby ⊢
  rw [← hq]
  clear hrow hA2 hc3 hT hl hc hq hx
  go_enter Try.func53, Try.ntmps53
  go_wp2_with fail
  go_quiet (fail)
  go_upto_region 4 with fail
  obtain ⟨V, hV⟩ : ∃ V, V = w.drewN nq := ⟨_, rfl⟩
  rw [← hV]
  have hb0 : Below w.heap.size w V := by rw [hV]; exact Below.toN (Below.refl _ _) _
  have hr0 : RrIs V z g A n c B t false := by rw [hV]; exact hr
  have c0V : V.cell? ⟨g, 0, none⟩ = some (.slice A n c) := by rw [hV]; exact c0
  have c1V : V.cell? ⟨g, 1, none⟩ = some (.int .i64 (t : Int)) := by rw [hV]; exact c1
  have hbyV : Byt V V.heap.size A2 T := by rw [hV]; exact hby
  have gV := hr0.1.1
  have hzV := hb0.size
  clear hV hr hby c0 c1 c2 hw
  refine wp_region_held_drew (S := fun W' => Below V.heap.size V W') (by kernel_rfl) ((Below.refl _ _).drew) (fun hHeld => ?_)
  refine wpAnyH_take (i := 1) (oi := ⟨(some 28), _, _, _, _, _⟩) (v := .pointer (some ⟨g, 0, none⟩)) rfl (by kernel_rfl) (by kernel_rfl) (by kernel_rfl) (fun _ _ _ h => h) (Or.inl ⟨by rfl, ?yr4_1⟩) hHeld ?_
  case yr4_1 => (intro W0 hSw; go_simp; try with_reducible rfl)
  try simp only [pu]
  refine wpAnyH_take (i := 2) (oi := ⟨(some 29), _, _, _, _, _⟩) (v := .pointer (some ⟨g, 0, none⟩)) rfl (by kernel_rfl) (by kernel_rfl) (by kernel_rfl) (fun _ _ _ h => h) (Or.inl ⟨by rfl, ?yr4_2⟩) hHeld ?_
  case yr4_2 => (intro W0 hSw; go_simp; try with_reducible rfl)
  try simp only [pu]
  refine wpAnyH_take (i := 3) (oi := ⟨(some 30), _, _, _, _, _⟩) (v := .pointer (some ⟨g, 0, none⟩)) rfl (by kernel_rfl) (by kernel_rfl) (by kernel_rfl) (fun _ _ _ h => h) (Or.inl ⟨by rfl, ?yr4_3⟩) hHeld ?_
  case yr4_3 => (intro W0 hSw; go_simp; try with_reducible rfl)
  try simp only [pu]
  refine wpAnyH_take (i := 4) (oi := ⟨(some 31), _, _, _, _, _⟩) (v := .slice A n c) rfl (by kernel_rfl) (by kernel_rfl) (by kernel_rfl) (fun _ _ _ h => h) (Or.inl ⟨by rfl, ?yr4_4⟩) hHeld ?_
  case yr4_4 => (intro W0 hSw; have cc := (hSw.cell (p := ⟨g, 0, none⟩) gV).trans c0V; go_simp; try with_reducible rfl)
  try simp only [pu]
  refine wpAnyH_take (i := 5) (oi := ⟨(some 32), _, _, _, _, _⟩) (v := .pointer (some ⟨g, 0, none⟩)) rfl (by kernel_rfl) (by kernel_rfl) (by kernel_rfl) (fun _ _ _ h => h) (Or.inl ⟨by rfl, ?yr4_5⟩) hHeld ?_
  case yr4_5 => (intro W0 hSw; go_simp; try with_reducible rfl)
  try simp only [pu]
  refine wpAnyH_take (i := 6) (oi := ⟨(some 33), _, _, _, _, _⟩) (v := .pointer (some ⟨g, 0, none⟩)) rfl (by kernel_rfl) (by kernel_rfl) (by kernel_rfl) (fun _ _ _ h => h) (Or.inl ⟨by rfl, ?yr4_6⟩) hHeld ?_
  case yr4_6 => (intro W0 hSw; go_simp; try with_reducible rfl)
  try simp only [pu]
  refine wpAnyH_take (i := 7) (oi := ⟨(some 34), _, _, _, _, _⟩) (v := .pointer (some ⟨g, 1, none⟩)) rfl (by kernel_rfl) (by kernel_rfl) (by kernel_rfl) (fun _ _ _ h => h) (Or.inl ⟨by rfl, ?yr4_7⟩) hHeld ?_
  case yr4_7 => (intro W0 hSw; go_simp; try with_reducible rfl)
  try simp only [pu]
  refine wpAnyH_take (i := 8) (oi := ⟨(some 35), _, _, _, _, _⟩) (v := .int .i64 (t : Int)) rfl (by kernel_rfl) (by kernel_rfl) (by kernel_rfl) (fun _ _ _ h => h) (Or.inl ⟨by rfl, ?yr4_8⟩) hHeld ?_
  case yr4_8 => (intro W0 hSw; have cc := (hSw.cell (p := ⟨g, 1, none⟩) gV).trans c1V; go_simp; try with_reducible rfl)
  try simp only [pu]
  refine wpAnyH_take (i := 9) (oi := ⟨(some 36), _, _, _, _, _⟩) (v := .pointer (some ⟨g, 0, none⟩)) rfl (by kernel_rfl) (by kernel_rfl) (by kernel_rfl) (fun _ _ _ h => h) (Or.inl ⟨by rfl, ?yr4_9⟩) hHeld ?_
  case yr4_9 => (intro W0 hSw; go_simp; try with_reducible rfl)
  try simp only [pu]
  refine wpAnyH_take (i := 10) (oi := ⟨(some 37), _, _, _, _, _⟩) (v := .pointer (some ⟨g, 0, none⟩)) rfl (by kernel_rfl) (by kernel_rfl) (by kernel_rfl) (fun _ _ _ h => h) (Or.inl ⟨by rfl, ?yr4_10⟩) hHeld ?_
  case yr4_10 => (intro W0 hSw; go_simp; try with_reducible rfl)
  try simp only [pu]
  refine wpAnyH_take (i := 11) (oi := ⟨(some 38), _, _, _, _, _⟩) (v := .pointer (some ⟨g, 1, none⟩)) rfl (by kernel_rfl) (by kernel_rfl) (by kernel_rfl) (fun _ _ _ h => h) (Or.inl ⟨by rfl, ?yr4_11⟩) hHeld ?_
  case yr4_11 => (intro W0 hSw; go_simp; try with_reducible rfl)
  try simp only [pu]
  refine wpAnyH_take (i := 12) (oi := ⟨(some 39), _, _, _, _, _⟩) (v := .int .i64 (t : Int)) rfl (by kernel_rfl) (by kernel_rfl) (by kernel_rfl) (fun _ _ _ h => h) (Or.inl ⟨by rfl, ?yr4_12⟩) hHeld ?_
  case yr4_12 => (intro W0 hSw; have cc := (hSw.cell (p := ⟨g, 1, none⟩) gV).trans c1V; go_simp; try with_reducible rfl)
  try simp only [pu]
  refine wpAnyH_take (i := 13) (oi := ⟨(some 40), _, _, _, _, _⟩) (v := .int .i64 (x : Int)) rfl (by kernel_rfl) (by kernel_rfl) (by kernel_rfl) (fun _ _ _ h => h) (Or.inl ⟨by rfl, ?yr4_13⟩) hHeld ?_
  case yr4_13 => (intro W0 hSw; go_simp; try with_reducible rfl)
  try simp only [pu]
  refine wpAnyH_take (i := 14) (oi := ⟨(some 41), _, _, _, _, _⟩) (v := .int .i64 (q : Int)) rfl (by kernel_rfl) (by kernel_rfl) (by kernel_rfl) (fun _ _ _ h => h) (Or.inl ⟨by rfl, ?yr4_14⟩) hHeld ?_
  case yr4_14 => (intro W0 hSw; go_simp; try simp only [hw2]; try with_reducible rfl)
  try simp only [pu]
  refine wpAnyH_take (i := 15) (oi := ⟨(some 42), _, _, _, _, _⟩) (v := .slice A2 x c3) rfl (by kernel_rfl) (by kernel_rfl) (by kernel_rfl) (fun _ _ _ h => h) (Or.inl ⟨by rfl, ?yr4_15⟩) hHeld ?_
  case yr4_15 => (intro W0 hSw; go_simp; try with_reducible rfl)
  try simp only [pu]
  refine wpAnyH_ready (rs := [0]) (by kernel_rfl) (by simp) ?_
  refine AllReadyH.cons (i := 0) (o := ⟨(some 27), _, _, _, _, _⟩) rfl (fun K hK => ?_) AllReadyH.nil
  go_simp
  refine hK.out _ _ (hHeld.alloc hHeld.size _) (fun hHeld => ?_)
  clear hK K
  have hz0 := Res.none_lit V.drew 5 V.heap.size (Nat.le_refl _)
  have hby1 := (show Byt V.drew V.drew.heap.size A2 T from hbyV).alloc (Nat.le_refl _) (.cells #[] 5)
  try simp only [pu]
  refine wpAnyH_ready (rs := [16]) (by kernel_rfl) (by simp) ?_
  refine AllReadyH.cons (i := 16) (o := ⟨(some 43), _, _, _, _, _⟩) rfl (fun K hK => ?_) AllReadyH.nil
  refine step_append_src _ rfl (.tmp 27) (.tmp 42) 29 rfl 5 Try.underlying29 Try.infoByte V.heap.size (some ⟨V.heap.size, 0, none⟩) 0 0 [] rfl hz0 A2 x c3 rfl _ T hby1 HT.out (by omega) (by simp) ?_
  intro A4 c4 w4 hr4 hup4
  have hb4 := hup4 V.heap.size V (Nat.le_refl _) hHeld
  refine hK.out _ _ hb4 (fun hHeld => ?_)
  clear hK K
  try simp only [pu]
  refine wpAnyH_take (i := 17) (oi := ⟨(some 5), _, _, _, _, _⟩) (v := .slice A4 x c4) rfl (by kernel_rfl) (by kernel_rfl) (by kernel_rfl) (fun _ _ _ h => h) (Or.inl ⟨by rfl, ?yr4_17⟩) hHeld ?_
  case yr4_17 => (intro W0 hSw; go_simp; try with_reducible rfl)
  try simp only [pu]
  refine wpAnyH_done (by kernel_rfl) ?_ _
  have hr5 : Res w4 w.heap.size 5 A4 x c4 T := by
    have h := hr4.base_le hzV
    rw [Nat.zero_add, List.nil_append] at h
    exact h
  have hrr := hr0.next hb4
  have hbt := But.of_below (g := g) (hb0.trans (hb4.mono hzV)) (Nat.le_refl _)
  have c1W : w4.cell? ⟨g, 1, none⟩ = some (.int .i64 (t : Int)) := by rw [cell_of_row _ _ _ _ _ _ hrr.2.1]; rfl
  have f1 : w4.frozen? ⟨g, 1, none⟩ = false := frozen_of_row _ _ _ _ _ hrr.2.1
  have hst := hrr.step q
  clear hr4 hz0 hby1 hbyV hr0 hb4 hHeld hb0 c0V c1V
  go_wp2
  go_ret
  exact ⟨A4, c4, rfl, res_but hr5 hst.2 hgs0, hst.1, hbt.trans hst.2⟩
theorem rd1R_pos {B : List UInt8} {m : Nat} {s : Nat × Bool} : 0 ≤ (rd1R B m s).1 := by
  rw [rd1R]
  split
  · exact Int.le_refl _
  · split
    · exact Int.le_refl _
    · simp
theorem rdtR_no {B : List UInt8} {m t t1 : Nat} {bad b1 : Bool} {x : Int} (h : rd1R B m (t, bad) = (x, t1, b1)) (hc : b1 = true ∨ (B.length : Int) - (t1 : Int) < x) : rdtR B m (t, bad) = (noText, t1, true) := by
  rw [rdtR, h]
  exact if_pos hc
theorem rdtR_ok {B : List UInt8} {m t t1 k : Nat} {bad : Bool} (h : rd1R B m (t, bad) = ((k : Int), t1, false)) (hc : t1 + k ≤ B.length) : rdtR B m (t, bad) = (⟨((B.drop t1).take k).toArray⟩, t1 + k, false) := by
  rw [rdtR, h]
  simp only [Int.toNat_natCast]
  exact if_neg (by simp; omega)
set_option maxRecDepth 100000 in
set_option maxHeartbeats 1000000 in
theorem rrbytes_any (mx : Nat) (w : World) (z g : Nat) (A : Option Addr) (n c : Nat) (B : List UInt8) (t : Nat) (bad : Bool) (hr : RrIs w z g A n c B t bad) (hl : B.length = n) (hc : n ≤ c) (ht : t ≤ n) (hn : n ≤ 1099511627776) :
    Calls Try.prog 35 #[.pointer (some ⟨g, 0, none⟩), .int .i64 (mx : Int)] w fun e w' => ∃ x t' b' A' m' c', Vlt (rdtR B mx (t, bad) = (x, t', b')) ∧ e = .returned (.slice A' m' c') ∧ Byt w' w'.heap.size A' x.data.toList ∧ Hid (x.data.toList.length = m') ∧ RrIs w' z g A n c B t' b' ∧ t' ≤ n ∧ But g w w' := by
  have hnum := rrnum_of mx w z g A n c B t bad hr hl ht hn
  have HL := Lib.hid hl
  clear hr hl ht
  go_enter Try.func35, Try.ntmps35
  go_wp2_with fail
  refine hnum.mono ?_
  rintro e w1 ⟨x, t1, b1, hx, rfl, hr1, ht1, hb1⟩
  have hx0 : 0 ≤ x := by have h := rd1R_pos (B := B) (m := mx) (s := (t, bad)); rw [hx.out] at h; exact h
  have hrow := hr1.2.1
  have c0 : w1.cell? ⟨g, 0, none⟩ = some (.slice A n c) := by rw [cell_of_row _ _ _ _ _ _ hrow]; rfl
  have c2 : w1.cell? ⟨g, 2, none⟩ = some (.bool b1) := by rw [cell_of_row _ _ _ _ _ _ hrow]; rfl
  have f2 : w1.frozen? ⟨g, 2, none⟩ = false := frozen_of_row _ _ _ _ _ hrow
  have hsp := hr1.spoil
  clear hrow hnum
  cases b1
  · obtain ⟨k, rfl⟩ : ∃ k : Nat, x = (k : Int) := ⟨x.toNat, by omega⟩
    by_cases hbig : (n : Int) < (k : Int)
    · have HV := vlt (rdtR_no hx.out (.inr (by rw [HL.out]; omega)))
      clear hx hr1
      go_wp2
      go_ret
      exact ⟨noText, t1, true, none, 0, 0, HV, rfl, .inl rfl, rfl, hsp.1, ht1, hb1.trans hsp.2⟩
    · by_cases hd : (n : Int) - (t1 : Int) < (k : Int)
      · have HV := vlt (rdtR_no hx.out (.inr (by rw [HL.out]; exact hd)))
        have htk := rrtake_no w1 z g A n c B t1 k hr1 hn ht1 hd
        clear hx hr1 hsp f2 hd
        go_wp2_with fail
        refine htk.mono ?_
        rintro e w2 ⟨rfl, hr2, hb2⟩
        clear htk
        go_wp2
        go_ret
        exact ⟨noText, t1, true, none, 0, 0, HV, rfl, .inl rfl, rfl, hr2, ht1, hb1.trans hb2⟩
      · have htn : t1 + k ≤ n := by omega
        have HV := vlt (rdtR_ok hx.out (by rw [HL.out]; exact htn))
        have htk := rrtake_ok w1 z g A n c B t1 k hr1 HL.out hc hn htn
        obtain ⟨T, hT⟩ : ∃ T, T = (B.drop t1).take k := ⟨_, rfl⟩
        rw [← hT] at htk HV
        clear hx hr1 hsp f2 hd hT
        go_wp2_with fail
        refine htk.mono ?_
        rintro e w2 ⟨A2, c2', rfl, hres, hr2, hb2⟩
        clear htk
        go_wp2
        go_ret
        exact ⟨_, _, _, A2, k, c2', HV, rfl, hres.byt, hres.len, hr2, htn, hb1.trans hb2⟩
  · have HV := vlt (rdtR_no hx.out (.inl rfl))
    clear hx hr1
    go_wp2
    go_ret
    exact ⟨noText, t1, true, none, 0, 0, HV, rfl, .inl rfl, rfl, hsp.1, ht1, hb1.trans hsp.2⟩
end Go.Proofs.Ytabgkkdgamacnaa
namespace Go.Proofs.Ytabgkkdgamacnaa
open Go.RowKit

set_option maxRecDepth 100000 in
theorem rvhas_any (w : World) (a : List Int) (ha : a.length = 8) (d n : Int) :
    Calls Try.prog 42 #[.agg (i64v a).toArray, .agg #[.int .i64 d, .int .i64 n]] w fun e w' => e = .returned (.bool (vhas a d n)) ∧ Below w.heap.size w w' := by
  obtain ⟨W, hW, hgA, hgD, hbW, hsW⟩ := pair_new w (i64v a).toArray #[.int .i64 d, .int .i64 n] 36 24
  have HW := Lib.hid hW
  have HA := Lib.hid ha
  have c0 : W.cell? ⟨w.heap.size + 1, 0, none⟩ = some (.int .i64 d) := by rw [cell_of_row _ _ _ _ _ _ hgD.out]; rfl
  have c1 : W.cell? ⟨w.heap.size + 1, 1, none⟩ = some (.int .i64 n) := by rw [cell_of_row _ _ _ _ _ _ hgD.out]; rfl
  obtain ⟨o, ho⟩ : ∃ o, o = vhas a d n := ⟨_, rfl⟩
  have HO := vlt ho
  rw [← ho]
  clear hW ha ho hgD hsW
  go_enter Try.func42, Try.ntmps42
  go_upto_region 1 with fail
  rw [HW.out]
  clear HW
  by_cases h0 : 0 ≤ d ∧ d < 8
  · by_cases h1 : 1 ≤ n
    · obtain ⟨k, rfl⟩ : ∃ k : Nat, d = (k : Int) := ⟨d.toNat, by omega⟩
      obtain ⟨_, h2⟩ := h0
      have hk : k < 8 := by omega
      have HV := vlt (HO.out.trans (vhas_in hk h1))
      have ck := int_at hgA.out k (by rw [HA.out]; exact hk)
      generalize iat a k = y at HV ck
      clear HO hgA
      go_quiet (fail)
      go_wp2
      go_ret
      exact ⟨ret_bool HV.out.symm, Below.toN hbW _⟩
    · have HV := vlt (HO.out.trans (vhas_num h1))
      obtain ⟨h3, h4⟩ := h0
      clear HO hgA
      go_quiet (fail)
      go_wp2
      go_ret
      exact ⟨ret_bool HV.out.symm, Below.toN hbW _⟩
  · have HV := vlt (HO.out.trans (vhas_dev h0))
    clear HO hgA
    by_cases h1 : d < 0
    · have h2 : ¬ 0 ≤ d := by omega
      clear h0 h1
      go_quiet (fail)
      go_wp2
      go_ret
      exact ⟨ret_bool HV.out.symm, Below.toN hbW _⟩
    · have h2 : 0 ≤ d := by omega
      have h3 : ¬ d < 8 := by omega
      clear h0 h1
      go_quiet (fail)
      go_wp2
      go_ret
      exact ⟨ret_bool HV.out.symm, Below.toN hbW _⟩

theorem zero_rvec (w : World) : (zeroValue 36).run Try.prog w = .ok (.agg (i64v z8).toArray) w := by kernel_rfl
set_option maxRecDepth 100000 in
theorem rvgood_any (w : World) (a : List Int) (ha : a.length = 8) :
    Calls Try.prog 40 #[.agg (i64v a).toArray] w fun e w' => e = .returned (.bool (vgood a)) ∧ Below w.heap.size w w' := by
  obtain ⟨W, hW, hgW, hbW, hsW⟩ := one_new w (i64v a).toArray 36
  have HW := Lib.hid hW
  have HA := Lib.hid ha
  obtain ⟨o, ho⟩ : ∃ o, o = vgood a := ⟨_, rfl⟩
  have HO := vlt ho
  rw [← ho]
  clear hW ha ho
  go_enter Try.func40, Try.ntmps40
  go_upto_region 1 with fail
  rw [HW.out]
  clear HW
  go_wp2_with fail
  go_loopw [3] (fun i wr => ∃ (k : Nat), k ≤ 8 ∧ i = .int .i64 (k : Int) ∧ Vlt (∀ j, j < k → 0 ≤ iat a j ∧ iat a j ≤ 1099511627776) ∧ wr = W) (fun i _ => 8 - (intOf i).toNat)
  case atStart => exact ⟨0, by omega, rfl, vlt (fun j hj => absurd hj (Nat.not_lt_zero _)), rfl⟩
  case round =>
    obtain ⟨k, hk, rfl, HX, rfl⟩ := hrel
    by_cases hlt : k < 8
    · have hkl : k < a.length := by rw [HA.out]; exact hlt
      have ck := int_at hgW.out k hkl
      have hno := fun h : ¬ (0 ≤ iat a k ∧ iat a k ≤ 1099511627776) => vlt (show o = false by
        rw [HO.out]
        exact Bool.eq_false_iff.2 fun hg => h ((vgood_iff a).1 hg k hkl))
      have hyes := fun h : 0 ≤ iat a k ∧ iat a k ≤ 1099511627776 => vlt (show ∀ j, j < k + 1 → 0 ≤ iat a j ∧ iat a j ≤ 1099511627776 from fun j hj => by
        by_cases hjk : j = k
        · subst hjk; exact h
        · exact HX.out j (by omega))
      by_cases h1 : iat a k < 0
      · have HV := hno (by omega)
        clear hno hyes
        generalize iat a k = y at ck h1
        go_wp2
        go_ret
        exact ⟨ret_bool HV.out.symm, hbW⟩
      · by_cases h2 : 1099511627776 < iat a k
        · have HV := hno (by omega)
          clear hno hyes
          generalize iat a k = y at ck h1 h2
          go_wp2
          go_ret
          exact ⟨ret_bool HV.out.symm, hbW⟩
        · have HV := hyes (by omega)
          clear hno hyes
          generalize hy : iat a k = y at ck h1 h2
          clear hy
          go_wp2
          go_roundw
          case rel => exact ⟨k + 1, by omega, by go_num, HV, trivial⟩
          case measure => simp [intOf]; omega
    · obtain rfl : k = 8 := by omega
      have HV := vlt (HO.out.trans ((vgood_iff a).2 (by rw [HA.out]; exact HX.out)))
      go_wp2
      go_ret
      exact ⟨ret_bool HV.out.symm, hbW⟩
end Go.Proofs.Ytabgkkdgamacnaa
namespace Go.Proofs.Ytabgkkdgamacnaa
open Go.RowKit

/-- Read below i. -/
structure GotR (B : List UInt8) (o : List Int) (i : Nat) (s t : Nat × Bool) : Prop where
  len : o.length = 8
  num : (rdkR B 1099511627776 i s).1 = o.take i
  rest : (rdkR B 1099511627776 i s).2 = t
theorem GotR.step {B : List UInt8} {o : List Int} {i : Nat} {s t u : Nat × Bool} {x : Int} (h : GotR B o i s t) (hi : i < 8) (hx : rd1R B 1099511627776 t = (x, u)) : GotR B (o.set i x) (i + 1) s u := by
  refine ⟨by rw [List.length_set, h.len], ?_, ?_⟩
  · rw [rdkR, h.num, h.rest, hx, List.take_succ_eq_append_getElem (by rw [List.length_set, h.len]; exact hi), List.take_set_of_le (Nat.le_refl _), List.getElem_set_self]
  · rw [rdkR, h.rest, hx]
theorem GotR.all {B : List UInt8} {o : List Int} {s t : Nat × Bool} (h : GotR B o 8 s t) : rdkR B 1099511627776 8 s = (o, t) := by
  have h1 := h.num
  rw [List.take_of_length_le (by rw [h.len]; decide)] at h1
  have h2 := h.rest
  generalize rdkR B 1099511627776 8 s = p at h1 h2 ⊢
  rw [← h1, ← h2]
theorem vrdR_bad {B : List UInt8} {s t : Nat × Bool} {o : List Int} (h : rdkR B 1099511627776 8 s = (o, t)) (hb : t.2 = true) : vrdR B s = (z8, t) := by
  rw [vrdR, h]
  simp only
  rw [if_pos hb]
theorem vrdR_good {B : List UInt8} {s t : Nat × Bool} {o : List Int} (h : rdkR B 1099511627776 8 s = (o, t)) (hb : t.2 = false) : vrdR B s = (o, t) := by
  rw [vrdR, h]
  simp only
  rw [if_neg (by rw [hb]; exact Bool.false_ne_true)]
theorem built_rvec0 : Try.prog.built 36 [] = some (i64v z8).toArray := by kernel_rfl

set_option maxRecDepth 100000 in
set_option maxHeartbeats 1000000 in
theorem rvget_any (w : World) (z g : Nat) (A : Option Addr) (n c : Nat) (B : List UInt8) (t : Nat) (bad : Bool) (hr : RrIs w z g A n c B t bad) (hl : B.length = n) (ht : t ≤ n) (hn : n ≤ 1099511627776) :
    Calls Try.prog 34 #[.pointer (some ⟨g, 0, none⟩)] w fun e w' => ∃ o t' b', Vlt (vrdR B (t, bad) = (o, t', b')) ∧ Hid (o.length = 8) ∧ e = .returned (.agg (i64v o).toArray) ∧ RrIs w' z g A n c B t' b' ∧ t' ≤ n ∧ But g w w' := by
  have hzf := zero_rvec
  have HL := Lib.hid hl
  obtain ⟨W, hW, hgZ, hbW, hsW⟩ := one_new w (i64v z8).toArray 36
  have HW := Lib.hid hW
  have hs : w.heap.size < W.heap.size := by have := hsW.out; omega
  have hrW := hr.next hbW
  have hgw := hr.1.1
  have hhi := hr.1.2
  clear hW hsW hl
  go_enter Try.func34, Try.ntmps34
  go_upto_region 1 with fail
  rw [HW.out]
  clear HW
  go_upto_region 2 with (first
    | (with_reducible refine wpList_build_as rfl 36 rfl _ built_rvec0 ?_)
    | ((with_reducible refine wpList_store_row rfl 36 (.tmp 3) (.tmp 5) rfl W.heap.size (i64v z8).toArray rfl rfl 36 _ (heap_alloc_new _ _) (by kernel_rfl) (by kernel_rfl) (all_oneCell_toArray (i64v_one _)) ?_); rw [World.setRow_alloc_new]))
  obtain ⟨V, hV⟩ : ∃ V, V = W.alloc (.cells (i64v z8).toArray 36) := ⟨_, rfl⟩
  rw [← hV]
  have gZ : Hid (V.heap[w.heap.size]? = some (.cells (i64v z8).toArray 36 (0, 0))) := by rw [hV]; exact (Below.heap_alloc _ _ _ (by omega)).trans hgZ.out
  have gO : Hid (V.heap[W.heap.size]? = some (.cells (i64v z8).toArray 36 (0, 0))) := by rw [hV]; exact heap_alloc_new _ _
  have hbV : Below w.heap.size w V := by rw [hV]; exact hbW.alloc hbW.size _
  have hrV : RrIs V z g A n c B t bad := by rw [hV]; exact hrW.next ((Below.refl _ _).alloc (Nat.le_refl _) _)
  obtain ⟨R, hR⟩ : ∃ R, R = W.heap.size := ⟨_, rfl⟩
  rw [← hR] at gO hs ⊢
  clear hV hR hgZ hrW hr hbW
  have hsV : R < V.heap.size := (Array.getElem?_eq_some_iff.1 gO.out).1
  have hgR : g ≠ R := by omega
  go_wp2_with fail
  go_loopw [4] (fun s wr => ∃ (i : Nat) (o : List Int) (t' : Nat) (b' : Bool), i ≤ 8 ∧ t' ≤ n ∧ s = .int .i64 (i : Int) ∧ Hid (wr.heap[R]? = some (.cells (i64v o).toArray 36 (0, 0))) ∧ Hid (wr.heap[w.heap.size]? = some (.cells (i64v z8).toArray 36 (0, 0))) ∧ Vlt (GotR B o i (t, bad) (t', b')) ∧ Hid (RrIs wr z g A n c B t' b') ∧ But g w wr) (fun s _ => 8 - (intOf s).toNat)
  case atStart => exact ⟨0, z8, t, bad, by omega, ht, rfl, gO, gZ, vlt ⟨rfl, rfl, rfl⟩, hrV, But.of_below hbV (Nat.le_refl _)⟩
  case round =>
    obtain ⟨i, o, t', b', hi8, ht', rfl, hg, hz, hF, hrd, hbt⟩ := hrel
    by_cases hlt : i < 8
    · have hnum := rrnum_any wr z g A n c B t' b' hrd.out HL.out ht' hn
      have hol := Lib.hid hF.out.len
      clear gO gZ hrV
      go_wp2_with fail
      refine hnum.mono ?_
      rintro e w1 ⟨x, t2, b2, hx, rfl, hr1, ht2, hb1⟩
      have hg1 := row_but hg hb1 (fun e => hgR e.symm)
      have hz1 := row_but hz hb1 (by omega)
      have hF2 := vlt (hF.out.step hlt hx.out)
      have f0 : w1.frozen? ⟨R, i, none⟩ = false := frozen_of_row _ _ _ _ _ hg1.out
      have u0 := int_at hg1.out i (by rw [hol.out]; exact hlt)
      have hs2 := world_set_cell hg1.out i (.int .i64 x)
      rw [i64v_set] at hs2
      have hk : But R w1 (w1.setCell ⟨R, i, none⟩ (.int .i64 x)) := (But.refl R w1).set (i := i) (.int .i64 x)
      have hz2 := row_but hz1 hk (by omega)
      have hr2 := Lib.hid (hr1.far hk (fun e => hgR e.symm) (by omega))
      have hb2 := (hbt.trans hb1).on hk (by omega)
      generalize iat o i = oi at u0
      clear hnum hg1 hz1 hr1 hb1 hg hz hF hrd hbt hk hx hol
      go_wp2
      go_roundw
      case rel => exact ⟨i + 1, o.set i x, t2, b2, by omega, ht2, by go_num, hs2, hz2, hF2, hr2, hb2⟩
      case measure => simp [intOf]; omega
    · obtain rfl : i = 8 := by omega
      have HE := vlt hF.out.all
      have HOL := Lib.hid hF.out.len
      have hsz := Lib.hid (int8_size hF.out.len)
      have cbad : wr.cell? ⟨g, 2, none⟩ = some (.bool b') := by rw [cell_of_row _ _ _ _ _ _ hrd.out.2.1]; rfl
      clear hF gO gZ hrV
      cases b'
      · have HV := vlt (vrdR_good HE.out rfl)
        go_wp2_with (first
          | (with_reducible refine wpList_load_row rfl 36 (.tmp 3) rfl R rfl 36 (i64v o).toArray (0, 0) _ hg.out Try.underlying36 rfl (by rw [hsz.out]; kernel_rfl) ?_)
          | (with_reducible refine wpList_store_row rfl 36 (.tmp 2) (.tmp 19) rfl w.heap.size (i64v o).toArray rfl rfl 36 _ hz.out (by rw [hsz.out]; kernel_rfl) (by rw [hsz.out]; kernel_rfl) (all_oneCell_toArray (i64v_one _)) ?_))
        have hk := (But.refl w.heap.size wr).row (i64v o).toArray
        refine bodyPost_ret (v := .agg (i64v o).toArray) (results_cell_row Try.results34 _ _ w.heap.size 36 _ (0, 0) _ rfl (setRow_heap _ _ _ _ _ _ hz.out) Try.underlying36 rfl (by rw [hsz.out]; kernel_rfl)) rfl ⟨o, t', false, HV, HOL, rfl, hrd.out.far hk (by omega) hhi, ht', hbt.on hk (Nat.le_refl _)⟩
      · have HV := vlt (vrdR_bad HE.out rfl)
        have hsz2 := Lib.hid (int8_size (show z8.length = 8 from rfl))
        go_wp2_with (first
          | (with_reducible refine wpList_build_as rfl 36 rfl _ built_rvec0 ?_)
          | (with_reducible refine wpList_store_row rfl 36 (.tmp 2) (.tmp 18) rfl w.heap.size (i64v z8).toArray rfl rfl 36 _ hz.out (by kernel_rfl) (by kernel_rfl) (all_oneCell_toArray (i64v_one _)) ?_))
        have hk := (But.refl w.heap.size wr).row (i64v z8).toArray
        refine bodyPost_ret (v := .agg (i64v z8).toArray) (results_cell_row Try.results34 _ _ w.heap.size 36 _ (0, 0) _ rfl (setRow_heap _ _ _ _ _ _ hz.out) Try.underlying36 rfl (by kernel_rfl)) rfl ⟨z8, t', true, HV, rfl, rfl, hrd.out.far hk (by omega) hhi, ht', hbt.on hk (Nat.le_refl _)⟩
end Go.Proofs.Ytabgkkdgamacnaa
namespace Go.Proofs.Ytabgkkdgamacnaa
open Go.RowKit

set_option maxRecDepth 100000 in
theorem rname_any (w : World) (s : ByteArray) (hs : s.size ≤ 140737488355328) : Calls Try.prog 41 #[.string s] w fun e w' => e = .returned (.bool (nm s)) ∧ w = w' := by
  obtain ⟨o, ho⟩ : ∃ o, o = nm s := ⟨_, rfl⟩
  have HO := vlt ho
  rw [← ho]
  clear ho
  go_enter Try.func41, Try.ntmps41
  go_wp2
  go_loopw [3] (fun i wr => ∃ k : Nat, i = .int .i64 (k : Int) ∧ k ≤ s.size ∧ Vlt ((s.data.toList.take k).all nmB = true) ∧ wr = w) (fun i _ => s.size - (intOf i).toNat)
  case atStart => exact ⟨0, rfl, Nat.zero_le _, vlt rfl, rfl⟩
  case round =>
    obtain ⟨k, rfl, hk, h0, rfl⟩ := hrel
    by_cases hlt : k < s.size
    · have hb : s.data.toList[k]? = some s[k] := by
        show _ = some s.data[k]
        rw [List.getElem?_eq_getElem (by simpa using hlt)]; simp
      by_cases h3 : s[k].toNat < 33
      · have HN := vlt (show o = false by
          have h2 := nm_no hb (by simp [nmB]; omega)
          rw [HO.out]; unfold nm; rw [h2]; simp)
        have h3' : (s[k].toNat : Int) < 33 := by omega
        clear hb h0
        go_wp2
        go_ret
        exact ⟨by rw [HN.out]; rfl, rfl⟩
      · have h3' : ¬ (s[k].toNat : Int) < 33 := by omega
        by_cases h4 : 126 < s[k].toNat
        · have HN := vlt (show o = false by
            have h2 := nm_no hb (by simp [nmB]; omega)
            rw [HO.out]; unfold nm; rw [h2]; simp)
          have h4' : (126 : Int) < (s[k].toNat : Int) := by omega
          clear hb h0
          go_wp2
          go_ret
          exact ⟨by rw [HN.out]; rfl, rfl⟩
        · have h4' : ¬ (126 : Int) < (s[k].toNat : Int) := by omega
          have HT := vlt (nm_take h0.out hb (by simp [nmB]; omega))
          clear hb h0
          go_wp2
          go_roundw
          case rel => exact ⟨k + 1, by go_num, by omega, HT, trivial⟩
          case measure => simp [intOf]; omega
    · obtain rfl : k = s.size := by omega
      have HM := vlt (show o = (decide (1 ≤ s.size) && decide (s.size ≤ 40)) by
        have h3 := h0.out
        rw [List.take_of_length_le (by simp)] at h3
        rw [HO.out]; unfold nm; rw [h3]; simp)
      clear h0 hlt
      by_cases h1 : 1 ≤ s.size
      · by_cases h2 : s.size ≤ 40
        · have h1' : (1 : Int) ≤ (s.size : Int) := by omega
          have h2' : (s.size : Int) ≤ 40 := by omega
          go_wp2
          go_ret
          exact ⟨by rw [HM.out]; simp [h1, h2], rfl⟩
        · have h1' : (1 : Int) ≤ (s.size : Int) := by omega
          have h2' : ¬ (s.size : Int) ≤ 40 := by omega
          go_wp2
          go_ret
          exact ⟨by rw [HM.out]; simp [h1, h2], rfl⟩
      · have h1' : ¬ (1 : Int) ≤ (s.size : Int) := by omega
        go_wp2
        go_ret
        exact ⟨by rw [HM.out]; simp [h1], rfl⟩
end Go.Proofs.Ytabgkkdgamacnaa
namespace Go.Proofs.Ytabgkkdgamacnaa
open Go.RowKit

theorem conv_now {w : World} {A : Option Addr} {l : List UInt8} (n c : Nat) (h : Byt w w.heap.size A l) (hn : l.length = n) : (convert 29 9 (.slice A n c)).run Try.prog w = .ok (.string ⟨l.toArray⟩) w :=
  conv_bytes (P := Try.prog) Try.underlying29 Try.underlying5 Try.underlying9 h n c hn
theorem RdIs.as {w : World} {lo hi g : Nat} {l m : List UInt8} {bad : Bool} (h : RdIs w lo hi g l bad) (e : l = m) : RdIs w lo hi g m bad := e ▸ h

end Go.Proofs.Ytabgkkdgamacnaa
namespace Go.Proofs.Ytabgkkdgamacnaa
open Go.RowKit

theorem conv_as {w : World} {A : Option Addr} {l : List UInt8} {s : ByteArray} (hs : s = ⟨l.toArray⟩) (n c : Nat) (h : Byt w w.heap.size A l) (hn : l.length = n) : (convert 29 9 (.slice A n c)).run Try.prog w = .ok (.string s) w := by
  rw [hs]; exact conv_now n c h hn
theorem text_of {P Q : List UInt8} {s u : ByteArray} (hs : s = ⟨P.toArray⟩) (hu : u = ⟨Q.toArray⟩) : (s.toList = u.toList) = (P = Q) := by
  subst hs hu
  rw [ByteArray.toList_eq, ByteArray.toList_eq]
end Go.Proofs.Ytabgkkdgamacnaa
