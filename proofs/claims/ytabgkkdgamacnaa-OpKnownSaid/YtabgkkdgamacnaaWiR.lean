/-
  Contracts of wire.Read and of a reader's Num, Bytes, Text, Bad, End. Conditions: the reader lies in a block of its own, apart from the bytes that it has; fewer than 2^46 bytes.
-/
import Derived.Test.YtabgkkdgamacnaaWiO
import Derived.Test.YtabgkkdgamacnaaByn
namespace Go.Proofs.Ytabgkkdgamacnaa
open Go.RowKit

set_option maxRecDepth 100000 in
theorem read_any (w : World) (A : Option Addr) (l : List UInt8) (n c : Nat) (ha : Byt w w.heap.size A l) (hl : l.length = n) (hn : n ≤ 70368744177664) :
    Calls Try.prog 22 #[.slice A n c] w fun e w' => ∃ g, e = .returned (.pointer (some ⟨g, 0, none⟩)) ∧ RdIs w' w.heap.size w'.heap.size g l false ∧ Below w.heap.size w w' := by
  have hcl := clone_b w A l n c ha hl hn
  clear hl
  go_enter Try.func22, Try.ntmps22
  go_wp2_with fail
  refine hcl.mono ?_
  rintro e w1 ⟨A1, c1, rfl, hr1, hb1⟩
  have hs1 : SrcIn (w1.alloc (.cells #[.slice A1 n c1, .bool false] 70)) w.heap.size (w1.alloc (.cells #[.slice A1 n c1, .bool false] 70)).heap.size w1.heap.size A1 l := by
    rcases hr1.2 with ⟨_, h0⟩ | ⟨g, cap, cur, hv, hge, hg, _⟩
    · refine .inl (List.eq_nil_of_length_eq_zero ?_)
      rw [hr1.len, h0]
    · rcases hr1.byt with h | ⟨b, o, hA, hlt, hc⟩
      · exact .inl h
      · injection hv with hv _ _
        rw [hA] at hv
        injection hv with hv
        injection hv with hv1 hv2
        exact .inr ⟨b, o, hA, by omega, by omega, by simp; omega, fun j x hj => (((Below.refl _ _).alloc (Nat.le_refl _) _).cell (p := ⟨b, o + j, none⟩) hlt).trans (hc j x hj)⟩
  have hrow := heap_alloc_new w1 (.cells #[.slice A1 n c1, .bool false] 70)
  have hbw := hb1.alloc hb1.size (.cells #[.slice A1 n c1, .bool false] 70)
  have HR := Lib.hid (RdIs.row2 ⟨hb1.size, by simp, Nat.le_refl _⟩ hrow hs1 hr1.len hr1.cap)
  clear hrow hs1 hcl
  go_wp2
  go_ret
  exact ⟨_, rfl, HR.out, hbw⟩

set_option maxRecDepth 100000 in
theorem bad_any (w : World) (lo hi g : Nat) (l : List UInt8) (bad : Bool) (hr : RdIs w lo hi g l bad) :
    Calls Try.prog 47 #[.pointer (some ⟨g, 0, none⟩)] w fun e w' => e = .returned (.bool bad) ∧ w = w' := by
  obtain ⟨hh0, A, n, c, hrow, hs, hl, hc⟩ := hr
  have c1 : w.cell? ⟨g, 1, none⟩ = some (.bool bad) := by rw [cell_of_row _ _ _ _ _ _ hrow]; rfl
  clear hrow hs hl hc
  go_enter Try.func47, Try.ntmps47
  go_wp2
  go_ret
  exact ⟨rfl, rfl⟩

set_option maxRecDepth 100000 in
theorem end_any (w : World) (lo hi g : Nat) (l : List UInt8) (bad : Bool) (hr : RdIs w lo hi g l bad) :
    Calls Try.prog 26 #[.pointer (some ⟨g, 0, none⟩)] w fun e w' => e = .returned (.bool (!bad && decide (l.length = 0))) ∧ w = w' := by
  obtain ⟨hh0, A, n, c, hrow, hs, hl, hc⟩ := hr
  have c0 : w.cell? ⟨g, 0, none⟩ = some (.slice A n c) := by rw [cell_of_row _ _ _ _ _ _ hrow]; rfl
  have c1 : w.cell? ⟨g, 1, none⟩ = some (.bool bad) := by rw [cell_of_row _ _ _ _ _ _ hrow]; rfl
  rw [hl]
  clear hrow hs hl hc
  cases bad
  · by_cases h0 : n = 0
    · subst h0
      go_enter Try.func26, Try.ntmps26
      go_wp2
      go_ret
      exact ⟨rfl, rfl⟩
    · have hd : decide (n = 0) = false := by simp [h0]
      have hd2 : ¬ (n : Int) = 0 := by omega
      rw [hd]
      go_enter Try.func26, Try.ntmps26
      go_wp2
      go_ret
      exact ⟨by simp [h0], rfl⟩
  · go_enter Try.func26, Try.ntmps26
    go_wp2
    go_ret
    exact ⟨rfl, rfl⟩

set_option maxRecDepth 100000 in
theorem num_ok (w : World) (lo hi g : Nat) (l : List UInt8) (bad : Bool) (most : Int) (x s : Nat) (hr : RdIs w lo hi g l bad) (hf : Vlt (frontOf l = (x, s))) (hs : 0 < s) (hx : (x : Int) ≤ max most 0) :
    Calls Try.prog 23 #[.pointer (some ⟨g, 0, none⟩), .int .i64 most] w fun e w' => e = .returned (.int .i64 (x : Int)) ∧ RdIs w' lo hi g (l.drop s) bad ∧ But g w w' := by
  have hsl : s ≤ l.length := by
    have h := front_len l
    rw [hf.out] at h; exact h
  have htk := take_ok w lo hi g l bad s hr hsl
  obtain ⟨hh0, A, n, c, hrow, hsr, hl, hc⟩ := hr
  have c0 : w.cell? ⟨g, 0, none⟩ = some (.slice A n c) := by rw [cell_of_row _ _ _ _ _ _ hrow]; rfl
  have hfr := front_any w A l n c (hsr.byt hh0.2.2) hl hc
  have hs0 : ¬ (s : Int) = 0 := by omega
  clear hrow hsr hl hc hsl
  go_enter Try.func23, Try.ntmps23
  go_wp2_with fail
  refine hfr.mono ?_
  rintro e w1 ⟨v, t, rfl, hvt, rfl⟩
  have hh := hvt.out.trans hf.out
  injection hh with h1 h2
  subst h1 h2
  clear hvt hf hfr
  have hs1 : ((t : Int) == 0) = false := by simp; omega
  rcases Int.lt_or_le most 0 with hm | hm
  · have hx0 : (v : Int) ≤ 0 := by omega
    clear hx
    go_wp2_with fail
    refine htk.mono ?_
    rintro e w2 ⟨A2, c2, rfl, _, _, hr2, hb2⟩
    go_wp2
    go_ret
    exact ⟨rfl, hr2, hb2⟩
  · have hx0 : (v : Int) ≤ most := by omega
    clear hx
    go_wp2_with fail
    refine htk.mono ?_
    rintro e w2 ⟨A2, c2, rfl, _, _, hr2, hb2⟩
    go_wp2
    go_ret
    exact ⟨rfl, hr2, hb2⟩

set_option maxRecDepth 100000 in
theorem num_no (w : World) (lo hi g : Nat) (l : List UInt8) (bad : Bool) (most : Int) (x s : Nat) (hr : RdIs w lo hi g l bad) (hf : Vlt (frontOf l = (x, s))) (hs : s = 0 ∨ max most 0 < (x : Int)) :
    Calls Try.prog 23 #[.pointer (some ⟨g, 0, none⟩), .int .i64 most] w fun e w' => e = .returned (.int .i64 0) ∧ RdIs w' lo hi g [] true ∧ But g w w' := by
  have hsp := spoil_any w lo hi g l bad hr
  obtain ⟨hh0, A, n, c, hrow, hsr, hl, hc⟩ := hr
  have c0 : w.cell? ⟨g, 0, none⟩ = some (.slice A n c) := by rw [cell_of_row _ _ _ _ _ _ hrow]; rfl
  have hfr := front_any w A l n c (hsr.byt hh0.2.2) hl hc
  clear hrow hsr hl hc
  go_enter Try.func23, Try.ntmps23
  go_wp2_with fail
  refine hfr.mono ?_
  rintro e w1 ⟨v, t, rfl, hvt, rfl⟩
  have hh := hvt.out.trans hf.out
  injection hh with h1 h2
  subst h1 h2
  clear hvt hf hfr
  by_cases ht : t = 0
  · subst ht
    go_wp2_with fail
    refine hsp.mono ?_
    rintro e w2 ⟨rfl, hr2, hb2⟩
    go_wp2
    go_ret
    exact ⟨rfl, hr2, hb2⟩
  · have hs1 : ((t : Int) == 0) = false := by simp; omega
    have hs2 : ¬ (t : Int) = 0 := by omega
    have hx : max most 0 < (v : Int) := by omega
    rcases Int.lt_or_le most 0 with hm | hm
    · have hx0 : 0 < v := by omega
      clear hx hs
      go_wp2_with fail
      refine hsp.mono ?_
      rintro e w2 ⟨rfl, hr2, hb2⟩
      go_wp2
      go_ret
      exact ⟨rfl, hr2, hb2⟩
    · have hx0 : most < (v : Int) := by omega
      clear hx hs
      go_wp2_with fail
      refine hsp.mono ?_
      rintro e w2 ⟨rfl, hr2, hb2⟩
      go_wp2
      go_ret
      exact ⟨rfl, hr2, hb2⟩
end Go.Proofs.Ytabgkkdgamacnaa
