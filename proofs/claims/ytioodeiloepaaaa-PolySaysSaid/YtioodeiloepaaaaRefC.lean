/-
  Contracts of the document's own answer for chapter 1, third part: digit, Unhex, Hex. Conditions: texts and slices are shorter than 2^46 bytes.
-/
import Derived.Test.YtioodeiloepaaaaHexN
import Derived.Test.YtioodeiloepaaaaOctCD
import Derived.Deep.RegionLaw
import Derived.Deep.QuietTactic
import Derived.BigQuiet
import Derived.Test.YtioodeiloepaaaaSrc
namespace Go.Proofs.Ytioodeiloepaaaa
open Go.RowKit

/-- A digit's number; -1 where it is none. -/
def dgt (c : Nat) : Int := match nib c with
  | some x => (x : Int)
  | none => -1

theorem digit_any (c : Nat) (w : World) (hc : c < 256) :
    Calls Try.prog 26 #[.int .u8 (c : Int)] w fun e w' => e = .returned (.int .i64 (dgt c)) ∧ w' = w := by
  have hcases : (48 ≤ c ∧ c ≤ 57 ∧ dgt c = (c : Int) - 48) ∨ (97 ≤ c ∧ c ≤ 102 ∧ dgt c = (c : Int) - 97 + 10) ∨ ((c < 48 ∨ (57 < c ∧ c < 97) ∨ 102 < c) ∧ dgt c = -1) := by
    unfold dgt nib
    by_cases h1 : 48 ≤ c ∧ c ≤ 57
    · rw [if_pos h1]; left; exact ⟨h1.1, h1.2, by simp only; omega⟩
    · rw [if_neg h1]
      by_cases h2 : 97 ≤ c ∧ c ≤ 102
      · rw [if_pos h2]; right; left; exact ⟨h2.1, h2.2, by simp only; omega⟩
      · rw [if_neg h2]; right; right; exact ⟨by omega, rfl⟩
  rcases hcases with ⟨h1, h2, h3⟩ | ⟨h1, h2, h3⟩ | ⟨h1, h3⟩
  · have H3 := Lib.hid h3
    clear h3
    go_enter Try.func26, Try.ntmps26
    go_wp2
    go_ret
    rw [H3.out]
    exact ⟨rfl, rfl⟩
  · have H3 := Lib.hid h3
    clear h3
    go_enter Try.func26, Try.ntmps26
    go_wp2
    go_ret
    rw [H3.out]
    exact ⟨rfl, rfl⟩
  · have H3 := Lib.hid h3
    clear h3
    rcases h1 with h1 | ⟨h1, h2⟩ | h1
    all_goals
      go_enter Try.func26, Try.ntmps26
      go_wp2
      go_ret
      rw [H3.out]
      exact ⟨rfl, rfl⟩

theorem dgt_some {c x : Nat} (h : nib c = some x) : dgt c = (x : Int) := by unfold dgt; rw [h]
theorem dgt_none {c : Nat} (h : nib c = none) : dgt c = -1 := by unfold dgt; rw [h]
theorem hexsum (x y : Nat) (hx : x < 16) (hy : y < 16) : (16 * (x : Int) + (y : Int)) = ((UInt8.ofNat (16 * x + y)).toNat : Int) := by
  rw [UInt8.toNat_ofNat']; omega

theorem refUnhex_ok (s : ByteArray) (l : List UInt8) (w : World) (hs : s.size ≤ 140737488355328) (h : unhex s.data.toList = some l) :
    Calls Try.prog 19 #[.string s] w fun e w' => ∃ A' c', e = .returned (.tuple #[.slice A' l.length c', .bool true]) ∧ Res w' w.heap.size 5 A' l.length c' l ∧ Below w.heap.size w w' := by
  obtain ⟨h1, h2⟩ := unhex_some _ _ h
  generalize hm : l.length = m at *
  have hsz : s.size = 2 * m := by rw [Array.length_toList] at h1; exact h1
  have H2 := Lib.hid h2
  have HM := Lib.hid hm
  clear h h1 h2 hm
  have hd2 : (((s.size : Int) % 2) != 0) = false := by simp; omega
  have hlo : s.size ≤ 2 * m := by omega
  have hhi : 2 * m ≤ s.size := by omega
  clear hsz
  go_enter Try.func19, Try.ntmps19
  go_wp2
  go_loopw [4, 5, 6, 7] (fun t i _ _ wr => ∃ (k : Nat) (A2 : Option Addr) (c2 : Nat), k ≤ m ∧ i = .int .i64 (2 * (k : Int)) ∧ t = .slice A2 k c2 ∧ Res wr w.heap.size 5 A2 k c2 (l.take k) ∧ Below w.heap.size w wr) (fun _ i _ _ _ => 2 * m - (intOf i).toNat)
  case atStart => exact ⟨0, none, 0, Nat.zero_le _, rfl, rfl, World.ownsRow_nil _ _ _ _, Below.refl _ _⟩
  case round =>
    obtain ⟨k, A2, c2, hk, rfl, rfl, hres, hbel⟩ := hrel
    by_cases hlt : k < m
    · obtain ⟨x, y, ⟨a, b, q1, q2, q3, q4⟩, q5⟩ := H2.out k hlt
      obtain ⟨hka, ea⟩ := byte_at q1
      obtain ⟨hkb, eb⟩ := byte_at q2
      have hx := nib_lt q3
      have hy := nib_lt q4
      have EA : dgt (s[2 * k].toNat) = (x : Int) := by rw [ea]; exact dgt_some q3
      have EB : dgt (s[2 * k + 1].toNat) = (y : Int) := by rw [eb]; exact dgt_some q4
      have Q5 := Lib.hid q5
      clear ea eb q1 q2 q3 q4 q5
      have z1 : (0 : Int) ≤ 2 * (k : Int) ∧ 2 * (k : Int) < (s.size : Int) := by omega
      have z2 : (0 : Int) ≤ 2 * (k : Int) + 1 ∧ 2 * (k : Int) + 1 < (s.size : Int) := by omega
      have z3 : (2 * (k : Int)).toNat = 2 * k := by omega
      have z4 : (2 * (k : Int) + 1).toNat = 2 * k + 1 := by omega
      have z5 : IntKind.i64.wrap (2 * (k : Int) + 1) = 2 * (k : Int) + 1 := IntWalk.i64_in _ (by omega)
      go_wp2_with fail
      go_quiet ((go_at_call 26; exact Calls.quiet_of_same (digit_any _ _ (UInt8.toNat_lt _))))
      rw [EA, EB]
      have hres' : Res (wr.drewN nq) w.heap.size 5 A2 k c2 (l.take k) := hres
      have hbel' := below_drewN hbel nq
      clear hres hbel EA EB
      generalize s[2 * k].toNat = b1
      generalize s[2 * k + 1].toNat = b2
      clear z1 z2 z3 z4 z5
      obtain ⟨bb, hbb⟩ : ∃ bb, bb = UInt8.ofNat (16 * x + y) := ⟨_, rfl⟩
      have hsum := Lib.hid (hexsum x y hx hy)
      rw [← hbb] at hsum
      have HBB := Lib.hid hbb
      clear hbb
      generalize wr.drewN nq = wq at *
      go_wp2_with (at_builtin; refine wp_append_bytes _ rfl (.tmp 33) (.tmp 39) 27 rfl 5 Try.underlying27 Try.infoByte w.heap.size A2 k c2 _ rfl (hres'.alloc _) ⟨wq.heap.size, 0, none⟩ 1 1 rfl [bb] rfl (new_byte _ _ _ _ hsum.out) (by omega) (by have := hbel'.size; simp; omega) ?_)
      intro A3 c3 w3 hres3 hb3
      have hbel3 := hb3 w.heap.size w (Nat.le_refl _) (hbel'.alloc (by have := hbel'.size; omega) _)
      clear hb3 hres' hbel'
      go_wp2
      go_roundw
      case rel => exact ⟨k + 1, A3, c3, by omega, by go_num, rfl, by rw [take_at Q5.out, ← HBB.out]; exact hres3, hbel3⟩
      case measure => simp [intOf]; omega
    · obtain rfl : k = m := by omega
      go_wp2
      go_ret2
      refine ⟨_, _, rfl, ?_, hbel⟩
      have h2 := hres
      rw [List.take_of_length_le (by rw [HM.out]; exact Nat.le_refl _)] at h2
      exact h2

theorem refUnhex_no (s : ByteArray) (w : World) (hs : s.size ≤ 140737488355328) (h : unhex s.data.toList = none) :
    Calls Try.prog 19 #[.string s] w fun e w' => e = .returned (.tuple #[.slice none 0 0, .bool false]) ∧ Below w.heap.size w w' := by
  by_cases ho : s.size % 2 = 1
  · have hd2 : (((s.size : Int) % 2) != 0) = true := by simp; omega
    clear h ho
    go_enter Try.func19, Try.ntmps19
    go_wp2
    go_ret2
    exact ⟨rfl, Below.refl _ _⟩
  · rcases unhex_none _ h with h1 | ⟨j, h1, h2, a, b, h3, h4, h5⟩
    · rw [Array.length_toList] at h1; exact absurd h1 ho
    rw [Array.length_toList] at h1
    have hj : 2 * j + 1 < s.size := h1
    have hd2 : (((s.size : Int) % 2) != 0) = false := by simp; omega
    have H2 := Lib.hid h2
    have H3 := Lib.hid h3
    have H4 := Lib.hid h4
    have H5 := Lib.hid h5
    clear h h1 h2 h3 h4 h5 ho
    go_enter Try.func19, Try.ntmps19
    go_wp2
    go_loopw [4, 5, 6, 7] (fun t i _ _ wr => ∃ (k : Nat) (A2 : Option Addr) (c2 : Nat) (L : List UInt8), k ≤ j ∧ i = .int .i64 (2 * (k : Int)) ∧ t = .slice A2 k c2 ∧ Res wr w.heap.size 5 A2 k c2 L ∧ Below w.heap.size w wr) (fun _ i _ _ _ => s.size - (intOf i).toNat)
    case atStart => exact ⟨0, none, 0, [], Nat.zero_le _, rfl, rfl, World.ownsRow_nil _ _ _ _, Below.refl _ _⟩
    case round =>
      obtain ⟨k, A2, c2, L, hk, rfl, rfl, hres, hbel⟩ := hrel
      have z1 : (0 : Int) ≤ 2 * (k : Int) ∧ 2 * (k : Int) < (s.size : Int) := by omega
      have z2 : (0 : Int) ≤ 2 * (k : Int) + 1 ∧ 2 * (k : Int) + 1 < (s.size : Int) := by omega
      have z3 : (2 * (k : Int)).toNat = 2 * k := by omega
      have z4 : (2 * (k : Int) + 1).toNat = 2 * k + 1 := by omega
      have z5 : IntKind.i64.wrap (2 * (k : Int) + 1) = 2 * (k : Int) + 1 := IntWalk.i64_in _ (by omega)
      by_cases hkj : k < j
      · obtain ⟨x, y, a, b, q1, q2, q3, q4⟩ := H2.out k hkj
        obtain ⟨hka, ea⟩ := byte_at q1
        obtain ⟨hkb, eb⟩ := byte_at q2
        have hx := nib_lt q3
        have hy := nib_lt q4
        have EA : dgt (s[2 * k].toNat) = (x : Int) := by rw [ea]; exact dgt_some q3
        have EB : dgt (s[2 * k + 1].toNat) = (y : Int) := by rw [eb]; exact dgt_some q4
        clear ea eb q1 q2 q3 q4
        go_wp2_with fail
        go_quiet ((go_at_call 26; exact Calls.quiet_of_same (digit_any _ _ (UInt8.toNat_lt _))))
        rw [EA, EB]
        have hres' : Res (wr.drewN nq) w.heap.size 5 A2 k c2 L := hres
        have hbel' := below_drewN hbel nq
        clear hres hbel EA EB
        generalize s[2 * k].toNat = b1
        generalize s[2 * k + 1].toNat = b2
        clear z1 z2 z3 z4 z5
        obtain ⟨bb, hbb⟩ : ∃ bb, bb = UInt8.ofNat (16 * x + y) := ⟨_, rfl⟩
        have hsum := Lib.hid (hexsum x y hx hy)
        rw [← hbb] at hsum
        have HBB := Lib.hid hbb
        clear hbb
        generalize wr.drewN nq = wq at *
        go_wp2_with (at_builtin; refine wp_append_bytes _ rfl (.tmp 33) (.tmp 39) 27 rfl 5 Try.underlying27 Try.infoByte w.heap.size A2 k c2 _ rfl (hres'.alloc _) ⟨wq.heap.size, 0, none⟩ 1 1 rfl [bb] rfl (new_byte _ _ _ _ hsum.out) (by omega) (by have := hbel'.size; simp; omega) ?_)
        intro A3 c3 w3 hres3 hb3
        have hbel3 := hb3 w.heap.size w (Nat.le_refl _) (hbel'.alloc (by have := hbel'.size; omega) _)
        clear hb3 hres' hbel'
        go_wp2
        go_roundw
        case rel => exact ⟨k + 1, A3, c3, _, by omega, by go_num, rfl, hres3, hbel3⟩
        case measure => simp [intOf]; omega
      · obtain rfl : k = j := by omega
        obtain ⟨hka, ea⟩ := byte_at H3.out
        obtain ⟨hkb, eb⟩ := byte_at H4.out
        have hbelD := hbel
        cases hx : nib a.toNat with
        | none =>
          have EA : dgt (s[2 * k].toNat) = -1 := by rw [ea]; exact dgt_none hx
          clear ea eb hx
          go_wp2_with fail
          go_quiet ((go_at_call 26; exact Calls.quiet_of_same (digit_any _ _ (UInt8.toNat_lt _))))
          rw [EA]
          go_wp2
          go_ret2
          exact ⟨rfl, below_drewN hbel nq⟩
        | some x =>
          have hy : nib b.toNat = none := by
            rcases H5.out with h | h
            · rw [hx] at h; cases h
            · exact h
          have EA : dgt (s[2 * k].toNat) = (x : Int) := by rw [ea]; exact dgt_some hx
          have EB : dgt (s[2 * k + 1].toNat) = -1 := by rw [eb]; exact dgt_none hy
          clear ea eb hx hy
          go_wp2_with fail
          go_quiet ((go_at_call 26; exact Calls.quiet_of_same (digit_any _ _ (UInt8.toNat_lt _))))
          rw [EA, EB]
          go_wp2
          go_ret2
          exact ⟨rfl, below_drewN hbel nq⟩
end Go.Proofs.Ytioodeiloepaaaa
