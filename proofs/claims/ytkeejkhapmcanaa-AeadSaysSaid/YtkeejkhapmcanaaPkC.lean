/-
  Words and contracts that other texts share, several in one text. No statement of the seat is proved here. Conditions: as each contract says.
  Digits of bytes: no statement is proved here. Conditions: none.
  Digits read: words that other texts share. No statement is proved here. Conditions: none.
  Contracts of the document's own answer for chapter 1, third part: digit, Unhex, Hex. Conditions: texts and slices are shorter than 2^46 bytes.
  Contract of the document's own answer for chapter 1, fourth part: Hex. Conditions: the slice is shorter than 2^45 bytes.
  Tags as numbers and lists: no statement is proved here. Conditions: none.
  Contracts of poly's numberOf, plus and carried. Conditions: sixteen bytes, a top of at most one; pieces far below 2^64.
  Contract of poly's carried. Conditions: pieces below 2^62.
  Contract of poly's times. Conditions: pieces of the one below 2^28, of the other below 2^26.
  Contract of poly's told. Conditions: the one below twice the prime in small pieces, the other in pieces below 2^26.
  poly's sum in memory, and one law on stores: words that the contracts of poly share. No statement is proved here. Conditions: none.
  Contract of poly's mix. Conditions: the sum lies in a block of its own; the pieces are small; a top of at most one.
  Contract of poly's add: the sum has taken the bytes besides. Conditions: the sum lies in a block of its own, apart from the bytes.
  Contract of poly's tag: the sum is ended. Conditions: the sum lies in a block of its own.
  Contracts of poly.Clamp and of the document's own. Conditions: sixteen bytes.
  Contract of poly.Tag: the tag of all parts, one behind the other. Conditions: a key of 32 bytes; fewer than 2^58 bytes in all.
-/
import Derived.Test.YtkeejkhapmcanaaPkA
import Derived.LoopTactic
import Derived.Laws.Shifts
import Derived.Laws.ShiftsVar
import Derived.Laws.BitsAllLaws
import Derived.Deep.RegionLaw
import Derived.Deep.QuietTactic
import Derived.BigQuiet
import Derived.BigRegion
import Derived.RegionTactic
import Derived.Laws.IdiomCopy
import Derived.Laws.CopyRow
namespace Go.Proofs.Ytkeejkhapmcanaa
open Go.RowKit

/-- One digit; the digits of bytes. -/
def dg (n : Nat) : UInt8 := if n < 10 then UInt8.ofNat (48 + n) else UInt8.ofNat (87 + n)
def hexd : List UInt8 → List UInt8
  | [] => []
  | b :: r => dg (b.toNat / 16) :: dg (b.toNat % 16) :: hexd r
theorem hexd_len (l : List UInt8) : (hexd l).length = 2 * l.length := by induction l with | nil => rfl | cons b r ih => simp [hexd, ih]; omega
theorem hexd_app (l m : List UInt8) : hexd (l ++ m) = hexd l ++ hexd m := by induction l with | nil => rfl | cons b r ih => simp [hexd, ih]

theorem digit_at : ∀ m : Fin 16, ((⟨#[48, 49, 50, 51, 52, 53, 54, 55, 56, 57, 97, 98, 99, 100, 101, 102]⟩ : ByteArray)[m.val]'(m.isLt)).toNat = (dg m.val).toNat := by decide

theorem dig_hi (x : Nat) (hx : x < 256) {h : ((x : Int) / 16).toNat < (⟨#[48, 49, 50, 51, 52, 53, 54, 55, 56, 57, 97, 98, 99, 100, 101, 102]⟩ : ByteArray).size} :
    (((⟨#[48, 49, 50, 51, 52, 53, 54, 55, 56, 57, 97, 98, 99, 100, 101, 102]⟩ : ByteArray)[((x : Int) / 16).toNat]'h).toNat : Int) = ((dg (x / 16)).toNat : Int) := by
  have h1 := digit_at ⟨x / 16, by omega⟩
  have e : ((x : Int) / 16).toNat = x / 16 := by omega
  simp only [e]; rw [← h1]
theorem dig_lo (x : Nat) {h : ((x : Int) % 16).toNat < (⟨#[48, 49, 50, 51, 52, 53, 54, 55, 56, 57, 97, 98, 99, 100, 101, 102]⟩ : ByteArray).size} :
    (((⟨#[48, 49, 50, 51, 52, 53, 54, 55, 56, 57, 97, 98, 99, 100, 101, 102]⟩ : ByteArray)[((x : Int) % 16).toNat]'h).toNat : Int) = ((dg (x % 16)).toNat : Int) := by
  have h1 := digit_at ⟨x % 16, by omega⟩
  have e : ((x : Int) % 16).toNat = x % 16 := by omega
  simp only [e]; rw [← h1]
end Go.Proofs.Ytkeejkhapmcanaa
namespace Go.Proofs.Ytkeejkhapmcanaa
open Go.RowKit

/-- One digit's number. -/
def nib (c : Nat) : Option Nat := if 48 ≤ c ∧ c ≤ 57 then some (c - 48) else if 97 ≤ c ∧ c ≤ 102 then some (c - 87) else none
theorem nib_lt {c x : Nat} (h : nib c = some x) : x < 16 := by
  unfold nib at h
  split at h
  · simp at h; omega
  · split at h
    · simp at h; omega
    · cases h

/-- Two digits a byte, or none. -/
def unhex : List UInt8 → Option (List UInt8)
  | [] => some []
  | [_] => none
  | a :: b :: r => match nib a.toNat, nib b.toNat, unhex r with
    | some x, some y, some l => some (UInt8.ofNat (16 * x + y) :: l)
    | _, _, _ => none

/-- Digits 2k and 2k+1 are digits, and tell x and y. -/
def Dig (s : List UInt8) (k x y : Nat) : Prop := ∃ a b, s[2 * k]? = some a ∧ s[2 * k + 1]? = some b ∧ nib a.toNat = some x ∧ nib b.toNat = some y

theorem unhex_some : ∀ (s l : List UInt8), unhex s = some l → s.length = 2 * l.length ∧ ∀ k, k < l.length → ∃ x y, Dig s k x y ∧ l[k]? = some (UInt8.ofNat (16 * x + y))
  | [], l, h => by
    simp [unhex] at h; subst h; simp
  | [_], l, h => by simp [unhex] at h
  | a :: b :: r, l, h => by
    unfold unhex at h
    split at h
    · rename_i x y l' hx hy hr
      simp at h; subst h
      obtain ⟨h1, h2⟩ := unhex_some r l' hr
      refine ⟨by simp; omega, fun k hk => ?_⟩
      cases k with
      | zero => exact ⟨x, y, ⟨a, b, by simp, by simp, hx, hy⟩, by simp⟩
      | succ k =>
        obtain ⟨x', y', ⟨a', b', q1, q2, q3, q4⟩, q5⟩ := h2 k (by simpa using hk)
        refine ⟨x', y', ⟨a', b', ?_, ?_, q3, q4⟩, by simpa using q5⟩
        · rw [show 2 * (k + 1) = 2 * k + 2 from by omega]; simpa using q1
        · rw [show 2 * (k + 1) + 1 = 2 * k + 1 + 2 from by omega]; simpa using q2
    · cases h

theorem unhex_none : ∀ (s : List UInt8), unhex s = none → s.length % 2 = 1 ∨ ∃ j, 2 * j + 1 < s.length ∧ (∀ k, k < j → ∃ x y, Dig s k x y) ∧ ∃ a b, s[2 * j]? = some a ∧ s[2 * j + 1]? = some b ∧ (nib a.toNat = none ∨ nib b.toNat = none)
  | [], h => by simp [unhex] at h
  | [_], h => by simp
  | a :: b :: r, h => by
    unfold unhex at h
    split at h
    · cases h
    · rename_i hno
      cases hx : nib a.toNat with
      | none => exact .inr ⟨0, by simp, by simp, a, b, by simp, by simp, .inl hx⟩
      | some x =>
        cases hy : nib b.toNat with
        | none => exact .inr ⟨0, by simp, by simp, a, b, by simp, by simp, .inr hy⟩
        | some y =>
          cases hr : unhex r with
          | some l => exact absurd hr (by intro hr; exact hno x y l hx hy hr)
          | none =>
            rcases unhex_none r hr with h1 | ⟨j, h1, h2, a', b', h3, h4, h5⟩
            · left; simp; omega
            · refine .inr ⟨j + 1, by simp; omega, fun k hk => ?_, a', b', ?_, ?_, h5⟩
              · cases k with
                | zero => exact ⟨x, y, a, b, by simp, by simp, hx, hy⟩
                | succ k =>
                  obtain ⟨x', y', a2, b2, q1, q2, q3, q4⟩ := h2 k (by omega)
                  refine ⟨x', y', a2, b2, ?_, ?_, q3, q4⟩
                  · rw [show 2 * (k + 1) = 2 * k + 2 from by omega]; simpa using q1
                  · rw [show 2 * (k + 1) + 1 = 2 * k + 1 + 2 from by omega]; simpa using q2
              · rw [show 2 * (j + 1) = 2 * j + 2 from by omega]; simpa using h3
              · rw [show 2 * (j + 1) + 1 = 2 * j + 1 + 2 from by omega]; simpa using h4

theorem byte_at {s : ByteArray} {k : Nat} {a : UInt8} (h : s.data.toList[k]? = some a) : ∃ hk : k < s.size, s[k] = a := by
  obtain ⟨hk, h2⟩ := List.getElem?_eq_some_iff.1 h
  exact ⟨by have h3 := hk; rw [Array.length_toList] at h3; exact h3, by rw [← h2]; rfl⟩
end Go.Proofs.Ytkeejkhapmcanaa
namespace Go.Proofs.Ytkeejkhapmcanaa
open Go.RowKit

/-- A digit's number; -1 where it is none. -/
def dgt (c : Nat) : Int := match nib c with
  | some x => (x : Int)
  | none => -1

theorem digit_any (c : Nat) (w : World) (hc : c < 256) :
    Calls Try.prog 18 #[.int .u8 (c : Int)] w fun e w' => e = .returned (.int .i64 (dgt c)) ∧ w' = w := by
  have hcases : (48 ≤ c ∧ c ≤ 57 ∧ dgt c = (c : Int) - 48) ∨ (97 ≤ c ∧ c ≤ 102 ∧ dgt c = (c : Int) - 97 + 10) ∨ ((c < 48 ∨ (57 < c ∧ c < 97) ∨ 102 < c) ∧ dgt c = -1) := by
    unfold dgt nib
    by_cases h1 : 48 ≤ c ∧ c ≤ 57
    · rw [if_pos h1]; left; exact ⟨h1.1, h1.2, by simp only; omega⟩
    · rw [if_neg h1]
      by_cases h2 : 97 ≤ c ∧ c ≤ 102
      · rw [if_pos h2]; right; left; exact ⟨h2.1, h2.2, by simp only; omega⟩
      · rw [if_neg h2]; right; right; exact ⟨by omega, rfl⟩
  rcases hcases with ⟨h1, h2, h3⟩ | ⟨h1, h2, h3⟩ | ⟨h1, h3⟩
  · have H3 := Lib.hid h3
    clear h3
    go_enter Try.func18, Try.ntmps18
    go_wp2
    go_ret
    rw [H3.out]
    exact ⟨rfl, rfl⟩
  · have H3 := Lib.hid h3
    clear h3
    go_enter Try.func18, Try.ntmps18
    go_wp2
    go_ret
    rw [H3.out]
    exact ⟨rfl, rfl⟩
  · have H3 := Lib.hid h3
    clear h3
    rcases h1 with h1 | ⟨h1, h2⟩ | h1
    all_goals
      go_enter Try.func18, Try.ntmps18
      go_wp2
      go_ret
      rw [H3.out]
      exact ⟨rfl, rfl⟩

theorem dgt_some {c x : Nat} (h : nib c = some x) : dgt c = (x : Int) := by unfold dgt; rw [h]
theorem dgt_none {c : Nat} (h : nib c = none) : dgt c = -1 := by unfold dgt; rw [h]
theorem hexsum (x y : Nat) (hx : x < 16) (hy : y < 16) : (16 * (x : Int) + (y : Int)) = ((UInt8.ofNat (16 * x + y)).toNat : Int) := by
  rw [UInt8.toNat_ofNat']; omega

theorem refUnhex_ok (s : ByteArray) (l : List UInt8) (w : World) (hs : s.size ≤ 140737488355328) (h : unhex s.data.toList = some l) :
    Calls Try.prog 8 #[.string s] w fun e w' => ∃ A' c', e = .returned (.tuple #[.slice A' l.length c', .bool true]) ∧ Res w' w.heap.size 5 A' l.length c' l ∧ Below w.heap.size w w' := by
  obtain ⟨h1, h2⟩ := unhex_some _ _ h
  generalize hm : l.length = m at *
  have hsz : s.size = 2 * m := by rw [Array.length_toList] at h1; exact h1
  have H2 := Lib.hid h2
  have HM := Lib.hid hm
  clear h h1 h2 hm
  have hd2 : (((s.size : Int) % 2) != 0) = false := by simp; omega
  have hlo : s.size ≤ 2 * m := by omega
  have hhi : 2 * m ≤ s.size := by omega
  clear hsz
  go_enter Try.func8, Try.ntmps8
  go_wp2
  go_loopw [4, 5, 6, 7] (fun t i _ _ wr => ∃ (k : Nat) (A2 : Option Addr) (c2 : Nat), k ≤ m ∧ i = .int .i64 (2 * (k : Int)) ∧ t = .slice A2 k c2 ∧ Res wr w.heap.size 5 A2 k c2 (l.take k) ∧ Below w.heap.size w wr) (fun _ i _ _ _ => 2 * m - (intOf i).toNat)
  case atStart => exact ⟨0, none, 0, Nat.zero_le _, rfl, rfl, World.ownsRow_nil _ _ _ _, Below.refl _ _⟩
  case round =>
    obtain ⟨k, A2, c2, hk, rfl, rfl, hres, hbel⟩ := hrel
    by_cases hlt : k < m
    · obtain ⟨x, y, ⟨a, b, q1, q2, q3, q4⟩, q5⟩ := H2.out k hlt
      obtain ⟨hka, ea⟩ := byte_at q1
      obtain ⟨hkb, eb⟩ := byte_at q2
      have hx := nib_lt q3
      have hy := nib_lt q4
      have EA : dgt (s[2 * k].toNat) = (x : Int) := by rw [ea]; exact dgt_some q3
      have EB : dgt (s[2 * k + 1].toNat) = (y : Int) := by rw [eb]; exact dgt_some q4
      have Q5 := Lib.hid q5
      clear ea eb q1 q2 q3 q4 q5
      have z1 : (0 : Int) ≤ 2 * (k : Int) ∧ 2 * (k : Int) < (s.size : Int) := by omega
      have z2 : (0 : Int) ≤ 2 * (k : Int) + 1 ∧ 2 * (k : Int) + 1 < (s.size : Int) := by omega
      have z3 : (2 * (k : Int)).toNat = 2 * k := by omega
      have z4 : (2 * (k : Int) + 1).toNat = 2 * k + 1 := by omega
      have z5 : IntKind.i64.wrap (2 * (k : Int) + 1) = 2 * (k : Int) + 1 := IntWalk.i64_in _ (by omega)
      go_wp2_with fail
      go_quiet ((go_at_call 18; exact Calls.quiet_of_same (digit_any _ _ (UInt8.toNat_lt _))))
      rw [EA, EB]
      have hres' : Res (wr.drewN nq) w.heap.size 5 A2 k c2 (l.take k) := hres
      have hbel' := below_drewN hbel nq
      clear hres hbel EA EB
      generalize s[2 * k].toNat = b1
      generalize s[2 * k + 1].toNat = b2
      clear z1 z2 z3 z4 z5
      obtain ⟨bb, hbb⟩ : ∃ bb, bb = UInt8.ofNat (16 * x + y) := ⟨_, rfl⟩
      have hsum := Lib.hid (hexsum x y hx hy)
      rw [← hbb] at hsum
      have HBB := Lib.hid hbb
      clear hbb
      generalize wr.drewN nq = wq at *
      go_wp2_with (at_builtin; refine wp_append_bytes _ rfl (.tmp 33) (.tmp 39) 26 rfl 5 Try.underlying26 Try.infoByte w.heap.size A2 k c2 _ rfl (hres'.alloc _) ⟨wq.heap.size, 0, none⟩ 1 1 rfl [bb] rfl (new_byte _ _ _ _ hsum.out) (by omega) (by have := hbel'.size; simp; omega) ?_)
      intro A3 c3 w3 hres3 hb3
      have hbel3 := hb3 w.heap.size w (Nat.le_refl _) (hbel'.alloc (by have := hbel'.size; omega) _)
      clear hb3 hres' hbel'
      go_wp2
      go_roundw
      case rel => exact ⟨k + 1, A3, c3, by omega, by go_num, rfl, by rw [take_at Q5.out, ← HBB.out]; exact hres3, hbel3⟩
      case measure => simp [intOf]; omega
    · obtain rfl : k = m := by omega
      go_wp2
      go_ret2
      refine ⟨_, _, rfl, ?_, hbel⟩
      have h2 := hres
      rw [List.take_of_length_le (by rw [HM.out]; exact Nat.le_refl _)] at h2
      exact h2

theorem refUnhex_no (s : ByteArray) (w : World) (hs : s.size ≤ 140737488355328) (h : unhex s.data.toList = none) :
    Calls Try.prog 8 #[.string s] w fun e w' => e = .returned (.tuple #[.slice none 0 0, .bool false]) ∧ Below w.heap.size w w' := by
  by_cases ho : s.size % 2 = 1
  · have hd2 : (((s.size : Int) % 2) != 0) = true := by simp; omega
    clear h ho
    go_enter Try.func8, Try.ntmps8
    go_wp2
    go_ret2
    exact ⟨rfl, Below.refl _ _⟩
  · rcases unhex_none _ h with h1 | ⟨j, h1, h2, a, b, h3, h4, h5⟩
    · rw [Array.length_toList] at h1; exact absurd h1 ho
    rw [Array.length_toList] at h1
    have hj : 2 * j + 1 < s.size := h1
    have hd2 : (((s.size : Int) % 2) != 0) = false := by simp; omega
    have H2 := Lib.hid h2
    have H3 := Lib.hid h3
    have H4 := Lib.hid h4
    have H5 := Lib.hid h5
    clear h h1 h2 h3 h4 h5 ho
    go_enter Try.func8, Try.ntmps8
    go_wp2
    go_loopw [4, 5, 6, 7] (fun t i _ _ wr => ∃ (k : Nat) (A2 : Option Addr) (c2 : Nat) (L : List UInt8), k ≤ j ∧ i = .int .i64 (2 * (k : Int)) ∧ t = .slice A2 k c2 ∧ Res wr w.heap.size 5 A2 k c2 L ∧ Below w.heap.size w wr) (fun _ i _ _ _ => s.size - (intOf i).toNat)
    case atStart => exact ⟨0, none, 0, [], Nat.zero_le _, rfl, rfl, World.ownsRow_nil _ _ _ _, Below.refl _ _⟩
    case round =>
      obtain ⟨k, A2, c2, L, hk, rfl, rfl, hres, hbel⟩ := hrel
      have z1 : (0 : Int) ≤ 2 * (k : Int) ∧ 2 * (k : Int) < (s.size : Int) := by omega
      have z2 : (0 : Int) ≤ 2 * (k : Int) + 1 ∧ 2 * (k : Int) + 1 < (s.size : Int) := by omega
      have z3 : (2 * (k : Int)).toNat = 2 * k := by omega
      have z4 : (2 * (k : Int) + 1).toNat = 2 * k + 1 := by omega
      have z5 : IntKind.i64.wrap (2 * (k : Int) + 1) = 2 * (k : Int) + 1 := IntWalk.i64_in _ (by omega)
      by_cases hkj : k < j
      · obtain ⟨x, y, a, b, q1, q2, q3, q4⟩ := H2.out k hkj
        obtain ⟨hka, ea⟩ := byte_at q1
        obtain ⟨hkb, eb⟩ := byte_at q2
        have hx := nib_lt q3
        have hy := nib_lt q4
        have EA : dgt (s[2 * k].toNat) = (x : Int) := by rw [ea]; exact dgt_some q3
        have EB : dgt (s[2 * k + 1].toNat) = (y : Int) := by rw [eb]; exact dgt_some q4
        clear ea eb q1 q2 q3 q4
        go_wp2_with fail
        go_quiet ((go_at_call 18; exact Calls.quiet_of_same (digit_any _ _ (UInt8.toNat_lt _))))
        rw [EA, EB]
        have hres' : Res (wr.drewN nq) w.heap.size 5 A2 k c2 L := hres
        have hbel' := below_drewN hbel nq
        clear hres hbel EA EB
        generalize s[2 * k].toNat = b1
        generalize s[2 * k + 1].toNat = b2
        clear z1 z2 z3 z4 z5
        obtain ⟨bb, hbb⟩ : ∃ bb, bb = UInt8.ofNat (16 * x + y) := ⟨_, rfl⟩
        have hsum := Lib.hid (hexsum x y hx hy)
        rw [← hbb] at hsum
        have HBB := Lib.hid hbb
        clear hbb
        generalize wr.drewN nq = wq at *
        go_wp2_with (at_builtin; refine wp_append_bytes _ rfl (.tmp 33) (.tmp 39) 26 rfl 5 Try.underlying26 Try.infoByte w.heap.size A2 k c2 _ rfl (hres'.alloc _) ⟨wq.heap.size, 0, none⟩ 1 1 rfl [bb] rfl (new_byte _ _ _ _ hsum.out) (by omega) (by have := hbel'.size; simp; omega) ?_)
        intro A3 c3 w3 hres3 hb3
        have hbel3 := hb3 w.heap.size w (Nat.le_refl _) (hbel'.alloc (by have := hbel'.size; omega) _)
        clear hb3 hres' hbel'
        go_wp2
        go_roundw
        case rel => exact ⟨k + 1, A3, c3, _, by omega, by go_num, rfl, hres3, hbel3⟩
        case measure => simp [intOf]; omega
      · obtain rfl : k = j := by omega
        obtain ⟨hka, ea⟩ := byte_at H3.out
        obtain ⟨hkb, eb⟩ := byte_at H4.out
        have hbelD := hbel
        cases hx : nib a.toNat with
        | none =>
          have EA : dgt (s[2 * k].toNat) = -1 := by rw [ea]; exact dgt_none hx
          clear ea eb hx
          go_wp2_with fail
          go_quiet ((go_at_call 18; exact Calls.quiet_of_same (digit_any _ _ (UInt8.toNat_lt _))))
          rw [EA]
          go_wp2
          go_ret2
          exact ⟨rfl, below_drewN hbel nq⟩
        | some x =>
          have hy : nib b.toNat = none := by
            rcases H5.out with h | h
            · rw [hx] at h; cases h
            · exact h
          have EA : dgt (s[2 * k].toNat) = (x : Int) := by rw [ea]; exact dgt_some hx
          have EB : dgt (s[2 * k + 1].toNat) = -1 := by rw [eb]; exact dgt_none hy
          clear ea eb hx hy
          go_wp2_with fail
          go_quiet ((go_at_call 18; exact Calls.quiet_of_same (digit_any _ _ (UInt8.toNat_lt _))))
          rw [EA, EB]
          go_wp2
          go_ret2
          exact ⟨rfl, below_drewN hbel nq⟩
end Go.Proofs.Ytkeejkhapmcanaa
namespace Go.Proofs.Ytkeejkhapmcanaa
open Go.RowKit

theorem refHex_any (A : Option Addr) (l : List UInt8) (n c : Nat) (w : World) (ha : Byt w w.heap.size A l) (hl : l.length = n) (hn : n ≤ 35184372088832) :
    Calls Try.prog 12 #[.slice A n c] w fun e w' => e = .returned (.string ⟨(hexd l).toArray⟩) ∧ Below w.heap.size w w' := by
  obtain ⟨i0, hi, hz0, hz1, hz2⟩ := info_parts Try.infoByte
  obtain ⟨w1, hrun, hg1, hb1, hs1⟩ := make_bytes (P := Try.prog) Try.underlying26 hi hz0 hz1 hz2 0 (2 * n) (0 : Int) (2 * (n : Int)) rfl (by omega) (by omega) (by omega) w
  have HL := Lib.hid hl
  clear hl hi hz0 hz1 hz2
  go_enter Try.func12, Try.ntmps12
  go_wp2
  go_loopw [3, 4] (fun s i wr => ∃ (k : Nat) (A2 : Option Addr) (c2 : Nat), k ≤ n ∧ i = .int .i64 (k : Int) ∧ s = .slice A2 (2 * k) c2 ∧ Res wr w.heap.size 5 A2 (2 * k) c2 (hexd (l.take k)) ∧ Below w.heap.size w wr) (fun _ i _ => n - (intOf i).toNat)
  case atStart => exact ⟨0, _, _, Nat.zero_le _, rfl, rfl, Res.row (Nat.le_refl _) hg1.out (by omega) (by omega) (by simp [bv]) rfl (by simp [hexd, bv]), hb1.out⟩
  case round =>
    obtain ⟨k, A2, c2, hk, rfl, rfl, hres, hbel⟩ := hrel
    by_cases hlt : k < n
    · obtain ⟨g, o, x, rfl, hg, hx, hcell, hget⟩ := (ha.below hbel).at_ (k := k) (by rw [HL.out]; exact hlt)
      have hm : bits .and .u8 (x : Int) 15 = (x : Int) % 16 := by
        have h1 := u8_and_nat x 15 hx (by omega)
        rw [nat_mask4] at h1
        rw [show (15 : Int) = ((15 : Nat) : Int) from rfl, h1]; omega
      have b1 : 0 ≤ (x : Int) / 16 ∧ (x : Int) / 16 < 16 := by omega
      have b2 : 0 ≤ (x : Int) % 16 ∧ (x : Int) % 16 < 16 := by omega
      go_wp2
      go_region_law ((refine step_append_bytes _ rfl (.tmp 15) (.tmp 28) 26 rfl 5 Try.underlying26 Try.infoByte w.heap.size A2 (2 * k) c2 (hexd (l.take k)) (by simp [Act.eval]) (by exact (hres.alloc _).drew) ⟨wr.heap.size, 0, none⟩ 2 2 (by simp [Act.eval]) [dg (x / 16), dg (x % 16)] rfl (new_bytes2d wr _ _ _ _ _ (dig_hi x hx) (dig_lo x)) (by omega) (by have := hbel.size; simp; omega) ?_; intro A3 c3 w3 hres3 hb3))
      all_goals
        have hbel3 := hb3 w.heap.size w (Nat.le_refl _) ((hbel.alloc (by have := hbel.size; omega) _).drew)
        clear hb3 hres hbel
        go_wp2
        go_roundw
        case rel =>
          refine ⟨k + 1, A3, c3, by omega, by go_num, rfl, ?_, hbel3⟩
          rw [take_at hget.out, hexd_app]
          have h3 : Res w3 w.heap.size 5 A3 (2 * (k + 1)) c3 (hexd (l.take k) ++ [dg (x / 16), dg (x % 16)]) := hres3
          simpa [hexd, Nat.mod_eq_of_lt hx] using h3
        case measure => simp [intOf]; omega
    · obtain rfl : k = n := by omega
      have hcv := conv_bytes (P := Try.prog) Try.underlying26 Try.underlying5 Try.underlying9 hres.byt (2 * k) c2 hres.len
      go_wp2
      go_ret
      rw [List.take_of_length_le (by rw [HL.out]; exact Nat.le_refl _)]
      exact ⟨rfl, hbel⟩
end Go.Proofs.Ytkeejkhapmcanaa
namespace Go.Proofs.Ytkeejkhapmcanaa
open Go.RowKit

abbrev PP : Nat := 1361129467683753853853498429727072845819
/-- Block k; what the first k blocks come to. -/
def blkAt (l : List UInt8) (k : Nat) : List UInt8 := (l.drop (16 * k)).take 16
def accR (r : Nat) (l : List UInt8) : Nat → Nat
  | 0 => 0
  | k + 1 => ((accR r l k + (ln (blkAt l k) + 256 ^ (blkAt l k).length)) * r) % PP
def polyOf (r : Nat) (l : List UInt8) : Nat := accR r l ((l.length + 15) / 16)
theorem accR_lt (r : Nat) (l : List UInt8) : ∀ k, accR r l k < PP
  | 0 => by show 0 < PP; decide
  | k + 1 => Nat.mod_lt _ (by decide)
/-- Bits left out. -/
def clampB (k : Nat) (b : UInt8) : UInt8 := if k % 4 = 3 then b &&& 15 else if k % 4 = 0 ∧ 0 < k then b &&& 252 else b
def clampOf (l : List UInt8) : List UInt8 := l.mapIdx clampB
theorem clampOf_len (l : List UInt8) : (clampOf l).length = l.length := by simp [clampOf]
theorem clampB_twice (k : Nat) (b : UInt8) : clampB k (clampB k b) = clampB k b := by
  unfold clampB
  split
  · rw [UInt8.and_assoc]; rfl
  · split
    · rw [UInt8.and_assoc]; rfl
    · rfl
theorem clampOf_twice (l : List UInt8) : clampOf (clampOf l) = clampOf l := by
  apply List.ext_getElem?
  intro k
  simp only [clampOf, List.getElem?_mapIdx, Option.map_map]
  cases l[k]? with
  | none => rfl
  | some b => simp [clampB_twice]
def rOf (key : List UInt8) : Nat := ln (clampOf (key.take 16))
def tagOf (key l : List UInt8) : List UInt8 := le ((polyOf (rOf key) l + ln (key.drop 16)) % 340282366920938463463374607431768211456) 16
theorem tagOf_len (key l : List UInt8) : (tagOf key l).length = 16 := le_len _ _

/-- Blocks of the beginning. -/
theorem blkAt_app (l x : List UInt8) (k : Nat) (h : 16 * k + 16 ≤ l.length) : blkAt (l ++ x) k = blkAt l k := by
  unfold blkAt
  rw [List.drop_append_of_le_length (by omega), List.take_append_of_le_length (by simp; omega)]
theorem accR_app (r : Nat) (l x : List UInt8) : ∀ k, 16 * k ≤ l.length → accR r (l ++ x) k = accR r l k
  | 0, _ => rfl
  | k + 1, h => by rw [accR, accR, accR_app r l x k (by omega), blkAt_app l x k (by omega)]

/-- A number in five pieces. -/
def nv (a b c d e : Nat) : Nat := a + 67108864 * b + 4503599627370496 * c + 302231454903657293676544 * d + 20282409603651670423947251286016 * e
/-- Products, what is past the last piece five times at the front. -/
theorem prod_pieces (a0 a1 a2 a3 a4 b0 b1 b2 b3 b4 : Nat) :
    nv a0 a1 a2 a3 a4 * nv b0 b1 b2 b3 b4 =
      nv (a0 * b0 + a1 * (5 * b4) + a2 * (5 * b3) + a3 * (5 * b2) + a4 * (5 * b1))
         (a0 * b1 + a1 * b0 + a2 * (5 * b4) + a3 * (5 * b3) + a4 * (5 * b2))
         (a0 * b2 + a1 * b1 + a2 * b0 + a3 * (5 * b4) + a4 * (5 * b3))
         (a0 * b3 + a1 * b2 + a2 * b1 + a3 * b0 + a4 * (5 * b4))
         (a0 * b4 + a1 * b3 + a2 * b2 + a3 * b1 + a4 * b0)
      + PP * nv (a1 * b4 + a2 * b3 + a3 * b2 + a4 * b1) (a2 * b4 + a3 * b3 + a4 * b2) (a3 * b4 + a4 * b3) (a4 * b4) 0 := by
  simp only [nv, PP]
  grind
theorem mod_of_eq {x y q : Nat} (h : x = y + PP * q) : x % PP = y % PP := by rw [h, Nat.add_mul_mod_self_left]
/-- Carried. -/
def cr0 (a0 a1 a2 a3 a4 : Nat) : Nat := (a4 + (a3 + (a2 + (a1 + a0 / 67108864) / 67108864) / 67108864) / 67108864) / 67108864
theorem carry_sum (a0 a1 a2 a3 a4 v1 v2 v3 v4 o : Nat) (h1 : v1 = a1 + a0 / 67108864) (h2 : v2 = a2 + v1 / 67108864) (h3 : v3 = a3 + v2 / 67108864) (h4 : v4 = a4 + v3 / 67108864) (h5 : o = v4 / 67108864) :
    nv a0 a1 a2 a3 a4 = nv (a0 % 67108864 + 5 * o) (v1 % 67108864) (v2 % 67108864) (v3 % 67108864) (v4 % 67108864) + PP * o := by
  simp only [nv, PP]
  omega
/-- Told: one over the prime or not; the sum. -/
theorem over_is (a0 a1 a2 a3 a4 c1 c2 c3 c4 c5 : Nat) (h1 : c1 = (a0 + 5) / 67108864) (h2 : c2 = (a1 + c1) / 67108864) (h3 : c3 = (a2 + c2) / 67108864) (h4 : c4 = (a3 + c3) / 67108864) (h5 : c5 = (a4 + c4) / 67108864)
    (hb : nv a0 a1 a2 a3 a4 < 2 * PP) : nv a0 a1 a2 a3 a4 = nv a0 a1 a2 a3 a4 % PP + PP * c5 ∧ c5 ≤ 1 := by
  generalize hN : nv a0 a1 a2 a3 a4 = N at *
  have hk : ∃ R, N + 5 = 1361129467683753853853498429727072845824 * c5 + R ∧ R < 1361129467683753853853498429727072845824 := by
    refine ⟨(a0 + 5) % 67108864 + 67108864 * ((a1 + c1) % 67108864) + 4503599627370496 * ((a2 + c2) % 67108864) + 302231454903657293676544 * ((a3 + c3) % 67108864) + 20282409603651670423947251286016 * ((a4 + c4) % 67108864), ?_, by omega⟩
    rw [← hN]
    simp only [nv]
    omega
  obtain ⟨R, hR, hR2⟩ := hk
  clear hN h1 h2 h3 h4 h5
  simp only [PP] at *
  have hc : c5 ≤ 1 := by omega
  refine ⟨?_, hc⟩
  have h01 : c5 = 0 ∨ c5 = 1 := by omega
  rcases h01 with rfl | rfl
  · omega
  · omega
theorem told_sum (a0 a1 a2 a3 a4 b0 b1 b2 b3 b4 o e0 e1 e2 e3 e4 S : Nat) (hS : nv a0 a1 a2 a3 a4 = S + PP * o)
    (h0 : e0 = 5 * o + (a0 + b0)) (h1 : e1 = e0 / 67108864 + (a1 + b1)) (h2 : e2 = e1 / 67108864 + (a2 + b2)) (h3 : e3 = e2 / 67108864 + (a3 + b3)) (h4 : e4 = e3 / 67108864 + (a4 + b4)) :
    nv (e0 % 67108864) (e1 % 67108864) (e2 % 67108864) (e3 % 67108864) (e4 % 67108864) % 340282366920938463463374607431768211456 = (S + nv b0 b1 b2 b3 b4) % 340282366920938463463374607431768211456 := by
  simp only [nv, PP] at *
  omega
theorem low_half (a0 a1 a2 a3 a4 : Nat) (h0 : a0 < 67108864) (h1 : a1 < 67108864) : nv a0 a1 a2 a3 a4 % 18446744073709551616 = a0 + a1 * 67108864 + a2 * 4503599627370496 % 18446744073709551616 := by
  simp only [nv]; omega
theorem high_half (a0 a1 a2 a3 a4 : Nat) (h0 : a0 < 67108864) (h1 : a1 < 67108864) (h2 : a2 < 67108864) (h3 : a3 < 67108864) :
    nv a0 a1 a2 a3 a4 / 18446744073709551616 % 18446744073709551616 = a2 / 4096 + a3 * 16384 + a4 * 1099511627776 % 18446744073709551616 := by
  simp only [nv]; omega
end Go.Proofs.Ytkeejkhapmcanaa
namespace Go.Proofs.Ytkeejkhapmcanaa
open Go.RowKit

def z5 : List Nat := List.replicate 5 0
theorem zero_num (w : World) : (zeroValue 74).run Try.prog w = .ok (.agg (u64v z5).toArray) w := by kernel_rfl
theorem pieces_of (l h t : Nat) (hl : l < 18446744073709551616) :
    nv (l % 67108864) (l / 67108864 % 67108864) ((l / 4503599627370496 + h * 4096 % 18446744073709551616) % 67108864) (h / 16384 % 67108864) (h / 1099511627776 + t * 16777216) = l + 18446744073709551616 * h + 340282366920938463463374607431768211456 * t := by
  simp only [nv]; omega
theorem built_num (a b c d e : Nat) : Try.prog.built 74 [(0, .int .u64 (a : Int)), (1, .int .u64 (b : Int)), (2, .int .u64 (c : Int)), (3, .int .u64 (d : Int)), (4, .int .u64 (e : Int))] = some (u64v [a, b, c, d, e]).toArray := by kernel_rfl
theorem ln_split (l : List UInt8) (k : Nat) (h : k ≤ l.length) : ln (l.take k) + 256 ^ k * ln (l.drop k) = ln l := by
  induction k generalizing l with
  | zero => simp [ln]
  | succ k ih =>
    cases l with
    | nil => simp at h
    | cons b r =>
      rw [List.take_succ_cons, List.drop_succ_cons, ln, ln, ← ih r (by simpa using h), Nat.pow_succ]
      grind
set_option maxRecDepth 100000 in
set_option maxHeartbeats 1000000 in
theorem numberOf_any (w : World) (b : List UInt8) (t : Nat) (hb : b.length = 16) (ht : t ≤ 1) :
    Calls Try.prog 45 #[.agg (bv b).toArray, .int .u64 (t : Int)] w fun e w' => ∃ a0 a1 a2 a3 a4, e = .returned (.agg (u64v [a0, a1, a2, a3, a4]).toArray) ∧ Vlt (nv a0 a1 a2 a3 a4 = ln b + 340282366920938463463374607431768211456 * t) ∧ (a0 < 67108864 ∧ a1 < 67108864 ∧ a2 < 67108864 ∧ a3 < 67108864 ∧ a4 < 67108864) ∧ Below w.heap.size w w' := by
  have hzn := zero_num
  obtain ⟨W, hW, hgA, hgZ, hbW, hsW⟩ := pair_new w (bv b).toArray (u64v z5).toArray 45 74
  have HW := Lib.hid hW
  have HB := Lib.hid hb
  clear hW hb
  have hc1 := cut_lh Try.underlying45 Try.sizeByte w.heap.size 0 0 8 0 8 rfl rfl (by decide) (by decide) (by decide)
  have hc2 := cut_l Try.underlying45 Try.sizeByte w.heap.size 0 8 8 rfl (by decide)
  go_enter Try.func45, Try.ntmps45
  go_upto_region 1 with fail
  rw [HW.out]
  have hb1 := byt_mid hgA.out 0 8
  have hb2 := byt_mid hgA.out 8 8
  have hl1 : ((b.drop 0).take 8).length = 8 := by simp [HB.out]
  have hl2 : ((b.drop 8).take 8).length = 8 := by simp [HB.out]
  have hlow := ln_lt 8 _ hl1
  have hhigh := ln_lt 8 _ hl2
  have hsum : Vlt (ln b = ln ((b.drop 0).take 8) + 18446744073709551616 * ln ((b.drop 8).take 8)) := vlt (by
    rw [List.drop_zero, ← ln_split b 8 (by rw [HB.out]; decide), List.take_of_length_le (l := b.drop 8) (by simp [HB.out])])
  generalize (b.drop 0).take 8 = b1 at *
  generalize (b.drop 8).take 8 = b2 at *
  go_wp2_with fail
  refine (fromLittle_ok _ b1 8 16 W hb1 hl1 (by decide)).mono ?_
  rintro e w' ⟨rfl, rfl⟩
  go_wp2_with fail
  refine (fromLittle_ok _ b2 8 8 W hb2 hl2 (by decide)).mono ?_
  rintro e w' ⟨rfl, rfl⟩
  generalize hx : ln b1 = x at *
  generalize hy : ln b2 = y at *
  have hx2 : x < 18446744073709551616 := by omega
  have hy2 : y < 18446744073709551616 := by omega
  clear hlow hhigh hx hy hb1 hb2 hl1 hl2
  have e4 : bits .or .u64 ((y : Int) / 1099511627776) ((t : Int) * 16777216) = ((y / 1099511627776 + t * 16777216 : Nat) : Int) := by
    rw [show (y : Int) / 1099511627776 = ((y / 1099511627776 : Nat) : Int) by omega, show (t : Int) * 16777216 = ((t * 16777216 : Nat) : Int) by omega, u64_or_nat _ _ (by omega) (by omega), Nat.or_comm,
      nat_join 24 _ _ (by omega) (by omega), Nat.add_comm]
  have e2' : bits .or .u64 ((x : Int) / 4503599627370496) (IntKind.u64.wrap ((y : Int) * 4096)) = ((x / 4503599627370496 + y * 4096 % 18446744073709551616 : Nat) : Int) := by
    rw [show (x : Int) / 4503599627370496 = ((x / 4503599627370496 : Nat) : Int) by omega, show (y : Int) * 4096 = ((y * 4096 : Nat) : Int) by omega, wrap64, u64_or_nat _ _ (by omega) (by omega), Nat.or_comm,
      nat_join 12 _ _ (by omega) (by omega), Nat.add_comm]
  have e0 := and26 x hx2
  have e1 := and26 (x / 67108864) (by omega)
  rw [show ((x / 67108864 : Nat) : Int) = (x : Int) / 67108864 by omega] at e1
  have e2 := and26 (x / 4503599627370496 + y * 4096 % 18446744073709551616) (by omega)
  rw [← e2'] at e2
  have e3 := and26 (y / 16384) (by omega)
  rw [show ((y / 16384 : Nat) : Int) = (y : Int) / 16384 by omega] at e3
  have HP := vlt (pieces_of x y t hx2)
  have l0 : x % 67108864 < 67108864 := by omega
  have l1 : x / 67108864 % 67108864 < 67108864 := by omega
  have l2 : (x / 4503599627370496 + y * 4096 % 18446744073709551616) % 67108864 < 67108864 := by omega
  have l3 : y / 16384 % 67108864 < 67108864 := by omega
  have l4 : y / 1099511627776 + t * 16777216 < 67108864 := by omega
  generalize x % 67108864 = p0 at *
  generalize x / 67108864 % 67108864 = p1 at *
  generalize (x / 4503599627370496 + y * 4096 % 18446744073709551616) % 67108864 = p2 at *
  generalize y / 16384 % 67108864 = p3 at *
  generalize y / 1099511627776 + t * 16777216 = p4 at *
  clear e2'
  have HZ5 := Lib.hid (show (u64v z5).toArray.size = 5 from rfl)
  go_wp2_with (first
    | (with_reducible refine wpList_build_to rfl 74 _ rfl [(0, .int .u64 (p0 : Int)), (1, .int .u64 (p1 : Int)), (2, .int .u64 (p2 : Int)), (3, .int .u64 (p3 : Int)), (4, .int .u64 (p4 : Int))] (by rfl) _ (built_num p0 p1 p2 p3 p4) ?_)
    | (with_reducible refine wpList_store_row rfl 74 (.tmp 4) (.tmp 38) rfl (w.heap.size + 1) (u64v [p0, p1, p2, p3, p4]).toArray rfl rfl 74 _ hgZ.out (by kernel_rfl) (by kernel_rfl) (all_oneCell_toArray (u64v_one _)) ?_))
  refine bodyPost_ret (v := .agg (u64v [p0, p1, p2, p3, p4]).toArray) (results_cell_row Try.results45 _ _ (w.heap.size + 1) 74 _ (0, 0) _ rfl (setRow_heap _ _ _ _ _ _ hgZ.out) Try.underlying74 rfl (by kernel_rfl)) rfl ⟨p0, p1, p2, p3, p4, rfl, ?_, ⟨l0, l1, l2, l3, l4⟩, below_setRow hbW (by omega) _⟩
  exact vlt (by rw [HP.out, hsum.out])

/-- The first k pieces added. -/
def addK (l m : List Nat) : Nat → List Nat
  | 0 => l
  | k + 1 => (addK l m k).set k (natAt (addK l m k) k + natAt m k)
theorem addK_len (l m : List Nat) : ∀ k, (addK l m k).length = l.length
  | 0 => rfl
  | k + 1 => by rw [addK, List.length_set, addK_len l m k]
theorem addK_five (a0 a1 a2 a3 a4 b0 b1 b2 b3 b4 : Nat) : addK [a0, a1, a2, a3, a4] [b0, b1, b2, b3, b4] 5 = [a0 + b0, a1 + b1, a2 + b2, a3 + b3, a4 + b4] := rfl
theorem addK_at (l m : List Nat) (k : Nat) : ∀ j, j ≤ k → natAt (addK l m j) k = natAt l k
  | 0, _ => rfl
  | j + 1, h => by
    have ih := addK_at l m k j (by omega)
    simp only [natAt, addK] at *
    rw [List.getD_eq_getElem?_getD, List.getElem?_set_ne (by omega), ← List.getD_eq_getElem?_getD]; exact ih
set_option maxRecDepth 100000 in
set_option maxHeartbeats 1000000 in
theorem nplus_any (w : World) (l m : List Nat) (hl : l.length = 5) (hm : m.length = 5) (bl : ∀ x ∈ l, x < 4611686018427387904) (bm : ∀ x ∈ m, x < 4611686018427387904) :
    Calls Try.prog 58 #[.agg (u64v l).toArray, .agg (u64v m).toArray] w fun e w' => e = .returned (.agg (u64v (addK l m 5)).toArray) ∧ Below w.heap.size w w' := by
  have hzn := zero_num
  obtain ⟨W, hW, hgA, hgB, hgZ, hbW, hsW⟩ := three_new w (u64v l).toArray (u64v m).toArray (u64v z5).toArray 74 74 74
  have HW := Lib.hid hW
  have HL := Lib.hid hl
  have HM := Lib.hid hm
  have BL := Lib.hid bl
  have BM := Lib.hid bm
  have hs1 : w.heap.size + 2 < W.heap.size := by have := hsW.out; omega
  clear hW hl hm bl bm
  go_enter Try.func58, Try.ntmps58
  go_upto_region 1 with fail
  rw [HW.out]
  go_wp2_with fail
  go_loopw [6] (fun i wr => ∃ k : Nat, k ≤ 5 ∧ i = .int .i64 (k : Int) ∧ Hid (wr.heap[w.heap.size]? = some (.cells (u64v (addK l m k)).toArray 74 (0, 0))) ∧ But w.heap.size W wr) (fun i _ => 5 - (intOf i).toNat)
  case atStart => exact ⟨0, by omega, rfl, hgA, But.refl _ _⟩
  case round =>
    obtain ⟨k, hk, rfl, hg, hbt⟩ := hrel
    by_cases hlt : k < 5
    · obtain ⟨X, hX⟩ : ∃ X, X = addK l m k := ⟨_, rfl⟩
      rw [← hX] at hg
      have HXL := Lib.hid (show X.length = 5 by rw [hX, addK_len]; exact HL.out)
      have HX := vlt (show addK l m (k + 1) = X.set k (natAt X k + natAt m k) by rw [hX, addK])
      have bx : natAt X k < 4611686018427387904 := by rw [hX, addK_at l m k k (Nat.le_refl _)]; exact getD_lt BL.out (by decide) k
      have bm : natAt m k < 4611686018427387904 := getD_lt BM.out (by decide) k
      clear hX
      have hgB2 : Hid (wr.heap[w.heap.size + 1]? = some (.cells (u64v m).toArray 74 (0, 0))) := (hbt.block _ (by omega) (by intro e; injection e; omega)).trans hgB.out
      have c0 := long_at hg.out k (by rw [HXL.out]; exact hlt)
      have c1 := long_at hgB2.out k (by rw [HM.out]; exact hlt)
      have hset : Hid ((wr.setCell ⟨w.heap.size, k, none⟩ (.int .u64 ((natAt X k : Int) + (natAt m k : Int)))).heap[w.heap.size]? = some (.cells (u64v (addK l m (k + 1))).toArray 74 (0, 0))) := by
        have h1 := (world_set_cell hg.out k (.int .u64 ((natAt X k + natAt m k : Nat) : Int))).out
        rw [u64v_set, ← HX.out, Int.natCast_add] at h1
        exact h1
      have hb2 := hbt.set (i := k) (.int .u64 ((natAt X k : Int) + (natAt m k : Int)))
      have f0 : wr.frozen? ⟨w.heap.size, k, none⟩ = false := frozen_of_row _ _ _ _ _ hg.out
      generalize natAt X k = x0 at *
      generalize natAt m k = y0 at *
      go_wp2_with fail
      go_region
      generalize wr.setCell ⟨w.heap.size, k, none⟩ (.int .u64 ((x0 : Int) + (y0 : Int))) = w3 at *
      go_wp2
      go_roundw
      case rel => exact ⟨k + 1, by omega, by go_num, hset, hb2.drew⟩
      case measure => simp [intOf]; omega
    · obtain ⟨X, hX⟩ : ∃ X, X = addK l m 5 := ⟨_, rfl⟩
      have hgf : Hid (wr.heap[w.heap.size]? = some (.cells (u64v X).toArray 74 (0, 0))) := by
        have h1 := hg.out
        rw [show k = 5 by omega, ← hX] at h1
        exact h1
      have hsX := Lib.hid (show (u64v X).toArray.size = 5 by simp [u64v_len, hX, addK_len, HL.out])
      have hz : Hid (wr.heap[w.heap.size + 1 + 1]? = some (.cells (u64v z5).toArray 74 (0, 0))) := (hbt.block _ (by omega) (by intro e; injection e; omega)).trans hgZ.out
      have HX := Lib.hid hX
      have hbw : Below w.heap.size w wr := But.below hbW hbt (by omega) (by omega)
      clear hX hg
      go_wp2_with (first
        | (with_reducible refine wpList_load_row rfl 74 (.tmp 2) rfl w.heap.size rfl 74 (u64v X).toArray (0, 0) _ hgf.out Try.underlying74 rfl (by rw [hsX.out]; kernel_rfl) ?_)
        | (with_reducible refine wpList_store_row rfl 74 (.tmp 4) (.tmp 18) rfl (w.heap.size + 1 + 1) (u64v X).toArray rfl rfl 74 _ hz.out (by rw [hsX.out]; kernel_rfl) (by rw [hsX.out]; kernel_rfl) (all_oneCell_toArray (u64v_one _)) ?_))
      refine bodyPost_ret (v := .agg (u64v X).toArray) (results_cell_row Try.results58 _ _ (w.heap.size + 1 + 1) 74 _ (0, 0) _ rfl (setRow_heap _ _ _ _ _ _ hz.out) Try.underlying74 rfl (by rw [hsX.out]; kernel_rfl)) rfl ⟨by rw [HX.out], below_setRow hbw (by omega) _⟩
end Go.Proofs.Ytkeejkhapmcanaa
namespace Go.Proofs.Ytkeejkhapmcanaa
open Go.RowKit

/-- The first k pieces carried, and what is over. -/
def cst (l : List Nat) : Nat → List Nat × Nat
  | 0 => (l, 0)
  | k + 1 => ((cst l k).1.set k ((natAt (cst l k).1 k + (cst l k).2) % 67108864), (natAt (cst l k).1 k + (cst l k).2) / 67108864)
theorem cst_len (l : List Nat) : ∀ k, (cst l k).1.length = l.length
  | 0 => rfl
  | k + 1 => by rw [cst, List.length_set, cst_len l k]
theorem cst_at (l : List Nat) (k : Nat) : ∀ j, j ≤ k → natAt (cst l j).1 k = natAt l k
  | 0, _ => rfl
  | j + 1, h => by
    have ih := cst_at l k j (by omega)
    simp only [natAt, cst] at *
    rw [List.getD_eq_getElem?_getD, List.getElem?_set_ne (by omega), ← List.getD_eq_getElem?_getD]; exact ih
theorem cst_over (l : List Nat) (bl : ∀ x ∈ l, x < 4611686018427387904) : ∀ k, (cst l k).2 < 137438953472
  | 0 => by show 0 < _; decide
  | k + 1 => by
    have ih := cst_over l bl k
    have h1 := cst_at l k k (Nat.le_refl _)
    have h2 : natAt l k < 4611686018427387904 := getD_lt bl (by decide) k
    show (natAt (cst l k).1 k + (cst l k).2) / 67108864 < _
    omega
def carOf (l : List Nat) : List Nat := (cst l 5).1.set 0 (natAt (cst l 5).1 0 + 5 * (cst l 5).2)
theorem carOf_len (l : List Nat) : (carOf l).length = l.length := by rw [carOf, List.length_set, cst_len]
theorem carOf_five (a0 a1 a2 a3 a4 : Nat) : ∃ v1 v2 v3 v4 o, carOf [a0, a1, a2, a3, a4] = [a0 % 67108864 + 5 * o, v1 % 67108864, v2 % 67108864, v3 % 67108864, v4 % 67108864] ∧ v1 = a1 + a0 / 67108864 ∧ v2 = a2 + v1 / 67108864 ∧ v3 = a3 + v2 / 67108864 ∧ v4 = a4 + v3 / 67108864 ∧ o = v4 / 67108864 :=
  ⟨_, _, _, _, _, rfl, rfl, rfl, rfl, rfl, rfl⟩
/-- Carried twice: the same number modulo the prime, in pieces that are small. -/
theorem car_twice (a0 a1 a2 a3 a4 : Nat) (h0 : a0 < 576460752303423488) (h1 : a1 < 576460752303423488) (h2 : a2 < 576460752303423488) (h3 : a3 < 576460752303423488) (h4 : a4 < 576460752303423488) :
    ∃ c0 c1 c2 c3 c4, carOf (carOf [a0, a1, a2, a3, a4]) = [c0, c1, c2, c3, c4] ∧ nv a0 a1 a2 a3 a4 % PP = nv c0 c1 c2 c3 c4 % PP ∧ c0 < 67108870 ∧ c1 < 67108864 ∧ c2 < 67108864 ∧ c3 < 67108864 ∧ c4 < 67108864 ∧
      (∀ x ∈ carOf [a0, a1, a2, a3, a4], x < 4611686018427387904) := by
  obtain ⟨v1, v2, v3, v4, o, e, e1, e2, e3, e4, e5⟩ := carOf_five a0 a1 a2 a3 a4
  rw [e]
  have hs := carry_sum a0 a1 a2 a3 a4 v1 v2 v3 v4 o e1 e2 e3 e4 e5
  have ho : o < 17179869184 := by omega
  generalize hb0 : a0 % 67108864 + 5 * o = b0 at *
  generalize hb1 : v1 % 67108864 = b1 at *
  generalize hb2 : v2 % 67108864 = b2 at *
  generalize hb3 : v3 % 67108864 = b3 at *
  generalize hb4 : v4 % 67108864 = b4 at *
  have l0 : b0 < 137438953472 := by omega
  have l1 : b1 < 67108864 := by omega
  have l2 : b2 < 67108864 := by omega
  have l3 : b3 < 67108864 := by omega
  have l4 : b4 < 67108864 := by omega
  clear hb0 hb1 hb2 hb3 hb4 e e1 e2 e3 e4 e5
  obtain ⟨u1, u2, u3, u4, q, k, k1, k2, k3, k4, k5⟩ := carOf_five b0 b1 b2 b3 b4
  have ht := carry_sum b0 b1 b2 b3 b4 u1 u2 u3 u4 q k1 k2 k3 k4 k5
  have hq : q ≤ 1 := by omega
  refine ⟨_, _, _, _, _, k, ?_, by omega, by omega, by omega, by omega, by omega, ?_⟩
  · rw [mod_of_eq hs, mod_of_eq ht]
  · intro x hx
    simp only [List.mem_cons, List.not_mem_nil, or_false] at hx
    omega

set_option maxRecDepth 100000 in
set_option maxHeartbeats 1000000 in
theorem carried_any (w : World) (l : List Nat) (hl : l.length = 5) (bl : ∀ x ∈ l, x < 4611686018427387904) :
    Calls Try.prog 60 #[.agg (u64v l).toArray] w fun e w' => e = .returned (.agg (u64v (carOf l)).toArray) ∧ Below w.heap.size w w' := by
  have hzn := zero_num
  obtain ⟨W, hW, hgA, hgZ, hbW, hsW⟩ := pair_new w (u64v l).toArray (u64v z5).toArray 74 74
  have HW := Lib.hid hW
  have HL := Lib.hid hl
  have BL := Lib.hid bl
  have hs1 : w.heap.size + 1 < W.heap.size := by have := hsW.out; omega
  clear hW hl bl
  go_enter Try.func60, Try.ntmps60
  go_upto_region 1 with fail
  rw [HW.out]
  go_wp2_with fail
  go_loopw [3, 5] (fun o i wr => ∃ k q : Nat, k ≤ 5 ∧ i = .int .i64 (k : Int) ∧ o = .int .u64 (q : Int) ∧ q < 137438953472 ∧ Hid (q = (cst l k).2) ∧ Hid (wr.heap[w.heap.size]? = some (.cells (u64v (cst l k).1).toArray 74 (0, 0))) ∧ But w.heap.size W wr) (fun _ i _ => 5 - (intOf i).toNat)
  case atStart => exact ⟨0, 0, by omega, rfl, rfl, by decide, rfl, hgA, But.refl _ _⟩
  case round =>
    obtain ⟨k, q, hk, rfl, rfl, lq, hq, hg, hbt⟩ := hrel
    by_cases hlt : k < 5
    · obtain ⟨X, hX⟩ : ∃ X, X = (cst l k).1 := ⟨_, rfl⟩
      rw [← hX] at hg
      have HXL := Lib.hid (show X.length = 5 by rw [hX, cst_len]; exact HL.out)
      have bx : natAt X k < 4611686018427387904 := by rw [hX, cst_at l k k (Nat.le_refl _)]; exact getD_lt BL.out (by decide) k
      have HX1 := vlt (show (cst l (k + 1)).1 = X.set k ((natAt X k + q) % 67108864) by rw [hX, hq.out]; rfl)
      have HX2 := vlt (show (cst l (k + 1)).2 = (natAt X k + q) / 67108864 by rw [hX, hq.out]; rfl)
      clear hX
      have c0 := long_at hg.out k (by rw [HXL.out]; exact hlt)
      have f0 : wr.frozen? ⟨w.heap.size, k, none⟩ = false := frozen_of_row _ _ _ _ _ hg.out
      generalize natAt X k = x0 at *
      have e1 := and26 (x0 + q) (by omega)
      rw [Int.natCast_add] at e1
      have e2 : ((x0 : Int) + (q : Int)) / 67108864 = (((x0 + q) / 67108864 : Nat) : Int) := by omega
      have lq2 : (x0 + q) / 67108864 < 137438953472 := by omega
      have hset : Hid (((wr.setCell ⟨w.heap.size, k, none⟩ (.int .u64 ((x0 : Int) + (q : Int)))).setCell ⟨w.heap.size, k, none⟩ (.int .u64 (((x0 + q) % 67108864 : Nat) : Int))).heap[w.heap.size]? = some (.cells (u64v (cst l (k + 1)).1).toArray 74 (0, 0))) := by
        have h1 := (world_set_cell (world_set_cell hg.out k (.int .u64 ((x0 : Int) + (q : Int)))).out k (.int .u64 (((x0 + q) % 67108864 : Nat) : Int))).out
        rw [List.set_set, u64v_set, ← HX1.out] at h1
        exact h1
      have hb2 := (hbt.set (i := k) (.int .u64 ((x0 : Int) + (q : Int)))).set (i := k) (.int .u64 (((x0 + q) % 67108864 : Nat) : Int))
      generalize (x0 + q) % 67108864 = m at *
      generalize (x0 + q) / 67108864 = d at *
      go_wp2
      exact ⟨⟨k + 1, d, by omega, by go_num, rfl, lq2, show _ = _ from HX2.out.symm, hset, hb2⟩, by simp [intOf]; omega⟩
    · obtain ⟨X, hX⟩ : ∃ X, X = (cst l k).1 := ⟨_, rfl⟩
      have hk5 : k = 5 := by omega
      rw [← hX] at hg
      have HXL := Lib.hid (show X.length = 5 by rw [hX, cst_len]; exact HL.out)
      have HC := Lib.hid (show carOf l = X.set 0 (natAt X 0 + 5 * q) by rw [hX, hq.out, hk5, carOf])
      have bx : natAt X 0 < 4611686018427387904 := by
        rw [hX, hk5]
        show (cst l 5).1.getD 0 0 < _
        have h0 := (cst_at l 0 0 (Nat.le_refl _))
        have h1 : natAt (cst l 5).1 0 < 67108864 := by
          obtain ⟨L0, L1, L2, L3, L4, hL⟩ : ∃ a b c d e, l = [a, b, c, d, e] := by
            match l, HL.out with
            | [a, b, c, d, e], _ => exact ⟨a, b, c, d, e, rfl⟩
          rw [hL]
          show L0 % 67108864 < _
          omega
        simp only [natAt] at h1
        omega
      clear hX hk5
      have c0 := long_at hg.out 0 (by rw [HXL.out]; decide)
      have f0 : wr.frozen? ⟨w.heap.size, 0, none⟩ = false := frozen_of_row _ _ _ _ _ hg.out
      have hset : Hid ((wr.setCell ⟨w.heap.size, 0, none⟩ (.int .u64 ((natAt X 0 : Int) + 5 * (q : Int)))).heap[w.heap.size]? = some (.cells (u64v (carOf l)).toArray 74 (0, 0))) := by
        have h1 := (world_set_cell hg.out 0 (.int .u64 ((natAt X 0 + 5 * q : Nat) : Int))).out
        rw [u64v_set, ← HC.out, Int.natCast_add, Int.natCast_mul] at h1
        exact h1
      have hb2 := hbt.set (i := 0) (.int .u64 ((natAt X 0 : Int) + 5 * (q : Int)))
      obtain ⟨Y, hY⟩ : ∃ Y, Y = carOf l := ⟨_, rfl⟩
      have hsY := Lib.hid (show (u64v Y).toArray.size = 5 by simp [u64v_len, hY, carOf_len, HL.out])
      rw [← hY] at hset
      have HY := Lib.hid hY
      clear hY hg hbt HC
      generalize natAt X 0 = x0 at *
      go_upto_region 10 with fail
      generalize wr.setCell ⟨w.heap.size, 0, none⟩ (.int .u64 ((x0 : Int) + 5 * (q : Int))) = w3 at *
      have hz : Hid (w3.heap[w.heap.size + 1]? = some (.cells (u64v z5).toArray 74 (0, 0))) := (hb2.block _ (by omega) (by intro e; injection e; omega)).trans hgZ.out
      have hbw : Below w.heap.size w w3 := But.below hbW hb2 (by omega) (by omega)
      go_wp2_with (first
        | (with_reducible refine wpList_load_row rfl 74 (.tmp 1) rfl w.heap.size rfl 74 (u64v Y).toArray (0, 0) _ hset.out Try.underlying74 rfl (by rw [hsY.out]; kernel_rfl) ?_)
        | (with_reducible refine wpList_store_row rfl 74 (.tmp 2) (.tmp 30) rfl (w.heap.size + 1) (u64v Y).toArray rfl rfl 74 _ hz.out (by rw [hsY.out]; kernel_rfl) (by rw [hsY.out]; kernel_rfl) (all_oneCell_toArray (u64v_one _)) ?_))
      refine bodyPost_ret (v := .agg (u64v Y).toArray) (results_cell_row Try.results60 _ _ (w.heap.size + 1) 74 _ (0, 0) _ rfl (setRow_heap _ _ _ _ _ _ hz.out) Try.underlying74 rfl (by rw [hsY.out]; kernel_rfl)) rfl ⟨by rw [HY.out], below_setRow hbw (by omega) _⟩
end Go.Proofs.Ytkeejkhapmcanaa
namespace Go.Proofs.Ytkeejkhapmcanaa
open Go.RowKit

/-- A product and a sum, as the walk meets them. -/
theorem pr_ex (x y : Nat) (hx : x < 268435456) (hy : y < 335544320) : ∃ p : Nat, IntKind.u64.wrap ((x : Int) * (y : Int)) = (p : Int) ∧ Hid (p = x * y) ∧ p < 90071992547409920 := by
  have h : x * y < 90071992547409920 := Nat.lt_of_le_of_lt (Nat.mul_le_mul (show x ≤ 268435455 by omega) (show y ≤ 335544319 by omega)) (by decide)
  exact ⟨x * y, by rw [← Int.natCast_mul, wrap64, Nat.mod_eq_of_lt (by omega)], rfl, h⟩
theorem sm_ex (x y X Y : Nat) (hx : x < X) (hy : y < Y) (h : X + Y ≤ 9223372036854775808) : ∃ s : Nat, IntKind.u64.wrap ((x : Int) + (y : Int)) = (s : Int) ∧ Hid (s = x + y) ∧ s < X + Y :=
  ⟨x + y, by rw [← Int.natCast_add, wrap64, Nat.mod_eq_of_lt (by omega)], rfl, by omega⟩

set_option maxRecDepth 100000 in
set_option maxHeartbeats 4000000 in
theorem ntimes_any (w : World) (a0 a1 a2 a3 a4 b0 b1 b2 b3 b4 : Nat) (ha0 : a0 < 268435456) (ha1 : a1 < 268435456) (ha2 : a2 < 268435456) (ha3 : a3 < 268435456) (ha4 : a4 < 268435456)
    (hb0 : b0 < 67108864) (hb1 : b1 < 67108864) (hb2 : b2 < 67108864) (hb3 : b3 < 67108864) (hb4 : b4 < 67108864) :
    Calls Try.prog 59 #[.agg (u64v [a0, a1, a2, a3, a4]).toArray, .agg (u64v [b0, b1, b2, b3, b4]).toArray] w fun e w' => ∃ c0 c1 c2 c3 c4, e = .returned (.agg (u64v [c0, c1, c2, c3, c4]).toArray) ∧
      Vlt (nv c0 c1 c2 c3 c4 % PP = nv a0 a1 a2 a3 a4 * nv b0 b1 b2 b3 b4 % PP) ∧ (c0 < 67108870 ∧ c1 < 67108864 ∧ c2 < 67108864 ∧ c3 < 67108864 ∧ c4 < 67108864) ∧ Below w.heap.size w w' := by
  have hzn := zero_num
  obtain ⟨W, hW, hgA, hgB, hgZ, hbW, hsW⟩ := three_new w (u64v [a0, a1, a2, a3, a4]).toArray (u64v [b0, b1, b2, b3, b4]).toArray (u64v z5).toArray 74 74 74
  have HW := Lib.hid hW
  have hs1 : w.heap.size + 2 < W.heap.size := by have := hsW.out; omega
  clear hW
  have ca0 : W.cell? ⟨w.heap.size, 0, none⟩ = some (.int .u64 (a0 : Int)) := long_at hgA.out 0 (by simp)
  have ca1 : W.cell? ⟨w.heap.size, 1, none⟩ = some (.int .u64 (a1 : Int)) := long_at hgA.out 1 (by simp)
  have ca2 : W.cell? ⟨w.heap.size, 2, none⟩ = some (.int .u64 (a2 : Int)) := long_at hgA.out 2 (by simp)
  have ca3 : W.cell? ⟨w.heap.size, 3, none⟩ = some (.int .u64 (a3 : Int)) := long_at hgA.out 3 (by simp)
  have ca4 : W.cell? ⟨w.heap.size, 4, none⟩ = some (.int .u64 (a4 : Int)) := long_at hgA.out 4 (by simp)
  have cb0 : W.cell? ⟨w.heap.size + 1, 0, none⟩ = some (.int .u64 (b0 : Int)) := long_at hgB.out 0 (by simp)
  have cb1 : W.cell? ⟨w.heap.size + 1, 1, none⟩ = some (.int .u64 (b1 : Int)) := long_at hgB.out 1 (by simp)
  have cb2 : W.cell? ⟨w.heap.size + 1, 2, none⟩ = some (.int .u64 (b2 : Int)) := long_at hgB.out 2 (by simp)
  have cb3 : W.cell? ⟨w.heap.size + 1, 3, none⟩ = some (.int .u64 (b3 : Int)) := long_at hgB.out 3 (by simp)
  have cb4 : W.cell? ⟨w.heap.size + 1, 4, none⟩ = some (.int .u64 (b4 : Int)) := long_at hgB.out 4 (by simp)
  obtain ⟨q1, eq1, hq1, lq1⟩ : ∃ q : Nat, (5 : Int) * (b1 : Int) = (q : Int) ∧ Hid (q = 5 * b1) ∧ q < 335544320 := ⟨5 * b1, by omega, rfl, by omega⟩
  have ew1 : IntKind.u64.wrap ((5 : Int) * (b1 : Int)) = (q1 : Int) := by rw [eq1]; exact IntWalk.u64_in _ (by omega)
  obtain ⟨q2, eq2, hq2, lq2⟩ : ∃ q : Nat, (5 : Int) * (b2 : Int) = (q : Int) ∧ Hid (q = 5 * b2) ∧ q < 335544320 := ⟨5 * b2, by omega, rfl, by omega⟩
  have ew2 : IntKind.u64.wrap ((5 : Int) * (b2 : Int)) = (q2 : Int) := by rw [eq2]; exact IntWalk.u64_in _ (by omega)
  obtain ⟨q3, eq3, hq3, lq3⟩ : ∃ q : Nat, (5 : Int) * (b3 : Int) = (q : Int) ∧ Hid (q = 5 * b3) ∧ q < 335544320 := ⟨5 * b3, by omega, rfl, by omega⟩
  have ew3 : IntKind.u64.wrap ((5 : Int) * (b3 : Int)) = (q3 : Int) := by rw [eq3]; exact IntWalk.u64_in _ (by omega)
  obtain ⟨q4, eq4, hq4, lq4⟩ : ∃ q : Nat, (5 : Int) * (b4 : Int) = (q : Int) ∧ Hid (q = 5 * b4) ∧ q < 335544320 := ⟨5 * b4, by omega, rfl, by omega⟩
  have ew4 : IntKind.u64.wrap ((5 : Int) * (b4 : Int)) = (q4 : Int) := by rw [eq4]; exact IntWalk.u64_in _ (by omega)
  go_enter Try.func59, Try.ntmps59
  go_upto_region 1 with fail
  rw [HW.out]
  go_quiet (fail)
  have hbV : Below w.heap.size w (W.drewN nq) := below_drewN hbW nq
  have hzV : Hid ((W.drewN nq).heap[w.heap.size + 2]? = some (.cells (u64v z5).toArray 74 (0, 0))) := hgZ.out
  have hsV : w.heap.size + 2 < (W.drewN nq).heap.size := hs1
  have ca := (show (W.drewN nq).cell? _ = _ from ca0)
  clear ca
  have da0 : (W.drewN nq).cell? ⟨w.heap.size, 0, none⟩ = some (.int .u64 (a0 : Int)) := ca0
  have da1 : (W.drewN nq).cell? ⟨w.heap.size, 1, none⟩ = some (.int .u64 (a1 : Int)) := ca1
  have da2 : (W.drewN nq).cell? ⟨w.heap.size, 2, none⟩ = some (.int .u64 (a2 : Int)) := ca2
  have da3 : (W.drewN nq).cell? ⟨w.heap.size, 3, none⟩ = some (.int .u64 (a3 : Int)) := ca3
  have da4 : (W.drewN nq).cell? ⟨w.heap.size, 4, none⟩ = some (.int .u64 (a4 : Int)) := ca4
  have db0 : (W.drewN nq).cell? ⟨w.heap.size + 1, 0, none⟩ = some (.int .u64 (b0 : Int)) := cb0
  have db1 : (W.drewN nq).cell? ⟨w.heap.size + 1, 1, none⟩ = some (.int .u64 (b1 : Int)) := cb1
  have db2 : (W.drewN nq).cell? ⟨w.heap.size + 1, 2, none⟩ = some (.int .u64 (b2 : Int)) := cb2
  have db3 : (W.drewN nq).cell? ⟨w.heap.size + 1, 3, none⟩ = some (.int .u64 (b3 : Int)) := cb3
  have db4 : (W.drewN nq).cell? ⟨w.heap.size + 1, 4, none⟩ = some (.int .u64 (b4 : Int)) := cb4
  clear ca0 ca1 ca2 ca3 ca4 cb0 cb1 cb2 cb3 cb4
  generalize W.drewN nq = V at *
  clear eq1 eq2 eq3 eq4 ew1 ew2 ew3 ew4
  obtain ⟨p00, ep00, hp00, lp00⟩ := pr_ex a0 b0 ha0 (by omega)
  obtain ⟨p01, ep01, hp01, lp01⟩ := pr_ex a1 q4 ha1 (by omega)
  obtain ⟨p02, ep02, hp02, lp02⟩ := pr_ex a2 q3 ha2 (by omega)
  obtain ⟨p03, ep03, hp03, lp03⟩ := pr_ex a3 q2 ha3 (by omega)
  obtain ⟨p04, ep04, hp04, lp04⟩ := pr_ex a4 q1 ha4 (by omega)
  obtain ⟨p10, ep10, hp10, lp10⟩ := pr_ex a0 b1 ha0 (by omega)
  obtain ⟨p11, ep11, hp11, lp11⟩ := pr_ex a1 b0 ha1 (by omega)
  obtain ⟨p12, ep12, hp12, lp12⟩ := pr_ex a2 q4 ha2 (by omega)
  obtain ⟨p13, ep13, hp13, lp13⟩ := pr_ex a3 q3 ha3 (by omega)
  obtain ⟨p14, ep14, hp14, lp14⟩ := pr_ex a4 q2 ha4 (by omega)
  obtain ⟨p20, ep20, hp20, lp20⟩ := pr_ex a0 b2 ha0 (by omega)
  obtain ⟨p21, ep21, hp21, lp21⟩ := pr_ex a1 b1 ha1 (by omega)
  obtain ⟨p22, ep22, hp22, lp22⟩ := pr_ex a2 b0 ha2 (by omega)
  obtain ⟨p23, ep23, hp23, lp23⟩ := pr_ex a3 q4 ha3 (by omega)
  obtain ⟨p24, ep24, hp24, lp24⟩ := pr_ex a4 q3 ha4 (by omega)
  obtain ⟨p30, ep30, hp30, lp30⟩ := pr_ex a0 b3 ha0 (by omega)
  obtain ⟨p31, ep31, hp31, lp31⟩ := pr_ex a1 b2 ha1 (by omega)
  obtain ⟨p32, ep32, hp32, lp32⟩ := pr_ex a2 b1 ha2 (by omega)
  obtain ⟨p33, ep33, hp33, lp33⟩ := pr_ex a3 b0 ha3 (by omega)
  obtain ⟨p34, ep34, hp34, lp34⟩ := pr_ex a4 q4 ha4 (by omega)
  obtain ⟨p40, ep40, hp40, lp40⟩ := pr_ex a0 b4 ha0 (by omega)
  obtain ⟨p41, ep41, hp41, lp41⟩ := pr_ex a1 b3 ha1 (by omega)
  obtain ⟨p42, ep42, hp42, lp42⟩ := pr_ex a2 b2 ha2 (by omega)
  obtain ⟨p43, ep43, hp43, lp43⟩ := pr_ex a3 b1 ha3 (by omega)
  obtain ⟨p44, ep44, hp44, lp44⟩ := pr_ex a4 b0 ha4 (by omega)
  obtain ⟨s01, es01, hs01, ls01⟩ := sm_ex p00 p01 90071992547409920 90071992547409920 lp00 lp01 (by decide)
  rw [show 90071992547409920 + 90071992547409920 = 180143985094819840 from rfl] at ls01
  obtain ⟨s02, es02, hs02, ls02⟩ := sm_ex s01 p02 180143985094819840 90071992547409920 ls01 lp02 (by decide)
  rw [show 180143985094819840 + 90071992547409920 = 270215977642229760 from rfl] at ls02
  obtain ⟨s03, es03, hs03, ls03⟩ := sm_ex s02 p03 270215977642229760 90071992547409920 ls02 lp03 (by decide)
  rw [show 270215977642229760 + 90071992547409920 = 360287970189639680 from rfl] at ls03
  obtain ⟨s04, es04, hs04, ls04⟩ := sm_ex s03 p04 360287970189639680 90071992547409920 ls03 lp04 (by decide)
  rw [show 360287970189639680 + 90071992547409920 = 450359962737049600 from rfl] at ls04
  obtain ⟨s11, es11, hs11, ls11⟩ := sm_ex p10 p11 90071992547409920 90071992547409920 lp10 lp11 (by decide)
  rw [show 90071992547409920 + 90071992547409920 = 180143985094819840 from rfl] at ls11
  obtain ⟨s12, es12, hs12, ls12⟩ := sm_ex s11 p12 180143985094819840 90071992547409920 ls11 lp12 (by decide)
  rw [show 180143985094819840 + 90071992547409920 = 270215977642229760 from rfl] at ls12
  obtain ⟨s13, es13, hs13, ls13⟩ := sm_ex s12 p13 270215977642229760 90071992547409920 ls12 lp13 (by decide)
  rw [show 270215977642229760 + 90071992547409920 = 360287970189639680 from rfl] at ls13
  obtain ⟨s14, es14, hs14, ls14⟩ := sm_ex s13 p14 360287970189639680 90071992547409920 ls13 lp14 (by decide)
  rw [show 360287970189639680 + 90071992547409920 = 450359962737049600 from rfl] at ls14
  obtain ⟨s21, es21, hs21, ls21⟩ := sm_ex p20 p21 90071992547409920 90071992547409920 lp20 lp21 (by decide)
  rw [show 90071992547409920 + 90071992547409920 = 180143985094819840 from rfl] at ls21
  obtain ⟨s22, es22, hs22, ls22⟩ := sm_ex s21 p22 180143985094819840 90071992547409920 ls21 lp22 (by decide)
  rw [show 180143985094819840 + 90071992547409920 = 270215977642229760 from rfl] at ls22
  obtain ⟨s23, es23, hs23, ls23⟩ := sm_ex s22 p23 270215977642229760 90071992547409920 ls22 lp23 (by decide)
  rw [show 270215977642229760 + 90071992547409920 = 360287970189639680 from rfl] at ls23
  obtain ⟨s24, es24, hs24, ls24⟩ := sm_ex s23 p24 360287970189639680 90071992547409920 ls23 lp24 (by decide)
  rw [show 360287970189639680 + 90071992547409920 = 450359962737049600 from rfl] at ls24
  obtain ⟨s31, es31, hs31, ls31⟩ := sm_ex p30 p31 90071992547409920 90071992547409920 lp30 lp31 (by decide)
  rw [show 90071992547409920 + 90071992547409920 = 180143985094819840 from rfl] at ls31
  obtain ⟨s32, es32, hs32, ls32⟩ := sm_ex s31 p32 180143985094819840 90071992547409920 ls31 lp32 (by decide)
  rw [show 180143985094819840 + 90071992547409920 = 270215977642229760 from rfl] at ls32
  obtain ⟨s33, es33, hs33, ls33⟩ := sm_ex s32 p33 270215977642229760 90071992547409920 ls32 lp33 (by decide)
  rw [show 270215977642229760 + 90071992547409920 = 360287970189639680 from rfl] at ls33
  obtain ⟨s34, es34, hs34, ls34⟩ := sm_ex s33 p34 360287970189639680 90071992547409920 ls33 lp34 (by decide)
  rw [show 360287970189639680 + 90071992547409920 = 450359962737049600 from rfl] at ls34
  obtain ⟨s41, es41, hs41, ls41⟩ := sm_ex p40 p41 90071992547409920 90071992547409920 lp40 lp41 (by decide)
  rw [show 90071992547409920 + 90071992547409920 = 180143985094819840 from rfl] at ls41
  obtain ⟨s42, es42, hs42, ls42⟩ := sm_ex s41 p42 180143985094819840 90071992547409920 ls41 lp42 (by decide)
  rw [show 180143985094819840 + 90071992547409920 = 270215977642229760 from rfl] at ls42
  obtain ⟨s43, es43, hs43, ls43⟩ := sm_ex s42 p43 270215977642229760 90071992547409920 ls42 lp43 (by decide)
  rw [show 270215977642229760 + 90071992547409920 = 360287970189639680 from rfl] at ls43
  obtain ⟨s44, es44, hs44, ls44⟩ := sm_ex s43 p44 360287970189639680 90071992547409920 ls43 lp44 (by decide)
  rw [show 360287970189639680 + 90071992547409920 = 450359962737049600 from rfl] at ls44
  have E0 : (IntKind.u64.wrap ((IntKind.u64.wrap ((IntKind.u64.wrap ((IntKind.u64.wrap ((IntKind.u64.wrap ((a0 : Int) * (b0 : Int))) + (IntKind.u64.wrap ((a1 : Int) * (q4 : Int))))) + (IntKind.u64.wrap ((a2 : Int) * (q3 : Int))))) + (IntKind.u64.wrap ((a3 : Int) * (q2 : Int))))) + (IntKind.u64.wrap ((a4 : Int) * (q1 : Int))))) = (s04 : Int) := by rw [ep00, ep01, es01, ep02, es02, ep03, es03, ep04, es04]
  have E1 : (IntKind.u64.wrap ((IntKind.u64.wrap ((IntKind.u64.wrap ((IntKind.u64.wrap ((IntKind.u64.wrap ((a0 : Int) * (b1 : Int))) + (IntKind.u64.wrap ((a1 : Int) * (b0 : Int))))) + (IntKind.u64.wrap ((a2 : Int) * (q4 : Int))))) + (IntKind.u64.wrap ((a3 : Int) * (q3 : Int))))) + (IntKind.u64.wrap ((a4 : Int) * (q2 : Int))))) = (s14 : Int) := by rw [ep10, ep11, es11, ep12, es12, ep13, es13, ep14, es14]
  have E2 : (IntKind.u64.wrap ((IntKind.u64.wrap ((IntKind.u64.wrap ((IntKind.u64.wrap ((IntKind.u64.wrap ((a0 : Int) * (b2 : Int))) + (IntKind.u64.wrap ((a1 : Int) * (b1 : Int))))) + (IntKind.u64.wrap ((a2 : Int) * (b0 : Int))))) + (IntKind.u64.wrap ((a3 : Int) * (q4 : Int))))) + (IntKind.u64.wrap ((a4 : Int) * (q3 : Int))))) = (s24 : Int) := by rw [ep20, ep21, es21, ep22, es22, ep23, es23, ep24, es24]
  have E3 : (IntKind.u64.wrap ((IntKind.u64.wrap ((IntKind.u64.wrap ((IntKind.u64.wrap ((IntKind.u64.wrap ((a0 : Int) * (b3 : Int))) + (IntKind.u64.wrap ((a1 : Int) * (b2 : Int))))) + (IntKind.u64.wrap ((a2 : Int) * (b1 : Int))))) + (IntKind.u64.wrap ((a3 : Int) * (b0 : Int))))) + (IntKind.u64.wrap ((a4 : Int) * (q4 : Int))))) = (s34 : Int) := by rw [ep30, ep31, es31, ep32, es32, ep33, es33, ep34, es34]
  have E4 : (IntKind.u64.wrap ((IntKind.u64.wrap ((IntKind.u64.wrap ((IntKind.u64.wrap ((IntKind.u64.wrap ((a0 : Int) * (b4 : Int))) + (IntKind.u64.wrap ((a1 : Int) * (b3 : Int))))) + (IntKind.u64.wrap ((a2 : Int) * (b2 : Int))))) + (IntKind.u64.wrap ((a3 : Int) * (b1 : Int))))) + (IntKind.u64.wrap ((a4 : Int) * (b0 : Int))))) = (s44 : Int) := by rw [ep40, ep41, es41, ep42, es42, ep43, es43, ep44, es44]
  have HO0 := vlt (show s04 = a0 * b0 + a1 * (5 * b4) + a2 * (5 * b3) + a3 * (5 * b2) + a4 * (5 * b1) by rw [hs04.out, hs03.out, hs02.out, hs01.out, hp00.out, hp01.out, hp02.out, hp03.out, hp04.out, hq4.out, hq3.out, hq2.out, hq1.out])
  have HO1 := vlt (show s14 = a0 * b1 + a1 * b0 + a2 * (5 * b4) + a3 * (5 * b3) + a4 * (5 * b2) by rw [hs14.out, hs13.out, hs12.out, hs11.out, hp10.out, hp11.out, hp12.out, hp13.out, hp14.out, hq4.out, hq3.out, hq2.out])
  have HO2 := vlt (show s24 = a0 * b2 + a1 * b1 + a2 * b0 + a3 * (5 * b4) + a4 * (5 * b3) by rw [hs24.out, hs23.out, hs22.out, hs21.out, hp20.out, hp21.out, hp22.out, hp23.out, hp24.out, hq4.out, hq3.out])
  have HO3 := vlt (show s34 = a0 * b3 + a1 * b2 + a2 * b1 + a3 * b0 + a4 * (5 * b4) by rw [hs34.out, hs33.out, hs32.out, hs31.out, hp30.out, hp31.out, hp32.out, hp33.out, hp34.out, hq4.out])
  have HO4 := vlt (show s44 = a0 * b4 + a1 * b3 + a2 * b2 + a3 * b1 + a4 * b0 by rw [hs44.out, hs43.out, hs42.out, hs41.out, hp40.out, hp41.out, hp42.out, hp43.out, hp44.out])
  have LS : s04 < 576460752303423488 ∧ s14 < 576460752303423488 ∧ s24 < 576460752303423488 ∧ s34 < 576460752303423488 ∧ s44 < 576460752303423488 := by omega
  clear ep00 hp00 lp00 ep01 hp01 lp01 ep02 hp02 lp02 ep03 hp03 lp03 ep04 hp04 lp04 ep10 hp10 lp10 ep11 hp11 lp11 ep12 hp12 lp12 ep13 hp13 lp13 ep14 hp14 lp14 ep20 hp20 lp20 ep21 hp21 lp21 ep22 hp22 lp22 ep23 hp23 lp23 ep24 hp24 lp24 ep30 hp30 lp30 ep31 hp31 lp31 ep32 hp32 lp32 ep33 hp33 lp33 ep34 hp34 lp34 ep40 hp40 lp40 ep41 hp41 lp41 ep42 hp42 lp42 ep43 hp43 lp43 ep44 hp44 lp44
  clear es01 hs01 ls01 es02 hs02 ls02 es03 hs03 ls03 es04 hs04 ls04 es11 hs11 ls11 es12 hs12 ls12 es13 hs13 ls13 es14 hs14 ls14 es21 hs21 ls21 es22 hs22 ls22 es23 hs23 ls23 es24 hs24 ls24 es31 hs31 ls31 es32 hs32 ls32 es33 hs33 ls33 es34 hs34 ls34 es41 hs41 ls41 es42 hs42 ls42 es43 hs43 ls43 es44 hs44 ls44
  go_upto_region 3 with (first
    | (with_reducible refine wpList_build_to rfl 74 _ rfl [(0, .int .u64 (s04 : Int)), (1, .int .u64 (s14 : Int)), (2, .int .u64 (s24 : Int)), (3, .int .u64 (s34 : Int)), (4, .int .u64 (s44 : Int))] (by rw [← E0, ← E1, ← E2, ← E3, ← E4]; rfl) _ (built_num s04 s14 s24 s34 s44) ?_)
    | ((with_reducible refine wpList_store_row rfl 74 (.tmp 9) (.tmp 157) rfl V.heap.size (u64v [s04, s14, s24, s34, s44]).toArray rfl rfl 74 _ (heap_alloc_new _ _) (by kernel_rfl) (by kernel_rfl) (all_oneCell_toArray (u64v_one _)) ?_); rw [World.setRow_alloc_new]))
  have hg9 := heap_alloc_new V (.cells (u64v [s04, s14, s24, s34, s44]).toArray 74)
  have hb9 : Below w.heap.size w (V.alloc (.cells (u64v [s04, s14, s24, s34, s44]).toArray 74)) := hbV.alloc hbV.size _
  have hz9 : Hid ((V.alloc (.cells (u64v [s04, s14, s24, s34, s44]).toArray 74)).heap[w.heap.size + 2]? = some (.cells (u64v z5).toArray 74 (0, 0))) := (Below.heap_alloc _ _ _ hsV).trans hzV.out
  have hs9 : w.heap.size + 2 < (V.alloc (.cells (u64v [s04, s14, s24, s34, s44]).toArray 74)).heap.size := by simp; omega
  obtain ⟨c0, c1, c2, c3, c4, hcar, hmod, l0, l1, l2, l3, l4, hmid⟩ := car_twice s04 s14 s24 s34 s44 LS.1 LS.2.1 LS.2.2.1 LS.2.2.2.1 LS.2.2.2.2
  have HMOD := vlt (show nv c0 c1 c2 c3 c4 % PP = nv a0 a1 a2 a3 a4 * nv b0 b1 b2 b3 b4 % PP by rw [prod_pieces, Nat.add_mul_mod_self_left, ← HO0.out, ← HO1.out, ← HO2.out, ← HO3.out, ← HO4.out, hmod])
  generalize V.alloc (.cells (u64v [s04, s14, s24, s34, s44]).toArray 74) = w3 at *
  have hcall1 := carried_any w3 [s04, s14, s24, s34, s44] rfl (by intro x hx; simp only [List.mem_cons, List.not_mem_nil, or_false] at hx; omega)
  obtain ⟨M, hM⟩ : ∃ M, M = carOf [s04, s14, s24, s34, s44] := ⟨_, rfl⟩
  rw [← hM] at hcall1 hcar hmid
  have hML : M.length = 5 := by rw [hM, carOf_len]; rfl
  clear hM hmod E0 E1 E2 E3 E4 HO0 HO1 HO2 HO3 HO4
  obtain ⟨L, hL⟩ : ∃ L, L = [s04, s14, s24, s34, s44] := ⟨_, rfl⟩
  rw [← hL] at hg9 hcall1
  have HLS := Lib.hid (show (u64v L).toArray.size = 5 by rw [hL]; rfl)
  have HLL := Lib.hid hL
  clear hL
  go_wp2_with (with_reducible refine wpList_load_row rfl 74 (.tmp 9) rfl V.heap.size rfl 74 (u64v L).toArray (0, 0) _ hg9 Try.underlying74 rfl (by rw [HLS.out]; kernel_rfl) ?_)
  refine hcall1.mono ?_
  rintro e w4 ⟨rfl, hb4⟩
  have hcall2 := carried_any w4 M hML hmid
  rw [hcar] at hcall2
  clear hcall1 hcar hmid hg9
  go_wp2_with fail
  refine hcall2.mono ?_
  rintro e w5 ⟨rfl, hb5⟩
  have hz5' : Hid (w5.heap[w.heap.size + 1 + 1]? = some (.cells (u64v z5).toArray 74 (0, 0))) := (hb5.block _ (by have := hb4.size; omega)).trans ((hb4.block _ hs9).trans hz9.out)
  have hbw := below_next (below_next hb9 hb9.size hb4) (below_next hb9 hb9.size hb4).size hb5
  clear hcall2
  go_wp2_with (with_reducible refine wpList_store_row rfl 74 (.tmp 4) (.tmp 160) rfl (w.heap.size + 1 + 1) (u64v [c0, c1, c2, c3, c4]).toArray rfl rfl 74 _ hz5'.out (by kernel_rfl) (by kernel_rfl) (all_oneCell_toArray (u64v_one _)) ?_)
  refine bodyPost_ret (v := .agg (u64v [c0, c1, c2, c3, c4]).toArray) (results_cell_row Try.results59 _ _ (w.heap.size + 1 + 1) 74 _ (0, 0) _ rfl (setRow_heap _ _ _ _ _ _ hz5'.out) Try.underlying74 rfl (by kernel_rfl)) rfl ⟨c0, c1, c2, c3, c4, rfl, HMOD, ⟨l0, l1, l2, l3, l4⟩, below_setRow hbw (by omega) _⟩
end Go.Proofs.Ytkeejkhapmcanaa
namespace Go.Proofs.Ytkeejkhapmcanaa
open Go.RowKit

/-- What is over, five ahead. -/
def ovK (l : List Nat) : Nat → Nat
  | 0 => 5
  | k + 1 => (natAt l k + ovK l k) / 67108864
/-- The first k pieces of a sum. -/
def tsK (l m : List Nat) (o : Nat) : Nat → List Nat × Nat
  | 0 => (l, o)
  | k + 1 => ((tsK l m o k).1.set k (((tsK l m o k).2 + (natAt (tsK l m o k).1 k + natAt m k)) % 67108864), ((tsK l m o k).2 + (natAt (tsK l m o k).1 k + natAt m k)) / 67108864)
theorem tsK_len (l m : List Nat) (o : Nat) : ∀ k, (tsK l m o k).1.length = l.length
  | 0 => rfl
  | k + 1 => by rw [tsK, List.length_set, tsK_len l m o k]
theorem tsK_at (l m : List Nat) (o k : Nat) : ∀ j, j ≤ k → natAt (tsK l m o j).1 k = natAt l k
  | 0, _ => rfl
  | j + 1, h => by
    have ih := tsK_at l m o k j (by omega)
    simp only [natAt, tsK] at *
    rw [List.getD_eq_getElem?_getD, List.getElem?_set_ne (by omega), ← List.getD_eq_getElem?_getD]; exact ih
theorem tsK_over (l m : List Nat) (o : Nat) (bl : ∀ x ∈ l, x < 268435456) (bm : ∀ x ∈ m, x < 268435456) (ho : o < 268435456) : ∀ k, (tsK l m o k).2 < 268435456
  | 0 => ho
  | k + 1 => by
    have ih := tsK_over l m o bl bm ho k
    have h1 := tsK_at l m o k k (Nat.le_refl _)
    have h2 : natAt l k < 268435456 := getD_lt bl (by decide) k
    have h3 : natAt m k < 268435456 := getD_lt bm (by decide) k
    show ((tsK l m o k).2 + (natAt (tsK l m o k).1 k + natAt m k)) / 67108864 < _
    omega
theorem ovK_lt (l : List Nat) (bl : ∀ x ∈ l, x < 268435456) : ∀ k, ovK l k < 268435456
  | 0 => by show 5 < _; decide
  | k + 1 => by
    have ih := ovK_lt l bl k
    have h2 : natAt l k < 268435456 := getD_lt bl (by decide) k
    show (natAt l k + ovK l k) / 67108864 < _
    omega
theorem tsK_five (a0 a1 a2 a3 a4 b0 b1 b2 b3 b4 o : Nat) : ∃ e0 e1 e2 e3 e4, (tsK [a0, a1, a2, a3, a4] [b0, b1, b2, b3, b4] (o * 5) 5).1 = [e0 % 67108864, e1 % 67108864, e2 % 67108864, e3 % 67108864, e4 % 67108864] ∧
    e0 = o * 5 + (a0 + b0) ∧ e1 = e0 / 67108864 + (a1 + b1) ∧ e2 = e1 / 67108864 + (a2 + b2) ∧ e3 = e2 / 67108864 + (a3 + b3) ∧ e4 = e3 / 67108864 + (a4 + b4) :=
  ⟨_, _, _, _, _, rfl, rfl, rfl, rfl, rfl, rfl⟩
theorem le_split (v a b : Nat) : le v (a + b) = le v a ++ le (v / 2 ^ (8 * a)) b := by
  induction b with
  | zero => simp [le]
  | succ b ih => rw [← Nat.add_assoc, le, ih, le, List.append_assoc, Nat.div_div_eq_div_mul, ← Nat.pow_add, Nat.mul_add]
theorem le_mod (v n : Nat) : le (v % 2 ^ (8 * n)) n = le v n := by
  have h : ∀ k, k ≤ n → le (v % 2 ^ (8 * n)) k = le v k := by
    intro k
    induction k with
    | zero => intro _; rfl
    | succ k ih =>
      intro hk
      rw [le, le, ih (by omega)]
      congr 2
      apply UInt8.toNat_inj.1
      rw [UInt8.toNat_ofNat', UInt8.toNat_ofNat']
      have e : 8 * n = 8 * k + (8 * (n - k - 1) + 8) := by omega
      rw [e, Nat.pow_add, Nat.mod_mul_right_div_self, Nat.pow_add, Nat.mod_mul_left_mod]
  exact h n (Nat.le_refl _)
set_option maxRecDepth 100000 in
set_option maxHeartbeats 2000000 in
theorem told_any (w : World) (a0 a1 a2 a3 a4 b0 b1 b2 b3 b4 : Nat) (ha : a0 < 67108870 ∧ a1 < 67108864 ∧ a2 < 67108864 ∧ a3 < 67108864 ∧ a4 < 67108864) (hb : b0 < 67108864 ∧ b1 < 67108864 ∧ b2 < 67108864 ∧ b3 < 67108864 ∧ b4 < 67108864) :
    Calls Try.prog 56 #[.agg (u64v [a0, a1, a2, a3, a4]).toArray, .agg (u64v [b0, b1, b2, b3, b4]).toArray] w fun e w' =>
      e = .returned (.agg (bv (le ((nv a0 a1 a2 a3 a4 % PP + nv b0 b1 b2 b3 b4) % 340282366920938463463374607431768211456) 16)).toArray) ∧ Below w.heap.size w w' := by
  have hz16 := zero_b16
  obtain ⟨l, hl⟩ : ∃ l, l = [a0, a1, a2, a3, a4] := ⟨_, rfl⟩
  obtain ⟨m, hm⟩ : ∃ m, m = [b0, b1, b2, b3, b4] := ⟨_, rfl⟩
  have bl : ∀ x ∈ l, x < 268435456 := by intro x hx; rw [hl] at hx; simp only [List.mem_cons, List.not_mem_nil, or_false] at hx; omega
  have bm : ∀ x ∈ m, x < 268435456 := by intro x hx; rw [hm] at hx; simp only [List.mem_cons, List.not_mem_nil, or_false] at hx; omega
  rw [← hl, ← hm]
  have BL := Lib.hid bl
  have BM := Lib.hid bm
  have HLL := Lib.hid (show l.length = 5 by rw [hl]; rfl)
  have HML := Lib.hid (show m.length = 5 by rw [hm]; rfl)
  have HLS := Lib.hid (show (u64v l).toArray.size = 5 by rw [hl]; rfl)
  obtain ⟨out, hout⟩ : ∃ out, out = le ((nv a0 a1 a2 a3 a4 % PP + nv b0 b1 b2 b3 b4) % 340282366920938463463374607431768211456) 16 := ⟨_, rfl⟩
  rw [← hout]
  have HB := Lib.hid hb
  have HA := Lib.hid ha
  have HL := vlt hl
  have HM := vlt hm
  have HOUT := vlt hout
  clear hl hm bl bm hout ha hb
  obtain ⟨W, hW, hgA, hgB, hgZ, hbW, hsW⟩ := three_new w (u64v l).toArray (u64v m).toArray (bv z16).toArray 74 74 45
  have HW := Lib.hid hW
  have hs1 : w.heap.size + 2 < W.heap.size := by have := hsW.out; omega
  clear hW
  go_enter Try.func56, Try.ntmps56
  go_upto_region 1 with fail
  rw [HW.out]
  go_wp2_with (with_reducible refine wpList_load_row rfl 74 (.tmp 2) rfl w.heap.size rfl 74 (u64v l).toArray (0, 0) _ hgA.out Try.underlying74 rfl (by rw [HLS.out]; kernel_rfl) ?_)
  go_loopw [5, 11] (fun o i wr => ∃ k q : Nat, k ≤ 5 ∧ i = .int .i64 (k : Int) ∧ o = .int .u64 (q : Int) ∧ q < 268435456 ∧ Hid (q = ovK l k) ∧ W = wr) (fun _ i _ => 5 - (intOf i).toNat)
  case atStart => exact ⟨0, 5, by omega, rfl, rfl, by decide, rfl, rfl⟩
  case round =>
    obtain ⟨k, q, hk, rfl, rfl, lq, hq, rfl⟩ := hrel
    by_cases hlt : k < 5
    · have hix := at_agg Try.underlying74 Try.sizeU64 Try.underlying50 (u64v l) k (.int .u64 ((natAt l k : Nat) : Int)) (k : Int) rfl hlt (by simp [u64v_at, natAt, List.getElem?_eq_getElem (show k < l.length by rw [HLL.out]; exact hlt)])
      have bx : natAt l k < 268435456 := getD_lt BL.out (by decide) k
      have HQ := vlt (show ovK l (k + 1) = (natAt l k + q) / 67108864 by rw [hq.out]; rfl)
      have e2 : ((natAt l k : Int) + (q : Int)) / 67108864 = (((natAt l k + q) / 67108864 : Nat) : Int) := by omega
      have lq2 : (natAt l k + q) / 67108864 < 268435456 := by omega
      generalize natAt l k = x0 at *
      generalize (x0 + q) / 67108864 = d at *
      go_wp2
      exact ⟨⟨k + 1, d, by omega, by go_num, rfl, lq2, show _ = _ from HQ.out.symm, trivial⟩, by simp [intOf]; omega⟩
    · obtain ⟨o5, e5, ho5, lo5⟩ : ∃ o5 : Nat, (q : Int) * 5 = (o5 : Int) ∧ Vlt (o5 = ovK l 5 * 5) ∧ o5 < 268435456 := by
        refine ⟨q * 5, by omega, vlt (by rw [hq.out, show k = 5 by omega]), ?_⟩
        have h1 : k = 5 := by omega
        have h2 := hq.out
        rw [h1, HL.out] at h2
        have h3 := over_is a0 a1 a2 a3 a4 _ _ _ _ _ rfl rfl rfl rfl rfl (by simp only [nv, PP]; have := HA.out; omega)
        have h4 : q ≤ 1 := by rw [h2]; exact h3.2
        omega
      clear hq
      go_wp2
      clear e5
      go_loopw [5, 21] (fun o i wr => ∃ k q : Nat, k ≤ 5 ∧ i = .int .i64 (k : Int) ∧ o = .int .u64 (q : Int) ∧ q < 268435456 ∧ Hid (q = (tsK l m o5 k).2) ∧ Hid (wr.heap[w.heap.size]? = some (.cells (u64v (tsK l m o5 k).1).toArray 74 (0, 0))) ∧ But w.heap.size W wr) (fun _ i _ => 5 - (intOf i).toNat)
      case atStart => exact ⟨0, o5, by omega, rfl, rfl, lo5, rfl, hgA, But.refl _ _⟩
      case round =>
        obtain ⟨k, q, hk, rfl, rfl, lq, hq, hg, hbt⟩ := hrel
        by_cases hlt : k < 5
        · obtain ⟨X, hX⟩ : ∃ X, X = (tsK l m o5 k).1 := ⟨_, rfl⟩
          rw [← hX] at hg
          have HXL := Lib.hid (show X.length = 5 by rw [hX, tsK_len]; exact HLL.out)
          have bx : natAt X k < 268435456 := by rw [hX, tsK_at l m o5 k k (Nat.le_refl _)]; exact getD_lt BL.out (by decide) k
          have by_ : natAt m k < 268435456 := getD_lt BM.out (by decide) k
          have HX1 := vlt (show (tsK l m o5 (k + 1)).1 = X.set k ((q + (natAt X k + natAt m k)) % 67108864) by rw [hX, hq.out]; rfl)
          have HX2 := vlt (show (tsK l m o5 (k + 1)).2 = (q + (natAt X k + natAt m k)) / 67108864 by rw [hX, hq.out]; rfl)
          clear hX
          have hgB2 : Hid (wr.heap[w.heap.size + 1]? = some (.cells (u64v m).toArray 74 (0, 0))) := (hbt.block _ (by omega) (by intro e; injection e; omega)).trans hgB.out
          have c0 := long_at hg.out k (by rw [HXL.out]; exact hlt)
          have c1 := long_at hgB2.out k (by rw [HML.out]; exact hlt)
          generalize natAt X k = x0 at *
          generalize natAt m k = y0 at *
          have e1 := and26 (q + (x0 + y0)) (by omega)
          rw [Int.natCast_add, Int.natCast_add] at e1
          have e2 : ((q : Int) + ((x0 : Int) + (y0 : Int))) / 67108864 = (((q + (x0 + y0)) / 67108864 : Nat) : Int) := by omega
          have lq2 : (q + (x0 + y0)) / 67108864 < 268435456 := by omega
          generalize (q + (x0 + y0)) % 67108864 = u at *
          generalize (q + (x0 + y0)) / 67108864 = d at *
          go_wp2_with fail
          go_quiet (fail)
          have hgq : Hid ((wr.drewN nq).heap[w.heap.size]? = some (.cells (u64v X).toArray 74 (0, 0))) := hg.out
          have hbq : But w.heap.size W (wr.drewN nq) := But.below_to hbt (below_drewN (Below.refl wr.heap.size wr) nq) (Nat.le_refl _)
          generalize wr.drewN nq = wq at *
          have hset : Hid ((wq.setCell ⟨w.heap.size, k, none⟩ (.int .u64 (u : Int))).heap[w.heap.size]? = some (.cells (u64v (tsK l m o5 (k + 1)).1).toArray 74 (0, 0))) := by
            have h1 := (world_set_cell hgq.out k (.int .u64 (u : Int))).out
            rw [u64v_set, ← HX1.out] at h1
            exact h1
          have hb2 := hbq.set (i := k) (.int .u64 (u : Int))
          have f0 : wq.frozen? ⟨w.heap.size, k, none⟩ = false := frozen_of_row _ _ _ _ _ hgq.out
          have cq := long_at hgq.out k (by rw [HXL.out]; exact hlt)
          go_wp2
          exact ⟨⟨k + 1, d, by omega, by go_num, rfl, lq2, show _ = _ from HX2.out.symm, hset, hb2⟩, by simp [intOf]; omega⟩
        · obtain ⟨e0, e1, e2, e3, e4, hfive, q0, q1, q2, q3, q4⟩ := tsK_five a0 a1 a2 a3 a4 b0 b1 b2 b3 b4 (ovK l 5)
          have hk5 : k = 5 := by omega
          have hgf : Hid (wr.heap[w.heap.size]? = some (.cells (u64v [e0 % 67108864, e1 % 67108864, e2 % 67108864, e3 % 67108864, e4 % 67108864]).toArray 74 (0, 0))) := by
            have h1 := hg.out
            rw [hk5, ho5.out, HL.out, HM.out] at h1
            rw [← HL.out, ← HM.out] at h1
            rw [← hfive, ← HL.out, ← HM.out]
            exact h1
          have hover := over_is a0 a1 a2 a3 a4 _ _ _ _ (ovK l 5) rfl rfl rfl rfl (by rw [HL.out]; rfl) (by simp only [nv, PP]; have := HA.out; omega)
          have hsum := told_sum a0 a1 a2 a3 a4 b0 b1 b2 b3 b4 (ovK l 5) e0 e1 e2 e3 e4 _ hover.1 (by rw [q0, Nat.mul_comm]) q1 q2 q3 q4
          have n0 : e0 % 67108864 < 67108864 := Nat.mod_lt _ (by decide)
          have n1 : e1 % 67108864 < 67108864 := Nat.mod_lt _ (by decide)
          have n2 : e2 % 67108864 < 67108864 := Nat.mod_lt _ (by decide)
          have n3 : e3 % 67108864 < 67108864 := Nat.mod_lt _ (by decide)
          have n4 : e4 % 67108864 < 67108864 := Nat.mod_lt _ (by decide)
          have HSUM := vlt hsum
          clear q0 q1 q2 q3 q4 hfive hover hsum hg hq
          generalize e0 % 67108864 = u0 at *
          generalize e1 % 67108864 = u1 at *
          generalize e2 % 67108864 = u2 at *
          generalize e3 % 67108864 = u3 at *
          generalize e4 % 67108864 = u4 at *
          have c0 : wr.cell? ⟨w.heap.size, 0, none⟩ = some (.int .u64 (u0 : Int)) := long_at hgf.out 0 (by simp)
          have c1 : wr.cell? ⟨w.heap.size, 1, none⟩ = some (.int .u64 (u1 : Int)) := long_at hgf.out 1 (by simp)
          have c2 : wr.cell? ⟨w.heap.size, 2, none⟩ = some (.int .u64 (u2 : Int)) := long_at hgf.out 2 (by simp)
          have c3 : wr.cell? ⟨w.heap.size, 3, none⟩ = some (.int .u64 (u3 : Int)) := long_at hgf.out 3 (by simp)
          have c4 : wr.cell? ⟨w.heap.size, 4, none⟩ = some (.int .u64 (u4 : Int)) := long_at hgf.out 4 (by simp)
          have hz3 : Hid (wr.heap[w.heap.size + 1 + 1]? = some (.cells (bv z16).toArray 45 (0, 0))) := (hbt.block _ (by omega) (by intro e; injection e; omega)).trans hgZ.out
          have hbw : Below w.heap.size w wr := But.below hbW hbt (by omega) (by omega)
          obtain ⟨lo, elo, hlo, llo⟩ : ∃ lo : Nat, bits .or .u64 (bits .or .u64 (u0 : Int) ((u1 : Int) * 67108864)) (IntKind.u64.wrap ((u2 : Int) * 4503599627370496)) = (lo : Int) ∧ Vlt (lo = nv u0 u1 u2 u3 u4 % 18446744073709551616) ∧ lo < 18446744073709551616 := by
            refine ⟨u0 + u1 * 67108864 + u2 * 4503599627370496 % 18446744073709551616, ?_, vlt (low_half u0 u1 u2 u3 u4 n0 n1).symm, by omega⟩
            rw [show (u1 : Int) * 67108864 = ((u1 * 67108864 : Nat) : Int) by omega, show (u2 : Int) * 4503599627370496 = ((u2 * 4503599627370496 : Nat) : Int) by omega, wrap64, u64_or_nat _ _ (by omega) (by omega), Nat.or_comm u0,
              nat_join 26 _ _ (by omega) (by omega), u64_or_nat _ _ (by omega) (by omega), Nat.or_comm, nat_join 52 _ _ (by omega) (by omega)]
            omega
          obtain ⟨hi, ehi, hhi, lhi⟩ : ∃ hi : Nat, bits .or .u64 (bits .or .u64 ((u2 : Int) / 4096) ((u3 : Int) * 16384)) (IntKind.u64.wrap ((u4 : Int) * 1099511627776)) = (hi : Int) ∧ Vlt (hi = nv u0 u1 u2 u3 u4 / 18446744073709551616 % 18446744073709551616) ∧ hi < 18446744073709551616 := by
            refine ⟨u2 / 4096 + u3 * 16384 + u4 * 1099511627776 % 18446744073709551616, ?_, vlt (high_half u0 u1 u2 u3 u4 n0 n1 n2 n3).symm, by omega⟩
            rw [show (u3 : Int) * 16384 = ((u3 * 16384 : Nat) : Int) by omega, show (u4 : Int) * 1099511627776 = ((u4 * 1099511627776 : Nat) : Int) by omega, show (u2 : Int) / 4096 = ((u2 / 4096 : Nat) : Int) by omega, wrap64, u64_or_nat _ _ (by omega) (by omega), Nat.or_comm (u2 / 4096),
              nat_join 14 _ _ (by omega) (by omega), u64_or_nat _ _ (by omega) (by omega), Nat.or_comm, nat_join 40 _ _ (by omega) (by omega)]
            omega
          have hsplit := vlt (show out = le lo 8 ++ le hi 8 by
            rw [HOUT.out, ← HSUM.out, hlo.out, hhi.out, show 16 = 8 + 8 from rfl, le_split, show (340282366920938463463374607431768211456 : Nat) = 2 ^ (8 * (8 + 8)) by decide, show (18446744073709551616 : Nat) = 2 ^ (8 * 8) by decide]
            rw [le_mod (nv u0 u1 u2 u3 u4) 8, ← le_mod (nv u0 u1 u2 u3 u4 % 2 ^ (8 * (8 + 8))) 8, Nat.mod_mod_of_dvd _ (by decide), le_mod]
            rw [show 2 ^ (8 * (8 + 8)) = 2 ^ (8 * 8) * 2 ^ (8 * 8) by decide, Nat.mod_mul_right_div_self])
          go_wp2_with fail
          refine (little_any none [] 0 0 lo 8 wr Byt.none_ rfl (by decide) llo).mono ?_
          rintro e w4 ⟨A4, c4', rfl, hr4, hb4⟩
          rw [wd_8] at hr4
          have k2 : w4.cell? ⟨w.heap.size, 2, none⟩ = some (.int .u64 (u2 : Int)) := (hb4.cell (p := ⟨w.heap.size, 2, none⟩) (show w.heap.size < wr.heap.size by have := hbt.size; omega)).trans c2
          have k3 : w4.cell? ⟨w.heap.size, 3, none⟩ = some (.int .u64 (u3 : Int)) := (hb4.cell (p := ⟨w.heap.size, 3, none⟩) (show w.heap.size < wr.heap.size by have := hbt.size; omega)).trans c3
          have k4 : w4.cell? ⟨w.heap.size, 4, none⟩ = some (.int .u64 (u4 : Int)) := (hb4.cell (p := ⟨w.heap.size, 4, none⟩) (show w.heap.size < wr.heap.size by have := hbt.size; omega)).trans c4
          clear c0 c1 c2 c3 c4 elo
          rw [wd_8]
          go_wp2_with fail
          refine (little_any A4 (le lo 8) 8 c4' hi 8 w4 hr4.byt (le_len _ _) (by decide) lhi).mono ?_
          rintro e w5 ⟨A5, c5, rfl, hr5, hb5⟩
          rw [wd_8] at hr5
          rw [← hsplit.out] at hr5
          obtain ⟨g5, rfl⟩ := hr5.some_ (by decide)
          have hat := fun w => run_arrayAt (P := Try.prog) w 45 5 16 (some ⟨g5, 0, none⟩) (8 + wd 8) c5 Try.underlying45 (by decide)
          have hrg := Lib.hid (range_byt hr5.byt)
          have hz5 : Hid (w5.heap[w.heap.size + 1 + 1]? = some (.cells (bv z16).toArray 45 (0, 0))) := (hb5.block _ (by have := hb4.size; have := hbt.size; omega)).trans ((hb4.block _ (by have := hbt.size; omega)).trans hz3.out)
          have hbw5 : Below w.heap.size w w5 := below_next (below_next hbw hbw.size hb4) (below_next hbw hbw.size hb4).size hb5
          have HOL := Lib.hid (show (bv out).length = 16 by rw [bv_len, HOUT.out, le_len])
          have HOS := Lib.hid (show (bv out).toArray.size = 16 by simp [HOL.out])
          have HZ16 := Lib.hid (show (bv z16).toArray.size = 16 from rfl)
          clear ehi k2 k3 k4 hr4 hr5
          go_wp2_with (first
            | (with_reducible refine wpList_load_mid rfl 45 (.tmp 64) rfl g5 0 rfl (bv out) _ hrg.out Try.underlying45 rfl (by rw [HOL.out]; kernel_rfl) ?_)
            | (with_reducible refine wpList_store_row rfl 45 (.tmp 4) (.tmp 65) rfl (w.heap.size + 1 + 1) (bv out).toArray rfl rfl 45 _ hz5.out (by rw [HOS.out]; kernel_rfl) (by rw [HOS.out]; exact HZ16.out) (all_oneCell_toArray (bv_one _)) ?_))
          refine bodyPost_ret (v := .agg (bv out).toArray) (results_cell_row Try.results56 _ _ (w.heap.size + 1 + 1) 45 _ (0, 0) _ rfl (setRow_heap _ _ _ _ _ _ hz5.out) Try.underlying45 rfl (by rw [HOS.out]; kernel_rfl)) rfl ⟨rfl, below_setRow hbw5 (by omega) _⟩
end Go.Proofs.Ytkeejkhapmcanaa
namespace Go.Proofs.Ytkeejkhapmcanaa
open Go.RowKit

theorem setCells_row {w : World} {g o : Nat} {cs : List Value} {t : TypeId} (hg : w.heap[g]? = some (.cells cs.toArray t (0, 0))) (vs : List Value) (hfit : o + vs.length ≤ cs.length) (h1 : ∀ v ∈ vs, v.oneCell' = true) :
    w.setCells g o vs = w.setRow g (splice cs o vs).toArray := by
  have a := run_storeCells_cells (P := Try.prog) g o vs 0 w (fun j hj => by rw [cell_of_row _ _ _ _ _ _ hg]; simp; omega) (fun j hj => frozen_of_row _ _ _ _ _ hg) h1
  have b := run_storeCells_at (P := Try.prog) g o t vs 0 cs.toArray w hg (by simp; omega) h1
  rw [a] at b
  injection b with _ b
  simpa [splice] using b
/-- A whole array is stored into the midst of a block that is known whole, as one step of a region that draws its order. -/
theorem step_store_mid {P : Program} {ops : Array Oper} {o : Oper} {a : Act} {w : World} {K : Act → World → Prop} {Q : Exit → Act → World → Prop} {E : Prop} (hgd : o.guard = none) (ty : TypeId) (x y : Operand) (ho : o.op = .store ty x y)
    (g off : Nat) (cells : List Value) (hx : a.eval x = .pointer (some ⟨g, off, none⟩)) (hy : a.eval y = .agg cells.toArray) (cur : List Value) (t : TypeId) (hg : w.heap[g]? = some (.cells cur.toArray t (0, 0)))
    (hfit : off + cells.length ≤ cur.length) (hi : (P.info? ty).map (·.size) = some cells.length) (h1 : ∀ v ∈ cells, v.oneCell' = true) (w0 : World) (hb : But g w0 w)
    (h : ∀ w', Hid (w'.heap[g]? = some (.cells (splice cur off cells).toArray t (0, 0))) → But g w0 w' → K (a.put o.dst undef) w') :
    if Region.wanted o (yielded ops a.tmps) = true then Oper.wp P o a w K Q else E := by
  have hw : Region.wanted o (yielded ops a.tmps) = true := by simp [Region.wanted, hgd]
  rw [if_pos hw]
  refine wp_store_mid ty x y ho g off cells.toArray hx hy (fun j hj => ⟨?_, frozen_of_row _ _ _ _ _ hg⟩) (by simpa using hi) (all_oneCell_toArray h1) ?_
  · rw [cell_of_row _ _ _ _ _ _ hg]
    simp at hj ⊢; omega
  · have e := setCells_row hg cells hfit h1
    show K _ (w.setCells g off cells)
    rw [e]
    exact h _ (setRow_heap _ _ _ _ _ _ hg) (hb.row _)
theorem splice_mid (A B C x : List Value) (a k : Nat) (ha : a = A.length + k) (h : k + x.length ≤ B.length) : splice (A ++ (B ++ C)) a x = A ++ (splice B k x ++ C) := by
  subst ha
  simp only [splice]
  have e1 : List.take (A.length + k) (A ++ (B ++ C)) = A ++ List.take k B := by
    rw [List.take_append, List.take_of_length_le (by omega), Nat.add_sub_cancel_left, List.take_append_of_le_length (by omega)]
  have e2 : List.drop (A.length + k + x.length) (A ++ (B ++ C)) = List.drop (k + x.length) B ++ C := by
    rw [List.drop_append, List.drop_of_length_le (by omega), List.nil_append, show A.length + k + x.length - A.length = k + x.length by omega, List.drop_append_of_le_length (by omega)]
  rw [e1, e2]
  simp
def sumP (rp t : List Nat) (rest : List UInt8) (n : Nat) : List Value := u64v rp ++ (u64v t ++ (bv rest ++ [.int .i64 (n : Int)]))
def PObj (w : World) (g : Nat) (rp t : List Nat) (rest : List UInt8) (n : Nat) : Prop := w.heap[g]? = some (.cells (sumP rp t rest n).toArray 77 (0, 0)) ∧ rp.length = 5 ∧ t.length = 5 ∧ rest.length = 16
theorem sumP_len {rp t : List Nat} {rest : List UInt8} {n : Nat} (h1 : rp.length = 5) (h2 : t.length = 5) (h3 : rest.length = 16) : (sumP rp t rest n).length = 27 := by
  simp [sumP, u64v_len, bv_len, h1, h2, h3]
theorem range_part {w : World} {g : Nat} {t : TypeId} (A B C : List Value) (hg : w.heap[g]? = some (.cells (A ++ (B ++ C)).toArray t (0, 0))) (a : Nat) (ha : A.length = a) : w.rangeAt g a B := by
  intro j v hj
  have hjl := (List.getElem?_eq_some_iff.1 hj).1
  rw [cell_of_row _ _ _ _ _ _ hg]
  simp only [List.getElem?_toArray]
  rw [List.getElem?_append_right (by omega), ← ha, Nat.add_sub_cancel_left, List.getElem?_append_left hjl]
  exact hj
section
variable {w w' : World} {g n B : Nat} {rp t : List Nat} {rest : List UInt8}
theorem PObj.lt (h : PObj w g rp t rest n) : g < w.heap.size := (Array.getElem?_eq_some_iff.1 h.1).1
theorem PObj.keep (h : PObj w g rp t rest n) (hb : w'.heap[g]? = w.heap[g]?) : PObj w' g rp t rest n := ⟨hb.trans h.1, h.2⟩
theorem PObj.below (h : PObj w g rp t rest n) (hB : g < B) (hb : Below B w w') : PObj w' g rp t rest n := h.keep (hb.block g hB)
theorem PObj.factor (h : PObj w g rp t rest n) : w.rangeAt g 0 (u64v rp) := range_part [] (u64v rp) _ h.1 0 rfl
theorem PObj.total (h : PObj w g rp t rest n) : w.rangeAt g 5 (u64v t) := range_part (u64v rp) (u64v t) _ h.1 5 (by rw [u64v_len, h.2.1])
theorem PObj.wait (h : PObj w g rp t rest n) : w.rangeAt g 10 (bv rest) :=
  range_part (u64v rp ++ u64v t) (bv rest) [.int .i64 (n : Int)] (by rw [List.append_assoc]; exact h.1) 10 (by rw [List.length_append, u64v_len, u64v_len, h.2.1, h.2.2.1])
theorem PObj.cnt (h : PObj w g rp t rest n) : w.cell? ⟨g, 26, none⟩ = some (.int .i64 (n : Int)) := by
  have h1 := range_part (u64v rp ++ (u64v t ++ bv rest)) [Value.int .i64 (n : Int)] [] (by rw [List.append_nil, List.append_assoc, List.append_assoc]; exact h.1) 26 (by rw [List.length_append, List.length_append, u64v_len, u64v_len, bv_len, h.2.1, h.2.2.1, h.2.2.2]) 0 _ rfl
  exact h1
theorem PObj.frozen (h : PObj w g rp t rest n) (j : Nat) : w.frozen? ⟨g, j, none⟩ = false := frozen_of_row w g j _ _ h.1
theorem sumP_total (h : rp.length = 5) (t' : List Nat) (h2 : t.length = 5) (h3 : t'.length = 5) : splice (sumP rp t rest n) 5 (u64v t') = sumP rp t' rest n := by
  rw [sumP, splice_mid (u64v rp) (u64v t) _ (u64v t') 5 0 (by rw [u64v_len, h]) (by rw [u64v_len, u64v_len, h2, h3]; decide)]
  have e : splice (u64v t) 0 (u64v t') = u64v t' := by simp [splice, u64v_len, h2, h3]
  rw [e, sumP]
theorem sumP_rest (h : rp.length = 5) (h2 : t.length = 5) (k : Nat) (x : List UInt8) (h3 : rest.length = 16) (hk : k + x.length ≤ 16) : splice (sumP rp t rest n) (10 + k) (bv x) = sumP rp t (rest.take k ++ (x ++ rest.drop (k + x.length))) n := by
  rw [sumP, ← List.append_assoc, splice_mid (u64v rp ++ u64v t) (bv rest) _ (bv x) (10 + k) k (by rw [List.length_append, u64v_len, u64v_len, h, h2]) (by rw [bv_len, bv_len, h3]; exact hk)]
  have e : splice (bv rest) k (bv x) = bv (rest.take k ++ (x ++ rest.drop (k + x.length))) := by
    simp [splice, bv, List.map_take, List.map_drop]
  rw [e, sumP, List.append_assoc]
theorem PObj.count (h : PObj w g rp t rest n) (k : Nat) : PObj (w.setCell ⟨g, 26, none⟩ (.int .i64 (k : Int))) g rp t rest k := by
  refine ⟨(world_set_cell h.1 26 _).out.trans ?_, h.2⟩
  have e : (sumP rp t rest n).set 26 (.int .i64 (k : Int)) = sumP rp t rest k := by
    simp only [sumP]
    rw [List.set_append_right _ _ (by rw [u64v_len, h.2.1]; decide), u64v_len, h.2.1, List.set_append_right _ _ (by rw [u64v_len, h.2.2.1]; decide), u64v_len, h.2.2.1, List.set_append_right _ _ (by rw [bv_len, h.2.2.2]; decide), bv_len, h.2.2.2]
    rfl
  rw [e]
theorem PObj.byte (h : PObj w g rp t rest n) (k : Nat) (b : UInt8) (hk : k < 16) : PObj (w.setCell ⟨g, 10 + k, none⟩ (.int .u8 (b.toNat : Int))) g rp t (rest.set k b) n := by
  refine ⟨(world_set_cell h.1 (10 + k) _).out.trans ?_, h.2.1, h.2.2.1, by rw [List.length_set]; exact h.2.2.2⟩
  have e : (sumP rp t rest n).set (10 + k) (.int .u8 (b.toNat : Int)) = sumP rp t (rest.set k b) n := by
    simp only [sumP]
    rw [List.set_append_right _ _ (by rw [u64v_len, h.2.1]; omega), u64v_len, h.2.1, List.set_append_right _ _ (by rw [u64v_len, h.2.2.1]; omega), u64v_len, h.2.2.1, show 10 + k - 5 - 5 = k by omega, List.set_append_left _ _ (by rw [bv_len, h.2.2.2]; exact hk), bv_set]
  rw [e]
end
end Go.Proofs.Ytkeejkhapmcanaa
namespace Go.Proofs.Ytkeejkhapmcanaa
open Go.RowKit

theorem nplus5 (w : World) (a0 a1 a2 a3 a4 b0 b1 b2 b3 b4 : Nat) (ha : a0 < 67108870 ∧ a1 < 67108864 ∧ a2 < 67108864 ∧ a3 < 67108864 ∧ a4 < 67108864) (hb : b0 < 67108864 ∧ b1 < 67108864 ∧ b2 < 67108864 ∧ b3 < 67108864 ∧ b4 < 67108864) :
    Calls Try.prog 58 #[.agg (u64v [a0, a1, a2, a3, a4]).toArray, .agg (u64v [b0, b1, b2, b3, b4]).toArray] w fun e w' => e = .returned (.agg (u64v [a0 + b0, a1 + b1, a2 + b2, a3 + b3, a4 + b4]).toArray) ∧ Below w.heap.size w w' := by
  have h := nplus_any w [a0, a1, a2, a3, a4] [b0, b1, b2, b3, b4] rfl rfl (by intro x hx; simp only [List.mem_cons, List.not_mem_nil, or_false] at hx; omega) (by intro x hx; simp only [List.mem_cons, List.not_mem_nil, or_false] at hx; omega)
  rw [addK_five] at h
  exact h
theorem range_below {w w' : World} {B g o : Nat} {cs : List Value} (h : w.rangeAt g o cs) (hg : g < B) (hb : Below B w w') : w'.rangeAt g o cs := fun j v hj => (hb.cell (p := ⟨g, o + j, none⟩) hg).trans (h j v hj)
set_option maxRecDepth 100000 in
set_option maxHeartbeats 2000000 in
theorem pmix_any (w : World) (g : Nat) (r0 r1 r2 r3 r4 t0 t1 t2 t3 t4 : Nat) (rest : List UInt8) (n top : Nat) (h : PObj w g [r0, r1, r2, r3, r4] [t0, t1, t2, t3, t4] rest n)
    (hr : r0 < 67108864 ∧ r1 < 67108864 ∧ r2 < 67108864 ∧ r3 < 67108864 ∧ r4 < 67108864) (ht : t0 < 67108870 ∧ t1 < 67108864 ∧ t2 < 67108864 ∧ t3 < 67108864 ∧ t4 < 67108864) (htop : top ≤ 1) :
    Calls Try.prog 55 #[.pointer (some ⟨g, 0, none⟩), .int .u64 (top : Int)] w fun e w' => e = .returned (.tuple #[]) ∧ (∃ u0 u1 u2 u3 u4, PObj w' g [r0, r1, r2, r3, r4] [u0, u1, u2, u3, u4] rest n ∧
      Vlt (nv u0 u1 u2 u3 u4 % PP = (nv t0 t1 t2 t3 t4 + (ln rest + 340282366920938463463374607431768211456 * top)) * nv r0 r1 r2 r3 r4 % PP) ∧ (u0 < 67108870 ∧ u1 < 67108864 ∧ u2 < 67108864 ∧ u3 < 67108864 ∧ u4 < 67108864)) ∧ But g w w' := by
  have HO := Lib.hid h
  have hgl := h.lt
  have hf := h.factor
  have htt := h.total
  have hrr := h.wait
  have HRL := Lib.hid h.2.2.2
  have HR := Lib.hid hr
  have HT := Lib.hid ht
  have lr : (u64v [r0, r1, r2, r3, r4]).length = 5 := rfl
  have lt : (u64v [t0, t1, t2, t3, t4]).length = 5 := rfl
  have lb : (bv rest).length = 16 := by rw [bv_len]; exact HRL.out
  have HLR := Lib.hid lr
  have HLT := Lib.hid lt
  have HLB := Lib.hid lb
  clear h hr ht lr lt lb
  go_enter Try.func55, Try.ntmps55
  go_wp2_with fail
  have HF := Lib.hid hf
  have HTT := Lib.hid htt
  have HRR := Lib.hid hrr
  clear hf htt hrr
  refine c_start (S := (fun W' => Below w.heap.size w W' ∧ W'.rangeAt g 0 (u64v [r0, r1, r2, r3, r4]) ∧ W'.rangeAt g 5 (u64v [t0, t1, t2, t3, t4]) ∧ W'.rangeAt g 10 (bv rest))) 19 (by kernel_rfl) (⟨(Below.refl _ _).drew, HF.out, HTT.out, HRR.out⟩) (fun hHeld => ?_)
  refine c_take (i := 0) (oi := ⟨(some 4), _, _, _, _, _⟩) (v := ?vq1_0) rfl (by decide) (by kernel_rfl) (by kernel_rfl) (by kernel_rfl) (fun _ _ _ h => h) (Or.inl ⟨by rfl, ?yq1_0⟩) hHeld ?_
  case yq1_0 => (intro W0 hSw; go_simp; try with_reducible rfl)
  try simp only [Act.put, List.setIfInBounds_toArray, List.set_cons_zero, List.set_cons_succ]
  refine c_take (i := 1) (oi := ⟨(some 5), _, _, _, _, _⟩) (v := ?vq1_1) rfl (by decide) (by kernel_rfl) (by kernel_rfl) (by kernel_rfl) (fun _ _ _ h => h) (Or.inl ⟨by rfl, ?yq1_1⟩) hHeld ?_
  case yq1_1 => (intro W0 hSw; go_simp; try with_reducible rfl)
  try simp only [Act.put, List.setIfInBounds_toArray, List.set_cons_zero, List.set_cons_succ]
  refine c_take (i := 2) (oi := ⟨(some 6), _, _, _, _, _⟩) (v := ?vq1_2) rfl (by decide) (by kernel_rfl) (by kernel_rfl) (by kernel_rfl) (fun _ _ _ h => h) (Or.inl ⟨by rfl, ?yq1_2⟩) hHeld ?_
  case yq1_2 => (intro W0 hSw; go_simp; try with_reducible rfl)
  try simp only [Act.put, List.setIfInBounds_toArray, List.set_cons_zero, List.set_cons_succ]
  refine c_take (i := 3) (oi := ⟨(some 7), _, _, _, _, _⟩) (v := ?vq1_3) rfl (by decide) (by kernel_rfl) (by kernel_rfl) (by kernel_rfl) (fun _ _ _ h => h) (Or.inl ⟨by rfl, ?yq1_3⟩) hHeld ?_
  case yq1_3 => (intro W0 hSw; go_simp; try with_reducible rfl)
  try simp only [Act.put, List.setIfInBounds_toArray, List.set_cons_zero, List.set_cons_succ]
  refine c_read (i := 4) (oi := ⟨(some 8), _, _, _, _, _⟩) (v := _) rfl (by decide) (by kernel_rfl) (by kernel_rfl) (by kernel_rfl) (by kernel_rfl) (by kernel_rfl) (fun _ _ _ h => h) (yieldsIf_load_mid (by rfl) _ _ rfl g 5 rfl (u64v [t0, t1, t2, t3, t4]) _ ((fun _ h => h.2.2.1)) (Try.underlying74) (rfl) (by kernel_rfl)) hHeld ?_
  try simp only [Act.put, List.setIfInBounds_toArray, List.set_cons_zero, List.set_cons_succ]
  refine c_take (i := 5) (oi := ⟨(some 9), _, _, _, _, _⟩) (v := ?vq1_4) rfl (by decide) (by kernel_rfl) (by kernel_rfl) (by kernel_rfl) (fun _ _ _ h => h) (Or.inl ⟨by rfl, ?yq1_4⟩) hHeld ?_
  case yq1_4 => (intro W0 hSw; go_simp; try with_reducible rfl)
  try simp only [Act.put, List.setIfInBounds_toArray, List.set_cons_zero, List.set_cons_succ]
  refine c_take (i := 6) (oi := ⟨(some 10), _, _, _, _, _⟩) (v := ?vq1_5) rfl (by decide) (by kernel_rfl) (by kernel_rfl) (by kernel_rfl) (fun _ _ _ h => h) (Or.inl ⟨by rfl, ?yq1_5⟩) hHeld ?_
  case yq1_5 => (intro W0 hSw; go_simp; try with_reducible rfl)
  try simp only [Act.put, List.setIfInBounds_toArray, List.set_cons_zero, List.set_cons_succ]
  refine c_take (i := 7) (oi := ⟨(some 11), _, _, _, _, _⟩) (v := ?vq1_6) rfl (by decide) (by kernel_rfl) (by kernel_rfl) (by kernel_rfl) (fun _ _ _ h => h) (Or.inl ⟨by rfl, ?yq1_6⟩) hHeld ?_
  case yq1_6 => (intro W0 hSw; go_simp; try with_reducible rfl)
  try simp only [Act.put, List.setIfInBounds_toArray, List.set_cons_zero, List.set_cons_succ]
  refine c_read (i := 8) (oi := ⟨(some 12), _, _, _, _, _⟩) (v := _) rfl (by decide) (by kernel_rfl) (by kernel_rfl) (by kernel_rfl) (by kernel_rfl) (by kernel_rfl) (fun _ _ _ h => h) (yieldsIf_load_mid (by rfl) _ _ rfl g 10 rfl (bv rest) _ ((fun _ h => h.2.2.2)) (Try.underlying45) (rfl) (by rw [HLB.out]; kernel_rfl)) hHeld ?_
  try simp only [Act.put, List.setIfInBounds_toArray, List.set_cons_zero, List.set_cons_succ]
  refine c_take (i := 9) (oi := ⟨(some 13), _, _, _, _, _⟩) (v := ?vq1_7) rfl (by decide) (by kernel_rfl) (by kernel_rfl) (by kernel_rfl) (fun _ _ _ h => h) (Or.inl ⟨by rfl, ?yq1_7⟩) hHeld ?_
  case yq1_7 => (intro W0 hSw; go_simp; try with_reducible rfl)
  try simp only [Act.put, List.setIfInBounds_toArray, List.set_cons_zero, List.set_cons_succ]
  refine c_take (i := 12) (oi := ⟨(some 16), _, _, _, _, _⟩) (v := ?vq1_8) rfl (by decide) (by kernel_rfl) (by kernel_rfl) (by kernel_rfl) (fun _ _ _ h => h) (Or.inl ⟨by rfl, ?yq1_8⟩) hHeld ?_
  case yq1_8 => (intro W0 hSw; go_simp; try with_reducible rfl)
  try simp only [Act.put, List.setIfInBounds_toArray, List.set_cons_zero, List.set_cons_succ]
  refine c_take (i := 13) (oi := ⟨(some 17), _, _, _, _, _⟩) (v := ?vq1_9) rfl (by decide) (by kernel_rfl) (by kernel_rfl) (by kernel_rfl) (fun _ _ _ h => h) (Or.inl ⟨by rfl, ?yq1_9⟩) hHeld ?_
  case yq1_9 => (intro W0 hSw; go_simp; try with_reducible rfl)
  try simp only [Act.put, List.setIfInBounds_toArray, List.set_cons_zero, List.set_cons_succ]
  refine c_take (i := 14) (oi := ⟨(some 18), _, _, _, _, _⟩) (v := ?vq1_10) rfl (by decide) (by kernel_rfl) (by kernel_rfl) (by kernel_rfl) (fun _ _ _ h => h) (Or.inl ⟨by rfl, ?yq1_10⟩) hHeld ?_
  case yq1_10 => (intro W0 hSw; go_simp; try with_reducible rfl)
  try simp only [Act.put, List.setIfInBounds_toArray, List.set_cons_zero, List.set_cons_succ]
  refine c_read (i := 15) (oi := ⟨(some 19), _, _, _, _, _⟩) (v := _) rfl (by decide) (by kernel_rfl) (by kernel_rfl) (by kernel_rfl) (by kernel_rfl) (by kernel_rfl) (fun _ _ _ h => h) (yieldsIf_load_mid (by rfl) _ _ rfl g 0 rfl (u64v [r0, r1, r2, r3, r4]) _ ((fun _ h => h.2.1)) (Try.underlying74) (rfl) (by kernel_rfl)) hHeld ?_
  try simp only [Act.put, List.setIfInBounds_toArray, List.set_cons_zero, List.set_cons_succ]
  refine c_step (i := 10) (o := ⟨(some 14), _, _, _, _, _⟩) (by kernel_rfl) rfl (fun K hK => ?_)
  go_simp
  refine (numberOf_any _ rest top HRL.out htop).mono ?_
  rintro e w2 ⟨p0, p1, p2, p3, p4, rfl, hp, lp, hb2⟩
  have hb2' : Below w.heap.size w w2 := below_undrew hb2
  refine hK.out _ _ (⟨hb2', range_below HF.out hgl hb2', range_below HTT.out hgl hb2', range_below HRR.out hgl hb2'⟩) (fun hHeld => ?_)
  clear hK K
  try simp only [Act.put, List.setIfInBounds_toArray, List.set_cons_zero, List.set_cons_succ]
  refine c_step (i := 11) (o := ⟨(some 15), _, _, _, _, _⟩) (by kernel_rfl) rfl (fun K hK => ?_)
  go_simp
  refine (nplus5 w2 t0 t1 t2 t3 t4 p0 p1 p2 p3 p4 (by have := HT.out; omega) lp).mono ?_
  rintro e w3 ⟨rfl, hb3⟩
  have hb3' : Below w.heap.size w w3 := below_next hb2' hb2'.size hb3
  refine hK.out _ _ (⟨hb3', range_below HF.out hgl hb3', range_below HTT.out hgl hb3', range_below HRR.out hgl hb3'⟩) (fun hHeld => ?_)
  clear hK K
  try simp only [Act.put, List.setIfInBounds_toArray, List.set_cons_zero, List.set_cons_succ]
  refine c_step (i := 16) (o := ⟨(some 20), _, _, _, _, _⟩) (by kernel_rfl) rfl (fun K hK => ?_)
  go_simp
  refine (ntimes_any w3 (t0 + p0) (t1 + p1) (t2 + p2) (t3 + p3) (t4 + p4) r0 r1 r2 r3 r4 (by have := HT.out; omega) (by have := HT.out; omega) (by have := HT.out; omega) (by have := HT.out; omega) (by have := HT.out; omega) HR.out.1 HR.out.2.1 HR.out.2.2.1 HR.out.2.2.2.1 HR.out.2.2.2.2).mono ?_
  rintro e w4 ⟨u0, u1, u2, u3, u4, rfl, hu, lu, hb4⟩
  have hb4' : Below w.heap.size w w4 := below_next hb3' hb3'.size hb4
  refine hK.out _ _ (⟨hb4', range_below HF.out hgl hb4', range_below HTT.out hgl hb4', range_below HRR.out hgl hb4'⟩) (fun hHeld => ?_)
  clear hK K
  try simp only [Act.put, List.setIfInBounds_toArray, List.set_cons_zero, List.set_cons_succ]
  refine c_take (i := 17) (oi := ⟨(some 21), _, _, _, _, _⟩) (v := ?vq1_11) rfl (by decide) (by kernel_rfl) (by kernel_rfl) (by kernel_rfl) (fun _ _ _ h => h) (Or.inl ⟨by rfl, ?yq1_11⟩) hHeld ?_
  case yq1_11 => (intro W0 hSw; go_simp; try with_reducible rfl)
  try simp only [Act.put, List.setIfInBounds_toArray, List.set_cons_zero, List.set_cons_succ]
  refine c_take (i := 18) (oi := ⟨(some 22), _, _, _, _, _⟩) (v := ?vq1_12) rfl (by decide) (by kernel_rfl) (by kernel_rfl) (by kernel_rfl) (fun _ _ _ h => h) (Or.inl ⟨by rfl, ?yq1_12⟩) hHeld ?_
  case yq1_12 => (intro W0 hSw; go_simp; try with_reducible rfl)
  try simp only [Act.put, List.setIfInBounds_toArray, List.set_cons_zero, List.set_cons_succ]
  have hobj := Lib.hid (HO.out.below hgl hb4')
  have hbut : But g w w4 := But.of_below hb4' (Nat.le_refl _)
  refine c_call (S' := (fun _ => True)) (o := ⟨none, _, _, _, _, _⟩) (by kernel_rfl) (by kernel_rfl) rfl (fun K hK => ?_)
  clear hHeld
  refine step_store_mid rfl 74 (.tmp 22) (.tmp 20) rfl g 5 (u64v [u0, u1, u2, u3, u4]) (by rfl) (by rfl) (sumP [r0, r1, r2, r3, r4] [t0, t1, t2, t3, t4] rest n) 77 hobj.out.1 (by rw [sumP_len rfl rfl HRL.out]; exact (by decide : 5 + 5 ≤ 27)) (by kernel_rfl) (u64v_one _) w hbut ?_
  intro w5 hg5 hb5
  refine hK.out _ _ (trivial) (fun hHeld => ?_)
  clear hK K
  try simp only [Act.put]
  refine wpAnyH_done (by kernel_rfl) ?_ _
  have hfin : PObj w5 g [r0, r1, r2, r3, r4] [u0, u1, u2, u3, u4] rest n := by
    have h1 := hg5.out
    rw [sumP_total rfl _ rfl rfl] at h1
    exact ⟨h1, rfl, rfl, HRL.out⟩
  have hval : Vlt (nv u0 u1 u2 u3 u4 % PP = (nv t0 t1 t2 t3 t4 + (ln rest + 340282366920938463463374607431768211456 * top)) * nv r0 r1 r2 r3 r4 % PP) := vlt (by
    rw [hu.out, ← hp.out]
    congr 2
    simp only [nv]; omega)
  clear hu hp hg5 hobj
  go_wp2
  go_end0
  exact ⟨rfl, ⟨u0, u1, u2, u3, u4, hfin, hval, lu⟩, hb5⟩
end Go.Proofs.Ytkeejkhapmcanaa
namespace Go.Proofs.Ytkeejkhapmcanaa
open Go.RowKit

/-- The sum by the factor r has taken the bytes l. -/
def SumP (w : World) (g r0 r1 r2 r3 r4 : Nat) (l : List UInt8) : Prop :=
  ∃ t0 t1 t2 t3 t4 rest, PObj w g [r0, r1, r2, r3, r4] [t0, t1, t2, t3, t4] rest (l.length % 16) ∧ (t0 < 67108870 ∧ t1 < 67108864 ∧ t2 < 67108864 ∧ t3 < 67108864 ∧ t4 < 67108864) ∧
    Vlt (nv t0 t1 t2 t3 t4 % PP = accR (nv r0 r1 r2 r3 r4) l (l.length / 16)) ∧ Hid (rest.take (l.length % 16) = l.drop (16 * (l.length / 16)))
section
variable {w w' : World} {g r0 r1 r2 r3 r4 B : Nat} {l : List UInt8}
theorem SumP.lt (h : SumP w g r0 r1 r2 r3 r4 l) : g < w.heap.size := by obtain ⟨_, _, _, _, _, _, h, _⟩ := h; exact h.lt
theorem SumP.keep (h : SumP w g r0 r1 r2 r3 r4 l) (hb : w'.heap[g]? = w.heap[g]?) : SumP w' g r0 r1 r2 r3 r4 l := by
  obtain ⟨t0, t1, t2, t3, t4, rest, h, h2⟩ := h
  exact ⟨t0, t1, t2, t3, t4, rest, h.keep hb, h2⟩
theorem SumP.below (h : SumP w g r0 r1 r2 r3 r4 l) (hB : g < B) (hb : Below B w w') : SumP w' g r0 r1 r2 r3 r4 l := h.keep (hb.block g hB)
end
theorem acc_mod (t c r : Nat) : (t + c) * r % PP = (t % PP + c) * r % PP := by
  rw [Nat.mul_mod, Nat.mul_mod (t % PP + c), Nat.mod_add_mod]
theorem p_more {l x rest : List UInt8} {r : Nat} (hr : rest.length = 16) (htk : rest.take (l.length % 16) = l.drop (16 * (l.length / 16))) (hx : l.length % 16 + x.length < 16) :
    (l ++ x).length % 16 = l.length % 16 + x.length ∧ accR r (l ++ x) ((l ++ x).length / 16) = accR r l (l.length / 16) ∧
      (rest.take (l.length % 16) ++ (x ++ rest.drop (l.length % 16 + x.length))).take ((l ++ x).length % 16) = (l ++ x).drop (16 * ((l ++ x).length / 16)) := by
  have e1 : (l ++ x).length / 16 = l.length / 16 := by rw [List.length_append]; omega
  have e2 : (l ++ x).length % 16 = l.length % 16 + x.length := by rw [List.length_append]; omega
  refine ⟨e2, by rw [e1, accR_app r l x _ (by omega)], ?_⟩
  rw [e1, e2, List.drop_append_of_le_length (by omega), ← htk, ← List.append_assoc, List.take_append_of_le_length (by simp; omega), List.take_of_length_le (by simp; omega)]
theorem p_whole {l x rest : List UInt8} {r t T : Nat} (hr : rest.length = 16) (htk : rest.take (l.length % 16) = l.drop (16 * (l.length / 16))) (hx : l.length % 16 + x.length = 16) (ht : t % PP = accR r l (l.length / 16))
    (hT : T % PP = (t + (ln (rest.take (l.length % 16) ++ (x ++ rest.drop (l.length % 16 + x.length))) + 340282366920938463463374607431768211456 * 1)) * r % PP) :
    (l ++ x).length % 16 = 0 ∧ T % PP = accR r (l ++ x) ((l ++ x).length / 16) ∧ (l ++ x).drop (16 * ((l ++ x).length / 16)) = [] := by
  have e0 : (l ++ x).length = 16 * (l.length / 16 + 1) := by rw [List.length_append]; omega
  have e1 : (l ++ x).length / 16 = l.length / 16 + 1 := by omega
  have e2 : (l ++ x).length % 16 = 0 := by omega
  have e3 : rest.take (l.length % 16) ++ (x ++ rest.drop (l.length % 16 + x.length)) = blkAt (l ++ x) (l.length / 16) := by
    rw [hx, List.drop_eq_nil_of_le (show rest.length ≤ 16 by omega), List.append_nil, blkAt, List.drop_append_of_le_length (by omega), ← htk]
    exact (List.take_of_length_le (by rw [List.length_append, List.length_take]; omega)).symm
  have e4 : (blkAt (l ++ x) (l.length / 16)).length = 16 := by rw [← e3]; simp; omega
  refine ⟨e2, ?_, List.drop_eq_nil_of_le (by omega)⟩
  rw [hT, e1, accR, e3, e4, accR_app r l x _ (by omega), acc_mod, ht]
def lenOfP : Value → Nat | .slice _ n _ => n | _ => 0

set_option maxRecDepth 100000 in
set_option maxHeartbeats 1000000 in
theorem padd_any (w : World) (g r0 r1 r2 r3 r4 : Nat) (l m : List UInt8) (A : Option Addr) (n c : Nat) (hS : SumP w g r0 r1 r2 r3 r4 l) (hr : r0 < 67108864 ∧ r1 < 67108864 ∧ r2 < 67108864 ∧ r3 < 67108864 ∧ r4 < 67108864) (hA : Src w g A m) (hm : m.length = n) (hc : n ≤ c) (hbig : n ≤ 1152921504606846976) :
    Calls Try.prog 47 #[.pointer (some ⟨g, 0, none⟩), .slice A n c] w fun e w' => e = .returned (.tuple #[]) ∧ SumP w' g r0 r1 r2 r3 r4 (l ++ m) ∧ But g w w' := by
  have HM := Lib.hid hm
  have HR := Lib.hid hr
  clear hm hr
  go_enter Try.func47, Try.ntmps47
  go_wp2
  go_loopw [1] (fun b wr => ∃ (l' r : List UInt8) (A' : Option Addr) (n' c' : Nat), b = .slice A' n' c' ∧ Hid (r.length = n') ∧ n' ≤ c' ∧ n' ≤ n ∧ Hid (l' ++ r = l ++ m) ∧ SumP wr g r0 r1 r2 r3 r4 l' ∧ Src wr g A' r ∧ But g w wr) (fun b _ => lenOfP b)
  case atStart => exact ⟨l, m, A, n, c, rfl, HM, hc, Nat.le_refl _, rfl, hS, hA, But.refl _ _⟩
  case round =>
    obtain ⟨l', r, A', n', c', rfl, hr, hc', hn', hlr, hsum, hsrc, hbut⟩ := hrel
    clear hS hA
    have hgl := hsum.lt
    have hsum0 := Lib.hid hsum
    obtain ⟨t0, t1, t2, t3, t4, rest, hob, hts, hval, htk⟩ := hsum
    obtain ⟨N, hN⟩ : ∃ N, N = l'.length % 16 := ⟨_, rfl⟩
    have hN16 : N < 16 := by omega
    rw [← hN] at hob htk
    have HN := Lib.hid hN
    have HRL := Lib.hid hob.2.2.2
    have hnb : n' ≤ 1152921504606846976 := by omega
    clear hN
    by_cases h0 : 0 < n'
    · have c26 := hob.cnt
      have hcut := cut_l Try.underlying45 Try.sizeByte g 10 N (N : Int) rfl hN16
      go_wp2_with fail
      go_region_law ((refine step_copy_but rfl (.tmp 15) (.tmp 16) 26 rfl 5 Try.underlying26 Try.sizeByte g (10 + N) (16 - N) (16 - N) n' c' A' (by rfl) (by rfl) (sumP [r0, r1, r2, r3, r4] [t0, t1, t2, t3, t4] rest N) 77 hob.1 r wr.heap.size hsrc.byt hr.out h0 (by rw [sumP_len rfl rfl HRL.out]; omega) wr (But.refl g wr).drew ?_; intro w2 hg2' hb2))
      clear hcut c26
      have hxl : (r.take (16 - N)).length = min n' (16 - N) := by rw [List.length_take, hr.out]; exact Nat.min_comm _ _
      generalize ht : min n' (16 - N) = t at *
      have ht1 : 0 < t := by omega
      have ht2 : t ≤ n' := by omega
      have ht3 : N + t ≤ 16 := by omega
      have htx : r.take (16 - N) = r.take t := by
        by_cases hq : 16 - N ≤ n'
        · rw [show t = 16 - N by omega]
        · rw [show t = n' by omega, List.take_of_length_le (by rw [hr.out]; omega), List.take_of_length_le (by rw [hr.out]; exact Nat.le_refl _)]
      rw [htx] at hxl
      have hob2 : PObj w2 g [r0, r1, r2, r3, r4] [t0, t1, t2, t3, t4] (rest.take N ++ (r.take t ++ rest.drop (N + t))) N := by
        have h1 := hg2'.out
        rw [htx, sumP_rest rfl rfl N (r.take t) HRL.out (by rw [hxl]; exact ht3), hxl] at h1
        refine ⟨h1, rfl, rfl, ?_⟩
        have := HRL.out
        rw [List.length_append, List.length_append, hxl, List.length_take, List.length_drop]; omega
      have hsrc2 := (hsrc.but hb2).cut t c' (by rw [hr.out]; exact hc')
      have hcut2 := run_cut_l Try.underlying26 Try.sizeByte A' n' c' t (t : Int) rfl ht2
      generalize hA2 : (if c' = t then A' else A'.map (·.add t)) = A2 at *
      have HXL := Lib.hid hxl
      clear hxl ht htx hA2 hg2'
      have c26 := hob2.cnt
      have f26 := hob2.frozen 26
      have hob3 : PObj (w2.setCell ⟨g, 26, none⟩ (.int .i64 ((N : Int) + (t : Int)))) g [r0, r1, r2, r3, r4] [t0, t1, t2, t3, t4] (rest.take N ++ (r.take t ++ rest.drop (N + t))) (N + t) := by
        have h1 := hob2.count (N + t)
        rwa [Int.natCast_add] at h1
      have hb3 : But g wr (w2.setCell ⟨g, 26, none⟩ (.int .i64 ((N : Int) + (t : Int)))) := hb2.set _
      have hlr2 : Hid ((l' ++ r.take t) ++ r.drop t = l ++ m) := by
        show _ = _
        rw [List.append_assoc, List.take_append_drop]; exact hlr.out
      have hrl : Hid ((r.drop t).length = n' - t) := by
        show _ = _
        rw [List.length_drop, hr.out]
      by_cases hz : N + t = 16
      · have hzb : (((N : Int) + (t : Int)) == 16) = true := by simp; omega
        have hfin : ∀ u0 u1 u2 u3 u4 w', PObj w' g [r0, r1, r2, r3, r4] [u0, u1, u2, u3, u4] (rest.take N ++ (r.take t ++ rest.drop (N + t))) 0 → nv u0 u1 u2 u3 u4 % PP = (nv t0 t1 t2 t3 t4 + (ln (rest.take N ++ (r.take t ++ rest.drop (N + t))) + 340282366920938463463374607431768211456 * 1)) * nv r0 r1 r2 r3 r4 % PP →
            (u0 < 67108870 ∧ u1 < 67108864 ∧ u2 < 67108864 ∧ u3 < 67108864 ∧ u4 < 67108864) → SumP w' g r0 r1 r2 r3 r4 (l' ++ r.take t) := by
          intro u0 u1 u2 u3 u4 w' h1 h2 h3
          have hp := p_whole (l := l') (x := r.take t) (rest := rest) (r := nv r0 r1 r2 r3 r4) (t := nv t0 t1 t2 t3 t4) (T := nv u0 u1 u2 u3 u4) HRL.out (by rw [← HN.out]; exact htk.out) (by rw [← HN.out, HXL.out]; exact hz) hval.out (by rw [← HN.out, HXL.out]; exact h2)
          refine ⟨u0, u1, u2, u3, u4, _, by rw [hp.1]; exact h1, h3, vlt hp.2.1, show _ = _ from ?_⟩
          rw [hp.1, hp.2.2, List.take_zero]
        have HFIN := Lib.hid hfin
        clear hfin hval htk hsum0
        go_wp2_with fail
        refine (pmix_any _ g r0 r1 r2 r3 r4 t0 t1 t2 t3 t4 _ (N + t) 1 hob3 HR.out hts (Nat.le_refl _)).mono ?_
        rintro e w4 ⟨rfl, ⟨u0, u1, u2, u3, u4, hob4, hu, lu⟩, hb4⟩
        have c26' := hob4.cnt
        have f26' := hob4.frozen 26
        have hsum5 : SumP (w4.setCell ⟨g, 26, none⟩ (.int .i64 0)) g r0 r1 r2 r3 r4 (l' ++ r.take t) := HFIN.out u0 u1 u2 u3 u4 _ (hob4.count 0) hu.out lu
        have hb5 : But g w2 (w4.setCell ⟨g, 26, none⟩ (.int .i64 0)) := (((But.refl g w2).set _).trans hb4).set _
        have hsrc5 := hsrc2.but hb5
        have hbut5 : But g w (w4.setCell ⟨g, 26, none⟩ (.int .i64 0)) := (hbut.trans hb2).trans hb5
        clear hob3 hob2 hob4 hb3 hb4 hu HFIN
        go_wp2
        exact ⟨⟨_, _, A2, n' - t, c' - t, rfl, hrl, by omega, by omega, hlr2, hsum5, hsrc5, hbut5⟩, by simp [lenOfP]; omega⟩
      · have hzb : (((N : Int) + (t : Int)) == 16) = false := by simp; omega
        have hp := p_more (l := l') (x := r.take t) (rest := rest) (r := nv r0 r1 r2 r3 r4) HRL.out (by rw [← HN.out]; exact htk.out) (by rw [← HN.out, HXL.out]; omega)
        rw [← HN.out, HXL.out] at hp
        have hsum3 : SumP (w2.setCell ⟨g, 26, none⟩ (.int .i64 ((N : Int) + (t : Int)))) g r0 r1 r2 r3 r4 (l' ++ r.take t) := by
          refine ⟨t0, t1, t2, t3, t4, _, by rw [hp.1]; exact hob3, hts, vlt (by rw [hp.2.1]; exact hval.out), show _ = _ from ?_⟩
          exact hp.2.2
        have hsrc3 := hsrc2.but ((But.refl g w2).set (i := 26) (.int .i64 ((N : Int) + (t : Int))))
        clear hp hval htk hob2 hob3 hsum0
        go_wp2
        exact ⟨⟨_, _, A2, n' - t, c' - t, rfl, hrl, by omega, by omega, hlr2, hsum3, hsrc3, hbut.trans hb3⟩, by simp [lenOfP]; omega⟩
    · have hr0 : r = [] := List.eq_nil_of_length_eq_zero (by rw [hr.out]; omega)
      have hl0 : l' = l ++ m := by rw [← hlr.out, hr0, List.append_nil]
      have hsumf : SumP wr g r0 r1 r2 r3 r4 (l ++ m) := by rw [← hl0]; exact hsum0.out
      have hn0 : n' = 0 := by omega
      subst hn0
      clear hl0 hr0 hval htk hob hsum0
      go_wp2
      go_end0
      exact ⟨rfl, hsumf, hbut⟩
end Go.Proofs.Ytkeejkhapmcanaa
namespace Go.Proofs.Ytkeejkhapmcanaa
open Go.RowKit

theorem zeroCells_one (v : Value) (n : Nat) : (Builtin.zeroCells #[v] n).toList = List.replicate n v := by
  apply List.ext_getElem
  · simp [Builtin.zeroCells]
  · intro i h1 h2
    simp [Builtin.zeroCells, Nat.mod_one]
/-- clear of a piece of a block that is known whole, as one step of a region that draws its order. -/
theorem step_clear {P : Program} {ops : Array Oper} {o : Oper} {a : Act} {w : World} {K : Act → World → Prop} {Q : Exit → Act → World → Prop} {E : Prop} (hgd : o.guard = none) (x : Operand) (T : TypeId)
    (ho : o.op = .call { callee := .builtin .clear, args := #[x], argTypes := #[T] }) (elem : TypeId) (hu : P.underlying T = some (.slice elem)) (hz : ∀ w, (zeroValue elem).run P w = .ok (.int .u8 0) w)
    (g off n c : Nat) (hx : a.eval x = .slice (some ⟨g, off, none⟩) n c) (hn : 0 < n) (cur : List Value) (t : TypeId) (hg : w.heap[g]? = some (.cells cur.toArray t (0, 0))) (hfit : off + n ≤ cur.length) (w0 : World) (hb : But g w0 w)
    (h : ∀ w', Hid (w'.heap[g]? = some (.cells (splice cur off (bv (List.replicate n 0))).toArray t (0, 0))) → But g w0 w' → K (a.put o.dst (.tuple #[])) w') :
    if Region.wanted o (yielded ops a.tmps) = true then Oper.wp P o a w K Q else E := by
  have hw : Region.wanted o (yielded ops a.tmps) = true := by simp [Region.wanted, hgd]
  rw [if_pos hw]
  obtain ⟨m, rfl⟩ : ∃ m, n = m + 1 := ⟨n - 1, by omega⟩
  have hst := run_storeCells_at P g off t (bv (List.replicate (m + 1) 0)) 0 cur.toArray w hg (by simp [bv_len]; omega) (bv_one _)
  have hcl : (Value.int .u8 0).cells = #[Value.int .u8 0] := rfl
  have hzc : (Builtin.zeroCells (Value.int .u8 0).cells (m + 1)).toList = bv (List.replicate (m + 1) 0) := by rw [hcl, zeroCells_one, bv_rep]
  unfold Oper.wp
  simp [execOp, ho, resolve, invoke, builtin, hx, Builtin.clear_, run_underlying hu, hz, hzc, hst, Result.andThen]
  exact h _ (show _ = _ by simpa [splice] using setRow_heap w g _ _ t _ hg) (hb.row _)
theorem cut_end {P : Program} {t e n : Nat} (hu : P.underlying t = some (.array n e)) (hs : (P.info? e).map (·.size) = some 1) (g o : Nat) : ∃ A, ∀ w, (Instr.sliceAt t (.pointer (some ⟨g, o, none⟩)) (some (.int .i64 (n : Int))) none none).run P w = .ok (.slice A 0 0) w := by
  obtain ⟨i, hi', hi2⟩ := Option.map_eq_some_iff.1 hs
  have ht : P.underlying t = some (.array (P.arrayLen t) (P.elem t)) := by simp [Program.arrayLen, Program.elem, hu]
  have hn : P.arrayLen t = n := by simp [Program.arrayLen, hu]
  have he : P.elem t = e := by simp [Program.elem, hu]
  refine ⟨some ⟨g, o, none⟩, fun w => ?_⟩
  rw [run_sliceAt_array_l w t _ ht .i64 _ (by omega) (by omega), hn, he]
  simp [sizeOf, typeInfo, hi', hi2, slicedAt]
theorem step_clear_none {P : Program} {ops : Array Oper} {o : Oper} {a : Act} {w : World} {K : Act → World → Prop} {Q : Exit → Act → World → Prop} {E : Prop} (hgd : o.guard = none) (x : Operand) (T : TypeId)
    (ho : o.op = .call { callee := .builtin .clear, args := #[x], argTypes := #[T] }) (elem : TypeId) (hu : P.underlying T = some (.slice elem)) (A : Option Addr) (c : Nat) (hx : a.eval x = .slice A 0 c) (h : K (a.put o.dst (.tuple #[])) w) :
    if Region.wanted o (yielded ops a.tmps) = true then Oper.wp P o a w K Q else E := by
  have hw : Region.wanted o (yielded ops a.tmps) = true := by simp [Region.wanted, hgd]
  rw [if_pos hw]
  unfold Oper.wp
  cases A <;> simp [execOp, ho, resolve, invoke, builtin, hx, Builtin.clear_, run_underlying hu] <;> exact h
theorem zero_byte (w : World) : (zeroValue 5).run Try.prog w = .ok (.int .u8 0) w := by kernel_rfl
theorem ln_app (a b : List UInt8) : ln (a ++ b) = ln a + 256 ^ a.length * ln b := by
  have h := ln_split (a ++ b) a.length (by simp)
  rw [List.take_left, List.drop_left] at h
  exact h.symm
theorem ln_zeros (n : Nat) : ln (List.replicate n 0) = 0 := by
  induction n with
  | zero => rfl
  | succ n ih => rw [List.replicate_succ, ln, ih]; rfl
/-- The last block, with its bit and noughts behind it. -/
def lastB (rest : List UInt8) (N : Nat) : List UInt8 := (rest.set N 1).take (N + 1) ++ (List.replicate (15 - N) 0 ++ (rest.set N 1).drop (N + 1 + (15 - N)))
theorem lastB_len (rest : List UInt8) (N : Nat) (h : rest.length = 16) (hN : N < 16) : (lastB rest N).length = 16 := by simp [lastB, h]; omega
theorem lastB_ln (rest : List UInt8) (N : Nat) (h : rest.length = 16) (hN : N < 16) : ln (lastB rest N) = ln (rest.take N) + 256 ^ N := by
  have e : lastB rest N = rest.take N ++ (1 :: List.replicate (15 - N) 0) := by
    rw [lastB, List.drop_eq_nil_of_le (by rw [List.length_set]; omega), List.append_nil, List.take_set, List.take_succ_eq_append_getElem (by omega), List.set_append_right _ _ (by simp; omega)]
    have e2 : N - (rest.take N).length = 0 := by simp; omega
    rw [e2, List.set_cons_zero, List.append_assoc]
    rfl
  rw [e, ln_app, ln, ln_zeros, List.length_take, show min N rest.length = N by omega]
  simp
theorem p_last {l rest : List UInt8} {r t T : Nat} (hr : rest.length = 16) (hN : 0 < l.length % 16) (htk : rest.take (l.length % 16) = l.drop (16 * (l.length / 16))) (ht : t % PP = accR r l (l.length / 16))
    (hT : T % PP = (t + (ln (lastB rest (l.length % 16)) + 340282366920938463463374607431768211456 * 0)) * r % PP) : T % PP = polyOf r l := by
  have e1 : (l.length + 15) / 16 = l.length / 16 + 1 := by omega
  have e2 : blkAt l (l.length / 16) = rest.take (l.length % 16) := by
    rw [blkAt, htk, List.take_of_length_le (by simp; omega)]
  have e3 : (rest.take (l.length % 16)).length = l.length % 16 := by simp; omega
  rw [hT, polyOf, e1, accR, e2, e3, lastB_ln rest _ hr (by omega), acc_mod, ht]
  rfl
theorem p_none {l : List UInt8} {r : Nat} (hN : l.length % 16 = 0) : polyOf r l = accR r l (l.length / 16) := by
  rw [polyOf, show (l.length + 15) / 16 = l.length / 16 by omega]

set_option maxRecDepth 100000 in
set_option maxHeartbeats 1000000 in
/-- The sum's end: what has been mixed is told. -/
theorem ptag_any (w : World) (g r0 r1 r2 r3 r4 b0 b1 b2 b3 b4 : Nat) (l : List UInt8) (hS : SumP w g r0 r1 r2 r3 r4 l) (hr : r0 < 67108864 ∧ r1 < 67108864 ∧ r2 < 67108864 ∧ r3 < 67108864 ∧ r4 < 67108864) (hb : b0 < 67108864 ∧ b1 < 67108864 ∧ b2 < 67108864 ∧ b3 < 67108864 ∧ b4 < 67108864) :
    Calls Try.prog 48 #[.pointer (some ⟨g, 0, none⟩), .agg (u64v [b0, b1, b2, b3, b4]).toArray] w fun e w' =>
      e = .returned (.agg (bv (le ((polyOf (nv r0 r1 r2 r3 r4) l + nv b0 b1 b2 b3 b4) % 340282366920938463463374607431768211456) 16)).toArray) ∧ But g w w' := by
  have hz16 := zero_b16
  obtain ⟨out, hout⟩ : ∃ out, out = le ((polyOf (nv r0 r1 r2 r3 r4) l + nv b0 b1 b2 b3 b4) % 340282366920938463463374607431768211456) 16 := ⟨_, rfl⟩
  rw [← hout]
  have HOUT := vlt hout
  have HR := Lib.hid hr
  have HB := Lib.hid hb
  clear hout hr hb
  have hgl := hS.lt
  obtain ⟨W, hW, hgB, hgZ, hbW, hsW⟩ := pair_new w (u64v [b0, b1, b2, b3, b4]).toArray (bv z16).toArray 74 45
  have hs1 : w.heap.size + 1 < W.heap.size := by have := hsW.out; omega
  have hSW := hS.below hgl hbW
  have HW := Lib.hid hW
  clear hW hS
  obtain ⟨t0, t1, t2, t3, t4, rest, hob, hts, hval, htk⟩ := hSW
  obtain ⟨N, hN⟩ : ∃ N, N = l.length % 16 := ⟨_, rfl⟩
  have hN16 : N < 16 := by omega
  rw [← hN] at hob htk
  have HN := Lib.hid hN
  have HRL := Lib.hid hob.2.2.2
  have c26 := hob.cnt
  clear hN
  by_cases h0 : 0 < N
  · have hNi : (N : Int) < 16 := by omega
    have f26 := hob.frozen (10 + N)
    obtain ⟨x, cN⟩ : ∃ x : UInt8, W.cell? ⟨g, 10 + N, none⟩ = some (.int .u8 (x.toNat : Int)) := by
      have h1 := hob.wait N (.int .u8 (((rest[N]'(by rw [HRL.out]; exact hN16)).toNat : Nat) : Int)) (by rw [bv_at, List.getElem?_eq_getElem (by rw [HRL.out]; exact hN16)]; rfl)
      exact ⟨_, h1⟩
    have hob2 := hob.byte N 1 hN16
    rw [show (((1 : UInt8).toNat : Nat) : Int) = 1 from rfl] at hob2
    go_enter Try.func48, Try.ntmps48
    go_upto_region 1 with fail
    rw [HW.out]
    go_wp2_with fail
    go_region
    have hob2' : PObj (W.setCell ⟨g, 10 + N, none⟩ (.int .u8 1)).drew g [r0, r1, r2, r3, r4] [t0, t1, t2, t3, t4] (rest.set N 1) N := hob2
    have hb2 : But g W (W.setCell ⟨g, 10 + N, none⟩ (.int .u8 1)).drew := ((But.refl g W).set _).drew
    generalize (W.setCell ⟨g, 10 + N, none⟩ (.int .u8 1)).drew = w2 at *
    have c26' := hob2'.cnt
    clear cN f26 hob2 hob c26
    go_wp2
    by_cases h15 : N = 15
    · obtain ⟨AE, hcut⟩ := cut_end Try.underlying45 Try.sizeByte g 10
      have hcut16 : ∀ w, (Instr.sliceAt 45 (.pointer (some ⟨g, 10, none⟩)) (some (.int .i64 16)) none none).run Try.prog w = .ok (.slice AE 0 0) w := hcut
      have hw16 : IntKind.i64.wrap ((N : Int) + 1) = 16 := by rw [IntWalk.i64_in _ (by omega)]; omega
      have hl15 : lastB rest N = rest.set N 1 := by
        rw [lastB, h15, List.take_of_length_le (by rw [List.length_set, HRL.out]; decide), List.drop_eq_nil_of_le (by rw [List.length_set, HRL.out]; decide)]
        simp
      have HL15 := Lib.hid hl15
      clear hl15 hcut h15
      go_region_law ((refine step_clear_none rfl (.tmp 26) 26 rfl 5 Try.underlying26 AE 0 (by rfl) ?_))
      have hob3 : PObj w2.drew g [r0, r1, r2, r3, r4] [t0, t1, t2, t3, t4] (lastB rest N) N := by rw [HL15.out]; exact hob2'
      have hb3 : But g W w2.drew := hb2.drew
      clear hcut16 hw16
      generalize w2.drew = w3 at *
      have hfin : ∀ u0 u1 u2 u3 u4 : Nat, nv u0 u1 u2 u3 u4 % PP = (nv t0 t1 t2 t3 t4 + (ln (lastB rest N) + 340282366920938463463374607431768211456 * 0)) * nv r0 r1 r2 r3 r4 % PP → nv u0 u1 u2 u3 u4 % PP = polyOf (nv r0 r1 r2 r3 r4) l := by
        intro u0 u1 u2 u3 u4 h2
        exact p_last (rest := rest) HRL.out (by rw [← HN.out]; exact h0) (by rw [← HN.out]; exact htk.out) hval.out (by rw [← HN.out]; exact h2)
      have HFIN := Lib.hid hfin
      clear hfin hval htk
      go_wp2_with fail
      refine (pmix_any w3 g r0 r1 r2 r3 r4 t0 t1 t2 t3 t4 _ N 0 hob3 HR.out hts (Nat.zero_le _)).mono ?_
      rintro e V ⟨rfl, ⟨u0, u1, u2, u3, u4, VO, hu, VL⟩, hb4⟩
      have VV := vlt (HFIN.out u0 u1 u2 u3 u4 hu.out)
      have VB : But g W V := hb3.trans hb4
      clear HFIN hu hob3 hob2' hb2 hb3 hb4 hts
      have hgV := VO.lt
      have hzV : Hid (V.heap[w.heap.size + 1]? = some (.cells (bv z16).toArray 45 (0, 0))) := (VB.block _ (by omega) (by intro e; injection e; omega)).trans hgZ.out
      have hbV : Hid (V.heap[w.heap.size]? = some (.cells (u64v [b0, b1, b2, b3, b4]).toArray 74 (0, 0))) := (VB.block _ (by omega) (by intro e; injection e; omega)).trans hgB.out
      have HTT := Lib.hid VO.total
      have HBB := Lib.hid (range_part [] (u64v [b0, b1, b2, b3, b4]) [] (by rw [List.append_nil]; exact hbV.out) 0 rfl)
      have hVs := VB.size
      have htold := told_any V.drew u0 u1 u2 u3 u4 b0 b1 b2 b3 b4 VL HB.out
      rw [VV.out, ← HOUT.out] at htold
      have HOS := Lib.hid (show (bv out).toArray.size = 16 by simp [bv_len, HOUT.out, le_len])
      have HZ16 := Lib.hid (show (bv z16).toArray.size = 16 from rfl)
      go_wp2_with fail
      refine c_start (S := (fun W' => Below V.heap.size V W' ∧ W'.rangeAt g 5 (u64v [u0, u1, u2, u3, u4]) ∧ W'.rangeAt w.heap.size 0 (u64v [b0, b1, b2, b3, b4]))) 6 (by kernel_rfl) (⟨(Below.refl _ _).drew, HTT.out, HBB.out⟩) (fun hHeld => ?_)
      refine c_take (i := 0) (oi := ⟨(some 29), _, _, _, _, _⟩) (v := ?vq1_0) rfl (by decide) (by kernel_rfl) (by kernel_rfl) (by kernel_rfl) (fun _ _ _ h => h) (Or.inl ⟨by rfl, ?yq1_0⟩) hHeld ?_
      case yq1_0 => (intro W0 hSw; go_simp; try with_reducible rfl)
      try simp only [Act.put, List.setIfInBounds_toArray, List.set_cons_zero, List.set_cons_succ]
      refine c_take (i := 1) (oi := ⟨(some 30), _, _, _, _, _⟩) (v := ?vq1_1) rfl (by decide) (by kernel_rfl) (by kernel_rfl) (by kernel_rfl) (fun _ _ _ h => h) (Or.inl ⟨by rfl, ?yq1_1⟩) hHeld ?_
      case yq1_1 => (intro W0 hSw; go_simp; try with_reducible rfl)
      try simp only [Act.put, List.setIfInBounds_toArray, List.set_cons_zero, List.set_cons_succ]
      refine c_take (i := 2) (oi := ⟨(some 31), _, _, _, _, _⟩) (v := ?vq1_2) rfl (by decide) (by kernel_rfl) (by kernel_rfl) (by kernel_rfl) (fun _ _ _ h => h) (Or.inl ⟨by rfl, ?yq1_2⟩) hHeld ?_
      case yq1_2 => (intro W0 hSw; go_simp; try with_reducible rfl)
      try simp only [Act.put, List.setIfInBounds_toArray, List.set_cons_zero, List.set_cons_succ]
      refine c_read (i := 3) (oi := ⟨(some 32), _, _, _, _, _⟩) (v := _) rfl (by decide) (by kernel_rfl) (by kernel_rfl) (by kernel_rfl) (by kernel_rfl) (by kernel_rfl) (fun _ _ _ h => h) (yieldsIf_load_mid (by rfl) _ _ rfl g 5 rfl (u64v [u0, u1, u2, u3, u4]) _ ((fun _ h => h.2.1)) (Try.underlying74) (rfl) (by kernel_rfl)) hHeld ?_
      try simp only [Act.put, List.setIfInBounds_toArray, List.set_cons_zero, List.set_cons_succ]
      refine c_read (i := 4) (oi := ⟨(some 33), _, _, _, _, _⟩) (v := _) rfl (by decide) (by kernel_rfl) (by kernel_rfl) (by kernel_rfl) (by kernel_rfl) (by kernel_rfl) (fun _ _ _ h => h) (yieldsIf_load_mid (by rfl) _ _ rfl w.heap.size 0 rfl (u64v [b0, b1, b2, b3, b4]) _ ((fun _ h => h.2.2)) (Try.underlying74) (rfl) (by kernel_rfl)) hHeld ?_
      try simp only [Act.put, List.setIfInBounds_toArray, List.set_cons_zero, List.set_cons_succ]
      refine c_step (i := 5) (o := ⟨(some 34), _, _, _, _, _⟩) (by kernel_rfl) rfl (fun K hK => ?_)
      go_simp
      refine htold.mono ?_
      rintro e w8 ⟨rfl, hb8⟩
      have hb8' : Below V.heap.size V w8 := below_undrew hb8
      refine hK.out _ _ (⟨hb8', range_below HTT.out hgV hb8', range_below HBB.out (by omega) hb8'⟩) (fun hHeld => ?_)
      clear hK K
      try simp only [Act.put, List.setIfInBounds_toArray, List.set_cons_zero, List.set_cons_succ]
      have hz8 : Hid (w8.heap[w.heap.size + 1]? = some (.cells (bv z16).toArray 45 (0, 0))) := (hb8'.block _ (by omega)).trans hzV.out
      refine c_call (S' := (fun _ => True)) (o := ⟨none, _, _, _, _, _⟩) (by kernel_rfl) (by kernel_rfl) rfl (fun K hK => ?_)
      clear hHeld
      refine step_store_row rfl 45 (.tmp 4) (.tmp 34) rfl (w.heap.size + 1) (bv out).toArray (by rfl) (by rfl) 45 _ hz8.out (by rw [HOS.out]; kernel_rfl) (by rw [HOS.out]; exact HZ16.out) (all_oneCell_toArray (bv_one _)) ?_
      refine hK.out _ _ (trivial) (fun hHeld => ?_)
      clear hK K
      try simp only [Act.put]
      refine wpAnyH_done (by kernel_rfl) ?_ _
      have hbfin : But g w (w8.setRow (w.heap.size + 1) (bv out).toArray) := by
        have h1 : But g w w8 := ((But.of_below hbW (Nat.le_refl _)).trans VB).trans (But.of_below hb8' (Nat.le_refl _))
        exact ⟨h1.os, h1.tape, h1.output, by have := h1.size; simpa [World.setRow] using this, fun k hk hn => (setRow_other w8 _ k _ (by omega)).trans (h1.block k hk hn)⟩
      go_wp2
      refine bodyPost_ret (v := .agg (bv out).toArray) (results_cell_row Try.results48 _ _ (w.heap.size + 1) 45 _ (0, 0) _ rfl (setRow_heap _ _ _ _ _ _ hz8.out) Try.underlying45 rfl (by rw [HOS.out]; kernel_rfl)) rfl ⟨rfl, hbfin⟩
    · have hcut := cut_l Try.underlying45 Try.sizeByte g 10 (N + 1) ((N : Int) + 1) (by omega) (by omega)
      have hw1 : IntKind.i64.wrap ((N : Int) + 1) = (N : Int) + 1 := IntWalk.i64_in _ (by omega)
      go_region_law ((refine step_clear rfl (.tmp 26) 26 rfl 5 Try.underlying26 zero_byte g (10 + (N + 1)) (15 - N) (15 - N) (by rfl) (by omega) (sumP [r0, r1, r2, r3, r4] [t0, t1, t2, t3, t4] (rest.set N 1) N) 77 hob2'.1 (by rw [sumP_len rfl rfl hob2'.2.2.2]; omega) w2 (But.refl g w2).drew ?_; intro w3 hg3 hb3'))
      have hob3 : PObj w3 g [r0, r1, r2, r3, r4] [t0, t1, t2, t3, t4] (lastB rest N) N := by
        have h1 := hg3.out
        rw [sumP_rest rfl rfl (N + 1) (List.replicate (15 - N) 0) hob2'.2.2.2 (by simp; omega), List.length_replicate] at h1
        exact ⟨h1, rfl, rfl, lastB_len rest N HRL.out hN16⟩
      have hb3 : But g W w3 := hb2.trans hb3'
      clear hcut hg3 hb3' hw1
      have hfin : ∀ u0 u1 u2 u3 u4 : Nat, nv u0 u1 u2 u3 u4 % PP = (nv t0 t1 t2 t3 t4 + (ln (lastB rest N) + 340282366920938463463374607431768211456 * 0)) * nv r0 r1 r2 r3 r4 % PP → nv u0 u1 u2 u3 u4 % PP = polyOf (nv r0 r1 r2 r3 r4) l := by
        intro u0 u1 u2 u3 u4 h2
        exact p_last (rest := rest) HRL.out (by rw [← HN.out]; exact h0) (by rw [← HN.out]; exact htk.out) hval.out (by rw [← HN.out]; exact h2)
      have HFIN := Lib.hid hfin
      clear hfin hval htk
      go_wp2_with fail
      refine (pmix_any w3 g r0 r1 r2 r3 r4 t0 t1 t2 t3 t4 _ N 0 hob3 HR.out hts (Nat.zero_le _)).mono ?_
      rintro e V ⟨rfl, ⟨u0, u1, u2, u3, u4, VO, hu, VL⟩, hb4⟩
      have VV := vlt (HFIN.out u0 u1 u2 u3 u4 hu.out)
      have VB : But g W V := hb3.trans hb4
      clear HFIN hu hob3 hob2' hb2 hb3 hb4 hts
      have hgV := VO.lt
      have hzV : Hid (V.heap[w.heap.size + 1]? = some (.cells (bv z16).toArray 45 (0, 0))) := (VB.block _ (by omega) (by intro e; injection e; omega)).trans hgZ.out
      have hbV : Hid (V.heap[w.heap.size]? = some (.cells (u64v [b0, b1, b2, b3, b4]).toArray 74 (0, 0))) := (VB.block _ (by omega) (by intro e; injection e; omega)).trans hgB.out
      have HTT := Lib.hid VO.total
      have HBB := Lib.hid (range_part [] (u64v [b0, b1, b2, b3, b4]) [] (by rw [List.append_nil]; exact hbV.out) 0 rfl)
      have hVs := VB.size
      have htold := told_any V.drew u0 u1 u2 u3 u4 b0 b1 b2 b3 b4 VL HB.out
      rw [VV.out, ← HOUT.out] at htold
      have HOS := Lib.hid (show (bv out).toArray.size = 16 by simp [bv_len, HOUT.out, le_len])
      have HZ16 := Lib.hid (show (bv z16).toArray.size = 16 from rfl)
      go_wp2_with fail
      refine c_start (S := (fun W' => Below V.heap.size V W' ∧ W'.rangeAt g 5 (u64v [u0, u1, u2, u3, u4]) ∧ W'.rangeAt w.heap.size 0 (u64v [b0, b1, b2, b3, b4]))) 6 (by kernel_rfl) (⟨(Below.refl _ _).drew, HTT.out, HBB.out⟩) (fun hHeld => ?_)
      refine c_take (i := 0) (oi := ⟨(some 29), _, _, _, _, _⟩) (v := ?vq2_0) rfl (by decide) (by kernel_rfl) (by kernel_rfl) (by kernel_rfl) (fun _ _ _ h => h) (Or.inl ⟨by rfl, ?yq2_0⟩) hHeld ?_
      case yq2_0 => (intro W0 hSw; go_simp; try with_reducible rfl)
      try simp only [Act.put, List.setIfInBounds_toArray, List.set_cons_zero, List.set_cons_succ]
      refine c_take (i := 1) (oi := ⟨(some 30), _, _, _, _, _⟩) (v := ?vq2_1) rfl (by decide) (by kernel_rfl) (by kernel_rfl) (by kernel_rfl) (fun _ _ _ h => h) (Or.inl ⟨by rfl, ?yq2_1⟩) hHeld ?_
      case yq2_1 => (intro W0 hSw; go_simp; try with_reducible rfl)
      try simp only [Act.put, List.setIfInBounds_toArray, List.set_cons_zero, List.set_cons_succ]
      refine c_take (i := 2) (oi := ⟨(some 31), _, _, _, _, _⟩) (v := ?vq2_2) rfl (by decide) (by kernel_rfl) (by kernel_rfl) (by kernel_rfl) (fun _ _ _ h => h) (Or.inl ⟨by rfl, ?yq2_2⟩) hHeld ?_
      case yq2_2 => (intro W0 hSw; go_simp; try with_reducible rfl)
      try simp only [Act.put, List.setIfInBounds_toArray, List.set_cons_zero, List.set_cons_succ]
      refine c_read (i := 3) (oi := ⟨(some 32), _, _, _, _, _⟩) (v := _) rfl (by decide) (by kernel_rfl) (by kernel_rfl) (by kernel_rfl) (by kernel_rfl) (by kernel_rfl) (fun _ _ _ h => h) (yieldsIf_load_mid (by rfl) _ _ rfl g 5 rfl (u64v [u0, u1, u2, u3, u4]) _ ((fun _ h => h.2.1)) (Try.underlying74) (rfl) (by kernel_rfl)) hHeld ?_
      try simp only [Act.put, List.setIfInBounds_toArray, List.set_cons_zero, List.set_cons_succ]
      refine c_read (i := 4) (oi := ⟨(some 33), _, _, _, _, _⟩) (v := _) rfl (by decide) (by kernel_rfl) (by kernel_rfl) (by kernel_rfl) (by kernel_rfl) (by kernel_rfl) (fun _ _ _ h => h) (yieldsIf_load_mid (by rfl) _ _ rfl w.heap.size 0 rfl (u64v [b0, b1, b2, b3, b4]) _ ((fun _ h => h.2.2)) (Try.underlying74) (rfl) (by kernel_rfl)) hHeld ?_
      try simp only [Act.put, List.setIfInBounds_toArray, List.set_cons_zero, List.set_cons_succ]
      refine c_step (i := 5) (o := ⟨(some 34), _, _, _, _, _⟩) (by kernel_rfl) rfl (fun K hK => ?_)
      go_simp
      refine htold.mono ?_
      rintro e w8 ⟨rfl, hb8⟩
      have hb8' : Below V.heap.size V w8 := below_undrew hb8
      refine hK.out _ _ (⟨hb8', range_below HTT.out hgV hb8', range_below HBB.out (by omega) hb8'⟩) (fun hHeld => ?_)
      clear hK K
      try simp only [Act.put, List.setIfInBounds_toArray, List.set_cons_zero, List.set_cons_succ]
      have hz8 : Hid (w8.heap[w.heap.size + 1]? = some (.cells (bv z16).toArray 45 (0, 0))) := (hb8'.block _ (by omega)).trans hzV.out
      refine c_call (S' := (fun _ => True)) (o := ⟨none, _, _, _, _, _⟩) (by kernel_rfl) (by kernel_rfl) rfl (fun K hK => ?_)
      clear hHeld
      refine step_store_row rfl 45 (.tmp 4) (.tmp 34) rfl (w.heap.size + 1) (bv out).toArray (by rfl) (by rfl) 45 _ hz8.out (by rw [HOS.out]; kernel_rfl) (by rw [HOS.out]; exact HZ16.out) (all_oneCell_toArray (bv_one _)) ?_
      refine hK.out _ _ (trivial) (fun hHeld => ?_)
      clear hK K
      try simp only [Act.put]
      refine wpAnyH_done (by kernel_rfl) ?_ _
      have hbfin : But g w (w8.setRow (w.heap.size + 1) (bv out).toArray) := by
        have h1 : But g w w8 := ((But.of_below hbW (Nat.le_refl _)).trans VB).trans (But.of_below hb8' (Nat.le_refl _))
        exact ⟨h1.os, h1.tape, h1.output, by have := h1.size; simpa [World.setRow] using this, fun k hk hn => (setRow_other w8 _ k _ (by omega)).trans (h1.block k hk hn)⟩
      go_wp2
      refine bodyPost_ret (v := .agg (bv out).toArray) (results_cell_row Try.results48 _ _ (w.heap.size + 1) 45 _ (0, 0) _ rfl (setRow_heap _ _ _ _ _ _ hz8.out) Try.underlying45 rfl (by rw [HOS.out]; kernel_rfl)) rfl ⟨rfl, hbfin⟩
  · have hN0 : N = 0 := by omega
    have WB : But g W W := But.refl g W
    have WV := vlt (show nv t0 t1 t2 t3 t4 % PP = polyOf (nv r0 r1 r2 r3 r4) l by rw [p_none (by rw [← HN.out]; exact hN0)]; exact hval.out)
    have WO := hob
    have WL := hts
    have hgt : ¬ (0 < (N : Int)) := by omega
    clear hval htk hob hts
    go_enter Try.func48, Try.ntmps48
    go_upto_region 1 with fail
    rw [HW.out]
    have hgV := WO.lt
    have hzV : Hid (W.heap[w.heap.size + 1]? = some (.cells (bv z16).toArray 45 (0, 0))) := (WB.block _ (by omega) (by intro e; injection e; omega)).trans hgZ.out
    have hbV : Hid (W.heap[w.heap.size]? = some (.cells (u64v [b0, b1, b2, b3, b4]).toArray 74 (0, 0))) := (WB.block _ (by omega) (by intro e; injection e; omega)).trans hgB.out
    have HTT := Lib.hid WO.total
    have HBB := Lib.hid (range_part [] (u64v [b0, b1, b2, b3, b4]) [] (by rw [List.append_nil]; exact hbV.out) 0 rfl)
    have hVs := WB.size
    have htold := told_any W.drew t0 t1 t2 t3 t4 b0 b1 b2 b3 b4 WL HB.out
    rw [WV.out, ← HOUT.out] at htold
    have HOS := Lib.hid (show (bv out).toArray.size = 16 by simp [bv_len, HOUT.out, le_len])
    have HZ16 := Lib.hid (show (bv z16).toArray.size = 16 from rfl)
    go_wp2_with fail
    refine c_start (S := (fun W' => Below W.heap.size W W' ∧ W'.rangeAt g 5 (u64v [t0, t1, t2, t3, t4]) ∧ W'.rangeAt w.heap.size 0 (u64v [b0, b1, b2, b3, b4]))) 6 (by kernel_rfl) (⟨(Below.refl _ _).drew, HTT.out, HBB.out⟩) (fun hHeld => ?_)
    refine c_take (i := 0) (oi := ⟨(some 29), _, _, _, _, _⟩) (v := ?vq3_0) rfl (by decide) (by kernel_rfl) (by kernel_rfl) (by kernel_rfl) (fun _ _ _ h => h) (Or.inl ⟨by rfl, ?yq3_0⟩) hHeld ?_
    case yq3_0 => (intro W0 hSw; go_simp; try with_reducible rfl)
    try simp only [Act.put, List.setIfInBounds_toArray, List.set_cons_zero, List.set_cons_succ]
    refine c_take (i := 1) (oi := ⟨(some 30), _, _, _, _, _⟩) (v := ?vq3_1) rfl (by decide) (by kernel_rfl) (by kernel_rfl) (by kernel_rfl) (fun _ _ _ h => h) (Or.inl ⟨by rfl, ?yq3_1⟩) hHeld ?_
    case yq3_1 => (intro W0 hSw; go_simp; try with_reducible rfl)
    try simp only [Act.put, List.setIfInBounds_toArray, List.set_cons_zero, List.set_cons_succ]
    refine c_take (i := 2) (oi := ⟨(some 31), _, _, _, _, _⟩) (v := ?vq3_2) rfl (by decide) (by kernel_rfl) (by kernel_rfl) (by kernel_rfl) (fun _ _ _ h => h) (Or.inl ⟨by rfl, ?yq3_2⟩) hHeld ?_
    case yq3_2 => (intro W0 hSw; go_simp; try with_reducible rfl)
    try simp only [Act.put, List.setIfInBounds_toArray, List.set_cons_zero, List.set_cons_succ]
    refine c_read (i := 3) (oi := ⟨(some 32), _, _, _, _, _⟩) (v := _) rfl (by decide) (by kernel_rfl) (by kernel_rfl) (by kernel_rfl) (by kernel_rfl) (by kernel_rfl) (fun _ _ _ h => h) (yieldsIf_load_mid (by rfl) _ _ rfl g 5 rfl (u64v [t0, t1, t2, t3, t4]) _ ((fun _ h => h.2.1)) (Try.underlying74) (rfl) (by kernel_rfl)) hHeld ?_
    try simp only [Act.put, List.setIfInBounds_toArray, List.set_cons_zero, List.set_cons_succ]
    refine c_read (i := 4) (oi := ⟨(some 33), _, _, _, _, _⟩) (v := _) rfl (by decide) (by kernel_rfl) (by kernel_rfl) (by kernel_rfl) (by kernel_rfl) (by kernel_rfl) (fun _ _ _ h => h) (yieldsIf_load_mid (by rfl) _ _ rfl w.heap.size 0 rfl (u64v [b0, b1, b2, b3, b4]) _ ((fun _ h => h.2.2)) (Try.underlying74) (rfl) (by kernel_rfl)) hHeld ?_
    try simp only [Act.put, List.setIfInBounds_toArray, List.set_cons_zero, List.set_cons_succ]
    refine c_step (i := 5) (o := ⟨(some 34), _, _, _, _, _⟩) (by kernel_rfl) rfl (fun K hK => ?_)
    go_simp
    refine htold.mono ?_
    rintro e w8 ⟨rfl, hb8⟩
    have hb8' : Below W.heap.size W w8 := below_undrew hb8
    refine hK.out _ _ (⟨hb8', range_below HTT.out hgV hb8', range_below HBB.out (by omega) hb8'⟩) (fun hHeld => ?_)
    clear hK K
    try simp only [Act.put, List.setIfInBounds_toArray, List.set_cons_zero, List.set_cons_succ]
    have hz8 : Hid (w8.heap[w.heap.size + 1]? = some (.cells (bv z16).toArray 45 (0, 0))) := (hb8'.block _ (by omega)).trans hzV.out
    refine c_call (S' := (fun _ => True)) (o := ⟨none, _, _, _, _, _⟩) (by kernel_rfl) (by kernel_rfl) rfl (fun K hK => ?_)
    clear hHeld
    refine step_store_row rfl 45 (.tmp 4) (.tmp 34) rfl (w.heap.size + 1) (bv out).toArray (by rfl) (by rfl) 45 _ hz8.out (by rw [HOS.out]; kernel_rfl) (by rw [HOS.out]; exact HZ16.out) (all_oneCell_toArray (bv_one _)) ?_
    refine hK.out _ _ (trivial) (fun hHeld => ?_)
    clear hK K
    try simp only [Act.put]
    refine wpAnyH_done (by kernel_rfl) ?_ _
    have hbfin : But g w (w8.setRow (w.heap.size + 1) (bv out).toArray) := by
      have h1 : But g w w8 := ((But.of_below hbW (Nat.le_refl _)).trans WB).trans (But.of_below hb8' (Nat.le_refl _))
      exact ⟨h1.os, h1.tape, h1.output, by have := h1.size; simpa [World.setRow] using this, fun k hk hn => (setRow_other w8 _ k _ (by omega)).trans (h1.block k hk hn)⟩
    go_wp2
    refine bodyPost_ret (v := .agg (bv out).toArray) (results_cell_row Try.results48 _ _ (w.heap.size + 1) 45 _ (0, 0) _ rfl (setRow_heap _ _ _ _ _ _ hz8.out) Try.underlying45 rfl (by rw [HOS.out]; kernel_rfl)) rfl ⟨rfl, hbfin⟩
end Go.Proofs.Ytkeejkhapmcanaa
namespace Go.Proofs.Ytkeejkhapmcanaa
open Go.RowKit

def byteAt (l : List UInt8) (k : Nat) : UInt8 := l.getD k 0
theorem byteAt_cell {w : World} {g : Nat} {l : List UInt8} {t : TypeId} (hg : w.heap[g]? = some (.cells (bv l).toArray t (0, 0))) (k : Nat) (hk : k < l.length) : w.cell? ⟨g, k, none⟩ = some (.int .u8 (((byteAt l k).toNat : Nat) : Int)) :=
  byte_cell hg (by simp [byteAt, List.getElem?_eq_getElem hk])
/-- The first k bytes of each kind clamped. -/
def cl1 (l : List UInt8) : Nat → List UInt8
  | 0 => l
  | k + 1 => (cl1 l k).set (3 + 4 * k) (byteAt (cl1 l k) (3 + 4 * k) &&& 15)
def cl2 (l : List UInt8) : Nat → List UInt8
  | 0 => l
  | k + 1 => (cl2 l k).set (4 + 4 * k) (byteAt (cl2 l k) (4 + 4 * k) &&& 252)
theorem cl1_len (l : List UInt8) : ∀ k, (cl1 l k).length = l.length
  | 0 => rfl
  | k + 1 => by rw [cl1, List.length_set, cl1_len l k]
theorem cl2_len (l : List UInt8) : ∀ k, (cl2 l k).length = l.length
  | 0 => rfl
  | k + 1 => by rw [cl2, List.length_set, cl2_len l k]
theorem list16 {l : List UInt8} (h : l.length = 16) : ∃ a b c d e f g h i j k m n o p q, l = [a, b, c, d, e, f, g, h, i, j, k, m, n, o, p, q] := by
  match l, h with
  | [a, b, c, d, e, f, g, h, i, j, k, m, n, o, p, q], _ => exact ⟨a, b, c, d, e, f, g, h, i, j, k, m, n, o, p, q, rfl⟩
theorem cl_both (l : List UInt8) (h : l.length = 16) : cl2 (cl1 l 4) 3 = clampOf l := by
  obtain ⟨a, b, c, d, e, f, g, h, i, j, k, m, n, o, p, q, rfl⟩ := list16 h
  simp [cl1, cl2, clampOf, clampB, byteAt]
theorem and15 (b : UInt8) : bits .and .u8 ((b.toNat : Nat) : Int) 15 = (((b &&& 15).toNat : Nat) : Int) := by
  have h := u8_and_nat b.toNat 15 (UInt8.toNat_lt _) (by decide)
  rw [UInt8.toNat_and]; exact h
theorem and252 (b : UInt8) : bits .and .u8 ((b.toNat : Nat) : Int) 252 = (((b &&& 252).toNat : Nat) : Int) := by
  have h := u8_and_nat b.toNat 252 (UInt8.toNat_lt _) (by decide)
  rw [UInt8.toNat_and]; exact h

set_option maxRecDepth 100000 in
set_option maxHeartbeats 1000000 in
theorem clamp_any (w : World) (l : List UInt8) (hl : l.length = 16) :
    Calls Try.prog 46 #[.agg (bv l).toArray] w fun e w' => e = .returned (.agg (bv (clampOf l)).toArray) ∧ Below w.heap.size w w' := by
  have hz16 := zero_b16
  obtain ⟨W, hW, hgA, hgZ, hbW, hsW⟩ := pair_new w (bv l).toArray (bv z16).toArray 45 45
  have HW := Lib.hid hW
  have HL := Lib.hid hl
  have hs1 : w.heap.size + 1 < W.heap.size := by have := hsW.out; omega
  clear hW hl
  go_enter Try.func46, Try.ntmps46
  go_upto_region 1 with fail
  rw [HW.out]
  go_wp2_with fail
  go_loopw [3] (fun i wr => ∃ k : Nat, k ≤ 4 ∧ i = .int .i64 (3 + 4 * (k : Int)) ∧ Hid (wr.heap[w.heap.size]? = some (.cells (bv (cl1 l k)).toArray 45 (0, 0))) ∧ But w.heap.size W wr) (fun i _ => 19 - (intOf i).toNat)
  case atStart => exact ⟨0, by omega, rfl, hgA, But.refl _ _⟩
  case round =>
    obtain ⟨k, hk, rfl, hg, hbt⟩ := hrel
    by_cases hlt : k < 4
    · obtain ⟨X, hX⟩ : ∃ X, X = cl1 l k := ⟨_, rfl⟩
      rw [← hX] at hg
      have HXL := Lib.hid (show X.length = 16 by rw [hX, cl1_len]; exact HL.out)
      have HX1 := vlt (show cl1 l (k + 1) = X.set (3 + 4 * k) (byteAt X (3 + 4 * k) &&& 15) by rw [hX, cl1])
      clear hX
      have hi16 : 3 + 4 * k < 16 := by omega
      have c0 := byteAt_cell hg.out (3 + 4 * k) (by rw [HXL.out]; exact hi16)
      have f0 : wr.frozen? ⟨w.heap.size, 3 + 4 * k, none⟩ = false := frozen_of_row _ _ _ _ _ hg.out
      generalize byteAt X (3 + 4 * k) = b at *
      have e1 := and15 b
      have hset : Hid ((wr.setCell ⟨w.heap.size, 3 + 4 * k, none⟩ (.int .u8 (((b &&& 15).toNat : Nat) : Int))).heap[w.heap.size]? = some (.cells (bv (cl1 l (k + 1))).toArray 45 (0, 0))) := by
        have h1 := (world_set_cell hg.out (3 + 4 * k) (.int .u8 (((b &&& 15).toNat : Nat) : Int))).out
        rw [bv_set, ← HX1.out] at h1
        exact h1
      have hb2 := hbt.set (i := 3 + 4 * k) (.int .u8 (((b &&& 15).toNat : Nat) : Int))
      have hb256 := UInt8.toNat_lt b
      generalize hy : (b &&& 15).toNat = y at *
      generalize hx : b.toNat = x at *
      clear hx hy
      go_wp2
      exact ⟨⟨k + 1, by omega, by go_num, hset, hb2⟩, by simp [intOf]; omega⟩
    · have hgf : Hid (wr.heap[w.heap.size]? = some (.cells (bv (cl2 (cl1 l 4) 0)).toArray 45 (0, 0))) := by
        have h1 := hg.out
        rw [show k = 4 by omega] at h1
        exact h1
      have HM := Lib.hid (show (cl1 l 4).length = 16 by rw [cl1_len]; exact HL.out)
      have HCL := vlt (cl_both l HL.out)
      generalize cl1 l 4 = M at *
      clear hg
      go_wp2
      go_loopw [4] (fun i wr => ∃ k : Nat, k ≤ 3 ∧ i = .int .i64 (4 + 4 * (k : Int)) ∧ Hid (wr.heap[w.heap.size]? = some (.cells (bv (cl2 M k)).toArray 45 (0, 0))) ∧ But w.heap.size W wr) (fun i _ => 19 - (intOf i).toNat)
      case atStart => exact ⟨0, by omega, rfl, hgf, hbt⟩
      case round =>
        clear hgf hbt
        obtain ⟨k, hk, rfl, hg, hbt⟩ := hrel
        by_cases hlt : k < 3
        · obtain ⟨X, hX⟩ : ∃ X, X = cl2 M k := ⟨_, rfl⟩
          rw [← hX] at hg
          have HXL := Lib.hid (show X.length = 16 by rw [hX, cl2_len]; exact HM.out)
          have HX1 := vlt (show cl2 M (k + 1) = X.set (4 + 4 * k) (byteAt X (4 + 4 * k) &&& 252) by rw [hX, cl2])
          clear hX
          have hi16 : 4 + 4 * k < 16 := by omega
          have c0 := byteAt_cell hg.out (4 + 4 * k) (by rw [HXL.out]; exact hi16)
          have f0 : wr.frozen? ⟨w.heap.size, 4 + 4 * k, none⟩ = false := frozen_of_row _ _ _ _ _ hg.out
          generalize byteAt X (4 + 4 * k) = b at *
          have e1 := and252 b
          have hset : Hid ((wr.setCell ⟨w.heap.size, 4 + 4 * k, none⟩ (.int .u8 (((b &&& 252).toNat : Nat) : Int))).heap[w.heap.size]? = some (.cells (bv (cl2 M (k + 1))).toArray 45 (0, 0))) := by
            have h1 := (world_set_cell hg.out (4 + 4 * k) (.int .u8 (((b &&& 252).toNat : Nat) : Int))).out
            rw [bv_set, ← HX1.out] at h1
            exact h1
          have hb2 := hbt.set (i := 4 + 4 * k) (.int .u8 (((b &&& 252).toNat : Nat) : Int))
          have hb256 := UInt8.toNat_lt b
          generalize hy : (b &&& 252).toNat = y at *
          generalize hx : b.toNat = x at *
          clear hx hy
          go_wp2
          exact ⟨⟨k + 1, by omega, by go_num, hset, hb2⟩, by simp [intOf]; omega⟩
        · obtain ⟨out, hout⟩ : ∃ out, out = clampOf l := ⟨_, rfl⟩
          have hg3 : Hid (wr.heap[w.heap.size]? = some (.cells (bv out).toArray 45 (0, 0))) := by
            have h1 := hg.out
            rw [show k = 3 by omega, HCL.out, ← hout] at h1
            exact h1
          have HOS := Lib.hid (show (bv out).toArray.size = 16 by simp [bv_len, hout, clampOf_len, HL.out])
          have HZ16 := Lib.hid (show (bv z16).toArray.size = 16 from rfl)
          have hz3 : Hid (wr.heap[w.heap.size + 1]? = some (.cells (bv z16).toArray 45 (0, 0))) := (hbt.block _ (by omega) (by intro e; injection e; omega)).trans hgZ.out
          have hbw : Below w.heap.size w wr := But.below hbW hbt (by omega) (by omega)
          have HOUT := vlt hout
          clear hout hg HCL
          go_wp2_with (first
            | (with_reducible refine wpList_load_row rfl 45 (.tmp 1) rfl w.heap.size rfl 45 (bv out).toArray (0, 0) _ hg3.out Try.underlying45 rfl (by rw [HOS.out]; kernel_rfl) ?_)
            | (with_reducible refine wpList_store_row rfl 45 (.tmp 2) (.tmp 23) rfl (w.heap.size + 1) (bv out).toArray rfl rfl 45 _ hz3.out (by rw [HOS.out]; kernel_rfl) (by rw [HOS.out]; exact HZ16.out) (all_oneCell_toArray (bv_one _)) ?_))
          refine bodyPost_ret (v := .agg (bv out).toArray) (results_cell_row Try.results46 _ _ (w.heap.size + 1) 45 _ (0, 0) _ rfl (setRow_heap _ _ _ _ _ _ hz3.out) Try.underlying45 rfl (by rw [HOS.out]; kernel_rfl)) rfl ⟨by rw [HOUT.out], below_setRow hbw (by omega) _⟩
end Go.Proofs.Ytkeejkhapmcanaa
namespace Go.Proofs.Ytkeejkhapmcanaa
open Go.RowKit

theorem built_sum (a b c d e : Nat) : Try.prog.built 77 [(0, .agg (u64v [a, b, c, d, e]).toArray)] = some (sumP [a, b, c, d, e] [0, 0, 0, 0, 0] z16 0).toArray := by kernel_rfl
theorem zero_psum (w : World) : (zeroValue 77).run Try.prog w = .ok (.agg (sumP [0, 0, 0, 0, 0] [0, 0, 0, 0, 0] z16 0).toArray) w := by kernel_rfl
theorem sumP_one (rp t : List Nat) (rest : List UInt8) (n : Nat) : ∀ v ∈ sumP rp t rest n, v.oneCell' = true := by
  intro v hv
  simp only [sumP, List.mem_append, List.mem_cons, List.not_mem_nil, or_false] at hv
  rcases hv with hv | hv | hv | rfl
  · exact u64v_one _ _ hv
  · exact u64v_one _ _ hv
  · exact bv_one _ _ hv
  · rfl

set_option maxRecDepth 100000 in
set_option maxHeartbeats 1000000 in
theorem ptagAll_any (w : World) (key : List UInt8) (A : Option Addr) (ps : List (List UInt8)) (n c : Nat) (hk : key.length = 32) (hP : Prt w w.heap.size A ps) (hn : ps.length = n) (hbig : ps.flatten.length ≤ 288230376151711744) (hn2 : n ≤ 140737488355328) :
    Calls Try.prog 31 #[.agg (bv key).toArray, .slice A n c] w fun e w' => e = .returned (.agg (bv (tagOf key ps.flatten)).toArray) ∧ Below w.heap.size w w' := by
  have hz16 := zero_b16
  have hzs := zero_psum
  have HN := Lib.hid hn
  have HK := Lib.hid hk
  clear hn hk
  obtain ⟨W, hW, hgK, hgZ, hbW, hsW⟩ := pair_new w (bv key).toArray (bv z16).toArray 24 45
  have hs1 : w.heap.size + 1 < W.heap.size := by have := hsW.out; omega
  have HW := Lib.hid hW
  clear hW
  have hcut1 := cut_lh Try.underlying24 Try.sizeByte w.heap.size 0 0 16 0 16 rfl rfl (by decide) (by decide) (by decide)
  have hat1 := fun w' => run_arrayAt (P := Try.prog) w' 45 5 16 (some ⟨w.heap.size, 0, none⟩) 16 32 Try.underlying45 (by decide)
  have hrg1 := Lib.hid (range_byt (byt_mid hgK.out 0 16))
  have hl1 := Lib.hid (show (bv ((key.drop 0).take 16)).length = 16 by rw [bv_len]; simp [HK.out])
  have hk16 := Lib.hid (show ((key.drop 0).take 16).length = 16 by simp [HK.out])
  have hr0 := Lib.hid (show rOf key = ln (clampOf ((key.drop 0).take 16)) by rw [rOf, List.drop_zero])
  generalize (key.drop 0).take 16 = k1 at *
  have hclamp := clamp_any W k1 hk16.out
  obtain ⟨k2, hk2⟩ : ∃ k2, k2 = clampOf k1 := ⟨_, rfl⟩
  rw [← hk2] at hclamp hr0
  have hk2l := Lib.hid (show k2.length = 16 by rw [hk2, clampOf_len]; exact hk16.out)
  clear hk2
  go_enter Try.func31, Try.ntmps31
  go_upto_region 1 with fail
  rw [HW.out]
  go_wp2_with (with_reducible refine wpList_load_mid rfl 45 (.tmp 9) rfl w.heap.size 0 rfl (bv k1) _ hrg1.out Try.underlying45 rfl (by rw [hl1.out]; kernel_rfl) ?_)
  refine hclamp.mono ?_
  rintro e w2 ⟨rfl, hb2⟩
  clear hclamp hcut1 hat1 hrg1
  have hnum := numberOf_any w2 k2 0 hk2l.out (Nat.zero_le _)
  go_wp2_with fail
  refine hnum.mono ?_
  rintro e w3 ⟨r0, r1, r2, r3, r4, rfl, hrv, hrl, hb3⟩
  clear hnum
  have HR := vlt (show rOf key = nv r0 r1 r2 r3 r4 by rw [hr0.out, hrv.out, Nat.mul_zero, Nat.add_zero])
  have hb3' : Below W.heap.size W w3 := below_next hb2 hb2.size hb3
  go_upto_region 2 with (first
    | (with_reducible refine wpList_build_to rfl 77 _ rfl [(0, .agg (u64v [r0, r1, r2, r3, r4]).toArray)] (by kernel_rfl) _ (built_sum r0 r1 r2 r3 r4) ?_)
    | ((with_reducible refine wpList_store_row rfl 77 (.tmp 5) (.tmp 13) rfl w3.heap.size (sumP [r0, r1, r2, r3, r4] [0, 0, 0, 0, 0] z16 0).toArray rfl rfl 77 _ (heap_alloc_new _ _) (by kernel_rfl) (by kernel_rfl) (all_oneCell_toArray (sumP_one _ _ _ _)) ?_); rw [World.setRow_alloc_new]))
  have hS : SumP (w3.alloc (.cells (sumP [r0, r1, r2, r3, r4] [0, 0, 0, 0, 0] z16 0).toArray 77)) w3.heap.size r0 r1 r2 r3 r4 [] :=
    ⟨0, 0, 0, 0, 0, z16, ⟨heap_alloc_new _ _, rfl, rfl, rfl⟩, by decide, vlt rfl, rfl⟩
  have hb4 : Below W.heap.size W (w3.alloc (.cells (sumP [r0, r1, r2, r3, r4] [0, 0, 0, 0, 0] z16 0).toArray 77)) := hb3'.alloc hb3'.size _
  generalize w3.alloc (.cells (sumP [r0, r1, r2, r3, r4] [0, 0, 0, 0, 0] z16 0).toArray 77) = V at *
  obtain ⟨g, hg⟩ : ∃ g, g = w3.heap.size := ⟨_, rfl⟩
  have hWg : W.heap.size ≤ g := by rw [hg]; exact hb3'.size
  rw [← hg] at hS ⊢
  clear hg hb3 hb3' hb2 hrv hr0 hk16 hk2l hl1
  go_wp2
  go_loopw [16] (fun i wr => ∃ k : Nat, k ≤ n ∧ i = .int .i64 (k : Int) ∧ SumP wr g r0 r1 r2 r3 r4 (ps.take k).flatten ∧ Below W.heap.size W wr) (fun i _ => n - (intOf i).toNat)
  case atStart => exact ⟨0, by omega, rfl, hS, hb4⟩
  case round =>
    clear hS hb4
    obtain ⟨k, hk, rfl, hs, hb⟩ := hrel
    have hbw : Below w.heap.size w wr := hbW.trans (hb.mono (by omega))
    by_cases hlt : k < n
    · obtain ⟨b, o, Aj, nj, cj, p, rfl, hbl, hcell, hget, hpl, hcj, hbt⟩ := (hP.below hbw).at_ (k := k) (by rw [HN.out]; exact hlt)
      have hfl : nj ≤ 1152921504606846976 := by
        have h1 := flat_le ps (k + 1)
        rw [flat_take hget.out, List.length_append, hpl.out] at h1
        omega
      have hadd := padd_any wr g r0 r1 r2 r3 r4 (ps.take k).flatten p Aj nj cj hs hrl (hbt.toSrc hbw.size (by omega)) hpl.out hcj hfl
      go_wp2_with fail
      refine hadd.mono ?_
      rintro e w5 ⟨rfl, hs5, hbut⟩
      clear hadd hcell hfl
      have hs5' : SumP w5 g r0 r1 r2 r3 r4 (ps.take (k + 1)).flatten := by rw [flat_take hget.out]; exact hs5
      have hb5 : Below W.heap.size W w5 := But.below hb hbut hWg hb.size
      go_wp2
      exact ⟨⟨k + 1, by omega, by go_num, hs5', hb5⟩, by simp [intOf]; omega⟩
    · have HK2 := Lib.hid (show k = n by omega)
      have hs' : SumP wr g r0 r1 r2 r3 r4 ps.flatten := by
        have h1 := hs
        rw [List.take_of_length_le (by rw [HN.out, HK2.out]; exact Nat.le_refl _)] at h1
        exact h1
      have hgKr : Hid (wr.heap[w.heap.size]? = some (.cells (bv key).toArray 24 (0, 0))) := (hb.block _ (by omega)).trans hgK.out
      have hcut1 := cut_l Try.underlying24 Try.sizeByte w.heap.size 0 16 16 rfl (by decide)
      have hat1 := fun w' => run_arrayAt (P := Try.prog) w' 45 5 16 (some ⟨w.heap.size, 16, none⟩) 16 16 Try.underlying45 (by decide)
      have e1 : (key.drop 16).take 16 = key.drop 16 := List.take_of_length_le (by simp [HK.out])
      have hrg1 := Lib.hid (range_byt (byt_mid hgKr.out 16 16))
      rw [e1] at hrg1
      have hl1 := Lib.hid (show (bv (key.drop 16)).length = 16 by rw [bv_len]; simp [HK.out])
      have hl2 := Lib.hid (show (key.drop 16).length = 16 by simp [HK.out])
      obtain ⟨out, hout⟩ : ∃ out, out = tagOf key ps.flatten := ⟨_, rfl⟩
      have HOUT := vlt hout
      have HOUT2 := vlt (show out = le ((polyOf (nv r0 r1 r2 r3 r4) ps.flatten + ln (key.drop 16)) % 340282366920938463463374607431768211456) 16 by rw [hout, tagOf, HR.out])
      have HOS := Lib.hid (show (bv out).toArray.size = 16 by simp [bv_len, hout, tagOf_len])
      have HZ16 := Lib.hid (show (bv z16).toArray.size = 16 from rfl)
      clear hout e1
      generalize key.drop 16 = k3 at *
      have hnum := numberOf_any wr k3 0 hl2.out (Nat.zero_le _)
      go_wp2_with (with_reducible refine wpList_load_mid rfl 45 (.tmp 24) rfl w.heap.size 16 rfl (bv k3) _ hrg1.out Try.underlying45 rfl (by rw [hl1.out]; kernel_rfl) ?_)
      refine hnum.mono ?_
      rintro e w5 ⟨b0, b1, b2, b3, b4, rfl, hbv, hbl, hb5⟩
      clear hnum hcut1 hat1 hrg1
      have hend := ptag_any w5 g r0 r1 r2 r3 r4 b0 b1 b2 b3 b4 ps.flatten (hs'.below hs'.lt hb5) hrl hbl
      rw [hbv.out, Nat.mul_zero, Nat.add_zero, ← HOUT2.out] at hend
      clear hbv
      go_wp2_with fail
      refine hend.mono ?_
      rintro e w6 ⟨rfl, hbut6⟩
      have hb6 : Below W.heap.size W w6 := But.below (below_next hb hb.size hb5) hbut6 hWg (by have := hb.size; have := hb5.size; omega)
      have hz6 : Hid (w6.heap[w.heap.size + 1]? = some (.cells (bv z16).toArray 45 (0, 0))) := (hb6.block _ hs1).trans hgZ.out
      have hbw6 : Below w.heap.size w w6 := hbW.trans (hb6.mono (by omega))
      clear hend
      go_wp2_with (with_reducible refine wpList_store_row rfl 45 (.tmp 4) (.tmp 27) rfl (w.heap.size + 1) (bv out).toArray rfl rfl 45 _ hz6.out (by rw [HOS.out]; kernel_rfl) (by rw [HOS.out]; exact HZ16.out) (all_oneCell_toArray (bv_one _)) ?_)
      refine bodyPost_ret (v := .agg (bv out).toArray) (results_cell_row Try.results31 _ _ (w.heap.size + 1) 45 _ (0, 0) _ rfl (setRow_heap _ _ _ _ _ _ hz6.out) Try.underlying45 rfl (by rw [HOS.out]; kernel_rfl)) rfl ⟨by rw [HOUT.out], below_setRow hbw6 (by omega) _⟩
end Go.Proofs.Ytkeejkhapmcanaa
