/-
  Contracts of octet.nibble, octet.Unhex and octet.Hex. Conditions: texts and slices are shorter than 2^46 bytes.
-/
import Derived.Test.YtkiphhabciedjaaOctE
import Derived.Deep.RegionLaw
namespace Go.Proofs.Ytkiphhabciedjaa
open Go.RowKit

/-- One digit's number. -/
def nib (c : Nat) : Option Nat := if 48 ≤ c ∧ c ≤ 57 then some (c - 48) else if 97 ≤ c ∧ c ≤ 102 then some (c - 87) else none
theorem nib_lt {c x : Nat} (h : nib c = some x) : x < 16 := by
  unfold nib at h
  split at h
  · simp at h; omega
  · split at h
    · simp at h; omega
    · cases h

theorem nibble_ok (c x : Nat) (w : World) (h : nib c = some x) :
    Calls Try.prog 26 #[.int .u8 (c : Int)] w fun e w' => e = .returned (.tuple #[.int .u8 (x : Int), .bool true]) ∧ w = w' := by
  have H := Lib.hid h
  unfold nib at h
  by_cases h1 : 48 ≤ c ∧ c ≤ 57
  · rw [if_pos h1] at h
    obtain ⟨h1, h2⟩ := h1
    obtain rfl : x = c - 48 := by simpa using h.symm
    clear h H
    go_enter Try.func26, Try.ntmps26
    go_wp2
    go_ret2
    refine ⟨?_, rfl⟩
    have e : (c : Int) - 48 = ((c - 48 : Nat) : Int) := by omega
    rw [← e]; rfl
  · rw [if_neg h1] at h
    by_cases h2 : 97 ≤ c ∧ c ≤ 102
    · rw [if_pos h2] at h
      obtain ⟨h2, h3⟩ := h2
      obtain rfl : x = c - 87 := by simpa using h.symm
      clear h H h1
      go_enter Try.func26, Try.ntmps26
      go_wp2
      go_ret2
      refine ⟨?_, rfl⟩
      have e : (c : Int) - 97 + 10 = ((c - 87 : Nat) : Int) := by omega
      rw [← e]; rfl
    · rw [if_neg h2] at h; cases h

theorem nibble_no (c : Nat) (w : World) (hc : c < 256) (h : nib c = none) :
    Calls Try.prog 26 #[.int .u8 (c : Int)] w fun e w' => e = .returned (.tuple #[.int .u8 0, .bool false]) ∧ w = w' := by
  have H := Lib.hid h
  unfold nib at h
  have h1 : c < 48 ∨ (57 < c ∧ c < 97) ∨ 102 < c := by
    by_cases h1 : 48 ≤ c ∧ c ≤ 57
    · rw [if_pos h1] at h; cases h
    · rw [if_neg h1] at h
      by_cases h2 : 97 ≤ c ∧ c ≤ 102
      · rw [if_pos h2] at h; cases h
      · omega
  clear h H
  rcases h1 with h1 | ⟨h1, h2⟩ | h1
  all_goals
    go_enter Try.func26, Try.ntmps26
    go_wp2
    go_ret2
    exact ⟨rfl, rfl⟩

/-- Two digits a byte, or none. -/
def unhex : List UInt8 → Option (List UInt8)
  | [] => some []
  | [_] => none
  | a :: b :: r => match nib a.toNat, nib b.toNat, unhex r with
    | some x, some y, some l => some (UInt8.ofNat (16 * x + y) :: l)
    | _, _, _ => none

/-- Digits 2k and 2k+1 are digits, and tell x and y. -/
def Dig (s : List UInt8) (k x y : Nat) : Prop := ∃ a b, s[2 * k]? = some a ∧ s[2 * k + 1]? = some b ∧ nib a.toNat = some x ∧ nib b.toNat = some y

theorem unhex_some : ∀ (s l : List UInt8), unhex s = some l → s.length = 2 * l.length ∧ ∀ k, k < l.length → ∃ x y, Dig s k x y ∧ l[k]? = some (UInt8.ofNat (16 * x + y))
  | [], l, h => by
    simp [unhex] at h; subst h; simp
  | [_], l, h => by simp [unhex] at h
  | a :: b :: r, l, h => by
    unfold unhex at h
    split at h
    · rename_i x y l' hx hy hr
      simp at h; subst h
      obtain ⟨h1, h2⟩ := unhex_some r l' hr
      refine ⟨by simp; omega, fun k hk => ?_⟩
      cases k with
      | zero => exact ⟨x, y, ⟨a, b, by simp, by simp, hx, hy⟩, by simp⟩
      | succ k =>
        obtain ⟨x', y', ⟨a', b', q1, q2, q3, q4⟩, q5⟩ := h2 k (by simpa using hk)
        refine ⟨x', y', ⟨a', b', ?_, ?_, q3, q4⟩, by simpa using q5⟩
        · rw [show 2 * (k + 1) = 2 * k + 2 from by omega]; simpa using q1
        · rw [show 2 * (k + 1) + 1 = 2 * k + 1 + 2 from by omega]; simpa using q2
    · cases h

theorem unhex_none : ∀ (s : List UInt8), unhex s = none → s.length % 2 = 1 ∨ ∃ j, 2 * j + 1 < s.length ∧ (∀ k, k < j → ∃ x y, Dig s k x y) ∧ ∃ a b, s[2 * j]? = some a ∧ s[2 * j + 1]? = some b ∧ (nib a.toNat = none ∨ nib b.toNat = none)
  | [], h => by simp [unhex] at h
  | [_], h => by simp
  | a :: b :: r, h => by
    unfold unhex at h
    split at h
    · cases h
    · rename_i hno
      cases hx : nib a.toNat with
      | none => exact .inr ⟨0, by simp, by simp, a, b, by simp, by simp, .inl hx⟩
      | some x =>
        cases hy : nib b.toNat with
        | none => exact .inr ⟨0, by simp, by simp, a, b, by simp, by simp, .inr hy⟩
        | some y =>
          cases hr : unhex r with
          | some l => exact absurd hr (by intro hr; exact hno x y l hx hy hr)
          | none =>
            rcases unhex_none r hr with h1 | ⟨j, h1, h2, a', b', h3, h4, h5⟩
            · left; simp; omega
            · refine .inr ⟨j + 1, by simp; omega, fun k hk => ?_, a', b', ?_, ?_, h5⟩
              · cases k with
                | zero => exact ⟨x, y, a, b, by simp, by simp, hx, hy⟩
                | succ k =>
                  obtain ⟨x', y', a2, b2, q1, q2, q3, q4⟩ := h2 k (by omega)
                  refine ⟨x', y', a2, b2, ?_, ?_, q3, q4⟩
                  · rw [show 2 * (k + 1) = 2 * k + 2 from by omega]; simpa using q1
                  · rw [show 2 * (k + 1) + 1 = 2 * k + 1 + 2 from by omega]; simpa using q2
              · rw [show 2 * (j + 1) = 2 * j + 2 from by omega]; simpa using h3
              · rw [show 2 * (j + 1) + 1 = 2 * j + 1 + 2 from by omega]; simpa using h4

theorem byte_at {s : ByteArray} {k : Nat} {a : UInt8} (h : s.data.toList[k]? = some a) : ∃ hk : k < s.size, s[k] = a := by
  obtain ⟨hk, h2⟩ := List.getElem?_eq_some_iff.1 h
  exact ⟨by have h3 := hk; rw [Array.length_toList] at h3; exact h3, by rw [← h2]; rfl⟩

theorem hexjoin (x y : Nat) (hx : x < 16) (hy : y < 16) : bits .or .u8 ((x : Int) * 16) (y : Int) = ((UInt8.ofNat (16 * x + y)).toNat : Int) := by
  have e : ((x : Int) * 16) = ((x * 16 : Nat) : Int) := by omega
  rw [e, u8_or_nat _ _ (by omega) (by omega), nat_join 4 _ _ (by omega) (by omega)]
  simp; omega

theorem unhex_ok (s : ByteArray) (l : List UInt8) (w : World) (hs : s.size ≤ 140737488355328) (h : unhex s.data.toList = some l) :
    Calls Try.prog 9 #[.string s] w fun e w' => ∃ A' c', e = .returned (.tuple #[.slice A' l.length c', .int .i64 0]) ∧ Res w' w.heap.size 5 A' l.length c' l ∧ Below w.heap.size w w' := by
  obtain ⟨h1, h2⟩ := unhex_some _ _ h
  generalize hm : l.length = m at *
  have hsz : s.size = 2 * m := by rw [Array.length_toList] at h1; exact h1
  have H2 := Lib.hid h2
  have HM := Lib.hid hm
  clear h h1 h2 hm
  obtain ⟨i0, hi, hz0, hz1, hz2⟩ := info_parts Try.infoByte
  obtain ⟨w1, hrun, hg1, hb1, hs1⟩ := make_bytes (P := Try.prog) Try.underlying23 hi hz0 hz1 hz2 m m (m : Int) (m : Int) rfl rfl (by omega) (by omega) w
  clear hi hz0 hz1 hz2
  have hd : ((s.size : Int) / 2) = (m : Int) := by omega
  have hd2 : (((s.size : Int) % 2) != 0) = false := by simp; omega
  have HS := Lib.hid hsz
  clear hsz
  go_enter Try.func9, Try.ntmps9
  go_wp2
  go_loopw [5, 6, 7, 8, 9, 20] (fun _ _ _ _ _ i wr => ∃ k : Nat, k ≤ m ∧ i = .int .i64 (k : Int) ∧ Res wr w.heap.size 5 (some ⟨w.heap.size, 0, none⟩) m m (l.take k ++ List.replicate (m - k) 0) ∧ Below w.heap.size w wr) (fun _ _ _ _ _ i _ => m - (intOf i).toNat)
  case atStart => exact ⟨0, Nat.zero_le _, rfl, by simpa using Res.made hg1.out (Nat.le_refl _) (by omega), hb1.out⟩
  case round =>
    obtain ⟨k, hk, rfl, hres, hbel⟩ := hrel
    by_cases hlt : k < m
    · obtain ⟨x, y, ⟨a, b, q1, q2, q3, q4⟩, q5⟩ := H2.out k hlt
      obtain ⟨hka, ea⟩ := byte_at q1
      obtain ⟨hkb, eb⟩ := byte_at q2
      have hx := nib_lt q3
      have hy := nib_lt q4
      obtain ⟨u, hu⟩ := hres.cell (j := k) (by omega)
      have hf := hres.free k
      have EA := Lib.hid ea
      have EB := Lib.hid eb
      have Q3 := Lib.hid q3
      have Q4 := Lib.hid q4
      have Q5 := Lib.hid q5
      clear ea eb q1 q2 q3 q4 q5
      go_wp2_with fail
      refine (nibble_ok _ x _ (by rw [EA.out]; exact Q3.out)).mono ?_
      rintro e w' ⟨rfl, rfl⟩
      go_wp2_with fail
      refine (nibble_ok _ y _ (by rw [EB.out]; exact Q4.out)).mono ?_
      rintro e w' ⟨rfl, rfl⟩
      go_wp2
      go_roundw
      case rel =>
        refine ⟨k + 1, by omega, by go_num, ?_, hbel.setCell (Nat.le_refl _) _⟩
        rw [← fill_step l m k _ HM.out Q5.out]
        exact hres.put _ _ _ (hexjoin x y hx hy)
      case measure => simp [intOf]; omega
    · obtain rfl : k = m := by omega
      go_wp2
      go_ret2
      refine ⟨_, _, rfl, ?_, hbel⟩
      have h2 := hres
      rw [List.take_of_length_le (by rw [HM.out]; exact Nat.le_refl _)] at h2
      simpa using h2

theorem unhex_no (s : ByteArray) (w : World) (hs : s.size ≤ 140737488355328) (h : unhex s.data.toList = none) :
    Calls Try.prog 9 #[.string s] w fun e w' => e = .returned (.tuple #[.slice none 0 0, .int .i64 3]) ∧ Below w.heap.size w w' := by
  by_cases ho : s.size % 2 = 1
  · have hd2 : (((s.size : Int) % 2) != 0) = true := by simp; omega
    clear h ho
    go_enter Try.func9, Try.ntmps9
    go_wp2
    go_ret2
    exact ⟨rfl, Below.refl _ _⟩
  · rcases unhex_none _ h with h1 | ⟨j, h1, h2, a, b, h3, h4, h5⟩
    · rw [Array.length_toList] at h1; exact absurd h1 ho
    rw [Array.length_toList] at h1
    obtain ⟨m, hsz⟩ : ∃ m, s.size = 2 * m := ⟨s.size / 2, by omega⟩
    have hjm : j < m := by have : s.data.size = s.size := rfl; omega
    have H2 := Lib.hid h2
    have H3 := Lib.hid h3
    have H4 := Lib.hid h4
    have H5 := Lib.hid h5
    clear h h1 h2 h3 h4 h5 ho
    obtain ⟨i0, hi, hz0, hz1, hz2⟩ := info_parts Try.infoByte
    obtain ⟨w1, hrun, hg1, hb1, hs1⟩ := make_bytes (P := Try.prog) Try.underlying23 hi hz0 hz1 hz2 m m (m : Int) (m : Int) rfl rfl (by omega) (by omega) w
    clear hi hz0 hz1 hz2
    have hd : ((s.size : Int) / 2) = (m : Int) := by omega
    have hd2 : (((s.size : Int) % 2) != 0) = false := by simp; omega
    have HS := Lib.hid hsz
    clear hsz
    go_enter Try.func9, Try.ntmps9
    go_wp2
    go_loopw [5, 6, 7, 8, 9, 20] (fun _ _ _ _ _ i wr => ∃ (k : Nat) (L : List UInt8), k ≤ j ∧ i = .int .i64 (k : Int) ∧ Res wr w.heap.size 5 (some ⟨w.heap.size, 0, none⟩) m m L ∧ Below w.heap.size w wr) (fun _ _ _ _ _ i _ => m - (intOf i).toNat)
    case atStart => exact ⟨0, _, Nat.zero_le _, rfl, Res.made hg1.out (Nat.le_refl _) (by omega), hb1.out⟩
    case round =>
      obtain ⟨k, L, hk, rfl, hres, hbel⟩ := hrel
      have hlt : k < m := by omega
      by_cases hkj : k < j
      · obtain ⟨x, y, a, b, q1, q2, q3, q4⟩ := H2.out k hkj
        obtain ⟨hka, ea⟩ := byte_at q1
        obtain ⟨hkb, eb⟩ := byte_at q2
        have hx := nib_lt q3
        have hy := nib_lt q4
        obtain ⟨u, hu⟩ := hres.cell (j := k) (by omega)
        have hf := hres.free k
        have EA := Lib.hid ea
        have EB := Lib.hid eb
        have Q3 := Lib.hid q3
        have Q4 := Lib.hid q4
        clear ea eb q1 q2 q3 q4
        go_wp2_with fail
        refine (nibble_ok _ x _ (by rw [EA.out]; exact Q3.out)).mono ?_
        rintro e w' ⟨rfl, rfl⟩
        go_wp2_with fail
        refine (nibble_ok _ y _ (by rw [EB.out]; exact Q4.out)).mono ?_
        rintro e w' ⟨rfl, rfl⟩
        go_wp2
        go_roundw
        case rel => exact ⟨k + 1, _, by omega, by go_num, hres.put _ _ _ (hexjoin x y hx hy), hbel.setCell (Nat.le_refl _) _⟩
        case measure => simp [intOf]; omega
      · obtain rfl : k = j := by omega
        obtain ⟨hka, ea⟩ := byte_at H3.out
        obtain ⟨hkb, eb⟩ := byte_at H4.out
        have EA := Lib.hid ea
        have EB := Lib.hid eb
        clear ea eb
        cases hx : nib a.toNat with
        | none =>
          cases hy : nib b.toNat with
          | none =>
            have Q3 := Lib.hid hx
            have Q4 := Lib.hid hy
            clear hx hy
            go_wp2_with fail
            refine (nibble_no _ _ (UInt8.toNat_lt _) (by rw [EA.out]; exact Q3.out)).mono ?_
            rintro e w' ⟨rfl, rfl⟩
            go_wp2_with fail
            refine (nibble_no _ _ (UInt8.toNat_lt _) (by rw [EB.out]; exact Q4.out)).mono ?_
            rintro e w' ⟨rfl, rfl⟩
            go_wp2
            go_ret2
            exact ⟨rfl, hbel⟩
          | some y =>
            have Q3 := Lib.hid hx
            have Q4 := Lib.hid hy
            clear hx hy
            go_wp2_with fail
            refine (nibble_no _ _ (UInt8.toNat_lt _) (by rw [EA.out]; exact Q3.out)).mono ?_
            rintro e w' ⟨rfl, rfl⟩
            go_wp2_with fail
            refine (nibble_ok _ y _ (by rw [EB.out]; exact Q4.out)).mono ?_
            rintro e w' ⟨rfl, rfl⟩
            go_wp2
            go_ret2
            exact ⟨rfl, hbel⟩
        | some x =>
          have hy : nib b.toNat = none := by rcases H5.out with h | h; · rw [hx] at h; cases h
                                             · exact h
          have Q3 := Lib.hid hx
          have Q4 := Lib.hid hy
          clear hx hy
          go_wp2_with fail
          refine (nibble_ok _ x _ (by rw [EA.out]; exact Q3.out)).mono ?_
          rintro e w' ⟨rfl, rfl⟩
          go_wp2_with fail
          refine (nibble_no _ _ (UInt8.toNat_lt _) (by rw [EB.out]; exact Q4.out)).mono ?_
          rintro e w' ⟨rfl, rfl⟩
          go_wp2
          go_ret2
          exact ⟨rfl, hbel⟩
end Go.Proofs.Ytkiphhabciedjaa
