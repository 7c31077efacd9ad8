/-
  Contract of pad.Unpad. Conditions: fewer than 2^46 bytes.
-/
import Derived.Test.YtjidiambjhccoaaPaB
import Derived.Test.YtjidiambjhccoaaPaM
import Derived.Test.YtjidiambjhccoaaPaC
namespace Go.Proofs.Ytjidiambjhccoaa
open Go.RowKit

set_option maxRecDepth 100000 in
set_option maxHeartbeats 1000000 in
theorem unpad_any (w : World) (A : Option Addr) (l : List UInt8) (n c : Nat) (ha : Byt w w.heap.size A l) (hl : l.length = n) (hc : n ≤ c) (hn : n ≤ 70368744177664) :
    Calls Try.prog 10 #[.slice A n c] w fun e w' =>
      (e = .returned (.tuple #[.slice none 0 0, .int .i64 3]) ∧ w' = w ∧ Vlt (∀ m : List UInt8, m.length < 65536 → l ≠ padOf m)) ∨
      ∃ (A' : Option Addr) (k c' : Nat) (m : List UInt8), e = .returned (.tuple #[.slice A' k c', .int .i64 0]) ∧ Vlt (l = padOf m) ∧ k < 65536 ∧ k < n ∧ Res w' w.heap.size 5 A' k c' m ∧ Below w.heap.size w w' := by
  have hm := mark_any w A l n c ha hl hn
  have HL := Lib.hid hl
  clear hl
  go_enter Try.func10, Try.ntmps10
  go_wp2_with fail
  refine hm.mono ?_
  rintro e w1 ⟨r, rfl, rfl, ⟨rfl, h⟩ | ⟨k, rfl, hk, h⟩⟩
  · have hb := bucket_neg w1 (-1) (by decide)
    have HNO := vlt (show ∀ m : List UInt8, m.length < 65536 → l ≠ padOf m from fun m _ => h.out m _)
    clear hm h
    go_wp2_with fail
    refine hb.mono ?_
    rintro e w2 ⟨rfl, rfl⟩
    clear hb
    go_wp2
    go_ret2
    exact .inl ⟨rfl, rfl, HNO⟩
  · have hkl : Hid ((l.take k).length = k) := show _ = _ by rw [List.length_take, HL.out]; omega
    by_cases hk6 : 65536 ≤ k
    · have hb := bucket_over w1 (k : Int) (by omega)
      have HNO := vlt (show ∀ m : List UInt8, m.length < 65536 → l ≠ padOf m from fun m hm e => by
        have h1 := h.out
        rw [e, padOf] at h1
        have h2 := mark_one h1
        have h3 := hkl.out
        rw [e, padOf, ← h2] at h3; omega)
      clear hm h
      go_wp2_with fail
      refine hb.mono ?_
      rintro e w2 ⟨rfl, rfl⟩
      clear hb
      go_wp2
      go_ret2
      exact .inl ⟨rfl, rfl, HNO⟩
    · have hb := bucket_ok w1 k (by omega)
      clear hm
      have hk7 : k < 65536 := by omega
      have HK7 := Lib.hid hk7
      clear hk6 hk7
      go_wp2_with fail
      refine hb.mono ?_
      rintro e w2 ⟨s, rfl, hs, h1, h2, h3, rfl⟩
      clear hb
      by_cases hsn : s = n
      · subst hsn
        have HY := vlt (show l = padOf (l.take k) from h.out.trans (pad_of_mark (by rw [hkl.out, ← hs.out]; omega)))
        have hcut := run_cut_h (P := Try.prog) Try.underlying26 Try.sizeByte A s c k (k : Int) rfl (by omega)
        have hcl := bclone_any w2 A (l.take k) k c (ha.take k) hkl.out (by omega)
        clear h
        go_wp2_with fail
        refine hcl.mono ?_
        rintro e w3 ⟨A', c', rfl, hr, hb3⟩
        clear hcl
        go_wp2
        go_ret2
        exact .inr ⟨A', k, c', _, rfl, HY, HK7.out, hk, hr, hb3⟩
      · have HNO := vlt (show ∀ m : List UInt8, m.length < 65536 → l ≠ padOf m from fun m hm e => by
          have h4 := h.out
          rw [e, padOf] at h4
          have h5 := mark_one h4
          have h6 := hkl.out
          rw [e, padOf, ← h5] at h6
          have h7 := HL.out
          rw [e, padOf_len m hm, h6, ← hs.out] at h7
          exact hsn h7)
        have hsn2 : ¬ (s : Int) = (n : Int) := by omega
        clear h
        go_wp2
        go_ret2
        exact .inl ⟨rfl, rfl, HNO⟩
theorem unpad_ok (w : World) (A : Option Addr) (m : List UInt8) (n c : Nat) (hm : m.length < 65536) (ha : Byt w w.heap.size A (padOf m)) (hl : (padOf m).length = n) (hc : n ≤ c) :
    Calls Try.prog 10 #[.slice A n c] w fun e w' => ∃ (A' : Option Addr) (k c' : Nat), e = .returned (.tuple #[.slice A' k c', .int .i64 0]) ∧ Hid (m.length = k) ∧ Res w' w.heap.size 5 A' k c' m ∧ Below w.heap.size w w' := by
  have h65 : n ≤ 65536 := by rw [← hl, padOf_len m hm]; exact (pw_le (pw_bkt _)).2
  refine (unpad_any w A (padOf m) n c ha hl hc (by omega)).mono ?_
  rintro e w1 (⟨rfl, rfl, h⟩ | ⟨A', k, c', m', rfl, h, h1, h2, hr, hb⟩)
  · exact absurd rfl (h.out m hm)
  · obtain rfl := padOf_one h.out
    exact ⟨A', k, c', rfl, hr.len, hr, hb⟩
theorem unpad_no (w : World) (A : Option Addr) (l : List UInt8) (n c : Nat) (ha : Byt w w.heap.size A l) (hl : l.length = n) (hc : n ≤ c) (hn : n ≤ 70368744177664) (hno : ∀ m : List UInt8, m.length < 65536 → l ≠ padOf m) :
    Calls Try.prog 10 #[.slice A n c] w fun e w' => e = .returned (.tuple #[.slice none 0 0, .int .i64 3]) ∧ w' = w := by
  refine (unpad_any w A l n c ha hl hc hn).mono ?_
  rintro e w1 (⟨rfl, rfl, h⟩ | ⟨A', k, c', m', rfl, h, h1, h2, hr, hb⟩)
  · exact ⟨rfl, rfl⟩
  · exact absurd h.out (hno m' (by rw [hr.len]; exact h1))
end Go.Proofs.Ytjidiambjhccoaa
