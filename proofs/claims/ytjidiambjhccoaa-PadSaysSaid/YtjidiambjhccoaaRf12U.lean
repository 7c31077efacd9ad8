/-
  Contract of the document's own Unpad. Conditions: fewer than 2^46 bytes.
-/
import Derived.Test.YtjidiambjhccoaaRf12P
import Derived.Test.YtjidiambjhccoaaByn
import Derived.Test.YtjidiambjhccoaaReg
namespace Go.Proofs.Ytjidiambjhccoaa
open Go.RowKit

/-- If the last byte that is no nought stands at k, only what is ahead of k can have been padded. -/
theorem mark_at {l : List UInt8} {k : Nat} (hk : k < l.length) (h0 : l.drop (k + 1) = List.replicate (l.length - (k + 1)) 0) (hb : l[k]? ≠ some 0) {m : List UInt8} (h : l = padOf m) : l.take k = m := by
  by_cases h1 : l[k]? = some 128
  · have h2 := mark_yes h0 h1
    have h3 := h2.symm.trans h
    exact mark_one h3
  · exact absurd h (mark_no hk h0 hb h1 m _)

set_option maxRecDepth 100000 in
set_option maxHeartbeats 1000000 in
theorem runpad_any (w : World) (A : Option Addr) (l : List UInt8) (n c : Nat) (ha : Byt w w.heap.size A l) (hl : l.length = n) (hc : n ≤ c) (hn : n ≤ 70368744177664) :
    Calls Try.prog 13 #[.slice A n c] w fun e w' => Below w.heap.size w w' ∧
      ((e = .returned (.tuple #[.slice none 0 0, .bool false]) ∧ Vlt (∀ m : List UInt8, m.length < 65536 → l ≠ padOf m)) ∨
      ∃ (k : Nat) (m : List UInt8), e = .returned (.tuple #[.slice A k c, .bool true]) ∧ Vlt (l = padOf m) ∧ Hid (m.length = k) ∧ k < n ∧ Byt w w.heap.size A m) := by
  have HL := Lib.hid hl
  clear hl
  go_enter Try.func13, Try.ntmps13
  go_wp2
  go_loopw [4] (fun i wr => ∃ k : Nat, i = .int .i64 (k : Int) ∧ k ≤ n ∧ Vlt (l.drop k = List.replicate (n - k) 0) ∧ wr = w) (fun i _ => (intOf i).toNat)
  case atStart => exact ⟨n, rfl, Nat.le_refl _, vlt (by rw [← HL.out]; simp), rfl⟩
  case round =>
    obtain ⟨k, rfl, hk, h0, rfl⟩ := hrel
    by_cases hk0 : k = 0
    · subst hk0
      have hz := vlt (fun (m : List UInt8) (_ : m.length < 65536) => mark_none (l := l) (n := n) (by simpa using h0.out) m (bkt m.length - m.length - 1))
      clear h0
      go_wp2
      go_ret2
      exact ⟨Below.refl _ _, .inl ⟨rfl, hz⟩⟩
    · obtain ⟨k, rfl⟩ : ∃ k', k = k' + 1 := ⟨k - 1, by omega⟩
      obtain ⟨g, o, x, rfl, hg, hx, hcell, hget⟩ := ha.at_ (k := k) (by rw [HL.out]; omega)
      have e1 : ((k + 1 : Nat) : Int) - 1 = (k : Int) := by omega
      obtain ⟨t, ht⟩ : ∃ t : Int, t = ((k + 1 : Nat) : Int) := ⟨_, rfl⟩
      rw [← ht] at e1 ⊢
      have ht0 : 0 < t := by omega
      have ht1 : ¬ t = 0 := by omega
      clear hk0
      by_cases hx0 : x = 0
      · subst hx0
        have h1 := vlt (zero_more (k := k) (by rw [HL.out]; exact h0.out) hget.out)
        rw [HL.out] at h1
        clear h0
        go_wp2
        go_roundw
        case rel => exact ⟨k, rfl, by omega, h1, trivial⟩
        case measure => simp [intOf]; omega
      · have hx1 : ¬ (x : Int) = 0 := by omega
        have hkl : Hid ((l.take k).length = k) := show _ = _ by rw [List.length_take, HL.out]; omega
        have HAT := vlt (fun (m : List UInt8) (h : l = padOf m) => mark_at (k := k) (by rw [HL.out]; omega) (by rw [HL.out]; exact h0.out) (by rw [hget.out]; intro e; injection e with e; have := congrArg UInt8.toNat e; simp at this; omega) h)
        have hcut := run_cut_h (P := Try.prog) Try.underlying26 Try.sizeByte (some ⟨g, o, none⟩) n c k (k : Int) rfl (by omega)
        clear h0
        by_cases hk6 : 65536 ≤ k
        · have hp := rpad_over wr (some ⟨g, o, none⟩) k c hk6
          have HNO := vlt (show ∀ m : List UInt8, m.length < 65536 → l ≠ padOf m from fun m hm e => by
            have h5 := HAT.out m e
            have h6 := hkl.out
            rw [h5] at h6; omega)
          clear HAT hk6
          go_wp2_with fail
          refine hp.mono ?_
          rintro e w2 ⟨rfl, rfl⟩
          clear hp
          go_wp2
          go_ret2
          exact ⟨Below.refl _ _, .inl ⟨rfl, HNO⟩⟩
        · have hp := rpad_ok wr (some ⟨g, o, none⟩) (l.take k) k c (ha.take k) hkl.out (by omega)
          have HK6 := Lib.hid (show k < 65536 by omega)
          clear hk6
          go_wp2_with fail
          refine hp.mono ?_
          rintro e w2 ⟨s, P, rfl, hs, hP, h1, h2, h3, hr, hb2⟩
          clear hp
          have hcx := conv_bytes (P := Try.prog) Try.underlying26 Try.underlying5 Try.underlying9 hr.byt s s hr.len
          have hcy := conv_bytes (P := Try.prog) Try.underlying26 Try.underlying5 Try.underlying9 (ha.next hb2) n c HL.out
          go_wp2
          · rename_i hPb
            have hPl : ¬ P = l := by simpa using hPb
            have HNO := vlt (show ∀ m : List UInt8, m.length < 65536 → l ≠ padOf m from fun m hm e => hPl (by rw [hP.out, HAT.out m e, ← e]))
            clear hPl hPb HAT hP hs
            go_ret2
            exact ⟨hb2, .inl ⟨rfl, HNO⟩⟩
          · rename_i hPb
            have hPl : P = l := by simpa using hPb
            have HY := vlt (show l = padOf (l.take k) from hPl.symm.trans hP.out)
            clear hPl hPb HAT hP hs
            go_ret2
            exact ⟨hb2, .inr ⟨k, _, rfl, HY, hkl, by omega, ha.take k⟩⟩
end Go.Proofs.Ytjidiambjhccoaa
