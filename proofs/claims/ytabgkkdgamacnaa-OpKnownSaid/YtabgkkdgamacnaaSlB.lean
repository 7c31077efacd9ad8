/-
  Contracts of slices.Grow, slices.Concat and slices.Clone over bytes. Conditions: fewer than 2^46 bytes in all, fewer than 2^32 parts.
-/
import Derived.Test.YtabgkkdgamacnaaCut
import Derived.Test.YtabgkkdgamacnaaPrt
import Derived.Test.YtabgkkdgamacnaaLit
import Derived.Test.YtabgkkdgamacnaaSrc
import Derived.LoopTactic
import Derived.Lib.AppendZeros
import Derived.Lib.SliceRun
namespace Go.Proofs.Ytabgkkdgamacnaa
open Go.RowKit

set_option maxRecDepth 100000 in
theorem grow_b (w : World) (n : Nat) (hn : n ≤ 140737488355328) :
    Calls Try.prog 54 #[.slice none 0 0, .int .i64 (n : Int)] w fun e w' => ∃ A c, e = .returned (.slice A 0 c) ∧ Res w' w.heap.size 5 A 0 c [] ∧ Below w.heap.size w w' := by
  obtain ⟨i, hi, hz, h1, h2⟩ := info_parts Try.infoByte
  by_cases h0 : 0 < n
  · have hr := fun ty => Lib.run_append_nil_zeros (P := Try.prog) w 29 3 ty 5 i (.int .u8 0) .i64 .i64 Try.underlying29 Try.underlying3 hi hz n h0 (by omega) (by omega) (by rw [h2]; omega)
    have hc1 : n ≤ grownCap w n 0 5 := grownCap_ge w n 0 _
    have hc2 : grownCap w n 0 5 ≤ maxLen := grownCap_le_maxLen w n 0 _ (by unfold maxLen; omega)
    have hsz : (Builtin.zeroCells (Value.int .u8 0).cells n ++ Builtin.zeroCells (Value.int .u8 0).cells (grownCap w n 0 5 - n)).size = grownCap w n 0 5 * 1 := by
      rw [Array.size_append, size_zeroCells, size_zeroCells]
      have : (Value.int .u8 0).cells.size = 1 := rfl
      rw [this]; omega
    have hown := World.ownsRow_made (w := w.drew) (e := 5) (base := w.heap.size) (size := 1) _ (grownCap w n 0 5) (Nat.le_refl _) hc2 hsz
    have hbl : Below w.heap.size w (w.drew.alloc (.cells (Builtin.zeroCells (Value.int .u8 0).cells n ++ Builtin.zeroCells (Value.int .u8 0).cells (grownCap w n 0 5 - n)) 5)) := (Below.refl _ _).drew.alloc (Nat.le_refl _) _
    generalize w.drew.alloc (.cells (Builtin.zeroCells (Value.int .u8 0).cells n ++ Builtin.zeroCells (Value.int .u8 0).cells (grownCap w n 0 5 - n)) 5) = w2 at *
    generalize grownCap w n 0 5 = C at *
    have HOWN := Lib.hid hown
    clear hown hsz hi hz h1 h2
    go_enter Try.func54, Try.ntmps54
    go_wp2_with (at_builtin; refine Lib.wpList_append_run _ rfl _ _ _ _ rfl _ _ rfl rfl _ _ (hr _) ?_)
    go_ret
    exact ⟨_, _, rfl, HOWN.out, hbl⟩
  · obtain rfl : n = 0 := by omega
    go_enter Try.func54, Try.ntmps54
    go_wp2
    go_ret
    exact ⟨none, 0, rfl, World.ownsRow_nil _ _ _ _, Below.refl _ _⟩
set_option maxRecDepth 100000 in
set_option maxHeartbeats 1000000 in
theorem concat_b (w : World) (A : Option Addr) (ps : List (List UInt8)) (n c : Nat) (hp : Prt w w.heap.size A ps) (hl : ps.length = n) (hn : n ≤ 4294967296) (hsz : ps.flatten.length ≤ 70368744177664) :
    Calls Try.prog 49 #[.slice A n c] w fun e w' => ∃ A' m c', e = .returned (.slice A' m c') ∧ Res w' w.heap.size 5 A' m c' ps.flatten ∧ Below w.heap.size w w' := by
  have HL := Lib.hid hl
  have HZ := Lib.hid hsz
  clear hl hsz
  go_enter Try.func49, Try.ntmps49
  go_wp2
  go_loopw [3, 11] (fun s i wr => ∃ k m : Nat, k ≤ n ∧ i = .int .i64 (k : Int) ∧ s = .int .i64 (m : Int) ∧ Hid (m = (ps.take k).flatten.length) ∧ wr = w) (fun _ i _ => n - (intOf i).toNat)
  case atStart => exact ⟨0, 0, Nat.zero_le _, rfl, rfl, show _ = _ by simp, rfl⟩
  case round =>
    obtain ⟨k, m, hk, rfl, rfl, hm, rfl⟩ := hrel
    have hm2 : m ≤ 70368744177664 := by
      have h1 := flat_le ps k
      have h2 := HZ.out
      rw [hm.out]; omega
    by_cases h0 : k < n
    · obtain ⟨b, o, Aj, nj, cj, p, rfl, hb, hc, hpk, hpn, hjc, hby⟩ := hp.at_ (k := k) (by rw [HL.out]; exact h0)
      have hm3 : Hid (m + nj = (ps.take (k + 1)).flatten.length) := by
        show _ = _
        rw [flat_take hpk.out, List.length_append, ← hm.out, hpn.out]
      have hm4 : m + nj ≤ 70368744177664 := by
        have h1 := flat_le ps (k + 1)
        have h2 := HZ.out
        rw [hm3.out]; omega
      clear hp
      go_wp2
      go_roundw
      case rel => exact ⟨k + 1, m + nj, by omega, by go_num, by go_num, hm3, trivial⟩
      case measure => simp [intOf]; omega
    · obtain rfl : k = n := by omega
      have hgrow := grow_b wr m (by omega)
      go_wp2_with fail
      refine hgrow.mono ?_
      rintro e w1 ⟨A0, c0, rfl, hr0, hb0⟩
      clear hgrow
      have HR := Lib.hid hr0
      clear hr0
      go_wp2_with fail
      obtain ⟨Y0, h⟩ : ∃ Y0, Y0 = wr := ⟨_, rfl⟩
      subst h
      go_loopw [6, 27] (fun s i wr => ∃ (k' m' c' : Nat) (A' : Option Addr) (X : List UInt8), k' ≤ k ∧ i = .int .i64 (k' : Int) ∧ s = .slice A' m' c' ∧ Hid (X = (ps.take k').flatten) ∧ Hid (Res wr Y0.heap.size 5 A' m' c' X) ∧ Below Y0.heap.size Y0 wr) (fun _ i _ => k - (intOf i).toNat)
      case atStart => exact ⟨0, 0, c0, A0, [], Nat.zero_le _, rfl, rfl, show _ = _ by simp, HR, hb0⟩
      case round =>
        clear HR hb0
        obtain ⟨k', m', c', A', X, hk', rfl, rfl, hX, HR, hb⟩ := hrel
        have hm5 : m' ≤ 70368744177664 := by
          have h1 := flat_le ps k'
          have h2 := HZ.out
          have h3 := HR.out.len
          rw [hX.out] at h3; omega
        by_cases h0 : k' < k
        · obtain ⟨b, o, Aj, nj, cj, p, rfl, hbb, hc, hpk, hpn, hjc, hby⟩ := (hp.below hb).at_ (k := k') (by rw [HL.out]; exact h0)
          have hX2 : Hid (X ++ p = (ps.take (k' + 1)).flatten) := by
            show _ = _
            rw [flat_take hpk.out, ← hX.out]
          have hm6 : m' + nj ≤ 70368744177664 := by
            have h1 := flat_le ps (k' + 1)
            have h2 := HZ.out
            have h3 := HR.out.len
            rw [← hX2.out, List.length_append, h3, hpn.out] at h1; omega
          go_wp2_with (at_builtin; refine wp_append_src _ rfl _ _ 29 rfl 5 Try.underlying29 Try.infoByte Y0.heap.size A' m' c' X rfl HR.out Aj nj cj rfl _ p hby hpn.out (by omega) hb.size ?_; intro A2 c2 w2 hr2 hup)
          go_roundw
          case rel => exact ⟨k' + 1, m' + nj, c2, A2, _, by omega, by go_num, rfl, hX2, hr2, hup _ _ (Nat.le_refl _) hb⟩
          case measure => simp [intOf]; omega
        · obtain rfl : k' = k := by omega
          have hX3 : X = ps.flatten := by
            rw [hX.out, List.take_of_length_le (by rw [HL.out]; exact Nat.le_refl _)]
          clear hX
          subst hX3
          clear hp
          go_wp2
          go_ret
          exact ⟨A', m', c', rfl, HR.out, hb⟩
set_option maxRecDepth 100000 in
theorem clone_b (w : World) (A : Option Addr) (l : List UInt8) (n c : Nat) (ha : Byt w w.heap.size A l) (hl : l.length = n) (hn : n ≤ 70368744177664) :
    Calls Try.prog 43 #[.slice A n c] w fun e w' => ∃ A' c', e = .returned (.slice A' n c') ∧ Res w' w.heap.size 5 A' n c' l ∧ Below w.heap.size w w' := by
  have HL := Lib.hid hl
  cases A with
  | none =>
    have h0 : l = [] := by
      rcases ha with h | ⟨_, _, h, _⟩
      · exact h
      · cases h
    subst h0
    obtain rfl : n = 0 := hl.symm
    clear HL hl
    have hnil := fun w0 => Lib.run_eql_slice_nil (P := Try.prog) w0 29 5 none 0 c 0 0 Try.underlying29
    go_enter Try.func43, Try.ntmps43
    go_wp2
    go_ret
    exact ⟨none, 0, rfl, World.ownsRow_nil _ _ _ _, Below.refl _ _⟩
  | some ad =>
    clear hl
    have hnil := fun w0 => Lib.run_eql_slice_nil (P := Try.prog) w0 29 5 (some ad) n c 0 0 Try.underlying29
    go_enter Try.func43, Try.ntmps43
    go_wp2_with (at_builtin; refine wp_append_src _ rfl _ _ 29 rfl 5 Try.underlying29 Try.infoByte w.heap.size (some ⟨w.heap.size, 0, none⟩) 0 0 [] rfl (Res.none_lit w _ _ (Nat.le_refl _)) (some ad) n c rfl _ l (ha.alloc (Nat.le_refl _) _) HL.out (by omega) (by simp) ?_)
    intro A1 c1 w1 hr1 hb1
    have hb2 := hb1 w.heap.size w (Nat.le_refl _) ((Below.refl _ _).alloc (Nat.le_refl _) _)
    clear hb1
    have hr2 : Res w1 w.heap.size 5 A1 n c1 l := by
      have h := hr1
      simpa using h
    clear hr1
    go_wp2
    go_ret
    exact ⟨A1, c1, rfl, hr2, hb2⟩
end Go.Proofs.Ytabgkkdgamacnaa
