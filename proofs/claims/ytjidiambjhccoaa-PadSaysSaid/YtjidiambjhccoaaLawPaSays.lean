/-
  PadSays: the law's Go text returns true, whatever the number and the two lists. Conditions: a number of 64 bits; the slices lie in memory.
-/
import Derived.Test.YtjidiambjhccoaaPaW
import Derived.Test.YtjidiambjhccoaaPaP
import Derived.Test.YtjidiambjhccoaaPaU
import Derived.Test.YtjidiambjhccoaaRf12U
namespace Go.Proofs.Ytjidiambjhccoaa
open Go.RowKit

theorem bucket_both (v : Int) : ∃ x e : Int, (∀ w, Calls Try.prog 8 #[.int .i64 v] w fun r w' => r = .returned (.tuple #[.int .i64 x, .int .i64 e]) ∧ w' = w) ∧
    ∀ w, Calls Try.prog 11 #[.int .i64 v] w fun r w' => r = .returned (.tuple #[.int .i64 x, .int .i64 e]) ∧ w' = w := by
  by_cases h0 : v < 0
  · exact ⟨0, 1, fun w => bucket_neg w v h0, fun w => rbucket_neg w v h0⟩
  by_cases h1 : 65536 ≤ v
  · exact ⟨0, 2, fun w => bucket_over w v h1, fun w => rbucket_over w v h1⟩
  obtain ⟨n, rfl⟩ : ∃ n : Nat, v = (n : Int) := ⟨v.toNat, by omega⟩
  refine ⟨bkt n, 0, fun w => (bucket_ok w n (by omega)).mono ?_, fun w => (rbucket_ok w n (by omega)).mono ?_⟩
  · rintro e w' ⟨s, rfl, hs, _, _, _, rfl⟩
    rw [hs.out]; exact ⟨rfl, rfl⟩
  · rintro e w' ⟨s, rfl, hs, _, _, _, rfl⟩
    rw [hs.out]; exact ⟨rfl, rfl⟩
theorem conv12 {w : World} {B : Nat} {A : Option Addr} {l : List UInt8} (n c : Nat) (h : Byt w B A l) (hn : l.length = n) : (convert 26 9 (.slice A n c)).run Try.prog w = .ok (.string ⟨l.toArray⟩) w :=
  conv_bytes (P := Try.prog) Try.underlying26 Try.underlying5 Try.underlying9 h n c hn

set_option maxRecDepth 100000 in
set_option maxHeartbeats 2000000 in
theorem walk_PadSays (w : World) (v : Int) (_ : (Lit.int .i64 v).wf = true) (A : Option Addr) (l : List UInt8) (n c : Nat) (ha : Byt w w.heap.size A l) (hl : l.length = n) (_ : n ≤ c)
    (D : Option Addr) (b : List UInt8) (k d : Nat) (hd : Byt w w.heap.size D b) (hb : b.length = k) (hkd : k ≤ d) :
    Calls Try.prog 4 #[.int .i64 v, .slice A n c, .slice D k d] w fun e w' => e = .returned (.bool true) ∧ Below w.heap.size w w' := by
  obtain ⟨x, e0, hbk, hrk⟩ := bucket_both v
  have HL := Lib.hid hl
  have HB := Lib.hid hb
  clear hl hb
  go_enter Try.func4, Try.ntmps4
  go_wp2_with fail
  refine (awake12_any w).mono ?_
  rintro e w0 ⟨rfl, rfl⟩
  by_cases h0 : 600 < n
  · have h1 : (600 : Int) < (n : Int) := by omega
    clear hbk hrk
    go_wp2
    go_ret
    exact ⟨rfl, Below.refl _ _⟩
  by_cases h1 : 600 < k
  · have h2 : (600 : Int) < (k : Int) := by omega
    have h3 : ¬ (600 : Int) < (n : Int) := by omega
    clear hbk hrk
    go_wp2
    go_ret
    exact ⟨rfl, Below.refl _ _⟩
  have i0 : ¬ (600 : Int) < (n : Int) := by omega
  have i1 : ¬ (600 : Int) < (k : Int) := by omega
  have hp := pad_ok w0 A l n c ha HL.out (by omega)
  have hq := fun w1 (h : Below w0.heap.size w0 w1) => rpad_ok w1 A l n c ((ha.below h).up h.size) HL.out (by omega)
  clear h0
  go_wp2_with fail
  refine (hbk w0).mono ?_
  rintro e w1 ⟨rfl, rfl⟩
  clear hbk
  go_wp2_with fail
  refine (hrk w1).mono ?_
  rintro e w2 ⟨rfl, rfl⟩
  clear hrk
  go_wp2_with fail
  refine hp.mono ?_
  rintro e w3 ⟨s, P, rfl, hs, hP, _, _, _, hr3, hb3⟩
  clear hp
  have hq := hq w3 hb3
  go_wp2_with fail
  refine hq.mono ?_
  rintro e w4 ⟨s', P', rfl, hs', hP', _, _, _, hr4, hb4⟩
  clear hq
  obtain rfl : s = s' := hs.out.trans hs'.out.symm
  obtain rfl : P = P' := hP.out.trans hP'.out.symm
  have hbw4 := below_next hb3 hb3.size hb4
  have hr34 := hr3.keep hb4
  have hd4 := (hd.below hbw4).up hbw4.size
  clear hs hs' hP hP' hr3
  have hun := fun W (h : Byt W W.heap.size D b) => runpad_any W D b k d h HB.out hkd (by omega)
  have hlb := HB.out
  by_cases hm : ∃ m : List UInt8, m.length < 65536 ∧ b = padOf m
  · obtain ⟨m, hm, rfl⟩ := hm
    have hu := unpad_ok w4 D m k d hm hd4 hlb hkd
    have HM := Lib.hid hm
    clear hm hlb
    obtain ⟨b, hbm⟩ : ∃ b, b = padOf m := ⟨_, rfl⟩
    have HBM := vlt hbm
    rw [← hbm] at hun HB
    clear hbm
    go_wp2_with fail
    refine hu.mono ?_
    rintro e w5 ⟨A5, k5, c5, rfl, hl5, hr5, hb5⟩
    clear hu
    have hun := hun w5 (by have := hd4.next hb5; rwa [← HBM.out] at this)
    go_wp2_with fail
    refine hun.mono ?_
    rintro e w6 ⟨hb6, ⟨rfl, hno⟩ | ⟨k6, m', rfl, hy, hl6, hk6, hd6⟩⟩
    · exact absurd HBM.out (hno.out m HM.out)
    · clear hun
      obtain rfl : m = m' := padOf_one (HBM.out.symm.trans hy.out)
      obtain rfl : k5 = k6 := hl5.out.symm.trans hl6.out
      have hbw6 := below_next (below_next hbw4 hbw4.size hb5) (by have := hbw4.size; have := hb5.size; omega) hb6
      have hb46 := below_next hb5 hb5.size hb6
      have q1 := conv12 s s (hr34.byt.below hb46) hr34.len
      have q2 := conv12 s s (hr4.byt.below hb46) hr4.len
      have q3 := conv12 k5 c5 (hr5.byt.below hb6) hr5.len
      have q4 := conv12 k5 d (hd6.below hb6) hl6.out
      clear hr34 hr4 hr5 hb46 hd6 hb5 hb6 hd4 hb4 hb3 hy
      go_wp2
      go_ret
      exact ⟨rfl, hbw6⟩
  · have hno : ∀ m : List UInt8, m.length < 65536 → b ≠ padOf m := fun m h e => hm ⟨m, h, e⟩
    have HNO := vlt hno
    have hu := unpad_no w4 D b k d hd4 hlb hkd (by omega) hno
    have hun := hun w4 hd4
    clear hm hlb hno
    go_wp2_with fail
    refine hu.mono ?_
    rintro e w5 ⟨rfl, rfl⟩
    clear hu
    go_wp2_with fail
    refine hun.mono ?_
    rintro e w6 ⟨hb6, ⟨rfl, hno⟩ | ⟨k6, m', rfl, hy, hl6, hk6, hd6⟩⟩
    · clear hun
      have hbw6 := below_next hbw4 hbw4.size hb6
      have q1 := conv12 s s (hr34.byt.below hb6) hr34.len
      have q2 := conv12 s s (hr4.byt.below hb6) hr4.len
      have q3 := conv12 (w := w6) (B := 0) 0 0 (Byt.none_ (A := none)) rfl
      clear hr34 hr4 hd4 hb4 hb3 hno hb6
      go_wp2
      go_ret
      exact ⟨rfl, hbw6⟩
    · refine absurd hy.out (HNO.out m' ?_)
      rw [hl6.out]; omega
end Go.Proofs.Ytjidiambjhccoaa
