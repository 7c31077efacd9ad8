/-
  PadBack: the law's Go text returns true, whatever the two lists. Conditions: the slices lie in memory.
-/
import Derived.Test.YtjidiambjhccoaaPaW
import Derived.Test.YtjidiambjhccoaaPaP
import Derived.Test.YtjidiambjhccoaaPaU
import Derived.Test.YtjidiambjhccoaaByn
namespace Go.Proofs.Ytjidiambjhccoaa
open Go.RowKit

theorem convb {w : World} {B : Nat} {A : Option Addr} {l : List UInt8} (n c : Nat) (h : Byt w B A l) (hn : l.length = n) : (convert 26 9 (.slice A n c)).run Try.prog w = .ok (.string ⟨l.toArray⟩) w :=
  conv_bytes (P := Try.prog) Try.underlying26 Try.underlying5 Try.underlying9 h n c hn

set_option maxRecDepth 100000 in
set_option maxHeartbeats 2000000 in
theorem walk_PadBack (w : World) (A : Option Addr) (l : List UInt8) (n c : Nat) (ha : Byt w w.heap.size A l) (hl : l.length = n) (_ : n ≤ c)
    (D : Option Addr) (b : List UInt8) (k d : Nat) (hd : Byt w w.heap.size D b) (hb : b.length = k) (_ : k ≤ d) :
    Calls Try.prog 5 #[.slice A n c, .slice D k d] w fun e w' => e = .returned (.bool true) ∧ Below w.heap.size w w' := by
  have HL := Lib.hid hl
  have HB := Lib.hid hb
  clear hl hb
  go_enter Try.func5, Try.ntmps5
  go_wp2_with fail
  refine (awake12_any w).mono ?_
  rintro e w0 ⟨rfl, rfl⟩
  by_cases h0 : 600 < n
  · have h1 : (600 : Int) < (n : Int) := by omega
    go_wp2
    go_ret
    exact ⟨rfl, Below.refl _ _⟩
  by_cases h1 : 600 < k
  · have h2 : (600 : Int) < (k : Int) := by omega
    have h3 : ¬ (600 : Int) < (n : Int) := by omega
    go_wp2
    go_ret
    exact ⟨rfl, Below.refl _ _⟩
  have i0 : ¬ (600 : Int) < (n : Int) := by omega
  have i1 : ¬ (600 : Int) < (k : Int) := by omega
  have hp := pad_ok w0 A l n c ha HL.out (by omega)
  have hq := fun w1 (h : Below w0.heap.size w0 w1) => pad_ok w1 D b k d ((hd.below h).up h.size) HB.out (by omega)
  have h65 := Lib.hid (show l.length < 65536 by rw [HL.out]; omega)
  have hx := bucket_ok
  have n65 : n < 65536 := by omega
  have k65 : k < 65536 := by omega
  have hbx := fun W => bucket_ok W n n65
  have hby := fun W => bucket_ok W k k65
  clear h0 h1 hx n65 k65
  go_wp2_with fail
  refine hp.mono ?_
  rintro e w1 ⟨s, P, rfl, hs, hP, _, _, hs6, hr1, hb1⟩
  clear hp
  have hq := hq w1 hb1
  go_wp2_with fail
  refine hq.mono ?_
  rintro e w2 ⟨t, Q, rfl, ht, hQ, _, _, ht6, hr2, hb2⟩
  clear hq
  have hbw2 := below_next hb1 hb1.size hb2
  have hr12 := hr1.keep hb2
  have hu := unpad_ok w2 (some ⟨w0.heap.size, 0, none⟩) l s s h65.out (by rw [← hP.out]; exact hr12.byt) (by rw [← hP.out]; exact hr12.len) (Nat.le_refl _)
  have hPQ : Vlt ((P == Q) = (l == b)) := vlt (by
    rw [hP.out, hQ.out]
    by_cases h : l = b
    · subst h; simp
    · rw [show (l == b) = false by simp [h], show (padOf l == padOf b) = false by simp; exact fun e => h (padOf_one e)])
  clear hP hQ hr1
  have HS6 := Lib.hid hs6
  have HT6 := Lib.hid ht6
  clear hs6 ht6
  go_wp2_with fail
  refine hu.mono ?_
  rintro e w3 ⟨A3, n3, c3, rfl, hl3, hr3, hb3⟩
  clear hu
  obtain rfl : n = n3 := HL.out.symm.trans hl3.out
  go_wp2_with fail
  refine (hbx w3).mono ?_
  rintro e w4 ⟨x, rfl, hx, _, _, _, rfl⟩
  clear hbx
  obtain rfl : s = x := hs.out.trans hx.out.symm
  go_wp2_with fail
  refine (hby w4).mono ?_
  rintro e w5 ⟨y, rfl, hy, _, _, _, rfl⟩
  clear hby
  obtain rfl : t = y := ht.out.trans hy.out.symm
  have hbw5 := below_next hbw2 hbw2.size hb3
  have q1 := convb s s (hr12.byt.below hb3) hr12.len
  have q2 := convb t t (hr2.byt.below hb3) hr2.len
  have q3 := convb n c3 hr3.byt hr3.len
  have q4 := convb n c (ha.below hbw5) HL.out
  have q5 := convb k d (hd.below hbw5) HB.out
  clear hr12 hr2 hr3 hb1 hb2 hb3 ha hd hs ht hx hy
  go_wp2
  go_ret
  have hPQ2 := hPQ.out
  refine ⟨ret_bool (a := _) (b := true) ?_, hbw5⟩
  simp [hPQ2]
end Go.Proofs.Ytjidiambjhccoaa
