/-
  Contracts of a reader's counted and Text. Conditions: the reader lies in a block of its own, apart from the bytes that it has; fewer than 2^46 bytes.
-/
import Derived.Test.YtabgkkdgamacnaaWiR
import Derived.Test.YtabgkkdgamacnaaRegC
namespace Go.Proofs.Ytabgkkdgamacnaa
open Go.RowKit

theorem But.toBelow {g B : Nat} {w w' : World} (h : But g w w') (hg : B ≤ g) (hB : B ≤ w.heap.size) : Below B w w' := ⟨h.os, h.tape, h.output, h.size, fun i hi => h.block i (by omega) (fun e => by injection e; omega)⟩

set_option maxRecDepth 100000 in
theorem counted_ok (w : World) (lo hi g : Nat) (l : List UInt8) (bad : Bool) (most : Int) (x s : Nat) (hr : RdIs w lo hi g l bad) (hf : Vlt (frontOf l = (x, s))) (hs : 0 < s) (hx : (x : Int) ≤ max most 0) (hx2 : x ≤ (l.drop s).length) :
    Calls Try.prog 48 #[.pointer (some ⟨g, 0, none⟩), .int .i64 most] w fun e w' => ∃ A c, e = .returned (.slice A x c) ∧ x ≤ c ∧ SrcIn w' lo hi g A ((l.drop s).take x) ∧ RdIs w' lo hi g ((l.drop s).drop x) bad ∧ But g w w' := by
  have hnum := num_ok w lo hi g l bad most x s hr hf hs hx
  go_enter Try.func48, Try.ntmps48
  go_wp2_with fail
  refine hnum.mono ?_
  rintro e w1 ⟨rfl, hr1, hb1⟩
  have htk := take_ok w1 lo hi g (l.drop s) bad x hr1 hx2
  go_wp2_with fail
  refine htk.mono ?_
  rintro e w2 ⟨A2, c2, rfl, hc2, hs2, hr2, hb2⟩
  go_wp2
  go_ret
  exact ⟨A2, c2, rfl, hc2, hs2, hr2, hb1.trans hb2⟩
set_option maxRecDepth 100000 in
theorem counted_short (w : World) (lo hi g : Nat) (l : List UInt8) (bad : Bool) (most : Int) (x s : Nat) (hr : RdIs w lo hi g l bad) (hf : Vlt (frontOf l = (x, s))) (hs : 0 < s) (hx : (x : Int) ≤ max most 0) (hx2 : (l.drop s).length < x) :
    Calls Try.prog 48 #[.pointer (some ⟨g, 0, none⟩), .int .i64 most] w fun e w' => e = .returned (.slice none 0 0) ∧ RdIs w' lo hi g [] true ∧ But g w w' := by
  have hnum := num_ok w lo hi g l bad most x s hr hf hs hx
  go_enter Try.func48, Try.ntmps48
  go_wp2_with fail
  refine hnum.mono ?_
  rintro e w1 ⟨rfl, hr1, hb1⟩
  have htk := take_no w1 lo hi g (l.drop s) bad x hr1 hx2
  go_wp2_with fail
  refine htk.mono ?_
  rintro e w2 ⟨rfl, hr2, hb2⟩
  go_wp2
  go_ret
  exact ⟨rfl, hr2, hb1.trans hb2⟩

set_option maxRecDepth 100000 in
theorem rtext_ok (w : World) (lo hi g : Nat) (l : List UInt8) (bad : Bool) (most : Int) (x s : Nat) (hr : RdIs w lo hi g l bad) (hf : Vlt (frontOf l = (x, s))) (hs : 0 < s) (hx : (x : Int) ≤ max most 0) (hx2 : x ≤ (l.drop s).length) :
    Calls Try.prog 25 #[.pointer (some ⟨g, 0, none⟩), .int .i64 most] w fun e w' => e = .returned (.string ⟨((l.drop s).take x).toArray⟩) ∧ RdIs w' lo hi g ((l.drop s).drop x) bad ∧ But g w w' := by
  have hcn := counted_ok w lo hi g l bad most x s hr hf hs hx hx2
  have hlen : ((l.drop s).take x).length = x := by rw [List.length_take]; omega
  obtain ⟨T, hT⟩ : ∃ T, T = (l.drop s).take x := ⟨_, rfl⟩
  rw [← hT] at hcn hlen
  rw [← hT]
  have HLEN := Lib.hid hlen
  clear hT hlen hx2 hx hs hf hr
  go_enter Try.func25, Try.ntmps25
  go_wp2_with fail
  refine hcn.mono ?_
  rintro e w1 ⟨A1, c1, rfl, hc1, hs1, hr1, hb1⟩
  have hcv := conv_bytes (P := Try.prog) Try.underlying29 Try.underlying5 Try.underlying9 (hs1.byt hr1.1.2.2) x c1 HLEN.out
  go_wp2
  go_ret
  exact ⟨rfl, hr1, hb1⟩
end Go.Proofs.Ytabgkkdgamacnaa
