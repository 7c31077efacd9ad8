/-
  Contract of wire.Num: what was there, and the number's bytes behind it. Conditions: fewer than 2^45 bytes.
-/
import Derived.Test.YtabgkkdgamacnaaWiG
import Derived.Test.YtabgkkdgamacnaaSlB
import Derived.Test.YtabgkkdgamacnaaByn
namespace Go.Proofs.Ytabgkkdgamacnaa
open Go.RowKit

set_option maxRecDepth 100000 in
theorem wnum_any (w : World) (A : Option Addr) (l : List UInt8) (n c : Nat) (v : Int) (x : Nat) (ha : Byt w w.heap.size A l) (hl : l.length = n) (hc : n ≤ c) (hn : n ≤ 35184372088832) (hx : x < 9223372036854775808) (hv : max v 0 = (x : Int)) :
    Calls Try.prog 27 #[.slice A n c, .int .i64 v] w fun e w' => ∃ A' m c', e = .returned (.slice A' m c') ∧ Res w' w.heap.size 5 A' m c' (l ++ gr x) ∧ Below w.heap.size w w' := by
  have hgr := groups_any w v x hx hv
  have HGL := Lib.hid (gr_le x)
  obtain ⟨G, hG⟩ : ∃ G, G = gr x := ⟨_, rfl⟩
  rw [← hG] at hgr HGL
  rw [← hG]
  have HL := Lib.hid hl
  clear hl hG
  go_enter Try.func27, Try.ntmps27
  go_wp2_with fail
  refine hgr.mono ?_
  rintro e w1 ⟨A1, n1, c1, rfl, hr1, hb1⟩
  have hprt := Prt.two (E := 29) (ha.next hb1) HL.out hc hr1.byt hr1.len hr1.cap
  have hcat := concat_b _ _ _ 2 2 hprt rfl (by decide) (by simp only [List.flatten_cons, List.flatten_nil, List.append_nil, List.length_append, HL.out]; have := HGL.out; omega)
  have hba := hb1.alloc hb1.size (.cells #[.slice A n c, .slice A1 n1 c1] 29)
  clear hprt hgr
  go_wp2_with fail
  refine hcat.mono ?_
  rintro e w2 ⟨A2, n2, c2, rfl, hr2, hb2⟩
  have hr3 : Res w2 w.heap.size 5 A2 n2 c2 (l ++ G) := by
    have h := hr2.base_le hba.size
    simpa using h
  have hb3 := below_next hba hba.size hb2
  clear hr2 hcat
  go_wp2
  go_ret
  exact ⟨A2, n2, c2, rfl, hr3, hb3⟩
end Go.Proofs.Ytabgkkdgamacnaa
