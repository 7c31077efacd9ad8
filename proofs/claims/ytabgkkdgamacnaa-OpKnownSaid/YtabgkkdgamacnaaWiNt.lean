/-
  Contracts of wire.Bytes and Text: what was there, and what is written behind it. Conditions: fewer than 2^45 bytes.
-/
import Derived.Test.YtabgkkdgamacnaaWiNu
import Derived.Test.YtabgkkdgamacnaaByn
import Derived.Test.YtabgkkdgamacnaaCvt
namespace Go.Proofs.Ytabgkkdgamacnaa
open Go.RowKit

/-- A list of three lists. -/
theorem Prt.three {w : World} {E : TypeId} {A D G : Option Addr} {l m p : List UInt8} {n c k d q f : Nat} (ha : Byt w w.heap.size A l) (hl : l.length = n) (hc : n ≤ c) (hd : Byt w w.heap.size D m) (hm : m.length = k) (hk : k ≤ d) (hg : Byt w w.heap.size G p) (hp : p.length = q) (hq : q ≤ f) :
    Prt (w.alloc (.cells #[.slice A n c, .slice D k d, .slice G q f] E)) (w.alloc (.cells #[.slice A n c, .slice D k d, .slice G q f] E)).heap.size (some ⟨w.heap.size, 0, none⟩) [l, m, p] := by
  refine .inr ⟨w.heap.size, 0, rfl, by simp, fun j x hj => ?_⟩
  match j, hj with
  | 0, hj =>
    simp at hj
    subst hj
    exact ⟨A, n, c, by simp, hl, hc, (ha.alloc (Nat.le_refl _) _).up (by simp)⟩
  | 1, hj =>
    simp at hj
    subst hj
    exact ⟨D, k, d, by simp, hm, hk, (hd.alloc (Nat.le_refl _) _).up (by simp)⟩
  | 2, hj =>
    simp at hj
    subst hj
    exact ⟨G, q, f, by simp, hp, hq, (hg.alloc (Nat.le_refl _) _).up (by simp)⟩

set_option maxRecDepth 100000 in
theorem wbytes_any (w : World) (A : Option Addr) (l : List UInt8) (n c : Nat) (D : Option Addr) (m : List UInt8) (k d : Nat) (ha : Byt w w.heap.size A l) (hl : l.length = n) (hc : n ≤ c) (hn : n ≤ 35184372088832) (hd : Byt w w.heap.size D m) (hm : m.length = k) (hkd : k ≤ d) (hk : k ≤ 35184372088000) :
    Calls Try.prog 51 #[.slice A n c, .slice D k d] w fun e w' => ∃ A' m' c', e = .returned (.slice A' m' c') ∧ Res w' w.heap.size 5 A' m' c' (l ++ (gr k ++ m)) ∧ Below w.heap.size w w' := by
  have hgr := groups_any w (k : Int) k (by omega) (by omega)
  have HGL := Lib.hid (gr_le k)
  obtain ⟨G, hG⟩ : ∃ G, G = gr k := ⟨_, rfl⟩
  rw [← hG] at hgr HGL
  rw [← hG]
  have HL := Lib.hid hl
  have HM := Lib.hid hm
  clear hl hm hG
  go_enter Try.func51, Try.ntmps51
  go_wp2_with fail
  refine hgr.mono ?_
  rintro e w1 ⟨A1, n1, c1, rfl, hr1, hb1⟩
  have hprt := Prt.three (E := 29) (ha.next hb1) HL.out hc hr1.byt hr1.len hr1.cap (hd.next hb1) HM.out hkd
  have hcat := concat_b _ _ _ 3 3 hprt rfl (by decide) (by simp only [List.flatten_cons, List.flatten_nil, List.append_nil, List.length_append, HL.out, HM.out]; have := HGL.out; omega)
  have hba := hb1.alloc hb1.size (.cells #[.slice A n c, .slice A1 n1 c1, .slice D k d] 29)
  clear hprt hgr
  go_wp2_with fail
  refine hcat.mono ?_
  rintro e w2 ⟨A2, n2, c2, rfl, hr2, hb2⟩
  have hr3 : Res w2 w.heap.size 5 A2 n2 c2 (l ++ (G ++ m)) := by
    have h := hr2.base_le hba.size
    simpa using h
  have hb3 := below_next hba hba.size hb2
  clear hr2 hcat
  go_wp2
  go_ret
  exact ⟨A2, n2, c2, rfl, hr3, hb3⟩
set_option maxRecDepth 100000 in
theorem wtext_any (w : World) (A : Option Addr) (l : List UInt8) (n c : Nat) (s : ByteArray) (ha : Byt w w.heap.size A l) (hl : l.length = n) (hc : n ≤ c) (hn : n ≤ 35184372088832) (hs : s.size ≤ 35184372088000) :
    Calls Try.prog 29 #[.slice A n c, .string s] w fun e w' => ∃ A' m' c', e = .returned (.slice A' m' c') ∧ Res w' w.heap.size 5 A' m' c' (l ++ (gr s.size ++ s.data.toList)) ∧ Below w.heap.size w w' := by
  have hcv := Lib.run_convert_string_bytes (P := Try.prog) w 9 29 5 s Try.underlying9 Try.underlying29 Try.underlying5
  have hby := bytesWorld_byt w 5 s
  have hbl := bytesWorld_below w 5 s
  have hcap := grownCap_ge w s.size 0 5
  generalize Lib.bytesWorld w 5 s = W at *
  generalize grownCap w s.size 0 5 = C at *
  have hwb := wbytes_any W A l n c (some ⟨w.heap.size, 0, none⟩) s.data.toList s.size C (ha.next hbl) hl hc hn hby (by simp) hcap hs
  obtain ⟨T, hT⟩ : ∃ T, T = l ++ (gr s.size ++ s.data.toList) := ⟨_, rfl⟩
  rw [← hT] at hwb
  rw [← hT]
  clear hl hT hby
  go_enter Try.func29, Try.ntmps29
  go_wp2_with fail
  refine hwb.mono ?_
  rintro e w2 ⟨A2, n2, c2, rfl, hr2, hb2⟩
  go_wp2
  go_ret
  exact ⟨A2, n2, c2, rfl, hr2.base_le hbl.size, below_next hbl hbl.size hb2⟩
end Go.Proofs.Ytabgkkdgamacnaa
