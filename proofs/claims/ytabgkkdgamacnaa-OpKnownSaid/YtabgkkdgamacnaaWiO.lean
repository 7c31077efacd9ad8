/-
  The reader in memory, and the contracts of its inner calls spoil and take. Conditions: the reader lies in a block of its own, apart from the bytes that it has.
-/
import Derived.Test.YtabgkkdgamacnaaWiF
import Derived.Test.YtabgkkdgamacnaaSlB
namespace Go.Proofs.Ytabgkkdgamacnaa
open Go.RowKit

/-- Bytes in blocks from lo to hi, apart from g. -/
def SrcIn (w : World) (lo hi g : Nat) (A : Option Addr) (m : List UInt8) : Prop :=
  m = [] ∨ ∃ b o, A = some ⟨b, o, none⟩ ∧ b ≠ g ∧ lo ≤ b ∧ b < hi ∧ ∀ j x, m[j]? = some x → w.cell? ⟨b, o + j, none⟩ = some (.int .u8 (x.toNat : Int))
/-- A reader at g: the bytes l are left to it; is it bad? It and they lie in blocks from lo to hi. -/
def RdIs (w : World) (lo hi g : Nat) (l : List UInt8) (bad : Bool) : Prop :=
  (lo ≤ g ∧ g < hi ∧ hi ≤ w.heap.size) ∧ ∃ A n c, w.heap[g]? = some (.cells #[.slice A n c, .bool bad] 70 (0, 0)) ∧ SrcIn w lo hi g A l ∧ l.length = n ∧ n ≤ c
section
variable {w w' : World} {lo hi g h k c : Nat} {A : Option Addr} {l m : List UInt8} {bad : Bool}
theorem SrcIn.byt (hs : SrcIn w lo hi g A m) (hz : hi ≤ w.heap.size) : Byt w w.heap.size A m := by
  rcases hs with h | ⟨b, o, hA, hne, h1, h2, hc⟩
  · exact .inl h
  · exact .inr ⟨b, o, hA, by omega, hc⟩
/-- What turns is another block. -/
theorem SrcIn.keep (hs : SrcIn w lo hi g A m) (hb : ∀ k, lo ≤ k → k < hi → k ≠ g → w'.heap[k]? = w.heap[k]?) : SrcIn w' lo hi g A m := by
  rcases hs with h | ⟨b, o, hA, hne, h1, h2, hc⟩
  · exact .inl h
  · exact .inr ⟨b, o, hA, hne, h1, h2, fun j x hj => (World.cell?_of_block (w := w) (hb b h1 h2 hne)).trans (hc j x hj)⟩
theorem SrcIn.but (hs : SrcIn w lo hi g A m) (hb : But g w w') (hz : hi ≤ w.heap.size) : SrcIn w' lo hi g A m :=
  hs.keep fun k _ hk hne => hb.block k (by omega) (fun e => hne (by injection e))
theorem SrcIn.cut (hs : SrcIn w lo hi g A m) (t c : Nat) (hc : m.length ≤ c) : SrcIn w lo hi g (if c = t then A else A.map (·.add t)) (m.drop t) := by
  rcases hs with h | ⟨b, o, rfl, hne, h1, h2, hcell⟩
  · subst h; exact .inl (by simp)
  · by_cases ht : c = t
    · exact .inl (List.drop_eq_nil_of_le (by omega))
    · rw [if_neg ht]
      refine .inr ⟨b, o + t, by rw [Option.map_some, addr_add], hne, h1, h2, fun j x hj => ?_⟩
      rw [List.getElem?_drop] at hj
      rw [Nat.add_assoc]; exact hcell _ x hj
theorem SrcIn.take (hs : SrcIn w lo hi g A m) (k : Nat) : SrcIn w lo hi g A (m.take k) := by
  rcases hs with h | ⟨b, o, hA, hne, h1, h2, hc⟩
  · subst h; exact .inl (by simp)
  · refine .inr ⟨b, o, hA, hne, h1, h2, fun j x hj => hc j x ?_⟩
    have hjk : j < k := by
      have := (List.getElem?_eq_some_iff.1 hj).1
      simp at this; omega
    rwa [List.getElem?_take_of_lt hjk] at hj
theorem RdIs.lt (h : RdIs w lo hi g l bad) : g < w.heap.size := Nat.lt_of_lt_of_le h.1.2.1 h.1.2.2
theorem RdIs.keep (h : RdIs w lo hi g l bad) (hb : ∀ k, lo ≤ k → k < hi → w'.heap[k]? = w.heap[k]?) (hz : w.heap.size ≤ w'.heap.size) : RdIs w' lo hi g l bad := by
  obtain ⟨h0, A, n, c, h1, h2, h3⟩ := h
  exact ⟨⟨h0.1, h0.2.1, by omega⟩, A, n, c, (hb g h0.1 h0.2.1).trans h1, h2.keep (fun k h4 h5 _ => hb k h4 h5), h3⟩
/-- Whatever lies below is as it was. -/
theorem RdIs.next (h : RdIs w lo hi g l bad) (hb : Below w.heap.size w w') : RdIs w' lo hi g l bad :=
  h.keep (fun k _ hk => hb.block k (by have := h.1.2.2; omega)) hb.size
/-- A block apart from the reader's has turned. -/
theorem RdIs.far (h : RdIs w lo hi g l bad) (hb : But k w w') (hk : k < lo ∨ hi ≤ k) : RdIs w' lo hi g l bad :=
  h.keep (fun i h1 h2 => hb.block i (by have := h.1.2.2; omega) (fun e => by injection e; omega)) hb.size
theorem RdIs.drew (h : RdIs w lo hi g l bad) : RdIs w.drew lo hi g l bad := h
theorem RdIs.row2 (h0 : lo ≤ g ∧ g < hi ∧ hi ≤ w.heap.size) {n : Nat} (hr : w.heap[g]? = some (.cells #[.slice A n c, .bool bad] 70 (0, 0))) (hs : SrcIn w lo hi g A l) (hl : l.length = n) (hc : n ≤ c) : RdIs w lo hi g l bad := ⟨h0, A, n, c, hr, hs, hl, hc⟩
end
/-- Bytes that lie below, apart from the block that has turned. -/
theorem Byt.past {w w' : World} {g : Nat} {A : Option Addr} {l : List UInt8} {B : Nat} (h : Byt w B A l) (hb : But g w w') (hB : B ≤ g) (hg : g < w.heap.size) : Byt w' B A l :=
  h.keep fun p hp => World.cell?_of_block (hb.block p.block (by omega) (fun e => by injection e; omega))

set_option maxRecDepth 100000 in
theorem spoil_any (w : World) (lo hi g : Nat) (l : List UInt8) (bad : Bool) (hr : RdIs w lo hi g l bad) :
    Calls Try.prog 45 #[.pointer (some ⟨g, 0, none⟩)] w fun e w' => e = .returned (.tuple #[]) ∧ RdIs w' lo hi g [] true ∧ But g w w' := by
  obtain ⟨hh0, A, n, c, hrow, hs, hl, hc⟩ := hr
  have c0 : w.cell? ⟨g, 0, none⟩ = some (.slice A n c) := by rw [cell_of_row _ _ _ _ _ _ hrow]; rfl
  have c1 : w.cell? ⟨g, 1, none⟩ = some (.bool bad) := by rw [cell_of_row _ _ _ _ _ _ hrow]; rfl
  have f0 : w.frozen? ⟨g, 0, none⟩ = false := frozen_of_row _ _ _ _ _ hrow
  have f1 : w.frozen? ⟨g, 1, none⟩ = false := frozen_of_row _ _ _ _ _ hrow
  have h1 := world_set_cell (cs := [.slice A n c, .bool bad]) hrow 0 (.slice none 0 0)
  have h2 := world_set_cell h1.out 1 (.bool true)
  have hb := ((But.refl g w).set (i := 0) (.slice none 0 0)).set (i := 1) (.bool true)
  have HROW := Lib.hid hrow
  clear hrow hs hl hc h1
  go_enter Try.func45, Try.ntmps45
  go_wp2
  go_end0
  exact ⟨rfl, RdIs.row2 ⟨hh0.1, hh0.2.1, Nat.le_trans hh0.2.2 hb.size⟩ h2.out (.inl rfl) rfl (Nat.le_refl _), hb⟩

set_option maxRecDepth 100000 in
theorem take_no (w : World) (lo hi g : Nat) (l : List UInt8) (bad : Bool) (k : Nat) (hr : RdIs w lo hi g l bad) (hk : l.length < k) :
    Calls Try.prog 46 #[.pointer (some ⟨g, 0, none⟩), .int .i64 (k : Int)] w fun e w' => e = .returned (.slice none 0 0) ∧ RdIs w' lo hi g [] true ∧ But g w w' := by
  have hsp := spoil_any w lo hi g l bad hr
  obtain ⟨hh0, A, n, c, hrow, hs, hl, hc⟩ := hr
  have hkn : (n : Int) < (k : Int) := by omega
  have c0 : w.cell? ⟨g, 0, none⟩ = some (.slice A n c) := by rw [cell_of_row _ _ _ _ _ _ hrow]; rfl
  clear hrow hs hl hc hk
  go_enter Try.func46, Try.ntmps46
  go_wp2_with fail
  refine hsp.mono ?_
  rintro e w1 ⟨rfl, hr1, hb1⟩
  go_wp2
  go_ret
  exact ⟨rfl, hr1, hb1⟩

set_option maxRecDepth 100000 in
theorem take_ok (w : World) (lo hi g : Nat) (l : List UInt8) (bad : Bool) (k : Nat) (hr : RdIs w lo hi g l bad) (hk : k ≤ l.length) :
    Calls Try.prog 46 #[.pointer (some ⟨g, 0, none⟩), .int .i64 (k : Int)] w fun e w' => ∃ A c, e = .returned (.slice A k c) ∧ k ≤ c ∧ SrcIn w' lo hi g A (l.take k) ∧ RdIs w' lo hi g (l.drop k) bad ∧ But g w w' := by
  obtain ⟨hh0, A, n, c, hrow, hs, hl, hc⟩ := hr
  have hkn : ¬ (n : Int) < (k : Int) := by omega
  have hkn2 : k ≤ n := by omega
  have c0 : w.cell? ⟨g, 0, none⟩ = some (.slice A n c) := by rw [cell_of_row _ _ _ _ _ _ hrow]; rfl
  have f0 : w.frozen? ⟨g, 0, none⟩ = false := frozen_of_row _ _ _ _ _ hrow
  have hcut := fun w0 => run_cut_h (P := Try.prog) Try.underlying29 Try.sizeByte A n c k (k : Int) rfl (by omega) w0
  have hcut2 := fun w0 => run_cut_l (P := Try.prog) Try.underlying29 Try.sizeByte A n c k (k : Int) rfl hkn2 w0
  obtain ⟨A2, hA2⟩ : ∃ A2, A2 = (if c = k then A else A.map (·.add k)) := ⟨_, rfl⟩
  have hs2 := hs.cut k c (by omega)
  rw [← hA2] at hs2
  simp only [← hA2] at hcut2
  obtain ⟨n2, hn2⟩ : ∃ n2, n2 = n - k := ⟨_, rfl⟩
  obtain ⟨c2, hc2⟩ : ∃ c2, c2 = c - k := ⟨_, rfl⟩
  simp only [← hn2, ← hc2] at hcut2
  have h1 := world_set_cell (cs := [.slice A n c, .bool bad]) hrow 0 (.slice A2 n2 c2)
  have hb := (But.refl g w).set (i := 0) (.slice A2 n2 c2)
  have HS := Lib.hid hs
  have HL2 := Lib.hid (show (l.drop k).length = n2 by rw [List.length_drop, hl, hn2])
  have hnc2 : n2 ≤ c2 := by omega
  have hkc : k ≤ c := by omega
  clear hrow hl hk hA2 hn2 hc2 hs
  go_enter Try.func46, Try.ntmps46
  go_wp2
  go_ret
  exact ⟨A, c, rfl, hkc, (HS.out.take k).but hb hh0.2.2, RdIs.row2 ⟨hh0.1, hh0.2.1, Nat.le_trans hh0.2.2 hb.size⟩ h1.out (hs2.but hb hh0.2.2) HL2.out hnc2, hb⟩
end Go.Proofs.Ytabgkkdgamacnaa
