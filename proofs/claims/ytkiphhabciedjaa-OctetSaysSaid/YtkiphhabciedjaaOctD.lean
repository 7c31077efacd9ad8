/-
  Contracts of octet.Turn, octet.Xor and octet.Equal. Conditions: the slices are shorter than 2^47 bytes.
-/
import Derived.Test.YtkiphhabciedjaaOctA
import Derived.LoopTactic
import Derived.RegionTactic
import Derived.Deep.QuietTactic
import Derived.BigQuiet
import Derived.BigRegion
import Derived.Laws.BitsAllLaws
namespace Go.Proofs.Ytkiphhabciedjaa
open Go.RowKit

/-- A cell of a result, free to be written; what stands there behind a store. -/
theorem Res.cell {w : World} {base E g n c : Nat} {l : List UInt8} (h : Res w base E (some ⟨g, 0, none⟩) n c l) {j : Nat} (hj : j < n) : ∃ u, w.cell? ⟨g, j, none⟩ = some u := by
  have h1 := World.ownsRow.cellAt h j (by omega)
  have h2 : j < (bv l).length := by rw [bv_len, h.len]; exact hj
  exact ⟨_, h1.trans (List.getElem?_eq_getElem h2)⟩
theorem Res.free {w : World} {base E g n c : Nat} {l : List UInt8} (h : Res w base E (some ⟨g, 0, none⟩) n c l) (j : Nat) : w.frozen? ⟨g, j, none⟩ = false := World.ownsRow.frozenAt h j
theorem Res.put {w : World} {base E g n c : Nat} {l : List UInt8} (h : Res w base E (some ⟨g, 0, none⟩) n c l) (j : Nat) (b : UInt8) (x : Int) (hx : x = (b.toNat : Int)) :
    Res (w.setCell ⟨g, j, none⟩ (.int .u8 x)) base E (some ⟨g, 0, none⟩) n c (l.set j b) := by
  subst hx
  have h1 := (World.ownsRow.stored h j (.int .u8 (b.toNat : Int))).1
  rw [bv_set] at h1
  exact h1
theorem Res.made {w1 : World} {base E g n : Nat} (hg : w1.heap[g]? = some (.cells (bv (List.replicate n 0)).toArray E (0, 0))) (hb : base ≤ g) (hn : n ≤ 281474976710656) :
    Res w1 base E (some ⟨g, 0, none⟩) n n (List.replicate n 0) :=
  Res.row hb hg (Nat.le_refl _) hn (by simp [bv]) (by simp) (by simp [bv_take])

theorem turn_step (l : List UInt8) (n k : Nat) (b : UInt8) (hl : l.length = n) (hk : l[k]? = some b) :
    (List.replicate (n - k) 0 ++ (l.take k).reverse).set (n - 1 - k) b = List.replicate (n - (k + 1)) 0 ++ (l.take (k + 1)).reverse := by
  obtain ⟨hk', rfl⟩ := List.getElem?_eq_some_iff.1 hk
  have e : n - k = (n - (k + 1)) + 1 := by omega
  rw [List.take_succ_eq_append_getElem hk', List.reverse_append, e, List.replicate_succ', List.append_assoc, List.set_append_right _ _ (by simp; omega)]
  simp
  have e2 : n - 1 - k - (n - (k + 1)) = 0 := by omega
  rw [e2]; rfl

theorem turn_any (A : Option Addr) (l : List UInt8) (n c : Nat) (w : World) (ha : Byt w w.heap.size A l) (hl : l.length = n) (hn : n ≤ 140737488355328) :
    Calls Try.prog 24 #[.slice A n c] w fun e w' => ∃ A' c', e = .returned (.slice A' n c') ∧ Res w' w.heap.size 5 A' n c' l.reverse ∧ Below w.heap.size w w' := by
  obtain ⟨i0, hi, hz0, hz1, hz2⟩ := info_parts Try.infoByte
  obtain ⟨w1, hrun, hg1, hb1, hs1⟩ := make_bytes (P := Try.prog) Try.underlying23 hi hz0 hz1 hz2 n n (n : Int) (n : Int) rfl rfl (by omega) (by omega) w
  have HL := Lib.hid hl
  clear hl hi hz0 hz1 hz2
  go_enter Try.func24, Try.ntmps24
  go_wp2
  go_loopw [4, 5, 11] (fun _ _ i wr => ∃ k : Nat, k ≤ n ∧ i = .int .i64 (k : Int) ∧ Res wr w.heap.size 5 (some ⟨w.heap.size, 0, none⟩) n n (List.replicate (n - k) 0 ++ (l.take k).reverse) ∧ Below w.heap.size w wr) (fun _ _ i _ => n - (intOf i).toNat)
  case atStart => exact ⟨0, Nat.zero_le _, rfl, by simpa using Res.made hg1.out (Nat.le_refl _) (by omega), hb1.out⟩
  case round =>
    obtain ⟨k, hk, rfl, hres, hbel⟩ := hrel
    by_cases hlt : k < n
    · obtain ⟨g, o, x, rfl, hg, hx, hcell, hget⟩ := (ha.below hbel).at_ (k := k) (by rw [HL.out]; exact hlt)
      obtain ⟨u, hu⟩ := hres.cell (j := n - 1 - k) (by omega)
      have hf := hres.free (n - 1 - k)
      go_wp2
      go_roundw
      case rel =>
        refine ⟨k + 1, by omega, by go_num, ?_, hbel.setCell (Nat.le_refl _) _⟩
        rw [← turn_step l n k _ HL.out hget.out]
        exact hres.put _ _ _ (by simp [Nat.mod_eq_of_lt hx])
      case measure => simp [intOf]; omega
    · obtain rfl : k = n := by omega
      go_wp2
      go_ret
      refine ⟨_, _, rfl, ?_, hbel⟩
      have h2 := hres
      rw [List.take_of_length_le (by rw [HL.out]; exact Nat.le_refl _)] at h2
      simpa using h2
end Go.Proofs.Ytkiphhabciedjaa
