/-
  A result's cells, read and written: words that other texts share. No statement is proved here. Conditions: none.
-/
import Derived.Test.YtlobejnohkecdaaDoorOctA
import Derived.LoopTactic
import Derived.RegionTactic
import Derived.Deep.QuietTactic
import Derived.BigQuiet
import Derived.BigRegion
import Derived.Laws.BitsAllLaws
namespace Go.Proofs.YtlobejnohkecdaaDoor
open Go.RowKit

/-- A cell of a result, free to be written; what stands there behind a store. -/
theorem Res.cell {w : World} {base E g n c : Nat} {l : List UInt8} (h : Res w base E (some ⟨g, 0, none⟩) n c l) {j : Nat} (hj : j < n) : ∃ u, w.cell? ⟨g, j, none⟩ = some u := by
  have h1 := World.ownsRow.cellAt h j (by omega)
  have h2 : j < (bv l).length := by rw [bv_len, h.len]; exact hj
  exact ⟨_, h1.trans (List.getElem?_eq_getElem h2)⟩
theorem Res.free {w : World} {base E g n c : Nat} {l : List UInt8} (h : Res w base E (some ⟨g, 0, none⟩) n c l) (j : Nat) : w.frozen? ⟨g, j, none⟩ = false := World.ownsRow.frozenAt h j
theorem Res.put {w : World} {base E g n c : Nat} {l : List UInt8} (h : Res w base E (some ⟨g, 0, none⟩) n c l) (j : Nat) (b : UInt8) (x : Int) (hx : x = (b.toNat : Int)) :
    Res (w.setCell ⟨g, j, none⟩ (.int .u8 x)) base E (some ⟨g, 0, none⟩) n c (l.set j b) := by
  subst hx
  have h1 := (World.ownsRow.stored h j (.int .u8 (b.toNat : Int))).1
  rw [bv_set] at h1
  exact h1
theorem Res.made {w1 : World} {base E g n : Nat} (hg : w1.heap[g]? = some (.cells (bv (List.replicate n 0)).toArray E (0, 0))) (hb : base ≤ g) (hn : n ≤ 281474976710656) :
    Res w1 base E (some ⟨g, 0, none⟩) n n (List.replicate n 0) :=
  Res.row hb hg (Nat.le_refl _) hn (by simp [bv]) (by simp) (by simp [bv_take])

end Go.Proofs.YtlobejnohkecdaaDoor
