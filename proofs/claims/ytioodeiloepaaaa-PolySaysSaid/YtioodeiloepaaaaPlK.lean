/-
  Contracts of poly.Clamp and of the document's own. Conditions: sixteen bytes.
-/
import Derived.Test.YtioodeiloepaaaaPlS
import Derived.Test.YtioodeiloepaaaaNew
namespace Go.Proofs.Ytioodeiloepaaaa
open Go.RowKit

def byteAt (l : List UInt8) (k : Nat) : UInt8 := l.getD k 0
theorem byteAt_cell {w : World} {g : Nat} {l : List UInt8} {t : TypeId} (hg : w.heap[g]? = some (.cells (bv l).toArray t (0, 0))) (k : Nat) (hk : k < l.length) : w.cell? ⟨g, k, none⟩ = some (.int .u8 (((byteAt l k).toNat : Nat) : Int)) :=
  byte_cell hg (by simp [byteAt, List.getElem?_eq_getElem hk])
/-- The first k bytes of each kind clamped. -/
def cl1 (l : List UInt8) : Nat → List UInt8
  | 0 => l
  | k + 1 => (cl1 l k).set (3 + 4 * k) (byteAt (cl1 l k) (3 + 4 * k) &&& 15)
def cl2 (l : List UInt8) : Nat → List UInt8
  | 0 => l
  | k + 1 => (cl2 l k).set (4 + 4 * k) (byteAt (cl2 l k) (4 + 4 * k) &&& 252)
theorem cl1_len (l : List UInt8) : ∀ k, (cl1 l k).length = l.length
  | 0 => rfl
  | k + 1 => by rw [cl1, List.length_set, cl1_len l k]
theorem cl2_len (l : List UInt8) : ∀ k, (cl2 l k).length = l.length
  | 0 => rfl
  | k + 1 => by rw [cl2, List.length_set, cl2_len l k]
theorem list16 {l : List UInt8} (h : l.length = 16) : ∃ a b c d e f g h i j k m n o p q, l = [a, b, c, d, e, f, g, h, i, j, k, m, n, o, p, q] := by
  match l, h with
  | [a, b, c, d, e, f, g, h, i, j, k, m, n, o, p, q], _ => exact ⟨a, b, c, d, e, f, g, h, i, j, k, m, n, o, p, q, rfl⟩
theorem cl_both (l : List UInt8) (h : l.length = 16) : cl2 (cl1 l 4) 3 = clampOf l := by
  obtain ⟨a, b, c, d, e, f, g, h, i, j, k, m, n, o, p, q, rfl⟩ := list16 h
  simp [cl1, cl2, clampOf, clampB, byteAt]
theorem and15 (b : UInt8) : bits .and .u8 ((b.toNat : Nat) : Int) 15 = (((b &&& 15).toNat : Nat) : Int) := by
  have h := u8_and_nat b.toNat 15 (UInt8.toNat_lt _) (by decide)
  rw [UInt8.toNat_and]; exact h
theorem and252 (b : UInt8) : bits .and .u8 ((b.toNat : Nat) : Int) 252 = (((b &&& 252).toNat : Nat) : Int) := by
  have h := u8_and_nat b.toNat 252 (UInt8.toNat_lt _) (by decide)
  rw [UInt8.toNat_and]; exact h

set_option maxRecDepth 100000 in
set_option maxHeartbeats 1000000 in
theorem clamp_any (w : World) (l : List UInt8) (hl : l.length = 16) :
    Calls Try.prog 11 #[.agg (bv l).toArray] w fun e w' => e = .returned (.agg (bv (clampOf l)).toArray) ∧ Below w.heap.size w w' := by
  have hz16 := zero_b16
  obtain ⟨W, hW, hgA, hgZ, hbW, hsW⟩ := pair_new w (bv l).toArray (bv z16).toArray 23 23
  have HW := Lib.hid hW
  have HL := Lib.hid hl
  have hs1 : w.heap.size + 1 < W.heap.size := by have := hsW.out; omega
  clear hW hl
  go_enter Try.func11, Try.ntmps11
  go_upto_region 1 with fail
  rw [HW.out]
  go_wp2_with fail
  go_loopw [3] (fun i wr => ∃ k : Nat, k ≤ 4 ∧ i = .int .i64 (3 + 4 * (k : Int)) ∧ Hid (wr.heap[w.heap.size]? = some (.cells (bv (cl1 l k)).toArray 23 (0, 0))) ∧ But w.heap.size W wr) (fun i _ => 19 - (intOf i).toNat)
  case atStart => exact ⟨0, by omega, rfl, hgA, But.refl _ _⟩
  case round =>
    obtain ⟨k, hk, rfl, hg, hbt⟩ := hrel
    by_cases hlt : k < 4
    · obtain ⟨X, hX⟩ : ∃ X, X = cl1 l k := ⟨_, rfl⟩
      rw [← hX] at hg
      have HXL := Lib.hid (show X.length = 16 by rw [hX, cl1_len]; exact HL.out)
      have HX1 := vlt (show cl1 l (k + 1) = X.set (3 + 4 * k) (byteAt X (3 + 4 * k) &&& 15) by rw [hX, cl1])
      clear hX
      have hi16 : 3 + 4 * k < 16 := by omega
      have c0 := byteAt_cell hg.out (3 + 4 * k) (by rw [HXL.out]; exact hi16)
      have f0 : wr.frozen? ⟨w.heap.size, 3 + 4 * k, none⟩ = false := frozen_of_row _ _ _ _ _ hg.out
      generalize byteAt X (3 + 4 * k) = b at *
      have e1 := and15 b
      have hset : Hid ((wr.setCell ⟨w.heap.size, 3 + 4 * k, none⟩ (.int .u8 (((b &&& 15).toNat : Nat) : Int))).heap[w.heap.size]? = some (.cells (bv (cl1 l (k + 1))).toArray 23 (0, 0))) := by
        have h1 := (world_set_cell hg.out (3 + 4 * k) (.int .u8 (((b &&& 15).toNat : Nat) : Int))).out
        rw [bv_set, ← HX1.out] at h1
        exact h1
      have hb2 := hbt.set (i := 3 + 4 * k) (.int .u8 (((b &&& 15).toNat : Nat) : Int))
      have hb256 := UInt8.toNat_lt b
      generalize hy : (b &&& 15).toNat = y at *
      generalize hx : b.toNat = x at *
      clear hx hy
      go_wp2
      exact ⟨⟨k + 1, by omega, by go_num, hset, hb2⟩, by simp [intOf]; omega⟩
    · have hgf : Hid (wr.heap[w.heap.size]? = some (.cells (bv (cl2 (cl1 l 4) 0)).toArray 23 (0, 0))) := by
        have h1 := hg.out
        rw [show k = 4 by omega] at h1
        exact h1
      have HM := Lib.hid (show (cl1 l 4).length = 16 by rw [cl1_len]; exact HL.out)
      have HCL := vlt (cl_both l HL.out)
      generalize cl1 l 4 = M at *
      clear hg
      go_wp2
      go_loopw [4] (fun i wr => ∃ k : Nat, k ≤ 3 ∧ i = .int .i64 (4 + 4 * (k : Int)) ∧ Hid (wr.heap[w.heap.size]? = some (.cells (bv (cl2 M k)).toArray 23 (0, 0))) ∧ But w.heap.size W wr) (fun i _ => 19 - (intOf i).toNat)
      case atStart => exact ⟨0, by omega, rfl, hgf, hbt⟩
      case round =>
        clear hgf hbt
        obtain ⟨k, hk, rfl, hg, hbt⟩ := hrel
        by_cases hlt : k < 3
        · obtain ⟨X, hX⟩ : ∃ X, X = cl2 M k := ⟨_, rfl⟩
          rw [← hX] at hg
          have HXL := Lib.hid (show X.length = 16 by rw [hX, cl2_len]; exact HM.out)
          have HX1 := vlt (show cl2 M (k + 1) = X.set (4 + 4 * k) (byteAt X (4 + 4 * k) &&& 252) by rw [hX, cl2])
          clear hX
          have hi16 : 4 + 4 * k < 16 := by omega
          have c0 := byteAt_cell hg.out (4 + 4 * k) (by rw [HXL.out]; exact hi16)
          have f0 : wr.frozen? ⟨w.heap.size, 4 + 4 * k, none⟩ = false := frozen_of_row _ _ _ _ _ hg.out
          generalize byteAt X (4 + 4 * k) = b at *
          have e1 := and252 b
          have hset : Hid ((wr.setCell ⟨w.heap.size, 4 + 4 * k, none⟩ (.int .u8 (((b &&& 252).toNat : Nat) : Int))).heap[w.heap.size]? = some (.cells (bv (cl2 M (k + 1))).toArray 23 (0, 0))) := by
            have h1 := (world_set_cell hg.out (4 + 4 * k) (.int .u8 (((b &&& 252).toNat : Nat) : Int))).out
            rw [bv_set, ← HX1.out] at h1
            exact h1
          have hb2 := hbt.set (i := 4 + 4 * k) (.int .u8 (((b &&& 252).toNat : Nat) : Int))
          have hb256 := UInt8.toNat_lt b
          generalize hy : (b &&& 252).toNat = y at *
          generalize hx : b.toNat = x at *
          clear hx hy
          go_wp2
          exact ⟨⟨k + 1, by omega, by go_num, hset, hb2⟩, by simp [intOf]; omega⟩
        · obtain ⟨out, hout⟩ : ∃ out, out = clampOf l := ⟨_, rfl⟩
          have hg3 : Hid (wr.heap[w.heap.size]? = some (.cells (bv out).toArray 23 (0, 0))) := by
            have h1 := hg.out
            rw [show k = 3 by omega, HCL.out, ← hout] at h1
            exact h1
          have HOS := Lib.hid (show (bv out).toArray.size = 16 by simp [bv_len, hout, clampOf_len, HL.out])
          have HZ16 := Lib.hid (show (bv z16).toArray.size = 16 from rfl)
          have hz3 : Hid (wr.heap[w.heap.size + 1]? = some (.cells (bv z16).toArray 23 (0, 0))) := (hbt.block _ (by omega) (by intro e; injection e; omega)).trans hgZ.out
          have hbw : Below w.heap.size w wr := But.below hbW hbt (by omega) (by omega)
          have HOUT := vlt hout
          clear hout hg HCL
          go_wp2_with (first
            | (with_reducible refine wpList_load_row rfl 23 (.tmp 1) rfl w.heap.size rfl 23 (bv out).toArray (0, 0) _ hg3.out Try.underlying23 rfl (by rw [HOS.out]; kernel_rfl) ?_)
            | (with_reducible refine wpList_store_row rfl 23 (.tmp 2) (.tmp 23) rfl (w.heap.size + 1) (bv out).toArray rfl rfl 23 _ hz3.out (by rw [HOS.out]; kernel_rfl) (by rw [HOS.out]; exact HZ16.out) (all_oneCell_toArray (bv_one _)) ?_))
          refine bodyPost_ret (v := .agg (bv out).toArray) (results_cell_row Try.results11 _ _ (w.heap.size + 1) 23 _ (0, 0) _ rfl (setRow_heap _ _ _ _ _ _ hz3.out) Try.underlying23 rfl (by rw [HOS.out]; kernel_rfl)) rfl ⟨by rw [HOUT.out], below_setRow hbw (by omega) _⟩
end Go.Proofs.Ytioodeiloepaaaa
