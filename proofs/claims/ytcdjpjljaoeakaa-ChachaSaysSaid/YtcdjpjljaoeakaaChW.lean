/-
  Contract of law 4's awake: true. Conditions: none.
-/
import Derived.Test.YtcdjpjljaoeakaaChK
namespace Go.Proofs.Ytcdjpjljaoeakaa
open Go.RowKit

theorem wpList_build_as {P : Program} {ops : Array Oper} {rest : List Oper} {o : Oper} {a : Act} {w : World} {Q : Exit → Act → World → Prop} (hg : o.guard = none) (t : TypeId) (ho : o.op = .build t #[]) (cs : Array Value) (hf : P.built t [] = some cs)
    (h : wpList P ops Q rest (a.put o.dst (.agg cs)) w) : wpList P ops Q (o :: rest) a w :=
  wpList_build hg t #[] ho (by simp [hf]) (by simpa [hf] using h)
theorem built_word : Try.prog.built 31 [] = some (bv (zb 32)).toArray := by kernel_rfl
theorem built_nonce : Try.prog.built 32 [] = some (bv (zb 12)).toArray := by kernel_rfl
theorem block_zero (w : World) :
    Calls Try.prog 13 #[.agg (bv (zb 32)).toArray, .int .u32 0, .agg (bv (zb 12)).toArray] w fun e w' => ∃ l, e = .returned (.agg (bv l).toArray) ∧ Hid (l.length = 64) ∧ (l[0]? = some 118 ∧ l[1]? = some 184 ∧ l[2]? = some 224 ∧ l[3]? = some 173 ∧ l[63]? = some 134) ∧ Below w.heap.size w w' := by
  obtain ⟨l, hl, h⟩ := block_nought
  have hb := block_any w (zb 32) (zb 12) 0 (by simp [zb]) (by simp [zb]) (by decide)
  rw [← hl] at hb
  exact hb.mono fun _ _ h2 => ⟨l, h2.1, by rw [hl]; exact blockOf_len _ _ _, h, h2.2⟩
theorem byte_cell {w : World} {g k : Nat} {l : List UInt8} {t : TypeId} {b : UInt8} (hg : w.heap[g]? = some (.cells (bv l).toArray t (0, 0))) (hb : l[k]? = some b) : w.cell? ⟨g, k, none⟩ = some (.int .u8 (b.toNat : Int)) := by
  rw [cell_of_row _ _ _ _ _ _ hg]
  simp [bv_at, hb]

set_option maxRecDepth 100000 in
set_option maxHeartbeats 1000000 in
theorem awake_any (w : World) :
    Calls Try.prog 8 #[] w fun e w' => e = .returned (.bool true) ∧ Below w.heap.size w w' := by
  have hzb := zero_b64
  go_enter Try.func8, Try.ntmps8
  go_wp2_with (first
    | (with_reducible refine wpList_build_as rfl 31 rfl _ built_word ?_)
    | (with_reducible refine wpList_build_as rfl 32 rfl _ built_nonce ?_))
  refine (block_zero w).mono ?_
  rintro e w1 ⟨l, rfl, hl, ⟨h0, h1, h2, h3, h63⟩, hb1⟩
  have HBS := Lib.hid (show (bv l).toArray.size = 64 by simp [bv_len, hl.out])
  have HZ64 := Lib.hid (show (bv z64).toArray.size = 64 from rfl)
  have H0 := Lib.hid h0
  have H1 := Lib.hid h1
  have H2 := Lib.hid h2
  have H3 := Lib.hid h3
  have H63 := Lib.hid h63
  clear h0 h1 h2 h3 h63
  go_upto_region 2 with ((with_reducible refine wpList_store_row rfl 36 (.tmp 1) (.tmp 4) rfl w1.heap.size (bv l).toArray rfl rfl 36 _ (heap_alloc_new _ _) (by rw [HBS.out]; kernel_rfl) (by rw [HBS.out]; exact HZ64.out) (all_oneCell_toArray (bv_one _)) ?_); rw [World.setRow_alloc_new])
  have hg := heap_alloc_new w1 (.cells (bv l).toArray 36)
  have hb2 : Below w.heap.size w (w1.alloc (.cells (bv l).toArray 36)) := hb1.alloc hb1.size _
  generalize w1.alloc (.cells (bv l).toArray 36) = w2 at *
  have c0 : w2.cell? ⟨w1.heap.size, 0, none⟩ = some (.int .u8 118) := byte_cell hg H0.out
  have c1 : w2.cell? ⟨w1.heap.size, 1, none⟩ = some (.int .u8 184) := byte_cell hg H1.out
  have c2 : w2.cell? ⟨w1.heap.size, 2, none⟩ = some (.int .u8 224) := byte_cell hg H2.out
  have c3 : w2.cell? ⟨w1.heap.size, 3, none⟩ = some (.int .u8 173) := byte_cell hg H3.out
  have c63 : w2.cell? ⟨w1.heap.size, 63, none⟩ = some (.int .u8 134) := byte_cell hg H63.out
  clear hg
  go_wp2
  go_ret
  exact ⟨rfl, hb2⟩
end Go.Proofs.Ytcdjpjljaoeakaa
