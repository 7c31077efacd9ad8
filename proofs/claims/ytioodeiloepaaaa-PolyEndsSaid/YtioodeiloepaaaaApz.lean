/-
  append(own, make([]byte, k)...): a law for the walks of this seat. Conditions: the sum of the lengths is at most 2^47.
-/
import Derived.Test.YtioodeiloepaaaaNew
import Derived.Test.YtioodeiloepaaaaSrc
import Derived.Lib.AppendZerosOnto
namespace Go.Proofs.Ytioodeiloepaaaa
open Go.RowKit

theorem zeroCells_bytes (n : Nat) : (Builtin.zeroCells (Value.int .u8 0).cells n).toList = bv (List.replicate n 0) := by
  have hcl : (Value.int .u8 0).cells = #[Value.int .u8 0] := rfl
  rw [hcl, ← bv_rep]
  apply List.ext_getElem
  · simp [Builtin.zeroCells]
  · intro i h1 h2
    simp [Builtin.zeroCells, Nat.mod_one]
theorem run_append_zeros {P : Program} (w : World) (t tn ty e : TypeId) (i : TypeInfo) (ht : P.underlying t = some (.slice e)) (htn : P.underlying tn = some (.int .i64)) (hi : P.info? e = some i) (hz : i.zero = some (.int .u8 0)) (h1 : i.size = 1) (h2 : i.bytes = 1)
    (base : Nat) (A : Option Addr) (n c : Nat) (l : List UInt8) (hr : Res w base e A n c l) (k : Nat) (hsz : n + k ≤ 140737488355328) (hbase : base ≤ w.heap.size) :
    ∃ A' c' w', (Builtin.append_ #[t, tn] ty #[.slice A n c, .int .i64 (k : Int)]).run P w = .ok (.slice A' (n + k) c') w' ∧ Res w' base e A' (n + k) c' (l ++ List.replicate k 0) ∧ (∀ B w0, B ≤ base → Below B w0 w → Below B w0 w') := by
  have hcap := hr.cap
  have hlen := hr.len
  have hw : IntKind.i64.wrap (k : Int) = k := by rw [IntKind.wrap_i64]; omega
  have hneg : ¬ ((k : Int) < 0) := by omega
  have h48i : ¬ (281474976710656 < (k : Int)) := by omega
  by_cases hk0 : k = 0
  · subst hk0
    refine ⟨A, c, w, ?_, by simpa using hr, fun _ _ _ h => h⟩
    have hw0 : IntKind.i64.wrap 0 = 0 := by decide
    cases A <;> simp [Builtin.append_, hw0, run_underlying ht, run_underlying htn, sizeOf, typeInfo, hi, h2, asInt, asIntOf, hcap, storeCells]
  · by_cases hroom : n + k ≤ c
    · rcases hr.2 with ⟨hv, h0⟩ | ⟨g, cap, cur, hv, hbg, hg, hnc, hcm, hcs, htake⟩
      · injection hv with hv1 hv2 hv3; omega
      · simp only [Value.slice.injEq] at hv
        obtain ⟨rfl, _, rfl⟩ := hv
        have hst := run_storeCells_at P g n e (bv (List.replicate k 0)) 0 cur w hg (by rw [bv_len, List.length_replicate]; omega) (bv_one _)
        simp only [Nat.add_zero] at hst
        have hns : ¬ (k * i.size = 0) := by rw [h1]; omega
        refine ⟨some ⟨g, 0, none⟩, c, w.setRow g (cur.toList.take n ++ bv (List.replicate k 0) ++ cur.toList.drop (n + (bv (List.replicate k 0)).length)).toArray, ?_, ?_, fun B w0 hB hb => hb.trans ?_⟩
        · simp [Builtin.append_, run_underlying ht, run_underlying htn, sizeOf, typeInfo, zeroValue, hi, hz, h1, h2, asInt, asIntOf, hw, hneg, h48i, hk0, hroom, zeroCells_bytes, addr_add, hst]
        · refine ⟨by rw [bv_len, List.length_append, List.length_replicate]; omega, .inr ⟨g, c, _, rfl, hbg, setRow_heap w g cur _ e _ hg, hroom, hcm, ?_, ?_⟩⟩
          · simp only [List.size_toArray, List.length_append, List.length_take, List.length_drop, Array.length_toList, bv_len, List.length_replicate]; omega
          · rw [Nat.mul_one] at htake
            rw [Nat.mul_one, htake, ← bv_app]
            have e1 : n + k = (bv (l ++ List.replicate k 0)).length := by rw [bv_len, List.length_append, List.length_replicate]; omega
            rw [e1]
            exact List.take_left
        · exact ⟨rfl, rfl, rfl, by simp [World.setRow], fun j hj => setRow_other w g j _ (by omega)⟩
    · have hold : (Builtin.firstCells i.size n (.slice A n c)).run P w.drew = .ok (bv l).toArray w.drew := by
        cases A with
        | none =>
          rcases hr.2 with ⟨hv, h0⟩ | ⟨g, cap, cur, hv, _⟩
          · have hl0 : l = [] := List.eq_nil_of_length_eq_zero (by omega)
            subst hl0
            simp [Builtin.firstCells, bv]
          · cases hv
        | some a =>
          refine run_firstCells_some (P := P) w.drew i.size n a n c (bv l) (by rw [bv_len, h1]; omega) (fun j u hj => ?_)
          exact cells_at hr.byt j u hj
      have hrun := Lib.run_append_grow_zeros (P := P) w t tn ty e i (.int .u8 0) .i64 .i64 ht htn hi hz A n c (bv l) hold k (by omega) (by omega) (by omega) (by omega) (by rw [h2]; omega) (growslice_fits (by omega) (by rw [h2]; omega))
      have hge := grownCap_ge w (n + k) c e
      have hcm : grownCap w (n + k) c e ≤ maxLen := grownCap_le_maxLen w (n + k) c e (by simp only [maxLen]; omega)
      refine ⟨_, _, _, hrun, ⟨by rw [bv_len, List.length_append, List.length_replicate]; omega, .inr ⟨w.heap.size, _, _, rfl, hbase, heap_alloc_new w.drew _, hge, hcm, ?_, ?_⟩⟩, fun B w0 hB hb => hb.trans ?_⟩
      · simp only [Array.size_append, List.size_toArray, size_zeroCells, bv_len]
        simp [Value.cells]
        omega
      · simp only [Array.toList_append, zeroCells_bytes, Nat.mul_one]
        rw [← bv_app]
        have e1 : n + k = (bv (l ++ List.replicate k 0)).length := by rw [bv_len, List.length_append, List.length_replicate]; omega
        conv => lhs; rw [e1]
        exact List.take_left
      · exact ⟨rfl, rfl, rfl, by simp, fun j hj => heap_alloc_old w.drew _ (by show j < w.heap.size; omega)⟩
theorem wp_append_zeros {P : Program} (w : World) {ops : Array Oper} {rest : List Oper} {o : Oper} {a : Act} {Q : Exit → Act → World → Prop} (hgd : o.guard = none) (s x : Operand) (T N : TypeId)
    (ho : o.op = .call { callee := .builtin .append, args := #[s, x], argTypes := #[T, N] }) (E : TypeId) (hT : P.underlying T = some (.slice E)) (hN : P.underlying N = some (.int .i64))
    (hI : (P.info? E).map (fun i => (i.zero, i.size, i.bytes)) = some (some (.int .u8 0), 1, 1)) (base : Nat) (A : Option Addr) (n c : Nat) (l : List UInt8) (hs : a.eval s = .slice A n c) (hr : Res w base E A n c l)
    (k : Nat) (hx : a.eval x = .int .i64 (k : Int)) (hsz : n + k ≤ 140737488355328) (hbase : base ≤ w.heap.size)
    (h : ∀ A' c' w', Res w' base E A' (n + k) c' (l ++ List.replicate k 0) → (∀ B w0, B ≤ base → Below B w0 w → Below B w0 w') → wpList P ops Q rest (a.put o.dst (.slice A' (n + k) c')) w') : wpList P ops Q (o :: rest) a w := by
  obtain ⟨i, hi, hz, h1, h2⟩ := info_parts hI
  obtain ⟨A', c', w', hrun, hr', hb'⟩ := run_append_zeros (P := P) w T N o.type E i hT hN hi hz h1 h2 base A n c l hr k hsz hbase
  refine wpList_plain hgd fun K hK => ?_
  unfold Oper.wp
  simp only [execOp, ho, resolve, invoke, builtin, Sem.run_bind, Sem.run_pure, Result.andThen_ok, List.map_toArray, List.map_cons, List.map_nil, hs, hx, hrun]
  exact hK _ _ (h A' c' w' hr' hb')
end Go.Proofs.Ytioodeiloepaaaa
