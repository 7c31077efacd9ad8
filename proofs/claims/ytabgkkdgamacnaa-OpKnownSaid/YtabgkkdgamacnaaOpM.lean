/-
  Edits in memory: cells, pieces, two held equal. No statement is proved here. Conditions: the edit lies in a block of its own.
-/
import Derived.Test.YtabgkkdgamacnaaOpS
import Derived.Test.YtabgkkdgamacnaaVcM
import Derived.Test.YtabgkkdgamacnaaMid
import Derived.Test.YtabgkkdgamacnaaMix
import Derived.Test.YtabgkkdgamacnaaRng
namespace Go.Proofs.Ytabgkkdgamacnaa
open Go.RowKit

theorem Ed.cells_len {e : Ed} (h : e.seen.length = 8) : e.cells.length = 15 := by simp [Ed.cells, i64v_len, h]
theorem Ed.cells_size {e : Ed} (h : e.seen.length = 8) : e.cells.toArray.size = 15 := by rw [List.size_toArray, Ed.cells_len h]
theorem Ed.cells_one (e : Ed) : ∀ v ∈ e.cells, v.oneCell' = true := by
  intro v hv
  simp only [Ed.cells, List.mem_append, List.mem_cons, List.not_mem_nil, or_false] at hv
  rcases hv with (rfl | rfl) | h | rfl | rfl | rfl | rfl | rfl
  any_goals rfl
  exact i64v_one _ v h
theorem Ed.cells_tail {e : Ed} (h : e.seen.length = 8) (k : Nat) : e.cells[10 + k]? = [Value.int .i64 e.kind, .string e.con, .string e.fld, .string e.val, .int .i64 e.time][k]? := by
  rw [Ed.cells, List.getElem?_append_right (by simp; omega), List.getElem?_append_right (by simp [i64v_len, h]; omega)]
  simp only [List.length_cons, List.length_nil, i64v_len, h]
  congr 1; omega
theorem Ed.cell_kind {e : Ed} (h : e.seen.length = 8) : e.cells.toArray[10]? = some (Value.int .i64 e.kind) := by rw [List.getElem?_toArray]; exact Ed.cells_tail h 0
theorem Ed.cell_con {e : Ed} (h : e.seen.length = 8) : e.cells.toArray[11]? = some (Value.string e.con) := by rw [List.getElem?_toArray]; exact Ed.cells_tail h 1
theorem Ed.cell_fld {e : Ed} (h : e.seen.length = 8) : e.cells.toArray[12]? = some (Value.string e.fld) := by rw [List.getElem?_toArray]; exact Ed.cells_tail h 2
theorem Ed.cell_val {e : Ed} (h : e.seen.length = 8) : e.cells.toArray[13]? = some (Value.string e.val) := by rw [List.getElem?_toArray]; exact Ed.cells_tail h 3
theorem Ed.cell_time {e : Ed} (h : e.seen.length = 8) : e.cells.toArray[14]? = some (Value.int .i64 e.time) := by rw [List.getElem?_toArray]; exact Ed.cells_tail h 4
section
variable {w : World} {g : Nat} {T : TypeId} {e : Ed}
theorem ed_dev (h : Hid (w.heap[g]? = some (.cells e.cells.toArray T (0, 0)))) : w.cell? ⟨g, 0, none⟩ = some (.int .i64 e.dev) := by rw [cell_of_row _ _ _ _ _ _ h.out]; rfl
theorem ed_num (h : Hid (w.heap[g]? = some (.cells e.cells.toArray T (0, 0)))) : w.cell? ⟨g, 1, none⟩ = some (.int .i64 e.num) := by rw [cell_of_row _ _ _ _ _ _ h.out]; rfl
theorem ed_seen (h : Hid (w.heap[g]? = some (.cells e.cells.toArray T (0, 0)))) (k : Nat) (hk : k < e.seen.length) : w.cell? ⟨g, 2 + k, none⟩ = some (.int .i64 (iat e.seen k)) := by
  rw [cell_of_row _ _ _ _ _ _ h.out, List.getElem?_toArray, Ed.cells, List.getElem?_append_right (by simp), List.getElem?_append_left (by simp [i64v_len]; omega)]
  simp only [List.length_cons, List.length_nil]
  rw [show 2 + k - (0 + 1 + 1) = k by omega, i64v_at, iat_at hk]; rfl
theorem ed_kind (h : Hid (w.heap[g]? = some (.cells e.cells.toArray T (0, 0)))) (hl : e.seen.length = 8) : w.cell? ⟨g, 10, none⟩ = some (.int .i64 e.kind) := by rw [cell_of_row _ _ _ _ _ _ h.out]; exact Ed.cell_kind hl
theorem ed_con (h : Hid (w.heap[g]? = some (.cells e.cells.toArray T (0, 0)))) (hl : e.seen.length = 8) : w.cell? ⟨g, 11, none⟩ = some (.string e.con) := by rw [cell_of_row _ _ _ _ _ _ h.out]; exact Ed.cell_con hl
theorem ed_fld (h : Hid (w.heap[g]? = some (.cells e.cells.toArray T (0, 0)))) (hl : e.seen.length = 8) : w.cell? ⟨g, 12, none⟩ = some (.string e.fld) := by rw [cell_of_row _ _ _ _ _ _ h.out]; exact Ed.cell_fld hl
theorem ed_val (h : Hid (w.heap[g]? = some (.cells e.cells.toArray T (0, 0)))) (hl : e.seen.length = 8) : w.cell? ⟨g, 13, none⟩ = some (.string e.val) := by rw [cell_of_row _ _ _ _ _ _ h.out]; exact Ed.cell_val hl
theorem ed_time (h : Hid (w.heap[g]? = some (.cells e.cells.toArray T (0, 0)))) (hl : e.seen.length = 8) : w.cell? ⟨g, 14, none⟩ = some (.int .i64 e.time) := by rw [cell_of_row _ _ _ _ _ _ h.out]; exact Ed.cell_time hl
/-- Its dot, its vector, whole, as pieces of the row. -/
theorem ed_dotR (h : Hid (w.heap[g]? = some (.cells e.cells.toArray T (0, 0)))) : w.rangeAt g 0 [.int .i64 e.dev, .int .i64 e.num] := range_part [] [.int .i64 e.dev, .int .i64 e.num] _ h.out 0 rfl
theorem ed_seenR (h : Hid (w.heap[g]? = some (.cells e.cells.toArray T (0, 0)))) : w.rangeAt g 2 (i64v e.seen) := range_part [.int .i64 e.dev, .int .i64 e.num] (i64v e.seen) _ h.out 2 rfl
theorem ed_allR (h : Hid (w.heap[g]? = some (.cells e.cells.toArray T (0, 0)))) : w.rangeAt g 0 e.cells := range_row h.out
end
/-! Two held equal. -/
theorem eqf_step {P : Program} (w : World) (d : Nat) (xs ys : Array Value) (T : TypeId) (off : Nat) {n1 n2 n3 : String} {em : Bool} {bo : Nat} (fs : List Field) (a b : Value) (r : Bool) (hn : n1 ≠ "_") (ha : (part T xs off).run P w = .ok a w) (hb : (part T ys off).run P w = .ok b w) (hr : (Op.equalIn d T a b).run P w = .ok r w) :
    (Op.eqFields d xs ys (⟨n1, T, off, em, n2, n3, bo⟩ :: fs)).run P w = if r = true then (Op.eqFields d xs ys fs).run P w else .ok false w := by
  simp only [Op.eqFields, if_pos hn, Sem.run_bind, ha, hb, hr, Result.andThen_ok]
  cases r <;> simp
theorem eqf_end {P : Program} (w : World) (d : Nat) (xs ys : Array Value) : (Op.eqFields d xs ys []).run P w = .ok true w := rfl
theorem part_one {P : Program} {t : TypeId} {D : TypeDesc} (ht : P.underlying t = some D) (hD : (match D with | .struct _ | .array _ _ => true | _ => false) = false) (cs : Array Value) (off : Nat) (v : Value) (h : cs[off]? = some v) (w : World) : (part t cs off).run P w = .ok v w := by
  cases D <;> simp_all [part, isAgg, run_underlying ht]
theorem part_all {P : Program} {t : TypeId} {D : TypeDesc} {n : Nat} (ht : P.underlying t = some D) (hD : (match D with | .struct _ | .array _ _ => true | _ => false) = true) (hs : (P.info? t).map (·.size) = some n) (A B C : List Value) (off : Nat) (hA : A.length = off) (hB : B.length = n) (w : World) :
    (part t (A ++ (B ++ C)).toArray off).run P w = .ok (.agg B.toArray) w := by
  obtain ⟨i, hi', hi2⟩ := Option.map_eq_some_iff.1 hs
  have hsz : (sizeOf t).run P w = .ok n w := by simp [sizeOf, typeInfo, hi', hi2]
  have e : (A ++ (B ++ C)).toArray.extract off (off + n) = B.toArray := by
    subst hA hB
    simp [List.extract_toArray, List.extract]
  have ha : (isAgg t).run P w = .ok true w := by
    cases D <;> simp_all [isAgg, run_underlying ht]
  simp only [part, Sem.run_bind, ha, Result.andThen_ok, if_true, hsz, Sem.run_pure, e]
theorem text_beq (a b : ByteArray) : (a.toList == b.toList) = decide (a = b) := by
  rw [ByteArray.toList_eq, ByteArray.toList_eq, Bool.eq_iff_iff, beq_iff_eq, decide_eq_true_iff]
  exact ⟨fun h => ByteArray.ext (Array.toList_inj.1 h), fun h => by rw [h]⟩
section
variable {P : Program} {td ti tn w0 : TypeId}
/-- Dots. -/
theorem eq_dot {w : World} {a b c d : Int} (n : Nat) : (Op.equalIn (n + 2) 24 (.agg #[.int .i64 a, .int .i64 b]) (.agg #[.int .i64 c, .int .i64 d])).run Try.prog w = .ok (decide (a = c ∧ b = d)) w := by
  rw [run_equalIn_struct w (n + 1) 24 _ _ (by kernel_rfl) (by kernel_rfl), Program.fieldsOf]
  simp only [Try.underlying24]
  rw [eqf_step w _ _ _ 3 0 _ (.int .i64 a) (.int .i64 c) (a == c) (by decide) (part_one Try.underlying3 rfl _ _ _ rfl w) (part_one Try.underlying3 rfl _ _ _ rfl w) (run_equalIn_int w n _ .i64 .i64 a c Try.underlying3),
    eqf_step w _ _ _ 2 1 _ (.int .i64 b) (.int .i64 d) (b == d) (by decide) (part_one Try.underlying2 rfl _ _ _ rfl w) (part_one Try.underlying2 rfl _ _ _ rfl w) (run_equalIn_int w n _ .i64 .i64 b d Try.underlying2), eqf_end]
  by_cases h1 : a = c <;> by_cases h2 : b = d <;> simp [h1, h2]
end
theorem res_if (r q : Bool) (w : World) : (if r = true then Result.ok q w else Result.ok false w) = Result.ok (r && q) w := by cases r <;> rfl
theorem same_iff (a b : Ed) : a = b ↔ (a.dev = b.dev ∧ a.num = b.num) ∧ a.seen = b.seen ∧ a.kind = b.kind ∧ a.con = b.con ∧ a.fld = b.fld ∧ a.val = b.val ∧ a.time = b.time :=
  ⟨fun e => by subst e; simp, fun h => Ed.same h.1.1 h.1.2 h.2.1 h.2.2.1 h.2.2.2.1 h.2.2.2.2.1 h.2.2.2.2.2.1 h.2.2.2.2.2.2⟩
theorem eq_edit (n0 : Nat) (a b : Ed) (ha : a.seen.length = 8) (hb : b.seen.length = 8) (w : World) : (Op.equalIn (n0 + 3) 28 (.agg a.cells.toArray) (.agg b.cells.toArray)).run Try.prog w = .ok (decide (a = b)) w := by
  have hd : ∀ (e : Ed), (part 24 e.cells.toArray 0).run Try.prog w = .ok (.agg #[.int .i64 e.dev, .int .i64 e.num]) w := fun e => part_all Try.underlying24 rfl (n := 2) (by kernel_rfl) [] [.int .i64 e.dev, .int .i64 e.num] _ 0 rfl rfl w
  have hv : ∀ (e : Ed), e.seen.length = 8 → (part 26 e.cells.toArray 2).run Try.prog w = .ok (.agg (i64v e.seen).toArray) w := fun e he => part_all Try.underlying26 rfl (n := 8) (by kernel_rfl) [.int .i64 e.dev, .int .i64 e.num] (i64v e.seen) _ 2 rfl (by rw [i64v_len, he]) w
  have hq := eq_ints (P := Try.prog) Try.underlying26 Try.underlying2 Try.sizeI64 a.seen b.seen ha hb n0 w
  rw [run_equalIn_struct w (n0 + 2) 28 _ _ (by kernel_rfl) (by kernel_rfl), Program.fieldsOf]
  simp only [Try.underlying28]
  rw [eqf_step w _ _ _ 24 0 _ _ _ _ (by decide) (hd a) (hd b) (eq_dot n0),
    eqf_step w _ _ _ 26 2 _ _ _ _ (by decide) (hv a ha) (hv b hb) hq,
    eqf_step w _ _ _ 3 10 _ _ _ _ (by decide) (part_one Try.underlying3 rfl a.cells.toArray 10 _ (Ed.cell_kind ha) w) (part_one Try.underlying3 rfl b.cells.toArray 10 _ (Ed.cell_kind hb) w) (run_equalIn_int w (n0 + 1) _ .i64 .i64 a.kind b.kind Try.underlying3),
    eqf_step w _ _ _ 9 11 _ _ _ _ (by decide) (part_one Try.underlying9 rfl a.cells.toArray 11 _ (Ed.cell_con ha) w) (part_one Try.underlying9 rfl b.cells.toArray 11 _ (Ed.cell_con hb) w) (run_equalIn_string w (n0 + 1) _ a.con b.con Try.underlying9),
    eqf_step w _ _ _ 9 12 _ _ _ _ (by decide) (part_one Try.underlying9 rfl a.cells.toArray 12 _ (Ed.cell_fld ha) w) (part_one Try.underlying9 rfl b.cells.toArray 12 _ (Ed.cell_fld hb) w) (run_equalIn_string w (n0 + 1) _ a.fld b.fld Try.underlying9),
    eqf_step w _ _ _ 9 13 _ _ _ _ (by decide) (part_one Try.underlying9 rfl a.cells.toArray 13 _ (Ed.cell_val ha) w) (part_one Try.underlying9 rfl b.cells.toArray 13 _ (Ed.cell_val hb) w) (run_equalIn_string w (n0 + 1) _ a.val b.val Try.underlying9),
    eqf_step w _ _ _ 2 14 _ _ _ _ (by decide) (part_one Try.underlying2 rfl a.cells.toArray 14 _ (Ed.cell_time ha) w) (part_one Try.underlying2 rfl b.cells.toArray 14 _ (Ed.cell_time hb) w) (run_equalIn_int w (n0 + 1) _ .i64 .i64 a.time b.time Try.underlying2),
    eqf_end, text_beq, text_beq, text_beq]
  simp only [res_if]
  congr 1
  rw [Bool.eq_iff_iff, decide_eq_true_iff, same_iff]
  simp only [Bool.and_eq_true, decide_eq_true_eq, beq_iff_eq, and_true]
theorem eql_edit (a b : Ed) (ha : a.seen.length = 8) (hb : b.seen.length = 8) (o : Bool) (ho : decide (a = b) = o) (w : World) : (binOp .eql 28 (.agg a.cells.toArray) (.agg b.cells.toArray)).run Try.prog w = .ok (.bool o) w := by
  rw [run_eql_struct, eq_edit 9997 a b ha hb, ← ho]; rfl
theorem neq_edit (a b : Ed) (ha : a.seen.length = 8) (hb : b.seen.length = 8) (o : Bool) (ho : decide (a = b) = o) (w : World) : (binOp .neq 28 (.agg a.cells.toArray) (.agg b.cells.toArray)).run Try.prog w = .ok (.bool (!o)) w := by
  rw [run_neq_struct, eq_edit 9997 a b ha hb, ← ho]; rfl
end Go.Proofs.Ytabgkkdgamacnaa
