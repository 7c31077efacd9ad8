/-
  Words and contracts that other texts share, several in one text. No statement of the seat is proved here. Conditions: as each contract says.
  What a sort by two functions is given: a row that is held, a function that compares two of it, one that swaps two of it. No statement is proved here. Conditions: none.
  Contracts of sort's order2_func, median_func, medianAdjacent_func. Conditions: as Srt says.
  Contract of sort's insertionSort_func. Conditions: as Srt says.
  Contract of sort's siftDown_func. Conditions: as Srt says.
  Contract of sort's heapSort_func. Conditions: as Srt says.
  Contract of sort's reverseRange_func. Conditions: as Srt says.
  Contract of sort's choosePivot_func. Conditions: as Srt says.
  Contract of sort's breakPatterns_func. Conditions: as Srt says.
  Contract of sort's partialInsertionSort_func. Conditions: as Srt says.
  Contract of sort's partitionEqual_func. Conditions: as Srt says.
  Contract of sort's partition_func. Conditions: as Srt says.
  Contract of sort's pdqsort_func: what it leaves is a sorted row of the same elements. Conditions: as Srt says.
-/
import Derived.Test.YtncjobhpiohkkaaPkA
import Derived.Sort.Defs
import Derived.Deep.LoopGhost
import Derived.Sort.LotD4
import Derived.Test.YtncjobhpiohkkaaShl
import Derived.Sort.LotD5
import Derived.Sort.LotC
import Derived.Sort.AssemblyPlain
import Derived.Deep.CutRange
namespace Go.Proofs.Ytncjobhpiohkkaa
open Go.RowKit Go.Sort

section
variable {α : Type} [Inhabited α]
/-- The row is held by 'At', its cells lie in block G, below B; new memory turns nothing of it; two of it are compared (new memory may be made), two of it are swapped. -/
structure Srt (lt : α → α → Bool) (n G B : Nat) (lf : Nat) (lb : Array Value) (sf : Nat) (sb : Array Value) (At : Array α → World → Prop) : Prop where
  small : n < 4611686018427387904
  low : G < B
  size : ∀ {d w}, At d w → d.size = n
  blk : ∀ {d w}, At d w → B ≤ w.heap.size
  keep : ∀ {d w w'}, At d w → Below B w w' → At d w'
  less : ∀ {d w}, At d w → ∀ {i j : Nat} {iv jv : Int}, iv = (i : Int) → jv = (j : Int) → i < n → j < n → ∀ {b : Bool}, lt d[i]! d[j]! = b →
    Calls Try.prog lf (#[.int .i64 iv, .int .i64 jv] ++ lb) w fun e w' => e = .returned (.bool b) ∧ Below w.heap.size w w'
  swap : ∀ {d w}, At d w → ∀ {i j : Nat} (iv jv : Int), iv = (i : Int) → jv = (j : Int) → i < n → j < n →
    ∃ w', (callFunc sf (#[.int .i64 iv, .int .i64 jv] ++ sb)).run Try.prog w = .ok (.value (.tuple #[])) w' ∧ At (swp d i j) w' ∧ But G w w'
  enter : ∀ args w, (callFunc lf args).run Try.prog w = .ok (.enter lf args) w
end
section
variable {P : Program} {ops : Array Oper} {rest : List Oper} {o : Oper} {a : Act} {w : World} {Q : Exit → Act → World → Prop}
/-- The next operation is the one that writes slot d. -/
theorem at_op (d : Nat) (_ : o.dst = some d) (h : wpList P ops Q (o :: rest) a w) : wpList P ops Q (o :: rest) a w := h
theorem wpList_wanted2 (hw : Region.wanted o (yielded ops a.tmps) = true)
    (h : ∀ K : Act → World → Prop, (∀ a w, wpList P ops Q rest a w → K a w) → o.wp P a w K Q) : wpList P ops Q (o :: rest) a w :=
  wpList_step fun K hK => by rw [if_pos hw]; exact h K hK
/-- A function value of two arguments is called. -/
theorem wpList_fn2 (hw : Region.wanted o (yielded ops a.tmps) = true) (x y1 y2 : Operand) (ts : Array TypeId) (ho : o.op = .call { callee := .value x, args := #[y1, y2], argTypes := ts }) (f : Nat) (lb : Array Value) (hx : a.eval x = .func (.func f) #[] lb) (v1 v2 : Value) (h1 : a.eval y1 = v1) (h2 : a.eval y2 = v2)
    (en : ∀ args w, (callFunc f args).run P w = .ok (.enter f args) w) (v : Value) (R : World → Prop) (hc : Calls P f (#[v1, v2] ++ lb) w fun e w' => e = .returned v ∧ R w') (h : ∀ w', R w' → wpList P ops Q rest (a.put o.dst v) w') : wpList P ops Q (o :: rest) a w :=
  wpList_wanted2 hw fun K hK => by
    unfold Oper.wp
    simp only [execOp, ho, resolve, Deferred.ofValue, invoke, hx, Sem.run_bind, Sem.run_pure, Result.andThen_ok, List.map_toArray, List.map_cons, List.map_nil, h1, h2, Array.empty_append, en]
    exact hc.mono fun e w' ⟨he, hR⟩ => by subst he; exact hK _ _ (h w' hR)
/-- One that the model runs by itself. -/
theorem wpList_ext2 (hw : Region.wanted o (yielded ops a.tmps) = true) (x y1 y2 : Operand) (ts : Array TypeId) (ho : o.op = .call { callee := .value x, args := #[y1, y2], argTypes := ts }) (f : Nat) (lb : Array Value) (hx : a.eval x = .func (.func f) #[] lb) (v1 v2 : Value) (h1 : a.eval y1 = v1) (h2 : a.eval y2 = v2)
    (v : Value) (w' : World) (hr : (callFunc f (#[v1, v2] ++ lb)).run P w = .ok (.value v) w') (h : wpList P ops Q rest (a.put o.dst v) w') : wpList P ops Q (o :: rest) a w :=
  wpList_wanted2 hw fun K hK => by
    unfold Oper.wp
    simp only [execOp, ho, resolve, Deferred.ofValue, invoke, hx, Sem.run_bind, Sem.run_pure, Result.andThen_ok, List.map_toArray, List.map_cons, List.map_nil, h1, h2, Array.empty_append, hr]
    exact hK _ _ h
end
theorem but_of_below {G : Nat} {w w' : World} (h : Below w.heap.size w w') : But G w w' := ⟨h.os, h.tape, h.output, h.size, fun i hi _ => h.block i hi⟩
theorem row_but2 {w w' : World} {g c : Nat} {X : Obj} (h : Hid (w.heap[c]? = some X)) (hb : But g w w') (hne : g < c) : Hid (w'.heap[c]? = some X) := row_but h hb (by omega)
abbrev lsv (lf : Nat) (lb : Array Value) (sf : Nat) (sb : Array Value) : Array Value := #[.func (.func lf) #[] lb, .func (.func sf) #[] sb]
section
variable {w : World} {D lf sf : Nat} {lb sb : Array Value} {T : TypeId}
theorem ls_less (h : Hid (w.heap[D]? = some (.cells (lsv lf lb sf sb) T (0, 0)))) : w.cell? ⟨D, 0, none⟩ = some (.func (.func lf) #[] lb) := by rw [cell_of_row _ _ _ _ _ _ h.out]; rfl
theorem ls_swap (h : Hid (w.heap[D]? = some (.cells (lsv lf lb sf sb) T (0, 0)))) : w.cell? ⟨D, 1, none⟩ = some (.func (.func sf) #[] sb) := by rw [cell_of_row _ _ _ _ _ _ h.out]; rfl
end
end Go.Proofs.Ytncjobhpiohkkaa
namespace Go.Proofs.Ytncjobhpiohkkaa
open Go.RowKit Go.Sort
variable {α : Type} [Inhabited α] {lt : α → α → Bool} {n G B lf sf : Nat} {lb sb : Array Value} {At : Array α → World → Prop}

theorem s_cell {w : World} {s : Nat} {v : Value} {T : TypeId} (h : Hid (w.heap[s]? = some (.cells #[v] T (0, 0)))) : w.cell? ⟨s, 0, none⟩ = some v := by rw [cell_of_row _ _ _ _ _ _ h.out]; rfl
theorem s_froz {w : World} {s : Nat} {v : Value} {T : TypeId} (h : Hid (w.heap[s]? = some (.cells #[v] T (0, 0)))) : w.frozen? ⟨s, 0, none⟩ = false := frozen_of_row _ _ _ _ _ h.out
theorem but_high {w w' : World} {s : Nat} (h : But s w w') (hs : B ≤ s) (hB : B ≤ w.heap.size) : Below B w w' := ⟨h.os, h.tape, h.output, h.size, fun i hi => h.block i (by omega) (fun e => by injection e; omega)⟩
theorem order2_in {d : Array α} {a b c x y z : Nat} (h : order2 lt d a b c = (x, y, z)) : (x = a ∨ x = b) ∧ (y = a ∨ y = b) ∧ z ≤ c + 1 := by
  rw [order2] at h
  split at h <;> (simp only [Prod.mk.injEq] at h; obtain ⟨rfl, rfl, rfl⟩ := h; simp)

set_option maxRecDepth 100000 in
set_option maxHeartbeats 8000000 in
theorem sord_any (hS : Srt lt n G B lf lb sf sb At) (d : Array α) (a b : Nat) {av bv : Int} (ea : av = (a : Int)) (eb : bv = (b : Int)) (w : World) (hA : At d w) (ha : a < n) (hb : b < n) (s c x y z : Nat) (hc : Hid (w.heap[s]? = some (.cells #[.int .i64 (c : Int)] 3 (0, 0)))) (hcb : c < 1000) (hO : Vlt (order2 lt d a b c = (x, y, z))) :
    Calls Try.prog 104 #[.agg (lsv lf lb sf sb), .int .i64 av, .int .i64 bv, .pointer (some ⟨s, 0, none⟩)] w fun e w' => e = .returned (.tuple #[.int .i64 (x : Int), .int .i64 (y : Int)]) ∧ Hid (w'.heap[s]? = some (.cells #[.int .i64 (z : Int)] 3 (0, 0))) ∧ But s w w' := by
  subst ea eb
  have hsm := hS.small
  have eg := Lib.hid hS.enter
  have hbl := hS.blk hA
  have hlo := hS.low
  obtain ⟨W, hW, hD, hB, hsz⟩ := one_new w (lsv lf lb sf sb) 91
  have HW := Lib.hid hW
  have hA1 := hS.keep hA (hB.mono hbl)
  have hw1 : But G w W := but_of_below hB
  clear hW hA
  go_enter Try.func104, Try.ntmps104
  go_upto_region 1 with fail
  rw [HW.out]
  have hsl := row_size hc
  have hc1 := row_next2 hc hB
  have hc0 := ls_less hD
  cases hl : lt d[b]! d[a]! with
  | true =>
    have h2 := hO.out
    rw [order2, hl] at h2
    obtain ⟨rfl, rfl, rfl⟩ : x = b ∧ y = a ∧ z = c + 1 := by simpa [eq_comm] using h2
    have HL := Lib.hid hl
    clear hl h2 hO
    go_wp2_with (with_reducible refine at_op 14 rfl ?_; with_reducible refine wpList_fn2 (by kernel_rfl) (.tmp 11) (.tmp 12) (.tmp 13) _ rfl lf lb rfl (.int .i64 ((x : Int))) (.int .i64 ((y : Int))) rfl rfl eg.out _ _ (hS.less hA1 (i := x) (j := y) (iv := (x : Int)) (jv := (y : Int)) (by omega) (by omega) (by omega) (by omega) HL.out) ?_; intro w1 hb1; have at1 := hS.keep hA1 (hb1.mono (hS.blk hA1)); have hD1 := row_next2 hD hb1; have hc01 := ls_less hD1; have hc11 := ls_swap hD1; have hk1 := row_next2 hc1 hb1; have hcc := s_cell hk1; have hff := s_froz hk1)
    (try simp only [Exit.inBlock, Exit.then]); refine bodyPost_ret (results_tmp2 rfl _ _ _) rfl ?_
    refine ⟨by go_num, ?_, ?_⟩
    · have h := (world_set_cell (cs := [.int .i64 (c : Int)]) hk1.out 0 (.int .i64 ((c : Int) + 1))).out
      show _ = _
      rw [h]; rfl
    · exact ((but_of_below hB).trans (but_of_below hb1)).set _
  | false =>
    have h2 := hO.out
    rw [order2, hl] at h2
    obtain ⟨rfl, rfl, rfl⟩ : x = a ∧ y = b ∧ z = c := by simpa [eq_comm] using h2
    have HL := Lib.hid hl
    clear hl h2 hO
    go_wp2_with (with_reducible refine at_op 14 rfl ?_; with_reducible refine wpList_fn2 (by kernel_rfl) (.tmp 11) (.tmp 12) (.tmp 13) _ rfl lf lb rfl (.int .i64 ((y : Int))) (.int .i64 ((x : Int))) rfl rfl eg.out _ _ (hS.less hA1 (i := y) (j := x) (iv := (y : Int)) (jv := (x : Int)) (by omega) (by omega) (by omega) (by omega) HL.out) ?_; intro w1 hb1; have at1 := hS.keep hA1 (hb1.mono (hS.blk hA1)); have hD1 := row_next2 hD hb1; have hc01 := ls_less hD1; have hc11 := ls_swap hD1)
    (try simp only [Exit.inBlock, Exit.then]); refine bodyPost_ret (results_tmp2 rfl _ _ _) rfl ?_
    exact ⟨rfl, row_next2 hc1 hb1, (but_of_below hB).trans (but_of_below hb1)⟩
/-- A median's three comparisons. -/
theorem median_in {d : Array α} {a b c k m z : Nat} (h : median lt d a b c k = (m, z)) : (m = a ∨ m = b ∨ m = c) ∧ z ≤ k + 3 := by
  obtain ⟨x1, y1, z1, h1⟩ : ∃ x y z, order2 lt d a b k = (x, y, z) := ⟨_, _, _, rfl⟩
  obtain ⟨x2, y2, z2, h2⟩ : ∃ x y z, order2 lt d y1 c z1 = (x, y, z) := ⟨_, _, _, rfl⟩
  obtain ⟨x3, y3, z3, h3⟩ : ∃ x y z, order2 lt d x1 x2 z2 = (x, y, z) := ⟨_, _, _, rfl⟩
  simp only [median, h1, h2, h3, Prod.mk.injEq] at h
  have := order2_in h1
  have := order2_in h2
  have := order2_in h3
  omega
set_option maxRecDepth 100000 in
set_option maxHeartbeats 8000000 in
theorem smed_any (hS : Srt lt n G B lf lb sf sb At) (d : Array α) (a b c : Nat) {av bv cv : Int} (ea : av = (a : Int)) (eb : bv = (b : Int)) (ec : cv = (c : Int)) (w : World) (hA : At d w) (ha : a < n) (hb : b < n) (hcn : c < n) (s k m z : Nat) (hc : Hid (w.heap[s]? = some (.cells #[.int .i64 (k : Int)] 3 (0, 0)))) (hs : B ≤ s) (hcb : k < 900) (hO : Vlt (median lt d a b c k = (m, z))) :
    Calls Try.prog 97 #[.agg (lsv lf lb sf sb), .int .i64 av, .int .i64 bv, .int .i64 cv, .pointer (some ⟨s, 0, none⟩)] w fun e w' => e = .returned (.int .i64 (m : Int)) ∧ Hid (w'.heap[s]? = some (.cells #[.int .i64 (z : Int)] 3 (0, 0))) ∧ But s w w' := by
  subst ea eb ec
  have hsm := hS.small
  have eg := Lib.hid hS.enter
  have hbl := hS.blk hA
  have hlo := hS.low
  obtain ⟨W, hW, hD, hB, hsz⟩ := one_new w (lsv lf lb sf sb) 91
  have HW := Lib.hid hW
  have hA1 := hS.keep hA (hB.mono hbl)
  have hw1 : But G w W := but_of_below hB
  clear hW hA
  go_enter Try.func97, Try.ntmps97
  go_upto_region 1 with fail
  rw [HW.out]
  have hsl := row_size hc
  have hc1 := row_next2 hc hB
  have hc0 := ls_less hD
  have hc11 := ls_swap hD
  obtain ⟨x1, y1, z1, h1⟩ : ∃ x y z, order2 lt d a b k = (x, y, z) := ⟨_, _, _, rfl⟩
  obtain ⟨x2, y2, z2, h2⟩ : ∃ x y z, order2 lt d y1 c z1 = (x, y, z) := ⟨_, _, _, rfl⟩
  obtain ⟨x3, y3, z3, h3⟩ : ∃ x y z, order2 lt d x1 x2 z2 = (x, y, z) := ⟨_, _, _, rfl⟩
  have i1 := order2_in h1
  have i2 := order2_in h2
  have i3 := order2_in h3
  have hO2 := hO.out
  simp only [median, h1, h2, h3, Prod.mk.injEq] at hO2
  obtain ⟨rfl, rfl⟩ : m = y3 ∧ z = z3 := ⟨hO2.1.symm, hO2.2.symm⟩
  have H1 := vlt h1
  have H2 := vlt h2
  have H3 := vlt h3
  have q1 : x1 < n ∧ y1 < n ∧ z1 < 1000 := by omega
  have q2 : x2 < n ∧ y2 < n ∧ z2 < 1000 := by omega
  obtain ⟨p1, p2, p3⟩ := q1
  obtain ⟨p4, p5, p6⟩ := q2
  have I3 := Lib.hid i3
  clear h1 h2 h3 hO hO2 i1 i2 i3
  go_wp2_with (first | (go_at_call 104; with_reducible refine (sord_any hS d a b rfl rfl W hA1 (by omega) (by omega) s k x1 y1 z1 hc1 (by omega) H1).mono ?_; rintro e v1 ⟨rfl, hk1, hv1⟩; have av1 := hS.keep hA1 (but_high hv1 hs (hS.blk hA1)); have dv1 := row_but hD hv1 (by omega); have l01 := ls_less dv1; have l11 := ls_swap dv1) | (go_at_call 104; with_reducible refine (sord_any hS d y1 c rfl rfl v1 av1 (by omega) (by omega) s z1 x2 y2 z2 hk1 (by omega) H2).mono ?_; rintro e v2 ⟨rfl, hk2, hv2⟩; have av2 := hS.keep av1 (but_high hv2 hs (hS.blk av1)); have dv2 := row_but dv1 hv2 (by omega); have l02 := ls_less dv2; have l12 := ls_swap dv2) | (go_at_call 104; with_reducible refine (sord_any hS d x1 x2 rfl rfl v2 av2 (by omega) (by omega) s z2 x3 m z hk2 (by omega) H3).mono ?_; rintro e v3 ⟨rfl, hk3, hv3⟩; have av3 := hS.keep av2 (but_high hv3 hs (hS.blk av2)); have dv3 := row_but dv2 hv3 (by omega); have l03 := ls_less dv3; have l13 := ls_swap dv3))
  go_ret
  exact ⟨rfl, hk3, (((but_of_below hB).trans hv1).trans hv2).trans hv3⟩
set_option maxRecDepth 100000 in
set_option maxHeartbeats 8000000 in
theorem smad_any (hS : Srt lt n G B lf lb sf sb At) (d : Array α) (a : Nat) {av : Int} (ea : av = (a : Int)) (w : World) (hA : At d w) (ha : 1 ≤ a) (hb : a + 1 < n) (s k m z : Nat) (hc : Hid (w.heap[s]? = some (.cells #[.int .i64 (k : Int)] 3 (0, 0)))) (hs : B ≤ s) (hcb : k < 900) (hO : Vlt (medianAdjacent lt d a k = (m, z))) :
    Calls Try.prog 96 #[.agg (lsv lf lb sf sb), .int .i64 av, .pointer (some ⟨s, 0, none⟩)] w fun e w' => e = .returned (.int .i64 (m : Int)) ∧ Hid (w'.heap[s]? = some (.cells #[.int .i64 (z : Int)] 3 (0, 0))) ∧ But s w w' := by
  subst ea
  have hsm := hS.small
  have eg := Lib.hid hS.enter
  have hbl := hS.blk hA
  have hlo := hS.low
  obtain ⟨W, hW, hD, hB, hsz⟩ := one_new w (lsv lf lb sf sb) 91
  have HW := Lib.hid hW
  have hA1 := hS.keep hA (hB.mono hbl)
  have hw1 : But G w W := but_of_below hB
  clear hW hA
  go_enter Try.func96, Try.ntmps96
  go_upto_region 1 with fail
  rw [HW.out]
  have hsl := row_size hc
  have hc1 := row_next2 hc hB
  have hc0 := ls_less hD
  have hc11 := ls_swap hD
  go_wp2_with (go_at_call 97; refine (smed_any hS d (a - 1) a (a + 1) (by omega) rfl (by omega) W hA1 (by omega) (by omega) (by omega) s k m z hc1 hs (by omega) hO).mono ?_; rintro e v1 ⟨rfl, hk1, hv1⟩)
  go_ret
  exact ⟨rfl, hk1, (but_of_below hB).trans hv1⟩
end Go.Proofs.Ytncjobhpiohkkaa
namespace Go.Proofs.Ytncjobhpiohkkaa
open Go.RowKit Go.Sort
variable {α : Type} [Inhabited α] {lt : α → α → Bool} {n G B lf sf : Nat} {lb sb : Array Value} {At : Array α → World → Prop}

theorem insOuter_end {a b i : Nat} {d : Array α} (h : ¬ i < b) : insOuter lt a b i d = d := by rw [insOuter, if_neg h]
theorem insOuter_go {a b i : Nat} {d : Array α} (h : i < b) : insOuter lt a b i d = insOuter lt a b (i + 1) (insInner lt a i d) := by rw [insOuter, if_pos h]
theorem insInner_end {a j : Nat} {d : Array α} (h : ¬ a < j) : insInner lt a j d = d := by
  cases j with
  | zero => rfl
  | succ j => rw [insInner, if_neg (by simp; omega)]
theorem insInner_stop {a j : Nat} {d : Array α} (h : lt d[j + 1]! d[j]! = false) : insInner lt a (j + 1) d = d := by rw [insInner, if_neg (by simp [h])]
theorem insInner_go {a j : Nat} {d : Array α} (ha : a < j + 1) (h : lt d[j + 1]! d[j]! = true) : insInner lt a (j + 1) d = insInner lt a j (swp d (j + 1) j) := by rw [insInner, if_pos (by simp [h]; omega)]

set_option maxRecDepth 100000 in
theorem sins_any (hS : Srt lt n G B lf lb sf sb At) (d : Array α) (a b : Nat) {av bv : Int} (ea : av = (a : Int)) (eb : bv = (b : Int)) (w : World) (hA : At d w) (hab : a ≤ b) (hb : b ≤ n) :
    Calls Try.prog 75 #[.agg (lsv lf lb sf sb), .int .i64 av, .int .i64 bv] w fun e w' => e = .returned (.tuple #[]) ∧ At (insertionSort lt d a b) w' ∧ But G w w' := by
  subst ea eb
  have hsm := hS.small
  have eg := hS.enter
  have hbl := hS.blk hA
  have hlo := hS.low
  obtain ⟨W, hW, hD, hB, hsz⟩ := one_new w (lsv lf lb sf sb) 91
  have HW := Lib.hid hW
  have hA1 := hS.keep hA (hB.mono hbl)
  have hw1 : But G w W := but_of_below hB
  obtain ⟨R, hR⟩ : ∃ R, insertionSort lt d a b = R := ⟨_, rfl⟩
  have HR := Lib.hid hR
  rw [hR]
  clear hW hA hR
  go_enter Try.func75, Try.ntmps75
  go_upto_region 1 with fail
  rw [HW.out]
  go_wp2
  go_loopg [6] (b - a) (fun kx s6 wr => ∃ (i : Nat) (dk : Array α), s6 = .int .i64 i ∧ b - i < kx + 1 ∧ a < i ∧ At dk wr ∧ But G W wr ∧ Hid (wr.heap[w.heap.size]? = some (.cells (lsv lf lb sf sb) 91 (0, 0))) ∧ Hid (insOuter lt a b i dk = R))
  case atStart => exact ⟨a + 1, d, by go_num, by omega, by omega, hA1, But.refl _ _, hD, HR⟩
  case round =>
    obtain ⟨i, dk, rfl, hk, hai, hAk, hbut, hDk, HE⟩ := hrel
    by_cases hib : i < b
    · have hibz : (i : Int) < (b : Int) := by omega
      rw [insOuter_go hib] at HE
      obtain ⟨Dm, hDm⟩ : ∃ Dm, insInner lt a i dk = Dm := ⟨_, rfl⟩
      rw [hDm] at HE
      have HDm := Lib.hid hDm
      clear hDm
      go_upto_region 5 with fail
      go_loopg [7] (i - a) (fun ky s7 wq => ∃ (j : Nat) (dj : Array α), s7 = .int .i64 j ∧ j - a < ky + 1 ∧ a ≤ j ∧ j ≤ i ∧ At dj wq ∧ But G W wq ∧ Hid (wq.heap[w.heap.size]? = some (.cells (lsv lf lb sf sb) 91 (0, 0))) ∧ Hid (insInner lt a j dj = Dm))
      case atStart => exact ⟨i, dk, rfl, by omega, by omega, by omega, hAk, hbut, hDk, HDm⟩
      case round =>
        obtain ⟨j, dj, rfl, hj, haj, hji, hAj, hbj, hDj, HF⟩ := hrel
        by_cases hlt : a < j
        · have hltz : (a : Int) < (j : Int) := by omega
          obtain ⟨j, rfl⟩ : ∃ k, j = k + 1 := ⟨j - 1, by omega⟩
          have hc0 := ls_less hDj
          cases hl : lt dj[j + 1]! dj[j]! with
          | true =>
            rw [insInner_go hlt hl] at HF
            have HL := Lib.hid hl
            clear hl
            go_wp2_with (refine (hS.less hAj (i := j + 1) (j := j) (by omega) (by omega) (by omega) (by omega) HL.out).mono ?_; rintro e w1 ⟨rfl, hb1⟩; have hA1' := hS.keep hAj (hb1.mono (hS.blk hAj)); have hD1 := row_next2 hDj hb1; have hc1 := ls_swap hD1; obtain ⟨w2, hsw, hA2, hb2⟩ := hS.swap hA1' (i := j + 1) (j := j) ((j : Int) + 1) j (by omega) (by omega) (by omega) (by omega))
            have hD2 := row_but2 hD1 hb2 (by omega)
            have hbb : But G W w2 := (hbj.go hb1).trans hb2
            go_roundg (j - a)
            case measure => omega
            case rel => exact ⟨j, _, by go_num, by omega, by omega, by omega, hA2, hbb, hD2, HF⟩
          | false =>
            rw [insInner_stop hl] at HF
            have HL := Lib.hid hl
            clear hl
            go_wp2_with (refine (hS.less hAj (i := j + 1) (j := j) (by omega) (by omega) (by omega) (by omega) HL.out).mono ?_; rintro e w1 ⟨rfl, hb1⟩)
            go_roundg (b - (i + 1))
            case measure => omega
            case rel => exact ⟨i + 1, dj, by go_num, by omega, by omega, hS.keep hAj (hb1.mono (hS.blk hAj)), hbj.go hb1, row_next2 hDj hb1, by rw [HF.out]; exact HE⟩
        · have hltz : ¬ (a : Int) < (j : Int) := by omega
          rw [insInner_end hlt] at HF
          go_wp2
          go_roundg (b - (i + 1))
          case measure => omega
          case rel => exact ⟨i + 1, dj, by go_num, by omega, by omega, hAj, hbj, hDj, by rw [HF.out]; exact HE⟩
    · have hibz : ¬ (i : Int) < (b : Int) := by omega
      have hR := HE.out
      rw [insOuter_end hib] at hR
      subst hR
      go_wp2
      go_end0
      exact ⟨rfl, hAk, hw1.trans hbut⟩
end Go.Proofs.Ytncjobhpiohkkaa
namespace Go.Proofs.Ytncjobhpiohkkaa
open Go.RowKit Go.Sort
variable {α : Type} [Inhabited α] {lt : α → α → Bool} {n G B lf sf : Nat} {lb sb : Array Value} {At : Array α → World → Prop}

/-- The greater child. -/
def chd (lt : α → α → Bool) (hi F root : Nat) (d : Array α) : Nat := if 2 * root + 2 < hi ∧ lt d[F + (2 * root + 1)]! d[F + (2 * root + 2)]! = true then 2 * root + 2 else 2 * root + 1
theorem sift_end {hi F root : Nat} {d : Array α} (h : hi ≤ 2 * root + 1) : siftDown lt hi F root d = d := by rw [siftDown, dif_pos h]
theorem sift_stop {hi F root c : Nat} {d : Array α} (h0 : ¬ hi ≤ 2 * root + 1) (hc : chd lt hi F root d = c) (h : lt d[F + root]! d[F + c]! = false) : siftDown lt hi F root d = d := by
  subst hc
  rw [siftDown, dif_neg (by omega)]
  unfold chd at h
  by_cases h1 : 2 * root + 2 < hi ∧ lt d[F + (2 * root + 1)]! d[F + (2 * root + 2)]! = true
  · rw [if_pos h1] at h
    rw [if_pos (by simp; exact ⟨by omega, h1.2⟩), if_pos (by simp [h])]
  · rw [if_neg h1] at h
    rw [if_neg (by simp; intro h2; simp only [not_and, Bool.not_eq_true] at h1; exact h1 (by omega)), if_pos (by simp [h])]
theorem sift_go {hi F root c : Nat} {d : Array α} (h0 : ¬ hi ≤ 2 * root + 1) (hc : chd lt hi F root d = c) (h : lt d[F + root]! d[F + c]! = true) : siftDown lt hi F root d = siftDown lt hi F c (swp d (F + root) (F + c)) := by
  subst hc
  rw [siftDown, dif_neg (by omega)]
  unfold chd at h ⊢
  by_cases h1 : 2 * root + 2 < hi ∧ lt d[F + (2 * root + 1)]! d[F + (2 * root + 2)]! = true
  · rw [if_pos h1] at h ⊢
    rw [if_pos (by simp; exact ⟨by omega, h1.2⟩), if_neg (by simp [h]), dif_pos h1.1]
  · rw [if_neg h1] at h ⊢
    rw [if_neg (by simp; intro h2; simp only [not_and, Bool.not_eq_true] at h1; exact h1 (by omega)), if_neg (by simp [h])]

set_option maxRecDepth 100000 in
set_option maxHeartbeats 8000000 in
theorem ssift_any (hS : Srt lt n G B lf lb sf sb At) (d : Array α) (lo hi F : Nat) {lov hiv Fv : Int} (elo : lov = (lo : Int)) (ehi : hiv = (hi : Int)) (eF : Fv = (F : Int)) (w : World) (hA : At d w) (hlo : lo ≤ hi) (hb : F + hi ≤ n) :
    Calls Try.prog 93 #[.agg (lsv lf lb sf sb), .int .i64 lov, .int .i64 hiv, .int .i64 Fv] w fun e w' => e = .returned (.tuple #[]) ∧ At (siftDown lt hi F lo d) w' ∧ But G w w' := by
  subst elo ehi eF
  have hsm := hS.small
  have eg := Lib.hid hS.enter
  have hbl := hS.blk hA
  have hlo := hS.low
  obtain ⟨W, hW, hD, hB, hsz⟩ := one_new w (lsv lf lb sf sb) 91
  have HW := Lib.hid hW
  have hA1 := hS.keep hA (hB.mono hbl)
  have hw1 : But G w W := but_of_below hB
  obtain ⟨R, hR⟩ : ∃ R, siftDown lt hi F lo d = R := ⟨_, rfl⟩
  have HR := vlt hR
  rw [hR]
  clear hW hA hR
  go_enter Try.func93, Try.ntmps93
  go_upto_region 1 with fail
  rw [HW.out]
  go_wp2
  go_loopg [8] (hi - lo) (fun kx s8 wr => ∃ (r : Nat) (dk : Array α), s8 = .int .i64 r ∧ hi - r < kx + 1 ∧ r ≤ hi ∧ At dk wr ∧ But G W wr ∧ Hid (wr.heap[w.heap.size]? = some (.cells (lsv lf lb sf sb) 91 (0, 0))) ∧ Vlt (siftDown lt hi F r dk = R))
  case atStart => exact ⟨lo, d, rfl, by omega, by omega, hA1, But.refl _ _, hD, HR⟩
  case round =>
    obtain ⟨r, dk, rfl, hk, hrh, hAk, hbut, hDk, HE⟩ := hrel
    have hc0 := ls_less hDk
    by_cases h0 : hi ≤ 2 * r + 1
    · have h0z : (hi : Int) ≤ 2 * (r : Int) + 1 := by omega
      have hR := HE.out
      rw [sift_end h0] at hR
      subst hR
      clear HE
      go_wp2
      go_end0
      exact ⟨rfl, hAk, hw1.trans hbut⟩
    · have h0z : ¬ (hi : Int) ≤ 2 * (r : Int) + 1 := by omega
      by_cases h1 : 2 * r + 2 < hi
      · have h1z : 2 * (r : Int) + 1 + 1 < (hi : Int) := by omega
        cases hL : lt dk[F + (2 * r + 1)]! dk[F + (2 * r + 2)]! with
        | true =>
          have HL := Lib.hid hL
          have HC : Vlt (chd lt hi F r dk = 2 * r + 2) := vlt (by
            unfold chd
            rw [if_pos ⟨h1, hL⟩])
          cases hG : lt dk[F + r]! dk[F + (2 * r + 2)]! with
          | true =>
            have HE2 := vlt ((sift_go h0 HC.out hG).symm.trans HE.out)
            clear HE
            have HG := Lib.hid hG
            clear hG HC hL
            go_wp2_with (first | (with_reducible refine at_op 31 rfl ?_; with_reducible refine wpList_fn2 (by kernel_rfl) (.tmp 23) (.tmp 26) (.tmp 30) _ rfl lf lb rfl (.int .i64 ((F : Int) + (2 * (r : Int) + 1))) (.int .i64 ((F : Int) + (2 * (r : Int) + 1) + 1)) rfl rfl eg.out _ _ (hS.less hAk (i := F + (2 * r + 1)) (j := F + (2 * r + 2)) (iv := (F : Int) + (2 * (r : Int) + 1)) (jv := (F : Int) + (2 * (r : Int) + 1) + 1) (by omega) (by omega) (by omega) (by omega) HL.out) ?_; intro w1 hb1; have at1 := hS.keep hAk (hb1.mono (hS.blk hAk)); have hD1 := row_next2 hDk hb1; have hc01 := ls_less hD1; have hc11 := ls_swap hD1) | (with_reducible refine at_op 43 rfl ?_; with_reducible refine wpList_fn2 (by kernel_rfl) (.tmp 36) (.tmp 39) (.tmp 42) _ rfl lf lb rfl (.int .i64 ((F : Int) + (r : Int))) (.int .i64 ((F : Int) + (2 * (r : Int) + 1 + 1))) rfl rfl eg.out _ _ (hS.less at1 (i := F + r) (j := F + (2 * r + 2)) (iv := (F : Int) + (r : Int)) (jv := (F : Int) + (2 * (r : Int) + 1 + 1)) (by omega) (by omega) (by omega) (by omega) HG.out) ?_; intro w2 hb2; have at2 := hS.keep at1 (hb2.mono (hS.blk at1)); have hD2 := row_next2 hD1 hb2; have hc02 := ls_less hD2; have hc12 := ls_swap hD2) | (with_reducible refine at_op 53 rfl ?_; obtain ⟨w3, hsw3, at3, hb3⟩ := hS.swap at2 (i := F + r) (j := F + (2 * r + 2)) ((F : Int) + (r : Int)) ((F : Int) + (2 * (r : Int) + 1 + 1)) (by omega) (by omega) (by omega) (by omega); with_reducible refine wpList_ext2 (by kernel_rfl) (.tmp 46) (.tmp 49) (.tmp 52) _ rfl sf sb rfl (.int .i64 ((F : Int) + (r : Int))) (.int .i64 ((F : Int) + (2 * (r : Int) + 1 + 1))) rfl rfl _ w3 hsw3 ?_; clear hsw3; have hD3 := row_but2 hD2 hb3 (by omega); have hc03 := ls_less hD3; have hc13 := ls_swap hD3))
            go_roundg (hi - (2 * r + 2))
            case measure => omega
            case rel => exact ⟨2 * r + 2, _, by go_num, by omega, by omega, at3, ((hbut.go hb1).go hb2).trans hb3, hD3, HE2⟩
          | false =>
            have hR := HE.out
            rw [sift_stop h0 HC.out hG] at hR
            subst hR
            clear HE
            have HG := Lib.hid hG
            clear hG HC hL
            go_wp2_with (first | (with_reducible refine at_op 31 rfl ?_; with_reducible refine wpList_fn2 (by kernel_rfl) (.tmp 23) (.tmp 26) (.tmp 30) _ rfl lf lb rfl (.int .i64 ((F : Int) + (2 * (r : Int) + 1))) (.int .i64 ((F : Int) + (2 * (r : Int) + 1) + 1)) rfl rfl eg.out _ _ (hS.less hAk (i := F + (2 * r + 1)) (j := F + (2 * r + 2)) (iv := (F : Int) + (2 * (r : Int) + 1)) (jv := (F : Int) + (2 * (r : Int) + 1) + 1) (by omega) (by omega) (by omega) (by omega) HL.out) ?_; intro w1 hb1; have at1 := hS.keep hAk (hb1.mono (hS.blk hAk)); have hD1 := row_next2 hDk hb1; have hc01 := ls_less hD1; have hc11 := ls_swap hD1) | (with_reducible refine at_op 43 rfl ?_; with_reducible refine wpList_fn2 (by kernel_rfl) (.tmp 36) (.tmp 39) (.tmp 42) _ rfl lf lb rfl (.int .i64 ((F : Int) + (r : Int))) (.int .i64 ((F : Int) + (2 * (r : Int) + 1 + 1))) rfl rfl eg.out _ _ (hS.less at1 (i := F + r) (j := F + (2 * r + 2)) (iv := (F : Int) + (r : Int)) (jv := (F : Int) + (2 * (r : Int) + 1 + 1)) (by omega) (by omega) (by omega) (by omega) HG.out) ?_; intro w2 hb2; have at2 := hS.keep at1 (hb2.mono (hS.blk at1)); have hD2 := row_next2 hD1 hb2; have hc02 := ls_less hD2; have hc12 := ls_swap hD2))
            (try simp only [Exit.inBlock, Exit.then]); refine bodyPost_ret (results_none rfl _ _ _) rfl ?_
            exact ⟨rfl, at2, hw1.trans ((hbut.go hb1).go hb2)⟩
        | false =>
          have HL := Lib.hid hL
          have HC : Vlt (chd lt hi F r dk = 2 * r + 1) := vlt (by
            unfold chd
            rw [if_neg (by rw [hL]; simp)])
          cases hG : lt dk[F + r]! dk[F + (2 * r + 1)]! with
          | true =>
            have HE2 := vlt ((sift_go h0 HC.out hG).symm.trans HE.out)
            clear HE
            have HG := Lib.hid hG
            clear hG HC hL
            go_wp2_with (first | (with_reducible refine at_op 31 rfl ?_; with_reducible refine wpList_fn2 (by kernel_rfl) (.tmp 23) (.tmp 26) (.tmp 30) _ rfl lf lb rfl (.int .i64 ((F : Int) + (2 * (r : Int) + 1))) (.int .i64 ((F : Int) + (2 * (r : Int) + 1) + 1)) rfl rfl eg.out _ _ (hS.less hAk (i := F + (2 * r + 1)) (j := F + (2 * r + 2)) (iv := (F : Int) + (2 * (r : Int) + 1)) (jv := (F : Int) + (2 * (r : Int) + 1) + 1) (by omega) (by omega) (by omega) (by omega) HL.out) ?_; intro w1 hb1; have at1 := hS.keep hAk (hb1.mono (hS.blk hAk)); have hD1 := row_next2 hDk hb1; have hc01 := ls_less hD1; have hc11 := ls_swap hD1) | (with_reducible refine at_op 43 rfl ?_; with_reducible refine wpList_fn2 (by kernel_rfl) (.tmp 36) (.tmp 39) (.tmp 42) _ rfl lf lb rfl (.int .i64 ((F : Int) + (r : Int))) (.int .i64 ((F : Int) + (2 * (r : Int) + 1))) rfl rfl eg.out _ _ (hS.less at1 (i := F + r) (j := F + (2 * r + 1)) (iv := (F : Int) + (r : Int)) (jv := (F : Int) + (2 * (r : Int) + 1)) (by omega) (by omega) (by omega) (by omega) HG.out) ?_; intro w2 hb2; have at2 := hS.keep at1 (hb2.mono (hS.blk at1)); have hD2 := row_next2 hD1 hb2; have hc02 := ls_less hD2; have hc12 := ls_swap hD2) | (with_reducible refine at_op 53 rfl ?_; obtain ⟨w3, hsw3, at3, hb3⟩ := hS.swap at2 (i := F + r) (j := F + (2 * r + 1)) ((F : Int) + (r : Int)) ((F : Int) + (2 * (r : Int) + 1)) (by omega) (by omega) (by omega) (by omega); with_reducible refine wpList_ext2 (by kernel_rfl) (.tmp 46) (.tmp 49) (.tmp 52) _ rfl sf sb rfl (.int .i64 ((F : Int) + (r : Int))) (.int .i64 ((F : Int) + (2 * (r : Int) + 1))) rfl rfl _ w3 hsw3 ?_; clear hsw3; have hD3 := row_but2 hD2 hb3 (by omega); have hc03 := ls_less hD3; have hc13 := ls_swap hD3))
            go_roundg (hi - (2 * r + 1))
            case measure => omega
            case rel => exact ⟨2 * r + 1, _, by go_num, by omega, by omega, at3, ((hbut.go hb1).go hb2).trans hb3, hD3, HE2⟩
          | false =>
            have hR := HE.out
            rw [sift_stop h0 HC.out hG] at hR
            subst hR
            clear HE
            have HG := Lib.hid hG
            clear hG HC hL
            go_wp2_with (first | (with_reducible refine at_op 31 rfl ?_; with_reducible refine wpList_fn2 (by kernel_rfl) (.tmp 23) (.tmp 26) (.tmp 30) _ rfl lf lb rfl (.int .i64 ((F : Int) + (2 * (r : Int) + 1))) (.int .i64 ((F : Int) + (2 * (r : Int) + 1) + 1)) rfl rfl eg.out _ _ (hS.less hAk (i := F + (2 * r + 1)) (j := F + (2 * r + 2)) (iv := (F : Int) + (2 * (r : Int) + 1)) (jv := (F : Int) + (2 * (r : Int) + 1) + 1) (by omega) (by omega) (by omega) (by omega) HL.out) ?_; intro w1 hb1; have at1 := hS.keep hAk (hb1.mono (hS.blk hAk)); have hD1 := row_next2 hDk hb1; have hc01 := ls_less hD1; have hc11 := ls_swap hD1) | (with_reducible refine at_op 43 rfl ?_; with_reducible refine wpList_fn2 (by kernel_rfl) (.tmp 36) (.tmp 39) (.tmp 42) _ rfl lf lb rfl (.int .i64 ((F : Int) + (r : Int))) (.int .i64 ((F : Int) + (2 * (r : Int) + 1))) rfl rfl eg.out _ _ (hS.less at1 (i := F + r) (j := F + (2 * r + 1)) (iv := (F : Int) + (r : Int)) (jv := (F : Int) + (2 * (r : Int) + 1)) (by omega) (by omega) (by omega) (by omega) HG.out) ?_; intro w2 hb2; have at2 := hS.keep at1 (hb2.mono (hS.blk at1)); have hD2 := row_next2 hD1 hb2; have hc02 := ls_less hD2; have hc12 := ls_swap hD2))
            (try simp only [Exit.inBlock, Exit.then]); refine bodyPost_ret (results_none rfl _ _ _) rfl ?_
            exact ⟨rfl, at2, hw1.trans ((hbut.go hb1).go hb2)⟩
      · have h1z : ¬ 2 * (r : Int) + 1 + 1 < (hi : Int) := by omega
        have HC : Vlt (chd lt hi F r dk = 2 * r + 1) := vlt (by
          unfold chd
          rw [if_neg (by omega)])
        cases hG : lt dk[F + r]! dk[F + (2 * r + 1)]! with
        | true =>
          have HE2 := vlt ((sift_go h0 HC.out hG).symm.trans HE.out)
          clear HE
          have HG := Lib.hid hG
          clear hG HC
          go_wp2_with (first | (with_reducible refine at_op 43 rfl ?_; with_reducible refine wpList_fn2 (by kernel_rfl) (.tmp 36) (.tmp 39) (.tmp 42) _ rfl lf lb rfl (.int .i64 ((F : Int) + (r : Int))) (.int .i64 ((F : Int) + (2 * (r : Int) + 1))) rfl rfl eg.out _ _ (hS.less hAk (i := F + r) (j := F + (2 * r + 1)) (iv := (F : Int) + (r : Int)) (jv := (F : Int) + (2 * (r : Int) + 1)) (by omega) (by omega) (by omega) (by omega) HG.out) ?_; intro w2 hb2; have at2 := hS.keep hAk (hb2.mono (hS.blk hAk)); have hD2 := row_next2 hDk hb2; have hc02 := ls_less hD2; have hc12 := ls_swap hD2) | (with_reducible refine at_op 53 rfl ?_; obtain ⟨w3, hsw3, at3, hb3⟩ := hS.swap at2 (i := F + r) (j := F + (2 * r + 1)) ((F : Int) + (r : Int)) ((F : Int) + (2 * (r : Int) + 1)) (by omega) (by omega) (by omega) (by omega); with_reducible refine wpList_ext2 (by kernel_rfl) (.tmp 46) (.tmp 49) (.tmp 52) _ rfl sf sb rfl (.int .i64 ((F : Int) + (r : Int))) (.int .i64 ((F : Int) + (2 * (r : Int) + 1))) rfl rfl _ w3 hsw3 ?_; clear hsw3; have hD3 := row_but2 hD2 hb3 (by omega); have hc03 := ls_less hD3; have hc13 := ls_swap hD3))
          go_roundg (hi - (2 * r + 1))
          case measure => omega
          case rel => exact ⟨2 * r + 1, _, by go_num, by omega, by omega, at3, (hbut.go hb2).trans hb3, hD3, HE2⟩
        | false =>
          have hR := HE.out
          rw [sift_stop h0 HC.out hG] at hR
          subst hR
          clear HE
          have HG := Lib.hid hG
          clear hG HC
          go_wp2_with (with_reducible refine at_op 43 rfl ?_; with_reducible refine wpList_fn2 (by kernel_rfl) (.tmp 36) (.tmp 39) (.tmp 42) _ rfl lf lb rfl (.int .i64 ((F : Int) + (r : Int))) (.int .i64 ((F : Int) + (2 * (r : Int) + 1))) rfl rfl eg.out _ _ (hS.less hAk (i := F + r) (j := F + (2 * r + 1)) (iv := (F : Int) + (r : Int)) (jv := (F : Int) + (2 * (r : Int) + 1)) (by omega) (by omega) (by omega) (by omega) HG.out) ?_; intro w2 hb2; have at2 := hS.keep hAk (hb2.mono (hS.blk hAk)); have hD2 := row_next2 hDk hb2; have hc02 := ls_less hD2; have hc12 := ls_swap hD2)
          (try simp only [Exit.inBlock, Exit.then]); refine bodyPost_ret (results_none rfl _ _ _) rfl ?_
          exact ⟨rfl, at2, hw1.trans (hbut.go hb2)⟩
end Go.Proofs.Ytncjobhpiohkkaa
namespace Go.Proofs.Ytncjobhpiohkkaa
open Go.RowKit Go.Sort
variable {α : Type} [Inhabited α] {lt : α → α → Bool} {n G B lf sf : Nat} {lb sb : Array Value} {At : Array α → World → Prop}

set_option maxRecDepth 100000 in
set_option maxHeartbeats 8000000 in
theorem sheap_any (hS : Srt lt n G B lf lb sf sb At) (d : Array α) (a b : Nat) {av bv : Int} (ea : av = (a : Int)) (eb : bv = (b : Int)) (w : World) (hA : At d w) (hab : a ≤ b) (hb : b ≤ n) :
    Calls Try.prog 76 #[.agg (lsv lf lb sf sb), .int .i64 av, .int .i64 bv] w fun e w' => e = .returned (.tuple #[]) ∧ At (heapSort lt d a b) w' ∧ But G w w' := by
  subst ea eb
  have hsm := hS.small
  have eg := Lib.hid hS.enter
  have hbl := hS.blk hA
  have hlo := hS.low
  obtain ⟨W, hW, hD, hB, hsz⟩ := one_new w (lsv lf lb sf sb) 91
  have HW := Lib.hid hW
  have hA1 := hS.keep hA (hB.mono hbl)
  have hw1 : But G w W := but_of_below hB
  obtain ⟨R, hR⟩ : ∃ R, heapSort lt d a b = R := ⟨_, rfl⟩
  have HR := vlt hR
  rw [hR]
  clear hW hA hR
  go_enter Try.func76, Try.ntmps76
  go_upto_region 1 with fail
  rw [HW.out]
  have hq : Int.tdiv ((b : Int) - (a : Int) - 1) 2 = (((b - a - 1) / 2 + 1 : Nat) : Int) - 1 := by
    by_cases h : a = b
    · subst h; simp
    · rw [Int.tdiv_eq_ediv_of_nonneg (by omega)]; omega
  go_wp2
  go_loopg [9] ((b - a - 1) / 2 + 1) (fun kx s9 wr => ∃ (k : Nat) (dk : Array α), s9 = .int .i64 ((k : Int) - 1) ∧ k < kx + 1 ∧ k ≤ (b - a - 1) / 2 + 1 ∧ At dk wr ∧ But G W wr ∧ Hid (wr.heap[w.heap.size]? = some (.cells (lsv lf lb sf sb) 91 (0, 0))) ∧ Vlt (heapPop lt a (b - a) (heapBuild lt (b - a) a k dk) = R))
  case atStart => exact ⟨(b - a - 1) / 2 + 1, d, congrArg (Value.int .i64) (by omega), by omega, Nat.le_refl _, hA1, But.refl _ _, hD, HR⟩
  case round =>
    obtain ⟨k, dk, rfl, hk, hkb, hAk, hbut, hDk, HE⟩ := hrel
    have hc0 := ls_less hDk
    have hc1 := ls_swap hDk
    by_cases h0 : k = 0
    · subst h0
      clear hq
      go_wp2
      go_loopg [10] (b - a) (fun kx s10 wq => ∃ (k : Nat) (dj : Array α), s10 = .int .i64 ((k : Int) - 1) ∧ k < kx + 1 ∧ k ≤ b - a ∧ At dj wq ∧ But G W wq ∧ Hid (wq.heap[w.heap.size]? = some (.cells (lsv lf lb sf sb) 91 (0, 0))) ∧ Vlt (heapPop lt a k dj = R))
      case atStart => exact ⟨b - a, dk, by go_num, by omega, Nat.le_refl _, hAk, hbut, hDk, HE⟩
      case round =>
        clear hc0 hc1
        obtain ⟨k, dj, rfl, hk2, hkb2, hAj, hbj, hDj, HF⟩ := hrel
        have hc0 := ls_less hDj
        have hc1 := ls_swap hDj
        by_cases h0 : k = 0
        · subst h0
          have hR := HF.out
          rw [heapPop] at hR
          subst hR
          clear HF HE
          go_wp2
          go_end0
          exact ⟨rfl, hAj, hw1.trans hbj⟩
        · obtain ⟨k, rfl⟩ : ∃ k', k = k' + 1 := ⟨k - 1, by omega⟩
          rw [show (((k + 1 : Nat) : Int) - 1) = (k : Int) from by omega]
          have hz : (0 : Int) ≤ (k : Int) := by omega
          have HF2 := HF.out
          rw [heapPop] at HF2
          replace HF := vlt HF2
          clear HF2 HE
          go_wp2_with (first | (with_reducible refine at_op 39 rfl ?_; obtain ⟨w1, hsw1, at1, hb1⟩ := hS.swap hAj (i := a) (j := a + k) ((a : Int)) ((a : Int) + (k : Int)) (by omega) (by omega) (by omega) (by omega); with_reducible refine wpList_ext2 (by kernel_rfl) (.tmp 34) (.tmp 35) (.tmp 38) _ rfl sf sb rfl (.int .i64 ((a : Int))) (.int .i64 ((a : Int) + (k : Int))) rfl rfl _ w1 hsw1 ?_; clear hsw1; have hD1 := row_but2 hDj hb1 (by omega); have hc01 := ls_less hD1; have hc11 := ls_swap hD1) | (go_at_call 93; with_reducible refine (ssift_any hS (swp dj a (a + k)) 0 k a (by omega) (by omega) (by omega) w1 at1 (by omega) (by omega)).mono ?_; rintro e w2 ⟨rfl, at2, hb2⟩; have hD2 := row_but2 hD1 hb2 (by omega); have hc02 := ls_less hD2; have hc12 := ls_swap hD2))
          go_roundg k
          case measure => omega
          case rel => exact ⟨k, _, by go_num, by omega, by omega, at2, (hbj.trans hb1).trans hb2, hD2, HF⟩
    · obtain ⟨k, rfl⟩ : ∃ k', k = k' + 1 := ⟨k - 1, by omega⟩
      rw [show (((k + 1 : Nat) : Int) - 1) = (k : Int) from by omega]
      have hz : (0 : Int) ≤ (k : Int) := by omega
      go_wp2_with (go_at_call 93; with_reducible refine (ssift_any hS dk k (b - a) a (by omega) (by omega) (by omega) wr hAk (by omega) (by omega)).mono ?_; rintro e w1 ⟨rfl, at1, hb1⟩; have hD1 := row_but2 hDk hb1 (by omega); have hc01 := ls_less hD1; have hc11 := ls_swap hD1)
      go_roundg k
      case measure => omega
      case rel => exact ⟨k, _, by go_num, by omega, by omega, at1, hbut.trans hb1, hD1, HE⟩
end Go.Proofs.Ytncjobhpiohkkaa
namespace Go.Proofs.Ytncjobhpiohkkaa
open Go.RowKit Go.Sort
variable {α : Type} [Inhabited α] {lt : α → α → Bool} {n G B lf sf : Nat} {lb sb : Array Value} {At : Array α → World → Prop}

theorem rev_end {i j : Nat} {d : Array α} (h : ¬ i < j) : reverseLoop i j d = d := by rw [reverseLoop, if_neg h]
theorem rev_go {i j : Nat} {d : Array α} (h : i < j) : reverseLoop i j d = reverseLoop (i + 1) (j - 1) (swp d i j) := by rw [reverseLoop, if_pos h]

set_option maxRecDepth 100000 in
set_option maxHeartbeats 8000000 in
theorem srev_any (hS : Srt lt n G B lf lb sf sb At) (d : Array α) (a b : Nat) {av bv : Int} (ea : av = (a : Int)) (eb : bv = (b : Int)) (w : World) (hA : At d w) (hab : a < b) (hb : b ≤ n) :
    Calls Try.prog 79 #[.agg (lsv lf lb sf sb), .int .i64 av, .int .i64 bv] w fun e w' => e = .returned (.tuple #[]) ∧ At (reverseRange d a b) w' ∧ But G w w' := by
  subst ea eb
  have hsm := hS.small
  have eg := Lib.hid hS.enter
  have hbl := hS.blk hA
  have hlo := hS.low
  obtain ⟨W, hW, hD, hB, hsz⟩ := one_new w (lsv lf lb sf sb) 91
  have HW := Lib.hid hW
  have hA1 := hS.keep hA (hB.mono hbl)
  have hw1 : But G w W := but_of_below hB
  obtain ⟨R, hR⟩ : ∃ R, reverseRange d a b = R := ⟨_, rfl⟩
  have HR := vlt hR
  rw [hR]
  clear hW hA hR
  go_enter Try.func79, Try.ntmps79
  go_upto_region 1 with fail
  rw [HW.out]
  go_wp2
  go_loopg [6, 7] (b - a) (fun kx s6 s7 wr => ∃ (i j : Nat) (dk : Array α), s6 = .int .i64 i ∧ s7 = .int .i64 j ∧ j - i < kx + 1 ∧ j < b ∧ At dk wr ∧ But G W wr ∧ Hid (wr.heap[w.heap.size]? = some (.cells (lsv lf lb sf sb) 91 (0, 0))) ∧ Vlt (reverseLoop i j dk = R))
  case atStart => exact ⟨a, b - 1, d, rfl, by go_num, by omega, by omega, hA1, But.refl _ _, hD, HR⟩
  case round =>
    obtain ⟨i, j, dk, rfl, rfl, hk, hjb, hAk, hbut, hDk, HE⟩ := hrel
    have hc1 := ls_swap hDk
    by_cases h0 : i < j
    · have h0z : (i : Int) < (j : Int) := by omega
      have HE2 := vlt ((rev_go h0).symm.trans HE.out)
      clear HE
      go_wp2_with (with_reducible refine at_op 18 rfl ?_; obtain ⟨w1, hsw1, at1, hb1⟩ := hS.swap hAk (i := i) (j := j) ((i : Int)) ((j : Int)) (by omega) (by omega) (by omega) (by omega); with_reducible refine wpList_ext2 (by kernel_rfl) (.tmp 15) (.tmp 16) (.tmp 17) _ rfl sf sb rfl (.int .i64 ((i : Int))) (.int .i64 ((j : Int))) rfl rfl _ w1 hsw1 ?_; clear hsw1; have hD1 := row_but2 hDk hb1 (by omega); have hc01 := ls_less hD1; have hc11 := ls_swap hD1)
      go_roundg (j - 1 - (i + 1))
      case measure => omega
      case rel => exact ⟨i + 1, j - 1, _, by go_num, by go_num, by omega, by omega, at1, hbut.trans hb1, hD1, HE2⟩
    · have h0z : ¬ (i : Int) < (j : Int) := by omega
      have hR := HE.out
      rw [rev_end h0] at hR
      subst hR
      clear HE
      go_wp2
      go_end0
      exact ⟨rfl, hAk, hw1.trans hbut⟩
end Go.Proofs.Ytncjobhpiohkkaa
namespace Go.Proofs.Ytncjobhpiohkkaa
open Go.RowKit Go.Sort
variable {α : Type} [Inhabited α] {lt : α → α → Bool} {n G B lf sf : Nat} {lb sb : Array Value} {At : Array α → World → Prop}

def hintZ : Hint → Int
  | .unknown => 0
  | .increasing => 1
  | .decreasing => 2
theorem choose_is {d : Array α} {a b m z p : Nat} {h : Hint} (h1 : choosePivot lt d a b = (p, h)) (h2 : rawPivot lt d a b = (m, z)) : p = m ∧ h = (if z = 0 then .increasing else if z = 12 then .decreasing else .unknown) := by
  rw [choosePivot_eq, h2] at h1
  simp only [Prod.mk.injEq, hintOf] at h1
  exact ⟨h1.1.symm, h1.2.symm⟩

set_option maxRecDepth 100000 in
set_option maxHeartbeats 8000000 in
theorem schs_any (hS : Srt lt n G B lf lb sf sb At) (d : Array α) (a b : Nat) {av bv : Int} (ea : av = (a : Int)) (eb : bv = (b : Int)) (w : World) (hA : At d w) (hab : a < b) (hb : b ≤ n) (p : Nat) (h : Hint) (hP : Vlt (choosePivot lt d a b = (p, h))) :
    Calls Try.prog 78 #[.agg (lsv lf lb sf sb), .int .i64 av, .int .i64 bv] w fun e w' => e = .returned (.tuple #[.int .i64 (p : Int), .int .i64 (hintZ h)]) ∧ Below w.heap.size w w' := by
  subst ea eb
  have hsm := hS.small
  have eg := Lib.hid hS.enter
  have hbl := hS.blk hA
  have hlo := hS.low
  obtain ⟨W, hW, hD, hc1, hB, hsz⟩ := pair_new w (lsv lf lb sf sb) #[.int .i64 0] 91 3
  have HW := Lib.hid hW
  have hA1 := hS.keep hA (hB.mono hbl)
  have hws : w.heap.size + 1 < W.heap.size := row_size hc1
  have hs : B ≤ w.heap.size + 1 := by omega
  obtain ⟨q, hq⟩ : ∃ q, q = (b - a) / 4 := ⟨_, rfl⟩
  have hqz : Int.tdiv ((b : Int) - (a : Int)) 4 = (q : Int) := by rw [Int.tdiv_eq_ediv_of_nonneg (by omega)]; omega
  have hq4 : 4 * q ≤ b - a := by omega
  have hq8 : 8 ≤ b - a → 2 ≤ q := by omega
  have HQ := vlt hq
  obtain ⟨m, z, hr⟩ : ∃ m z, rawPivot lt d a b = (m, z) := ⟨_, _, rfl⟩
  obtain ⟨rfl, hh⟩ := choose_is hP.out hr
  have HH := vlt hh
  have HR := vlt hr
  clear hW hA hP hr hh hq
  go_enter Try.func78, Try.ntmps78
  go_upto_region 3 with fail
  rw [HW.out]
  have hc0 := ls_less hD
  have hc11 := ls_swap hD
  have hc1 : Hid (W.heap[w.heap.size + 1]? = some (.cells #[.int .i64 ((0 : Nat) : Int)] 3 (0, 0))) := hc1
  have kc0 := s_cell hc1
  have hu : ∀ w1 : World, But (w.heap.size + 1) W w1 → Below w.heap.size w w1 := fun _ h => hB.trans (but_high h (by omega) (by omega))
  have HU := Lib.hid hu
  clear hu
  by_cases h8 : 8 ≤ b - a
  · have h8z : (8 : Int) ≤ (b : Int) - (a : Int) := by omega
    have hq2 := hq8 h8
    by_cases h50 : 50 ≤ b - a
    · have h50z : (50 : Int) ≤ (b : Int) - (a : Int) := by omega
      have hr := HR.out
      rw [rawPivot, if_pos h8, if_pos h50, ← HQ.out] at hr
      obtain ⟨i1, z1, g1⟩ : ∃ m z, medianAdjacent lt d (a + q * 1) 0 = (m, z) := ⟨_, _, rfl⟩
      rw [g1] at hr
      obtain ⟨i2, z2, g2⟩ : ∃ m z, medianAdjacent lt d (a + q * 2) z1 = (m, z) := ⟨_, _, rfl⟩
      rw [g2] at hr
      obtain ⟨i3, z3, g3⟩ : ∃ m z, medianAdjacent lt d (a + q * 3) z2 = (m, z) := ⟨_, _, rfl⟩
      rw [g3] at hr
      have e1 := median_in g1
      have e2 := median_in g2
      have e3 := median_in g3
      have f1 : i1 < n ∧ z1 ≤ 3 := by omega
      have f2 : i2 < n ∧ z2 ≤ 6 := by omega
      have f3 : i3 < n ∧ z3 ≤ 9 := by omega
      obtain ⟨f11, f12⟩ := f1
      obtain ⟨f21, f22⟩ := f2
      obtain ⟨f31, f32⟩ := f3
      have G1 := vlt g1
      have G2 := vlt g2
      have G3 := vlt g3
      have GR := vlt hr
      clear g1 g2 g3 hr e1 e2 e3 HR hq8
      by_cases z0 : z = 0
      · have HH2 := HH.out
        rw [if_pos z0] at HH2
        subst HH2
        clear HH
        have z0z : (z : Int) = 0 := by omega
        clear z0
        go_wp2_with (first | (go_at_call 96; with_reducible refine (smad_any hS d (a + q * 1) (by omega) W hA1 (by omega) (by omega) (w.heap.size + 1) 0 i1 z1 hc1 hs (by omega) G1).mono ?_; rintro e v1 ⟨rfl, hk1, hv1⟩; have av1 := hS.keep hA1 (but_high hv1 hs (hS.blk hA1)); have dv1 := row_but hD hv1 (by omega); have l01 := ls_less dv1; have l11 := ls_swap dv1; have kc1 := s_cell hk1) | (go_at_call 96; with_reducible refine (smad_any hS d (a + q * 2) (by omega) v1 av1 (by omega) (by omega) (w.heap.size + 1) z1 i2 z2 hk1 hs (by omega) G2).mono ?_; rintro e v2 ⟨rfl, hk2, hv2⟩; have av2 := hS.keep av1 (but_high hv2 hs (hS.blk av1)); have dv2 := row_but dv1 hv2 (by omega); have l02 := ls_less dv2; have l12 := ls_swap dv2; have kc2 := s_cell hk2) | (go_at_call 96; with_reducible refine (smad_any hS d (a + q * 3) (by omega) v2 av2 (by omega) (by omega) (w.heap.size + 1) z2 i3 z3 hk2 hs (by omega) G3).mono ?_; rintro e v3 ⟨rfl, hk3, hv3⟩; have av3 := hS.keep av2 (but_high hv3 hs (hS.blk av2)); have dv3 := row_but dv2 hv3 (by omega); have l03 := ls_less dv3; have l13 := ls_swap dv3; have kc3 := s_cell hk3) | (go_at_call 97; with_reducible refine (smed_any hS d i1 i2 i3 (by omega) (by omega) (by omega) v3 av3 (by omega) (by omega) (by omega) (w.heap.size + 1) z3 p z hk3 hs (by omega) GR).mono ?_; rintro e v4 ⟨rfl, hk4, hv4⟩; have av4 := hS.keep av3 (but_high hv4 hs (hS.blk av3)); have dv4 := row_but dv3 hv4 (by omega); have l04 := ls_less dv4; have l14 := ls_swap dv4; have kc4 := s_cell hk4))
        (try simp only [Exit.inBlock, Exit.then]); refine bodyPost_ret (results_tmp2 rfl _ _ _) rfl ?_
        exact ⟨rfl, HU.out _ (((hv1.trans hv2).trans hv3).trans hv4)⟩
      · by_cases z12 : z = 12
        · have HH2 := HH.out
          rw [if_neg z0, if_pos z12] at HH2
          subst HH2
          clear HH
          have z12z : (z : Int) = 12 := by omega
          clear z0 z12
          go_wp2_with (first | (go_at_call 96; with_reducible refine (smad_any hS d (a + q * 1) (by omega) W hA1 (by omega) (by omega) (w.heap.size + 1) 0 i1 z1 hc1 hs (by omega) G1).mono ?_; rintro e v1 ⟨rfl, hk1, hv1⟩; have av1 := hS.keep hA1 (but_high hv1 hs (hS.blk hA1)); have dv1 := row_but hD hv1 (by omega); have l01 := ls_less dv1; have l11 := ls_swap dv1; have kc1 := s_cell hk1) | (go_at_call 96; with_reducible refine (smad_any hS d (a + q * 2) (by omega) v1 av1 (by omega) (by omega) (w.heap.size + 1) z1 i2 z2 hk1 hs (by omega) G2).mono ?_; rintro e v2 ⟨rfl, hk2, hv2⟩; have av2 := hS.keep av1 (but_high hv2 hs (hS.blk av1)); have dv2 := row_but dv1 hv2 (by omega); have l02 := ls_less dv2; have l12 := ls_swap dv2; have kc2 := s_cell hk2) | (go_at_call 96; with_reducible refine (smad_any hS d (a + q * 3) (by omega) v2 av2 (by omega) (by omega) (w.heap.size + 1) z2 i3 z3 hk2 hs (by omega) G3).mono ?_; rintro e v3 ⟨rfl, hk3, hv3⟩; have av3 := hS.keep av2 (but_high hv3 hs (hS.blk av2)); have dv3 := row_but dv2 hv3 (by omega); have l03 := ls_less dv3; have l13 := ls_swap dv3; have kc3 := s_cell hk3) | (go_at_call 97; with_reducible refine (smed_any hS d i1 i2 i3 (by omega) (by omega) (by omega) v3 av3 (by omega) (by omega) (by omega) (w.heap.size + 1) z3 p z hk3 hs (by omega) GR).mono ?_; rintro e v4 ⟨rfl, hk4, hv4⟩; have av4 := hS.keep av3 (but_high hv4 hs (hS.blk av3)); have dv4 := row_but dv3 hv4 (by omega); have l04 := ls_less dv4; have l14 := ls_swap dv4; have kc4 := s_cell hk4))
          (try simp only [Exit.inBlock, Exit.then]); refine bodyPost_ret (results_tmp2 rfl _ _ _) rfl ?_
          exact ⟨rfl, HU.out _ (((hv1.trans hv2).trans hv3).trans hv4)⟩
        · have HH2 := HH.out
          rw [if_neg z0, if_neg z12] at HH2
          subst HH2
          clear HH
          have z0z : ¬ (z : Int) = 0 := by omega
          have z12z : ¬ (z : Int) = 12 := by omega
          go_wp2_with (first | (go_at_call 96; with_reducible refine (smad_any hS d (a + q * 1) (by omega) W hA1 (by omega) (by omega) (w.heap.size + 1) 0 i1 z1 hc1 hs (by omega) G1).mono ?_; rintro e v1 ⟨rfl, hk1, hv1⟩; have av1 := hS.keep hA1 (but_high hv1 hs (hS.blk hA1)); have dv1 := row_but hD hv1 (by omega); have l01 := ls_less dv1; have l11 := ls_swap dv1; have kc1 := s_cell hk1) | (go_at_call 96; with_reducible refine (smad_any hS d (a + q * 2) (by omega) v1 av1 (by omega) (by omega) (w.heap.size + 1) z1 i2 z2 hk1 hs (by omega) G2).mono ?_; rintro e v2 ⟨rfl, hk2, hv2⟩; have av2 := hS.keep av1 (but_high hv2 hs (hS.blk av1)); have dv2 := row_but dv1 hv2 (by omega); have l02 := ls_less dv2; have l12 := ls_swap dv2; have kc2 := s_cell hk2) | (go_at_call 96; with_reducible refine (smad_any hS d (a + q * 3) (by omega) v2 av2 (by omega) (by omega) (w.heap.size + 1) z2 i3 z3 hk2 hs (by omega) G3).mono ?_; rintro e v3 ⟨rfl, hk3, hv3⟩; have av3 := hS.keep av2 (but_high hv3 hs (hS.blk av2)); have dv3 := row_but dv2 hv3 (by omega); have l03 := ls_less dv3; have l13 := ls_swap dv3; have kc3 := s_cell hk3) | (go_at_call 97; with_reducible refine (smed_any hS d i1 i2 i3 (by omega) (by omega) (by omega) v3 av3 (by omega) (by omega) (by omega) (w.heap.size + 1) z3 p z hk3 hs (by omega) GR).mono ?_; rintro e v4 ⟨rfl, hk4, hv4⟩; have av4 := hS.keep av3 (but_high hv4 hs (hS.blk av3)); have dv4 := row_but dv3 hv4 (by omega); have l04 := ls_less dv4; have l14 := ls_swap dv4; have kc4 := s_cell hk4))
          (try simp only [Exit.inBlock, Exit.then]); refine bodyPost_ret (results_tmp2 rfl _ _ _) rfl ?_
          exact ⟨rfl, HU.out _ (((hv1.trans hv2).trans hv3).trans hv4)⟩
    · have h50z : ¬ (50 : Int) ≤ (b : Int) - (a : Int) := by omega
      have hr := HR.out
      rw [rawPivot, if_pos h8, if_neg h50, ← HQ.out] at hr
      have GR := vlt hr
      clear hr HR hq8
      by_cases z0 : z = 0
      · have HH2 := HH.out
        rw [if_pos z0] at HH2
        subst HH2
        clear HH
        have z0z : (z : Int) = 0 := by omega
        clear z0
        go_wp2_with (go_at_call 97; with_reducible refine (smed_any hS d (a + q * 1) (a + q * 2) (a + q * 3) (by omega) (by omega) (by omega) W hA1 (by omega) (by omega) (by omega) (w.heap.size + 1) 0 p z hc1 hs (by omega) GR).mono ?_; rintro e v4 ⟨rfl, hk4, hv4⟩; have av4 := hS.keep hA1 (but_high hv4 hs (hS.blk hA1)); have dv4 := row_but hD hv4 (by omega); have l04 := ls_less dv4; have l14 := ls_swap dv4; have kc4 := s_cell hk4)
        (try simp only [Exit.inBlock, Exit.then]); refine bodyPost_ret (results_tmp2 rfl _ _ _) rfl ?_
        exact ⟨rfl, HU.out _ hv4⟩
      · by_cases z12 : z = 12
        · have HH2 := HH.out
          rw [if_neg z0, if_pos z12] at HH2
          subst HH2
          clear HH
          have z12z : (z : Int) = 12 := by omega
          clear z0 z12
          go_wp2_with (go_at_call 97; with_reducible refine (smed_any hS d (a + q * 1) (a + q * 2) (a + q * 3) (by omega) (by omega) (by omega) W hA1 (by omega) (by omega) (by omega) (w.heap.size + 1) 0 p z hc1 hs (by omega) GR).mono ?_; rintro e v4 ⟨rfl, hk4, hv4⟩; have av4 := hS.keep hA1 (but_high hv4 hs (hS.blk hA1)); have dv4 := row_but hD hv4 (by omega); have l04 := ls_less dv4; have l14 := ls_swap dv4; have kc4 := s_cell hk4)
          (try simp only [Exit.inBlock, Exit.then]); refine bodyPost_ret (results_tmp2 rfl _ _ _) rfl ?_
          exact ⟨rfl, HU.out _ hv4⟩
        · have HH2 := HH.out
          rw [if_neg z0, if_neg z12] at HH2
          subst HH2
          clear HH
          have z0z : ¬ (z : Int) = 0 := by omega
          have z12z : ¬ (z : Int) = 12 := by omega
          go_wp2_with (go_at_call 97; with_reducible refine (smed_any hS d (a + q * 1) (a + q * 2) (a + q * 3) (by omega) (by omega) (by omega) W hA1 (by omega) (by omega) (by omega) (w.heap.size + 1) 0 p z hc1 hs (by omega) GR).mono ?_; rintro e v4 ⟨rfl, hk4, hv4⟩; have av4 := hS.keep hA1 (but_high hv4 hs (hS.blk hA1)); have dv4 := row_but hD hv4 (by omega); have l04 := ls_less dv4; have l14 := ls_swap dv4; have kc4 := s_cell hk4)
          (try simp only [Exit.inBlock, Exit.then]); refine bodyPost_ret (results_tmp2 rfl _ _ _) rfl ?_
          exact ⟨rfl, HU.out _ hv4⟩
  · have h8z : ¬ (8 : Int) ≤ (b : Int) - (a : Int) := by omega
    have hr := HR.out
    rw [rawPivot, if_neg h8, ← HQ.out] at hr
    simp only [Prod.mk.injEq] at hr
    obtain ⟨rfl, rfl⟩ := hr
    clear HR hq8
    have HH2 := HH.out
    rw [if_pos rfl] at HH2
    subst HH2
    clear HH
    go_wp2
    (try simp only [Exit.inBlock, Exit.then]); refine bodyPost_ret (results_tmp2 rfl _ _ _) rfl ?_
    exact ⟨by go_num, hB⟩
end Go.Proofs.Ytncjobhpiohkkaa
namespace Go.Proofs.Ytncjobhpiohkkaa
open Go.RowKit Go.Sort
variable {α : Type} [Inhabited α] {lt : α → α → Bool} {n G B lf sf : Nat} {lb sb : Array Value} {At : Array α → World → Prop}

/-- So many exchanges, one behind the other. -/
def bpr (a L M : Nat) : Nat → Nat → UInt64 × Array α → UInt64 × Array α
  | 0, _, st => st
  | k + 1, i, st => bpr a L M k (i + 1) (breakStep a L M st i)
theorem brk_small {d : Array α} {a L : Nat} (h : ¬ 8 ≤ L) : breakPatterns d a (a + L) = d := by
  rw [breakPatterns]; simp only [Nat.add_sub_cancel_left]; rw [if_neg (by omega)]
theorem brk_is {d : Array α} {a L : Nat} (h : 8 ≤ L) : breakPatterns d a (a + L) = (bpr a L (1 <<< bitsLen L) 3 (a + L / 4 * 2 - 1) (UInt64.ofNat L, d)).2 := by
  rw [breakPatterns]; simp only [Nat.add_sub_cancel_left]; rw [if_pos (by omega)]; rfl
/-- Where it goes. -/
def bpo (L M X : Nat) : Nat := if L ≤ X &&& (M - 1) then (X &&& (M - 1)) - L else X &&& (M - 1)
theorem step_is {d : Array α} {a L M i : Nat} {r : UInt64} : breakStep a L M (r, d) i = (xorNext r, swp d i (a + bpo L M (xorNext r).toNat)) := rfl
theorem bpo_lt {L M X : Nat} (hM : M ≤ 2 * L) (h1 : 1 ≤ M) : bpo L M X < L := by
  have := Nat.and_le_right (n := X) (m := M - 1)
  unfold bpo
  split <;> omega
theorem snext_any {s X : Nat} (hX : X < 18446744073709551616) (w : World) (hk : Hid (w.heap[s]? = some (.cells #[.int .u64 (X : Int)] 122 (0, 0)))) :
    Calls Try.prog 95 #[.pointer (some ⟨s, 0, none⟩)] w fun e w' => e = .returned (.int .u64 ((xorNextN X : Nat) : Int)) ∧ Hid (w'.heap[s]? = some (.cells #[.int .u64 ((xorNextN X : Nat) : Int)] 122 (0, 0))) ∧ But s w w' :=
  (Try.xorshift_Next s 0 X hX w (s_cell hk) (s_froz hk)).mono fun e w' ⟨he, hw⟩ => ⟨he, by
    have h := (world_set_cell (cs := [.int .u64 (X : Int)]) hk.out 0 (.int .u64 ((xorNextN X : Nat) : Int))).out
    rw [hw]; show _ = _
    rw [show ((w.setCell ⟨s, 0, none⟩ (.int .u64 ((xorNextN X : Nat) : Int))).drewN 3).heap = (w.setCell ⟨s, 0, none⟩ (.int .u64 ((xorNextN X : Nat) : Int))).heap from rfl, h]; rfl, by
    rw [hw]; exact ((But.refl s w).set _).go (below_drewN (Below.refl _ _) 3)⟩

set_option maxRecDepth 100000 in
set_option maxHeartbeats 8000000 in
theorem sbrk_any (hS : Srt lt n G B lf lb sf sb At) (d : Array α) (a b : Nat) {av bv : Int} (ea : av = (a : Int)) (eb : bv = (b : Int)) (w : World) (hA : At d w) (hab : a ≤ b) (hb : b ≤ n) :
    Calls Try.prog 77 #[.agg (lsv lf lb sf sb), .int .i64 av, .int .i64 bv] w fun e w' => e = .returned (.tuple #[]) ∧ At (breakPatterns d a b) w' ∧ But G w w' := by
  subst ea eb
  obtain ⟨L, rfl⟩ : ∃ L, b = a + L := ⟨b - a, by omega⟩
  have hL : (a : Int) + (L : Int) - (a : Int) = (L : Int) := by omega
  have hsm := hS.small
  have eg := Lib.hid hS.enter
  have hbl := hS.blk hA
  have hlo := hS.low
  obtain ⟨W, hW, hD, hB, hsz⟩ := one_new w (lsv lf lb sf sb) 91
  have HW := Lib.hid hW
  have hA1 := hS.keep hA (hB.mono hbl)
  have hw1 : But G w W := but_of_below hB
  obtain ⟨R, hR⟩ : ∃ R, breakPatterns d a (a + L) = R := ⟨_, rfl⟩
  have HR := vlt hR
  rw [hR]
  clear hW hA hR
  go_enter Try.func77, Try.ntmps77
  go_upto_region 2 with fail
  rw [HW.out]
  by_cases h8 : 8 ≤ L
  · have h8z : (8 : Int) ≤ (L : Int) := by omega
    go_upto_region 4 with fail
    obtain ⟨V, hV, hk0, hBV, hsV⟩ := one_new W #[.int .u64 (L : Int)] 122
    rw [hV]
    have hAV := hS.keep hA1 (hBV.mono (hS.blk hA1))
    have hDV := row_next2 hD hBV
    have hsD := row_size hD
    have hsV2 : B ≤ W.heap.size := hS.blk hA1
    clear hV
    obtain ⟨M, hM⟩ : ∃ M, 1 <<< bitsLen L = M := ⟨_, rfl⟩
    have hnp := Try.nextPowerOfTwo L (by omega) V
    rw [hM] at hnp
    have hM2 : M ≤ 2 * L := by rw [← hM, Nat.one_shiftLeft]; exact two_pow_bitsLen_le (by omega)
    have hM1 : 1 ≤ M := by rw [← hM, Nat.one_shiftLeft]; exact Nat.one_le_two_pow
    have hR := HR.out
    rw [brk_is h8, hM] at hR
    obtain ⟨q, hq⟩ : ∃ q, q = L / 4 := ⟨_, rfl⟩
    rw [← hq] at hR
    have HE := vlt hR
    have hq2 : 2 ≤ q := by omega
    have hq4 : 4 * q ≤ L := by omega
    have hqz : Int.tdiv (L : Int) 4 = (q : Int) := by rw [Int.tdiv_eq_ediv_of_nonneg (by omega)]; omega
    have HN := Lib.hid hnp
    clear hM hR HR hq hnp
    go_upto_region 6 with (go_at_call 94; refine HN.out.mono ?_; rintro e w1 ⟨rfl, rfl⟩)
    go_loopg [9] 3 (fun kx s9 wr => ∃ (i k : Nat) (r : UInt64) (dk : Array α), s9 = .int .i64 i ∧ k < kx + 1 ∧ i + k = a + q * 2 + 2 ∧ At dk wr ∧ But G W wr ∧ Hid (wr.heap[w.heap.size]? = some (.cells (lsv lf lb sf sb) 91 (0, 0))) ∧ Hid (wr.heap[W.heap.size]? = some (.cells #[.int .u64 ((r.toNat : Nat) : Int)] 122 (0, 0))) ∧ Vlt ((bpr a L M k i (r, dk)).2 = R))
    case atStart => exact ⟨a + q * 2 - 1, 3, UInt64.ofNat L, d, by go_num, by omega, by omega, hAV, but_of_below hBV, hDV, (by rw [show (UInt64.ofNat L).toNat = L from UInt64.toNat_ofNat_of_lt' (by show L < 18446744073709551616; omega)]; exact hk0), HE⟩
    case round =>
      obtain ⟨i, k, r, dk, rfl, hk, hik, hAk, hbut, hDk, hrk, HF⟩ := hrel
      by_cases hk1 : k = 0
      · subst hk1
        have hz : ¬ (i : Int) ≤ (a : Int) + (q : Int) * 2 + 1 := by omega
        have hR := HF.out
        rw [bpr] at hR
        subst hR
        clear HF HE
        go_wp2
        go_end0
        exact ⟨rfl, hAk, hw1.trans hbut⟩
      · obtain ⟨k, rfl⟩ : ∃ k', k = k' + 1 := ⟨k - 1, by omega⟩
        have hz : (i : Int) ≤ (a : Int) + (q : Int) * 2 + 1 := by omega
        have hR := HF.out
        rw [bpr, step_is] at hR
        clear HF HE
        have hnx := snext_any (X := r.toNat) (UInt64.toNat_lt r) wr hrk
        have hX := xorNext_toNat r
        have hXl := xorNextN_lt r.toNat (UInt64.toNat_lt r)
        rw [← hX] at hnx hXl
        obtain ⟨r2, hr2⟩ : ∃ r2, xorNext r = r2 := ⟨_, rfl⟩
        rw [hr2] at hR hnx hXl
        clear hX hr2 hrk
        obtain ⟨X2, hX2⟩ : ∃ X2, r2.toNat = X2 := ⟨_, rfl⟩
        rw [hX2] at hR hnx hXl
        have HX2 := vlt hX2
        clear hX2
        have hand := u64_and_nat X2 (M - 1) hXl (by omega)
        rw [show ((M - 1 : Nat) : Int) = (M : Int) - 1 from by omega] at hand
        have hyM := Nat.and_le_right (n := X2) (m := M - 1)
        have hol := bpo_lt (X := X2) hM2 hM1
        by_cases hLy : L ≤ X2 &&& (M - 1)
        · have ho : bpo L M X2 = (X2 &&& (M - 1)) - L := if_pos hLy
          rw [ho] at hR hol
          obtain ⟨y, hy⟩ : ∃ y, X2 &&& (M - 1) = y := ⟨_, rfl⟩
          rw [hy] at hR hol hand hyM hLy
          have HG := vlt hR
          have HN2 := Lib.hid hnx
          have hLz : (L : Int) ≤ (y : Int) := by omega
          clear hR hnx ho hy
          go_wp2_with (first | (go_at_call 95; refine HN2.out.mono ?_; rintro e v1 ⟨rfl, hrk1, hv1⟩; have av1 := hS.keep hAk (but_high hv1 hsV2 (hS.blk hAk)); have dv1 := row_but hDk hv1 (by omega); have l01 := ls_less dv1; have l11 := ls_swap dv1) | (with_reducible refine at_op 53 rfl ?_; obtain ⟨w2, hsw2, at2, hb2⟩ := hS.swap av1 (i := i) (j := a + (y - L)) ((i : Int)) ((a : Int) + ((y : Int) - (L : Int))) (by omega) (by omega) (by omega) (by omega); with_reducible refine wpList_ext2 (by kernel_rfl) (.tmp 48) (.tmp 49) (.tmp 52) _ rfl sf sb rfl (.int .i64 ((i : Int))) (.int .i64 ((a : Int) + ((y : Int) - (L : Int)))) rfl rfl _ w2 hsw2 ?_; clear hsw2; have hD2 := row_but2 dv1 hb2 (by omega); have hc02 := ls_less hD2; have hc12 := ls_swap hD2))
          go_roundg k
          case measure => omega
          case rel => exact ⟨i + 1, k, r2, _, by go_num, by omega, by omega, at2, (But.on hbut hv1 (Nat.le_refl _)).trans hb2, hD2, (by rw [HX2.out]; exact row_but2 hrk1 hb2 (by omega)), HG⟩
        · have ho : bpo L M X2 = X2 &&& (M - 1) := if_neg hLy
          rw [ho] at hR hol
          obtain ⟨y, hy⟩ : ∃ y, X2 &&& (M - 1) = y := ⟨_, rfl⟩
          rw [hy] at hR hol hand hyM hLy
          have HG := vlt hR
          have HN2 := Lib.hid hnx
          have hLz : ¬ (L : Int) ≤ (y : Int) := by omega
          clear hR hnx ho hy
          go_wp2_with (first | (go_at_call 95; refine HN2.out.mono ?_; rintro e v1 ⟨rfl, hrk1, hv1⟩; have av1 := hS.keep hAk (but_high hv1 hsV2 (hS.blk hAk)); have dv1 := row_but hDk hv1 (by omega); have l01 := ls_less dv1; have l11 := ls_swap dv1) | (with_reducible refine at_op 53 rfl ?_; obtain ⟨w2, hsw2, at2, hb2⟩ := hS.swap av1 (i := i) (j := a + y) ((i : Int)) ((a : Int) + (y : Int)) (by omega) (by omega) (by omega) (by omega); with_reducible refine wpList_ext2 (by kernel_rfl) (.tmp 48) (.tmp 49) (.tmp 52) _ rfl sf sb rfl (.int .i64 ((i : Int))) (.int .i64 ((a : Int) + (y : Int))) rfl rfl _ w2 hsw2 ?_; clear hsw2; have hD2 := row_but2 dv1 hb2 (by omega); have hc02 := ls_less hD2; have hc12 := ls_swap hD2))
          go_roundg k
          case measure => omega
          case rel => exact ⟨i + 1, k, r2, _, by go_num, by omega, by omega, at2, (But.on hbut hv1 (Nat.le_refl _)).trans hb2, hD2, (by rw [HX2.out]; exact row_but2 hrk1 hb2 (by omega)), HG⟩
  · have h8z : ¬ (8 : Int) ≤ (L : Int) := by omega
    have hR := HR.out
    rw [brk_small h8] at hR
    subst hR
    clear HR
    go_wp2
    go_end0
    exact ⟨rfl, hA1, hw1⟩
end Go.Proofs.Ytncjobhpiohkkaa
namespace Go.Proofs.Ytncjobhpiohkkaa
open Go.RowKit Go.Sort
variable {α : Type} [Inhabited α] {lt : α → α → Bool} {n G B lf sf : Nat} {lb sb : Array Value} {At : Array α → World → Prop}

theorem scan_go {d : Array α} {b i : Nat} (h : i < b) (hl : lt d[i]! d[i - 1]! = false) : scanSorted lt d b i = scanSorted lt d b (i + 1) := by rw [scanSorted, if_pos (by simp [h, hl])]
theorem scan_lt {d : Array α} {b i : Nat} (hl : lt d[i]! d[i - 1]! = true) : scanSorted lt d b i = i := by rw [scanSorted, if_neg (by simp [hl])]
theorem scan_end {d : Array α} {b i : Nat} (h : ¬ i < b) : scanSorted lt d b i = i := by rw [scanSorted, if_neg (by simp [h])]
def dn (lt : α → α → Bool) (a i : Nat) (d : Array α) : Array α := if 2 ≤ i - a then shiftDown lt (i - 1) d else d
def up (lt : α → α → Bool) (b i : Nat) (d : Array α) : Array α := if 2 ≤ b - i then shiftUp lt b (i + 1) d else d
theorem pins_all {d : Array α} {a b s i : Nat} (h : scanSorted lt d b i = b) : partialIns lt a b (s + 1) i d = (d, true) := by rw [partialIns]; simp only [h, if_true]
theorem pins_few {d : Array α} {a b s i i2 : Nat} (h : scanSorted lt d b i = i2) (h1 : i2 ≠ b) (h2 : b - a < 50) : partialIns lt a b (s + 1) i d = (d, false) := by rw [partialIns]; simp only [h]; rw [if_neg h1, if_pos h2]
theorem pins_more {d : Array α} {a b s i i2 : Nat} (h : scanSorted lt d b i = i2) (h1 : i2 ≠ b) (h2 : ¬ b - a < 50) : partialIns lt a b (s + 1) i d = partialIns lt a b s i2 (up lt b i2 (dn lt a i2 (swp d i2 (i2 - 1)))) := by rw [partialIns]; simp only [h]; rw [if_neg h1, if_neg h2]; rfl
theorem sdn_stop {d : Array α} {j : Nat} (h : lt d[j + 1]! d[j]! = false) : shiftDown lt (j + 1) d = d := by rw [shiftDown, if_pos (by simp [h])]
theorem sdn_go {d : Array α} {j : Nat} (h : lt d[j + 1]! d[j]! = true) : shiftDown lt (j + 1) d = shiftDown lt j (swp d (j + 1) j) := by rw [shiftDown, if_neg (by simp [h])]
theorem sup_stop {d : Array α} {b j : Nat} (hj : j + 1 < b) (h : lt d[j + 1]! d[j]! = false) : shiftUp lt b (j + 1) d = d := by rw [shiftUp, if_pos hj, if_pos (by simp [h])]
theorem sup_go {d : Array α} {b j : Nat} (hj : j + 1 < b) (h : lt d[j + 1]! d[j]! = true) : shiftUp lt b (j + 1) d = shiftUp lt b (j + 2) (swp d (j + 1) j) := by rw [shiftUp, if_pos hj, if_neg (by simp [h])]; rfl
theorem sup_end {d : Array α} {b j : Nat} (hj : ¬ j < b) : shiftUp lt b j d = d := by rw [shiftUp, if_neg hj]

set_option maxRecDepth 100000 in
set_option maxHeartbeats 16000000 in
theorem spin_any (hS : Srt lt n G B lf lb sf sb At) (d : Array α) (a b : Nat) {av bv : Int} (ea : av = (a : Int)) (eb : bv = (b : Int)) (w : World) (hA : At d w) (hab : a < b) (hb : b ≤ n) (R : Array α) (o : Bool) (HR : Vlt (partialInsertionSort lt d a b = (R, o))) :
    Calls Try.prog 80 #[.agg (lsv lf lb sf sb), .int .i64 av, .int .i64 bv] w fun e w' => e = .returned (.bool o) ∧ At R w' ∧ But G w w' := by
  subst ea eb
  have hsm := hS.small
  have eg := Lib.hid hS.enter
  have hbl := hS.blk hA
  have hlo := hS.low
  obtain ⟨W, hW, hD, hB, hsz⟩ := one_new w (lsv lf lb sf sb) 91
  have HW := Lib.hid hW
  have hA1 := hS.keep hA (hB.mono hbl)
  have hw1 : But G w W := but_of_below hB
  clear hW hA
  go_enter Try.func80, Try.ntmps80
  go_upto_region 1 with fail
  rw [HW.out]
  go_wp2
  go_loopg [7, 8] 5 (fun kx s7 s8 wr => ∃ (i s : Nat) (dk : Array α), s7 = .int .i64 i ∧ s8 = .int .i64 (5 - (s : Int)) ∧ s < kx + 1 ∧ s ≤ 5 ∧ a < i ∧ i ≤ b ∧ At dk wr ∧ But G W wr ∧ Hid (wr.heap[w.heap.size]? = some (.cells (lsv lf lb sf sb) 91 (0, 0))) ∧ Vlt (partialIns lt a b s i dk = (R, o)))
  case atStart => exact ⟨a + 1, 5, d, by go_num, by go_num, by omega, by omega, by omega, by omega, hA1, But.refl _ _, hD, HR⟩
  case round =>
    obtain ⟨i, s, dk, rfl, rfl, hks, hs5, hai, hib, hAk, hbut, hDk, HE⟩ := hrel
    by_cases hs0 : s = 0
    · subst hs0
      have hR := HE.out
      rw [partialIns] at hR
      simp only [Prod.mk.injEq] at hR
      obtain ⟨rfl, rfl⟩ := hR
      clear HE HR
      go_wp2
      go_ret
      exact ⟨rfl, hAk, hw1.trans hbut⟩
    · obtain ⟨s, rfl⟩ : ∃ k, s = k + 1 := ⟨s - 1, by omega⟩
      rw [show (5 : Int) - ((s + 1 : Nat) : Int) = 4 - (s : Int) from by omega]
      have hsz : (4 : Int) - (s : Int) < 5 := by omega
      obtain ⟨i2, hi2⟩ : ∃ i2, scanSorted lt dk b i = i2 := ⟨_, rfl⟩
      have HI := vlt hi2
      have HC := vlt hi2
      clear hi2
      go_upto_region 5 with fail
      go_loopg [7] (b - i) (fun ky s7 wq => ∃ (j : Nat), s7 = .int .i64 j ∧ b - j < ky + 1 ∧ a < j ∧ j ≤ b ∧ At dk wq ∧ But G W wq ∧ Hid (wq.heap[w.heap.size]? = some (.cells (lsv lf lb sf sb) 91 (0, 0))) ∧ Vlt (scanSorted lt dk b j = i2))
      case atStart => exact ⟨i, rfl, by omega, hai, hib, hAk, hbut, hDk, HC⟩
      case round =>
        clear hAk hbut hDk HC
        obtain ⟨j, rfl, hkj, haj, hjb, hAk, hbut, hDk, HC⟩ := hrel
        have hc0 := ls_less hDk
        by_cases hj : j < b
        · have hjz : (j : Int) < (b : Int) := by omega
          cases hl : lt dk[j]! dk[j - 1]! with
          | false =>
            have HC2 := vlt ((scan_go hj hl).symm.trans HC.out)
            have HL := Lib.hid hl
            clear hl HC
            go_wp2_with (with_reducible refine at_op 26 rfl ?_; with_reducible refine wpList_fn2 (by kernel_rfl) (.tmp 22) (.tmp 23) (.tmp 25) _ rfl lf lb rfl (.int .i64 ((j : Int))) (.int .i64 ((j : Int) - 1)) rfl rfl eg.out _ _ (hS.less hAk (i := j) (j := j - 1) (iv := (j : Int)) (jv := (j : Int) - 1) (by omega) (by omega) (by omega) (by omega) HL.out) ?_; intro w1 hb1; have at1 := hS.keep hAk (hb1.mono (hS.blk hAk)); have hD1 := row_next2 hDk hb1; have hc01 := ls_less hD1; have hc11 := ls_swap hD1)
            go_roundg (b - (j + 1))
            case measure => omega
            case rel => exact ⟨j + 1, by go_num, by omega, by omega, by omega, at1, hbut.go hb1, hD1, HC2⟩
          | true =>
            have hji : j = i2 := (scan_lt hl).symm.trans HC.out
            subst hji
            have HL := Lib.hid hl
            have hne : j ≠ b := by omega
            have hnz : ¬ (j : Int) = (b : Int) := by omega
            clear hl HC
            by_cases h50 : b - a < 50
            · have h50z : (b : Int) - (a : Int) < 50 := by omega
              have hR := HE.out
              rw [pins_few HI.out hne h50] at hR
              simp only [Prod.mk.injEq] at hR
              obtain ⟨rfl, rfl⟩ := hR
              clear HE HR HI
              go_wp2_with (with_reducible refine at_op 26 rfl ?_; with_reducible refine wpList_fn2 (by kernel_rfl) (.tmp 22) (.tmp 23) (.tmp 25) _ rfl lf lb rfl (.int .i64 ((j : Int))) (.int .i64 ((j : Int) - 1)) rfl rfl eg.out _ _ (hS.less hAk (i := j) (j := j - 1) (iv := (j : Int)) (jv := (j : Int) - 1) (by omega) (by omega) (by omega) (by omega) HL.out) ?_; intro w1 hb1; have at1 := hS.keep hAk (hb1.mono (hS.blk hAk)); have hD1 := row_next2 hDk hb1; have hc01 := ls_less hD1; have hc11 := ls_swap hD1)
              go_ret
              exact ⟨rfl, at1, hw1.trans (hbut.go hb1)⟩
            · have h50z : ¬ (b : Int) - (a : Int) < 50 := by omega
              have HF := vlt ((pins_more HI.out hne h50).symm.trans HE.out)
              clear HE HI
              obtain ⟨d2, hd2⟩ : ∃ d2, swp dk j (j - 1) = d2 := ⟨_, rfl⟩
              rw [hd2] at HF
              obtain ⟨d3, hd3⟩ : ∃ d3, dn lt a j d2 = d3 := ⟨_, rfl⟩
              rw [hd3] at HF
              obtain ⟨d4, hd4⟩ : ∃ d4, up lt b j d3 = d4 := ⟨_, rfl⟩
              rw [hd4] at HF
              have HD2 := vlt hd2
              have HD3 := vlt hd3
              have HD4 := vlt hd4
              clear hd2 hd3 hd4
              by_cases hdn : 2 ≤ j - a
              · have hdnz : (2 : Int) ≤ (j : Int) - (a : Int) := by omega
                have h3 := HD3.out
                rw [dn, if_pos hdn, ← HD2.out] at h3
                have H3 := vlt h3
                clear h3 HD3 HD2
                go_upto_region 14 with (first | (with_reducible refine at_op 26 rfl ?_; with_reducible refine wpList_fn2 (by kernel_rfl) (.tmp 22) (.tmp 23) (.tmp 25) _ rfl lf lb rfl (.int .i64 ((j : Int))) (.int .i64 ((j : Int) - 1)) rfl rfl eg.out _ _ (hS.less hAk (i := j) (j := j - 1) (iv := (j : Int)) (jv := (j : Int) - 1) (by omega) (by omega) (by omega) (by omega) HL.out) ?_; intro w1 hb1; have at1 := hS.keep hAk (hb1.mono (hS.blk hAk)); have hD1 := row_next2 hDk hb1; have hc01 := ls_less hD1; have hc11 := ls_swap hD1) | (with_reducible refine at_op 43 rfl ?_; obtain ⟨w2, hsw2, at2, hb2⟩ := hS.swap at1 (i := j) (j := j - 1) ((j : Int)) ((j : Int) - 1) (by omega) (by omega) (by omega) (by omega); with_reducible refine wpList_ext2 (by kernel_rfl) (.tmp 39) (.tmp 40) (.tmp 42) _ rfl sf sb rfl (.int .i64 ((j : Int))) (.int .i64 ((j : Int) - 1)) rfl rfl _ w2 hsw2 ?_; clear hsw2; have hD2 := row_but2 hD1 hb2 (by omega); have hc02 := ls_less hD2; have hc12 := ls_swap hD2))
                go_loopg [9] j (fun kz s9 wz => ∃ (m : Nat) (dz : Array α), s9 = .int .i64 m ∧ m < kz + 1 ∧ m < b ∧ At dz wz ∧ But G W wz ∧ Hid (wz.heap[w.heap.size]? = some (.cells (lsv lf lb sf sb) 91 (0, 0))) ∧ Vlt (shiftDown lt m dz = d3))
                case atStart => exact ⟨j - 1, _, by go_num, by omega, by omega, at2, (hbut.go hb1).trans hb2, hD2, H3⟩
                case round =>
                  clear H3
                  obtain ⟨m, dz, rfl, hkz, hmb, hAz, hbz, hDz, H3⟩ := hrel
                  have hcz0 := ls_less hDz
                  have hcz1 := ls_swap hDz
                  by_cases hm : m = 0
                  · subst hm
                    have H5 := H3.out
                    rw [shiftDown] at H5
                    subst H5
                    clear H3
                    by_cases hup : 2 ≤ b - j
                    · have hupz : (2 : Int) ≤ (b : Int) - (j : Int) := by omega
                      have h4 := HD4.out
                      rw [up, if_pos hup] at h4
                      have H4 := vlt h4
                      clear h4 HD4
                      go_upto_region 20 with fail
                      go_loopg [10] (b - j) (fun kz s10 wz => ∃ (m : Nat) (dz : Array α), s10 = .int .i64 ((m : Int) + 1) ∧ b - m < kz + 1 ∧ m + 1 ≤ b ∧ At dz wz ∧ But G W wz ∧ Hid (wz.heap[w.heap.size]? = some (.cells (lsv lf lb sf sb) 91 (0, 0))) ∧ Vlt (shiftUp lt b (m + 1) dz = d4))
                      case atStart => exact ⟨j, _, by go_num, by omega, by omega, hAz, hbz, hDz, H4⟩
                      case round =>
                        clear H4
                        obtain ⟨m, dz, rfl, hkz, hmb, hAz, hbz, hDz, H4⟩ := hrel
                        have hcz0 := ls_less hDz
                        have hcz1 := ls_swap hDz
                        by_cases hm : m + 1 < b
                        · have hmz : (m : Int) + 1 < (b : Int) := by omega
                          cases hlz : lt dz[m + 1]! dz[m]! with
                          | true =>
                            have H5 := vlt ((sup_go hm hlz).symm.trans H4.out)
                            have HZ := Lib.hid hlz
                            clear hlz H4
                            go_wp2_with (first | (with_reducible refine at_op 83 rfl ?_; with_reducible refine wpList_fn2 (by kernel_rfl) (.tmp 79) (.tmp 80) (.tmp 82) _ rfl lf lb rfl (.int .i64 ((m : Int) + 1)) (.int .i64 ((m : Int))) rfl rfl eg.out _ _ (hS.less hAz (i := m + 1) (j := m) (iv := (m : Int) + 1) (jv := (m : Int)) (by omega) (by omega) (by omega) (by omega) HZ.out) ?_; intro w7 hb7; have at7 := hS.keep hAz (hb7.mono (hS.blk hAz)); have hD7 := row_next2 hDz hb7; have hc07 := ls_less hD7; have hc17 := ls_swap hD7) | (with_reducible refine at_op 90 rfl ?_; obtain ⟨w8, hsw8, at8, hb8⟩ := hS.swap at7 (i := m + 1) (j := m) ((m : Int) + 1) ((m : Int)) (by omega) (by omega) (by omega) (by omega); with_reducible refine wpList_ext2 (by kernel_rfl) (.tmp 86) (.tmp 87) (.tmp 89) _ rfl sf sb rfl (.int .i64 ((m : Int) + 1)) (.int .i64 ((m : Int))) rfl rfl _ w8 hsw8 ?_; clear hsw8; have hD8 := row_but2 hD7 hb8 (by omega); have hc08 := ls_less hD8; have hc18 := ls_swap hD8))
                            go_roundg (b - (m + 1))
                            case measure => omega
                            case rel => exact ⟨m + 1, _, by go_num, by omega, by omega, at8, (hbz.go hb7).trans hb8, hD8, H5⟩
                          | false =>
                            have H5 := (sup_stop hm hlz).symm.trans H4.out
                            subst H5
                            have HZ := Lib.hid hlz
                            clear hlz H4
                            go_wp2_with (with_reducible refine at_op 83 rfl ?_; with_reducible refine wpList_fn2 (by kernel_rfl) (.tmp 79) (.tmp 80) (.tmp 82) _ rfl lf lb rfl (.int .i64 ((m : Int) + 1)) (.int .i64 ((m : Int))) rfl rfl eg.out _ _ (hS.less hAz (i := m + 1) (j := m) (iv := (m : Int) + 1) (jv := (m : Int)) (by omega) (by omega) (by omega) (by omega) HZ.out) ?_; intro w7 hb7; have at7 := hS.keep hAz (hb7.mono (hS.blk hAz)); have hD7 := row_next2 hDz hb7; have hc07 := ls_less hD7; have hc17 := ls_swap hD7)
                            go_roundg s
                            case measure => omega
                            case rel => exact ⟨j, s, _, by go_num, by go_num, by omega, by omega, by omega, by omega, at7, hbz.go hb7, hD7, HF⟩
                        · have hmz : ¬ (m : Int) + 1 < (b : Int) := by omega
                          have H5 := (sup_end hm).symm.trans H4.out
                          subst H5
                          clear H4
                          go_wp2
                          go_roundg s
                          case measure => omega
                          case rel => exact ⟨j, s, _, by go_num, by go_num, by omega, by omega, by omega, by omega, hAz, hbz, hDz, HF⟩
                    · have hupz : ¬ (2 : Int) ≤ (b : Int) - (j : Int) := by omega
                      have h4 := HD4.out
                      rw [up, if_neg hup] at h4
                      subst h4
                      clear HD4
                      go_wp2
                      go_roundg s
                      case measure => omega
                      case rel => exact ⟨j, s, _, by go_num, by go_num, by omega, by omega, by omega, by omega, hAz, hbz, hDz, HF⟩
                  · obtain ⟨m, rfl⟩ : ∃ k, m = k + 1 := ⟨m - 1, by omega⟩
                    have hmz : (1 : Int) ≤ (m : Int) + 1 := by omega
                    cases hly : lt dz[m + 1]! dz[m]! with
                    | true =>
                      have H5 := vlt ((sdn_go hly).symm.trans H3.out)
                      have HY := Lib.hid hly
                      clear hly H3
                      go_wp2_with (first | (with_reducible refine at_op 59 rfl ?_; with_reducible refine wpList_fn2 (by kernel_rfl) (.tmp 55) (.tmp 56) (.tmp 58) _ rfl lf lb rfl (.int .i64 ((m : Int) + 1)) (.int .i64 ((m : Int))) rfl rfl eg.out _ _ (hS.less hAz (i := m + 1) (j := m) (iv := (m : Int) + 1) (jv := (m : Int)) (by omega) (by omega) (by omega) (by omega) HY.out) ?_; intro w5 hb5; have at5 := hS.keep hAz (hb5.mono (hS.blk hAz)); have hD5 := row_next2 hDz hb5; have hc05 := ls_less hD5; have hc15 := ls_swap hD5) | (with_reducible refine at_op 66 rfl ?_; obtain ⟨w6, hsw6, at6, hb6⟩ := hS.swap at5 (i := m + 1) (j := m) ((m : Int) + 1) ((m : Int)) (by omega) (by omega) (by omega) (by omega); with_reducible refine wpList_ext2 (by kernel_rfl) (.tmp 62) (.tmp 63) (.tmp 65) _ rfl sf sb rfl (.int .i64 ((m : Int) + 1)) (.int .i64 ((m : Int))) rfl rfl _ w6 hsw6 ?_; clear hsw6; have hD6 := row_but2 hD5 hb6 (by omega); have hc06 := ls_less hD6; have hc16 := ls_swap hD6))
                      go_roundg m
                      case measure => omega
                      case rel => exact ⟨m, _, by go_num, by omega, by omega, at6, (hbz.go hb5).trans hb6, hD6, H5⟩
                    | false =>
                      have H5 := (sdn_stop hly).symm.trans H3.out
                      subst H5
                      have HY := Lib.hid hly
                      clear hly H3
                      go_upto_region 18 with (with_reducible refine at_op 59 rfl ?_; with_reducible refine wpList_fn2 (by kernel_rfl) (.tmp 55) (.tmp 56) (.tmp 58) _ rfl lf lb rfl (.int .i64 ((m : Int) + 1)) (.int .i64 ((m : Int))) rfl rfl eg.out _ _ (hS.less hAz (i := m + 1) (j := m) (iv := (m : Int) + 1) (jv := (m : Int)) (by omega) (by omega) (by omega) (by omega) HY.out) ?_; intro w5 hb5; have at5 := hS.keep hAz (hb5.mono (hS.blk hAz)); have hD5 := row_next2 hDz hb5; have hc05 := ls_less hD5; have hc15 := ls_swap hD5)
                      by_cases hup : 2 ≤ b - j
                      · have hupz : (2 : Int) ≤ (b : Int) - (j : Int) := by omega
                        have h4 := HD4.out
                        rw [up, if_pos hup] at h4
                        have H4 := vlt h4
                        clear h4 HD4
                        go_upto_region 20 with fail
                        go_loopg [10] (b - j) (fun kz s10 wz => ∃ (m : Nat) (dz : Array α), s10 = .int .i64 ((m : Int) + 1) ∧ b - m < kz + 1 ∧ m + 1 ≤ b ∧ At dz wz ∧ But G W wz ∧ Hid (wz.heap[w.heap.size]? = some (.cells (lsv lf lb sf sb) 91 (0, 0))) ∧ Vlt (shiftUp lt b (m + 1) dz = d4))
                        case atStart => exact ⟨j, _, by go_num, by omega, by omega, at5, (hbz.go hb5), hD5, H4⟩
                        case round =>
                          clear H4
                          obtain ⟨m, dz, rfl, hkz, hmb, hAz, hbz, hDz, H4⟩ := hrel
                          have hcz0 := ls_less hDz
                          have hcz1 := ls_swap hDz
                          by_cases hm : m + 1 < b
                          · have hmz : (m : Int) + 1 < (b : Int) := by omega
                            cases hlz : lt dz[m + 1]! dz[m]! with
                            | true =>
                              have H5 := vlt ((sup_go hm hlz).symm.trans H4.out)
                              have HZ := Lib.hid hlz
                              clear hlz H4
                              go_wp2_with (first | (with_reducible refine at_op 83 rfl ?_; with_reducible refine wpList_fn2 (by kernel_rfl) (.tmp 79) (.tmp 80) (.tmp 82) _ rfl lf lb rfl (.int .i64 ((m : Int) + 1)) (.int .i64 ((m : Int))) rfl rfl eg.out _ _ (hS.less hAz (i := m + 1) (j := m) (iv := (m : Int) + 1) (jv := (m : Int)) (by omega) (by omega) (by omega) (by omega) HZ.out) ?_; intro w7 hb7; have at7 := hS.keep hAz (hb7.mono (hS.blk hAz)); have hD7 := row_next2 hDz hb7; have hc07 := ls_less hD7; have hc17 := ls_swap hD7) | (with_reducible refine at_op 90 rfl ?_; obtain ⟨w8, hsw8, at8, hb8⟩ := hS.swap at7 (i := m + 1) (j := m) ((m : Int) + 1) ((m : Int)) (by omega) (by omega) (by omega) (by omega); with_reducible refine wpList_ext2 (by kernel_rfl) (.tmp 86) (.tmp 87) (.tmp 89) _ rfl sf sb rfl (.int .i64 ((m : Int) + 1)) (.int .i64 ((m : Int))) rfl rfl _ w8 hsw8 ?_; clear hsw8; have hD8 := row_but2 hD7 hb8 (by omega); have hc08 := ls_less hD8; have hc18 := ls_swap hD8))
                              go_roundg (b - (m + 1))
                              case measure => omega
                              case rel => exact ⟨m + 1, _, by go_num, by omega, by omega, at8, (hbz.go hb7).trans hb8, hD8, H5⟩
                            | false =>
                              have H5 := (sup_stop hm hlz).symm.trans H4.out
                              subst H5
                              have HZ := Lib.hid hlz
                              clear hlz H4
                              go_wp2_with (with_reducible refine at_op 83 rfl ?_; with_reducible refine wpList_fn2 (by kernel_rfl) (.tmp 79) (.tmp 80) (.tmp 82) _ rfl lf lb rfl (.int .i64 ((m : Int) + 1)) (.int .i64 ((m : Int))) rfl rfl eg.out _ _ (hS.less hAz (i := m + 1) (j := m) (iv := (m : Int) + 1) (jv := (m : Int)) (by omega) (by omega) (by omega) (by omega) HZ.out) ?_; intro w7 hb7; have at7 := hS.keep hAz (hb7.mono (hS.blk hAz)); have hD7 := row_next2 hDz hb7; have hc07 := ls_less hD7; have hc17 := ls_swap hD7)
                              go_roundg s
                              case measure => omega
                              case rel => exact ⟨j, s, _, by go_num, by go_num, by omega, by omega, by omega, by omega, at7, hbz.go hb7, hD7, HF⟩
                          · have hmz : ¬ (m : Int) + 1 < (b : Int) := by omega
                            have H5 := (sup_end hm).symm.trans H4.out
                            subst H5
                            clear H4
                            go_wp2
                            go_roundg s
                            case measure => omega
                            case rel => exact ⟨j, s, _, by go_num, by go_num, by omega, by omega, by omega, by omega, hAz, hbz, hDz, HF⟩
                      · have hupz : ¬ (2 : Int) ≤ (b : Int) - (j : Int) := by omega
                        have h4 := HD4.out
                        rw [up, if_neg hup] at h4
                        subst h4
                        clear HD4
                        go_wp2
                        go_roundg s
                        case measure => omega
                        case rel => exact ⟨j, s, _, by go_num, by go_num, by omega, by omega, by omega, by omega, at5, (hbz.go hb5), hD5, HF⟩
              · have hdnz : ¬ (2 : Int) ≤ (j : Int) - (a : Int) := by omega
                have h3 := HD3.out
                rw [dn, if_neg hdn, ← HD2.out] at h3
                subst h3
                clear HD3 HD2
                go_upto_region 18 with (first | (with_reducible refine at_op 26 rfl ?_; with_reducible refine wpList_fn2 (by kernel_rfl) (.tmp 22) (.tmp 23) (.tmp 25) _ rfl lf lb rfl (.int .i64 ((j : Int))) (.int .i64 ((j : Int) - 1)) rfl rfl eg.out _ _ (hS.less hAk (i := j) (j := j - 1) (iv := (j : Int)) (jv := (j : Int) - 1) (by omega) (by omega) (by omega) (by omega) HL.out) ?_; intro w1 hb1; have at1 := hS.keep hAk (hb1.mono (hS.blk hAk)); have hD1 := row_next2 hDk hb1; have hc01 := ls_less hD1; have hc11 := ls_swap hD1) | (with_reducible refine at_op 43 rfl ?_; obtain ⟨w2, hsw2, at2, hb2⟩ := hS.swap at1 (i := j) (j := j - 1) ((j : Int)) ((j : Int) - 1) (by omega) (by omega) (by omega) (by omega); with_reducible refine wpList_ext2 (by kernel_rfl) (.tmp 39) (.tmp 40) (.tmp 42) _ rfl sf sb rfl (.int .i64 ((j : Int))) (.int .i64 ((j : Int) - 1)) rfl rfl _ w2 hsw2 ?_; clear hsw2; have hD2 := row_but2 hD1 hb2 (by omega); have hc02 := ls_less hD2; have hc12 := ls_swap hD2))
                by_cases hup : 2 ≤ b - j
                · have hupz : (2 : Int) ≤ (b : Int) - (j : Int) := by omega
                  have h4 := HD4.out
                  rw [up, if_pos hup] at h4
                  have H4 := vlt h4
                  clear h4 HD4
                  go_upto_region 20 with fail
                  go_loopg [10] (b - j) (fun kz s10 wz => ∃ (m : Nat) (dz : Array α), s10 = .int .i64 ((m : Int) + 1) ∧ b - m < kz + 1 ∧ m + 1 ≤ b ∧ At dz wz ∧ But G W wz ∧ Hid (wz.heap[w.heap.size]? = some (.cells (lsv lf lb sf sb) 91 (0, 0))) ∧ Vlt (shiftUp lt b (m + 1) dz = d4))
                  case atStart => exact ⟨j, _, by go_num, by omega, by omega, at2, ((hbut.go hb1).trans hb2), hD2, H4⟩
                  case round =>
                    clear H4
                    obtain ⟨m, dz, rfl, hkz, hmb, hAz, hbz, hDz, H4⟩ := hrel
                    have hcz0 := ls_less hDz
                    have hcz1 := ls_swap hDz
                    by_cases hm : m + 1 < b
                    · have hmz : (m : Int) + 1 < (b : Int) := by omega
                      cases hlz : lt dz[m + 1]! dz[m]! with
                      | true =>
                        have H5 := vlt ((sup_go hm hlz).symm.trans H4.out)
                        have HZ := Lib.hid hlz
                        clear hlz H4
                        go_wp2_with (first | (with_reducible refine at_op 83 rfl ?_; with_reducible refine wpList_fn2 (by kernel_rfl) (.tmp 79) (.tmp 80) (.tmp 82) _ rfl lf lb rfl (.int .i64 ((m : Int) + 1)) (.int .i64 ((m : Int))) rfl rfl eg.out _ _ (hS.less hAz (i := m + 1) (j := m) (iv := (m : Int) + 1) (jv := (m : Int)) (by omega) (by omega) (by omega) (by omega) HZ.out) ?_; intro w7 hb7; have at7 := hS.keep hAz (hb7.mono (hS.blk hAz)); have hD7 := row_next2 hDz hb7; have hc07 := ls_less hD7; have hc17 := ls_swap hD7) | (with_reducible refine at_op 90 rfl ?_; obtain ⟨w8, hsw8, at8, hb8⟩ := hS.swap at7 (i := m + 1) (j := m) ((m : Int) + 1) ((m : Int)) (by omega) (by omega) (by omega) (by omega); with_reducible refine wpList_ext2 (by kernel_rfl) (.tmp 86) (.tmp 87) (.tmp 89) _ rfl sf sb rfl (.int .i64 ((m : Int) + 1)) (.int .i64 ((m : Int))) rfl rfl _ w8 hsw8 ?_; clear hsw8; have hD8 := row_but2 hD7 hb8 (by omega); have hc08 := ls_less hD8; have hc18 := ls_swap hD8))
                        go_roundg (b - (m + 1))
                        case measure => omega
                        case rel => exact ⟨m + 1, _, by go_num, by omega, by omega, at8, (hbz.go hb7).trans hb8, hD8, H5⟩
                      | false =>
                        have H5 := (sup_stop hm hlz).symm.trans H4.out
                        subst H5
                        have HZ := Lib.hid hlz
                        clear hlz H4
                        go_wp2_with (with_reducible refine at_op 83 rfl ?_; with_reducible refine wpList_fn2 (by kernel_rfl) (.tmp 79) (.tmp 80) (.tmp 82) _ rfl lf lb rfl (.int .i64 ((m : Int) + 1)) (.int .i64 ((m : Int))) rfl rfl eg.out _ _ (hS.less hAz (i := m + 1) (j := m) (iv := (m : Int) + 1) (jv := (m : Int)) (by omega) (by omega) (by omega) (by omega) HZ.out) ?_; intro w7 hb7; have at7 := hS.keep hAz (hb7.mono (hS.blk hAz)); have hD7 := row_next2 hDz hb7; have hc07 := ls_less hD7; have hc17 := ls_swap hD7)
                        go_roundg s
                        case measure => omega
                        case rel => exact ⟨j, s, _, by go_num, by go_num, by omega, by omega, by omega, by omega, at7, hbz.go hb7, hD7, HF⟩
                    · have hmz : ¬ (m : Int) + 1 < (b : Int) := by omega
                      have H5 := (sup_end hm).symm.trans H4.out
                      subst H5
                      clear H4
                      go_wp2
                      go_roundg s
                      case measure => omega
                      case rel => exact ⟨j, s, _, by go_num, by go_num, by omega, by omega, by omega, by omega, hAz, hbz, hDz, HF⟩
                · have hupz : ¬ (2 : Int) ≤ (b : Int) - (j : Int) := by omega
                  have h4 := HD4.out
                  rw [up, if_neg hup] at h4
                  subst h4
                  clear HD4
                  go_wp2
                  go_roundg s
                  case measure => omega
                  case rel => exact ⟨j, s, _, by go_num, by go_num, by omega, by omega, by omega, by omega, at2, ((hbut.go hb1).trans hb2), hD2, HF⟩
        · have hjz : ¬ (j : Int) < (b : Int) := by omega
          have hji : j = i2 := (scan_end hj).symm.trans HC.out
          have hjb2 : j = b := by omega
          subst hjb2
          have hR := HE.out
          rw [pins_all (HI.out.trans hji.symm)] at hR
          simp only [Prod.mk.injEq] at hR
          obtain ⟨rfl, rfl⟩ := hR
          clear HE HR HI HC hji
          go_wp2
          go_ret
          exact ⟨rfl, hAk, hw1.trans hbut⟩
end Go.Proofs.Ytncjobhpiohkkaa
namespace Go.Proofs.Ytncjobhpiohkkaa
open Go.RowKit Go.Sort
variable {α : Type} [Inhabited α] {lt : α → α → Bool} {n G B lf sf : Nat} {lb sb : Array Value} {At : Array α → World → Prop}

theorem scu_go {p : α → Bool} {d : Array α} {j i : Nat} (h : i ≤ j) (hp : p d[i]! = true) : scanUp p d j i = scanUp p d j (i + 1) := by rw [scanUp, if_pos (by simp [h, hp])]
theorem scu_end {p : α → Bool} {d : Array α} {j i : Nat} (h : ¬ i ≤ j ∨ p d[i]! = false) : scanUp p d j i = i := by
  rw [scanUp, if_neg]
  rcases h with h | h <;> simp [h]
theorem scd_go {p : α → Bool} {d : Array α} {i j : Nat} (h : i ≤ j) (h0 : 0 < j) (hp : p d[j]! = true) : scanDown p d i j = scanDown p d i (j - 1) := by
  obtain ⟨j, rfl⟩ : ∃ k, j = k + 1 := ⟨j - 1, by omega⟩
  rw [scanDown, if_pos (by simp [h, hp])]; rfl
theorem scd_end {p : α → Bool} {d : Array α} {i j : Nat} (h : ¬ i ≤ j ∨ p d[j]! = false) : scanDown p d i j = j := by
  cases j with
  | zero => rfl
  | succ j =>
    rw [scanDown, if_neg]
    rcases h with h | h
    · simp only [Bool.and_eq_true, decide_eq_true_eq]; exact fun h2 => h h2.1
    · simp [h]
theorem peq_stop {d : Array α} {a i j i2 j2 : Nat} (h1 : scanUp (fun x => !lt d[a]! x) d j i = i2) (h2 : scanDown (fun x => lt d[a]! x) d i2 j = j2) (h : i2 > j2) : partEqLoop lt a i j d = (i2, d) := by
  rw [partEqLoop_eq]; simp only [h1, h2]; rw [if_pos h]
theorem peq_go {d : Array α} {a i j i2 j2 : Nat} (h1 : scanUp (fun x => !lt d[a]! x) d j i = i2) (h2 : scanDown (fun x => lt d[a]! x) d i2 j = j2) (h : ¬ i2 > j2) : partEqLoop lt a i j d = partEqLoop lt a (i2 + 1) (j2 - 1) (swp d i2 j2) := by
  rw [partEqLoop_eq]; simp only [h1, h2]; rw [if_neg h]

set_option maxRecDepth 100000 in
set_option maxHeartbeats 16000000 in
theorem speq_any (hS : Srt lt n G B lf lb sf sb At) (d : Array α) (a b p : Nat) {av bv pv : Int} (ea : av = (a : Int)) (eb : bv = (b : Int)) (ep : pv = (p : Int)) (w : World) (hA : At d w) (hap : a ≤ p) (hpb : p < b) (hb : b ≤ n) (m : Nat) (R : Array α) (HR : Vlt (partitionEqual lt d a b p = (m, R))) :
    Calls Try.prog 81 #[.agg (lsv lf lb sf sb), .int .i64 av, .int .i64 bv, .int .i64 pv] w fun e w' => e = .returned (.int .i64 (m : Int)) ∧ At R w' ∧ But G w w' := by
  subst ea eb ep
  have hsm := hS.small
  have eg := Lib.hid hS.enter
  have hbl := hS.blk hA
  have hlo := hS.low
  obtain ⟨W, hW, hD, hB, hsz⟩ := one_new w (lsv lf lb sf sb) 91
  have HW := Lib.hid hW
  have hA1 := hS.keep hA (hB.mono hbl)
  have hw1 : But G w W := but_of_below hB
  clear hW hA
  go_enter Try.func81, Try.ntmps81
  go_upto_region 1 with fail
  rw [HW.out]
  have hc0 := ls_less hD
  have hc1 := ls_swap hD
  have HE := HR.out
  rw [partitionEqual] at HE
  replace HE := vlt HE
  clear HR
  go_upto_region 3 with (with_reducible refine at_op 15 rfl ?_; obtain ⟨w1, hsw1, at1, hb1⟩ := hS.swap hA1 (i := a) (j := p) ((a : Int)) ((p : Int)) (by omega) (by omega) (by omega) (by omega); with_reducible refine wpList_ext2 (by kernel_rfl) (.tmp 12) (.tmp 13) (.tmp 14) _ rfl sf sb rfl (.int .i64 ((a : Int))) (.int .i64 ((p : Int))) rfl rfl _ w1 hsw1 ?_; clear hsw1; have hD1 := row_but2 hD hb1 (by omega); have hc01 := ls_less hD1; have hc11 := ls_swap hD1)
  go_loopg [9, 10] b (fun kx s9 s10 wr => ∃ (i j : Nat) (dk : Array α), s9 = .int .i64 i ∧ s10 = .int .i64 j ∧ j + 1 - i < kx + 1 ∧ a < i ∧ j < b ∧ At dk wr ∧ But G W wr ∧ Hid (wr.heap[w.heap.size]? = some (.cells (lsv lf lb sf sb) 91 (0, 0))) ∧ Vlt (partEqLoop lt a i j dk = (m, R)))
  case atStart => exact ⟨a + 1, b - 1, _, by go_num, by go_num, by omega, by omega, by omega, at1, hb1, hD1, HE⟩
  case round =>
    clear HE
    obtain ⟨i, j, dk, rfl, rfl, hk, hai, hjb, hAk, hbut, hDk, HE⟩ := hrel
    obtain ⟨i2, g1⟩ : ∃ i2, scanUp (fun x => !lt dk[a]! x) dk j i = i2 := ⟨_, rfl⟩
    obtain ⟨j2, g2⟩ : ∃ j2, scanDown (fun x => lt dk[a]! x) dk i2 j = j2 := ⟨_, rfl⟩
    have G1 := vlt g1
    have G2 := vlt g2
    have S1 := vlt g1
    have k1 : i ≤ i2 := g1 ▸ scanUp_ge _ _ _ _
    have k2 : j2 ≤ j := g2 ▸ scanDown_le _ _ _ _
    have K1 := Lib.hid k1
    have K2 := Lib.hid k2
    clear g1 g2 k1 k2
    go_upto_region 3 with fail
    go_loopg [9] (j + 1 - i) (fun ku su wz => ∃ (xu : Nat), su = .int .i64 xu ∧ j + 1 - xu < ku + 1 ∧ a < xu ∧ At dk wz ∧ But G W wz ∧ Hid (wz.heap[w.heap.size]? = some (.cells (lsv lf lb sf sb) 91 (0, 0))) ∧ Vlt (scanUp (fun x => !lt dk[a]! x) dk (j) xu = i2))
    case atStart => exact ⟨i, by go_num, by omega, by omega, hAk, hbut, hDk, S1⟩
    case round =>
      clear S1
      obtain ⟨xu, rfl, hku, hbu, atu, btu, rwu, Hu⟩ := hrel
      have lcu := ls_less rwu
      by_cases cu : xu ≤ j
      · have czu : (xu : Int) ≤ (j : Int) := by omega
        cases lu : lt dk[a]! dk[xu]! with
        | false =>
          have H2u := vlt ((scu_go cu (by simp [lu])).symm.trans Hu.out)
          have Lu := Lib.hid lu
          clear lu Hu
          go_wp2_with (with_reducible refine at_op 28 rfl ?_; with_reducible refine wpList_fn2 (by kernel_rfl) (.tmp 25) (.tmp 26) (.tmp 27) _ rfl lf lb rfl (.int .i64 ((a : Int))) (.int .i64 ((xu : Int))) rfl rfl eg.out _ _ (hS.less atu (i := a) (j := xu) (iv := (a : Int)) (jv := (xu : Int)) (by omega) (by omega) (by omega) (by omega) Lu.out) ?_; intro w7u hb7u; have at7u := hS.keep atu (hb7u.mono (hS.blk atu)); have hD7u := row_next2 rwu hb7u; have hc07u := ls_less hD7u; have hc17u := ls_swap hD7u)
          go_roundg (j + 1 - (xu + 1))
          case measure => omega
          case rel => exact ⟨xu + 1, by go_num, by omega, by omega, at7u, btu.go hb7u, hD7u, H2u⟩
        | true =>
          have eu := (scu_end (.inr (by simp [lu]))).symm.trans Hu.out
          subst eu
          have Lu := Lib.hid lu
          clear lu Hu
          go_upto_region 5 with (with_reducible refine at_op 28 rfl ?_; with_reducible refine wpList_fn2 (by kernel_rfl) (.tmp 25) (.tmp 26) (.tmp 27) _ rfl lf lb rfl (.int .i64 ((a : Int))) (.int .i64 ((xu : Int))) rfl rfl eg.out _ _ (hS.less atu (i := a) (j := xu) (iv := (a : Int)) (jv := (xu : Int)) (by omega) (by omega) (by omega) (by omega) Lu.out) ?_; intro w7u hb7u; have at7u := hS.keep atu (hb7u.mono (hS.blk atu)); have hD7u := row_next2 rwu hb7u; have hc07u := ls_less hD7u; have hc17u := ls_swap hD7u)
          have S2 := vlt G2.out
          go_loopg [10] (j) (fun kd sd wz => ∃ (xd : Nat), sd = .int .i64 xd ∧ xd < kd + 1 ∧ xd < b ∧ xd ≤ j ∧ At dk wz ∧ But G W wz ∧ Hid (wz.heap[w.heap.size]? = some (.cells (lsv lf lb sf sb) 91 (0, 0))) ∧ Vlt (scanDown (fun x => lt dk[a]! x) dk (xu) xd = j2))
          case atStart => exact ⟨j, by go_num, by omega, by omega, by omega, at7u, (btu.go hb7u), hD7u, S2⟩
          case round =>
            clear S2
            obtain ⟨xd, rfl, hkd, hbd, hsd, atd, btd, rwd, Hd⟩ := hrel
            have lcd := ls_less rwd
            by_cases cd : xu ≤ xd
            · have czd : (xu : Int) ≤ (xd : Int) := by omega
              cases ld : lt dk[a]! dk[xd]! with
              | true =>
                have H2d := vlt ((scd_go cd (by omega) (by simp [ld])).symm.trans Hd.out)
                have Ld := Lib.hid ld
                clear ld Hd
                go_wp2_with (with_reducible refine at_op 41 rfl ?_; with_reducible refine wpList_fn2 (by kernel_rfl) (.tmp 38) (.tmp 39) (.tmp 40) _ rfl lf lb rfl (.int .i64 ((a : Int))) (.int .i64 ((xd : Int))) rfl rfl eg.out _ _ (hS.less atd (i := a) (j := xd) (iv := (a : Int)) (jv := (xd : Int)) (by omega) (by omega) (by omega) (by omega) Ld.out) ?_; intro w7d hb7d; have at7d := hS.keep atd (hb7d.mono (hS.blk atd)); have hD7d := row_next2 rwd hb7d; have hc07d := ls_less hD7d; have hc17d := ls_swap hD7d)
                go_roundg ((xd - 1))
                case measure => omega
                case rel => exact ⟨xd - 1, by go_num, by omega, by omega, by omega, at7d, btd.go hb7d, hD7d, H2d⟩
              | false =>
                have ed := (scd_end (.inr (by simp [ld]))).symm.trans Hd.out
                subst ed
                have Ld := Lib.hid ld
                clear ld Hd
                go_upto_region 7 with (with_reducible refine at_op 41 rfl ?_; with_reducible refine wpList_fn2 (by kernel_rfl) (.tmp 38) (.tmp 39) (.tmp 40) _ rfl lf lb rfl (.int .i64 ((a : Int))) (.int .i64 ((xd : Int))) rfl rfl eg.out _ _ (hS.less atd (i := a) (j := xd) (iv := (a : Int)) (jv := (xd : Int)) (by omega) (by omega) (by omega) (by omega) Ld.out) ?_; intro w7d hb7d; have at7d := hS.keep atd (hb7d.mono (hS.blk atd)); have hD7d := row_next2 rwd hb7d; have hc07d := ls_less hD7d; have hc17d := ls_swap hD7d)
                have k1 := K1.out
                have k2 := K2.out
                have q0 := ls_less hD7d
                have q1 := ls_swap hD7d
                have HF := vlt ((peq_go G1.out G2.out (by omega)).symm.trans HE.out)
                clear HE G1 G2
                have hgz : ¬ (xd : Int) < (xu : Int) := by omega
                go_wp2_with (with_reducible refine at_op 52 rfl ?_; obtain ⟨w9, hsw9, at9, hb9⟩ := hS.swap at7d (i := xu) (j := xd) ((xu : Int)) ((xd : Int)) (by omega) (by omega) (by omega) (by omega); with_reducible refine wpList_ext2 (by kernel_rfl) (.tmp 49) (.tmp 50) (.tmp 51) _ rfl sf sb rfl (.int .i64 ((xu : Int))) (.int .i64 ((xd : Int))) rfl rfl _ w9 hsw9 ?_; clear hsw9; have hD9 := row_but2 hD7d hb9 (by omega); have hc09 := ls_less hD9; have hc19 := ls_swap hD9)
                go_roundg (xd - 1 + 1 - (xu + 1))
                case measure => omega
                case rel => exact ⟨xu + 1, xd - 1, _, by go_num, by go_num, by omega, by omega, by omega, at9, (btd.go hb7d).trans hb9, hD9, HF⟩
            · have czd : ¬ (xu : Int) ≤ (xd : Int) := by omega
              have ed := (scd_end (.inl cd)).symm.trans Hd.out
              subst ed
              clear Hd
              go_upto_region 7 with fail
              have k1 := K1.out
              have k2 := K2.out
              have q0 := ls_less rwd
              have q1 := ls_swap rwd
              have hR := (peq_stop G1.out G2.out (by omega)).symm.trans HE.out
              simp only [Prod.mk.injEq] at hR
              obtain ⟨rfl, rfl⟩ := hR
              clear HE G1 G2
              have hgz : (xd : Int) < (xu : Int) := by omega
              go_wp2
              go_ret
              exact ⟨rfl, atd, hw1.trans btd⟩
      · have czu : ¬ (xu : Int) ≤ (j : Int) := by omega
        have eu := (scu_end (.inl cu)).symm.trans Hu.out
        subst eu
        clear Hu
        go_upto_region 5 with fail
        have S2 := vlt G2.out
        go_loopg [10] (j) (fun kd sd wz => ∃ (xd : Nat), sd = .int .i64 xd ∧ xd < kd + 1 ∧ xd < b ∧ xd ≤ j ∧ At dk wz ∧ But G W wz ∧ Hid (wz.heap[w.heap.size]? = some (.cells (lsv lf lb sf sb) 91 (0, 0))) ∧ Vlt (scanDown (fun x => lt dk[a]! x) dk (xu) xd = j2))
        case atStart => exact ⟨j, by go_num, by omega, by omega, by omega, atu, btu, rwu, S2⟩
        case round =>
          clear S2
          obtain ⟨xd, rfl, hkd, hbd, hsd, atd, btd, rwd, Hd⟩ := hrel
          have lcd := ls_less rwd
          by_cases cd : xu ≤ xd
          · exfalso; omega
          · have czd : ¬ (xu : Int) ≤ (xd : Int) := by omega
            have ed := (scd_end (.inl cd)).symm.trans Hd.out
            subst ed
            clear Hd
            go_upto_region 7 with fail
            have k1 := K1.out
            have k2 := K2.out
            have q0 := ls_less rwd
            have q1 := ls_swap rwd
            have hR := (peq_stop G1.out G2.out (by omega)).symm.trans HE.out
            simp only [Prod.mk.injEq] at hR
            obtain ⟨rfl, rfl⟩ := hR
            clear HE G1 G2
            have hgz : (xd : Int) < (xu : Int) := by omega
            go_wp2
            go_ret
            exact ⟨rfl, atd, hw1.trans btd⟩
end Go.Proofs.Ytncjobhpiohkkaa
namespace Go.Proofs.Ytncjobhpiohkkaa
open Go.RowKit Go.Sort
variable {α : Type} [Inhabited α] {lt : α → α → Bool} {n G B lf sf : Nat} {lb sb : Array Value} {At : Array α → World → Prop}

theorem pl_stop {d : Array α} {a i j i2 j2 : Nat} (h1 : scanUp (fun x => lt x d[a]!) d j i = i2) (h2 : scanDown (fun x => !lt x d[a]!) d i2 j = j2) (h : i2 > j2) : partLoop lt a i j d = (j2, d) := by
  rw [partLoop_eq]; simp only [h1, h2]; rw [if_pos h]
theorem pl_go {d : Array α} {a i j i2 j2 : Nat} (h1 : scanUp (fun x => lt x d[a]!) d j i = i2) (h2 : scanDown (fun x => !lt x d[a]!) d i2 j = j2) (h : ¬ i2 > j2) : partLoop lt a i j d = partLoop lt a (i2 + 1) (j2 - 1) (swp d i2 j2) := by
  rw [partLoop_eq]; simp only [h1, h2]; rw [if_neg h]
theorem part_stop {d d1 : Array α} {a b p i2 j2 : Nat} (h0 : swp d a p = d1) (h1 : scanUp (fun x => lt x d1[a]!) d1 (b - 1) (a + 1) = i2) (h2 : scanDown (fun x => !lt x d1[a]!) d1 i2 (b - 1) = j2) (h : i2 > j2) : partition lt d a b p = (j2, true, swp d1 j2 a) := by
  rw [partition]; simp only [h0, h1, h2]; rw [if_pos h]
theorem part_more {d d1 : Array α} {a b p i2 j2 : Nat} (h0 : swp d a p = d1) (h1 : scanUp (fun x => lt x d1[a]!) d1 (b - 1) (a + 1) = i2) (h2 : scanDown (fun x => !lt x d1[a]!) d1 i2 (b - 1) = j2) (h : ¬ i2 > j2) {m : Nat} {R2 : Array α} (h3 : partLoop lt a (i2 + 1) (j2 - 1) (swp d1 i2 j2) = (m, R2)) : partition lt d a b p = (m, false, swp R2 m a) := by
  rw [partition]; simp only [h0, h1, h2]; rw [if_neg h, h3]

set_option maxRecDepth 100000 in
set_option maxHeartbeats 16000000 in
theorem spar_any (hS : Srt lt n G B lf lb sf sb At) (d : Array α) (a b p : Nat) {av bv pv : Int} (ea : av = (a : Int)) (eb : bv = (b : Int)) (ep : pv = (p : Int)) (w : World) (hA : At d w) (hap : a ≤ p) (hpb : p < b) (hb : b ≤ n) (m : Nat) (o : Bool) (R : Array α) (HR : Vlt (partition lt d a b p = (m, o, R))) :
    Calls Try.prog 82 #[.agg (lsv lf lb sf sb), .int .i64 av, .int .i64 bv, .int .i64 pv] w fun e w' => e = .returned (.tuple #[.int .i64 (m : Int), .bool o]) ∧ At R w' ∧ But G w w' := by
  subst ea eb ep
  have hsm := hS.small
  have eg := Lib.hid hS.enter
  have hbl := hS.blk hA
  have hlo := hS.low
  obtain ⟨W, hW, hD, hB, hsz⟩ := one_new w (lsv lf lb sf sb) 91
  have HW := Lib.hid hW
  have hA1 := hS.keep hA (hB.mono hbl)
  have hw1 : But G w W := but_of_below hB
  clear hW hA
  go_enter Try.func82, Try.ntmps82
  go_upto_region 1 with fail
  rw [HW.out]
  have hc0 := ls_less hD
  have hc1 := ls_swap hD
  obtain ⟨d1, g0⟩ : ∃ d1, swp d a p = d1 := ⟨_, rfl⟩
  obtain ⟨i2, g1⟩ : ∃ i2, scanUp (fun x => lt x d1[a]!) d1 (b - 1) (a + 1) = i2 := ⟨_, rfl⟩
  obtain ⟨j2, g2⟩ : ∃ j2, scanDown (fun x => !lt x d1[a]!) d1 i2 (b - 1) = j2 := ⟨_, rfl⟩
  have G0 := vlt g0
  have G1 := vlt g1
  have G2 := vlt g2
  have S1 := vlt g1
  have K1 : Hid (a + 1 ≤ i2) := Lib.hid (g1 ▸ scanUp_ge _ _ _ _)
  have K2 : Hid (j2 ≤ b - 1) := Lib.hid (g2 ▸ scanDown_le _ _ _ _)
  clear g0 g1 g2
  go_upto_region 3 with (with_reducible refine at_op 16 rfl ?_; obtain ⟨w1, hsw1, at1, hb1⟩ := hS.swap hA1 (i := a) (j := p) ((a : Int)) ((p : Int)) (by omega) (by omega) (by omega) (by omega); with_reducible refine wpList_ext2 (by kernel_rfl) (.tmp 13) (.tmp 14) (.tmp 15) _ rfl sf sb rfl (.int .i64 ((a : Int))) (.int .i64 ((p : Int))) rfl rfl _ w1 hsw1 ?_; clear hsw1; have hD1 := row_but2 hD hb1 (by omega); have hc01 := ls_less hD1; have hc11 := ls_swap hD1)
  have at0 : At d1 w1 := G0.out ▸ at1
  clear at1
  obtain ⟨c, rfl⟩ : ∃ c, b = c + 1 := ⟨b - 1, by omega⟩
  simp only [Nat.add_sub_cancel] at G1 G2 S1 K2
  rw [show ((c + 1 : Nat) : Int) - 1 = (c : Int) from by omega]
  go_loopg [10] (c + 1 - (a + 1)) (fun ku su wz => ∃ (xu : Nat), su = .int .i64 xu ∧ c + 1 - xu < ku + 1 ∧ a < xu ∧ At d1 wz ∧ But G W wz ∧ Hid (wz.heap[w.heap.size]? = some (.cells (lsv lf lb sf sb) 91 (0, 0))) ∧ Vlt (scanUp (fun x => lt x d1[a]!) d1 (c) xu = i2))
  case atStart => exact ⟨(a + 1), by go_num, by omega, by omega, at0, hb1, hD1, S1⟩
  case round =>
    clear S1
    obtain ⟨xu, rfl, hku, hbu, atu, btu, rwu, Hu⟩ := hrel
    have lcu := ls_less rwu
    by_cases cu : xu ≤ c
    · have czu : (xu : Int) ≤ (c : Int) := by omega
      cases lu : lt d1[xu]! d1[a]! with
      | true =>
        have H2u := vlt ((scu_go cu (by simp [lu])).symm.trans Hu.out)
        have Lu := Lib.hid lu
        clear lu Hu
        go_wp2_with (with_reducible refine at_op 29 rfl ?_; with_reducible refine wpList_fn2 (by kernel_rfl) (.tmp 26) (.tmp 27) (.tmp 28) _ rfl lf lb rfl (.int .i64 ((xu : Int))) (.int .i64 ((a : Int))) rfl rfl eg.out _ _ (hS.less atu (i := xu) (j := a) (iv := (xu : Int)) (jv := (a : Int)) (by omega) (by omega) (by omega) (by omega) Lu.out) ?_; intro w7u hb7u; have at7u := hS.keep atu (hb7u.mono (hS.blk atu)); have hD7u := row_next2 rwu hb7u; have hc07u := ls_less hD7u; have hc17u := ls_swap hD7u)
        go_roundg (c + 1 - (xu + 1))
        case measure => omega
        case rel => exact ⟨xu + 1, by go_num, by omega, by omega, at7u, btu.go hb7u, hD7u, H2u⟩
      | false =>
        have eu := (scu_end (.inr (by simp [lu]))).symm.trans Hu.out
        subst eu
        have Lu := Lib.hid lu
        clear lu Hu
        go_upto_region 5 with (with_reducible refine at_op 29 rfl ?_; with_reducible refine wpList_fn2 (by kernel_rfl) (.tmp 26) (.tmp 27) (.tmp 28) _ rfl lf lb rfl (.int .i64 ((xu : Int))) (.int .i64 ((a : Int))) rfl rfl eg.out _ _ (hS.less atu (i := xu) (j := a) (iv := (xu : Int)) (jv := (a : Int)) (by omega) (by omega) (by omega) (by omega) Lu.out) ?_; intro w7u hb7u; have at7u := hS.keep atu (hb7u.mono (hS.blk atu)); have hD7u := row_next2 rwu hb7u; have hc07u := ls_less hD7u; have hc17u := ls_swap hD7u)
        have S2 := vlt G2.out
        go_loopg [11] (c) (fun kd sd wz => ∃ (xd : Nat), sd = .int .i64 xd ∧ xd < kd + 1 ∧ xd < c + 1 ∧ xd ≤ c ∧ At d1 wz ∧ But G W wz ∧ Hid (wz.heap[w.heap.size]? = some (.cells (lsv lf lb sf sb) 91 (0, 0))) ∧ Vlt (scanDown (fun x => !lt x d1[a]!) d1 (xu) xd = j2))
        case atStart => exact ⟨c, by go_num, by omega, by omega, by omega, at7u, (btu.go hb7u), hD7u, S2⟩
        case round =>
          clear S2
          obtain ⟨xd, rfl, hkd, hbd, hsd, atd, btd, rwd, Hd⟩ := hrel
          have lcd := ls_less rwd
          by_cases cd : xu ≤ xd
          · have czd : (xu : Int) ≤ (xd : Int) := by omega
            cases ld : lt d1[xd]! d1[a]! with
            | false =>
              have H2d := vlt ((scd_go cd (by omega) (by simp [ld])).symm.trans Hd.out)
              have Ld := Lib.hid ld
              clear ld Hd
              go_wp2_with (with_reducible refine at_op 41 rfl ?_; with_reducible refine wpList_fn2 (by kernel_rfl) (.tmp 38) (.tmp 39) (.tmp 40) _ rfl lf lb rfl (.int .i64 ((xd : Int))) (.int .i64 ((a : Int))) rfl rfl eg.out _ _ (hS.less atd (i := xd) (j := a) (iv := (xd : Int)) (jv := (a : Int)) (by omega) (by omega) (by omega) (by omega) Ld.out) ?_; intro w7d hb7d; have at7d := hS.keep atd (hb7d.mono (hS.blk atd)); have hD7d := row_next2 rwd hb7d; have hc07d := ls_less hD7d; have hc17d := ls_swap hD7d)
              go_roundg ((xd - 1))
              case measure => omega
              case rel => exact ⟨xd - 1, by go_num, by omega, by omega, by omega, at7d, btd.go hb7d, hD7d, H2d⟩
            | true =>
              have ed := (scd_end (.inr (by simp [ld]))).symm.trans Hd.out
              subst ed
              have Ld := Lib.hid ld
              clear ld Hd
              go_upto_region 7 with (with_reducible refine at_op 41 rfl ?_; with_reducible refine wpList_fn2 (by kernel_rfl) (.tmp 38) (.tmp 39) (.tmp 40) _ rfl lf lb rfl (.int .i64 ((xd : Int))) (.int .i64 ((a : Int))) rfl rfl eg.out _ _ (hS.less atd (i := xd) (j := a) (iv := (xd : Int)) (jv := (a : Int)) (by omega) (by omega) (by omega) (by omega) Ld.out) ?_; intro w7d hb7d; have at7d := hS.keep atd (hb7d.mono (hS.blk atd)); have hD7d := row_next2 rwd hb7d; have hc07d := ls_less hD7d; have hc17d := ls_swap hD7d)
              have k1 := K1.out
              have k2 := K2.out
              have q0 := ls_less hD7d
              have q1 := ls_swap hD7d
              obtain ⟨R2, m2, g3⟩ : ∃ R2 m2, partLoop lt a (xu + 1) (xd - 1) (swp d1 xu xd) = (m2, R2) := ⟨_, _, rfl⟩
              have hR := (part_more G0.out G1.out G2.out (by omega) g3).symm.trans HR.out
              simp only [Prod.mk.injEq] at hR
              obtain ⟨rfl, rfl, rfl⟩ := hR
              have HE := vlt g3
              clear HR G0 G1 G2 g3
              have hgz : ¬ (xd : Int) < (xu : Int) := by omega
              have kk1 := Lib.hid k1
              clear K1 K2
              go_upto_region 13 with (with_reducible refine at_op 59 rfl ?_; obtain ⟨w9, hsw9, at9, hb9⟩ := hS.swap at7d (i := xu) (j := xd) ((xu : Int)) ((xd : Int)) (by omega) (by omega) (by omega) (by omega); with_reducible refine wpList_ext2 (by kernel_rfl) (.tmp 56) (.tmp 57) (.tmp 58) _ rfl sf sb rfl (.int .i64 ((xu : Int))) (.int .i64 ((xd : Int))) rfl rfl _ w9 hsw9 ?_; clear hsw9; have hD9 := row_but2 hD7d hb9 (by omega); have hc09 := ls_less hD9; have hc19 := ls_swap hD9)
              go_loopg [10, 11] (c + 1) (fun kx s10 s11 wr => ∃ (i j : Nat) (dk : Array α), s10 = .int .i64 i ∧ s11 = .int .i64 j ∧ j + 1 - i < kx + 1 ∧ a < i ∧ j < c + 1 ∧ At dk wr ∧ But G W wr ∧ Hid (wr.heap[w.heap.size]? = some (.cells (lsv lf lb sf sb) 91 (0, 0))) ∧ Vlt (partLoop lt a i j dk = (m2, R2)))
              case atStart => exact ⟨xu + 1, xd - 1, _, by go_num, by go_num, by omega, by omega, by omega, at9, (btd.go hb7d).trans hb9, hD9, HE⟩
              case round =>
                clear HE
                obtain ⟨i, j, dk, rfl, rfl, hk, hai, hjb, hAk, hbut, hDk, HE⟩ := hrel
                obtain ⟨i3, g1⟩ : ∃ i3, scanUp (fun x => lt x dk[a]!) dk j i = i3 := ⟨_, rfl⟩
                obtain ⟨j3, g2⟩ : ∃ j3, scanDown (fun x => !lt x dk[a]!) dk i3 j = j3 := ⟨_, rfl⟩
                have G1 := vlt g1
                have G2 := vlt g2
                have T1 := vlt g1
                have K1 : Hid (i ≤ i3) := Lib.hid (g1 ▸ scanUp_ge _ _ _ _)
                have K2 : Hid (j3 ≤ j) := Lib.hid (g2 ▸ scanDown_le _ _ _ _)
                clear g1 g2
                go_upto_region 13 with fail
                go_loopg [10] (j + 1 - i) (fun ke se wz => ∃ (xe : Nat), se = .int .i64 xe ∧ j + 1 - xe < ke + 1 ∧ a < xe ∧ At dk wz ∧ But G W wz ∧ Hid (wz.heap[w.heap.size]? = some (.cells (lsv lf lb sf sb) 91 (0, 0))) ∧ Vlt (scanUp (fun x => lt x dk[a]!) dk (j) xe = i3))
                case atStart => exact ⟨i, by go_num, by omega, by omega, hAk, hbut, hDk, T1⟩
                case round =>
                  clear T1
                  obtain ⟨xe, rfl, hke, hbe, ate, bte, rwe, He⟩ := hrel
                  have lce := ls_less rwe
                  by_cases ce : xe ≤ j
                  · have cze : (xe : Int) ≤ (j : Int) := by omega
                    cases le : lt dk[xe]! dk[a]! with
                    | true =>
                      have H2e := vlt ((scu_go ce (by simp [le])).symm.trans He.out)
                      have Le := Lib.hid le
                      clear le He
                      go_wp2_with (with_reducible refine at_op 72 rfl ?_; with_reducible refine wpList_fn2 (by kernel_rfl) (.tmp 69) (.tmp 70) (.tmp 71) _ rfl lf lb rfl (.int .i64 ((xe : Int))) (.int .i64 ((a : Int))) rfl rfl eg.out _ _ (hS.less ate (i := xe) (j := a) (iv := (xe : Int)) (jv := (a : Int)) (by omega) (by omega) (by omega) (by omega) Le.out) ?_; intro w7e hb7e; have at7e := hS.keep ate (hb7e.mono (hS.blk ate)); have hD7e := row_next2 rwe hb7e; have hc07e := ls_less hD7e; have hc17e := ls_swap hD7e)
                      go_roundg (j + 1 - (xe + 1))
                      case measure => omega
                      case rel => exact ⟨xe + 1, by go_num, by omega, by omega, at7e, bte.go hb7e, hD7e, H2e⟩
                    | false =>
                      have ee := (scu_end (.inr (by simp [le]))).symm.trans He.out
                      subst ee
                      have Le := Lib.hid le
                      clear le He
                      go_upto_region 15 with (with_reducible refine at_op 72 rfl ?_; with_reducible refine wpList_fn2 (by kernel_rfl) (.tmp 69) (.tmp 70) (.tmp 71) _ rfl lf lb rfl (.int .i64 ((xe : Int))) (.int .i64 ((a : Int))) rfl rfl eg.out _ _ (hS.less ate (i := xe) (j := a) (iv := (xe : Int)) (jv := (a : Int)) (by omega) (by omega) (by omega) (by omega) Le.out) ?_; intro w7e hb7e; have at7e := hS.keep ate (hb7e.mono (hS.blk ate)); have hD7e := row_next2 rwe hb7e; have hc07e := ls_less hD7e; have hc17e := ls_swap hD7e)
                      have T2 := vlt G2.out
                      go_loopg [11] (j) (fun ky sy wz => ∃ (xy : Nat), sy = .int .i64 xy ∧ xy < ky + 1 ∧ xy < c + 1 ∧ xy ≤ j ∧ At dk wz ∧ But G W wz ∧ Hid (wz.heap[w.heap.size]? = some (.cells (lsv lf lb sf sb) 91 (0, 0))) ∧ Vlt (scanDown (fun x => !lt x dk[a]!) dk (xe) xy = j3))
                      case atStart => exact ⟨j, by go_num, by omega, by omega, by omega, at7e, (bte.go hb7e), hD7e, T2⟩
                      case round =>
                        clear T2
                        obtain ⟨xy, rfl, hky, hby, hsy, aty, bty, rwy, Hy⟩ := hrel
                        have lcy := ls_less rwy
                        by_cases cy : xe ≤ xy
                        · have czy : (xe : Int) ≤ (xy : Int) := by omega
                          cases ly : lt dk[xy]! dk[a]! with
                          | false =>
                            have H2y := vlt ((scd_go cy (by omega) (by simp [ly])).symm.trans Hy.out)
                            have Ly := Lib.hid ly
                            clear ly Hy
                            go_wp2_with (with_reducible refine at_op 84 rfl ?_; with_reducible refine wpList_fn2 (by kernel_rfl) (.tmp 81) (.tmp 82) (.tmp 83) _ rfl lf lb rfl (.int .i64 ((xy : Int))) (.int .i64 ((a : Int))) rfl rfl eg.out _ _ (hS.less aty (i := xy) (j := a) (iv := (xy : Int)) (jv := (a : Int)) (by omega) (by omega) (by omega) (by omega) Ly.out) ?_; intro w7y hb7y; have at7y := hS.keep aty (hb7y.mono (hS.blk aty)); have hD7y := row_next2 rwy hb7y; have hc07y := ls_less hD7y; have hc17y := ls_swap hD7y)
                            go_roundg ((xy - 1))
                            case measure => omega
                            case rel => exact ⟨xy - 1, by go_num, by omega, by omega, by omega, at7y, bty.go hb7y, hD7y, H2y⟩
                          | true =>
                            have ey := (scd_end (.inr (by simp [ly]))).symm.trans Hy.out
                            subst ey
                            have Ly := Lib.hid ly
                            clear ly Hy
                            go_upto_region 17 with (with_reducible refine at_op 84 rfl ?_; with_reducible refine wpList_fn2 (by kernel_rfl) (.tmp 81) (.tmp 82) (.tmp 83) _ rfl lf lb rfl (.int .i64 ((xy : Int))) (.int .i64 ((a : Int))) rfl rfl eg.out _ _ (hS.less aty (i := xy) (j := a) (iv := (xy : Int)) (jv := (a : Int)) (by omega) (by omega) (by omega) (by omega) Ly.out) ?_; intro w7y hb7y; have at7y := hS.keep aty (hb7y.mono (hS.blk aty)); have hD7y := row_next2 rwy hb7y; have hc07y := ls_less hD7y; have hc17y := ls_swap hD7y)
                            have k1 := K1.out
                            have k2 := K2.out
                            have q0 := ls_less hD7y
                            have q1 := ls_swap hD7y
                            have HF := vlt ((pl_go G1.out G2.out (by omega)).symm.trans HE.out)
                            clear HE G1 G2
                            have hgz2 : ¬ (xy : Int) < (xe : Int) := by omega
                            go_wp2_with (with_reducible refine at_op 96 rfl ?_; obtain ⟨w8, hsw8, at8, hb8⟩ := hS.swap at7y (i := xe) (j := xy) ((xe : Int)) ((xy : Int)) (by omega) (by omega) (by omega) (by omega); with_reducible refine wpList_ext2 (by kernel_rfl) (.tmp 93) (.tmp 94) (.tmp 95) _ rfl sf sb rfl (.int .i64 ((xe : Int))) (.int .i64 ((xy : Int))) rfl rfl _ w8 hsw8 ?_; clear hsw8; have hD8 := row_but2 hD7y hb8 (by omega); have hc08 := ls_less hD8; have hc18 := ls_swap hD8)
                            go_roundg (xy - 1 + 1 - (xe + 1))
                            case measure => omega
                            case rel => exact ⟨xe + 1, xy - 1, _, by go_num, by go_num, by omega, by omega, by omega, at8, (bty.go hb7y).trans hb8, hD8, HF⟩
                        · have czy : ¬ (xe : Int) ≤ (xy : Int) := by omega
                          have ey := (scd_end (.inl cy)).symm.trans Hy.out
                          subst ey
                          clear Hy
                          go_upto_region 17 with fail
                          have k1 := K1.out
                          have k2 := K2.out
                          have q0 := ls_less rwy
                          have q1 := ls_swap rwy
                          have hR := (pl_stop G1.out G2.out (by omega)).symm.trans HE.out
                          simp only [Prod.mk.injEq] at hR
                          obtain ⟨rfl, rfl⟩ := hR
                          clear HE G1 G2
                          have hgz2 : (xy : Int) < (xe : Int) := by omega
                          go_wp2_with (with_reducible refine at_op 105 rfl ?_; obtain ⟨w8, hsw8, at8, hb8⟩ := hS.swap aty (i := xy) (j := a) ((xy : Int)) ((a : Int)) (by omega) (by omega) (by omega) (by omega); with_reducible refine wpList_ext2 (by kernel_rfl) (.tmp 102) (.tmp 103) (.tmp 104) _ rfl sf sb rfl (.int .i64 ((xy : Int))) (.int .i64 ((a : Int))) rfl rfl _ w8 hsw8 ?_; clear hsw8; have hD8 := row_but2 rwy hb8 (by omega); have hc08 := ls_less hD8; have hc18 := ls_swap hD8)
                          (try simp only [Exit.inBlock, Exit.then]); refine bodyPost_ret (results_tmp2 rfl _ _ _) rfl ?_
                          exact ⟨rfl, at8, hw1.trans (bty.trans hb8)⟩
                  · have cze : ¬ (xe : Int) ≤ (j : Int) := by omega
                    have ee := (scu_end (.inl ce)).symm.trans He.out
                    subst ee
                    clear He
                    go_upto_region 15 with fail
                    have T2 := vlt G2.out
                    go_loopg [11] (j) (fun ky sy wz => ∃ (xy : Nat), sy = .int .i64 xy ∧ xy < ky + 1 ∧ xy < c + 1 ∧ xy ≤ j ∧ At dk wz ∧ But G W wz ∧ Hid (wz.heap[w.heap.size]? = some (.cells (lsv lf lb sf sb) 91 (0, 0))) ∧ Vlt (scanDown (fun x => !lt x dk[a]!) dk (xe) xy = j3))
                    case atStart => exact ⟨j, by go_num, by omega, by omega, by omega, ate, bte, rwe, T2⟩
                    case round =>
                      clear T2
                      obtain ⟨xy, rfl, hky, hby, hsy, aty, bty, rwy, Hy⟩ := hrel
                      have lcy := ls_less rwy
                      by_cases cy : xe ≤ xy
                      · exfalso; omega
                      · have czy : ¬ (xe : Int) ≤ (xy : Int) := by omega
                        have ey := (scd_end (.inl cy)).symm.trans Hy.out
                        subst ey
                        clear Hy
                        go_upto_region 17 with fail
                        have k1 := K1.out
                        have k2 := K2.out
                        have q0 := ls_less rwy
                        have q1 := ls_swap rwy
                        have hR := (pl_stop G1.out G2.out (by omega)).symm.trans HE.out
                        simp only [Prod.mk.injEq] at hR
                        obtain ⟨rfl, rfl⟩ := hR
                        clear HE G1 G2
                        have hgz2 : (xy : Int) < (xe : Int) := by omega
                        go_wp2_with (with_reducible refine at_op 105 rfl ?_; obtain ⟨w8, hsw8, at8, hb8⟩ := hS.swap aty (i := xy) (j := a) ((xy : Int)) ((a : Int)) (by omega) (by omega) (by omega) (by omega); with_reducible refine wpList_ext2 (by kernel_rfl) (.tmp 102) (.tmp 103) (.tmp 104) _ rfl sf sb rfl (.int .i64 ((xy : Int))) (.int .i64 ((a : Int))) rfl rfl _ w8 hsw8 ?_; clear hsw8; have hD8 := row_but2 rwy hb8 (by omega); have hc08 := ls_less hD8; have hc18 := ls_swap hD8)
                        (try simp only [Exit.inBlock, Exit.then]); refine bodyPost_ret (results_tmp2 rfl _ _ _) rfl ?_
                        exact ⟨rfl, at8, hw1.trans (bty.trans hb8)⟩
          · have czd : ¬ (xu : Int) ≤ (xd : Int) := by omega
            have ed := (scd_end (.inl cd)).symm.trans Hd.out
            subst ed
            clear Hd
            go_upto_region 7 with fail
            have k1 := K1.out
            have k2 := K2.out
            have q0 := ls_less rwd
            have q1 := ls_swap rwd
            have hR := (part_stop G0.out G1.out G2.out (by omega)).symm.trans HR.out
            simp only [Prod.mk.injEq] at hR
            obtain ⟨rfl, rfl, rfl⟩ := hR
            clear HR G0 G1 G2
            have hgz : (xd : Int) < (xu : Int) := by omega
            go_wp2_with (with_reducible refine at_op 53 rfl ?_; obtain ⟨w9, hsw9, at9, hb9⟩ := hS.swap atd (i := xd) (j := a) ((xd : Int)) ((a : Int)) (by omega) (by omega) (by omega) (by omega); with_reducible refine wpList_ext2 (by kernel_rfl) (.tmp 50) (.tmp 51) (.tmp 52) _ rfl sf sb rfl (.int .i64 ((xd : Int))) (.int .i64 ((a : Int))) rfl rfl _ w9 hsw9 ?_; clear hsw9; have hD9 := row_but2 rwd hb9 (by omega); have hc09 := ls_less hD9; have hc19 := ls_swap hD9)
            (try simp only [Exit.inBlock, Exit.then]); refine bodyPost_ret (results_tmp2 rfl _ _ _) rfl ?_
            exact ⟨rfl, at9, hw1.trans (btd.trans hb9)⟩
    · have czu : ¬ (xu : Int) ≤ (c : Int) := by omega
      have eu := (scu_end (.inl cu)).symm.trans Hu.out
      subst eu
      clear Hu
      go_upto_region 5 with fail
      have S2 := vlt G2.out
      go_loopg [11] (c) (fun kd sd wz => ∃ (xd : Nat), sd = .int .i64 xd ∧ xd < kd + 1 ∧ xd < c + 1 ∧ xd ≤ c ∧ At d1 wz ∧ But G W wz ∧ Hid (wz.heap[w.heap.size]? = some (.cells (lsv lf lb sf sb) 91 (0, 0))) ∧ Vlt (scanDown (fun x => !lt x d1[a]!) d1 (xu) xd = j2))
      case atStart => exact ⟨c, by go_num, by omega, by omega, by omega, atu, btu, rwu, S2⟩
      case round =>
        clear S2
        obtain ⟨xd, rfl, hkd, hbd, hsd, atd, btd, rwd, Hd⟩ := hrel
        have lcd := ls_less rwd
        by_cases cd : xu ≤ xd
        · exfalso; omega
        · have czd : ¬ (xu : Int) ≤ (xd : Int) := by omega
          have ed := (scd_end (.inl cd)).symm.trans Hd.out
          subst ed
          clear Hd
          go_upto_region 7 with fail
          have k1 := K1.out
          have k2 := K2.out
          have q0 := ls_less rwd
          have q1 := ls_swap rwd
          have hR := (part_stop G0.out G1.out G2.out (by omega)).symm.trans HR.out
          simp only [Prod.mk.injEq] at hR
          obtain ⟨rfl, rfl, rfl⟩ := hR
          clear HR G0 G1 G2
          have hgz : (xd : Int) < (xu : Int) := by omega
          go_wp2_with (with_reducible refine at_op 53 rfl ?_; obtain ⟨w9, hsw9, at9, hb9⟩ := hS.swap atd (i := xd) (j := a) ((xd : Int)) ((a : Int)) (by omega) (by omega) (by omega) (by omega); with_reducible refine wpList_ext2 (by kernel_rfl) (.tmp 50) (.tmp 51) (.tmp 52) _ rfl sf sb rfl (.int .i64 ((xd : Int))) (.int .i64 ((a : Int))) rfl rfl _ w9 hsw9 ?_; clear hsw9; have hD9 := row_but2 rwd hb9 (by omega); have hc09 := ls_less hD9; have hc19 := ls_swap hD9)
          (try simp only [Exit.inBlock, Exit.then]); refine bodyPost_ret (results_tmp2 rfl _ _ _) rfl ?_
          exact ⟨rfl, at9, hw1.trans (btd.trans hb9)⟩
end Go.Proofs.Ytncjobhpiohkkaa
namespace Go.Proofs.Ytncjobhpiohkkaa
open Go.RowKit Go.Sort
variable {α : Type} [Inhabited α] {lt : α → α → Bool} {n G B lf sf : Nat} {lb sb : Array Value} {At : Array α → World → Prop}

theorem hint_no {h : Hint} (hd : ¬ h = .decreasing) : ¬ hintZ h = 2 := by
  cases h with
  | unknown => decide
  | increasing => decide
  | decreasing => exact absurd rfl hd
/-- What is owed of the row from a to b: nothing there is less than what lies ahead of it; sorted, it is what is wanted. -/
def Pd (lt : α → α → Bool) (Goal : Array α → Prop) (a b : Nat) (d : Array α) : Prop := Go.Sort.Below lt a b d ∧ ∀ R, PermIn a b d R → SortedIn lt a b R → Goal R
section
variable {Goal : Array α → Prop} {a b : Nat} {d d2 : Array α}
theorem Pd.perm (h : Pd lt Goal a b d) (hb : b ≤ d.size) (hp : PermIn a b d d2) : Pd lt Goal a b d2 := ⟨h.1.perm hb hp, fun R hR hs => h.2 R (permIn_trans _ _ _ a b hp hR) hs⟩
theorem Pd.done {R : Array α} (h : Pd lt Goal a b d) (hp : PermIn a b d R) (hs : SortedIn lt a b R) : Goal R := h.2 R hp hs
theorem Pd.eq (hO : SWO lt) (h : Pd lt Goal a b d) {p m : Nat} {d4 : Array α} (h0 : 0 < a) (h1 : a ≤ p) (h2 : p < b) (hb : b ≤ d.size) (hn : lt d[a - 1]! d[p]! = false) (hx : partitionEqual lt d a b p = (m, d4)) : a < m ∧ m ≤ b ∧ Pd lt Goal m b d4 := by
  obtain ⟨k1, k2, _, k4, k5⟩ := round_eq hO (partitionEqual_holds lt) h0 h1 h2 hb h.1 hn hx
  exact ⟨k1, k2, k4, fun R hR hs => h.2 R (k5 R hR hs).1 (k5 R hR hs).2⟩
theorem Pd.part (hO : SWO lt) (h : Pd lt Goal a b d) {p m : Nat} {o : Bool} {d4 : Array α} (h1 : a ≤ p) (h2 : p < b) (hb : b ≤ d.size) (hx : partition lt d a b p = (m, o, d4)) : (a ≤ m ∧ m < b) ∧
    (Go.Sort.Below lt a m d4 ∧ ∀ L, PermIn a m d4 L ∧ SortedIn lt a m L → Pd lt Goal (m + 1) b L) ∧ (Go.Sort.Below lt (m + 1) b d4 ∧ ∀ L, PermIn (m + 1) b d4 L ∧ SortedIn lt (m + 1) b L → Pd lt Goal a m L) := by
  obtain ⟨k1, k2, _, k4, k5, k6, k7⟩ := round_part hO (partition_holds lt) h1 h2 hb h.1 hx
  exact ⟨⟨k1, k2⟩, ⟨k4, fun L hL => ⟨(k6 L hL.1 hL.2).1, fun R hR hs => h.2 R ((k6 L hL.1 hL.2).2 R hR hs).1 ((k6 L hL.1 hL.2).2 R hR hs).2⟩⟩, ⟨k5, fun L hL => ⟨(k7 L hL.1 hL.2).1, fun R hR hs => h.2 R ((k7 L hL.1 hL.2).2 R hR hs).1 ((k7 L hL.1 hL.2).2 R hR hs).2⟩⟩⟩
end

set_option maxRecDepth 100000 in
set_option maxHeartbeats 64000000 in
theorem spdq_at (hO : SWO lt) (N : Nat) (hS : Srt lt n G B lf lb sf sb At) (d : Array α) (a b lim : Nat) {av bv limv : Int} (ea : av = (a : Int)) (eb : bv = (b : Int)) (elim : limv = (lim : Int)) (w : World) (hA : At d w) (hab : a ≤ b) (hb : b ≤ n) (hN : b - a < N) (hlim : lim < 1000) (hB0 : Go.Sort.Below lt a b d) :
    Calls Try.prog 56 #[.agg (lsv lf lb sf sb), .int .i64 av, .int .i64 bv, .int .i64 limv] w fun e w' => e = .returned (.tuple #[]) ∧ (∃ R, At R w' ∧ PermIn a b d R ∧ SortedIn lt a b R) ∧ But G w w' := by
  induction N generalizing d a b lim av bv limv w with
  | zero => omega
  | succ N ih =>
  subst ea eb elim
  have IH := Lib.hid ih
  clear ih
  have hsm := hS.small
  have eg := Lib.hid hS.enter
  have hbl := hS.blk hA
  have hlo := hS.low
  obtain ⟨W, hW, hD, hB, hsz⟩ := one_new w (lsv lf lb sf sb) 91
  have HW := Lib.hid hW
  have hA1 := hS.keep hA (hB.mono hbl)
  have hw1 : But G w W := but_of_below hB
  obtain ⟨Goal, hGo⟩ : ∃ Goal : Array α → Prop, Goal = fun R => PermIn a b d R ∧ SortedIn lt a b R := ⟨_, rfl⟩
  have HP0 : Vlt (Pd lt Goal a b d) := vlt (by rw [hGo]; exact ⟨hB0, fun R h1 h2 => ⟨h1, h2⟩⟩)
  have HG : Vlt (∀ R, Goal R → PermIn a b d R ∧ SortedIn lt a b R) := vlt (by rw [hGo]; exact fun R h => h)
  clear hW hA hB0 hGo
  go_enter Try.func56, Try.ntmps56
  go_upto_region 1 with fail
  rw [HW.out]
  go_wp2
  go_loopg [1, 2, 3, 8, 9] N (fun kx s1 s2 s3 s8 s9 wr => ∃ (x y l : Nat) (wb wp : Bool) (dk : Array α), s1 = .int .i64 x ∧ s2 = .int .i64 y ∧ s3 = .int .i64 l ∧ s8 = .bool wb ∧ s9 = .bool wp ∧ y - x < kx + 1 ∧ y - x < N + 1 ∧ x ≤ y ∧ y ≤ n ∧ l < 1000 ∧ At dk wr ∧ But G W wr ∧ Hid (wr.heap[w.heap.size]? = some (.cells (lsv lf lb sf sb) 91 (0, 0))) ∧ Vlt (Pd lt Goal x y dk))
  case atStart => exact ⟨a, b, lim, true, true, d, rfl, rfl, rfl, rfl, rfl, by omega, by omega, hab, hb, hlim, hA1, But.refl _ _, hD, HP0⟩
  case round =>
    obtain ⟨x, y, l, wb, wp, dk, rfl, rfl, rfl, rfl, rfl, hk, hkN, hxy, hyn, hl, hAk, hbut, hDk, HP⟩ := hrel
    have hc0 := ls_less hDk
    have hc1 := ls_swap hDk
    have hsz := hS.size hAk
    clear HP0
    by_cases h12 : y - x ≤ 12
    · have h12z : (y : Int) - (x : Int) ≤ 12 := by omega
      have hI := insertionSort_holds hO dk x y hxy (by omega)
      have HQ := vlt (HG.out _ (HP.out.done hI.1 hI.2))
      clear hI
      go_wp2_with (go_at_call 75; with_reducible refine (sins_any hS dk x y rfl rfl wr hAk hxy hyn).mono ?_; rintro e w1 ⟨rfl, at1, hb1⟩; have hD1 := row_but2 hDk hb1 (by omega); have hc01 := ls_less hD1; have hc11 := ls_swap hD1)
      (try simp only [Exit.inBlock, Exit.then]); refine bodyPost_ret (results_none rfl _ _ _) rfl ?_
      exact ⟨rfl, ⟨_, at1, HQ.out⟩, hw1.trans (hbut.trans hb1)⟩
    have h12z : ¬ (y : Int) - (x : Int) ≤ 12 := by omega
    by_cases hl0 : l = 0
    · subst hl0
      have hI := heapSort_holds hO dk x y hxy (by omega)
      have HQ := vlt (HG.out _ (HP.out.done hI.1 hI.2))
      clear hI
      go_wp2_with (go_at_call 76; with_reducible refine (sheap_any hS dk x y rfl rfl wr hAk hxy hyn).mono ?_; rintro e w1 ⟨rfl, at1, hb1⟩; have hD1 := row_but2 hDk hb1 (by omega); have hc01 := ls_less hD1; have hc11 := ls_swap hD1)
      (try simp only [Exit.inBlock, Exit.then]); refine bodyPost_ret (results_none rfl _ _ _) rfl ?_
      exact ⟨rfl, ⟨_, at1, HQ.out⟩, hw1.trans (hbut.trans hb1)⟩
    have hl0z : ¬ (l : Int) = 0 := by omega
    have hq8 : Int.tdiv ((y : Int) - (x : Int)) 8 = (((y - x) / 8 : Nat) : Int) := by rw [Int.tdiv_eq_ediv_of_nonneg (by omega)]; omega
    obtain ⟨bt, hbt⟩ : ∃ bt, (y - x) / 8 = bt := ⟨_, rfl⟩
    rw [hbt] at hq8
    clear hbt
    go_upto_if 35 with fail
    go_cut [3] from 19 to 129 (fun s3 wz => ∃ (l1 : Nat) (d1 : Array α), s3 = .int .i64 l1 ∧ l1 < 1000 ∧ At d1 wz ∧ But G W wz ∧ Hid (wz.heap[w.heap.size]? = some (.cells (lsv lf lb sf sb) 91 (0, 0))) ∧ Vlt (Pd lt Goal x y d1))
    case first =>
      cases wb with
      | false =>
        have hbp := breakPatterns_holds dk x y hxy (by omega)
        have P1 := vlt (HP.out.perm (by omega) hbp)
        clear hbp
        go_wp2_with (go_at_call 77; with_reducible refine (sbrk_any hS dk x y rfl rfl wr hAk hxy hyn).mono ?_; rintro e w1 ⟨rfl, at1, hb1⟩; have hD1 := row_but2 hDk hb1 (by omega); have hc01 := ls_less hD1; have hc11 := ls_swap hD1)
        go_meet
        case rel => exact ⟨l - 1, _, by go_num, by omega, at1, hbut.trans hb1, hD1, P1⟩
      | true =>
        go_wp2
        go_meet
        case rel => exact ⟨l, dk, rfl, hl, hAk, hbut, hDk, HP⟩
    case rest =>
    clear hc0 hc1 hAk hbut hDk HP hsz hl0 hl0z hl
    obtain ⟨l1, d1, rfl, hl, hAk, hbut, hDk, HP⟩ := hcut
    have hc0 := ls_less hDk
    have hc1 := ls_swap hDk
    have hsz := hS.size hAk
    obtain ⟨p, h, e2⟩ : ∃ p h, choosePivot lt d1 x y = (p, h) := ⟨_, _, rfl⟩
    have hp := choosePivot_holds lt d1 x y (by omega)
    rw [e2] at hp
    obtain ⟨hp1, hp2⟩ : x ≤ p ∧ p < y := hp
    have E2 := vlt e2
    clear e2
    go_upto_if 50 with (go_at_call 78; with_reducible refine (schs_any hS d1 x y rfl rfl wc hAk (by omega) hyn p h E2).mono ?_; rintro e w2 ⟨rfl, hb2⟩; have at2 := hS.keep hAk (hb2.mono (hS.blk hAk)); have hD2 := row_next2 hDk hb2; have hc02 := ls_less hD2; have hc12 := ls_swap hD2)
    go_cut [11, 12] from 19 to 129 (fun s11 s12 wz => ∃ (q : Nat) (z : Int) (d2 : Array α), s11 = .int .i64 q ∧ s12 = .int .i64 z ∧ x ≤ q ∧ q < y ∧ At d2 wz ∧ But G W wz ∧ Hid (wz.heap[w.heap.size]? = some (.cells (lsv lf lb sf sb) 91 (0, 0))) ∧ Vlt (Pd lt Goal x y d2))
    case first =>
      by_cases hd : h = .decreasing
      · subst hd
        have hh : hintZ .decreasing = 2 := rfl
        have hrv := reverseRange_holds d1 x y hxy (by omega)
        have P2 := vlt (HP.out.perm (by omega) hrv)
        clear hrv
        go_wp2_with (go_at_call 79; with_reducible refine (srev_any hS d1 x y rfl rfl w2 at2 (by omega) hyn).mono ?_; rintro e w3 ⟨rfl, at3, hb3⟩; have hD3 := row_but2 hD2 hb3 (by omega); have hc03 := ls_less hD3; have hc13 := ls_swap hD3)
        go_meet
        case rel => exact ⟨(y - 1) - (p - x), 1, _, congrArg (Value.int .i64) (by omega), rfl, by omega, by omega, at3, (hbut.go hb2).trans hb3, hD3, P2⟩
      · have hh := hint_no hd
        go_wp2
        go_meet
        case rel => exact ⟨p, hintZ h, d1, rfl, rfl, hp1, hp2, at2, hbut.go hb2, hD2, HP⟩
    case rest =>
    clear hc0 hc1 hAk hbut hDk HP hsz E2 hp1 hp2
    obtain ⟨q, z, d2, rfl, rfl, hq1, hq2, hAk, hbut, hDk, HP⟩ := hcut
    have hc0 := ls_less hDk
    have hc1 := ls_swap hDk
    have hsz := hS.size hAk
    go_upto_region 16 with fail
    go_cut [68] from 19 to 129 (fun s68 wz => ∃ (c : Bool), s68 = .bool c ∧ At d2 wz ∧ But G W wz ∧ Hid (wz.heap[w.heap.size]? = some (.cells (lsv lf lb sf sb) 91 (0, 0))) ∧ Vlt (Pd lt Goal x y d2))
    case first =>
      by_cases hz1 : z = 1
      · cases wb <;> cases wp <;> (go_wp2; go_meet; exact ⟨_, rfl, hAk, hbut, hDk, HP⟩)
      · cases wb <;> cases wp <;> (go_wp2; go_meet; exact ⟨_, rfl, hAk, hbut, hDk, HP⟩)
    case rest =>
    clear hc0 hc1 hAk hbut hDk HP hsz
    obtain ⟨c, rfl, hAk, hbut, hDk, HP⟩ := hcut
    have hc0 := ls_less hDk
    have hc1 := ls_swap hDk
    have hsz := hS.size hAk
    go_upto_if 68 with fail
    go_cut [] from 19 to 129 (fun wz => ∃ (d3 : Array α), At d3 wz ∧ But G W wz ∧ Hid (wz.heap[w.heap.size]? = some (.cells (lsv lf lb sf sb) 91 (0, 0))) ∧ Vlt (Pd lt Goal x y d3))
    case first =>
      cases c with
      | false =>
        go_wp2
        go_meet
        case rel => exact ⟨d2, hAk, hbut, hDk, HP⟩
      | true =>
        obtain ⟨d3, o3, e4⟩ : ∃ d3 o3, partialInsertionSort lt d2 x y = (d3, o3) := ⟨_, _, rfl⟩
        have hpi := partialInsertionSort_holds hO d2 x y (by omega) (by omega) HP.out.1
        rw [e4] at hpi
        have P3 := vlt (HP.out.perm (by omega) hpi.1)
        have E4 := vlt e4
        have HI := vlt hpi
        clear e4 hpi
        cases o3 with
        | true =>
          have HQ := vlt (HG.out _ (HP.out.done HI.out.1 (HI.out.2 rfl)))
          clear HI
          go_wp2_with (go_at_call 80; with_reducible refine (spin_any hS d2 x y rfl rfl wc hAk (by omega) hyn d3 true E4).mono ?_; rintro e w4 ⟨rfl, at4, hb4⟩; have hD4 := row_but2 hDk hb4 (by omega); have hc04 := ls_less hD4; have hc14 := ls_swap hD4)
          (try simp only [Exit.inBlock, Exit.then]); refine bodyPost_ret (results_none rfl _ _ _) rfl ?_
          exact ⟨rfl, ⟨_, at4, HQ.out⟩, hw1.trans (hbut.trans hb4)⟩
        | false =>
          clear HI
          go_wp2_with (go_at_call 80; with_reducible refine (spin_any hS d2 x y rfl rfl wc hAk (by omega) hyn d3 false E4).mono ?_; rintro e w4 ⟨rfl, at4, hb4⟩; have hD4 := row_but2 hDk hb4 (by omega); have hc04 := ls_less hD4; have hc14 := ls_swap hD4)
          go_meet
          case rel => exact ⟨d3, at4, hbut.trans hb4, hD4, P3⟩
    case rest =>
    clear hc0 hc1 hAk hbut hDk HP hsz
    obtain ⟨d3, hAk, hbut, hDk, HP⟩ := hcut
    have hc0 := ls_less hDk
    have hc1 := ls_swap hDk
    have hsz := hS.size hAk
    obtain ⟨v, hv⟩ : ∃ v : Bool, (decide (0 < x) && !lt d3[x - 1]! d3[q]!) = v := ⟨_, rfl⟩
    have HV := vlt hv
    go_upto_region 18 with fail
    go_cut [83] from 19 to 129 (fun s83 wz => s83 = .bool v ∧ At d3 wz ∧ But G W wz ∧ Hid (wz.heap[w.heap.size]? = some (.cells (lsv lf lb sf sb) 91 (0, 0))) ∧ Vlt (Pd lt Goal x y d3))
    case first =>
      by_cases hx0 : x = 0
      · have hxz : ¬ (0 : Int) < (x : Int) := by omega
        have hvv : v = false := by rw [← HV.out, hx0]; rfl
        subst hvv
        clear hv hx0
        go_wp2
        go_meet
        case rel => exact ⟨rfl, hAk, hbut, hDk, HP⟩
      · have hxz : (0 : Int) < (x : Int) := by omega
        cases hle : lt d3[x - 1]! d3[q]! with
        | true =>
          have hvv : v = false := by rw [← HV.out, hle]; simp
          subst hvv
          have HLe := Lib.hid hle
          clear hle hv
          go_wp2_with (with_reducible refine at_op 81 rfl ?_; with_reducible refine wpList_fn2 (by kernel_rfl) (.tmp 77) (.tmp 79) (.tmp 80) _ rfl lf lb rfl (.int .i64 ((x : Int) - 1)) (.int .i64 ((q : Int))) rfl rfl eg.out _ _ (hS.less hAk (i := x - 1) (j := q) (iv := (x : Int) - 1) (jv := (q : Int)) (by omega) (by omega) (by omega) (by omega) HLe.out) ?_; intro w6 hb6; have at6 := hS.keep hAk (hb6.mono (hS.blk hAk)); have hD6 := row_next2 hDk hb6; have hc06 := ls_less hD6; have hc16 := ls_swap hD6)
          go_meet
          case rel => exact ⟨rfl, at6, hbut.go hb6, hD6, HP⟩
        | false =>
          have hvv : v = true := by rw [← HV.out, hle]; simp; omega
          subst hvv
          have HLe := Lib.hid hle
          clear hle hv
          go_wp2_with (with_reducible refine at_op 81 rfl ?_; with_reducible refine wpList_fn2 (by kernel_rfl) (.tmp 77) (.tmp 79) (.tmp 80) _ rfl lf lb rfl (.int .i64 ((x : Int) - 1)) (.int .i64 ((q : Int))) rfl rfl eg.out _ _ (hS.less hAk (i := x - 1) (j := q) (iv := (x : Int) - 1) (jv := (q : Int)) (by omega) (by omega) (by omega) (by omega) HLe.out) ?_; intro w6 hb6; have at6 := hS.keep hAk (hb6.mono (hS.blk hAk)); have hD6 := row_next2 hDk hb6; have hc06 := ls_less hD6; have hc16 := ls_swap hD6)
          go_meet
          case rel => exact ⟨rfl, at6, hbut.go hb6, hD6, HP⟩
    case rest =>
    clear hc0 hc1 hAk hbut hDk HP hsz hv
    obtain ⟨rfl, hAk, hbut, hDk, HP⟩ := hcut
    have hc0 := ls_less hDk
    have hc1 := ls_swap hDk
    have hsz := hS.size hAk
    have hv := HV.out
    clear HV
    cases v with
    | true =>
      simp only [Bool.and_eq_true, decide_eq_true_eq, Bool.not_eq_true'] at hv
      obtain ⟨m7, d7, e7⟩ : ∃ m7 d7, partitionEqual lt d3 x y q = (m7, d7) := ⟨_, _, rfl⟩
      obtain ⟨hm3, hm4, hP7⟩ := HP.out.eq hO hv.1 hq1 hq2 (by omega) hv.2 e7
      have P7 := vlt hP7
      have E7 := vlt e7
      clear e7 hP7 hv
      go_wp2_with (go_at_call 81; with_reducible refine (speq_any hS d3 x y q (by omega) (by omega) (by omega) wc hAk hq1 hq2 hyn m7 d7 E7).mono ?_; rintro e w7 ⟨rfl, at7, hb7⟩; have hD7 := row_but2 hDk hb7 (by omega); have hc07 := ls_less hD7; have hc17 := ls_swap hD7)
      go_roundg (y - m7)
      case measure => omega
      case rel => exact ⟨m7, y, l1, _, _, d7, rfl, rfl, rfl, rfl, rfl, by omega, by omega, hm4, hyn, hl, at7, hbut.trans hb7, hD7, P7⟩
    | false =>
      clear hv
      obtain ⟨m, o5, d5, e5⟩ : ∃ m o5 d5, partition lt d3 x y q = (m, o5, d5) := ⟨_, _, _, rfl⟩
      have hpt := HP.out.part hO hq1 hq2 (by omega) e5
      obtain ⟨⟨hm1, hm2⟩, hL, hR⟩ := hpt
      have HL := vlt hL
      have HR := vlt hR
      have E5 := vlt e5
      clear hL hR e5
      by_cases hlr : m - x < y - m
      · have hlrz : (m : Int) - (x : Int) < (y : Int) - (m : Int) := by omega
        clear HR
        go_wp2_with (first | (go_at_call 82; with_reducible refine (spar_any hS d3 x y q (by omega) (by omega) (by omega) wc hAk hq1 hq2 hyn m o5 d5 E5).mono ?_; rintro e w5 ⟨rfl, at5, hb5⟩; have hD5 := row_but2 hDk hb5 (by omega); have hc05 := ls_less hD5; have hc15 := ls_swap hD5) | (go_at_call 56; with_reducible refine (IH.out d5 (x) (m) l1 (by omega) (by omega) (by omega) w5 at5 (by omega) (by omega) (by omega) (by omega) HL.out.1).mono ?_; rintro e w8 ⟨rfl, hr8, hb8⟩; obtain ⟨R8, at8, hR8⟩ := hr8; have hD8 := row_but2 hD5 hb8 (by omega); have hy0 := ls_less hD8; have hy1 := ls_swap hD8; have P8 := vlt (HL.out.2 R8 hR8); clear hR8))
        go_roundg (y - (m + 1))
        case measure => omega
        case rel => exact ⟨m + 1, y, l1, _, o5, R8, by first | go_num | exact congrArg (Value.int .i64) (by omega), by first | go_num | exact congrArg (Value.int .i64) (by omega), rfl, rfl, rfl, by omega, by omega, by omega, by omega, hl, at8, (hbut.trans hb5).trans hb8, hD8, P8⟩
      · have hlrz : ¬ (m : Int) - (x : Int) < (y : Int) - (m : Int) := by omega
        clear HL
        go_wp2_with (first | (go_at_call 82; with_reducible refine (spar_any hS d3 x y q (by omega) (by omega) (by omega) wc hAk hq1 hq2 hyn m o5 d5 E5).mono ?_; rintro e w5 ⟨rfl, at5, hb5⟩; have hD5 := row_but2 hDk hb5 (by omega); have hc05 := ls_less hD5; have hc15 := ls_swap hD5) | (go_at_call 56; with_reducible refine (IH.out d5 (m + 1) (y) l1 (by omega) (by omega) (by omega) w5 at5 (by omega) (by omega) (by omega) (by omega) HR.out.1).mono ?_; rintro e w8 ⟨rfl, hr8, hb8⟩; obtain ⟨R8, at8, hR8⟩ := hr8; have hD8 := row_but2 hD5 hb8 (by omega); have hy0 := ls_less hD8; have hy1 := ls_swap hD8; have P8 := vlt (HR.out.2 R8 hR8); clear hR8))
        go_roundg (m - (x))
        case measure => omega
        case rel => exact ⟨x, m, l1, _, o5, R8, by first | go_num | exact congrArg (Value.int .i64) (by omega), by first | go_num | exact congrArg (Value.int .i64) (by omega), rfl, rfl, rfl, by omega, by omega, by omega, by omega, hl, at8, (hbut.trans hb5).trans hb8, hD8, P8⟩
end Go.Proofs.Ytncjobhpiohkkaa
