/-
  Words and contracts that other texts share, several in one text. No statement of the seat is proved here. Conditions: as each contract says.
  slices.Insert at a book's edits: one edit put in. No statement is proved here. Conditions: the row is owned by no other; fewer than 2^30 edits.
  Contract of slices.Insert at a book's edits: one edit put in. No statement is proved here. Conditions: the row is owned by no other; fewer than 2^20 edits.
  Contract of slices.Insert at a book's edits: room is made in place. No statement is proved here. Conditions: the row is owned by no other; fewer than 2^20 edits.
  Contract of slices.Insert at a book's edits: a new row. No statement is proved here. Conditions: the row is owned by no other; fewer than 2^20 edits.
  Contracts of cmp's Compare and Or at whole numbers, of book's behind. Conditions: none.
  Contract of book's behind. Conditions: an edit with a vector of eight.
  Where an edit stands in a book: searched by halves. No statement is proved here. Conditions: none.
  Contract of slices.BinarySearchFunc at a book's edits. Conditions: they are in order; fewer than 2^40.
  Books in memory: the object, its row of edits, what is its own. No statement is proved here. Conditions: at most 500 edits.
  Steps of book's functions: a slice of one edit, a store into a cell; what badd answers. No statement is proved here. Conditions: as said.
  Contract of book's Add. Conditions: an edit with a vector of eight.
  Contract of law 17's texts. Conditions: fewer than 2^20 of them.
  Contract of book's rising. No statement is proved here. Conditions: texts in a row of one's own.
  Rows of texts of one's own, put behind one another and made to rise. No statement is proved here. Conditions: fewer than 2^20 of them.
  Contract of book's live, and of what it is made of. Conditions: an edit with a vector of eight.
  Edits sorted by op's Less: what sort's pdqsort_func is given. No statement is proved here. Conditions: the row lies in a block of its own.
  What the closure of All compares. Conditions: the row lies in a block of its own.
  Contract of sort.Slice at edits, compared by the closure of All. Conditions: the row lies in a block of its own.
-/
import Derived.Test.YtncjobhpiohkkaaPkA
import Derived.Lib.AppendZerosOnto
import Derived.Lib.Overlaps
import Derived.Deep.RegionLaw
import Derived.Test.YtncjobhpiohkkaaPkC
import Derived.Test.YtncjobhpiohkkaaPkB
import Derived.Test.YtncjobhpiohkkaaShl
import Derived.Sort.OwnSorted
import Derived.Lib.ReflectliteSwap
import Derived.Laws.Externs
import Derived.Sort.LotA
import Derived.Shelf.GgSortFunc.Slice
namespace Go.Proofs.Ytncjobhpiohkkaa
open Go.RowKit

theorem edit_info : (Try.prog.info? 32).map (fun i => (i.zero, i.size, i.bytes)) = some (some (.agg ed0.cells.toArray), 15, 144) := by kernel_rfl
/-- copy(dst, src), elements of any size, into a row whose cells are known. -/
theorem run_copy_big {P : Program} (w : World) (dT sT ty elem : TypeId) (g o dLen dCap : Nat) (a : Addr) (sLen sCap size : Nat) (cur : List Value) (t : TypeId) (cs : List Value) (k : Nat)
    (hu : P.underlying dT = some (.slice elem)) (hs : (P.info? elem).map (·.size) = some size) (hg : w.heap[g]? = some (.cells cur.toArray t (0, 0))) (hk : Nat.min sLen dLen = k) (hn : cs.length = k * size)
    (hsrc : ∀ j v, cs[j]? = some v → w.cell? (a.add j) = some v) (hfit : o + cs.length ≤ cur.length) (h1 : ∀ v ∈ cs, v.oneCell' = true) :
    (Builtin.copy_ #[dT, sT] ty #[.slice (some ⟨g, o, none⟩) dLen dCap, .slice (some a) sLen sCap]).run P w = .ok (goInt k) (w.setRow g (splice cur o cs).toArray) := by
  have hl := run_loadCells_list (P := P) w a cs hsrc
  have hst := run_storeCells_at P g o t cs 0 cur.toArray w hg (by simpa using hfit) h1
  cases hq : P.info? elem with
  | none => simp [hq] at hs
  | some i =>
    have hi : i.size = size := by simpa [hq] using hs
    simp [Builtin.copy_, run_underlying hu, Builtin.lenOf, Builtin.firstCells, sizeOf, typeInfo, hq, hi, hk, ← hn, hl, hst, splice]
theorem wpList_copy_is {P : Program} (w : World) {ops : Array Oper} {rest : List Oper} {o : Oper} {a : Act} {Q : Exit → Act → World → Prop} (hgd : o.guard = none) (d s : Operand) (t t' : TypeId)
    (ho : o.op = .call { callee := .builtin .copy, args := #[d, s], argTypes := #[t, t'] }) (v u : Value) (hd : a.eval d = v) (hs : a.eval s = u) {x : Value} {w' : World}
    (hr : (Builtin.copy_ #[t, t'] o.type #[v, u]).run P w = .ok x w') (h : wpList P ops Q rest (a.put o.dst x) w') : wpList P ops Q (o :: rest) a w := by
  refine wpList_plain hgd fun K hK => ?_
  unfold Oper.wp execOp
  simp only [ho, resolve, invoke, builtin, Sem.run_bind, Sem.run_pure, Result.andThen_ok, List.map_toArray, List.map_cons, List.map_nil, hd, hs, hr]
  exact hK _ _ h
theorem step_copy_is {P : Program} (w : World) {ops : Array Oper} {o : Oper} {a : Act} {K : Act → World → Prop} {Q : Exit → Act → World → Prop} {E : Prop} (hgd : o.guard = none) (d s : Operand) (t t' : TypeId)
    (ho : o.op = .call { callee := .builtin .copy, args := #[d, s], argTypes := #[t, t'] }) (v u : Value) (hd : a.eval d = v) (hs : a.eval s = u) {x : Value} {w' : World}
    (hr : (Builtin.copy_ #[t, t'] o.type #[v, u]).run P w = .ok x w') (h : K (a.put o.dst x) w') : if Region.wanted o (yielded ops a.tmps) = true then Oper.wp P o a w K Q else E := by
  rw [if_pos (show Region.wanted o (yielded ops a.tmps) = true by simp [Region.wanted, hgd])]
  unfold Oper.wp execOp
  simp only [ho, resolve, invoke, builtin, Sem.run_bind, Sem.run_pure, Result.andThen_ok, List.map_toArray, List.map_cons, List.map_nil, hd, hs, hr]
  exact h
theorem splice_len (l : List Value) (o : Nat) (cs : List Value) (h : o + cs.length ≤ l.length) : (splice l o cs).length = l.length := by
  unfold splice
  simp
  omega
theorem splice_at (A B C D : List Value) (o : Nat) (ho : A.length = o) (hl : B.length = D.length) : splice (A ++ (B ++ C)) o D = A ++ (D ++ C) := by
  subst ho
  unfold splice
  rw [List.take_left, ← List.drop_drop, List.drop_left, ← hl, List.drop_left]
/-- Room is made in place: what stood from i on moves up by one, the new one is put there. -/
theorem shift_row (A B R E : List Value) (o p : Nat) (ho : A.length = o) (hp : o + E.length = p) (hR : E.length ≤ R.length) :
    splice (splice (A ++ (B ++ R)) p B) o E = A ++ (E ++ (B ++ R.drop E.length)) := by
  subst ho hp
  obtain ⟨T, U, hT, hTl⟩ : ∃ T U, B ++ R = T ++ (U ++ R.drop E.length) ∧ T.length = E.length ∧ U.length = B.length := by
    refine ⟨(B ++ R).take E.length, ((B ++ R).drop E.length).take B.length, ?_, by simp; omega, by simp; omega⟩
    have h1 : R.drop E.length = ((B ++ R).drop E.length).drop B.length := by
      rw [List.drop_drop, Nat.add_comm, ← List.drop_drop, List.drop_left]
    rw [h1, List.take_append_drop, List.take_append_drop]
  have h1 := splice_at (A ++ T) U (R.drop E.length) B (A.length + E.length) (by simp [hTl.1]) (by rw [hTl.2])
  have h2 := splice_at A T (B ++ R.drop E.length) E A.length rfl (by rw [hTl.1])
  rw [List.append_assoc, List.append_assoc] at h1
  rw [hT, h1, h2]
end Go.Proofs.Ytncjobhpiohkkaa
namespace Go.Proofs.Ytncjobhpiohkkaa
open Go.RowKit

/-- What one more makes of a row. -/
def Put1 (w w' : World) (A : Option Addr) (n : Nat) (M : List Ed) (A' : Option Addr) (c' : Nat) : Prop :=
  w'.ownsRow 0 32 15 (.slice A' (n + 1) c') (n + 1) (flatE M) ∧ w.grownBy w' (A.map (·.block)) ∧ (∀ p, A' = some p → (∃ q, A = some q ∧ p.block = q.block) ∨ w.heap.size ≤ p.block)
theorem ed_cells_at {w : World} {g : Nat} {T : TypeId} {e : Ed} (h : w.heap[g]? = some (.cells e.cells.toArray T (0, 0))) : ∀ j u, e.cells[j]? = some u → w.cell? ((⟨g, 0, none⟩ : Addr).add j) = some u := fun j u hj => by
  rw [Addr.add_lit, cell_of_row _ _ _ _ _ _ h, Nat.zero_add]
  simpa using hj
section
variable {L : List Ed} {n c : Nat} {w : World} {e : Ed} {vb vc : Nat} (he : e.seen.length = 8) (hn : n ≤ 1048576)
include he hn
set_option maxRecDepth 100000 in
theorem insert_end {A : Option Addr} (hown : w.ownsRow 0 32 15 (.slice A n c) n (flatE L)) (hv : w.heap[vb]? = some (.cells e.cells.toArray 32 (0, 0))) :
    Calls Try.prog 29 #[.slice A n c, .int .i64 n, .slice (some ⟨vb, 0, none⟩) 1 vc] w fun x w' => ∃ A' c', x = .returned (.slice A' (n + 1) c') ∧ Put1 w w' A n (L ++ [e]) A' c' := by
  obtain ⟨A', c', w2, hrun, hown2, hgr, hpl, h5⟩ := append_big (P := Try.prog) (ty := 44) w Try.underlying44 edit_info (by kernel_rfl) (by omega) hown ⟨vb, 0, none⟩ 1 vc e.cells (by rw [Ed.cells_len he]) (ed_cells_at hv) (Ed.cells_one e) (by omega) (by omega)
  have VR := vlt hrun
  have VP : Vlt (Put1 w w2 A n (L ++ [e]) A' c') := vlt ⟨by rw [flatE_app]; simpa [flatE] using hown2, hgr, hpl⟩
  clear hrun hown2 hgr hpl h5
  have hA : A = none ∧ n = 0 ∧ c = 0 ∨ ∃ g, A = some ⟨g, 0, none⟩ ∧ n ≤ c ∧ c ≤ 9223372036854775807 := by
    rcases hown.2 with ⟨h, h0⟩ | ⟨g, cap, cur, h, _, _, h1, h2, _⟩
    · simp only [Value.slice.injEq] at h; exact .inl ⟨h.1, h0, h.2.2⟩
    · simp only [Value.slice.injEq] at h; unfold maxLen at h2; exact .inr ⟨g, h.1, by omega, by omega⟩
  clear hown hv
  rcases hA with ⟨rfl, rfl, rfl⟩ | ⟨g, rfl, hnc, hcm⟩
  all_goals
    go_enter Try.func29, Try.ntmps29
    go_wp2_with (at_builtin; refine Lib.wpList_append_run _ rfl _ _ _ _ rfl _ _ rfl rfl _ _ VR.out ?_)
  all_goals
    go_ret
    exact ⟨_, _, rfl, VP.out⟩
end
end Go.Proofs.Ytncjobhpiohkkaa
namespace Go.Proofs.Ytncjobhpiohkkaa
open Go.RowKit

theorem step_here {P : Program} {w w' : World} {v : Value} {x : Sem Value} (h : x.run P w = .ok v w') : x.run P w = .ok v w' := h
section
variable {L : List Ed} {n c : Nat} {w : World} {e : Ed} {vb vc g i : Nat} {R : List Value} (he : e.seen.length = 8) (hn : n ≤ 1048576) (hc : c ≤ maxLen) (hse : Se L) (hl : L.length = n) (hi : i < n)
include he hn hc hse hl hi
set_option maxRecDepth 100000 in
theorem insert_shift (hR : R.length = (c - n) * 15) (hroom : n + 1 ≤ c) (hg : w.heap[g]? = some (.cells (flatE L ++ R).toArray 32 (0, 0))) (hv : w.heap[vb]? = some (.cells e.cells.toArray 32 (0, 0))) (hne : vb ≠ g) :
    Calls Try.prog 29 #[.slice (some ⟨g, 0, none⟩) n c, .int .i64 i, .slice (some ⟨vb, 0, none⟩) 1 vc] w fun x w' => ∃ A' c', x = .returned (.slice A' (n + 1) c') ∧ Put1 w w' (some ⟨g, 0, none⟩) n (L.take i ++ e :: L.drop i) A' c' := by
  have hTl : (flatE (L.take i)).length = i * 15 := by rw [flatE_len (hse.take i), List.length_take, hl, Nat.min_eq_left (by omega)]
  have hDl : (flatE (L.drop i)).length = (n - i) * 15 := by rw [flatE_len (hse.drop i), List.length_drop, hl]
  have hEl : e.cells.length = 15 := Ed.cells_len he
  have hsplit : flatE L = flatE (L.take i) ++ flatE (L.drop i) := by rw [← flatE_app, List.take_append_drop]
  obtain ⟨T, hT⟩ : ∃ T, flatE (L.take i) = T := ⟨_, rfl⟩
  obtain ⟨D, hD⟩ : ∃ D, flatE (L.drop i) = D := ⟨_, rfl⟩
  have hD1 : ∀ v ∈ D, v.oneCell' = true := by rw [← hD]; exact flatE_one _
  rw [hT] at hTl hsplit
  rw [hD] at hDl hsplit
  rw [hsplit, List.append_assoc] at hg
  have hsz : (Try.prog.info? 32).map (·.size) = some 15 := by kernel_rfl
  obtain ⟨r1, hr1⟩ : ∃ r1, splice (T ++ (D ++ R)) ((i + 1) * 15) D = r1 := ⟨_, rfl⟩
  have hr1l : r1.length = c * 15 := by rw [← hr1, splice_len _ _ _ (by simp; omega)]; simp; omega
  have hr2 : splice r1 (i * 15) e.cells = flatE (L.take i ++ e :: L.drop i) ++ R.drop 15 := by
    rw [← hr1, shift_row T D R e.cells (i * 15) ((i + 1) * 15) hTl (by omega) (by omega), hEl, flatE_app, flatE, hT, hD]
    simp
  have hcp1 : ∀ ty dc sc, (Builtin.copy_ #[44, 44] ty #[.slice (some ⟨g, (i + 1) * 15, none⟩) (n - i) dc, .slice (some ⟨g, i * 15, none⟩) (n + 1 - i) sc]).run Try.prog w.drew = .ok (goInt ((n - i : Nat) : Int)) (w.drew.setRow g r1.toArray) := fun ty dc sc => by
    rw [← hr1]
    exact run_copy_big w.drew _ _ ty 32 g ((i + 1) * 15) (n - i) dc ⟨g, i * 15, none⟩ (n + 1 - i) sc 15 (T ++ (D ++ R)) 32 D (n - i) Try.underlying44 hsz hg (by simp only [Nat.min_def]; split <;> omega) hDl
      (fun j v hj => by
        have hjl := (List.getElem?_eq_some_iff.1 hj).1
        rw [Addr.add_lit, cell_of_row w.drew g _ _ _ _ hg]
        simp only [List.getElem?_toArray]
        rw [List.getElem?_append_right (by omega), List.getElem?_append_left (by omega), hTl, Nat.add_sub_cancel_left]
        exact hj) (by simp; omega) hD1
  obtain ⟨W1, hW1⟩ : ∃ W1, w.drew.setRow g r1.toArray = W1 := ⟨_, rfl⟩
  have hg1 : W1.heap[g]? = some (.cells r1.toArray 32 (0, 0)) := by rw [← hW1]; exact setRow_heap w.drew g _ _ _ _ hg
  have hv1 : W1.heap[vb]? = some (.cells e.cells.toArray 32 (0, 0)) := by rw [← hW1, setRow_other _ _ _ _ hne]; exact hv
  have hcp2 : ∀ ty dc, (Builtin.copy_ #[44, 44] ty #[.slice (some ⟨g, i * 15, none⟩) (n + 1 - i) dc, .slice (some ⟨vb, 0, none⟩) 1 vc]).run Try.prog W1 = .ok (goInt 1) (W1.setRow g (flatE (L.take i ++ e :: L.drop i) ++ R.drop 15).toArray) := fun ty dc => by
    rw [← hr2]
    exact run_copy_big W1 _ _ ty 32 g (i * 15) (n + 1 - i) dc ⟨vb, 0, none⟩ 1 vc 15 r1 32 e.cells 1 Try.underlying44 hsz hg1 (by simp only [Nat.min_def]; split <;> omega) (by omega) (ed_cells_at hv1) (by omega) (Ed.cells_one e)
  rw [hW1] at hcp1
  have hov : ∀ lb cb, (callFunc 44 #[.slice (some ⟨vb, 0, none⟩) 1 vc, .slice (some ⟨g, (i + 1) * 15, none⟩) lb cb]).run Try.prog w = .ok (.value (.bool false)) w := fun lb cb => by
    rw [run_callFunc_extern Try.func44 (by kernel_rfl) (by kernel_rfl) (by kernel_rfl) (e := Extern.SlicesOverlaps.overlaps #[44, 44] #[4]) (by kernel_rfl),
      Lib.run_overlaps_apart w 44 4 32 Try.underlying44 15 (fun w => by kernel_rfl) ⟨vb, 0, none⟩ ⟨g, (i + 1) * 15, none⟩ 1 vc lb cb hne 32 32 15 (c * 15)
        (by simp [World.shape?, hv, hEl]) (by simp [World.shape?, hg]; omega) (by omega) (by simp [World.frozen?, hv]) (by simp [World.frozen?, hv])]
    rfl
  have hfin : Put1 w (W1.setRow g (flatE (L.take i ++ e :: L.drop i) ++ R.drop 15).toArray) (some ⟨g, 0, none⟩) n (L.take i ++ e :: L.drop i) (some ⟨g, 0, none⟩) c := by
    have hFl : (flatE (L.take i ++ e :: L.drop i)).length = (n + 1) * 15 := by rw [flatE_app, flatE, hT, hD]; simp; omega
    refine ⟨⟨hFl, .inr ⟨g, c, _, rfl, Nat.zero_le _, setRow_heap _ _ _ _ _ _ hg1, hroom, hc, ?_, ?_⟩⟩, ⟨?_, ?_, ?_, ?_, ?_⟩, ?_⟩
    · simp; omega
    · rw [← hFl]; simp
    · rw [← hW1]; rfl
    · rw [← hW1]; rfl
    · rw [← hW1]; rfl
    · rw [← hW1]; simp
    · intro k hk hkn
      have hkg : k ≠ g := fun h => hkn (by rw [h]; rfl)
      rw [setRow_other _ _ _ _ hkg, ← hW1, setRow_other _ _ _ _ hkg]
      rfl
    · intro p hp; injection hp with hp; exact .inl ⟨_, rfl, by rw [← hp]⟩
  have V1 := vlt hcp1
  have V2 := vlt hcp2
  have VO := vlt hov
  have VF := vlt hfin
  have hcm : c ≤ 9223372036854775807 := by unfold maxLen at hc; omega
  have hw1 : IntKind.i64.wrap ((i : Int) + 1) = (i : Int) + 1 := by rw [IntKind.wrap_i64]; omega
  have hb1 : (0 : Int) ≤ (i : Int) + 1 := by omega
  have hin : i ≤ n := by omega
  have htn : ((i : Int) + 1).toNat = i + 1 := by omega
  have hb2 : ¬ (c = i + 1) := by omega
  have hb3 : (i : Int) ≤ (n : Int) + 1 := by omega
  have hb4 : ¬ (c = i) := by omega
  have hni : ¬ ((i : Int) = (n : Int)) := by omega
  clear hcp1 hcp2 hov hfin hg1 hv1 hW1 hr2 hr1l hr1 hsz hg hD1 hT hD hsplit hTl hDl hEl hc hv hse hl
  go_enter Try.func29, Try.ntmps29
  go_wp2_with (simp only [VO.out])
  go_region_law ((refine step_copy_is _ rfl (.tmp 73) (.tmp 76) 44 44 rfl (.slice (some ⟨g, (i + 1) * 15, none⟩) (n - i) (c - (i + 1))) (.slice (some ⟨g, i * 15, none⟩) (n + 1 - i) (c - i)) (by simp [Act.eval, Act.put]) (by simp [Act.eval, Act.put]) (V1.out _ _ _) ?_))
  go_wp2_with (refine wpList_copy_is _ rfl (.tmp 80) (.tmp 81) 44 44 rfl _ _ rfl rfl (V2.out _ _) ?_)
  go_ret
  exact ⟨_, _, rfl, VF.out⟩
end
end Go.Proofs.Ytncjobhpiohkkaa
namespace Go.Proofs.Ytncjobhpiohkkaa
open Go.RowKit

theorem grow_row (T Z Y D E : List Value) (o p : Nat) (ho : T.length = o) (hp : o + E.length = p) (hZ : Z.length = E.length + D.length) :
    splice (splice (T ++ (Z ++ Y)) o E) p D = T ++ (E ++ (D ++ Y)) := by
  subst ho hp
  obtain ⟨A, B, rfl, hA, hB⟩ : ∃ A B, Z = A ++ B ∧ A.length = E.length ∧ B.length = D.length := ⟨Z.take E.length, Z.drop E.length, by rw [List.take_append_drop], by simp; omega, by simp; omega⟩
  have h1 := splice_at T A (B ++ Y) E T.length rfl hA
  have h2 := splice_at (T ++ E) B Y D (T.length + E.length) (by simp) hB
  rw [List.append_assoc, List.append_assoc] at h2
  rw [List.append_assoc, h1, h2]
section
variable {L : List Ed} {n c : Nat} {w : World} {e : Ed} {vb vc g i : Nat} {R : List Value} (he : e.seen.length = 8) (hn : n ≤ 1048576) (hse : Se L) (hl : L.length = n) (hi : i < n)
include he hn hse hl hi
set_option maxHeartbeats 2000000 in
set_option maxRecDepth 100000 in
theorem insert_grow (hnc : n ≤ c) (hroom : c < n + 1) (hg : w.heap[g]? = some (.cells (flatE L ++ R).toArray 32 (0, 0))) (hv : w.heap[vb]? = some (.cells e.cells.toArray 32 (0, 0))) :
    Calls Try.prog 29 #[.slice (some ⟨g, 0, none⟩) n c, .int .i64 i, .slice (some ⟨vb, 0, none⟩) 1 vc] w fun x w' => ∃ A' c', x = .returned (.slice A' (n + 1) c') ∧ Put1 w w' (some ⟨g, 0, none⟩) n (L.take i ++ e :: L.drop i) A' c' := by
  have hTl : (flatE (L.take i)).length = i * 15 := by rw [flatE_len (hse.take i), List.length_take, hl, Nat.min_eq_left (by omega)]
  have hDl : (flatE (L.drop i)).length = (n - i) * 15 := by rw [flatE_len (hse.drop i), List.length_drop, hl]
  have hEl : e.cells.length = 15 := Ed.cells_len he
  have hsplit : flatE L = flatE (L.take i) ++ flatE (L.drop i) := by rw [← flatE_app, List.take_append_drop]
  obtain ⟨T, hT⟩ : ∃ T, flatE (L.take i) = T := ⟨_, rfl⟩
  obtain ⟨D, hD⟩ : ∃ D, flatE (L.drop i) = D := ⟨_, rfl⟩
  have hD1 : ∀ v ∈ D, v.oneCell' = true := by rw [← hD]; exact flatE_one _
  rw [hT] at hTl hsplit
  rw [hD] at hDl hsplit
  rw [hsplit, List.append_assoc] at hg
  obtain ⟨i0, hi0, hz0, hzs, hzb⟩ := info_parts edit_info
  have hsz : (Try.prog.info? 32).map (·.size) = some 15 := by rw [hi0]; simp [hzs]
  obtain ⟨z0, hz⟩ : ∃ z0, (Value.agg ed0.cells.toArray).cells = z0 := ⟨_, rfl⟩
  have hz0l : z0.size = 15 := by rw [← hz]; kernel_rfl
  have hgw : g < w.heap.size := (Array.getElem?_eq_some_iff.1 hg).1
  have hvw : vb < w.heap.size := (Array.getElem?_eq_some_iff.1 hv).1
  have hkk : (n : Int) + 1 - (i : Int) = ((n + 1 - i : Nat) : Int) := by omega
  have hik : i + (n + 1 - i) = n + 1 := by omega
  have hold : (Builtin.firstCells i0.size i (.slice (some ⟨g, 0, none⟩) i c)).run Try.prog w.drew = .ok T.toArray w.drew := by
    rw [hzs]
    exact run_firstCells_some w.drew 15 i ⟨g, 0, none⟩ i c T hTl (fun j v hj => by
      have hjl := (List.getElem?_eq_some_iff.1 hj).1
      rw [Addr.add_lit, cell_of_row w.drew g _ _ _ _ hg]
      simp only [List.getElem?_toArray, Nat.zero_add]
      rw [List.getElem?_append_left (by omega)]
      exact hj)
  obtain ⟨G, hG⟩ : ∃ G, grownCap w (n + 1) c 32 = G := ⟨_, rfl⟩
  have hGn : n + 1 ≤ G := by rw [← hG]; exact grownCap_ge w _ _ _
  have hGm : G ≤ maxLen := by rw [← hG]; exact grownCap_le_maxLen w (n + 1) c _ (by unfold maxLen; omega)
  have hG63 : G ≤ 9223372036854775807 := by unfold maxLen at hGm; omega
  have hrz : ∀ ty, (Builtin.append_ #[44, 3] ty #[.slice (some ⟨g, 0, none⟩) i c, .int .i64 ((n : Int) + 1 - (i : Int))]).run Try.prog w =
      .ok (.slice (some ⟨w.heap.size, 0, none⟩) (n + 1) G) (w.drew.alloc (.cells (T.toArray ++ Builtin.zeroCells z0 (n + 1 - i) ++ Builtin.zeroCells z0 (G - (n + 1))) 32)) := fun ty => by
    have h := Lib.run_append_grow_zeros w 44 3 ty 32 i0 _ .i64 .i64 Try.underlying44 Try.underlying3 hi0 hz0 (some ⟨g, 0, none⟩) i c T.toArray.toList (by simpa using hold) (n + 1 - i) (by omega) (by omega) (by omega) (by omega) (by rw [hzb]; omega) (by rw [hzb, hik]; exact growslice_fits hroom (by omega))
    rw [hik, hG, hz] at h
    rw [hkk]
    simpa using h
  obtain ⟨Z, hZ⟩ : ∃ Z, (Builtin.zeroCells z0 (n + 1 - i)).toList = Z := ⟨_, rfl⟩
  obtain ⟨Y, hY⟩ : ∃ Y, (Builtin.zeroCells z0 (G - (n + 1))).toList = Y := ⟨_, rfl⟩
  have hZl : Z.length = (n + 1 - i) * 15 := by rw [← hZ, Array.length_toList, size_zeroCells, hz0l]
  have hYl : Y.length = (G - (n + 1)) * 15 := by rw [← hY, Array.length_toList, size_zeroCells, hz0l]
  have hrow : T.toArray ++ Builtin.zeroCells z0 (n + 1 - i) ++ Builtin.zeroCells z0 (G - (n + 1)) = (T ++ (Z ++ Y)).toArray := by
    rw [← hZ, ← hY]
    simp
  rw [hrow] at hrz
  obtain ⟨N, hN⟩ : ∃ N, w.heap.size = N := ⟨_, rfl⟩
  obtain ⟨W1, hW1⟩ : ∃ W1, w.drew.alloc (.cells (T ++ (Z ++ Y)).toArray 32) = W1 := ⟨_, rfl⟩
  rw [hW1, hN] at hrz
  have hg1 : W1.heap[N]? = some (.cells (T ++ (Z ++ Y)).toArray 32 (0, 0)) := by rw [← hW1, ← hN]; exact heap_alloc_new w.drew _
  have hold1 : ∀ k, k < N → W1.heap[k]? = w.heap[k]? := fun k hk => by rw [← hW1]; exact heap_alloc_old w.drew _ (by rw [← hN] at hk; exact hk)
  obtain ⟨r1, hr1⟩ : ∃ r1, splice (T ++ (Z ++ Y)) (i * 15) e.cells = r1 := ⟨_, rfl⟩
  have hr1l : r1.length = G * 15 := by rw [← hr1, splice_len _ _ _ (by simp; omega)]; simp; omega
  have hr2 : splice r1 ((i + 1) * 15) D = flatE (L.take i ++ e :: L.drop i) ++ Y := by
    rw [← hr1, grow_row T Z Y D e.cells (i * 15) ((i + 1) * 15) hTl (by omega) (by omega), flatE_app, flatE, hT, hD]
    simp
  have hcp1 : ∀ ty dc, (Builtin.copy_ #[44, 44] ty #[.slice (some ⟨N, i * 15, none⟩) (n + 1 - i) dc, .slice (some ⟨vb, 0, none⟩) 1 vc]).run Try.prog W1 = .ok (goInt 1) (W1.setRow N r1.toArray) := fun ty dc => by
    rw [← hr1]
    exact run_copy_big W1 _ _ ty 32 N (i * 15) (n + 1 - i) dc ⟨vb, 0, none⟩ 1 vc 15 (T ++ (Z ++ Y)) 32 e.cells 1 Try.underlying44 hsz hg1 (by simp only [Nat.min_def]; split <;> omega) (by omega) (ed_cells_at (by rw [hold1 vb (by omega)]; exact hv)) (by simp; omega) (Ed.cells_one e)
  obtain ⟨W2, hW2⟩ : ∃ W2, W1.setRow N r1.toArray = W2 := ⟨_, rfl⟩
  rw [hW2] at hcp1
  have hg2 : W2.heap[N]? = some (.cells r1.toArray 32 (0, 0)) := by rw [← hW2]; exact setRow_heap W1 N _ _ _ _ hg1
  have hold2 : ∀ k, k < N → W2.heap[k]? = w.heap[k]? := fun k hk => by rw [← hW2, setRow_other _ _ _ _ (by omega)]; exact hold1 k hk
  have hcp2 : ∀ ty dc sc, (Builtin.copy_ #[44, 44] ty #[.slice (some ⟨N, (i + 1) * 15, none⟩) (n - i) dc, .slice (some ⟨g, i * 15, none⟩) (n - i) sc]).run Try.prog W2.drew = .ok (goInt ((n - i : Nat) : Int)) (W2.drew.setRow N (flatE (L.take i ++ e :: L.drop i) ++ Y).toArray) := fun ty dc sc => by
    rw [← hr2]
    have hgo : W2.drew.heap[g]? = _ := (hold2 g (by omega)).trans hg
    exact run_copy_big W2.drew _ _ ty 32 N ((i + 1) * 15) (n - i) dc ⟨g, i * 15, none⟩ (n - i) sc 15 r1 32 D (n - i) Try.underlying44 hsz hg2 (Nat.min_self _) hDl
      (fun j v hj => by
        have hjl := (List.getElem?_eq_some_iff.1 hj).1
        rw [Addr.add_lit, cell_of_row W2.drew g _ _ _ _ hgo]
        simp only [List.getElem?_toArray]
        rw [List.getElem?_append_right (by omega), List.getElem?_append_left (by omega), hTl, Nat.add_sub_cancel_left]
        exact hj) (by omega) hD1
  have hfin : Put1 w (W2.drew.setRow N (flatE (L.take i ++ e :: L.drop i) ++ Y).toArray) (some ⟨g, 0, none⟩) n (L.take i ++ e :: L.drop i) (some ⟨N, 0, none⟩) G := by
    have hFl : (flatE (L.take i ++ e :: L.drop i)).length = (n + 1) * 15 := by rw [flatE_app, flatE, hT, hD]; simp; omega
    refine ⟨⟨hFl, .inr ⟨N, G, _, rfl, Nat.zero_le _, setRow_heap W2.drew N _ _ _ _ hg2, hGn, hGm, ?_, ?_⟩⟩, ⟨?_, ?_, ?_, ?_, ?_⟩, ?_⟩
    · simp; omega
    · rw [← hFl]; simp
    · rw [← hW2, ← hW1]; rfl
    · rw [← hW2, ← hW1]; rfl
    · rw [← hW2, ← hW1]; rfl
    · rw [← hW2, ← hW1]; simp
    · intro k hk _
      rw [setRow_other _ _ _ _ (by omega)]
      exact hold2 k (by omega)
    · intro p hp; injection hp with hp; exact .inr (by rw [← hp, hN]; exact Nat.le_refl _)
  have V0 := vlt hrz
  have V1 := vlt hcp1
  have V2 := vlt hcp2
  have VF := vlt hfin
  have hcm : c ≤ 9223372036854775807 := by omega
  have hw1 : IntKind.i64.wrap ((i : Int) + 1) = (i : Int) + 1 := by rw [IntKind.wrap_i64]; omega
  have hb1 : (0 : Int) ≤ (i : Int) + 1 := by omega
  have hin : i ≤ n := by omega
  have htn : ((i : Int) + 1).toNat = i + 1 := by omega
  have hb2 : ¬ (G = i + 1) := by omega
  have hb3 : (i : Int) ≤ (n : Int) + 1 := by omega
  have hb3' : (i : Int) ≤ (n : Int) := by omega
  have hb4 : ¬ (c = i) := by omega
  have hb5 : ¬ (G = i) := by omega
  have hni : ¬ ((i : Int) = (n : Int)) := by omega
  have hgr : (c : Int) < (n : Int) + 1 := by omega
  clear hrz hcp1 hcp2 hfin hg1 hg2 hold1 hold2 hW1 hW2 hr2 hr1l hr1 hsz hg hD1 hT hD hsplit hTl hDl hEl hv hse hl hold hi0 hz0 hzs hzb hz hz0l hkk hik hG hGm hrow hZ hY hZl hYl hN hgw hvw
  go_enter Try.func29, Try.ntmps29
  go_wp2_with (first | (at_builtin; refine Lib.wpList_append_run _ rfl _ _ _ _ rfl _ _ rfl rfl _ _ (V0.out _) ?_) | (refine wpList_copy_is _ rfl (.tmp 43) (.tmp 44) 44 44 rfl _ _ rfl rfl (V1.out _ _) ?_))
  go_region_law ((refine step_copy_is _ rfl (.tmp 50) (.tmp 53) 44 44 rfl (.slice (some ⟨N, (i + 1) * 15, none⟩) (n - i) (G - (i + 1))) (.slice (some ⟨g, i * 15, none⟩) (n - i) (c - i)) (by simp [Act.eval, Act.put]) (by simp [Act.eval, Act.put]) (V2.out _ _ _) ?_))
  go_wp2
  go_ret
  exact ⟨_, _, rfl, VF.out⟩
end
end Go.Proofs.Ytncjobhpiohkkaa
namespace Go.Proofs.Ytncjobhpiohkkaa
open Go.RowKit

/-- Less, alike, greater. -/
def cmpZ (a b : Int) : Int := if a < b then -1 else if b < a then 1 else 0
theorem nan_any (a : Int) (w : World) : Calls Try.prog 57 #[.int .i64 a] w fun e w' => e = .returned (.bool false) ∧ w' = w := by
  go_enter Try.func57, Try.ntmps57
  go_wp2
  go_ret
  exact ⟨rfl, rfl⟩
theorem nan_any64 (a : Int) (w : World) : Calls Try.prog 58 #[.int .i64 a] w fun e w' => e = .returned (.bool false) ∧ w' = w := by
  go_enter Try.func58, Try.ntmps58
  go_wp2
  go_ret
  exact ⟨rfl, rfl⟩
theorem ccmp_any (a b : Int) (w : World) : Calls Try.prog 42 #[.int .i64 a, .int .i64 b] w fun e w' => e = .returned (.int .i64 (cmpZ a b)) ∧ w' = w := by
  by_cases h1 : a < b
  · have hc : cmpZ a b = -1 := if_pos h1
    go_enter Try.func42, Try.ntmps42
    go_wp2_with (go_at_call 57; refine (nan_any _ _).mono ?_; rintro e w1 ⟨rfl, rfl⟩)
    go_ret
    exact ⟨by rw [hc]; rfl, rfl⟩
  · by_cases h2 : b < a
    · have hc : cmpZ a b = 1 := by rw [cmpZ, if_neg h1, if_pos h2]
      go_enter Try.func42, Try.ntmps42
      go_wp2_with (go_at_call 57; refine (nan_any _ _).mono ?_; rintro e w1 ⟨rfl, rfl⟩)
      go_ret
      exact ⟨by rw [hc]; rfl, rfl⟩
    · have hc : cmpZ a b = 0 := by rw [cmpZ, if_neg h1, if_neg h2]
      go_enter Try.func42, Try.ntmps42
      go_wp2_with (go_at_call 57; refine (nan_any _ _).mono ?_; rintro e w1 ⟨rfl, rfl⟩)
      go_ret
      exact ⟨by rw [hc]; rfl, rfl⟩
theorem ccmp_any64 (a b : Int) (w : World) : Calls Try.prog 43 #[.int .i64 a, .int .i64 b] w fun e w' => e = .returned (.int .i64 (cmpZ a b)) ∧ w' = w := by
  by_cases h1 : a < b
  · have hc : cmpZ a b = -1 := if_pos h1
    go_enter Try.func43, Try.ntmps43
    go_wp2_with (go_at_call 58; refine (nan_any64 _ _).mono ?_; rintro e w1 ⟨rfl, rfl⟩)
    go_ret
    exact ⟨by rw [hc]; rfl, rfl⟩
  · by_cases h2 : b < a
    · have hc : cmpZ a b = 1 := by rw [cmpZ, if_neg h1, if_pos h2]
      go_enter Try.func43, Try.ntmps43
      go_wp2_with (go_at_call 58; refine (nan_any64 _ _).mono ?_; rintro e w1 ⟨rfl, rfl⟩)
      go_ret
      exact ⟨by rw [hc]; rfl, rfl⟩
    · have hc : cmpZ a b = 0 := by rw [cmpZ, if_neg h1, if_neg h2]
      go_enter Try.func43, Try.ntmps43
      go_wp2_with (go_at_call 58; refine (nan_any64 _ _).mono ?_; rintro e w1 ⟨rfl, rfl⟩)
      go_ret
      exact ⟨by rw [hc]; rfl, rfl⟩
/-- The first that is not nought. -/
def orZ (a b : Int) : Int := if a = 0 then b else a
theorem cor_any (a b : Int) (g : Nat) (w : World) (hg : Hid (w.heap[g]? = some (.cells #[.int .i64 a, .int .i64 b] 3 (0, 0)))) : Calls Try.prog 41 #[.slice (some ⟨g, 0, none⟩) 2 2] w fun e w' => e = .returned (.int .i64 (orZ a b)) ∧ w' = w := by
  have c0 : w.cell? ⟨g, 0, none⟩ = some (.int .i64 a) := by rw [cell_of_row _ _ _ _ _ _ hg.out]; rfl
  have c1 : w.cell? ⟨g, 1, none⟩ = some (.int .i64 b) := by rw [cell_of_row _ _ _ _ _ _ hg.out]; rfl
  go_enter Try.func41, Try.ntmps41
  go_wp2
  go_loopg [8] 3 (fun k s8 wr => ∃ (i : Nat), s8 = .int .i64 i ∧ 3 - i < k + 1 ∧ i ≤ 2 ∧ (1 ≤ i → a = 0) ∧ (2 ≤ i → b = 0) ∧ wr = w)
  case atStart => exact ⟨0, rfl, by omega, by omega, fun h => absurd h (by omega), fun h => absurd h (by omega), rfl⟩
  case round =>
    obtain ⟨i, rfl, hk, hi, ha, hb, rfl⟩ := hrel
    rcases (show i = 0 ∨ i = 1 ∨ i = 2 by omega) with rfl | rfl | rfl
    · by_cases h0 : a = 0
      · clear ha hb
        go_wp2
        go_roundg 2
        case measure => omega
        case rel => exact ⟨1, by go_num, by omega, by omega, fun _ => h0, fun h => absurd h (by omega), rfl⟩
      · have ho : orZ a b = a := if_neg h0
        clear ha hb
        go_wp2
        go_ret
        exact ⟨by rw [ho]; rfl, rfl⟩
    · have h0 := ha (by omega)
      have ho : orZ a b = b := if_pos h0
      clear ha hb
      by_cases h1 : b = 0
      · go_wp2
        go_roundg 1
        case measure => omega
        case rel => exact ⟨2, by go_num, by omega, by omega, fun _ => h0, fun _ => h1, rfl⟩
      · go_wp2
        go_ret
        exact ⟨by rw [ho]; rfl, rfl⟩
    · have h0 := ha (by omega)
      have h1 := hb (by omega)
      have ho : orZ a b = 0 := by rw [orZ, if_pos h0, h1]
      clear ha hb
      go_wp2
      go_ret
      exact ⟨by rw [ho]; rfl, rfl⟩
end Go.Proofs.Ytncjobhpiohkkaa
namespace Go.Proofs.Ytncjobhpiohkkaa
open Go.RowKit

/-- By device, then number. -/
def bhd (e : Ed) (d n : Int) : Int := orZ (cmpZ e.dev d) (cmpZ e.num n)
theorem below_same {w w' : World} (h : w' = w) : Below w.heap.size w w' := h ▸ Below.refl _ _
set_option maxRecDepth 100000 in
theorem behind_any (e : Ed) (d n : Int) (w : World) :
    Calls Try.prog 28 #[.agg e.cells.toArray, .agg #[.int .i64 d, .int .i64 n]] w fun x w' => x = .returned (.int .i64 (bhd e d n)) ∧ Below w.heap.size w w' := by
  obtain ⟨W, hW, hgA, hgB, hbW, hsW⟩ := pair_new w e.cells.toArray #[.int .i64 d, .int .i64 n] 32 28
  have HW := Lib.hid hW
  clear hW
  go_enter Try.func28, Try.ntmps28
  go_upto_region 1 with fail
  rw [HW.out]
  clear HW
  refine wp_region_held_drew (S := fun W' => Below W.heap.size W W') (by kernel_rfl) ((Below.refl _ _).drew) (fun hHeld => ?_)
  refine wpAnyH_take (i := 0) (oi := ⟨(some 5), _, _, _, _, _⟩) (v := .pointer (some ⟨w.heap.size, 0, none⟩)) rfl (by kernel_rfl) (by kernel_rfl) (by kernel_rfl) (fun _ _ _ h => h) (Or.inl ⟨by rfl, ?yr1_0⟩) hHeld ?_
  case yr1_0 => (intro W0 hSw; go_simp; try with_reducible rfl)
  try simp only [pu]
  refine wpAnyH_take (i := 1) (oi := ⟨(some 6), _, _, _, _, _⟩) (v := .pointer (some ⟨w.heap.size, 0, none⟩)) rfl (by kernel_rfl) (by kernel_rfl) (by kernel_rfl) (fun _ _ _ h => h) (Or.inl ⟨by rfl, ?yr1_1⟩) hHeld ?_
  case yr1_1 => (intro W0 hSw; go_simp; try with_reducible rfl)
  try simp only [pu]
  refine wpAnyH_take (i := 2) (oi := ⟨(some 7), _, _, _, _, _⟩) (v := .int .i64 e.dev) rfl (by kernel_rfl) (by kernel_rfl) (by kernel_rfl) (fun _ _ _ h => h) (Or.inl ⟨by rfl, ?yr1_2⟩) hHeld ?_
  case yr1_2 => (intro W0 hSw; have cc := ed_dev (row_next2 hgA hSw); go_simp; try with_reducible rfl)
  try simp only [pu]
  refine wpAnyH_take (i := 3) (oi := ⟨(some 8), _, _, _, _, _⟩) (v := .pointer (some ⟨w.heap.size + 1, 0, none⟩)) rfl (by kernel_rfl) (by kernel_rfl) (by kernel_rfl) (fun _ _ _ h => h) (Or.inl ⟨by rfl, ?yr1_3⟩) hHeld ?_
  case yr1_3 => (intro W0 hSw; go_simp; try with_reducible rfl)
  try simp only [pu]
  refine wpAnyH_take (i := 4) (oi := ⟨(some 9), _, _, _, _, _⟩) (v := .int .i64 d) rfl (by kernel_rfl) (by kernel_rfl) (by kernel_rfl) (fun _ _ _ h => h) (Or.inl ⟨by rfl, ?yr1_4⟩) hHeld ?_
  case yr1_4 => (intro W0 hSw; have cc : W0.cell? ⟨w.heap.size + 1, 0, none⟩ = some (.int .i64 d) := (by rw [cell_of_row _ _ _ _ _ _ (row_next2 hgB hSw).out]; rfl); go_simp; try with_reducible rfl)
  try simp only [pu]
  refine wpAnyH_take (i := 6) (oi := ⟨(some 11), _, _, _, _, _⟩) (v := .pointer (some ⟨w.heap.size, 0, none⟩)) rfl (by kernel_rfl) (by kernel_rfl) (by kernel_rfl) (fun _ _ _ h => h) (Or.inl ⟨by rfl, ?yr1_6⟩) hHeld ?_
  case yr1_6 => (intro W0 hSw; go_simp; try with_reducible rfl)
  try simp only [pu]
  refine wpAnyH_take (i := 7) (oi := ⟨(some 12), _, _, _, _, _⟩) (v := .pointer (some ⟨w.heap.size, 1, none⟩)) rfl (by kernel_rfl) (by kernel_rfl) (by kernel_rfl) (fun _ _ _ h => h) (Or.inl ⟨by rfl, ?yr1_7⟩) hHeld ?_
  case yr1_7 => (intro W0 hSw; go_simp; try with_reducible rfl)
  try simp only [pu]
  refine wpAnyH_take (i := 8) (oi := ⟨(some 13), _, _, _, _, _⟩) (v := .int .i64 e.num) rfl (by kernel_rfl) (by kernel_rfl) (by kernel_rfl) (fun _ _ _ h => h) (Or.inl ⟨by rfl, ?yr1_8⟩) hHeld ?_
  case yr1_8 => (intro W0 hSw; have cc := ed_num (row_next2 hgA hSw); go_simp; try with_reducible rfl)
  try simp only [pu]
  refine wpAnyH_take (i := 9) (oi := ⟨(some 14), _, _, _, _, _⟩) (v := .pointer (some ⟨w.heap.size + 1, 1, none⟩)) rfl (by kernel_rfl) (by kernel_rfl) (by kernel_rfl) (fun _ _ _ h => h) (Or.inl ⟨by rfl, ?yr1_9⟩) hHeld ?_
  case yr1_9 => (intro W0 hSw; go_simp; try with_reducible rfl)
  try simp only [pu]
  refine wpAnyH_take (i := 10) (oi := ⟨(some 15), _, _, _, _, _⟩) (v := .int .i64 n) rfl (by kernel_rfl) (by kernel_rfl) (by kernel_rfl) (fun _ _ _ h => h) (Or.inl ⟨by rfl, ?yr1_10⟩) hHeld ?_
  case yr1_10 => (intro W0 hSw; have cc : W0.cell? ⟨w.heap.size + 1, 1, none⟩ = some (.int .i64 n) := (by rw [cell_of_row _ _ _ _ _ _ (row_next2 hgB hSw).out]; rfl); go_simp; try with_reducible rfl)
  try simp only [pu]
  refine wpAnyH_ready (rs := [5]) (by kernel_rfl) (by simp) ?_
  refine AllReadyH.cons (i := 5) (o := ⟨(some 10), _, _, _, _, _⟩) rfl (fun K hK => ?_) AllReadyH.nil
  go_simp
  refine ((ccmp_any _ _ _).mono fun _ _ h => And.intro h.1 (below_same h.2)).mono ?_
  rintro e r1T1 ⟨rfl, hb1⟩
  have hS1 := below_next hHeld hHeld.size hb1
  have hgA_1 := row_next2 hgA hS1
  have hgB_1 := row_next2 hgB hS1
  have hbW_1 := below_next hbW hbW.size hS1
  refine hK.out _ _ hS1 (fun hHeld => ?_)
  try simp only [pu]
  refine held_more (S' := fun W' => Below r1T1.heap.size r1T1 W') (fun W h => hS1.trans (h.mono hS1.size)) _ _ _ _ ?_
  clear hHeld
  have hHeld := Below.refl r1T1.heap.size r1T1
  clear hK K hb1
  refine wpAnyH_ready (rs := [11]) (by kernel_rfl) (by simp) ?_
  refine AllReadyH.cons (i := 11) (o := ⟨(some 16), _, _, _, _, _⟩) rfl (fun K hK => ?_) AllReadyH.nil
  go_simp
  refine ((ccmp_any64 _ _ _).mono fun _ _ h => And.intro h.1 (below_same h.2)).mono ?_
  rintro e r1T2 ⟨rfl, hb2⟩
  have hS2 := below_next hHeld hHeld.size hb2
  have hgA_2 := row_next2 hgA_1 hS2
  have hgB_2 := row_next2 hgB_1 hS2
  have hbW_2 := below_next hbW_1 hbW_1.size hS2
  refine hK.out _ _ hS2 (fun hHeld => ?_)
  try simp only [pu]
  refine held_more (S' := fun W' => Below r1T2.heap.size r1T2 W') (fun W h => hS2.trans (h.mono hS2.size)) _ _ _ _ ?_
  clear hHeld
  have hHeld := Below.refl r1T2.heap.size r1T2
  clear hK K hb2
  refine wpAnyH_ready (rs := [12]) (by kernel_rfl) (by simp) ?_
  refine AllReadyH.cons (i := 12) (o := ⟨(some 17), _, _, _, _, _⟩) rfl (fun K hK => ?_) AllReadyH.nil
  go_simp
  obtain ⟨r1T3, hT3, hgN, hb3, _⟩ := one_new (r1T2) #[.int .i64 (cmpZ e.dev d), .int .i64 (cmpZ e.num n)] 3
  rw [hT3]
  clear hT3
  have hS3 := below_next hHeld hHeld.size hb3
  have hgA_3 := row_next2 hgA_2 hS3
  have hgB_3 := row_next2 hgB_2 hS3
  have hbW_3 := below_next hbW_2 hbW_2.size hS3
  refine hK.out _ _ hS3 (fun hHeld => ?_)
  try simp only [pu]
  refine held_more (S' := fun W' => Below r1T3.heap.size r1T3 W') (fun W h => hS3.trans (h.mono hS3.size)) _ _ _ _ ?_
  clear hHeld
  have hHeld := Below.refl r1T3.heap.size r1T3
  clear hK K hb3
  refine wpAnyH_ready (rs := [13]) (by kernel_rfl) (by simp) ?_
  refine AllReadyH.cons (i := 13) (o := ⟨(some 18), _, _, _, _, _⟩) rfl (fun K hK => ?_) AllReadyH.nil
  go_simp
  refine ((cor_any (cmpZ e.dev d) (cmpZ e.num n) _ _ (row_next2 hgN hHeld)).mono fun _ _ h => And.intro h.1 (below_same h.2)).mono ?_
  rintro e r1T4 ⟨rfl, hb4⟩
  have hS4 := below_next hHeld hHeld.size hb4
  have hgA_4 := row_next2 hgA_3 hS4
  have hgB_4 := row_next2 hgB_3 hS4
  have hbW_4 := below_next hbW_3 hbW_3.size hS4
  have hgN_4 := row_next2 hgN hS4
  refine hK.out _ _ hS4 (fun hHeld => ?_)
  try simp only [pu]
  refine held_more (S' := fun W' => Below r1T4.heap.size r1T4 W') (fun W h => hS4.trans (h.mono hS4.size)) _ _ _ _ ?_
  clear hHeld
  have hHeld := Below.refl r1T4.heap.size r1T4
  clear hK K hb4
  refine wpAnyH_take (i := 14) (oi := ⟨(some 4), _, _, _, _, _⟩) (v := .int .i64 (orZ (cmpZ e.dev d) (cmpZ e.num n))) rfl (by kernel_rfl) (by kernel_rfl) (by kernel_rfl) (fun _ _ _ h => h) (Or.inl ⟨by rfl, ?yr1_14⟩) hHeld ?_
  case yr1_14 => (intro W0 hSw; go_simp; try with_reducible rfl)
  try simp only [pu]
  refine wpAnyH_done (by kernel_rfl) ?_ _
  go_wp2
  go_ret
  exact ⟨rfl, below_next hbW_4 hbW_4.size hHeld⟩
end Go.Proofs.Ytncjobhpiohkkaa
namespace Go.Proofs.Ytncjobhpiohkkaa
open Go.RowKit

theorem cmpZ_neg {a b : Int} : cmpZ a b < 0 ↔ a < b := by
  unfold cmpZ
  split
  · simp_all
  · split <;> omega
theorem cmpZ_zero {a b : Int} : cmpZ a b = 0 ↔ a = b := by
  unfold cmpZ
  split
  · omega
  · split <;> omega
theorem bhd_neg (x e : Ed) : bhd x e.dev e.num < 0 ↔ elt x e = true := by
  rw [elt, decide_eq_true_iff, bhd, orZ]
  have h1 := @cmpZ_neg x.dev e.dev
  have h2 := @cmpZ_zero x.dev e.dev
  have h3 := @cmpZ_neg x.num e.num
  split <;> omega
theorem bhd_zero (x e : Ed) : bhd x e.dev e.num = 0 ↔ sdot x e := by
  rw [sdot, bhd, orZ]
  have h2 := @cmpZ_zero x.dev e.dev
  have h3 := @cmpZ_zero x.num e.num
  split <;> omega
/-- How many stand ahead of it. -/
def pel (L : List Ed) (e : Ed) : Nat := (L.takeWhile fun x => elt x e).length
theorem pel_le (L : List Ed) (e : Ed) : pel L e ≤ L.length := (List.takeWhile_sublist _).length_le
theorem pel_is {e : Ed} : ∀ {L : List Ed} {i : Nat}, i ≤ L.length → (∀ k (hk : k < L.length), k < i → elt L[k] e = true) → (∀ k (hk : k < L.length), i ≤ k → elt L[k] e = false) → pel L e = i
  | [], i, hi, _, _ => by simp at hi; simp [pel, hi]
  | x :: L, 0, _, _, h2 => by
    have := h2 0 (by simp) (Nat.le_refl _)
    simp only [List.getElem_cons_zero] at this
    simp [pel, this]
  | x :: L, i + 1, hi, h1, h2 => by
    have h0 := h1 0 (by simp) (by omega)
    simp only [List.getElem_cons_zero] at h0
    have ih := pel_is (L := L) (i := i) (e := e) (by simpa using hi) (fun k hk hki => by have := h1 (k + 1) (by simpa using hk) (by omega); simpa using this) (fun k hk hki => by have := h2 (k + 1) (by simpa using hk) (by omega); simpa using this)
    rw [pel] at ih ⊢
    simp [h0, ih]
section
variable {L : List Ed} (hp : L.Pairwise (fun a b => elt a b = true)) {e : Ed}
include hp
theorem elt_down {h k : Nat} (hh : h < L.length) (hk : k ≤ h) (he : elt L[h] e = true) : elt (L[k]'(by omega)) e = true := by
  rcases Nat.lt_or_eq_of_le hk with hlt | rfl
  · exact elt_strict.tr _ _ _ (List.pairwise_iff_getElem.1 hp k h (by omega) hh hlt) he
  · exact he
theorem elt_up {h k : Nat} (hk : k < L.length) (hhk : h ≤ k) (he : elt (L[h]'(by omega)) e = false) : elt L[k] e = false := by
  rcases Nat.lt_or_eq_of_le hhk with hlt | rfl
  · cases hc : elt L[k] e with
    | false => rfl
    | true => have := elt_strict.tr _ _ _ (List.pairwise_iff_getElem.1 hp h k (by omega) hk hlt) hc; rw [this] at he; cases he
  · exact he
/-- It is there, or it is not. -/
theorem pel_there : (∃ x ∈ L, sdot x e) ↔ ∃ x, L[pel L e]? = some x ∧ sdot x e := by
  constructor
  · rintro ⟨x, hx, hd⟩
    obtain ⟨k, hk, rfl⟩ := List.mem_iff_getElem.1 hx
    have hf : ∀ (y : Ed) , elt y L[k] = elt y e := fun y => by unfold elt; rw [hd.1, hd.2]
    have hpl : pel L e = k := pel_is (Nat.le_of_lt hk) (fun q hq hqk => by rw [← hf]; exact List.pairwise_iff_getElem.1 hp q k hq hk hqk) (fun q hq hqk => elt_up hp hq hqk (by rw [← hf]; exact elt_strict.irr _))
    exact ⟨L[k], by rw [hpl, List.getElem?_eq_getElem hk], hd⟩
  · rintro ⟨x, hx, hd⟩
    exact ⟨x, List.mem_of_getElem? hx, hd⟩
end
theorem ins_pel (L : List Ed) (e : Ed) : ins elt e L = L.take (pel L e) ++ e :: L.drop (pel L e) := by
  have h := List.takeWhile_append_dropWhile (p := fun x => elt x e) (l := L)
  have h1 : L.take (pel L e) = L.takeWhile fun x => elt x e := by
    have := List.take_left (l₁ := L.takeWhile fun x => elt x e) (l₂ := L.dropWhile fun x => elt x e)
    rw [h] at this
    exact this
  have h2 : L.drop (pel L e) = L.dropWhile fun x => elt x e := by
    have := List.drop_left (l₁ := L.takeWhile fun x => elt x e) (l₂ := L.dropWhile fun x => elt x e)
    rw [h] at this
    exact this
  rw [h1, h2, ins]
end Go.Proofs.Ytncjobhpiohkkaa
namespace Go.Proofs.Ytncjobhpiohkkaa
open Go.RowKit

/-- A slice of edits: its row begins with them. -/
def ER (w : World) (A : Option Addr) (L : List Ed) : Prop := L = [] ∨ ∃ G s, A = some ⟨G, 0, none⟩ ∧ Hid (w.heap[G]? = some (.cells (flatE L ++ s).toArray 32 (0, 0)))
theorem ER.next {w w' : World} {A : Option Addr} {L : List Ed} (h : ER w A L) (hb : Below w.heap.size w w') : ER w' A L := by
  rcases h with h | ⟨G, s, hA, hr⟩
  · exact .inl h
  · exact .inr ⟨G, s, hA, row_next2 hr hb⟩
theorem ER.at_ {w : World} {A : Option Addr} {L : List Ed} (h : ER w A L) (hk : 0 < L.length) : ∃ G s, A = some ⟨G, 0, none⟩ ∧ Hid (w.heap[G]? = some (.cells (flatE L ++ s).toArray 32 (0, 0))) := by
  rcases h with h | h
  · subst h; simp at hk
  · exact h
set_option maxRecDepth 100000 in
set_option maxHeartbeats 4000000 in
theorem search_any {A : Option Addr} {L : List Ed} {n c : Nat} (w : World) (hr : ER w A L) (hse : Se L) (hl : L.length = n) (hn : n ≤ 1099511627776) (hp : L.Pairwise (fun a b => elt a b = true)) (e : Ed) (o : Bool) (ho : (∃ x, L[pel L e]? = some x ∧ sdot x e) ↔ o = true) :
    Calls Try.prog 27 #[.slice A n c, .agg #[.int .i64 e.dev, .int .i64 e.num], .func (.func 28) #[] #[]] w fun x w' => x = .returned (.tuple #[.int .i64 ((pel L e : Nat) : Int), .bool o]) ∧ Below w.heap.size w w' := by
  obtain ⟨W, hW, hgD, hbW, hsW⟩ := one_new w #[.int .i64 e.dev, .int .i64 e.num] 28
  have HW := Lib.hid hW
  have hrW := hr.next hbW
  have HO := vlt ho
  have HP := vlt hp
  have HSE := vlt hse
  have HLN := Lib.hid hl
  have hsD := row_size hgD
  clear hW ho hp hse hr hl
  go_enter Try.func27, Try.ntmps27
  go_upto_region 1 with fail
  rw [HW.out]
  go_wp2
  go_loopg [9, 10] n (fun k s9 s10 wr => ∃ (i j : Nat), s9 = .int .i64 i ∧ s10 = .int .i64 j ∧ j - i < k + 1 ∧ i ≤ j ∧ j ≤ n ∧ Vlt (∀ q (hq : q < L.length), q < i → elt L[q] e = true) ∧ Vlt (∀ q (hq : q < L.length), j ≤ q → elt L[q] e = false) ∧ Below W.heap.size W wr)
  case atStart => exact ⟨0, n, rfl, rfl, by omega, by omega, Nat.le_refl _, vlt (fun q _ h => absurd h (by omega)), vlt (fun q hq h => absurd hq (by have := HLN.out; omega)), Below.refl _ _⟩
  case round =>
    obtain ⟨i, j, rfl, rfl, hk, hij, hjn, H1, H2, hb⟩ := hrel
    have hgd := row_next2 hgD hb
    have hrr := hrW.next hb
    by_cases hlt : i < j
    · have hltz : (i : Int) < (j : Int) := by omega
      obtain ⟨h, hh⟩ : ∃ h, (i + j) / 2 = h := ⟨_, rfl⟩
      have hhz : ((i : Int) + (j : Int)) / 2 = (h : Int) := by omega
      have h1 : i ≤ h := by omega
      have h2 : h < j := by omega
      obtain ⟨G, s, rfl, hrow⟩ := hrr.at_ (by rw [HLN.out]; omega)
      obtain ⟨x, hx⟩ : ∃ x, L[h]? = some x := ⟨_, List.getElem?_eq_getElem (by rw [HLN.out]; omega)⟩
      have HX := Lib.hid hx
      have hxe := vlt (List.getElem?_eq_some_iff.1 hx)
      have hx8 := Lib.hid (HSE.out.get hx)
      have hhn : h < n := by omega
      have hsr := row_size hrow
      clear hh hx
      go_upto_region 5 with fail
      refine wp_region_held_drew (S := fun W' => Below wr.heap.size wr W') (by kernel_rfl) ((Below.refl _ _).drew) (fun hHeld => ?_)
      refine wpAnyH_take (i := 0) (oi := ⟨(some 24), _, _, _, _, _⟩) (v := .func (.func 28) #[] #[]) rfl (by kernel_rfl) (by kernel_rfl) (by kernel_rfl) (fun _ _ _ h => h) (Or.inl ⟨by rfl, ?yr5_0⟩) hHeld ?_
      case yr5_0 => (intro W0 hSw; go_simp; try with_reducible rfl)
      try simp only [pu]
      refine wpAnyH_take (i := 1) (oi := ⟨(some 25), _, _, _, _, _⟩) (v := .slice (some ⟨G, 0, none⟩) n c) rfl (by kernel_rfl) (by kernel_rfl) (by kernel_rfl) (fun _ _ _ h => h) (Or.inl ⟨by rfl, ?yr5_1⟩) hHeld ?_
      case yr5_1 => (intro W0 hSw; go_simp; try with_reducible rfl)
      try simp only [pu]
      refine wpAnyH_take (i := 2) (oi := ⟨(some 26), _, _, _, _, _⟩) (v := .int .i64 (h : Int)) rfl (by kernel_rfl) (by kernel_rfl) (by kernel_rfl) (fun _ _ _ h => h) (Or.inl ⟨by rfl, ?yr5_2⟩) hHeld ?_
      case yr5_2 => (intro W0 hSw; go_simp; try with_reducible rfl)
      try simp only [pu]
      refine wpAnyH_take (i := 3) (oi := ⟨(some 27), _, _, _, _, _⟩) (v := .pointer (some ⟨G, (h) * 15, none⟩)) rfl (by kernel_rfl) (by kernel_rfl) (by kernel_rfl) (fun _ _ _ h => h) (Or.inl ⟨by rfl, ?yr5_3⟩) hHeld ?_
      case yr5_3 => (intro W0 hSw; go_simp; try with_reducible rfl)
      try simp only [pu]
      refine wpAnyH_take (i := 4) (oi := ⟨(some 28), _, _, _, _, _⟩) (v := .agg x.cells.toArray) rfl (by kernel_rfl) (by kernel_rfl) (by kernel_rfl) (fun _ _ _ h => h) (yieldsIf_load_mid (by rfl) _ _ rfl G ((h) * 15) rfl x.cells _ (fun W' hW' => edit_range ((row_next2 hrow hW').out) HSE.out HX.out) (Try.underlying32) rfl (by rw [Ed.cells_len hx8.out]; kernel_rfl)) hHeld ?_
      try simp only [pu]
      refine wpAnyH_take (i := 5) (oi := ⟨(some 29), _, _, _, _, _⟩) (v := .agg [.int .i64 e.dev, .int .i64 e.num].toArray) rfl (by kernel_rfl) (by kernel_rfl) (by kernel_rfl) (fun _ _ _ h => h) (yieldsIf_load_mid (by rfl) _ _ rfl w.heap.size 0 rfl [.int .i64 e.dev, .int .i64 e.num] _ (fun W' hW' => range_row (row_next2 hgd hW').out) (Try.underlying28) rfl (by kernel_rfl)) hHeld ?_
      try simp only [pu]
      refine wpAnyH_ready (rs := [6]) (by kernel_rfl) (by simp) ?_
      refine AllReadyH.cons (i := 6) (o := ⟨(some 30), _, _, _, _, _⟩) rfl (fun K hK => ?_) AllReadyH.nil
      go_simp
      refine (behind_any x e.dev e.num _).mono ?_
      rintro e r5W1 ⟨rfl, r5h1⟩
      refine hK.out _ _ (below_next hHeld hHeld.size r5h1) (fun hHeld => ?_)
      clear hK K r5h1
      try simp only [pu]
      refine wpAnyH_take (i := 7) (oi := ⟨(some 31), _, _, _, _, _⟩) (v := .bool (decide (bhd x e.dev e.num < 0))) rfl (by kernel_rfl) (by kernel_rfl) (by kernel_rfl) (fun _ _ _ h => h) (Or.inl ⟨by rfl, ?yr5_7⟩) hHeld ?_
      case yr5_7 => (intro W0 hSw; go_simp; try with_reducible rfl)
      try simp only [pu]
      refine wpAnyH_done (by kernel_rfl) ?_ _
      have hbb : Below W.heap.size W r5W1 := hb.trans ((below_next (Below.refl wr.heap.size wr) (Nat.le_refl _) hHeld).mono hb.size)
      by_cases hc : bhd x e.dev e.num < 0
      · have hce := (bhd_neg x e).1 hc
        go_wp2
        go_roundg (j - (h + 1))
        case measure => omega
        case rel => exact ⟨h + 1, j, by go_num, rfl, by omega, by omega, hjn, vlt (fun q hq hqi => elt_down HP.out (by have := HLN.out; omega) (show q ≤ h by omega) (by obtain ⟨hlt2, hxx⟩ := hxe.out; rw [hxx]; exact hce)), H2, hbb⟩
      · have hce : elt x e = false := by cases hq : elt x e with | false => rfl | true => exact absurd ((bhd_neg x e).2 hq) hc
        go_wp2
        go_roundg (h - i)
        case measure => omega
        case rel => exact ⟨i, h, rfl, by go_num, by omega, by omega, by omega, H1, vlt (fun q hq hqi => elt_up HP.out hq hqi (by obtain ⟨hlt2, hxx⟩ := hxe.out; rw [hxx]; exact hce)), hbb⟩
    · have hltz : ¬ (i : Int) < (j : Int) := by omega
      obtain rfl : i = j := by omega
      have hpl : pel L e = i := pel_is (by rw [HLN.out]; omega) H1.out H2.out
      have HP2 := vlt hpl
      rw [hpl] at HO
      clear hpl
      by_cases hin : i < n
      · have hinz : (i : Int) < (n : Int) := by omega
        obtain ⟨G, s, rfl, hrow⟩ := hrr.at_ (by rw [HLN.out]; omega)
        obtain ⟨x, hx⟩ : ∃ x, L[i]? = some x := ⟨_, List.getElem?_eq_getElem (by rw [HLN.out]; omega)⟩
        have HX := Lib.hid hx
        have hx8 := Lib.hid (HSE.out.get hx)
        have hsr := row_size hrow
        have hbo : (bhd x e.dev e.num = 0) ↔ o = true := by
          rw [← HO.out, hx]
          exact ⟨fun h => ⟨x, rfl, (bhd_zero x e).1 h⟩, fun ⟨_, h1, h2⟩ => by cases h1; exact (bhd_zero x e).2 h2⟩
        have hbo2 : decide (bhd x e.dev e.num = 0) = o := by
          cases o with
          | true => exact decide_eq_true (hbo.2 rfl)
          | false => exact decide_eq_false (fun h => Bool.false_ne_true (hbo.1 h))
        have HB := vlt hbo2
        clear hbo hbo2 hx
        go_upto_region 8 with fail
        refine wp_region_held_drew (S := fun W' => Below wr.heap.size wr W') (by kernel_rfl) ((Below.refl _ _).drew) (fun hHeld => ?_)
        refine wpAnyH_take (i := 0) (oi := ⟨(some 35), _, _, _, _, _⟩) (v := .int .i64 (i : Int)) rfl (by kernel_rfl) (by kernel_rfl) (by kernel_rfl) (fun _ _ _ h => h) (Or.inl ⟨by rfl, ?yr8_0⟩) hHeld ?_
        case yr8_0 => (intro W0 hSw; go_simp; try with_reducible rfl)
        try simp only [pu]
        refine wpAnyH_take (i := 1) (oi := ⟨(some 36), _, _, _, _, _⟩) (v := .int .i64 (i : Int)) rfl (by kernel_rfl) (by kernel_rfl) (by kernel_rfl) (fun _ _ _ h => h) (Or.inl ⟨by rfl, ?yr8_1⟩) hHeld ?_
        case yr8_1 => (intro W0 hSw; go_simp; try with_reducible rfl)
        try simp only [pu]
        refine wpAnyH_take (i := 2) (oi := ⟨(some 37), _, _, _, _, _⟩) (v := .int .i64 (n : Int)) rfl (by kernel_rfl) (by kernel_rfl) (by kernel_rfl) (fun _ _ _ h => h) (Or.inl ⟨by rfl, ?yr8_2⟩) hHeld ?_
        case yr8_2 => (intro W0 hSw; go_simp; try with_reducible rfl)
        try simp only [pu]
        refine wpAnyH_take (i := 3) (oi := ⟨(some 38), _, _, _, _, _⟩) (v := .bool true) rfl (by kernel_rfl) (by kernel_rfl) (by kernel_rfl) (fun _ _ _ h => h) (Or.inl ⟨by rfl, ?yr8_3⟩) hHeld ?_
        case yr8_3 => (intro W0 hSw; go_simp; try with_reducible rfl)
        try simp only [pu]
        refine wpAnyH_take (i := 4) (oi := ⟨(some 39), _, _, _, _, _⟩) (v := .bool true) rfl (by kernel_rfl) (by kernel_rfl) (by kernel_rfl) (fun _ _ _ h => h) (Or.inl ⟨by rfl, ?yr8_4⟩) hHeld ?_
        case yr8_4 => (intro W0 hSw; go_simp; try with_reducible rfl)
        try simp only [pu]
        refine wpAnyH_take (i := 5) (oi := ⟨(some 40), _, _, _, _, _⟩) (v := .func (.func 28) #[] #[]) rfl (by kernel_rfl) (by kernel_rfl) (by kernel_rfl) (fun _ _ _ h => h) (Or.inl ⟨by rfl, ?yr8_5⟩) hHeld ?_
        case yr8_5 => (intro W0 hSw; go_simp; try with_reducible rfl)
        try simp only [pu]
        refine wpAnyH_take (i := 6) (oi := ⟨(some 41), _, _, _, _, _⟩) (v := .slice (some ⟨G, 0, none⟩) n c) rfl (by kernel_rfl) (by kernel_rfl) (by kernel_rfl) (fun _ _ _ h => h) (Or.inl ⟨by rfl, ?yr8_6⟩) hHeld ?_
        case yr8_6 => (intro W0 hSw; go_simp; try with_reducible rfl)
        try simp only [pu]
        refine wpAnyH_take (i := 7) (oi := ⟨(some 42), _, _, _, _, _⟩) (v := .int .i64 (i : Int)) rfl (by kernel_rfl) (by kernel_rfl) (by kernel_rfl) (fun _ _ _ h => h) (Or.inl ⟨by rfl, ?yr8_7⟩) hHeld ?_
        case yr8_7 => (intro W0 hSw; go_simp; try with_reducible rfl)
        try simp only [pu]
        refine wpAnyH_take (i := 8) (oi := ⟨(some 43), _, _, _, _, _⟩) (v := .pointer (some ⟨G, (i) * 15, none⟩)) rfl (by kernel_rfl) (by kernel_rfl) (by kernel_rfl) (fun _ _ _ h => h) (Or.inl ⟨by rfl, ?yr8_8⟩) hHeld ?_
        case yr8_8 => (intro W0 hSw; go_simp; try with_reducible rfl)
        try simp only [pu]
        refine wpAnyH_take (i := 9) (oi := ⟨(some 44), _, _, _, _, _⟩) (v := .agg x.cells.toArray) rfl (by kernel_rfl) (by kernel_rfl) (by kernel_rfl) (fun _ _ _ h => h) (yieldsIf_load_mid (by rfl) _ _ rfl G ((i) * 15) rfl x.cells _ (fun W' hW' => edit_range ((row_next2 hrow hW').out) HSE.out HX.out) (Try.underlying32) rfl (by rw [Ed.cells_len hx8.out]; kernel_rfl)) hHeld ?_
        try simp only [pu]
        refine wpAnyH_take (i := 10) (oi := ⟨(some 45), _, _, _, _, _⟩) (v := .agg [.int .i64 e.dev, .int .i64 e.num].toArray) rfl (by kernel_rfl) (by kernel_rfl) (by kernel_rfl) (fun _ _ _ h => h) (yieldsIf_load_mid (by rfl) _ _ rfl w.heap.size 0 rfl [.int .i64 e.dev, .int .i64 e.num] _ (fun W' hW' => range_row (row_next2 hgd hW').out) (Try.underlying28) rfl (by kernel_rfl)) hHeld ?_
        try simp only [pu]
        refine wpAnyH_ready (rs := [11]) (by kernel_rfl) (by simp) ?_
        refine AllReadyH.cons (i := 11) (o := ⟨(some 46), _, _, _, _, _⟩) rfl (fun K hK => ?_) AllReadyH.nil
        go_simp
        refine (behind_any x e.dev e.num _).mono ?_
        rintro e r8W1 ⟨rfl, r8h1⟩
        refine hK.out _ _ (below_next hHeld hHeld.size r8h1) (fun hHeld => ?_)
        clear hK K r8h1
        try simp only [pu]
        refine wpAnyH_take (i := 12) (oi := ⟨(some 47), _, _, _, _, _⟩) (v := .bool o) rfl (by kernel_rfl) (by kernel_rfl) (by kernel_rfl) (fun _ _ _ h => h) (Or.inl ⟨by rfl, ?yr8_12⟩) hHeld ?_
        case yr8_12 => (intro W0 hSw; go_simp; first | (rw [← HB.out]; first | done | rfl) | skip)
        try simp only [pu]
        refine wpAnyH_take (i := 13) (oi := ⟨(some 48), _, _, _, _, _⟩) (v := .bool o) rfl (by kernel_rfl) (by kernel_rfl) (by kernel_rfl) (fun _ _ _ h => h) (Or.inl ⟨by rfl, ?yr8_13⟩) hHeld ?_
        case yr8_13 => (intro W0 hSw; go_simp; try with_reducible rfl)
        try simp only [pu]
        refine wpAnyH_take (i := 14) (oi := ⟨(some 6), _, _, _, _, _⟩) (v := .int .i64 (i : Int)) rfl (by kernel_rfl) (by kernel_rfl) (by kernel_rfl) (fun _ _ _ h => h) (Or.inl ⟨by rfl, ?yr8_14⟩) hHeld ?_
        case yr8_14 => (intro W0 hSw; go_simp; try with_reducible rfl)
        try simp only [pu]
        refine wpAnyH_take (i := 15) (oi := ⟨(some 7), _, _, _, _, _⟩) (v := .bool o) rfl (by kernel_rfl) (by kernel_rfl) (by kernel_rfl) (fun _ _ _ h => h) (Or.inl ⟨by rfl, ?yr8_15⟩) hHeld ?_
        case yr8_15 => (intro W0 hSw; go_simp; try with_reducible rfl)
        try simp only [pu]
        refine wpAnyH_done (by kernel_rfl) ?_ _
        have hbb : Below W.heap.size W r8W1 := hb.trans ((below_next (Below.refl wr.heap.size wr) (Nat.le_refl _) hHeld).mono hb.size)
        go_wp2
        go_ret2
        exact ⟨by rw [HP2.out]; rfl, hbW.trans (hbb.mono hbW.size)⟩
      · have hinz : ¬ (i : Int) < (n : Int) := by omega
        have hof : o = false := by
          cases ho : o with
          | false => rfl
          | true =>
            obtain ⟨x, h1, _⟩ := HO.out.2 ho
            have := (List.getElem?_eq_some_iff.1 h1).1
            rw [HLN.out] at this
            exact absurd this hin
        subst hof
        clear HO
        go_upto_region 8 with fail
        refine wp_region_held_drew (S := fun W' => Below wr.heap.size wr W') (by kernel_rfl) ((Below.refl _ _).drew) (fun hHeld => ?_)
        refine wpAnyH_take (i := 0) (oi := ⟨(some 35), _, _, _, _, _⟩) (v := .int .i64 (i : Int)) rfl (by kernel_rfl) (by kernel_rfl) (by kernel_rfl) (fun _ _ _ h => h) (Or.inl ⟨by rfl, ?yr8_0⟩) hHeld ?_
        case yr8_0 => (intro W0 hSw; go_simp; try with_reducible rfl)
        try simp only [pu]
        refine wpAnyH_take (i := 1) (oi := ⟨(some 36), _, _, _, _, _⟩) (v := .int .i64 (i : Int)) rfl (by kernel_rfl) (by kernel_rfl) (by kernel_rfl) (fun _ _ _ h => h) (Or.inl ⟨by rfl, ?yr8_1⟩) hHeld ?_
        case yr8_1 => (intro W0 hSw; go_simp; try with_reducible rfl)
        try simp only [pu]
        refine wpAnyH_take (i := 2) (oi := ⟨(some 37), _, _, _, _, _⟩) (v := .int .i64 (n : Int)) rfl (by kernel_rfl) (by kernel_rfl) (by kernel_rfl) (fun _ _ _ h => h) (Or.inl ⟨by rfl, ?yr8_2⟩) hHeld ?_
        case yr8_2 => (intro W0 hSw; go_simp; try with_reducible rfl)
        try simp only [pu]
        refine wpAnyH_take (i := 3) (oi := ⟨(some 38), _, _, _, _, _⟩) (v := .bool false) rfl (by kernel_rfl) (by kernel_rfl) (by kernel_rfl) (fun _ _ _ h => h) (Or.inl ⟨by rfl, ?yr8_3⟩) hHeld ?_
        case yr8_3 => (intro W0 hSw; go_simp; try with_reducible rfl)
        try simp only [pu]
        refine wpAnyH_take (i := 4) (oi := ⟨(some 39), _, _, _, _, _⟩) (v := .bool false) rfl (by kernel_rfl) (by kernel_rfl) (by kernel_rfl) (fun _ _ _ h => h) (Or.inl ⟨by rfl, ?yr8_4⟩) hHeld ?_
        case yr8_4 => (intro W0 hSw; go_simp; try with_reducible rfl)
        try simp only [pu]
        refine wpAnyH_take (i := 5) (oi := ⟨(some 40), _, _, _, _, _⟩) (v := undef) rfl (by kernel_rfl) (by kernel_rfl) (by kernel_rfl) (fun _ _ _ h => h) (Or.inr ⟨by rfl, rfl⟩) hHeld ?_
        try simp only [pu]
        refine wpAnyH_take (i := 6) (oi := ⟨(some 41), _, _, _, _, _⟩) (v := undef) rfl (by kernel_rfl) (by kernel_rfl) (by kernel_rfl) (fun _ _ _ h => h) (Or.inr ⟨by rfl, rfl⟩) hHeld ?_
        try simp only [pu]
        refine wpAnyH_take (i := 7) (oi := ⟨(some 42), _, _, _, _, _⟩) (v := undef) rfl (by kernel_rfl) (by kernel_rfl) (by kernel_rfl) (fun _ _ _ h => h) (Or.inr ⟨by rfl, rfl⟩) hHeld ?_
        try simp only [pu]
        refine wpAnyH_take (i := 8) (oi := ⟨(some 43), _, _, _, _, _⟩) (v := undef) rfl (by kernel_rfl) (by kernel_rfl) (by kernel_rfl) (fun _ _ _ h => h) (Or.inr ⟨by rfl, rfl⟩) hHeld ?_
        try simp only [pu]
        refine wpAnyH_take (i := 9) (oi := ⟨(some 44), _, _, _, _, _⟩) (v := undef) rfl (by kernel_rfl) (by kernel_rfl) (by kernel_rfl) (fun _ _ _ h => h) (Or.inr ⟨by rfl, rfl⟩) hHeld ?_
        try simp only [pu]
        refine wpAnyH_take (i := 10) (oi := ⟨(some 45), _, _, _, _, _⟩) (v := undef) rfl (by kernel_rfl) (by kernel_rfl) (by kernel_rfl) (fun _ _ _ h => h) (Or.inr ⟨by rfl, rfl⟩) hHeld ?_
        try simp only [pu]
        refine wpAnyH_take (i := 11) (oi := ⟨(some 46), _, _, _, _, _⟩) (v := undef) rfl (by kernel_rfl) (by kernel_rfl) (by kernel_rfl) (fun _ _ _ h => h) (Or.inr ⟨by rfl, rfl⟩) hHeld ?_
        try simp only [pu]
        refine wpAnyH_take (i := 12) (oi := ⟨(some 47), _, _, _, _, _⟩) (v := undef) rfl (by kernel_rfl) (by kernel_rfl) (by kernel_rfl) (fun _ _ _ h => h) (Or.inr ⟨by rfl, rfl⟩) hHeld ?_
        try simp only [pu]
        refine wpAnyH_take (i := 13) (oi := ⟨(some 48), _, _, _, _, _⟩) (v := .bool false) rfl (by kernel_rfl) (by kernel_rfl) (by kernel_rfl) (fun _ _ _ h => h) (Or.inl ⟨by rfl, ?yr8_13⟩) hHeld ?_
        case yr8_13 => (intro W0 hSw; go_simp; try with_reducible rfl)
        try simp only [pu]
        refine wpAnyH_take (i := 14) (oi := ⟨(some 6), _, _, _, _, _⟩) (v := .int .i64 (i : Int)) rfl (by kernel_rfl) (by kernel_rfl) (by kernel_rfl) (fun _ _ _ h => h) (Or.inl ⟨by rfl, ?yr8_14⟩) hHeld ?_
        case yr8_14 => (intro W0 hSw; go_simp; try with_reducible rfl)
        try simp only [pu]
        refine wpAnyH_take (i := 15) (oi := ⟨(some 7), _, _, _, _, _⟩) (v := .bool false) rfl (by kernel_rfl) (by kernel_rfl) (by kernel_rfl) (fun _ _ _ h => h) (Or.inl ⟨by rfl, ?yr8_15⟩) hHeld ?_
        case yr8_15 => (intro W0 hSw; go_simp; try with_reducible rfl)
        try simp only [pu]
        refine wpAnyH_done (by kernel_rfl) ?_ _
        have hbb : Below W.heap.size W _ := hb.trans (hHeld.mono hb.size)
        go_wp2
        go_ret2
        exact ⟨by rw [HP2.out]; rfl, hbW.trans (hbb.mono hbW.size)⟩
end Go.Proofs.Ytncjobhpiohkkaa
namespace Go.Proofs.Ytncjobhpiohkkaa
open Go.RowKit

/-- A slice of edits: its row begins with them. -/
theorem own_er {w : World} {A : Option Addr} {L : List Ed} {n c : Nat} (h : w.ownsRow 0 32 15 (.slice A n c) n (flatE L)) (hl : L.length = n) : ER w A L := by
  rcases h.2 with ⟨h1, h2⟩ | ⟨g, cap, cur, h1, _, hg, _, _, _, ht⟩
  · exact .inl (List.eq_nil_of_length_eq_zero (by omega))
  · simp only [Value.slice.injEq] at h1
    refine .inr ⟨g, cur.toList.drop (n * 15), h1.1, Lib.hid ?_⟩
    rw [← ht, List.take_append_drop]
    simpa using hg
theorem insert_any {L : List Ed} {n c : Nat} {w : World} {e : Ed} {vb vc i : Nat} {A : Option Addr} (he : e.seen.length = 8) (hn : n ≤ 1048576) (hse : Se L) (hl : L.length = n) (hi : i ≤ n)
    (hown : w.ownsRow 0 32 15 (.slice A n c) n (flatE L)) (hv : w.heap[vb]? = some (.cells e.cells.toArray 32 (0, 0))) (hne : ∀ p, A = some p → vb ≠ p.block) :
    Calls Try.prog 29 #[.slice A n c, .int .i64 i, .slice (some ⟨vb, 0, none⟩) 1 vc] w fun x w' => ∃ A' c', x = .returned (.slice A' (n + 1) c') ∧ Put1 w w' A n (L.take i ++ e :: L.drop i) A' c' := by
  rcases Nat.lt_or_eq_of_le hi with hlt | rfl
  · rcases hown.2 with ⟨h1, h2⟩ | ⟨g, cap, cur, h1, _, hg, h2, h3, h4, ht⟩
    · omega
    · simp only [Value.slice.injEq] at h1
      obtain ⟨rfl, _, rfl⟩ := h1
      have hg2 : w.heap[g]? = some (.cells (flatE L ++ cur.toList.drop (n * 15)).toArray 32 (0, 0)) := by
        rw [← ht, List.take_append_drop]
        simpa using hg
      by_cases hr : n + 1 ≤ c
      · refine insert_shift he hn h3 hse hl hlt ?_ hr hg2 hv (hne _ rfl)
        rw [List.length_drop, Array.length_toList, h4]
        omega
      · exact insert_grow he hn hse hl hlt h2 (by omega) hg2 hv
  · rw [← hl, List.take_length, List.drop_length, hl]
    exact insert_end he hn hown hv
/-- A book: its cell, its row; both lie in F. -/
def BkF (w : World) (F : Nat → Prop) (b : Nat) (L : List Ed) : Prop :=
  F b ∧ BGood L ∧ ∃ A c, Hid (w.heap[b]? = some (.cells #[.slice A L.length c] 59 (0, 0))) ∧ w.ownsRow 0 32 15 (.slice A L.length c) L.length (flatE L) ∧ (∀ p, A = some p → F p.block ∧ p.block ≠ b)
section
variable {w w' : World} {F G : Nat → Prop} {b : Nat} {L : List Ed}
theorem BGood.se (h : BGood L) : Se L := fun x hx => (h.good x hx).2
theorem BkF.lt (h : BkF w F b L) : b < w.heap.size := by
  obtain ⟨_, _, A, c, hr, _⟩ := h
  exact row_size hr
theorem own_lt {A : Option Addr} {n c : Nat} {xs : List Value} (h : w.ownsRow 0 32 15 (.slice A n c) n xs) : ∀ p, A = some p → p.block < w.heap.size := by
  rintro p rfl
  exact (h.lt p.block rfl).2
theorem own_next {A : Option Addr} {n c : Nat} {xs : List Value} (h : w.ownsRow 0 32 15 (.slice A n c) n xs) (hb : ∀ p, A = some p → w'.heap[p.block]? = w.heap[p.block]?) : w'.ownsRow 0 32 15 (.slice A n c) n xs := by
  refine ⟨h.1, ?_⟩
  rcases h.2 with h1 | ⟨g, cap, cur, hv, h2, hg, h3⟩
  · exact .inl h1
  · refine .inr ⟨g, cap, cur, hv, h2, ?_, h3⟩
    simp only [Value.slice.injEq] at hv
    rw [hb ⟨g, 0, none⟩ hv.1]
    exact hg
theorem BkF.mono (h : BkF w F b L) (hG : ∀ i, i < w.heap.size → F i → G i) : BkF w G b L := by
  obtain ⟨h1, h2, A, c, h3, h4, h5⟩ := h
  exact ⟨hG b (row_size h3) h1, h2, A, c, h3, h4, fun p hp => ⟨hG _ (own_lt h4 p hp) (h5 p hp).1, (h5 p hp).2⟩⟩
theorem BkF.off (h : BkF w F b L) (ho : Off G w w') (hd : ∀ i, i < w.heap.size → F i → ¬ G i) : BkF w' F b L := by
  obtain ⟨h1, h2, A, c, h3, h4, h5⟩ := h
  refine ⟨h1, h2, A, c, Lib.hid ?_, own_next h4 fun p hp => ho.block _ (own_lt h4 p hp) (hd _ (own_lt h4 p hp) (h5 p hp).1), h5⟩
  rw [ho.block b (row_size h3) (hd b (row_size h3) h1)]
  exact h3.out
theorem BkF.next (h : BkF w F b L) (hb : Below w.heap.size w w') : BkF w' F b L :=
  h.off (G := fun _ => False) (Off.of_below hb fun i hi hB => by omega) fun _ _ _ h => h
theorem BkF.er (h : BkF w F b L) : ∃ A c, Hid (w.heap[b]? = some (.cells #[.slice A L.length c] 59 (0, 0))) ∧ ER w A L := by
  obtain ⟨h1, h2, A, c, h3, h4, h5⟩ := h
  exact ⟨A, c, h3, own_er h4 rfl⟩
theorem BkF.good (h : BkF w F b L) : BGood L := h.2.1
end
end Go.Proofs.Ytncjobhpiohkkaa
namespace Go.Proofs.Ytncjobhpiohkkaa
open Go.RowKit

theorem fill_one (cs : List Value) (h : cs.length = 15) : Instr.fill (fun i => some (i * 15, 15)) ((Array.range 15).map ((Value.agg ed0.cells.toArray).cells[· % (Value.agg ed0.cells.toArray).cells.size]!)) [(0, .agg cs.toArray)] = some cs.toArray := by
  obtain ⟨a0, cs, rfl⟩ := List.exists_cons_of_length_eq_add_one h
  replace h : cs.length = 14 := by simp only [List.length_cons] at h; omega
  obtain ⟨a1, cs, rfl⟩ := List.exists_cons_of_length_eq_add_one h
  replace h : cs.length = 13 := by simp only [List.length_cons] at h; omega
  obtain ⟨a2, cs, rfl⟩ := List.exists_cons_of_length_eq_add_one h
  replace h : cs.length = 12 := by simp only [List.length_cons] at h; omega
  obtain ⟨a3, cs, rfl⟩ := List.exists_cons_of_length_eq_add_one h
  replace h : cs.length = 11 := by simp only [List.length_cons] at h; omega
  obtain ⟨a4, cs, rfl⟩ := List.exists_cons_of_length_eq_add_one h
  replace h : cs.length = 10 := by simp only [List.length_cons] at h; omega
  obtain ⟨a5, cs, rfl⟩ := List.exists_cons_of_length_eq_add_one h
  replace h : cs.length = 9 := by simp only [List.length_cons] at h; omega
  obtain ⟨a6, cs, rfl⟩ := List.exists_cons_of_length_eq_add_one h
  replace h : cs.length = 8 := by simp only [List.length_cons] at h; omega
  obtain ⟨a7, cs, rfl⟩ := List.exists_cons_of_length_eq_add_one h
  replace h : cs.length = 7 := by simp only [List.length_cons] at h; omega
  obtain ⟨a8, cs, rfl⟩ := List.exists_cons_of_length_eq_add_one h
  replace h : cs.length = 6 := by simp only [List.length_cons] at h; omega
  obtain ⟨a9, cs, rfl⟩ := List.exists_cons_of_length_eq_add_one h
  replace h : cs.length = 5 := by simp only [List.length_cons] at h; omega
  obtain ⟨a10, cs, rfl⟩ := List.exists_cons_of_length_eq_add_one h
  replace h : cs.length = 4 := by simp only [List.length_cons] at h; omega
  obtain ⟨a11, cs, rfl⟩ := List.exists_cons_of_length_eq_add_one h
  replace h : cs.length = 3 := by simp only [List.length_cons] at h; omega
  obtain ⟨a12, cs, rfl⟩ := List.exists_cons_of_length_eq_add_one h
  replace h : cs.length = 2 := by simp only [List.length_cons] at h; omega
  obtain ⟨a13, cs, rfl⟩ := List.exists_cons_of_length_eq_add_one h
  replace h : cs.length = 1 := by simp only [List.length_cons] at h; omega
  obtain ⟨a14, cs, rfl⟩ := List.exists_cons_of_length_eq_add_one h
  replace h : cs.length = 0 := by simp only [List.length_cons] at h; omega
  obtain rfl := List.eq_nil_of_length_eq_zero h
  first | (change _ = _; kernel_rfl) | simp [Instr.fill, Value.cells]
/-- The slice of one edit, made. -/
theorem step_one_edit {ops : Array Oper} {o : Oper} {a : Act} {w : World} {K : Act → World → Prop} {Q : Exit → Act → World → Prop} {E : Prop} (hgd : o.guard = none) (x : Operand) (ho : o.op = .buildSlice 44 1 #[(0, x)]) (e : Ed) (he : e.seen.length = 8) (hx : a.eval x = .agg e.cells.toArray)
    (h : ∀ N w', w'.heap[N]? = some (.cells e.cells.toArray 32 (0, 0)) → w.heap.size ≤ N → Below w.heap.size w w' → K (a.put o.dst (.slice (some ⟨N, 0, none⟩) 1 1)) w') :
    if Region.wanted o (yielded ops a.tmps) = true then Oper.wp Try.prog o a w K Q else E := by
  rw [if_pos (show Region.wanted o (yielded ops a.tmps) = true by simp [Region.wanted, hgd])]
  obtain ⟨i0, hi0, hz0, hzs, hzb⟩ := info_parts edit_info
  have hf := fill_one e.cells (Ed.cells_len he)
  have hrun : (Instr.buildSlice 44 1 #[(0, .agg e.cells.toArray)]).run Try.prog w = .ok (.slice (some ⟨w.heap.size, 0, none⟩) 1 1) (w.alloc (.cells e.cells.toArray 32)) := by
    simp [Instr.buildSlice, run_underlying Try.underlying44, sizeOf, typeInfo, zeroValue, hi0, hz0, hzs, hf, newRow]
  unfold Oper.wp execOp
  simp only [ho, List.map_toArray, List.map_cons, List.map_nil, hx, Sem.run_bind, hrun, Result.andThen_ok, Sem.run_pure]
  exact h _ _ (heap_alloc_new w _) (Nat.le_refl _) ((Below.refl _ _).alloc (Nat.le_refl _) _)
/-- A cell that a block consists of, stored anew. -/
theorem step_store_one {P : Program} {ops : Array Oper} {o : Oper} {a : Act} {w : World} {K : Act → World → Prop} {Q : Exit → Act → World → Prop} {E : Prop} (hgd : o.guard = none) (T : TypeId) (x y : Operand) (ho : o.op = .store T x y) (b : Nat) (A : Option Addr) (n c : Nat) (u : Value) (t : TypeId) (hx : a.eval x = .pointer (some ⟨b, 0, none⟩)) (hy : a.eval y = .slice A n c)
    (hi : (P.info? T).map (·.size) = some 1) (hg : w.heap[b]? = some (.cells #[u] t (0, 0))) (h : K (a.put o.dst undef) (w.setRow b #[.slice A n c])) :
    if Region.wanted o (yielded ops a.tmps) = true then Oper.wp P o a w K Q else E := by
  rw [if_pos (show Region.wanted o (yielded ops a.tmps) = true by simp [Region.wanted, hgd])]
  have hc : w.cell? ⟨b, 0, none⟩ = some u := by rw [cell_of_row _ _ _ _ _ _ hg]; rfl
  have hf : w.frozen? ⟨b, 0, none⟩ = false := frozen_of_row _ _ _ _ _ hg
  obtain ⟨i, hi', hi2⟩ := Option.map_eq_some_iff.1 hi
  have hst : (store ⟨b, 0, none⟩ (.slice A n c)).run P w = .ok () (w.setRow b #[.slice A n c]) := by
    rw [run_store P w _ (.slice A n c) _ rfl, hc]
    simp [hf, setCell_eq_setRow w b 0 #[u] t (0, 0) (.slice A n c) hg]
  unfold Oper.wp
  simp [execOp, ho, hx, hy, Instr.storeAt, Instr.sureAddr, storeVar, sizeOf, typeInfo, hi', hi2, Value.cells, storeCells, hst, addr_add]
  exact h
theorem row_off {G : Nat → Prop} {w w' : World} {c : Nat} {X : Obj} (h : Hid (w.heap[c]? = some X)) (ho : Off G w w') (hn : ¬ G c) : Hid (w'.heap[c]? = some X) := Lib.hid ((ho.block c (row_size h) hn).trans h.out)
section
variable {L : List Ed} {e : Ed}
theorem badd_bad (h : e.good = false) : badd L e = (L, 1) := by rw [badd, if_neg (by rw [h]; decide)]
variable (hg : e.good = true)
include hg
theorem badd_there {x : Ed} (h : L[pel L e]? = some x) (hx : x = e) : badd L e = (L, 0) := by
  rw [badd, if_pos hg, if_pos (hx ▸ List.mem_of_getElem? h)]
theorem badd_fork {x : Ed} (hL : BGood L) (h : L[pel L e]? = some x) (hd : sdot x e) (hx : x ≠ e) : badd L e = (L, 10) := by
  have hm := List.mem_of_getElem? h
  rw [badd, if_pos hg, if_neg (fun he => hx (hL.one hm he hd)), if_pos ⟨x, hm, hd⟩]
theorem badd_new (hL : BGood L) (h : ¬ ∃ x, L[pel L e]? = some x ∧ sdot x e) : badd L e = if 500 ≤ L.length then (L, 2) else (L.take (pel L e) ++ e :: L.drop (pel L e), 0) := by
  have hn : ¬ ∃ x ∈ L, sdot x e := fun hh => h ((pel_there hL.sorted).1 hh)
  rw [badd, if_pos hg, if_neg (fun he => hn ⟨e, he, rfl, rfl⟩), if_neg hn, ins_pel]
end
end Go.Proofs.Ytncjobhpiohkkaa
namespace Go.Proofs.Ytncjobhpiohkkaa
open Go.RowKit

theorem grown_off {w w' : World} {A : Option Addr} (h : w.grownBy w' (A.map (·.block))) : Off (fun i => ∃ q, A = some q ∧ q.block = i) w w' :=
  ⟨h.os, h.tape, h.output, h.size, fun k hk hn => h.block k hk (fun e => hn (by
    cases A with
    | none => simp at e
    | some q => exact ⟨q, rfl, by simpa using e.symm⟩))⟩
theorem add_end {w W5 W6 : World} {F : Nat → Prop} {b n c' : Nat} {A A' : Option Addr} {M : List Ed} {u : Value} (hF : F b) (hbl : b < w.heap.size) (h5 : Below w.heap.size w W5) (hput : Put1 W5 W6 A n M A' c') (hM : BGood M) (hl : M.length = n + 1)
    (hA : ∀ q, A = some q → F q.block ∧ q.block ≠ b) (hrow : W6.heap[b]? = some (.cells #[u] 59 (0, 0))) :
    BkF (W6.setRow b #[.slice A' (n + 1) c']) (fun i => F i ∨ w.heap.size ≤ i) b M ∧ Off F w (W6.setRow b #[.slice A' (n + 1) c']) := by
  have hA' : ∀ q, A' = some q → (F q.block ∨ w.heap.size ≤ q.block) ∧ q.block ≠ b := fun q hq => by
    rcases hput.2.2 q hq with ⟨r, hr, he⟩ | hge
    · rw [he]; exact ⟨.inl (hA r hr).1, (hA r hr).2⟩
    · have := h5.size; exact ⟨.inr (by omega), by omega⟩
  refine ⟨⟨.inl hF, hM, A', c', Lib.hid ?_, ?_, hA'⟩, Off.row (((Off.of_below h5 fun i h1 h2 => absurd h1 (by omega)).trans (grown_off hput.2.1) ?_)) (.inl hF) _⟩
  · rw [hl]; exact setRow_heap _ _ _ _ _ _ hrow
  · rw [hl]; exact own_next hput.1 fun q hq => setRow_other _ _ _ _ (hA' q hq).2
  · rintro i ⟨q, hq, rfl⟩
    exact .inl (hA q hq).1
set_option maxRecDepth 100000 in
set_option maxHeartbeats 4000000 in
theorem add_any {w : World} {F : Nat → Prop} {b : Nat} {L : List Ed} (hb : BkF w F b L) (e : Ed) (he : e.seen.length = 8) :
    Calls Try.prog 11 #[.pointer (some ⟨b, 0, none⟩), .agg e.cells.toArray] w fun x w' => x = .returned (.int .i64 (badd L e).2) ∧ BkF w' (fun i => F i ∨ w.heap.size ≤ i) b (badd L e).1 ∧ Off F w w' := by
  have same : ∀ w', Below w.heap.size w w' → BkF w' (fun i => F i ∨ w.heap.size ≤ i) b L ∧ Off F w w' := fun w' h => ⟨(hb.next h).mono fun i _ h => .inl h, Off.of_below h fun i hi hB => by omega⟩
  have VS := vlt same
  obtain ⟨hFb, hL, A, c, hcell, hown, hA⟩ := hb
  obtain ⟨W, hW, hgE, hbW, hsW⟩ := one_new w e.cells.toArray 32
  have HW := Lib.hid hW
  have hcW := row_next2 hcell hbW
  have hER := (own_er hown rfl).next hbW
  have HSE := vlt hL.se
  have HP := vlt hL.sorted
  have HL := vlt hL
  have hlt := row_size hcell
  have hfew := hL.few
  have HE := Lib.hid he
  obtain ⟨n, hn⟩ : ∃ n, L.length = n := ⟨_, rfl⟩
  obtain ⟨p, hp⟩ : ∃ p, pel L e = p := ⟨_, rfl⟩
  have hple : p ≤ n := by rw [← hp, ← hn]; exact pel_le L e
  have dS : ∀ (o : Bool), ((∃ x, L[p]? = some x ∧ sdot x e) ↔ o = true) → ∀ w', ER w' A L → Calls Try.prog 27 #[.slice A n c, .agg #[.int .i64 e.dev, .int .i64 e.num], .func (.func 28) #[] #[]] w' fun x w2 => x = .returned (.tuple #[.int .i64 (p : Int), .bool o]) ∧ Below w'.heap.size w' w2 := fun o ho w' hw' => by
    have := search_any w' (c := c) hw' hL.se hn (by omega) hL.sorted e o (by rw [hp]; exact ho)
    rwa [hp] at this
  have HN := Lib.hid hn
  have HPE := vlt hp
  rw [hn] at hcell hcW hown hfew
  have HO := vlt hown
  have HA := vlt hA
  have VW := vlt hFb
  clear hW same hL he hp hn hown hA hFb
  cases hgood : e.good with
  | false =>
    have dG : ∀ w', Calls Try.prog 23 #[.agg e.cells.toArray] w' fun x w2 => x = .returned (.bool false) ∧ Below w'.heap.size w' w2 := fun w' => by
      have := ogood_any w' e HE.out
      rwa [hgood] at this
    have hba := badd_bad (L := L) hgood
    have VB := vlt hba
    clear hba hgood
    go_enter Try.func11, Try.ntmps11
    go_upto_region 1 with fail
    rw [HW.out]
    refine plain_start (S := fun W' => Below W.heap.size W W') (by kernel_rfl) (Below.refl _ _) (fun hHeld => ?_)
    refine wpAnyH_take (i := 0) (oi := ⟨(some 7), _, _, _, _, _⟩) (v := .agg e.cells.toArray) rfl (by kernel_rfl) (by kernel_rfl) (by kernel_rfl) (fun _ _ _ h => h) (yieldsIf_load_mid (by rfl) _ _ rfl (w.heap.size) 0 rfl e.cells _ (fun W' hW' => ed_allR (row_next2 hgE hW')) (Try.underlying32) rfl (by rw [Ed.cells_len HE.out]; kernel_rfl)) hHeld ?_
    try simp only [pu]
    refine wpAnyH_ready (rs := [1]) (by kernel_rfl) (by simp) ?_
    refine AllReadyH.cons (i := 1) (o := ⟨(some 8), _, _, _, _, _⟩) rfl (fun K hK => ?_) AllReadyH.nil
    go_simp
    refine (dG _).mono ?_
    rintro e r1W1 ⟨rfl, r1h1⟩
    refine hK.out _ _ (below_next hHeld hHeld.size r1h1) (fun hHeld => ?_)
    clear hK K r1h1
    try simp only [pu]
    refine wpAnyH_take (i := 2) (oi := ⟨(some 9), _, _, _, _, _⟩) (v := .bool true) rfl (by kernel_rfl) (by kernel_rfl) (by kernel_rfl) (fun _ _ _ h => h) (Or.inl ⟨by rfl, ?yr1_2⟩) hHeld ?_
    case yr1_2 => (intro W0 hSw; go_simp; try with_reducible rfl)
    try simp only [pu]
    refine wpAnyH_done (by kernel_rfl) ?_ _
    go_wp2
    go_ret
    rw [VB.out]
    exact ⟨rfl, VS.out _ (below_next hbW hbW.size hHeld)⟩
  | true =>
    have dG : ∀ w', Calls Try.prog 23 #[.agg e.cells.toArray] w' fun x w2 => x = .returned (.bool true) ∧ Below w'.heap.size w' w2 := fun w' => by
      have := ogood_any w' e HE.out
      rwa [hgood] at this
    have HG := vlt hgood
    clear hgood
    go_enter Try.func11, Try.ntmps11
    go_upto_region 1 with fail
    rw [HW.out]
    refine plain_start (S := fun W' => Below W.heap.size W W') (by kernel_rfl) (Below.refl _ _) (fun hHeld => ?_)
    refine wpAnyH_take (i := 0) (oi := ⟨(some 7), _, _, _, _, _⟩) (v := .agg e.cells.toArray) rfl (by kernel_rfl) (by kernel_rfl) (by kernel_rfl) (fun _ _ _ h => h) (yieldsIf_load_mid (by rfl) _ _ rfl (w.heap.size) 0 rfl e.cells _ (fun W' hW' => ed_allR (row_next2 hgE hW')) (Try.underlying32) rfl (by rw [Ed.cells_len HE.out]; kernel_rfl)) hHeld ?_
    try simp only [pu]
    refine wpAnyH_ready (rs := [1]) (by kernel_rfl) (by simp) ?_
    refine AllReadyH.cons (i := 1) (o := ⟨(some 8), _, _, _, _, _⟩) rfl (fun K hK => ?_) AllReadyH.nil
    go_simp
    refine (dG _).mono ?_
    rintro e r1W1 ⟨rfl, r1h1⟩
    refine hK.out _ _ (below_next hHeld hHeld.size r1h1) (fun hHeld => ?_)
    clear hK K r1h1
    try simp only [pu]
    refine wpAnyH_take (i := 2) (oi := ⟨(some 9), _, _, _, _, _⟩) (v := .bool false) rfl (by kernel_rfl) (by kernel_rfl) (by kernel_rfl) (fun _ _ _ h => h) (Or.inl ⟨by rfl, ?yr1_2⟩) hHeld ?_
    case yr1_2 => (intro W0 hSw; go_simp; try with_reducible rfl)
    try simp only [pu]
    refine wpAnyH_done (by kernel_rfl) ?_ _
    have hgE1 := row_next2 hgE hHeld
    have hc1 := row_next2 hcW hHeld
    have hER1 := hER.next hHeld
    have hb1 := below_next hbW hbW.size hHeld
    clear hHeld
    by_cases hth : ∃ x, L[p]? = some x ∧ sdot x e
    · replace dS := dS true ⟨fun _ => rfl, fun _ => hth⟩
      obtain ⟨x, hx, hd⟩ := hth
      have hpn : p < n := by have := (List.getElem?_eq_some_iff.1 hx).1; rwa [HN.out] at this
      have HX := Lib.hid hx
      have HX8 := Lib.hid (HSE.out.get hx)
      have HD := vlt hd
      clear hx hd
      go_upto_region 3 with fail
      refine wp_region_held_drew (S := fun W' => Below r1W1.heap.size r1W1 W') (by kernel_rfl) ((Below.refl _ _).drew) (fun hHeld => ?_)
      refine wpAnyH_take (i := 0) (oi := ⟨(some 11), _, _, _, _, _⟩) (v := ?vyr3_0) rfl (by kernel_rfl) (by kernel_rfl) (by kernel_rfl) (fun _ _ _ h => h) (Or.inl ⟨by rfl, ?yr3_0⟩) hHeld ?_
      case yr3_0 => (intro W0 hSw; go_simp; try with_reducible rfl)
      try simp only [pu]
      refine wpAnyH_take (i := 1) (oi := ⟨(some 12), _, _, _, _, _⟩) (v := ?vyr3_1) rfl (by kernel_rfl) (by kernel_rfl) (by kernel_rfl) (fun _ _ _ h => h) (Or.inl ⟨by rfl, ?yr3_1⟩) hHeld ?_
      case yr3_1 => (intro W0 hSw; go_simp; try with_reducible rfl)
      try simp only [pu]
      refine wpAnyH_take (i := 2) (oi := ⟨(some 13), _, _, _, _, _⟩) (v := ?vyr3_2) rfl (by kernel_rfl) (by kernel_rfl) (by kernel_rfl) (fun _ _ _ h => h) (Or.inl ⟨by rfl, ?yr3_2⟩) hHeld ?_
      case yr3_2 => (intro W0 hSw; go_simp; try with_reducible rfl)
      try simp only [pu]
      refine wpAnyH_take (i := 3) (oi := ⟨(some 14), _, _, _, _, _⟩) (v := .slice A n c) rfl (by kernel_rfl) (by kernel_rfl) (by kernel_rfl) (fun _ _ _ h => h) (Or.inl ⟨by rfl, ?yr3_3⟩) hHeld ?_
      case yr3_3 => (intro W0 hSw; have cc := s_cell (row_next2 hc1 hSw); go_simp; try with_reducible rfl)
      try simp only [pu]
      refine wpAnyH_take (i := 4) (oi := ⟨(some 15), _, _, _, _, _⟩) (v := .pointer (some ⟨w.heap.size, 0, none⟩)) rfl (by kernel_rfl) (by kernel_rfl) (by kernel_rfl) (fun _ _ _ h => h) (Or.inl ⟨by rfl, ?yr3_4⟩) hHeld ?_
      case yr3_4 => (intro W0 hSw; go_simp; try with_reducible rfl)
      try simp only [pu]
      refine wpAnyH_take (i := 5) (oi := ⟨(some 16), _, _, _, _, _⟩) (v := .agg [.int .i64 e.dev, .int .i64 e.num].toArray) rfl (by kernel_rfl) (by kernel_rfl) (by kernel_rfl) (fun _ _ _ h => h) (yieldsIf_load_mid (by rfl) _ _ rfl (w.heap.size) 0 rfl [.int .i64 e.dev, .int .i64 e.num] _ (fun W' hW' => ed_dotR (row_next2 hgE1 hW')) (Try.underlying28) rfl (by kernel_rfl)) hHeld ?_
      try simp only [pu]
      refine wpAnyH_ready (rs := [6]) (by kernel_rfl) (by simp) ?_
      refine AllReadyH.cons (i := 6) (o := ⟨(some 17), _, _, _, _, _⟩) rfl (fun K hK => ?_) AllReadyH.nil
      go_simp
      refine (dS _ (hER1.next hHeld)).mono ?_
      rintro e r3W1 ⟨rfl, r3h1⟩
      refine hK.out _ _ (below_next hHeld hHeld.size r3h1) (fun hHeld => ?_)
      clear hK K r3h1
      try simp only [pu]
      refine wpAnyH_take (i := 7) (oi := ⟨(some 10), _, _, _, _, _⟩) (v := .tuple #[.int .i64 (p : Int), .bool true]) rfl (by kernel_rfl) (by kernel_rfl) (by kernel_rfl) (fun _ _ _ h => h) (Or.inl ⟨by rfl, ?yr3_7⟩) hHeld ?_
      case yr3_7 => (intro W0 hSw; go_simp; try with_reducible rfl)
      try simp only [pu]
      refine wpAnyH_take (i := 8) (oi := ⟨(some 18), _, _, _, _, _⟩) (v := .int .i64 (p : Int)) rfl (by kernel_rfl) (by kernel_rfl) (by kernel_rfl) (fun _ _ _ h => h) (Or.inl ⟨by rfl, ?yr3_8⟩) hHeld ?_
      case yr3_8 => (intro W0 hSw; go_simp; try with_reducible rfl)
      try simp only [pu]
      refine wpAnyH_take (i := 9) (oi := ⟨(some 19), _, _, _, _, _⟩) (v := .bool true) rfl (by kernel_rfl) (by kernel_rfl) (by kernel_rfl) (fun _ _ _ h => h) (Or.inl ⟨by rfl, ?yr3_9⟩) hHeld ?_
      case yr3_9 => (intro W0 hSw; go_simp; try with_reducible rfl)
      try simp only [pu]
      refine wpAnyH_take (i := 10) (oi := ⟨(some 5), _, _, _, _, _⟩) (v := .int .i64 (p : Int)) rfl (by kernel_rfl) (by kernel_rfl) (by kernel_rfl) (fun _ _ _ h => h) (Or.inl ⟨by rfl, ?yr3_10⟩) hHeld ?_
      case yr3_10 => (intro W0 hSw; go_simp; try with_reducible rfl)
      try simp only [pu]
      refine wpAnyH_take (i := 11) (oi := ⟨(some 6), _, _, _, _, _⟩) (v := .bool true) rfl (by kernel_rfl) (by kernel_rfl) (by kernel_rfl) (fun _ _ _ h => h) (Or.inl ⟨by rfl, ?yr3_11⟩) hHeld ?_
      case yr3_11 => (intro W0 hSw; go_simp; try with_reducible rfl)
      try simp only [pu]
      refine wpAnyH_done (by kernel_rfl) ?_ _
      have hgE2 := row_next2 hgE1 hHeld
      have hc2 := row_next2 hc1 hHeld
      have hER2 := hER1.next hHeld
      have hb2 := below_next hb1 hb1.size hHeld
      clear hHeld
      obtain ⟨G, s, rfl, hrow⟩ := hER2.at_ (by rw [HN.out]; omega)
      have hsr := row_size hrow
      by_cases hxe : x = e
      · have q1 := neq_edit x e HX8.out HE.out true (by simp [hxe])
        have VB : Vlt (badd L e = (L, 0)) := vlt (badd_there HG.out (x := x) (by rw [HPE.out]; exact HX.out) hxe)
        clear hxe
        go_upto_region 4 with fail
        refine wp_region_held_drew (S := fun W' => Below r3W1.heap.size r3W1 W') (by kernel_rfl) ((Below.refl _ _).drew) (fun hHeld => ?_)
        refine wpAnyH_take (i := 0) (oi := ⟨(some 21), _, _, _, _, _⟩) (v := .bool true) rfl (by kernel_rfl) (by kernel_rfl) (by kernel_rfl) (fun _ _ _ h => h) (Or.inl ⟨by rfl, ?yr4_0⟩) hHeld ?_
        case yr4_0 => (intro W0 hSw; go_simp; try with_reducible rfl)
        try simp only [pu]
        refine wpAnyH_take (i := 1) (oi := ⟨(some 22), _, _, _, _, _⟩) (v := .bool true) rfl (by kernel_rfl) (by kernel_rfl) (by kernel_rfl) (fun _ _ _ h => h) (Or.inl ⟨by rfl, ?yr4_1⟩) hHeld ?_
        case yr4_1 => (intro W0 hSw; go_simp; try with_reducible rfl)
        try simp only [pu]
        refine wpAnyH_take (i := 2) (oi := ⟨(some 23), _, _, _, _, _⟩) (v := ?vyr4_2) rfl (by kernel_rfl) (by kernel_rfl) (by kernel_rfl) (fun _ _ _ h => h) (Or.inl ⟨by rfl, ?yr4_2⟩) hHeld ?_
        case yr4_2 => (intro W0 hSw; go_simp; try with_reducible rfl)
        try simp only [pu]
        refine wpAnyH_take (i := 3) (oi := ⟨(some 24), _, _, _, _, _⟩) (v := ?vyr4_3) rfl (by kernel_rfl) (by kernel_rfl) (by kernel_rfl) (fun _ _ _ h => h) (Or.inl ⟨by rfl, ?yr4_3⟩) hHeld ?_
        case yr4_3 => (intro W0 hSw; go_simp; try with_reducible rfl)
        try simp only [pu]
        refine wpAnyH_take (i := 4) (oi := ⟨(some 25), _, _, _, _, _⟩) (v := ?vyr4_4) rfl (by kernel_rfl) (by kernel_rfl) (by kernel_rfl) (fun _ _ _ h => h) (Or.inl ⟨by rfl, ?yr4_4⟩) hHeld ?_
        case yr4_4 => (intro W0 hSw; go_simp; try with_reducible rfl)
        try simp only [pu]
        refine wpAnyH_take (i := 5) (oi := ⟨(some 26), _, _, _, _, _⟩) (v := .slice (some ⟨G, 0, none⟩) n c) rfl (by kernel_rfl) (by kernel_rfl) (by kernel_rfl) (fun _ _ _ h => h) (Or.inl ⟨by rfl, ?yr4_5⟩) hHeld ?_
        case yr4_5 => (intro W0 hSw; have cc := s_cell (row_next2 hc2 hSw); go_simp; try with_reducible rfl)
        try simp only [pu]
        refine wpAnyH_take (i := 6) (oi := ⟨(some 27), _, _, _, _, _⟩) (v := .int .i64 (p : Int)) rfl (by kernel_rfl) (by kernel_rfl) (by kernel_rfl) (fun _ _ _ h => h) (Or.inl ⟨by rfl, ?yr4_6⟩) hHeld ?_
        case yr4_6 => (intro W0 hSw; go_simp; try with_reducible rfl)
        try simp only [pu]
        refine wpAnyH_take (i := 7) (oi := ⟨(some 28), _, _, _, _, _⟩) (v := .pointer (some ⟨G, (p) * 15, none⟩)) rfl (by kernel_rfl) (by kernel_rfl) (by kernel_rfl) (fun _ _ _ h => h) (Or.inl ⟨by rfl, ?yr4_7⟩) hHeld ?_
        case yr4_7 => (intro W0 hSw; go_simp; try with_reducible rfl)
        try simp only [pu]
        refine wpAnyH_take (i := 8) (oi := ⟨(some 29), _, _, _, _, _⟩) (v := .agg x.cells.toArray) rfl (by kernel_rfl) (by kernel_rfl) (by kernel_rfl) (fun _ _ _ h => h) (yieldsIf_load_mid (by rfl) _ _ rfl G ((p) * 15) rfl x.cells _ (fun W' hW' => edit_range ((row_next2 hrow hW').out) HSE.out HX.out) (Try.underlying32) rfl (by rw [Ed.cells_len HX8.out]; kernel_rfl)) hHeld ?_
        try simp only [pu]
        refine wpAnyH_take (i := 9) (oi := ⟨(some 30), _, _, _, _, _⟩) (v := .agg e.cells.toArray) rfl (by kernel_rfl) (by kernel_rfl) (by kernel_rfl) (fun _ _ _ h => h) (yieldsIf_load_mid (by rfl) _ _ rfl (w.heap.size) 0 rfl e.cells _ (fun W' hW' => ed_allR (row_next2 hgE2 hW')) (Try.underlying32) rfl (by rw [Ed.cells_len HE.out]; kernel_rfl)) hHeld ?_
        try simp only [pu]
        refine wpAnyH_take (i := 10) (oi := ⟨(some 31), _, _, _, _, _⟩) (v := .bool false) rfl (by kernel_rfl) (by kernel_rfl) (by kernel_rfl) (fun _ _ _ h => h) (Or.inl ⟨by rfl, ?yr4_10⟩) hHeld ?_
        case yr4_10 => (intro W0 hSw; go_simp; try simp only [q1]; try with_reducible rfl)
        try simp only [pu]
        refine wpAnyH_take (i := 11) (oi := ⟨(some 32), _, _, _, _, _⟩) (v := .bool false) rfl (by kernel_rfl) (by kernel_rfl) (by kernel_rfl) (fun _ _ _ h => h) (Or.inl ⟨by rfl, ?yr4_11⟩) hHeld ?_
        case yr4_11 => (intro W0 hSw; go_simp; try with_reducible rfl)
        try simp only [pu]
        refine wpAnyH_take (i := 12) (oi := ⟨(some 20), _, _, _, _, _⟩) (v := .bool false) rfl (by kernel_rfl) (by kernel_rfl) (by kernel_rfl) (fun _ _ _ h => h) (Or.inl ⟨by rfl, ?yr4_12⟩) hHeld ?_
        case yr4_12 => (intro W0 hSw; go_simp; try with_reducible rfl)
        try simp only [pu]
        refine wpAnyH_done (by kernel_rfl) ?_ _
        go_wp2
        go_ret
        rw [VB.out]
        exact ⟨rfl, VS.out _ (below_next hb2 hb2.size hHeld)⟩
      · have q1 := neq_edit x e HX8.out HE.out false (by simp [hxe])
        have VB : Vlt (badd L e = (L, 10)) := vlt (badd_fork HG.out HL.out (x := x) (by rw [HPE.out]; exact HX.out) HD.out hxe)
        clear hxe
        go_upto_region 4 with fail
        refine wp_region_held_drew (S := fun W' => Below r3W1.heap.size r3W1 W') (by kernel_rfl) ((Below.refl _ _).drew) (fun hHeld => ?_)
        refine wpAnyH_take (i := 0) (oi := ⟨(some 21), _, _, _, _, _⟩) (v := .bool true) rfl (by kernel_rfl) (by kernel_rfl) (by kernel_rfl) (fun _ _ _ h => h) (Or.inl ⟨by rfl, ?yr4_0⟩) hHeld ?_
        case yr4_0 => (intro W0 hSw; go_simp; try with_reducible rfl)
        try simp only [pu]
        refine wpAnyH_take (i := 1) (oi := ⟨(some 22), _, _, _, _, _⟩) (v := .bool true) rfl (by kernel_rfl) (by kernel_rfl) (by kernel_rfl) (fun _ _ _ h => h) (Or.inl ⟨by rfl, ?yr4_1⟩) hHeld ?_
        case yr4_1 => (intro W0 hSw; go_simp; try with_reducible rfl)
        try simp only [pu]
        refine wpAnyH_take (i := 2) (oi := ⟨(some 23), _, _, _, _, _⟩) (v := ?vyr4_2) rfl (by kernel_rfl) (by kernel_rfl) (by kernel_rfl) (fun _ _ _ h => h) (Or.inl ⟨by rfl, ?yr4_2⟩) hHeld ?_
        case yr4_2 => (intro W0 hSw; go_simp; try with_reducible rfl)
        try simp only [pu]
        refine wpAnyH_take (i := 3) (oi := ⟨(some 24), _, _, _, _, _⟩) (v := ?vyr4_3) rfl (by kernel_rfl) (by kernel_rfl) (by kernel_rfl) (fun _ _ _ h => h) (Or.inl ⟨by rfl, ?yr4_3⟩) hHeld ?_
        case yr4_3 => (intro W0 hSw; go_simp; try with_reducible rfl)
        try simp only [pu]
        refine wpAnyH_take (i := 4) (oi := ⟨(some 25), _, _, _, _, _⟩) (v := ?vyr4_4) rfl (by kernel_rfl) (by kernel_rfl) (by kernel_rfl) (fun _ _ _ h => h) (Or.inl ⟨by rfl, ?yr4_4⟩) hHeld ?_
        case yr4_4 => (intro W0 hSw; go_simp; try with_reducible rfl)
        try simp only [pu]
        refine wpAnyH_take (i := 5) (oi := ⟨(some 26), _, _, _, _, _⟩) (v := .slice (some ⟨G, 0, none⟩) n c) rfl (by kernel_rfl) (by kernel_rfl) (by kernel_rfl) (fun _ _ _ h => h) (Or.inl ⟨by rfl, ?yr4_5⟩) hHeld ?_
        case yr4_5 => (intro W0 hSw; have cc := s_cell (row_next2 hc2 hSw); go_simp; try with_reducible rfl)
        try simp only [pu]
        refine wpAnyH_take (i := 6) (oi := ⟨(some 27), _, _, _, _, _⟩) (v := .int .i64 (p : Int)) rfl (by kernel_rfl) (by kernel_rfl) (by kernel_rfl) (fun _ _ _ h => h) (Or.inl ⟨by rfl, ?yr4_6⟩) hHeld ?_
        case yr4_6 => (intro W0 hSw; go_simp; try with_reducible rfl)
        try simp only [pu]
        refine wpAnyH_take (i := 7) (oi := ⟨(some 28), _, _, _, _, _⟩) (v := .pointer (some ⟨G, (p) * 15, none⟩)) rfl (by kernel_rfl) (by kernel_rfl) (by kernel_rfl) (fun _ _ _ h => h) (Or.inl ⟨by rfl, ?yr4_7⟩) hHeld ?_
        case yr4_7 => (intro W0 hSw; go_simp; try with_reducible rfl)
        try simp only [pu]
        refine wpAnyH_take (i := 8) (oi := ⟨(some 29), _, _, _, _, _⟩) (v := .agg x.cells.toArray) rfl (by kernel_rfl) (by kernel_rfl) (by kernel_rfl) (fun _ _ _ h => h) (yieldsIf_load_mid (by rfl) _ _ rfl G ((p) * 15) rfl x.cells _ (fun W' hW' => edit_range ((row_next2 hrow hW').out) HSE.out HX.out) (Try.underlying32) rfl (by rw [Ed.cells_len HX8.out]; kernel_rfl)) hHeld ?_
        try simp only [pu]
        refine wpAnyH_take (i := 9) (oi := ⟨(some 30), _, _, _, _, _⟩) (v := .agg e.cells.toArray) rfl (by kernel_rfl) (by kernel_rfl) (by kernel_rfl) (fun _ _ _ h => h) (yieldsIf_load_mid (by rfl) _ _ rfl (w.heap.size) 0 rfl e.cells _ (fun W' hW' => ed_allR (row_next2 hgE2 hW')) (Try.underlying32) rfl (by rw [Ed.cells_len HE.out]; kernel_rfl)) hHeld ?_
        try simp only [pu]
        refine wpAnyH_take (i := 10) (oi := ⟨(some 31), _, _, _, _, _⟩) (v := .bool true) rfl (by kernel_rfl) (by kernel_rfl) (by kernel_rfl) (fun _ _ _ h => h) (Or.inl ⟨by rfl, ?yr4_10⟩) hHeld ?_
        case yr4_10 => (intro W0 hSw; go_simp; try simp only [q1]; try with_reducible rfl)
        try simp only [pu]
        refine wpAnyH_take (i := 11) (oi := ⟨(some 32), _, _, _, _, _⟩) (v := .bool true) rfl (by kernel_rfl) (by kernel_rfl) (by kernel_rfl) (fun _ _ _ h => h) (Or.inl ⟨by rfl, ?yr4_11⟩) hHeld ?_
        case yr4_11 => (intro W0 hSw; go_simp; try with_reducible rfl)
        try simp only [pu]
        refine wpAnyH_take (i := 12) (oi := ⟨(some 20), _, _, _, _, _⟩) (v := .bool true) rfl (by kernel_rfl) (by kernel_rfl) (by kernel_rfl) (fun _ _ _ h => h) (Or.inl ⟨by rfl, ?yr4_12⟩) hHeld ?_
        case yr4_12 => (intro W0 hSw; go_simp; try with_reducible rfl)
        try simp only [pu]
        refine wpAnyH_done (by kernel_rfl) ?_ _
        go_wp2
        go_ret
        rw [VB.out]
        exact ⟨rfl, VS.out _ (below_next hb2 hb2.size hHeld)⟩
    · replace dS := dS false ⟨fun h => absurd h hth, fun h => absurd h (by decide)⟩
      have VB := vlt (badd_new HG.out HL.out (by rw [HPE.out]; exact hth))
      clear hth
      go_upto_region 3 with fail
      refine wp_region_held_drew (S := fun W' => Below r1W1.heap.size r1W1 W') (by kernel_rfl) ((Below.refl _ _).drew) (fun hHeld => ?_)
      refine wpAnyH_take (i := 0) (oi := ⟨(some 11), _, _, _, _, _⟩) (v := ?vyr3_0) rfl (by kernel_rfl) (by kernel_rfl) (by kernel_rfl) (fun _ _ _ h => h) (Or.inl ⟨by rfl, ?yr3_0⟩) hHeld ?_
      case yr3_0 => (intro W0 hSw; go_simp; try with_reducible rfl)
      try simp only [pu]
      refine wpAnyH_take (i := 1) (oi := ⟨(some 12), _, _, _, _, _⟩) (v := ?vyr3_1) rfl (by kernel_rfl) (by kernel_rfl) (by kernel_rfl) (fun _ _ _ h => h) (Or.inl ⟨by rfl, ?yr3_1⟩) hHeld ?_
      case yr3_1 => (intro W0 hSw; go_simp; try with_reducible rfl)
      try simp only [pu]
      refine wpAnyH_take (i := 2) (oi := ⟨(some 13), _, _, _, _, _⟩) (v := ?vyr3_2) rfl (by kernel_rfl) (by kernel_rfl) (by kernel_rfl) (fun _ _ _ h => h) (Or.inl ⟨by rfl, ?yr3_2⟩) hHeld ?_
      case yr3_2 => (intro W0 hSw; go_simp; try with_reducible rfl)
      try simp only [pu]
      refine wpAnyH_take (i := 3) (oi := ⟨(some 14), _, _, _, _, _⟩) (v := .slice A n c) rfl (by kernel_rfl) (by kernel_rfl) (by kernel_rfl) (fun _ _ _ h => h) (Or.inl ⟨by rfl, ?yr3_3⟩) hHeld ?_
      case yr3_3 => (intro W0 hSw; have cc := s_cell (row_next2 hc1 hSw); go_simp; try with_reducible rfl)
      try simp only [pu]
      refine wpAnyH_take (i := 4) (oi := ⟨(some 15), _, _, _, _, _⟩) (v := .pointer (some ⟨w.heap.size, 0, none⟩)) rfl (by kernel_rfl) (by kernel_rfl) (by kernel_rfl) (fun _ _ _ h => h) (Or.inl ⟨by rfl, ?yr3_4⟩) hHeld ?_
      case yr3_4 => (intro W0 hSw; go_simp; try with_reducible rfl)
      try simp only [pu]
      refine wpAnyH_take (i := 5) (oi := ⟨(some 16), _, _, _, _, _⟩) (v := .agg [.int .i64 e.dev, .int .i64 e.num].toArray) rfl (by kernel_rfl) (by kernel_rfl) (by kernel_rfl) (fun _ _ _ h => h) (yieldsIf_load_mid (by rfl) _ _ rfl (w.heap.size) 0 rfl [.int .i64 e.dev, .int .i64 e.num] _ (fun W' hW' => ed_dotR (row_next2 hgE1 hW')) (Try.underlying28) rfl (by kernel_rfl)) hHeld ?_
      try simp only [pu]
      refine wpAnyH_ready (rs := [6]) (by kernel_rfl) (by simp) ?_
      refine AllReadyH.cons (i := 6) (o := ⟨(some 17), _, _, _, _, _⟩) rfl (fun K hK => ?_) AllReadyH.nil
      go_simp
      refine (dS _ (hER1.next hHeld)).mono ?_
      rintro e r3W1 ⟨rfl, r3h1⟩
      refine hK.out _ _ (below_next hHeld hHeld.size r3h1) (fun hHeld => ?_)
      clear hK K r3h1
      try simp only [pu]
      refine wpAnyH_take (i := 7) (oi := ⟨(some 10), _, _, _, _, _⟩) (v := .tuple #[.int .i64 (p : Int), .bool false]) rfl (by kernel_rfl) (by kernel_rfl) (by kernel_rfl) (fun _ _ _ h => h) (Or.inl ⟨by rfl, ?yr3_7⟩) hHeld ?_
      case yr3_7 => (intro W0 hSw; go_simp; try with_reducible rfl)
      try simp only [pu]
      refine wpAnyH_take (i := 8) (oi := ⟨(some 18), _, _, _, _, _⟩) (v := .int .i64 (p : Int)) rfl (by kernel_rfl) (by kernel_rfl) (by kernel_rfl) (fun _ _ _ h => h) (Or.inl ⟨by rfl, ?yr3_8⟩) hHeld ?_
      case yr3_8 => (intro W0 hSw; go_simp; try with_reducible rfl)
      try simp only [pu]
      refine wpAnyH_take (i := 9) (oi := ⟨(some 19), _, _, _, _, _⟩) (v := .bool false) rfl (by kernel_rfl) (by kernel_rfl) (by kernel_rfl) (fun _ _ _ h => h) (Or.inl ⟨by rfl, ?yr3_9⟩) hHeld ?_
      case yr3_9 => (intro W0 hSw; go_simp; try with_reducible rfl)
      try simp only [pu]
      refine wpAnyH_take (i := 10) (oi := ⟨(some 5), _, _, _, _, _⟩) (v := .int .i64 (p : Int)) rfl (by kernel_rfl) (by kernel_rfl) (by kernel_rfl) (fun _ _ _ h => h) (Or.inl ⟨by rfl, ?yr3_10⟩) hHeld ?_
      case yr3_10 => (intro W0 hSw; go_simp; try with_reducible rfl)
      try simp only [pu]
      refine wpAnyH_take (i := 11) (oi := ⟨(some 6), _, _, _, _, _⟩) (v := .bool false) rfl (by kernel_rfl) (by kernel_rfl) (by kernel_rfl) (fun _ _ _ h => h) (Or.inl ⟨by rfl, ?yr3_11⟩) hHeld ?_
      case yr3_11 => (intro W0 hSw; go_simp; try with_reducible rfl)
      try simp only [pu]
      refine wpAnyH_done (by kernel_rfl) ?_ _
      have hgE2 := row_next2 hgE1 hHeld
      have hc2 := row_next2 hc1 hHeld
      have hER2 := hER1.next hHeld
      have hb2 := below_next hb1 hb1.size hHeld
      clear hHeld
      go_upto_region 4 with fail
      refine wp_region_held_drew (S := fun W' => Below r3W1.heap.size r3W1 W') (by kernel_rfl) ((Below.refl _ _).drew) (fun hHeld => ?_)
      refine wpAnyH_take (i := 0) (oi := ⟨(some 21), _, _, _, _, _⟩) (v := .bool false) rfl (by kernel_rfl) (by kernel_rfl) (by kernel_rfl) (fun _ _ _ h => h) (Or.inl ⟨by rfl, ?yr4_0⟩) hHeld ?_
      case yr4_0 => (intro W0 hSw; go_simp; try with_reducible rfl)
      try simp only [pu]
      refine wpAnyH_take (i := 1) (oi := ⟨(some 22), _, _, _, _, _⟩) (v := .bool false) rfl (by kernel_rfl) (by kernel_rfl) (by kernel_rfl) (fun _ _ _ h => h) (Or.inl ⟨by rfl, ?yr4_1⟩) hHeld ?_
      case yr4_1 => (intro W0 hSw; go_simp; try with_reducible rfl)
      try simp only [pu]
      refine wpAnyH_take (i := 2) (oi := ⟨(some 23), _, _, _, _, _⟩) (v := undef) rfl (by kernel_rfl) (by kernel_rfl) (by kernel_rfl) (fun _ _ _ h => h) (Or.inr ⟨by rfl, rfl⟩) hHeld ?_
      try simp only [pu]
      refine wpAnyH_take (i := 3) (oi := ⟨(some 24), _, _, _, _, _⟩) (v := undef) rfl (by kernel_rfl) (by kernel_rfl) (by kernel_rfl) (fun _ _ _ h => h) (Or.inr ⟨by rfl, rfl⟩) hHeld ?_
      try simp only [pu]
      refine wpAnyH_take (i := 4) (oi := ⟨(some 25), _, _, _, _, _⟩) (v := undef) rfl (by kernel_rfl) (by kernel_rfl) (by kernel_rfl) (fun _ _ _ h => h) (Or.inr ⟨by rfl, rfl⟩) hHeld ?_
      try simp only [pu]
      refine wpAnyH_take (i := 5) (oi := ⟨(some 26), _, _, _, _, _⟩) (v := undef) rfl (by kernel_rfl) (by kernel_rfl) (by kernel_rfl) (fun _ _ _ h => h) (Or.inr ⟨by rfl, rfl⟩) hHeld ?_
      try simp only [pu]
      refine wpAnyH_take (i := 6) (oi := ⟨(some 27), _, _, _, _, _⟩) (v := undef) rfl (by kernel_rfl) (by kernel_rfl) (by kernel_rfl) (fun _ _ _ h => h) (Or.inr ⟨by rfl, rfl⟩) hHeld ?_
      try simp only [pu]
      refine wpAnyH_take (i := 7) (oi := ⟨(some 28), _, _, _, _, _⟩) (v := undef) rfl (by kernel_rfl) (by kernel_rfl) (by kernel_rfl) (fun _ _ _ h => h) (Or.inr ⟨by rfl, rfl⟩) hHeld ?_
      try simp only [pu]
      refine wpAnyH_take (i := 8) (oi := ⟨(some 29), _, _, _, _, _⟩) (v := undef) rfl (by kernel_rfl) (by kernel_rfl) (by kernel_rfl) (fun _ _ _ h => h) (Or.inr ⟨by rfl, rfl⟩) hHeld ?_
      try simp only [pu]
      refine wpAnyH_take (i := 9) (oi := ⟨(some 30), _, _, _, _, _⟩) (v := undef) rfl (by kernel_rfl) (by kernel_rfl) (by kernel_rfl) (fun _ _ _ h => h) (Or.inr ⟨by rfl, rfl⟩) hHeld ?_
      try simp only [pu]
      refine wpAnyH_take (i := 10) (oi := ⟨(some 31), _, _, _, _, _⟩) (v := undef) rfl (by kernel_rfl) (by kernel_rfl) (by kernel_rfl) (fun _ _ _ h => h) (Or.inr ⟨by rfl, rfl⟩) hHeld ?_
      try simp only [pu]
      refine wpAnyH_take (i := 11) (oi := ⟨(some 32), _, _, _, _, _⟩) (v := .bool false) rfl (by kernel_rfl) (by kernel_rfl) (by kernel_rfl) (fun _ _ _ h => h) (Or.inl ⟨by rfl, ?yr4_11⟩) hHeld ?_
      case yr4_11 => (intro W0 hSw; go_simp; try with_reducible rfl)
      try simp only [pu]
      refine wpAnyH_take (i := 12) (oi := ⟨(some 20), _, _, _, _, _⟩) (v := .bool false) rfl (by kernel_rfl) (by kernel_rfl) (by kernel_rfl) (fun _ _ _ h => h) (Or.inl ⟨by rfl, ?yr4_12⟩) hHeld ?_
      case yr4_12 => (intro W0 hSw; go_simp; try with_reducible rfl)
      try simp only [pu]
      refine wpAnyH_done (by kernel_rfl) ?_ _
      rw [HN.out] at VB
      by_cases hfl : 500 ≤ n
      · have hflz : (500 : Int) ≤ (n : Int) := by omega
        have VB2 : Vlt (badd L e = (L, 2)) := vlt (by rw [VB.out, if_pos hfl])
        go_upto_region 8 with fail
        refine plain_start (S := fun W' => Below r3W1.heap.size r3W1 W') (by kernel_rfl) ((Below.refl _ _).drew) (fun hHeld => ?_)
        refine wpAnyH_take (i := 0) (oi := ⟨(some 36), _, _, _, _, _⟩) (v := ?vyr8_0) rfl (by kernel_rfl) (by kernel_rfl) (by kernel_rfl) (fun _ _ _ h => h) (Or.inl ⟨by rfl, ?yr8_0⟩) hHeld ?_
        case yr8_0 => (intro W0 hSw; go_simp; try with_reducible rfl)
        try simp only [pu]
        refine wpAnyH_take (i := 1) (oi := ⟨(some 37), _, _, _, _, _⟩) (v := ?vyr8_1) rfl (by kernel_rfl) (by kernel_rfl) (by kernel_rfl) (fun _ _ _ h => h) (Or.inl ⟨by rfl, ?yr8_1⟩) hHeld ?_
        case yr8_1 => (intro W0 hSw; go_simp; try with_reducible rfl)
        try simp only [pu]
        refine wpAnyH_take (i := 2) (oi := ⟨(some 38), _, _, _, _, _⟩) (v := ?vyr8_2) rfl (by kernel_rfl) (by kernel_rfl) (by kernel_rfl) (fun _ _ _ h => h) (Or.inl ⟨by rfl, ?yr8_2⟩) hHeld ?_
        case yr8_2 => (intro W0 hSw; go_simp; try with_reducible rfl)
        try simp only [pu]
        refine wpAnyH_take (i := 3) (oi := ⟨(some 39), _, _, _, _, _⟩) (v := .slice A n c) rfl (by kernel_rfl) (by kernel_rfl) (by kernel_rfl) (fun _ _ _ h => h) (Or.inl ⟨by rfl, ?yr8_3⟩) hHeld ?_
        case yr8_3 => (intro W0 hSw; have cc := s_cell (row_next2 hc2 hSw); go_simp; try with_reducible rfl)
        try simp only [pu]
        refine wpAnyH_take (i := 4) (oi := ⟨(some 40), _, _, _, _, _⟩) (v := ?vyr8_4) rfl (by kernel_rfl) (by kernel_rfl) (by kernel_rfl) (fun _ _ _ h => h) (Or.inl ⟨by rfl, ?yr8_4⟩) hHeld ?_
        case yr8_4 => (intro W0 hSw; go_simp; try with_reducible rfl)
        try simp only [pu]
        refine wpAnyH_take (i := 5) (oi := ⟨(some 41), _, _, _, _, _⟩) (v := .bool true) rfl (by kernel_rfl) (by kernel_rfl) (by kernel_rfl) (fun _ _ _ h => h) (Or.inl ⟨by rfl, ?yr8_5⟩) hHeld ?_
        case yr8_5 => (intro W0 hSw; go_simp; try with_reducible rfl)
        try simp only [pu]
        refine wpAnyH_take (i := 6) (oi := ⟨(some 35), _, _, _, _, _⟩) (v := .bool true) rfl (by kernel_rfl) (by kernel_rfl) (by kernel_rfl) (fun _ _ _ h => h) (Or.inl ⟨by rfl, ?yr8_6⟩) hHeld ?_
        case yr8_6 => (intro W0 hSw; go_simp; try with_reducible rfl)
        try simp only [pu]
        refine wpAnyH_done (by kernel_rfl) ?_ _
        go_wp2
        go_ret
        rw [VB2.out]
        exact ⟨rfl, VS.out _ (below_next hb2 hb2.size hHeld)⟩
      · have hflz : ¬ (500 : Int) ≤ (n : Int) := by omega
        have VB2 : Vlt (badd L e = (L.take p ++ e :: L.drop p, 0)) := vlt (by rw [VB.out, if_neg hfl, HPE.out])
        have hML : (L.take p ++ e :: L.drop p).length = n + 1 := by rw [List.length_append, List.length_cons, List.length_take, List.length_drop, HN.out]; omega
        have HML := vlt hML
        have hnb : ¬ ∃ q, A = some q ∧ q.block = b := fun ⟨q, hq, hqb⟩ => (HA.out q hq).2 hqb
        have hnE : ¬ ∃ q, A = some q ∧ q.block = w.heap.size := fun ⟨q, hq, hqb⟩ => by have := own_lt HO.out q hq; omega
        have hb3 := hb2.drew.drew
        clear hML
        go_upto_region 8 with fail
        refine plain_start (S := fun W' => Below r3W1.heap.size r3W1 W') (by kernel_rfl) ((Below.refl _ _).drew) (fun hHeld => ?_)
        refine wpAnyH_take (i := 0) (oi := ⟨(some 36), _, _, _, _, _⟩) (v := ?vyr8_0) rfl (by kernel_rfl) (by kernel_rfl) (by kernel_rfl) (fun _ _ _ h => h) (Or.inl ⟨by rfl, ?yr8_0⟩) hHeld ?_
        case yr8_0 => (intro W0 hSw; go_simp; try with_reducible rfl)
        try simp only [pu]
        refine wpAnyH_take (i := 1) (oi := ⟨(some 37), _, _, _, _, _⟩) (v := ?vyr8_1) rfl (by kernel_rfl) (by kernel_rfl) (by kernel_rfl) (fun _ _ _ h => h) (Or.inl ⟨by rfl, ?yr8_1⟩) hHeld ?_
        case yr8_1 => (intro W0 hSw; go_simp; try with_reducible rfl)
        try simp only [pu]
        refine wpAnyH_take (i := 2) (oi := ⟨(some 38), _, _, _, _, _⟩) (v := ?vyr8_2) rfl (by kernel_rfl) (by kernel_rfl) (by kernel_rfl) (fun _ _ _ h => h) (Or.inl ⟨by rfl, ?yr8_2⟩) hHeld ?_
        case yr8_2 => (intro W0 hSw; go_simp; try with_reducible rfl)
        try simp only [pu]
        refine wpAnyH_take (i := 3) (oi := ⟨(some 39), _, _, _, _, _⟩) (v := .slice A n c) rfl (by kernel_rfl) (by kernel_rfl) (by kernel_rfl) (fun _ _ _ h => h) (Or.inl ⟨by rfl, ?yr8_3⟩) hHeld ?_
        case yr8_3 => (intro W0 hSw; have cc := s_cell (row_next2 hc2 hSw); go_simp; try with_reducible rfl)
        try simp only [pu]
        refine wpAnyH_take (i := 4) (oi := ⟨(some 40), _, _, _, _, _⟩) (v := ?vyr8_4) rfl (by kernel_rfl) (by kernel_rfl) (by kernel_rfl) (fun _ _ _ h => h) (Or.inl ⟨by rfl, ?yr8_4⟩) hHeld ?_
        case yr8_4 => (intro W0 hSw; go_simp; try with_reducible rfl)
        try simp only [pu]
        refine wpAnyH_take (i := 5) (oi := ⟨(some 41), _, _, _, _, _⟩) (v := .bool false) rfl (by kernel_rfl) (by kernel_rfl) (by kernel_rfl) (fun _ _ _ h => h) (Or.inl ⟨by rfl, ?yr8_5⟩) hHeld ?_
        case yr8_5 => (intro W0 hSw; go_simp; try with_reducible rfl)
        try simp only [pu]
        refine wpAnyH_take (i := 6) (oi := ⟨(some 35), _, _, _, _, _⟩) (v := .bool false) rfl (by kernel_rfl) (by kernel_rfl) (by kernel_rfl) (fun _ _ _ h => h) (Or.inl ⟨by rfl, ?yr8_6⟩) hHeld ?_
        case yr8_6 => (intro W0 hSw; go_simp; try with_reducible rfl)
        try simp only [pu]
        refine wpAnyH_done (by kernel_rfl) ?_ _
        go_upto_region 10 with fail
        refine c_start (S := fun W' => Off (fun i => ∃ q, A = some q ∧ q.block = i) r3W1 W') 11 (by kernel_rfl) (((Off.refl _ r3W1).drew).drew) (fun hHeld => ?_)
        refine c_take (i := 0) (oi := ⟨(some 42), _, _, _, _, _⟩) (v := ?vk_0) rfl (by decide) (by kernel_rfl) (by kernel_rfl) (by kernel_rfl) (fun _ _ _ h => h) (Or.inl ⟨by rfl, ?yk_0⟩) hHeld ?_
        case yk_0 => (intro W0 hSw; go_simp; try with_reducible rfl)
        try simp only [pu]
        refine c_take (i := 1) (oi := ⟨(some 43), _, _, _, _, _⟩) (v := ?vk_1) rfl (by decide) (by kernel_rfl) (by kernel_rfl) (by kernel_rfl) (fun _ _ _ h => h) (Or.inl ⟨by rfl, ?yk_1⟩) hHeld ?_
        case yk_1 => (intro W0 hSw; go_simp; try with_reducible rfl)
        try simp only [pu]
        refine c_take (i := 2) (oi := ⟨(some 44), _, _, _, _, _⟩) (v := ?vk_2) rfl (by decide) (by kernel_rfl) (by kernel_rfl) (by kernel_rfl) (fun _ _ _ h => h) (Or.inl ⟨by rfl, ?yk_2⟩) hHeld ?_
        case yk_2 => (intro W0 hSw; go_simp; try with_reducible rfl)
        try simp only [pu]
        refine c_take (i := 3) (oi := ⟨(some 45), _, _, _, _, _⟩) (v := ?vk_3) rfl (by decide) (by kernel_rfl) (by kernel_rfl) (by kernel_rfl) (fun _ _ _ h => h) (Or.inl ⟨by rfl, ?yk_3⟩) hHeld ?_
        case yk_3 => (intro W0 hSw; go_simp; try with_reducible rfl)
        try simp only [pu]
        refine c_read (i := 4) (oi := ⟨(some 46), _, _, _, _, _⟩) (v := .slice A n c) rfl (by decide) (by kernel_rfl) (by kernel_rfl) (by kernel_rfl) (by kernel_rfl) (by kernel_rfl) (fun _ _ _ h => h) (Or.inl ⟨by rfl, ?yk_4⟩) hHeld ?_
        case yk_4 => (intro W0 hSw; have cc := s_cell (row_off hc2 hSw hnb); go_simp; try with_reducible rfl)
        try simp only [pu]
        refine c_take (i := 5) (oi := ⟨(some 47), _, _, _, _, _⟩) (v := ?vk_5) rfl (by decide) (by kernel_rfl) (by kernel_rfl) (by kernel_rfl) (fun _ _ _ h => h) (Or.inl ⟨by rfl, ?yk_5⟩) hHeld ?_
        case yk_5 => (intro W0 hSw; go_simp; try with_reducible rfl)
        try simp only [pu]
        refine c_read (i := 6) (oi := ⟨(some 48), _, _, _, _, _⟩) (v := .agg e.cells.toArray) rfl (by decide) (by kernel_rfl) (by kernel_rfl) (by kernel_rfl) (by kernel_rfl) (by kernel_rfl) (fun _ _ _ h => h) (yieldsIf_load_mid (by rfl) _ _ rfl w.heap.size 0 rfl e.cells _ (fun W' hW' => ed_allR (row_off hgE2 hW' hnE)) (Try.underlying32) rfl (by rw [Ed.cells_len HE.out]; kernel_rfl)) hHeld ?_
        try simp only [pu]
        refine c_step (i := 7) (o := ⟨(some 49), _, _, _, _, _⟩) (by kernel_rfl) rfl (fun K hK => ?_)
        refine step_one_edit (by rfl) (.tmp 48) rfl e HE.out (by rfl) ?_
        intro N W5 hgN hNs hbN
        have hNs2 : r3W1.heap.size ≤ N := hNs
        have hS5 := Off.next hHeld hbN
        have hb5 := below_next hb3 hb2.size hbN
        have hown5 := own_next HO.out (fun q hq => hb5.block q.block (own_lt HO.out q hq))
        refine hK.out _ _ (hS5) (fun hHeld => ?_)
        clear hK K
        try simp only [pu]
        refine c_step (i := 8) (o := ⟨(some 50), _, _, _, _, _⟩) (by kernel_rfl) rfl (fun K hK => ?_)
        go_simp
        refine (insert_any HE.out (by omega) HSE.out HN.out hple hown5 hgN (fun q hq => by have := own_lt HO.out q hq; have := hb2.size; omega)).mono ?_
        rintro x6 W6 ⟨A', c', rfl, hput⟩
        have hS6 := hS5.trans (grown_off hput.2.1) (fun i hi => .inl hi)
        have hc6 := row_off hc2 hS6 hnb
        refine hK.out _ _ (hS6) (fun hHeld => ?_)
        clear hK K
        try simp only [pu]
        refine c_take (i := 9) (oi := ⟨(some 51), _, _, _, _, _⟩) (v := ?vk_9) rfl (by decide) (by kernel_rfl) (by kernel_rfl) (by kernel_rfl) (fun _ _ _ h => h) (Or.inl ⟨by rfl, ?yk_9⟩) hHeld ?_
        case yk_9 => (intro W0 hSw; go_simp; try with_reducible rfl)
        try simp only [pu]
        refine c_take (i := 10) (oi := ⟨(some 52), _, _, _, _, _⟩) (v := ?vk_10) rfl (by decide) (by kernel_rfl) (by kernel_rfl) (by kernel_rfl) (fun _ _ _ h => h) (Or.inl ⟨by rfl, ?yk_10⟩) hHeld ?_
        case yk_10 => (intro W0 hSw; go_simp; try with_reducible rfl)
        try simp only [pu]
        refine c_call (S' := fun W' => BkF W' (fun i => F i ∨ w.heap.size ≤ i) b (L.take p ++ e :: L.drop p) ∧ Off F w W') (o := ⟨none, _, _, _, _, _⟩) (by kernel_rfl) (by kernel_rfl) rfl (fun K hK => ?_)
        clear hHeld
        refine step_store_one (by rfl) 44 (.tmp 52) (.tmp 50) rfl b A' (n + 1) c' _ _ (by rfl) (by rfl) (by kernel_rfl) hc6.out ?_
        refine hK.out _ _ (add_end VW.out hlt hb5 hput (by have := badd_good HL.out (e := e) HE.out; rwa [VB2.out] at this) HML.out HA.out hc6.out) (fun hHeld => ?_)
        clear hK K
        try simp only [pu]
        refine wpAnyH_done (by kernel_rfl) ?_ _
        go_wp2
        go_ret
        rw [VB2.out]
        exact ⟨rfl, hHeld⟩
end Go.Proofs.Ytncjobhpiohkkaa
namespace Go.Proofs.Ytncjobhpiohkkaa
open Go.RowKit

/-- A slice of texts: its row begins with them. -/
def TR (w : World) (A : Option Addr) (l : List ByteArray) : Prop := l = [] ∨ ∃ G s, A = some ⟨G, 0, none⟩ ∧ Hid (w.heap[G]? = some (.cells (l.map Value.string ++ s).toArray 9 (0, 0)))
theorem TR.next {w w' : World} {A : Option Addr} {l : List ByteArray} (h : TR w A l) (hb : Below w.heap.size w w') : TR w' A l := by
  rcases h with h | ⟨G, s, hA, hr⟩
  · exact .inl h
  · exact .inr ⟨G, s, hA, row_next2 hr hb⟩
theorem TR.at_ {w : World} {A : Option Addr} {l : List ByteArray} (h : TR w A l) (hk : 0 < l.length) : ∃ G s, A = some ⟨G, 0, none⟩ ∧ Hid (w.heap[G]? = some (.cells (l.map Value.string ++ s).toArray 9 (0, 0))) := by
  rcases h with h | h
  · subst h; simp at hk
  · exact h
theorem text_at {w : World} {G i : Nat} {l : List ByteArray} {s : List Value} {T : TypeId} {x : ByteArray} (h : Hid (w.heap[G]? = some (.cells (l.map Value.string ++ s).toArray T (0, 0)))) (hx : l[i]? = some x) : w.cell? ⟨G, i, none⟩ = some (.string x) := by
  rw [cell_of_row _ _ _ _ _ _ h.out]
  obtain ⟨hlt, he⟩ := List.getElem?_eq_some_iff.1 hx
  simp [List.getElem?_append_left, hlt, he]
set_option maxRecDepth 100000 in
set_option maxHeartbeats 4000000 in
theorem texts_any {w : World} {A A2 : Option Addr} {l m : List ByteArray} {n k : Nat} (c c2 : Nat) (hr : TR w A l) (hr2 : TR w A2 m) (hl : l.length = n) (hl2 : m.length = k) (hn : n ≤ 1048576) (o : Bool) (ho : decide (l = m) = o) :
    Calls Try.prog 18 #[.slice A n c, .slice A2 k c2] w fun x w' => x = .returned (.bool o) ∧ Below w.heap.size w w' := by
  by_cases hnm : n = k
  · subst hnm
    have HO := vlt ho
    have HLN := Lib.hid hl
    have HLM := Lib.hid hl2
    clear ho hl hl2
    go_enter Try.func18, Try.ntmps18
    go_wp2
    go_loopg [5] n (fun k s5 wr => ∃ (i : Nat), s5 = .int .i64 i ∧ n - i < k + 1 ∧ i ≤ n ∧ Vlt (∀ q, q < i → l[q]? = m[q]?) ∧ Below w.heap.size w wr)
    case atStart => exact ⟨0, rfl, by omega, Nat.zero_le _, vlt (fun q h => absurd h (by omega)), Below.refl _ _⟩
    case round =>
      obtain ⟨i, rfl, hk, hin, H1, hb⟩ := hrel
      have hrr := hr.next hb
      have hrr2 := hr2.next hb
      by_cases hlt : i < n
      · have hltz : (i : Int) < (n : Int) := by omega
        obtain ⟨G, s, rfl, hrow⟩ := hrr.at_ (by rw [HLN.out]; omega)
        obtain ⟨G2, s2, rfl, hrow2⟩ := hrr2.at_ (by rw [HLM.out]; omega)
        obtain ⟨x, hx⟩ : ∃ x, l[i]? = some x := ⟨_, List.getElem?_eq_getElem (by rw [HLN.out]; omega)⟩
        obtain ⟨y, hy⟩ : ∃ y, m[i]? = some y := ⟨_, List.getElem?_eq_getElem (by rw [HLM.out]; omega)⟩
        have HX := Lib.hid hx
        have HY := Lib.hid hy
        clear hx hy
        by_cases hxy : x = y
        · have HXY := vlt hxy
          go_upto_region 6 with fail
          refine wp_region_held_drew (S := fun W' => Below wr.heap.size wr W') (by kernel_rfl) ((Below.refl _ _).drew) (fun hHeld => ?_)
          refine wpAnyH_take (i := 0) (oi := ⟨(some 17), _, _, _, _, _⟩) (v := .slice (some ⟨G, 0, none⟩) n c) rfl (by kernel_rfl) (by kernel_rfl) (by kernel_rfl) (fun _ _ _ h => h) (Or.inl ⟨by rfl, ?yr6_0⟩) hHeld ?_
          case yr6_0 => (intro W0 hSw; go_simp; try with_reducible rfl)
          try simp only [pu]
          refine wpAnyH_take (i := 1) (oi := ⟨(some 18), _, _, _, _, _⟩) (v := .int .i64 (i : Int)) rfl (by kernel_rfl) (by kernel_rfl) (by kernel_rfl) (fun _ _ _ h => h) (Or.inl ⟨by rfl, ?yr6_1⟩) hHeld ?_
          case yr6_1 => (intro W0 hSw; go_simp; try with_reducible rfl)
          try simp only [pu]
          refine wpAnyH_take (i := 2) (oi := ⟨(some 19), _, _, _, _, _⟩) (v := .pointer (some ⟨G, i, none⟩)) rfl (by kernel_rfl) (by kernel_rfl) (by kernel_rfl) (fun _ _ _ h => h) (Or.inl ⟨by rfl, ?yr6_2⟩) hHeld ?_
          case yr6_2 => (intro W0 hSw; go_simp; try with_reducible rfl)
          try simp only [pu]
          refine wpAnyH_take (i := 3) (oi := ⟨(some 20), _, _, _, _, _⟩) (v := .string x) rfl (by kernel_rfl) (by kernel_rfl) (by kernel_rfl) (fun _ _ _ h => h) (Or.inl ⟨by rfl, ?yr6_3⟩) hHeld ?_
          case yr6_3 => (intro W0 hSw; have cc := text_at (row_next2 hrow hSw) HX.out; go_simp; try with_reducible rfl)
          try simp only [pu]
          refine wpAnyH_take (i := 4) (oi := ⟨(some 21), _, _, _, _, _⟩) (v := .slice (some ⟨G2, 0, none⟩) n c2) rfl (by kernel_rfl) (by kernel_rfl) (by kernel_rfl) (fun _ _ _ h => h) (Or.inl ⟨by rfl, ?yr6_4⟩) hHeld ?_
          case yr6_4 => (intro W0 hSw; go_simp; try with_reducible rfl)
          try simp only [pu]
          refine wpAnyH_take (i := 5) (oi := ⟨(some 22), _, _, _, _, _⟩) (v := .int .i64 (i : Int)) rfl (by kernel_rfl) (by kernel_rfl) (by kernel_rfl) (fun _ _ _ h => h) (Or.inl ⟨by rfl, ?yr6_5⟩) hHeld ?_
          case yr6_5 => (intro W0 hSw; go_simp; try with_reducible rfl)
          try simp only [pu]
          refine wpAnyH_take (i := 6) (oi := ⟨(some 23), _, _, _, _, _⟩) (v := .pointer (some ⟨G2, i, none⟩)) rfl (by kernel_rfl) (by kernel_rfl) (by kernel_rfl) (fun _ _ _ h => h) (Or.inl ⟨by rfl, ?yr6_6⟩) hHeld ?_
          case yr6_6 => (intro W0 hSw; go_simp; try with_reducible rfl)
          try simp only [pu]
          refine wpAnyH_take (i := 7) (oi := ⟨(some 24), _, _, _, _, _⟩) (v := .string y) rfl (by kernel_rfl) (by kernel_rfl) (by kernel_rfl) (fun _ _ _ h => h) (Or.inl ⟨by rfl, ?yr6_7⟩) hHeld ?_
          case yr6_7 => (intro W0 hSw; have cc := text_at (row_next2 hrow2 hSw) HY.out; go_simp; try with_reducible rfl)
          try simp only [pu]
          refine wpAnyH_take (i := 8) (oi := ⟨(some 25), _, _, _, _, _⟩) (v := .bool false) rfl (by kernel_rfl) (by kernel_rfl) (by kernel_rfl) (fun _ _ _ h => h) (Or.inl ⟨by rfl, ?yr6_8⟩) hHeld ?_
          case yr6_8 => (intro W0 hSw; go_simp; first | done | exact hxl | (simp [hxy]; done) | skip)
          try simp only [pu]
          refine wpAnyH_done (by kernel_rfl) ?_ _
          have hbb : Below w.heap.size w _ := hb.trans (hHeld.mono hb.size)
          go_wp2
          go_roundg (n - (i + 1))
          case measure => omega
          case rel => exact ⟨i + 1, by go_num, by omega, by omega, vlt (fun q hq => by
            rcases Nat.lt_or_eq_of_le (Nat.le_of_lt_succ hq) with h | rfl
            · exact H1.out q h
            · rw [HX.out, HY.out, HXY.out]), hbb⟩
        · have VF : Vlt (o = false) := vlt (by
            rw [← HO.out, decide_eq_false_iff_not]
            rintro rfl
            exact hxy (by have := HX.out.symm.trans HY.out; simpa using this))
          have hxl : ¬ x.toList = y.toList := fun e => hxy (by
            rw [ByteArray.toList_eq, ByteArray.toList_eq] at e
            exact ByteArray.ext (Array.toList_inj.1 e))
          go_upto_region 6 with fail
          refine wp_region_held_drew (S := fun W' => Below wr.heap.size wr W') (by kernel_rfl) ((Below.refl _ _).drew) (fun hHeld => ?_)
          refine wpAnyH_take (i := 0) (oi := ⟨(some 17), _, _, _, _, _⟩) (v := .slice (some ⟨G, 0, none⟩) n c) rfl (by kernel_rfl) (by kernel_rfl) (by kernel_rfl) (fun _ _ _ h => h) (Or.inl ⟨by rfl, ?yr6_0⟩) hHeld ?_
          case yr6_0 => (intro W0 hSw; go_simp; try with_reducible rfl)
          try simp only [pu]
          refine wpAnyH_take (i := 1) (oi := ⟨(some 18), _, _, _, _, _⟩) (v := .int .i64 (i : Int)) rfl (by kernel_rfl) (by kernel_rfl) (by kernel_rfl) (fun _ _ _ h => h) (Or.inl ⟨by rfl, ?yr6_1⟩) hHeld ?_
          case yr6_1 => (intro W0 hSw; go_simp; try with_reducible rfl)
          try simp only [pu]
          refine wpAnyH_take (i := 2) (oi := ⟨(some 19), _, _, _, _, _⟩) (v := .pointer (some ⟨G, i, none⟩)) rfl (by kernel_rfl) (by kernel_rfl) (by kernel_rfl) (fun _ _ _ h => h) (Or.inl ⟨by rfl, ?yr6_2⟩) hHeld ?_
          case yr6_2 => (intro W0 hSw; go_simp; try with_reducible rfl)
          try simp only [pu]
          refine wpAnyH_take (i := 3) (oi := ⟨(some 20), _, _, _, _, _⟩) (v := .string x) rfl (by kernel_rfl) (by kernel_rfl) (by kernel_rfl) (fun _ _ _ h => h) (Or.inl ⟨by rfl, ?yr6_3⟩) hHeld ?_
          case yr6_3 => (intro W0 hSw; have cc := text_at (row_next2 hrow hSw) HX.out; go_simp; try with_reducible rfl)
          try simp only [pu]
          refine wpAnyH_take (i := 4) (oi := ⟨(some 21), _, _, _, _, _⟩) (v := .slice (some ⟨G2, 0, none⟩) n c2) rfl (by kernel_rfl) (by kernel_rfl) (by kernel_rfl) (fun _ _ _ h => h) (Or.inl ⟨by rfl, ?yr6_4⟩) hHeld ?_
          case yr6_4 => (intro W0 hSw; go_simp; try with_reducible rfl)
          try simp only [pu]
          refine wpAnyH_take (i := 5) (oi := ⟨(some 22), _, _, _, _, _⟩) (v := .int .i64 (i : Int)) rfl (by kernel_rfl) (by kernel_rfl) (by kernel_rfl) (fun _ _ _ h => h) (Or.inl ⟨by rfl, ?yr6_5⟩) hHeld ?_
          case yr6_5 => (intro W0 hSw; go_simp; try with_reducible rfl)
          try simp only [pu]
          refine wpAnyH_take (i := 6) (oi := ⟨(some 23), _, _, _, _, _⟩) (v := .pointer (some ⟨G2, i, none⟩)) rfl (by kernel_rfl) (by kernel_rfl) (by kernel_rfl) (fun _ _ _ h => h) (Or.inl ⟨by rfl, ?yr6_6⟩) hHeld ?_
          case yr6_6 => (intro W0 hSw; go_simp; try with_reducible rfl)
          try simp only [pu]
          refine wpAnyH_take (i := 7) (oi := ⟨(some 24), _, _, _, _, _⟩) (v := .string y) rfl (by kernel_rfl) (by kernel_rfl) (by kernel_rfl) (fun _ _ _ h => h) (Or.inl ⟨by rfl, ?yr6_7⟩) hHeld ?_
          case yr6_7 => (intro W0 hSw; have cc := text_at (row_next2 hrow2 hSw) HY.out; go_simp; try with_reducible rfl)
          try simp only [pu]
          refine wpAnyH_take (i := 8) (oi := ⟨(some 25), _, _, _, _, _⟩) (v := .bool true) rfl (by kernel_rfl) (by kernel_rfl) (by kernel_rfl) (fun _ _ _ h => h) (Or.inl ⟨by rfl, ?yr6_8⟩) hHeld ?_
          case yr6_8 => (intro W0 hSw; go_simp; first | done | exact hxl | (simp [hxy]; done) | skip)
          try simp only [pu]
          refine wpAnyH_done (by kernel_rfl) ?_ _
          have hbb : Below w.heap.size w _ := hb.trans (hHeld.mono hb.size)
          go_wp2
          go_ret
          rw [VF.out]
          exact ⟨rfl, hbb⟩
      · have hltz : ¬ (i : Int) < (n : Int) := by omega
        have VF : Vlt (o = true) := vlt (by
          rw [← HO.out, decide_eq_true_iff]
          refine List.ext_getElem? fun q => ?_
          by_cases hq : q < i
          · exact H1.out q hq
          · rw [List.getElem?_eq_none (by rw [HLN.out]; omega), List.getElem?_eq_none (by rw [HLM.out]; omega)])
        go_wp2
        go_ret
        rw [VF.out]
        exact ⟨rfl, hb⟩
  · have VF : Vlt (o = false) := vlt (by
      rw [← ho, decide_eq_false_iff_not]
      rintro rfl
      exact hnm (hl.symm.trans hl2))
    have hnz : ¬ (n : Int) = (k : Int) := by omega
    clear ho hl hl2 hr hr2
    go_enter Try.func18, Try.ntmps18
    go_wp2
    go_ret
    rw [VF.out]
    exact ⟨rfl, Below.refl _ _⟩
end Go.Proofs.Ytncjobhpiohkkaa
namespace Go.Proofs.Ytncjobhpiohkkaa
open Go.RowKit Go.Sort

def rise (ss : List (List UInt8)) : List (List UInt8) := Lib.compact (ss.mergeSort fun x y => decide (x ≤ y))
/-- A row that begins with texts. -/
def Row1 (w : World) (g : Nat) (ts : List (List UInt8)) : Prop := ∃ s, w.heap[g]? = some (.cells (ts.map encStr ++ s).toArray 9 (0, 0))
theorem row1_of {w : World} {g : Nat} {cur : Array Value} {ts us : List (List UInt8)} (hb : w.heap[g]? = some (.cells cur 9 (0, 0))) (ht : cur.toList.take (ts ++ us).length = (ts ++ us).map encStr) : Row1 w g ts := by
  refine ⟨us.map encStr ++ cur.toList.drop (ts ++ us).length, ?_⟩
  rw [← List.append_assoc, ← List.map_append, ← ht, List.take_append_drop]
  simpa using hb
theorem rise_len (ss : List (List UInt8)) : (rise ss).length ≤ ss.length := by
  have h1 : (ss.mergeSort fun x y => decide (x ≤ y)).length = ss.length := List.length_mergeSort ss
  unfold rise Lib.compact Lib.compactUpTo
  rw [List.length_map]
  refine Nat.le_trans (List.length_filter_le _ _) ?_
  rw [List.length_range, h1]
  exact Nat.le_refl _
theorem compacted {w : World} {g n c q : Nat} {os : Array Obj} {cur : Array Value} {ss : List (List UInt8)} (hn : ss.length = n) (hnc : n ≤ c) (hc : c ≤ maxLen) (hs : cur.size = c) (hb : w.heap[g]? = some (.cells cur 9 (0, 0))) :
    Calls Try.prog 50 #[.slice (some ⟨g, 0, none⟩) n c] (grow (putRow encStr (Sort.ahead w q) g 0 (ss.mergeSort fun x y => decide (x ≤ y)).toArray) os) fun e w' =>
      e = .returned (.slice (some ⟨g, 0, none⟩) (rise ss).length c) ∧ Row1 w' g (rise ss) ∧ w.grownBy w' (some g) := by
  have h1 : (ss.mergeSort fun x y => decide (x ≤ y)).length = n := by rw [List.length_mergeSort]; exact hn
  have hb1 := heap_sorted (n := q) (os := os) (ss.mergeSort fun x y => decide (x ≤ y)).toArray hb
  have hg1 := grownBy_sorted (w := w) (g := g) (n := q) (os := os) (ss.mergeSort fun x y => decide (x ≤ y)).toArray
  have ht1 := take_putCells cur (ss.mergeSort fun x y => decide (x ≤ y)) (by omega)
  have hH := holds_of_block hb1 ht1
  have hsz : (putCells encStr 0 (ss.mergeSort fun x y => decide (x ≤ y)).toArray cur).size = c := by simp [putCells, hs]
  have hrl := rise_len ss
  have h := Try.slices_Compact_string g 0 c _ _ hH (by unfold maxLen at hc; omega) (by omega)
  rw [h1] at h
  refine h.mono ?_
  rintro e w' ⟨rfl, q2, rfl⟩
  have hb2 := heap_sorted (n := q2) (os := #[]) (Lib.compact (ss.mergeSort fun x y => decide (x ≤ y)) ++ List.replicate (n - (Lib.compact (ss.mergeSort fun x y => decide (x ≤ y))).length) []).toArray hb1
  have hg2 := grownBy_sorted (w := grow (putRow encStr (Sort.ahead w q) g 0 (ss.mergeSort fun x y => decide (x ≤ y)).toArray) os) (g := g) (n := q2) (os := #[]) (Lib.compact (ss.mergeSort fun x y => decide (x ≤ y)) ++ List.replicate (n - (Lib.compact (ss.mergeSort fun x y => decide (x ≤ y))).length) []).toArray
  rw [grow_empty] at hb2 hg2
  refine ⟨rfl, row1_of hb2 (take_putCells _ _ ?_), ⟨hg2.os.trans hg1.os, hg2.tape.trans hg1.tape, hg2.output.trans hg1.output, Nat.le_trans hg1.size hg2.size, fun k hk hne => (hg2.block k (Nat.lt_of_lt_of_le hk hg1.size) hne).trans (hg1.block k hk hne)⟩⟩
  rw [hsz, List.length_append, List.length_replicate]
  have h8 : (Lib.compact (ss.mergeSort fun x y => decide (x ≤ y))).length = (rise ss).length := rfl
  rw [h8]
  omega
set_option maxRecDepth 100000 in
theorem rising_any {w : World} {A : Option Addr} {ss : List (List UInt8)} {n c : Nat} (hown : w.ownsRow 0 9 1 (.slice A n c) n (ss.map encStr)) (hn : n ≤ 1048576) :
    Calls Try.prog 32 #[.slice A n c] w fun x w' => ∃ c', x = .returned (.slice A (rise ss).length c') ∧ (n = 0 ∨ ∃ g, A = some ⟨g, 0, none⟩ ∧ Row1 w' g (rise ss)) ∧ w.grownBy w' (A.map (·.block)) := by
  have hsl : ss.length = n := by have := hown.1; simpa using this
  by_cases h0 : n = 0
  · subst h0
    have hss : ss = [] := List.eq_nil_of_length_eq_zero hsl
    subst hss
    have hr : (rise []).length = 0 := Nat.le_zero.1 (rise_len [])
    have d1 := fun w0 => Try.slices_Sort_string_none A c w0
    have d2 := fun w0 => Try.slices_Compact_string_empty A c w0
    rw [hr]
    clear hown hsl hr
    go_enter Try.func32, Try.ntmps32
    go_wp2_with (first | (go_at_call 49; refine (d1 _).mono ?_; rintro e w1 ⟨rfl, rfl⟩) | (go_at_call 50; refine (d2 _).mono ?_; rintro e w2 ⟨rfl, rfl⟩))
    go_ret
    exact ⟨_, rfl, .inl (by trivial), rfl, rfl, rfl, Nat.le_refl _, fun _ _ _ => rfl⟩
  · rcases hown.2 with ⟨_, h⟩ | ⟨g, cap, cur, hv, _, hg, hle, hcm, hcs, ht⟩
    · exact absurd h h0
    · simp only [Value.slice.injEq] at hv
      obtain ⟨rfl, _, rfl⟩ := hv
      rw [Nat.mul_one] at hcs ht
      have hH := holds_of_block (ss := ss) hg (by rw [hsl]; exact ht)
      have d1 := Try.slices_Sort_string g 0 c ss w hH (Array.getElem?_eq_some_iff.1 hg).1 (by omega)
      rw [hsl] at d1
      have D1 := vlt d1
      have D2 := vlt (fun q os => compacted (q := q) (os := os) hsl hle hcm hcs hg)
      obtain ⟨m, hm⟩ : ∃ m, (rise ss).length = m := ⟨_, rfl⟩
      rw [hm] at D2 ⊢
      clear hown hsl hg hcs ht hH d1 hm
      go_enter Try.func32, Try.ntmps32
      go_wp2_with (first | (go_at_call 49; refine D1.out.mono ?_; rintro e w1 ⟨rfl, q, os, hw1⟩; have D3 := vlt (D2.out q os); rw [← hw1] at D3; clear hw1 D1 D2) | (go_at_call 50; refine D3.out.mono ?_; rintro e w2 ⟨rfl, hfin⟩))
      go_ret
      exact ⟨_, rfl, .inr ⟨g, rfl, hfin.1⟩, hfin.2⟩
end Go.Proofs.Ytncjobhpiohkkaa
namespace Go.Proofs.Ytncjobhpiohkkaa
open Go.RowKit

def Txo (w : World) (B : Nat) (A : Option Addr) (n c : Nat) (T : List ByteArray) : Prop :=
  w.ownsRow 0 9 1 (.slice A n c) n (T.map Value.string) ∧ ∀ p, A = some p → B ≤ p.block
theorem string_info : (Try.prog.info? 9).map (fun i => (i.zero, i.size, i.bytes)) = some (some (.string ⟨#[]⟩), 1, 16) := by kernel_rfl
theorem Txo.nil (w : World) (B : Nat) : Txo w B none 0 0 [] := ⟨World.ownsRow_nil _ _ _ _, fun p h => by cases h⟩
theorem Txo.len {w : World} {B n c : Nat} {A : Option Addr} {T : List ByteArray} (h : Txo w B A n c T) : T.length = n := by
  have := h.1.1
  simpa using this
theorem Txo.next {w w' : World} {B n c : Nat} {A : Option Addr} {T : List ByteArray} (h : Txo w B A n c T) (hb : Below w.heap.size w w') : Txo w' B A n c T :=
  ⟨h.1.kept (row := none) ⟨hb.os, hb.tape, hb.output, hb.size, fun k hk _ => hb.block k hk⟩ (by cases A <;> simp [Value.ownBlock]), h.2⟩
theorem txo_push {w : World} {B n c : Nat} {A : Option Addr} {T : List ByteArray} (h : Txo w B A n c T) (hB : B ≤ w.heap.size) (hn : n ≤ 1048576) (x : ByteArray) :
    ∃ A' c' w', (Builtin.append_ #[41, 41] 41 #[.slice A n c, .slice (some ⟨w.heap.size, 0, none⟩) 1 1]).run Try.prog (w.alloc (.cells #[.string x] 9)) = .ok (.slice A' (n + 1) c') w' ∧ Txo w' B A' (n + 1) c' (T ++ [x]) ∧ Below B w w' := by
  have hown := h.1.alloc (.cells #[.string x] 9)
  have hc : ∀ j u, [Value.string x][j]? = some u → (w.alloc (.cells #[.string x] 9)).cell? ((⟨w.heap.size, 0, none⟩ : Addr).add j) = some u := fun j u hj => by
    rw [Addr.add_lit, cell_of_row _ _ _ _ _ _ (heap_alloc_new w _), Nat.zero_add]
    simpa using hj
  obtain ⟨A', c', w2, hrun, hown2, hgr, hpl, h5⟩ := append_big (P := Try.prog) (ty := 41) _ Try.underlying41 string_info rfl (by omega) hown ⟨w.heap.size, 0, none⟩ 1 1 [.string x] rfl hc (by simp [Value.oneCell']) (by omega) (by omega)
  have hbw : Below B w (w.alloc (.cells #[.string x] 9)) := (Below.refl _ _).alloc hB _
  refine ⟨A', c', w2, hrun, ⟨by simpa using hown2, fun p hp => ?_⟩, (grown_off hgr).below hbw (fun i hi => ?_) (Nat.le_trans hB hbw.size)⟩
  · rcases hpl p hp with ⟨q, hq, he⟩ | hge
    · rw [he]; exact h.2 q hq
    · simp at hge; omega
  · obtain ⟨q, hq, rfl⟩ := hi
    exact h.2 q hq
theorem pick_step {L : List Ed} {i : Nat} {x : Ed} (p : Ed → Bool) (hx : L[i]? = some x) : (L.take (i + 1)).filter p = (L.take i).filter p ++ (if p x = true then [x] else []) := by
  rw [List.take_add_one, hx, List.filter_append]
  congr 1
  cases hp : p x <;> simp [hp]
theorem pick_yes {L : List Ed} {i : Nat} {x : Ed} {p : Ed → Bool} (hx : L[i]? = some x) (hp : p x = true) (f : Ed → ByteArray) : ((L.take (i + 1)).filter p).map f = ((L.take i).filter p).map f ++ [f x] := by
  rw [pick_step p hx, if_pos hp]; simp
theorem pick_no {L : List Ed} {i : Nat} {x : Ed} {p : Ed → Bool} (hx : L[i]? = some x) (hp : p x = false) (f : Ed → ByteArray) : ((L.take (i + 1)).filter p).map f = ((L.take i).filter p).map f := by
  rw [pick_step p hx, hp]; simp
def bos (l : List UInt8) : ByteArray := ⟨l.toArray⟩
theorem bos_list (l : List UInt8) : (bos l).toList = l := by rw [ByteArray.toList_eq]; simp [bos]
theorem list_bos (b : ByteArray) : bos b.toList = b := by
  rw [ByteArray.toList_eq]; exact ByteArray.ext (by simp [bos])
theorem map_enc (T : List ByteArray) : T.map Value.string = (T.map ByteArray.toList).map encStr := by
  rw [List.map_map]
  refine List.map_congr_left fun x _ => ?_
  show Value.string x = .string (bos x.toList)
  rw [list_bos]
theorem rise_texts (T : List ByteArray) : ∃ U : List ByteArray, U.Pairwise (fun a b => tlt a b = true) ∧ (∀ x, x ∈ U ↔ x ∈ T) ∧ U.map Value.string = (rise (T.map ByteArray.toList)).map encStr ∧ U.length = (rise (T.map ByteArray.toList)).length := by
  have h := compact_up (T.map ByteArray.toList)
  refine ⟨(rise (T.map ByteArray.toList)).map bos, ?_, fun x => ?_, ?_, by simp⟩
  · rw [List.pairwise_map]
    refine h.1.imp fun {a b} hab => ?_
    rw [tlt, bos_list, bos_list]; exact hab
  · rw [List.mem_map]
    constructor
    · rintro ⟨l, hl, rfl⟩
      obtain ⟨y, hy, rfl⟩ := List.mem_map.1 ((h.2 l).1 hl)
      rwa [list_bos]
    · intro hx
      exact ⟨x.toList, (h.2 _).2 (List.mem_map_of_mem hx), list_bos x⟩
  · rw [List.map_map]; rfl
theorem rising_txo {w : World} {B n c : Nat} {A : Option Addr} {T : List ByteArray} (h : Txo w B A n c T) (hB : B ≤ w.heap.size) (hn : n ≤ 1048576) :
    Calls Try.prog 32 #[.slice A n c] w fun x w' => ∃ U c', x = .returned (.slice A U.length c') ∧ Vlt (U.Pairwise (fun a b => tlt a b = true) ∧ ∀ x, x ∈ U ↔ x ∈ T) ∧ TR w' A U ∧ Below B w w' := by
  obtain ⟨U, hU1, hU2, hU3, hU4⟩ := rise_texts T
  have hown := h.1
  rw [map_enc] at hown
  refine (rising_any hown hn).mono ?_
  rintro e w' ⟨c', rfl, hr, hg⟩
  refine ⟨U, c', by rw [hU4], vlt ⟨hU1, hU2⟩, ?_, (grown_off hg).below (Below.refl B w) (fun i hi => ?_) hB⟩
  · rcases hr with rfl | ⟨g, rfl, s, hs⟩
    · have ht : T = [] := List.eq_nil_of_length_eq_zero h.len
      subst ht
      exact .inl (List.eq_nil_iff_forall_not_mem.2 fun x hx => by simpa using (hU2 x).1 hx)
    · exact .inr ⟨g, s, rfl, Lib.hid (by rw [hU3]; exact hs)⟩
  · obtain ⟨q, hq, rfl⟩ := hi
    exact h.2 q hq
end Go.Proofs.Ytncjobhpiohkkaa
namespace Go.Proofs.Ytncjobhpiohkkaa
open Go.RowKit

set_option maxRecDepth 100000 in
theorem livec_any {w : World} {V : Nat} {a e : Ed} (ha : a.seen.length = 8) (he : e.seen.length = 8) (hV : Hid (w.heap[V]? = some (.cells e.cells.toArray 32 (0, 0)))) {o : Bool} (ho : eover a e = o) :
    Calls Try.prog 47 #[.agg a.cells.toArray, .pointer (some ⟨V, 0, none⟩)] w fun x w' => x = .returned (.bool o) ∧ Below w.heap.size w w' := by
  obtain ⟨W, hW, hgA, hbW, hsW⟩ := one_new w a.cells.toArray 32
  have HW := Lib.hid hW
  have HA := Lib.hid ha
  have HE := Lib.hid he
  have hgE := row_next2 hV hbW
  have hlV := row_size hV
  have dO : ∀ w', Calls Try.prog 48 #[.agg a.cells.toArray, .agg e.cells.toArray] w' fun x w2 => x = .returned (.bool o) ∧ Below w'.heap.size w' w2 := fun w' => by
    have := oover_any w' a e ha he
    rwa [ho] at this
  clear hW ha he hV ho
  go_enter Try.func47, Try.ntmps47
  go_upto_region 1 with fail
  rw [HW.out]
  refine plain_start (S := fun W' => Below W.heap.size W W') (by kernel_rfl) (Below.refl _ _) (fun hHeld => ?_)
  refine wpAnyH_take (i := 0) (oi := ⟨(some 4), _, _, _, _, _⟩) (v := .agg a.cells.toArray) rfl (by kernel_rfl) (by kernel_rfl) (by kernel_rfl) (fun _ _ _ h => h) (yieldsIf_load_mid (by rfl) _ _ rfl (w.heap.size) 0 rfl a.cells _ (fun W' hW' => ed_allR (row_next2 hgA hW')) (Try.underlying32) rfl (by rw [Ed.cells_len HA.out]; kernel_rfl)) hHeld ?_
  try simp only [pu]
  refine wpAnyH_take (i := 1) (oi := ⟨(some 5), _, _, _, _, _⟩) (v := .agg e.cells.toArray) rfl (by kernel_rfl) (by kernel_rfl) (by kernel_rfl) (fun _ _ _ h => h) (yieldsIf_load_mid (by rfl) _ _ rfl V 0 rfl e.cells _ (fun W' hW' => ed_allR (row_next2 hgE hW')) (Try.underlying32) rfl (by rw [Ed.cells_len HE.out]; kernel_rfl)) hHeld ?_
  try simp only [pu]
  refine wpAnyH_ready (rs := [2]) (by kernel_rfl) (by simp) ?_
  refine AllReadyH.cons (i := 2) (o := ⟨(some 6), _, _, _, _, _⟩) rfl (fun K hK => ?_) AllReadyH.nil
  go_simp
  refine (dO _).mono ?_
  rintro e r1W1 ⟨rfl, r1h1⟩
  refine hK.out _ _ (below_next hHeld hHeld.size r1h1) (fun hHeld => ?_)
  clear hK K r1h1
  try simp only [pu]
  refine wpAnyH_take (i := 3) (oi := ⟨(some 3), _, _, _, _, _⟩) (v := .bool o) rfl (by kernel_rfl) (by kernel_rfl) (by kernel_rfl) (fun _ _ _ h => h) (Or.inl ⟨by rfl, ?yr1_3⟩) hHeld ?_
  case yr1_3 => (intro W0 hSw; go_simp; try with_reducible rfl)
  try simp only [pu]
  refine wpAnyH_done (by kernel_rfl) ?_ _
  go_wp2
  go_ret
  exact ⟨rfl, below_next hbW hbW.size hHeld⟩
set_option maxRecDepth 100000 in
set_option maxHeartbeats 4000000 in
theorem index_any {w : World} {V : Nat} {e : Ed} {A : Option Addr} {L : List Ed} {n : Nat} (c : Nat) (he : e.seen.length = 8) (hV : Hid (w.heap[V]? = some (.cells e.cells.toArray 32 (0, 0)))) (hr : ER w A L) (hse : Se L) (hl : L.length = n) (hn : n ≤ 1048576) {o : Bool} (ho : (L.any fun y => eover y e) = o) :
    Calls Try.prog 60 #[.slice A n c, .func (.func 47) #[] #[.pointer (some ⟨V, 0, none⟩)]] w fun x w' => ∃ r : Int, x = .returned (.int .i64 r) ∧ Vlt (decide (0 ≤ r) = o) ∧ Below w.heap.size w w' := by
  have HSE := vlt hse
  have HLN := Lib.hid hl
  have HE := Lib.hid he
  have HO := vlt ho
  have hlV := row_size hV
  clear hse hl he ho
  go_enter Try.func60, Try.ntmps60
  go_wp2
  go_loopg [5, 8] n (fun k s5 s8 wr => ∃ (i : Nat), s8 = .int .i64 i ∧ n - i < k + 1 ∧ i ≤ n ∧ Vlt (∀ q x, q < i → L[q]? = some x → eover x e = false) ∧ Below w.heap.size w wr)
  case atStart => exact ⟨0, rfl, by omega, Nat.zero_le _, vlt (fun q x h => absurd h (by omega)), Below.refl _ _⟩
  case round =>
    obtain ⟨i, rfl, hk, hin, H1, hb⟩ := hrel
    have hVr := row_next2 hV hb
    by_cases hlt : i < n
    · have hltz : (i : Int) < (n : Int) := by omega
      obtain ⟨G, s, rfl, hrow⟩ := (hr.next hb).at_ (by rw [HLN.out]; omega)
      obtain ⟨x, hx⟩ : ∃ x, L[i]? = some x := ⟨_, List.getElem?_eq_getElem (by rw [HLN.out]; omega)⟩
      have HX := Lib.hid hx
      have hx8 := Lib.hid (HSE.out.get hx)
      have hsr := row_size hrow
      clear hx
      cases hov : eover x e with
      | true =>
        have VO : Vlt (o = true) := vlt (by rw [← HO.out, List.any_eq_true]; exact ⟨x, List.mem_of_getElem? HX.out, hov⟩)
        have VX := vlt hov
        clear hov
        go_upto_region 4 with fail
        refine plain_start (S := fun W' => Below wr.heap.size wr W') (by kernel_rfl) (Below.refl _ _) (fun hHeld => ?_)
        refine wpAnyH_take (i := 0) (oi := ⟨(some 11), _, _, _, _, _⟩) (v := .func (.func 47) #[] #[.pointer (some ⟨V, 0, none⟩)]) rfl (by kernel_rfl) (by kernel_rfl) (by kernel_rfl) (fun _ _ _ h => h) (Or.inl ⟨by rfl, ?yr4_0⟩) hHeld ?_
        case yr4_0 => (intro W0 hSw; go_simp; try with_reducible rfl)
        try simp only [pu]
        refine wpAnyH_take (i := 1) (oi := ⟨(some 12), _, _, _, _, _⟩) (v := .slice (some ⟨G, 0, none⟩) n c) rfl (by kernel_rfl) (by kernel_rfl) (by kernel_rfl) (fun _ _ _ h => h) (Or.inl ⟨by rfl, ?yr4_1⟩) hHeld ?_
        case yr4_1 => (intro W0 hSw; go_simp; try with_reducible rfl)
        try simp only [pu]
        refine wpAnyH_take (i := 2) (oi := ⟨(some 13), _, _, _, _, _⟩) (v := .int .i64 (i : Int)) rfl (by kernel_rfl) (by kernel_rfl) (by kernel_rfl) (fun _ _ _ h => h) (Or.inl ⟨by rfl, ?yr4_2⟩) hHeld ?_
        case yr4_2 => (intro W0 hSw; go_simp; try with_reducible rfl)
        try simp only [pu]
        refine wpAnyH_take (i := 3) (oi := ⟨(some 14), _, _, _, _, _⟩) (v := .pointer (some ⟨G, (i) * 15, none⟩)) rfl (by kernel_rfl) (by kernel_rfl) (by kernel_rfl) (fun _ _ _ h => h) (Or.inl ⟨by rfl, ?yr4_3⟩) hHeld ?_
        case yr4_3 => (intro W0 hSw; go_simp; try with_reducible rfl)
        try simp only [pu]
        refine wpAnyH_take (i := 4) (oi := ⟨(some 15), _, _, _, _, _⟩) (v := .agg x.cells.toArray) rfl (by kernel_rfl) (by kernel_rfl) (by kernel_rfl) (fun _ _ _ h => h) (yieldsIf_load_mid (by rfl) _ _ rfl G ((i) * 15) rfl x.cells _ (fun W' hW' => edit_range ((row_next2 hrow hW').out) HSE.out HX.out) (Try.underlying32) rfl (by rw [Ed.cells_len hx8.out]; kernel_rfl)) hHeld ?_
        try simp only [pu]
        refine wpAnyH_ready (rs := [5]) (by kernel_rfl) (by simp) ?_
        refine AllReadyH.cons (i := 5) (o := ⟨(some 16), _, _, _, _, _⟩) rfl (fun K hK => ?_) AllReadyH.nil
        go_simp
        refine (livec_any hx8.out HE.out (row_next2 hVr hHeld) VX.out).mono ?_
        rintro e r4W1 ⟨rfl, r4h1⟩
        refine hK.out _ _ (below_next hHeld hHeld.size r4h1) (fun hHeld => ?_)
        clear hK K r4h1
        try simp only [pu]
        refine wpAnyH_done (by kernel_rfl) ?_ _
        have hbb := below_next hb hb.size hHeld
        go_wp2
        go_ret
        exact ⟨_, rfl, vlt (by rw [VO.out]; exact decide_eq_true (by omega)), hbb⟩
      | false =>
        have VX := vlt hov
        clear hov
        go_upto_region 4 with fail
        refine plain_start (S := fun W' => Below wr.heap.size wr W') (by kernel_rfl) (Below.refl _ _) (fun hHeld => ?_)
        refine wpAnyH_take (i := 0) (oi := ⟨(some 11), _, _, _, _, _⟩) (v := .func (.func 47) #[] #[.pointer (some ⟨V, 0, none⟩)]) rfl (by kernel_rfl) (by kernel_rfl) (by kernel_rfl) (fun _ _ _ h => h) (Or.inl ⟨by rfl, ?yr4_0⟩) hHeld ?_
        case yr4_0 => (intro W0 hSw; go_simp; try with_reducible rfl)
        try simp only [pu]
        refine wpAnyH_take (i := 1) (oi := ⟨(some 12), _, _, _, _, _⟩) (v := .slice (some ⟨G, 0, none⟩) n c) rfl (by kernel_rfl) (by kernel_rfl) (by kernel_rfl) (fun _ _ _ h => h) (Or.inl ⟨by rfl, ?yr4_1⟩) hHeld ?_
        case yr4_1 => (intro W0 hSw; go_simp; try with_reducible rfl)
        try simp only [pu]
        refine wpAnyH_take (i := 2) (oi := ⟨(some 13), _, _, _, _, _⟩) (v := .int .i64 (i : Int)) rfl (by kernel_rfl) (by kernel_rfl) (by kernel_rfl) (fun _ _ _ h => h) (Or.inl ⟨by rfl, ?yr4_2⟩) hHeld ?_
        case yr4_2 => (intro W0 hSw; go_simp; try with_reducible rfl)
        try simp only [pu]
        refine wpAnyH_take (i := 3) (oi := ⟨(some 14), _, _, _, _, _⟩) (v := .pointer (some ⟨G, (i) * 15, none⟩)) rfl (by kernel_rfl) (by kernel_rfl) (by kernel_rfl) (fun _ _ _ h => h) (Or.inl ⟨by rfl, ?yr4_3⟩) hHeld ?_
        case yr4_3 => (intro W0 hSw; go_simp; try with_reducible rfl)
        try simp only [pu]
        refine wpAnyH_take (i := 4) (oi := ⟨(some 15), _, _, _, _, _⟩) (v := .agg x.cells.toArray) rfl (by kernel_rfl) (by kernel_rfl) (by kernel_rfl) (fun _ _ _ h => h) (yieldsIf_load_mid (by rfl) _ _ rfl G ((i) * 15) rfl x.cells _ (fun W' hW' => edit_range ((row_next2 hrow hW').out) HSE.out HX.out) (Try.underlying32) rfl (by rw [Ed.cells_len hx8.out]; kernel_rfl)) hHeld ?_
        try simp only [pu]
        refine wpAnyH_ready (rs := [5]) (by kernel_rfl) (by simp) ?_
        refine AllReadyH.cons (i := 5) (o := ⟨(some 16), _, _, _, _, _⟩) rfl (fun K hK => ?_) AllReadyH.nil
        go_simp
        refine (livec_any hx8.out HE.out (row_next2 hVr hHeld) VX.out).mono ?_
        rintro e r4W1 ⟨rfl, r4h1⟩
        refine hK.out _ _ (below_next hHeld hHeld.size r4h1) (fun hHeld => ?_)
        clear hK K r4h1
        try simp only [pu]
        refine wpAnyH_done (by kernel_rfl) ?_ _
        have hbb := below_next hb hb.size hHeld
        go_wp2
        go_roundg (n - (i + 1))
        case measure => omega
        case rel => exact ⟨i + 1, by go_num, by omega, by omega, vlt (fun q y hq hy => by
          rcases Nat.lt_or_eq_of_le (Nat.le_of_lt_succ hq) with h | rfl
          · exact H1.out q y h hy
          · have := HX.out.symm.trans hy; cases this; exact VX.out), hbb⟩
    · have hltz : ¬ (i : Int) < (n : Int) := by omega
      have VO : Vlt (o = false) := vlt (by
        rw [← HO.out, List.any_eq_false]
        intro y hy
        obtain ⟨q, hq, rfl⟩ := List.mem_iff_getElem.1 hy
        rw [H1.out q L[q] (by rw [HLN.out] at hq; omega) (List.getElem?_eq_getElem hq)]
        decide)
      go_wp2
      go_ret
      exact ⟨_, rfl, vlt (by rw [VO.out]; decide), hb⟩
set_option maxRecDepth 100000 in
theorem contains_any {w : World} {V : Nat} {e : Ed} {A : Option Addr} {L : List Ed} {n : Nat} (c : Nat) (he : e.seen.length = 8) (hV : Hid (w.heap[V]? = some (.cells e.cells.toArray 32 (0, 0)))) (hr : ER w A L) (hse : Se L) (hl : L.length = n) (hn : n ≤ 1048576) {o : Bool} (ho : (L.any fun y => eover y e) = o) :
    Calls Try.prog 46 #[.slice A n c, .func (.func 47) #[] #[.pointer (some ⟨V, 0, none⟩)]] w fun x w' => x = .returned (.bool o) ∧ Below w.heap.size w w' := by
  have dI := vlt (index_any c he hV hr hse hl hn ho)
  clear he hV hr hse hl ho
  go_enter Try.func46, Try.ntmps46
  go_wp2_with (go_at_call 60; refine dI.out.mono ?_; rintro e1 w1 ⟨r, rfl, hro, hb1⟩)
  go_ret
  exact ⟨by rw [← hro.out]; rfl, hb1⟩
set_option maxRecDepth 100000 in
theorem live_any {w : World} {F : Nat → Prop} {b : Nat} {L : List Ed} (hb : BkF w F b L) (e : Ed) (he : e.seen.length = 8) {o : Bool} (ho : isLive L e = o) :
    Calls Try.prog 31 #[.pointer (some ⟨b, 0, none⟩), .agg e.cells.toArray] w fun x w' => x = .returned (.bool o) ∧ Below w.heap.size w w' := by
  obtain ⟨A, c, hc, hr⟩ := hb.er
  obtain ⟨W, hW, hgE, hbW, hsW⟩ := one_new w e.cells.toArray 32
  have HW := Lib.hid hW
  have HE := Lib.hid he
  have hcW := row_next2 hc hbW
  have hlb := row_size hc
  have dC : ∀ w', Below W.heap.size W w' → Calls Try.prog 46 #[.slice A L.length c, .func (.func 47) #[] #[.pointer (some ⟨w.heap.size, 0, none⟩)]] w' fun x w2 => x = .returned (.bool (L.any fun y => eover y e)) ∧ Below w'.heap.size w' w2 := fun w' hb' =>
    contains_any c he (row_next2 hgE hb') ((hr.next hbW).next hb') hb.good.se rfl (by have := hb.good.few; omega) rfl
  obtain ⟨u, hu⟩ : ∃ u, (L.any fun y => eover y e) = u := ⟨_, rfl⟩
  obtain ⟨n, hn⟩ : ∃ n, L.length = n := ⟨_, rfl⟩
  rw [hu, hn] at dC
  rw [hn] at hcW
  have hlive : o = (decide (e.kind = 1) && !u) := by
    rw [← ho, isLive, ← hu, List.all_eq_not_any_not]
    simp
  have VO := vlt hlive
  clear hW he hb hc hr hu hn ho hlive
  go_enter Try.func31, Try.ntmps31
  go_upto_region 1 with fail
  rw [HW.out]
  by_cases hk : e.kind = 1
  · have VK := vlt hk
    have VO2 : Vlt (o = !u) := vlt (by rw [VO.out, hk]; simp)
    refine plain_start (S := fun W' => Below W.heap.size W W') (by kernel_rfl) (Below.refl _ _) (fun hHeld => ?_)
    refine wpAnyH_take (i := 0) (oi := ⟨(some 5), _, _, _, _, _⟩) (v := .pointer (some ⟨w.heap.size, 10, none⟩)) rfl (by kernel_rfl) (by kernel_rfl) (by kernel_rfl) (fun _ _ _ h => h) (Or.inl ⟨by rfl, ?yr1_0⟩) hHeld ?_
    case yr1_0 => (intro W0 hSw; go_simp; try with_reducible rfl)
    try simp only [pu]
    refine wpAnyH_take (i := 1) (oi := ⟨(some 6), _, _, _, _, _⟩) (v := .int .i64 e.kind) rfl (by kernel_rfl) (by kernel_rfl) (by kernel_rfl) (fun _ _ _ h => h) (Or.inl ⟨by rfl, ?yr1_1⟩) hHeld ?_
    case yr1_1 => (intro W0 hSw; have cc := ed_kind (row_next2 hgE hSw) HE.out; go_simp; try with_reducible rfl)
    try simp only [pu]
    refine wpAnyH_take (i := 2) (oi := ⟨(some 7), _, _, _, _, _⟩) (v := .bool true) rfl (by kernel_rfl) (by kernel_rfl) (by kernel_rfl) (fun _ _ _ h => h) (Or.inl ⟨by rfl, ?yr1_2⟩) hHeld ?_
    case yr1_2 => (intro W0 hSw; go_simp; try with_reducible rfl)
    try simp only [pu]
    refine wpAnyH_take (i := 3) (oi := ⟨(some 8), _, _, _, _, _⟩) (v := .bool true) rfl (by kernel_rfl) (by kernel_rfl) (by kernel_rfl) (fun _ _ _ h => h) (Or.inl ⟨by rfl, ?yr1_3⟩) hHeld ?_
    case yr1_3 => (intro W0 hSw; go_simp; try with_reducible rfl)
    try simp only [pu]
    refine wpAnyH_take (i := 4) (oi := ⟨(some 9), _, _, _, _, _⟩) (v := ?vyr1_4) rfl (by kernel_rfl) (by kernel_rfl) (by kernel_rfl) (fun _ _ _ h => h) (Or.inl ⟨by rfl, ?yr1_4⟩) hHeld ?_
    case yr1_4 => (intro W0 hSw; go_simp; try with_reducible rfl)
    try simp only [pu]
    refine wpAnyH_take (i := 5) (oi := ⟨(some 10), _, _, _, _, _⟩) (v := ?vyr1_5) rfl (by kernel_rfl) (by kernel_rfl) (by kernel_rfl) (fun _ _ _ h => h) (Or.inl ⟨by rfl, ?yr1_5⟩) hHeld ?_
    case yr1_5 => (intro W0 hSw; go_simp; try with_reducible rfl)
    try simp only [pu]
    refine wpAnyH_take (i := 6) (oi := ⟨(some 11), _, _, _, _, _⟩) (v := ?vyr1_6) rfl (by kernel_rfl) (by kernel_rfl) (by kernel_rfl) (fun _ _ _ h => h) (Or.inl ⟨by rfl, ?yr1_6⟩) hHeld ?_
    case yr1_6 => (intro W0 hSw; go_simp; try with_reducible rfl)
    try simp only [pu]
    refine wpAnyH_take (i := 7) (oi := ⟨(some 12), _, _, _, _, _⟩) (v := .slice A n c) rfl (by kernel_rfl) (by kernel_rfl) (by kernel_rfl) (fun _ _ _ h => h) (Or.inl ⟨by rfl, ?yr1_7⟩) hHeld ?_
    case yr1_7 => (intro W0 hSw; have cc := s_cell (row_next2 hcW hSw); go_simp; try with_reducible rfl)
    try simp only [pu]
    refine wpAnyH_take (i := 8) (oi := ⟨(some 13), _, _, _, _, _⟩) (v := .func (.func 47) #[] #[.pointer (some ⟨w.heap.size, 0, none⟩)]) rfl (by kernel_rfl) (by kernel_rfl) (by kernel_rfl) (fun _ _ _ h => h) (Or.inl ⟨by rfl, ?yr1_8⟩) hHeld ?_
    case yr1_8 => (intro W0 hSw; go_simp; try with_reducible rfl)
    try simp only [pu]
    refine wpAnyH_ready (rs := [9]) (by kernel_rfl) (by simp) ?_
    refine AllReadyH.cons (i := 9) (o := ⟨(some 14), _, _, _, _, _⟩) rfl (fun K hK => ?_) AllReadyH.nil
    go_simp
    refine (dC _ hHeld).mono ?_
    rintro e r1W1 ⟨rfl, r1h1⟩
    refine hK.out _ _ (below_next hHeld hHeld.size r1h1) (fun hHeld => ?_)
    clear hK K r1h1
    try simp only [pu]
    refine wpAnyH_take (i := 10) (oi := ⟨(some 15), _, _, _, _, _⟩) (v := .bool (!u)) rfl (by kernel_rfl) (by kernel_rfl) (by kernel_rfl) (fun _ _ _ h => h) (Or.inl ⟨by rfl, ?yr1_10⟩) hHeld ?_
    case yr1_10 => (intro W0 hSw; go_simp; try with_reducible rfl)
    try simp only [pu]
    refine wpAnyH_take (i := 11) (oi := ⟨(some 16), _, _, _, _, _⟩) (v := .bool (!u)) rfl (by kernel_rfl) (by kernel_rfl) (by kernel_rfl) (fun _ _ _ h => h) (Or.inl ⟨by rfl, ?yr1_11⟩) hHeld ?_
    case yr1_11 => (intro W0 hSw; go_simp; try with_reducible rfl)
    try simp only [pu]
    refine wpAnyH_take (i := 12) (oi := ⟨(some 4), _, _, _, _, _⟩) (v := .bool (!u)) rfl (by kernel_rfl) (by kernel_rfl) (by kernel_rfl) (fun _ _ _ h => h) (Or.inl ⟨by rfl, ?yr1_12⟩) hHeld ?_
    case yr1_12 => (intro W0 hSw; go_simp; try with_reducible rfl)
    try simp only [pu]
    refine wpAnyH_done (by kernel_rfl) ?_ _
    go_wp2
    go_ret
    rw [VO2.out]
    exact ⟨rfl, below_next hbW hbW.size hHeld⟩
  · have VO2 : Vlt (o = false) := vlt (by rw [VO.out, decide_eq_false hk]; rfl)
    refine plain_start (S := fun W' => Below W.heap.size W W') (by kernel_rfl) (Below.refl _ _) (fun hHeld => ?_)
    refine wpAnyH_take (i := 0) (oi := ⟨(some 5), _, _, _, _, _⟩) (v := .pointer (some ⟨w.heap.size, 10, none⟩)) rfl (by kernel_rfl) (by kernel_rfl) (by kernel_rfl) (fun _ _ _ h => h) (Or.inl ⟨by rfl, ?yr1_0⟩) hHeld ?_
    case yr1_0 => (intro W0 hSw; go_simp; try with_reducible rfl)
    try simp only [pu]
    refine wpAnyH_take (i := 1) (oi := ⟨(some 6), _, _, _, _, _⟩) (v := .int .i64 e.kind) rfl (by kernel_rfl) (by kernel_rfl) (by kernel_rfl) (fun _ _ _ h => h) (Or.inl ⟨by rfl, ?yr1_1⟩) hHeld ?_
    case yr1_1 => (intro W0 hSw; have cc := ed_kind (row_next2 hgE hSw) HE.out; go_simp; try with_reducible rfl)
    try simp only [pu]
    refine wpAnyH_take (i := 2) (oi := ⟨(some 7), _, _, _, _, _⟩) (v := .bool false) rfl (by kernel_rfl) (by kernel_rfl) (by kernel_rfl) (fun _ _ _ h => h) (Or.inl ⟨by rfl, ?yr1_2⟩) hHeld ?_
    case yr1_2 => (intro W0 hSw; go_simp; try with_reducible rfl)
    try simp only [pu]
    refine wpAnyH_take (i := 3) (oi := ⟨(some 8), _, _, _, _, _⟩) (v := .bool false) rfl (by kernel_rfl) (by kernel_rfl) (by kernel_rfl) (fun _ _ _ h => h) (Or.inl ⟨by rfl, ?yr1_3⟩) hHeld ?_
    case yr1_3 => (intro W0 hSw; go_simp; try with_reducible rfl)
    try simp only [pu]
    refine wpAnyH_take (i := 4) (oi := ⟨(some 9), _, _, _, _, _⟩) (v := undef) rfl (by kernel_rfl) (by kernel_rfl) (by kernel_rfl) (fun _ _ _ h => h) (Or.inr ⟨by rfl, rfl⟩) hHeld ?_
    try simp only [pu]
    refine wpAnyH_take (i := 5) (oi := ⟨(some 10), _, _, _, _, _⟩) (v := undef) rfl (by kernel_rfl) (by kernel_rfl) (by kernel_rfl) (fun _ _ _ h => h) (Or.inr ⟨by rfl, rfl⟩) hHeld ?_
    try simp only [pu]
    refine wpAnyH_take (i := 6) (oi := ⟨(some 11), _, _, _, _, _⟩) (v := undef) rfl (by kernel_rfl) (by kernel_rfl) (by kernel_rfl) (fun _ _ _ h => h) (Or.inr ⟨by rfl, rfl⟩) hHeld ?_
    try simp only [pu]
    refine wpAnyH_take (i := 7) (oi := ⟨(some 12), _, _, _, _, _⟩) (v := undef) rfl (by kernel_rfl) (by kernel_rfl) (by kernel_rfl) (fun _ _ _ h => h) (Or.inr ⟨by rfl, rfl⟩) hHeld ?_
    try simp only [pu]
    refine wpAnyH_take (i := 8) (oi := ⟨(some 13), _, _, _, _, _⟩) (v := undef) rfl (by kernel_rfl) (by kernel_rfl) (by kernel_rfl) (fun _ _ _ h => h) (Or.inr ⟨by rfl, rfl⟩) hHeld ?_
    try simp only [pu]
    refine wpAnyH_take (i := 9) (oi := ⟨(some 14), _, _, _, _, _⟩) (v := undef) rfl (by kernel_rfl) (by kernel_rfl) (by kernel_rfl) (fun _ _ _ h => h) (Or.inr ⟨by rfl, rfl⟩) hHeld ?_
    try simp only [pu]
    refine wpAnyH_take (i := 10) (oi := ⟨(some 15), _, _, _, _, _⟩) (v := undef) rfl (by kernel_rfl) (by kernel_rfl) (by kernel_rfl) (fun _ _ _ h => h) (Or.inr ⟨by rfl, rfl⟩) hHeld ?_
    try simp only [pu]
    refine wpAnyH_take (i := 11) (oi := ⟨(some 16), _, _, _, _, _⟩) (v := .bool false) rfl (by kernel_rfl) (by kernel_rfl) (by kernel_rfl) (fun _ _ _ h => h) (Or.inl ⟨by rfl, ?yr1_11⟩) hHeld ?_
    case yr1_11 => (intro W0 hSw; go_simp; try with_reducible rfl)
    try simp only [pu]
    refine wpAnyH_take (i := 12) (oi := ⟨(some 4), _, _, _, _, _⟩) (v := .bool false) rfl (by kernel_rfl) (by kernel_rfl) (by kernel_rfl) (fun _ _ _ h => h) (Or.inl ⟨by rfl, ?yr1_12⟩) hHeld ?_
    case yr1_12 => (intro W0 hSw; go_simp; try with_reducible rfl)
    try simp only [pu]
    refine wpAnyH_done (by kernel_rfl) ?_ _
    go_wp2
    go_ret
    rw [VO2.out]
    exact ⟨rfl, below_next hbW hbW.size hHeld⟩
end Go.Proofs.Ytncjobhpiohkkaa
namespace Go.Proofs.Ytncjobhpiohkkaa
open Go.RowKit Go.Sort

theorem swo_eless : SWO eless where
  irrefl := less_own
  trans := fun _ _ _ h1 h2 => less_three h1 h2
  ntrans := fun x y z h1 h2 => by
    have a := less_iff x y
    have b := less_iff y z
    have c := less_iff x z
    rw [h1] at a
    rw [h2] at b
    cases h : eless x z with
    | false => rfl
    | true =>
      rw [h] at c
      simp only [Bool.false_eq_true, false_iff] at a b
      have := c.1 rfl
      omega
/-- The sort's row: the variable that the closure reads, the row of edits, what lies behind them. -/
structure SrtAt (B V G n c : Nat) (s : List Value) (d : Array Ed) (w : World) : Prop where
  var : Hid (w.heap[V]? = some (.cells #[.slice (some ⟨G, 0, none⟩) n c] 44 (0, 0)))
  row : Hid (w.heap[G]? = some (.cells (flatE d.toList ++ s).toArray 32 (0, 0)))
  len : d.size = n
  se : Se d.toList
  size : B ≤ w.heap.size
theorem swp_list {d : Array Ed} {i j : Nat} : (swp d i j).toList = (d.toList.set i d[j]!).set j d[i]! := by
  simp [swp]
section
variable {B V G n c : Nat} {s : List Value} {d : Array Ed} {w w' : World}
theorem SrtAt.keep (h : SrtAt B V G n c s d w) (hV : V < B) (hG : G < B) (hb : Below B w w') : SrtAt B V G n c s d w' :=
  ⟨(hb.block V hV).trans h.var.out, (hb.block G hG).trans h.row.out, h.len, h.se, Nat.le_trans h.size hb.size⟩
theorem SrtAt.get (h : SrtAt B V G n c s d w) {i : Nat} (hi : i < n) : d.toList[i]? = some d[i]! ∧ d[i]!.seen.length = 8 := by
  have h1 : d.toList[i]? = some d[i]! := by
    have := h.len
    simp [show i < d.size by omega]
  exact ⟨h1, h.se.get h1⟩
theorem SrtAt.swap (h : SrtAt B V G n c s d w) (hV : V ≠ G) {i j : Nat} (hi : i < n) (hj : j < n) :
    SrtAt B V G n c s (swp d i j) ((w.setCells G (i * 15) d[j]!.cells).setCells G (j * 15) d[i]!.cells) ∧ But G w ((w.setCells G (i * 15) d[j]!.cells).setCells G (j * 15) d[i]!.cells) := by
  have hl := h.len
  have e1 := edit_stored h.row.out h.se (k := i) (by rw [Array.length_toList]; omega) (h.get hj).2
  have hse1 : Se (d.toList.set i d[j]!) := fun x hx => by
    rcases List.mem_or_eq_of_mem_set hx with hx | hx
    · exact h.se x hx
    · rw [hx]; exact (h.get hj).2
  have e2 := edit_stored e1.1 hse1 (k := j) (by rw [List.length_set, Array.length_toList]; omega) (h.get hi).2
  have hb := e1.2.trans e2.2
  refine ⟨⟨row_but h.var hb hV, ?_, by rw [swp_size]; exact hl, ?_, Nat.le_trans h.size hb.size⟩, hb⟩
  · rw [swp_list]; exact e2.1
  · rw [swp_list]
    intro x hx
    rcases List.mem_or_eq_of_mem_set hx with hx | hx
    · exact hse1 x hx
    · rw [hx]; exact (h.get hi).2
end
end Go.Proofs.Ytncjobhpiohkkaa
namespace Go.Proofs.Ytncjobhpiohkkaa
open Go.RowKit

set_option maxRecDepth 100000 in
theorem lessc_any {B V G n c : Nat} {s : List Value} {d : Array Ed} {w : World} (h : SrtAt B V G n c s d w) {i j : Nat} {iv jv : Int} (ei : iv = (i : Int)) (ej : jv = (j : Int)) (hi : i < n) (hj : j < n) {b : Bool} (hb : eless d[i]! d[j]! = b) :
    Calls Try.prog 38 #[.int .i64 iv, .int .i64 jv, .pointer (some ⟨V, 0, none⟩)] w fun e w' => e = .returned (.bool b) ∧ Below w.heap.size w w' := by
  subst ei ej hb
  obtain ⟨g1, l1⟩ := h.get hi
  obtain ⟨g2, l2⟩ := h.get hj
  obtain ⟨x, hx⟩ : ∃ x, d[i]! = x := ⟨_, rfl⟩
  obtain ⟨y, hy⟩ : ∃ y, d[j]! = y := ⟨_, rfl⟩
  rw [hx] at g1 l1 ⊢
  rw [hy] at g2 l2 ⊢
  have hv := h.var
  have hr := h.row
  have hse := vlt h.se
  have G1 := Lib.hid g1
  have G2 := Lib.hid g2
  have L1 := Lib.hid l1
  have L2 := Lib.hid l2
  clear g1 g2 l1 l2 hx hy h
  go_enter Try.func38, Try.ntmps38
  go_upto_region 1 with fail
  refine wp_region_held_drew (S := fun W' => Below w.heap.size w W') (by kernel_rfl) ((Below.refl _ _).drew) (fun hHeld => ?_)
  refine wpAnyH_take (i := 0) (oi := ⟨(some 6), _, _, _, _, _⟩) (v := .slice (some ⟨G, 0, none⟩) n c) rfl (by kernel_rfl) (by kernel_rfl) (by kernel_rfl) (fun _ _ _ h => h) (Or.inl ⟨by rfl, ?yr1_0⟩) hHeld ?_
  case yr1_0 => (intro W0 hSw; have cc := s_cell (row_next2 hv hSw); go_simp; try with_reducible rfl)
  try simp only [pu]
  refine wpAnyH_take (i := 1) (oi := ⟨(some 7), _, _, _, _, _⟩) (v := .int .i64 (i : Int)) rfl (by kernel_rfl) (by kernel_rfl) (by kernel_rfl) (fun _ _ _ h => h) (Or.inl ⟨by rfl, ?yr1_1⟩) hHeld ?_
  case yr1_1 => (intro W0 hSw; go_simp; try with_reducible rfl)
  try simp only [pu]
  refine wpAnyH_take (i := 2) (oi := ⟨(some 8), _, _, _, _, _⟩) (v := .pointer (some ⟨G, (i) * 15, none⟩)) rfl (by kernel_rfl) (by kernel_rfl) (by kernel_rfl) (fun _ _ _ h => h) (Or.inl ⟨by rfl, ?yr1_2⟩) hHeld ?_
  case yr1_2 => (intro W0 hSw; go_simp; try with_reducible rfl)
  try simp only [pu]
  refine wpAnyH_take (i := 3) (oi := ⟨(some 9), _, _, _, _, _⟩) (v := .agg x.cells.toArray) rfl (by kernel_rfl) (by kernel_rfl) (by kernel_rfl) (fun _ _ _ h => h) (yieldsIf_load_mid (by rfl) _ _ rfl G ((i) * 15) rfl x.cells _ (fun W' hW' => edit_range ((row_next2 hr hW').out) hse.out G1.out) (Try.underlying32) rfl (by rw [Ed.cells_len L1.out]; kernel_rfl)) hHeld ?_
  try simp only [pu]
  refine wpAnyH_take (i := 4) (oi := ⟨(some 10), _, _, _, _, _⟩) (v := .slice (some ⟨G, 0, none⟩) n c) rfl (by kernel_rfl) (by kernel_rfl) (by kernel_rfl) (fun _ _ _ h => h) (Or.inl ⟨by rfl, ?yr1_4⟩) hHeld ?_
  case yr1_4 => (intro W0 hSw; have cc := s_cell (row_next2 hv hSw); go_simp; try with_reducible rfl)
  try simp only [pu]
  refine wpAnyH_take (i := 5) (oi := ⟨(some 11), _, _, _, _, _⟩) (v := .int .i64 (j : Int)) rfl (by kernel_rfl) (by kernel_rfl) (by kernel_rfl) (fun _ _ _ h => h) (Or.inl ⟨by rfl, ?yr1_5⟩) hHeld ?_
  case yr1_5 => (intro W0 hSw; go_simp; try with_reducible rfl)
  try simp only [pu]
  refine wpAnyH_take (i := 6) (oi := ⟨(some 12), _, _, _, _, _⟩) (v := .pointer (some ⟨G, (j) * 15, none⟩)) rfl (by kernel_rfl) (by kernel_rfl) (by kernel_rfl) (fun _ _ _ h => h) (Or.inl ⟨by rfl, ?yr1_6⟩) hHeld ?_
  case yr1_6 => (intro W0 hSw; go_simp; try with_reducible rfl)
  try simp only [pu]
  refine wpAnyH_take (i := 7) (oi := ⟨(some 13), _, _, _, _, _⟩) (v := .agg y.cells.toArray) rfl (by kernel_rfl) (by kernel_rfl) (by kernel_rfl) (fun _ _ _ h => h) (yieldsIf_load_mid (by rfl) _ _ rfl G ((j) * 15) rfl y.cells _ (fun W' hW' => edit_range ((row_next2 hr hW').out) hse.out G2.out) (Try.underlying32) rfl (by rw [Ed.cells_len L2.out]; kernel_rfl)) hHeld ?_
  try simp only [pu]
  refine wpAnyH_ready (rs := [8]) (by kernel_rfl) (by simp) ?_
  refine AllReadyH.cons (i := 8) (o := ⟨(some 14), _, _, _, _, _⟩) rfl (fun K hK => ?_) AllReadyH.nil
  go_simp
  refine (oless_any _ x y L1.out L2.out).mono ?_
  rintro e r1W1 ⟨rfl, r1h1⟩
  refine hK.out _ _ (below_next hHeld hHeld.size r1h1) (fun hHeld => ?_)
  clear hK K r1h1
  try simp only [pu]
  refine wpAnyH_take (i := 9) (oi := ⟨(some 5), _, _, _, _, _⟩) (v := .bool (eless x y)) rfl (by kernel_rfl) (by kernel_rfl) (by kernel_rfl) (fun _ _ _ h => h) (Or.inl ⟨by rfl, ?yr1_9⟩) hHeld ?_
  case yr1_9 => (intro W0 hSw; go_simp; try with_reducible rfl)
  try simp only [pu]
  refine wpAnyH_done (by kernel_rfl) ?_ _
  go_wp2
  go_ret
  exact ⟨rfl, hHeld⟩
end Go.Proofs.Ytncjobhpiohkkaa
namespace Go.Proofs.Ytncjobhpiohkkaa
open Go.RowKit Go.Sort

noncomputable def infS : TypeInfo := (Try.prog.info? 44).get (by kernel_rfl)
noncomputable def infE : TypeInfo := (Try.prog.info? 32).get (by kernel_rfl)
theorem infE_is : Try.prog.info? 32 = some infE := by kernel_rfl
theorem infE_size : infE.size = 15 := by kernel_rfl
theorem swapK (n : Nat) (h2 : 2 ≤ n) : Lib.swapperK n infE 25 = 9 := by
  have a : infE.hasPointers = true := by kernel_rfl
  have b : (infE.bytes == 8) = false := by kernel_rfl
  have c : (n == 0) = false := by simp; omega
  have d : (n == 1) = false := by simp; omega
  simp [Lib.swapperK, a, b, c, d]
theorem bitLen_small : ∀ (f x : Nat), Lib.bitLenAux f x ≤ f
  | 0, _ => Nat.le_refl _
  | f + 1, x => by
    rw [Lib.bitLenAux]
    have := bitLen_small f (x / 2)
    split <;> omega
noncomputable def swB (G n c : Nat) : Array Value := #[.slice (some ⟨G, 0, none⟩) n c, typeHandle Try.prog 32]
theorem srt_ed {B V G n c : Nat} {s : List Value} (hV : V < B) (hG : G < B) (hVG : V ≠ G) (hn : n < 4611686018427387904) :
    Srt eless n G B 38 #[.pointer (some ⟨V, 0, none⟩)] 72 (swB G n c) (SrtAt B V G n c s) where
  small := hn
  low := hG
  size := fun h => h.len
  blk := fun h => h.size
  keep := fun h hb => h.keep hV hG hb
  less := fun h i j iv jv ei ej hi hj b hb => lessc_any h ei ej hi hj hb
  enter := enters_of Try.func38 (by kernel_rfl) rfl
  swap := fun {d w} h {i j} iv jv ei ej hi hj => by
    subst ei ej
    obtain ⟨g1, l1⟩ := h.get hi
    obtain ⟨g2, l2⟩ := h.get hj
    have k := h.swap hVG hi hj
    have r1 := edit_range h.row.out h.se g1
    have r2 := edit_range h.row.out h.se g2
    have hfz : ∀ x, w.frozen? ⟨G, x, none⟩ = false := fun x => frozen_of_row _ _ _ _ _ h.row.out
    have hs := Lib.run_swap_cells (P := Try.prog) false 32 infE infE_is (fun _ => by kernel_rfl) G 0 n c i j hi hj d[i]!.cells d[j]!.cells (by rw [Ed.cells_len l1, infE_size]) (by rw [Ed.cells_len l2, infE_size]) (Ed.cells_one _) (Ed.cells_one _) w
      (fun q v hq => by rw [infE_size, Nat.zero_add]; exact r1 q v hq) (fun q v hq => by rw [infE_size, Nat.zero_add]; exact r2 q v hq) (fun q _ => hfz _) (fun q _ => hfz _)
    rw [infE_size, Nat.zero_add, Nat.zero_add] at hs
    refine ⟨_, ?_, k.1, k.2⟩
    rw [run_callFunc_extern Try.func72 (by kernel_rfl) (by kernel_rfl) (by kernel_rfl) (e := Extern.ReflectliteSwapper.swap false) (by kernel_rfl)]
    show ((Extern.ReflectliteSwapper.swap false #[.int .i64 i, .int .i64 j, .slice (some ⟨G, 0, none⟩) n c, typeHandle Try.prog 32]).run Try.prog w).andThen _ = _
    rw [hs]; rfl
/-- Two edits or more. -/
theorem sslice_any {V G n c : Nat} {s : List Value} {d : Array Ed} {w : World} (hA : SrtAt w.heap.size V G n c s d w) (hV : V < w.heap.size) (hVG : V ≠ G) (hn : n < 4611686018427387904) (h2 : 2 ≤ n) :
    Calls Try.prog 37 #[.iface 44 (.slice (some ⟨G, 0, none⟩) n c), .func (.func 38) #[] #[.pointer (some ⟨V, 0, none⟩)]] w fun e w' => e = .returned (.tuple #[]) ∧ ((∃ R, SrtAt w.heap.size V G n c s R w' ∧ PermIn 0 n d R ∧ SortedIn eless 0 n R) ∧ But G w w') := by
  have hG := row_size hA.row
  have hS := srt_ed (B := w.heap.size) (c := c) (s := s) hV hG hVG hn
  refine Any.sort_Slice_of_pdq Try.laysGg6 44 32 infS infE (by kernel_rfl) (by kernel_rfl) (by kernel_rfl) infE_is 25 (fun _ => by kernel_rfl) (some ⟨G, 0, none⟩) n c hn 72 (by rw [swapK n h2]; kernel_rfl) (.func 38) #[] #[.pointer (some ⟨V, 0, none⟩)] w _ ?_
  have hsb : sliceBound Try.prog 32 infE 25 (some ⟨G, 0, none⟩) n c = swB G n c := by
    rw [sliceBound, swapK n h2]; rfl
  rw [hsb]
  have hbw : Below w.heap.size w (sliceWorld Try.prog Try.laysGg6_ren 44 (some ⟨G, 0, none⟩) n c w) := ((Below.refl _ _).alloc (Nat.le_refl _) _).alloc (by simp) _
  have hA2 := hS.keep hA hbw
  have hbl : Lib.bitLen n < 1000 := Nat.lt_of_le_of_lt (bitLen_small 64 n) (by omega)
  refine (spdq_at swo_eless (n + 1) hS d 0 n (Lib.bitLen n) rfl rfl rfl _ hA2 (Nat.zero_le _) (Nat.le_refl _) (by omega) hbl (Or.inl rfl)).mono ?_
  rintro e w' ⟨rfl, ⟨R, h1, h3, h4⟩, hb⟩
  exact ⟨rfl, ⟨R, h1, h3, h4⟩, (but_of_below hbw).trans hb⟩
theorem sslice_at {p : Option Addr} {c : Nat} (w : World) (lf : Fn) (la lb : Array Value) {n f : Nat} (h1 : n ≤ 1)
    (h : ∀ (R : World → Prop), (Calls Try.prog 56 #[.agg #[.func lf la lb, .func (.func f) #[] (sliceBound Try.prog 32 infE 25 p n c)], .int .i64 0, .int .i64 n, .int .i64 (Lib.bitLen n)] (sliceWorld Try.prog Try.laysGg6_ren 44 p n c w) fun e w' => e = .returned (.tuple #[]) ∧ R w') →
      Calls Try.prog 37 #[.iface 44 (.slice p n c), .func lf la lb] w fun e w' => e = .returned (.tuple #[]) ∧ R w') :
    Calls Try.prog 37 #[.iface 44 (.slice p n c), .func lf la lb] w fun e w' => e = .returned (.tuple #[]) ∧ Below w.heap.size w w' := by
  refine h _ ?_
  have hbw : Below w.heap.size w (sliceWorld Try.prog Try.laysGg6_ren 44 p n c w) := ((Below.refl _ _).alloc (Nat.le_refl _) _).alloc (by simp) _
  refine (Try.pdqsort_func_tiny lf la lb f _ n h1 _ _).mono ?_
  rintro e w' ⟨rfl, rfl⟩
  refine ⟨rfl, (hbw.alloc (hbw.size) _).alloc ?_ _⟩
  have := hbw.size
  simp; omega
/-- None, or one. -/
theorem sslice_few {p : Option Addr} {n c : Nat} (w : World) (lf : Fn) (la lb : Array Value) (h1 : n ≤ 1) :
    Calls Try.prog 37 #[.iface 44 (.slice p n c), .func lf la lb] w fun e w' => e = .returned (.tuple #[]) ∧ Below w.heap.size w w' := by
  rcases (show n = 0 ∨ n = 1 by omega) with rfl | rfl
  · exact sslice_at w lf la lb (Nat.zero_le _) fun R => Any.sort_Slice_of_pdq Try.laysGg6 44 32 infS infE (by kernel_rfl) (by kernel_rfl) (by kernel_rfl) infE_is 25 (fun _ => by kernel_rfl) p 0 c (by omega) 64 (by kernel_rfl) lf la lb w R
  · exact sslice_at w lf la lb (Nat.le_refl _) fun R => Any.sort_Slice_of_pdq Try.laysGg6 44 32 infS infE (by kernel_rfl) (by kernel_rfl) (by kernel_rfl) infE_is 25 (fun _ => by kernel_rfl) p 1 c (by omega) 65 (by kernel_rfl) lf la lb w R
end Go.Proofs.Ytncjobhpiohkkaa
