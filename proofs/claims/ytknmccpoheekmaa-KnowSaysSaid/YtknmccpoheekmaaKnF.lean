/-
  Contract of know's firsts. No statement is proved here. Conditions: a table that may be.
-/
import Derived.Test.YtknmccpoheekmaaKnT
import Derived.Test.YtknmccpoheekmaaMid
import Derived.Test.YtknmccpoheekmaaRegC
import Derived.Test.YtknmccpoheekmaaMix
namespace Go.Proofs.Ytknmccpoheekmaa
open Go.RowKit

def th0 : Th := ⟨0, 0, 0, 0⟩
def nvI (l : List Nat) : List Value := l.map fun k : Nat => .int .i64 (k : Int)
def flatT (l : List Th) : List Value := (l.map Th.cells).flatten
theorem flatT_len (l : List Th) : (flatT l).length = l.length * 4 := by
  induction l with
  | nil => rfl
  | cons x l ih => rw [show flatT (x :: l) = x.cells ++ flatT l from rfl, List.length_append, ih, List.length_cons]; simp [Th.cells]; omega
theorem flatT_app (l m : List Th) : flatT (l ++ m) = flatT l ++ flatT m := by simp [flatT]
theorem flatT_at {l : List Th} {i : Nat} {x : Th} (h : l[i]? = some x) {j : Nat} {v : Value} (hj : x.cells[j]? = some v) : (flatT l)[i * 4 + j]? = some v := by
  have hlt := (List.getElem?_eq_some_iff.1 h).1
  have hj4 : j < 4 := by have := (List.getElem?_eq_some_iff.1 hj).1; simpa [Th.cells] using this
  have e : l = l.take i ++ x :: l.drop (i + 1) := by
    rw [← (List.getElem?_eq_some_iff.1 h).2, ← List.drop_eq_getElem_cons hlt, List.take_append_drop]
  rw [e, flatT_app, show flatT (x :: l.drop (i + 1)) = x.cells ++ flatT (l.drop (i + 1)) from rfl]
  have hl : (flatT (l.take i)).length = i * 4 := by rw [flatT_len, List.length_take]; congr 1; omega
  rw [List.getElem?_append_right (by omega), hl, Nat.add_sub_cancel_left, List.getElem?_append_left (by simp [Th.cells]; omega)]
  exact hj
theorem thp_row {w : World} {g : Nat} {l : List Th} {s : List Value} {T : TypeId} (h : Hid (w.heap[g]? = some (.cells (flatT l ++ s).toArray T (0, 0)))) : ThP w w.heap.size (some ⟨g, 0, none⟩) l := by
  have hat : ∀ i x, l[i]? = some x → ∀ j v, x.cells[j]? = some v → w.cell? ⟨g, 0 + i * 4 + j, none⟩ = some v := fun i x hx j v hj => by
    rw [cell_of_row _ _ _ _ _ _ h.out, Nat.zero_add]
    have h1 := flatT_at hx hj
    have h2 := (List.getElem?_eq_some_iff.1 h1).1
    rw [List.getElem?_toArray, List.getElem?_append_left h2]
    exact h1
  exact .inr ⟨g, 0, rfl, row_size h, fun i x hx => ⟨hat i x hx 0 _ rfl, hat i x hx 1 _ rfl, hat i x hx 2 _ rfl, hat i x hx 3 _ rfl⟩⟩
theorem inp_row {w : World} {g : Nat} {l : List Nat} {T : TypeId} (h : Hid (w.heap[g]? = some (.cells (nvI l).toArray T (0, 0)))) : InP w w.heap.size (some ⟨g, 0, none⟩) (l.map fun k : Nat => (k : Int)) :=
  .inr ⟨g, 0, rfl, row_size h, fun j x hx => by
    rw [cell_of_row _ _ _ _ _ _ h.out, Nat.zero_add]
    rw [List.getElem?_map, Option.map_eq_some_iff] at hx
    obtain ⟨k, hk, rfl⟩ := hx
    simp [nvI, hk]⟩
theorem nvI_at {w : World} {g : Nat} {l : List Nat} {T : TypeId} (h : Hid (w.heap[g]? = some (.cells (nvI l).toArray T (0, 0)))) (k : Nat) (hk : k < l.length) : w.cell? ⟨g, k, none⟩ = some (.int .i64 (l.getD k 0 : Nat)) := by
  rw [cell_of_row _ _ _ _ _ _ h.out]
  simp [nvI, List.getD_eq_getElem?_getD, hk]
theorem nvI_set (l : List Nat) (k x : Nat) : (nvI l).set k (.int .i64 (x : Int)) = nvI (l.set k x) := by rw [nvI, nvI, List.map_set]
theorem make_ints (w : World) (n : Nat) (hn : n ≤ 1048576) : (Instr.makeSlice 28 (.int .i64 (n : Int)) (.int .i64 (n : Int))).run Try.prog w = .ok (.slice (some ⟨w.heap.size, 0, none⟩) n n) (w.alloc (.cells (nvI (List.replicate n 0)).toArray 3)) := by
  obtain ⟨i, hi, hz, h1, h2⟩ := info_parts (show (Try.prog.info? 3).map (fun i => (i.zero, i.size, i.bytes)) = some (some (.int .i64 0), 1, 8) by kernel_rfl)
  have h := run_make (P := Try.prog) w 28 3 i (.int .i64 0) Try.underlying28 hi hz .i64 .i64 n n (by omega) (by omega) (by rw [h2]; omega) (by omega)
  simp only [Int.toNat_natCast] at h
  have e : madeCells (Value.int .i64 0).cells (n * i.size) = (nvI (List.replicate n 0)).toArray := by
    rw [h1, Nat.mul_one]
    apply Array.ext'
    show (madeCells #[Value.int .i64 0] n).toList = _
    rw [toList_madeCells_one]; simp [nvI]
  rwa [e] at h
theorem flat_zero (n : Nat) : flatT (List.replicate n th0) = List.replicate (n * 4) (.int .i64 0) := by
  induction n with
  | zero => rfl
  | succ n ih =>
    rw [List.replicate_succ, show flatT (th0 :: List.replicate n th0) = th0.cells ++ flatT (List.replicate n th0) from rfl, ih, show (n + 1) * 4 = 4 + n * 4 by omega, ← List.replicate_append_replicate]; rfl
theorem make_things (w : World) (n : Nat) (hn : n ≤ 1048576) : (Instr.makeSlice 25 (.int .i64 (n : Int)) (.int .i64 (n : Int))).run Try.prog w = .ok (.slice (some ⟨w.heap.size, 0, none⟩) n n) (w.alloc (.cells (flatT (List.replicate n th0)).toArray 24)) := by
  obtain ⟨i, hi, hz, h1, h2⟩ := info_parts (show (Try.prog.info? 24).map (fun i => (i.zero, i.size, i.bytes)) = some (some (.agg #[.int .i64 0, .int .i64 0, .int .i64 0, .int .i64 0]), 4, 32) by kernel_rfl)
  have h := run_make (P := Try.prog) w 25 24 i (.agg #[.int .i64 0, .int .i64 0, .int .i64 0, .int .i64 0]) Try.underlying25 hi hz .i64 .i64 n n (by omega) (by omega) (by rw [h2]; omega) (by omega)
  simp only [Int.toNat_natCast] at h
  have e : madeCells (Value.agg #[.int .i64 0, .int .i64 0, .int .i64 0, .int .i64 0]).cells (n * i.size) = (flatT (List.replicate n th0)).toArray := by
    rw [h1, flat_zero]
    apply Array.ext
    · simp [madeCells]
    · intro j hj1 hj2
      have hm : j % 4 < 4 := Nat.mod_lt _ (by decide)
      simp only [madeCells, Value.cells, Array.getElem_map, Array.getElem_range]
      have : ∀ k, k < 4 → (#[Value.int .i64 0, .int .i64 0, .int .i64 0, .int .i64 0])[k]! = .int .i64 0 := by
        intro k hk
        match k, hk with
        | 0, _ => rfl
        | 1, _ => rfl
        | 2, _ => rfl
        | 3, _ => rfl
      simp only [List.size_toArray, List.length_cons, List.length_nil] at this ⊢
      rw [this _ hm]
      simp
  rwa [e] at h
theorem wpList_store_thing {P : Program} {ops : Array Oper} {rest : List Oper} {o : Oper} {a : Act} {w : World} {Q : Exit → Act → World → Prop} (hgd : o.guard = none) (ty : TypeId) (x y : Operand) (ho : o.op = .store ty x y)
    (g off : Nat) (cells : List Value) (hx : a.eval x = .pointer (some ⟨g, off, none⟩)) (hy : a.eval y = .agg cells.toArray) (cur : List Value) (t : TypeId) (hg : w.heap[g]? = some (.cells cur.toArray t (0, 0)))
    (hfit : off + cells.length ≤ cur.length) (hi : (P.info? ty).map (·.size) = some cells.length) (h1 : ∀ v ∈ cells, v.oneCell' = true)
    (h : ∀ w', Hid (w'.heap[g]? = some (.cells (splice cur off cells).toArray t (0, 0))) → But g w w' → wpList P ops Q rest (a.put o.dst undef) w') : wpList P ops Q (o :: rest) a w :=
  wpList_plain hgd fun K hK => by
    refine wp_store_mid ty x y ho g off cells.toArray hx hy (fun j hj => ⟨?_, frozen_of_row _ _ _ _ _ hg⟩) (by simpa using hi) (all_oneCell_toArray h1) ?_
    · rw [cell_of_row _ _ _ _ _ _ hg]
      simp at hj ⊢; omega
    · have e := setCells_row hg cells hfit h1
      show K _ (w.setCells g off cells)
      rw [e]
      exact hK _ _ (h _ (setRow_heap _ _ _ _ _ _ hg) ((But.refl _ _).row _))
theorem Th.one (x : Th) : ∀ v ∈ x.cells, v.oneCell' = true := by
  intro v hv
  simp only [Th.cells, List.mem_cons, List.not_mem_nil, or_false] at hv
  rcases hv with rfl | rfl | rfl | rfl <;> rfl
theorem splice_thing (P Z : List Th) (z y : Th) (i : Nat) (hP : P.length = i) : splice (flatT (P ++ z :: Z)) (i * 4) y.cells = flatT (P ++ y :: Z) := by
  rw [flatT_app, flatT_app, show flatT (z :: Z) = z.cells ++ flatT Z from rfl, show flatT (y :: Z) = y.cells ++ flatT Z from rfl]
  rw [splice_mid (flatT P) z.cells (flatT Z) y.cells (i * 4) 0 (by rw [flatT_len, hP]; omega) (by simp [Th.cells])]
  rfl
theorem idx_app {x : Th} : ∀ {l m : List Th}, x ∈ l → idx x (l ++ m) = idx x l
  | [], _, h => absurd h (by simp)
  | y :: l, m, h => by
    rw [List.cons_append, idx, idx]
    split
    · rfl
    · rename_i e
      rcases List.mem_cons.1 h with h | h
      · exact absurd h.symm e
      · rw [idx_app h]
theorem built_thing (a b c : Int) : Try.prog.built 24 [(0, .int .i64 a), (1, .int .i64 b), (2, .int .i64 c)] = some (Th.mk a b c 0).cells.toArray := by kernel_rfl
theorem built_thing4 (b d : Int) : Try.prog.built 24 [(0, .int .i64 4), (1, .int .i64 b), (3, .int .i64 d)] = some (Th.mk 4 b 0 d).cells.toArray := by kernel_rfl
theorem set_mid (F Z : List Nat) (z J i : Nat) (h : F.length = i) : (F ++ z :: Z).set i J = F ++ J :: Z := by
  subst h
  rw [List.set_append_right _ _ (Nat.le_refl _), Nat.sub_self, List.set_cons_zero]
set_option maxRecDepth 100000 in
set_option maxHeartbeats 8000000 in
theorem firsts_any {w : World} {A : Option Addr} {t : List Th} {n : Nat} (c : Nat) (ht : ThP w w.heap.size A t) (hl : t.length = n) (hg : goodT t = true) :
    Calls Try.prog 21 #[.slice A n c] w fun e w' => e = .returned (.slice (some ⟨w.heap.size, 0, none⟩) n n) ∧ Hid (w'.heap[w.heap.size]? = some (.cells (nvI (firstsT t)).toArray 3 (0, 0))) ∧ Below w.heap.size w w' := by
  have hn : n ≤ 500 := by rw [← hl]; exact goodT_len hg
  have HN := Lib.hid hl
  have HG := vlt hg
  have hmk1 := make_ints w n (by omega)
  have hz1 := Lib.hid (heap_alloc_new w (.cells (nvI (List.replicate n 0)).toArray 3))
  have hbz1 : Below w.heap.size w (w.alloc (.cells (nvI (List.replicate n 0)).toArray 3)) := (Below.refl _ _).alloc (Nat.le_refl _) _
  have hsz1 : (w.alloc (.cells (nvI (List.replicate n 0)).toArray 3)).heap.size = w.heap.size + 1 := by simp
  generalize w.alloc (.cells (nvI (List.replicate n 0)).toArray 3) = w1 at *
  have hmk2 := make_things w1 n (by omega)
  have hz2 := Lib.hid (heap_alloc_new w1 (.cells (flatT (List.replicate n th0)).toArray 24))
  have hbz2 : Below w1.heap.size w1 (w1.alloc (.cells (flatT (List.replicate n th0)).toArray 24)) := (Below.refl _ _).alloc (Nat.le_refl _) _
  generalize w1.alloc (.cells (flatT (List.replicate n th0)).toArray 24) = w2 at *
  have hz12 := row_next2 hz1 hbz2
  rw [hsz1] at hmk2 hz2
  have hb02 := hbz1.trans (hbz2.mono (by omega))
  have hs2 := row_size hz2
  clear hl hg
  go_enter Try.func21, Try.ntmps21
  go_wp2
  go_loopg [5, 6, 15] n (fun k s5 s6 s15 wr => ∃ (i : Nat) (F : List Nat) (P : List Th), s15 = .int .i64 i ∧ n - i < k + 1 ∧ i ≤ n ∧ Vlt (fstate (t.take i) = (F, P)) ∧ Hid (wr.heap[w.heap.size]? = some (.cells (nvI (F ++ List.replicate (n - i) 0)).toArray 3 (0, 0))) ∧ Hid (wr.heap[w.heap.size + 1]? = some (.cells (flatT (P ++ List.replicate (n - i) th0)).toArray 24 (0, 0))) ∧ w.heap.size + 1 < wr.heap.size ∧ Below w.heap.size w wr)
  case atStart => exact ⟨0, [], [], rfl, by omega, Nat.zero_le _, vlt rfl, by simpa using hz12, by simpa using hz2, hs2, hb02⟩
  case round =>
    obtain ⟨i, F, P, rfl, hk, hin, HFP, hg1, hg2, hwr, hb⟩ := hrel
    have hFl : F.length = i := by
      have h := (fstate_len i (t.take i) (by rw [List.length_take, HN.out]; omega)).1
      rw [HFP.out] at h; exact h
    have hPl : P.length = i := by
      have h := (fstate_len i (t.take i) (by rw [List.length_take, HN.out]; omega)).2
      rw [HFP.out] at h; exact h
    by_cases hlt : i < n
    · have hltz : (i : Int) < (n : Int) := by omega
      have hi4 : n - i = n - (i + 1) + 1 := by omega
      rw [hi4, List.replicate_succ] at hg1 hg2
      obtain ⟨g, o2, x, rfl, hg, HX, c0, c1, c2, c3⟩ := (ht.below hb).at_ (i := i) (by rw [HN.out]; omega)
      have hfit := goodT_at HG.out HX.out
      obtain ⟨U, hU, hgX, hbU, hsU⟩ := one_new wr #[.int .i64 x.kind, .int .i64 x.a, .int .i64 x.b, .int .i64 x.n] 24
      have hbu := below_next hb hb.size hbU
      have hg1U := row_next2 hg1 hbU
      have hg2U := row_next2 hg2 hbU
      have hXs := row_size hgX
      have hgX' : ∀ W', But (w.heap.size + 1) U W' → Hid (W'.heap[wr.heap.size]? = _) := fun W' h => row_but hgX h (by omega)
      have fd0 : ∀ W', But (w.heap.size + 1) U W' → W'.cell? ⟨wr.heap.size, 0, none⟩ = some (.int .i64 x.kind) := fun W' h => by rw [cell_of_row _ _ _ _ _ _ (hgX' W' h).out]; rfl
      have fd1 : ∀ W', But (w.heap.size + 1) U W' → W'.cell? ⟨wr.heap.size, 1, none⟩ = some (.int .i64 x.a) := fun W' h => by rw [cell_of_row _ _ _ _ _ _ (hgX' W' h).out]; rfl
      have fd2 : ∀ W', But (w.heap.size + 1) U W' → W'.cell? ⟨wr.heap.size, 2, none⟩ = some (.int .i64 x.b) := fun W' h => by rw [cell_of_row _ _ _ _ _ _ (hgX' W' h).out]; rfl
      have fd3 : ∀ W', But (w.heap.size + 1) U W' → W'.cell? ⟨wr.heap.size, 3, none⟩ = some (.int .i64 x.n) := fun W' h => by rw [cell_of_row _ _ _ _ _ _ (hgX' W' h).out]; rfl
      have d0 := fd0 U (But.refl _ _)
      rw [fitsT] at hfit
      go_upto_region 6 with fail
      clear hU
      by_cases h1 : x.kind = 1
      · have hone : ∀ v ∈ [Value.int .i64 1, .int .i64 (i : Int), .int .i64 0, .int .i64 0], v.oneCell' = true := Th.one ⟨1, i, 0, 0⟩
        have hfl : i * 4 + [Value.int .i64 1, .int .i64 (i : Int), .int .i64 0, .int .i64 0].length ≤ (flatT (P ++ th0 :: List.replicate (n - (i + 1)) th0)).length := by rw [flatT_len]; simp [hPl]; omega
        go_upto_region 8 with fail
        go_upto_region 14 with (with_reducible refine wpList_store_thing rfl 24 (.tmp 28) (.tmp 27) rfl (w.heap.size + 1) (i * 4) [.int .i64 1, .int .i64 (i : Int), .int .i64 0, .int .i64 0] rfl rfl _ 24 hg2U.out hfl (by kernel_rfl) hone ?_; rintro w4 hg24' hk4)
        obtain ⟨Y, hYd⟩ : ∃ Y : Th, Y = ⟨1, i, 0, 0⟩ := ⟨_, rfl⟩
        have HY : Vlt (plainT F x i = Y) := vlt (by rw [plainT, if_pos h1, hYd])
        have hg24 : Hid (w4.heap[w.heap.size + 1]? = some (.cells (splice (flatT (P ++ th0 :: List.replicate (n - (i + 1)) th0)) (i * 4) Y.cells).toArray 24 (0, 0))) := by rw [hYd]; exact hg24'
        clear hg24' hYd hone hfl
        rw [splice_thing P (List.replicate (n - (i + 1)) th0) th0 Y i hPl] at hg24
        have hg14 := row_but hg1U hk4 (by omega)
        have hPY : Vlt (fstate (t.take (i + 1)) = (F ++ [idx Y (P ++ [Y])], P ++ [Y])) := vlt (by rw [fstate_step HX.out, HFP.out, fstep, hFl, HY.out])
        have hb4 := But.below hbu hk4 (by omega) hbu.size
        have hTP := thp_row (s := []) (by rw [List.append_nil]; exact hg24)
        have hR := hTP.range (i := i) (x := Y) (by rw [List.getElem?_append_right (by omega), hPl, Nat.sub_self]; rfl)
        have hr1 := hR _ (Below.refl _ _)
        have D1 := indexT_any (n := n) n hTP (by rw [List.length_append, List.length_cons, List.length_replicate]; omega) (by omega) Y (by simp)
        obtain ⟨J, hJ⟩ : ∃ J, idx Y (P ++ Y :: List.replicate (n - (i + 1)) th0) = J := ⟨_, rfl⟩
        have hJ2 : Vlt (idx Y (P ++ [Y]) = J) := vlt (by
          rw [← hJ, show P ++ Y :: List.replicate (n - (i + 1)) th0 = (P ++ [Y]) ++ List.replicate (n - (i + 1)) th0 by simp]
          exact (idx_app (by simp)).symm)
        rw [hJ] at D1
        have V1 := vlt D1
        have hs4 := hb4.size
        clear D1 hTP hR hJ
        go_wp2_with (first
          | (with_reducible refine wpList_load_mid rfl 24 (.tmp 66) rfl (w.heap.size + 1) (i * 4) rfl Y.cells _ (by rw [Nat.zero_add] at hr1; exact hr1) Try.underlying24 rfl (by kernel_rfl) ?_)
          | (go_at_call 28; refine V1.out.mono ?_; rintro e w5 ⟨rfl, hb5⟩; have hg15 := row_next2 hg14 hb5; have hg25 := row_next2 hg24 hb5; have c9 := nvI_at hg15 i (by rw [List.length_append, List.length_cons]; omega); have f9 := frozen_of_row _ _ i _ _ hg15.out; clear V1))
        have hset := world_set_cell hg15.out i (.int .i64 (J : Int))
        have hbt9 := (But.refl w.heap.size w5).set (i := i) (.int .i64 (J : Int))
        have hg29 := row_but hg25 hbt9 (by omega)
        have hb9 := But.below (below_next hb4 hb4.size hb5) hbt9 (Nat.le_refl _) (by have := hb5.size; omega)
        rw [nvI_set, set_mid F (List.replicate (n - (i + 1)) 0) 0 J i hFl] at hset
        have hPY2 : Vlt (fstate (t.take (i + 1)) = (F ++ [J], P ++ [Y])) := vlt (by rw [hPY.out, hJ2.out])
        have hlt9 := row_size hg29
        go_roundg (n - (i + 1))
        case measure => omega
        case rel => exact ⟨i + 1, F ++ [J], P ++ [Y], by go_num, by omega, by omega, hPY2, by rw [List.append_assoc]; exact hset, by rw [List.append_assoc]; exact hg29, hlt9, hb9⟩
      · by_cases h23 : x.kind = 2 ∨ x.kind = 3
        · rw [if_neg h1, if_pos h23, Bool.and_eq_true, below, below, Bool.and_eq_true, Bool.and_eq_true, decide_eq_true_iff, decide_eq_true_iff, decide_eq_true_iff, decide_eq_true_iff] at hfit
          obtain ⟨⟨ha0, hai⟩, hb0, hbi⟩ := hfit
          have han : x.a < (n : Int) := by omega
          have hbn : x.b < (n : Int) := by omega
          obtain ⟨na, hna⟩ : ∃ na, nat F x.a = na := ⟨_, rfl⟩
          have fka : ∀ W', But (w.heap.size + 1) U W' → W'.cell? ⟨w.heap.size, x.a.toNat, none⟩ = some (.int .i64 (na : Nat)) := fun W' h => by
            rw [← hna, nvI_at (row_but hg1U h (by omega)) x.a.toNat (by simp [hFl]; omega), nat, List.getD_eq_getElem?_getD, List.getD_eq_getElem?_getD, List.getElem?_append_left (by omega)]
          obtain ⟨nb, hnb⟩ : ∃ nb, nat F x.b = nb := ⟨_, rfl⟩
          have fkb : ∀ W', But (w.heap.size + 1) U W' → W'.cell? ⟨w.heap.size, x.b.toNat, none⟩ = some (.int .i64 (nb : Nat)) := fun W' h => by
            rw [← hnb, nvI_at (row_but hg1U h (by omega)) x.b.toNat (by simp [hFl]; omega), nat, List.getD_eq_getElem?_getD, List.getD_eq_getElem?_getD, List.getElem?_append_left (by omega)]
          obtain ⟨Y, hYd⟩ : ∃ Y : Th, Y = ⟨x.kind, na, nb, 0⟩ := ⟨_, rfl⟩
          have HY : Vlt (plainT F x i = Y) := vlt (by rw [plainT, if_neg h1, if_pos h23, hYd, hna, hnb])
          have hbd := Lib.hid (built_thing x.kind (na : Nat) (nb : Nat))
          rw [← hYd] at hbd
          clear hYd hna hnb
          have h23' : ¬ x.kind = 4 := by omega
          rcases h23 with h2 | h3
          · go_upto_region 11 with fail
            refine wp_region_held_drew (S := fun W' => But (w.heap.size + 1) U W') (by kernel_rfl) ((But.refl _ _).drew) (fun hHeld => ?_)
            refine wpAnyH_take (i := 0) (oi := ⟨(some 32), _, _, _, _, _⟩) (v := .slice (some ⟨(w.heap.size + 1), 0, none⟩) n n) rfl (by kernel_rfl) (by kernel_rfl) (by kernel_rfl) (fun _ _ _ h => h) (Or.inl ⟨by rfl, ?yr11_0⟩) hHeld ?_
            case yr11_0 => (intro W0 hSw; go_simp; try with_reducible rfl)
            try simp only [pu]
            refine wpAnyH_take (i := 1) (oi := ⟨(some 33), _, _, _, _, _⟩) (v := .int .i64 (i : Int)) rfl (by kernel_rfl) (by kernel_rfl) (by kernel_rfl) (fun _ _ _ h => h) (Or.inl ⟨by rfl, ?yr11_1⟩) hHeld ?_
            case yr11_1 => (intro W0 hSw; go_simp; try with_reducible rfl)
            try simp only [pu]
            refine wpAnyH_take (i := 2) (oi := ⟨(some 34), _, _, _, _, _⟩) (v := .pointer (some ⟨wr.heap.size, 0, none⟩)) rfl (by kernel_rfl) (by kernel_rfl) (by kernel_rfl) (fun _ _ _ h => h) (Or.inl ⟨by rfl, ?yr11_2⟩) hHeld ?_
            case yr11_2 => (intro W0 hSw; go_simp; try with_reducible rfl)
            try simp only [pu]
            refine wpAnyH_take (i := 3) (oi := ⟨(some 35), _, _, _, _, _⟩) (v := .int .i64 x.kind) rfl (by kernel_rfl) (by kernel_rfl) (by kernel_rfl) (fun _ _ _ h => h) (Or.inl ⟨by rfl, ?yr11_3⟩) hHeld ?_
            case yr11_3 => (intro W0 hSw; have cc := fd0 _ hSw; go_simp; try with_reducible rfl)
            try simp only [pu]
            refine wpAnyH_take (i := 4) (oi := ⟨(some 36), _, _, _, _, _⟩) (v := .slice (some ⟨w.heap.size, 0, none⟩) n n) rfl (by kernel_rfl) (by kernel_rfl) (by kernel_rfl) (fun _ _ _ h => h) (Or.inl ⟨by rfl, ?yr11_4⟩) hHeld ?_
            case yr11_4 => (intro W0 hSw; go_simp; try with_reducible rfl)
            try simp only [pu]
            refine wpAnyH_take (i := 5) (oi := ⟨(some 37), _, _, _, _, _⟩) (v := .pointer (some ⟨wr.heap.size, 1, none⟩)) rfl (by kernel_rfl) (by kernel_rfl) (by kernel_rfl) (fun _ _ _ h => h) (Or.inl ⟨by rfl, ?yr11_5⟩) hHeld ?_
            case yr11_5 => (intro W0 hSw; go_simp; try with_reducible rfl)
            try simp only [pu]
            refine wpAnyH_take (i := 6) (oi := ⟨(some 38), _, _, _, _, _⟩) (v := .int .i64 x.a) rfl (by kernel_rfl) (by kernel_rfl) (by kernel_rfl) (fun _ _ _ h => h) (Or.inl ⟨by rfl, ?yr11_6⟩) hHeld ?_
            case yr11_6 => (intro W0 hSw; have cc := fd1 _ hSw; go_simp; try with_reducible rfl)
            try simp only [pu]
            refine wpAnyH_take (i := 7) (oi := ⟨(some 39), _, _, _, _, _⟩) (v := .pointer (some ⟨w.heap.size, x.a.toNat, none⟩)) rfl (by kernel_rfl) (by kernel_rfl) (by kernel_rfl) (fun _ _ _ h => h) (Or.inl ⟨by rfl, ?yr11_7⟩) hHeld ?_
            case yr11_7 => (intro W0 hSw; go_simp; try with_reducible rfl)
            try simp only [pu]
            refine wpAnyH_take (i := 8) (oi := ⟨(some 40), _, _, _, _, _⟩) (v := .int .i64 (na : Nat)) rfl (by kernel_rfl) (by kernel_rfl) (by kernel_rfl) (fun _ _ _ h => h) (Or.inl ⟨by rfl, ?yr11_8⟩) hHeld ?_
            case yr11_8 => (intro W0 hSw; have cc := fka _ hSw; go_simp; try with_reducible rfl)
            try simp only [pu]
            refine wpAnyH_take (i := 9) (oi := ⟨(some 41), _, _, _, _, _⟩) (v := .slice (some ⟨w.heap.size, 0, none⟩) n n) rfl (by kernel_rfl) (by kernel_rfl) (by kernel_rfl) (fun _ _ _ h => h) (Or.inl ⟨by rfl, ?yr11_9⟩) hHeld ?_
            case yr11_9 => (intro W0 hSw; go_simp; try with_reducible rfl)
            try simp only [pu]
            refine wpAnyH_take (i := 10) (oi := ⟨(some 42), _, _, _, _, _⟩) (v := .pointer (some ⟨wr.heap.size, 2, none⟩)) rfl (by kernel_rfl) (by kernel_rfl) (by kernel_rfl) (fun _ _ _ h => h) (Or.inl ⟨by rfl, ?yr11_10⟩) hHeld ?_
            case yr11_10 => (intro W0 hSw; go_simp; try with_reducible rfl)
            try simp only [pu]
            refine wpAnyH_take (i := 11) (oi := ⟨(some 43), _, _, _, _, _⟩) (v := .int .i64 x.b) rfl (by kernel_rfl) (by kernel_rfl) (by kernel_rfl) (fun _ _ _ h => h) (Or.inl ⟨by rfl, ?yr11_11⟩) hHeld ?_
            case yr11_11 => (intro W0 hSw; have cc := fd2 _ hSw; go_simp; try with_reducible rfl)
            try simp only [pu]
            refine wpAnyH_take (i := 12) (oi := ⟨(some 44), _, _, _, _, _⟩) (v := .pointer (some ⟨w.heap.size, x.b.toNat, none⟩)) rfl (by kernel_rfl) (by kernel_rfl) (by kernel_rfl) (fun _ _ _ h => h) (Or.inl ⟨by rfl, ?yr11_12⟩) hHeld ?_
            case yr11_12 => (intro W0 hSw; go_simp; try with_reducible rfl)
            try simp only [pu]
            refine wpAnyH_take (i := 13) (oi := ⟨(some 45), _, _, _, _, _⟩) (v := .int .i64 (nb : Nat)) rfl (by kernel_rfl) (by kernel_rfl) (by kernel_rfl) (fun _ _ _ h => h) (Or.inl ⟨by rfl, ?yr11_13⟩) hHeld ?_
            case yr11_13 => (intro W0 hSw; have cc := fkb _ hSw; go_simp; try with_reducible rfl)
            try simp only [pu]
            refine wpAnyH_take (i := 14) (oi := ⟨(some 46), _, _, _, _, _⟩) (v := .agg Y.cells.toArray) rfl (by kernel_rfl) (by kernel_rfl) (by kernel_rfl) (fun _ _ _ h => h) (yields_build (by rfl) _ _ rfl [(0, .int .i64 x.kind), (1, .int .i64 (na : Nat)), (2, .int .i64 (nb : Nat))] (by rfl) _ hbd.out) hHeld ?_
            try simp only [pu]
            refine wpAnyH_take (i := 15) (oi := ⟨(some 47), _, _, _, _, _⟩) (v := .pointer (some ⟨(w.heap.size + 1), i * 4, none⟩)) rfl (by kernel_rfl) (by kernel_rfl) (by kernel_rfl) (fun _ _ _ h => h) (Or.inl ⟨by rfl, ?yr11_15⟩) hHeld ?_
            case yr11_15 => (intro W0 hSw; go_simp; try with_reducible rfl)
            try simp only [pu]
            refine wpAnyH_ready (rs := [16]) (by kernel_rfl) (by simp) ?_
            refine AllReadyH.cons (i := 16) (o := ⟨none, _, _, _, _, _⟩) rfl (fun K hK => ?_) AllReadyH.nil
            refine step_store_mid (by rfl) 24 (.tmp 47) (.tmp 46) rfl (w.heap.size + 1) (i * 4) Y.cells rfl rfl _ 24 (show U.drew.heap[(w.heap.size + 1)]? = _ from hg2U.out) (by rw [flatT_len]; simp [Th.cells, hPl]; omega) (by kernel_rfl) (Th.one Y) U (But.refl _ U).drew ?_
            intro w4 hg24 hk4
            refine hK.out _ _ (show But (w.heap.size + 1) U w4 from hk4) (fun hHeld => ?_)
            clear hK K
            try simp only [pu]
            refine wpAnyH_done (by kernel_rfl) ?_ _
            rw [splice_thing P (List.replicate (n - (i + 1)) th0) th0 Y i hPl] at hg24
            have hg14 := row_but hg1U hk4 (by omega)
            have hPY : Vlt (fstate (t.take (i + 1)) = (F ++ [idx Y (P ++ [Y])], P ++ [Y])) := vlt (by rw [fstate_step HX.out, HFP.out, fstep, hFl, HY.out])
            have hb4 := But.below hbu hk4 (by omega) hbu.size
            have hTP := thp_row (s := []) (by rw [List.append_nil]; exact hg24)
            have hR := hTP.range (i := i) (x := Y) (by rw [List.getElem?_append_right (by omega), hPl, Nat.sub_self]; rfl)
            have hr1 := hR _ (Below.refl _ _)
            have D1 := indexT_any (n := n) n hTP (by rw [List.length_append, List.length_cons, List.length_replicate]; omega) (by omega) Y (by simp)
            obtain ⟨J, hJ⟩ : ∃ J, idx Y (P ++ Y :: List.replicate (n - (i + 1)) th0) = J := ⟨_, rfl⟩
            have hJ2 : Vlt (idx Y (P ++ [Y]) = J) := vlt (by
              rw [← hJ, show P ++ Y :: List.replicate (n - (i + 1)) th0 = (P ++ [Y]) ++ List.replicate (n - (i + 1)) th0 by simp]
              exact (idx_app (by simp)).symm)
            rw [hJ] at D1
            have V1 := vlt D1
            have hs4 := hb4.size
            clear D1 hTP hR hJ
            go_wp2_with (first
              | (with_reducible refine wpList_load_mid rfl 24 (.tmp 66) rfl (w.heap.size + 1) (i * 4) rfl Y.cells _ (by rw [Nat.zero_add] at hr1; exact hr1) Try.underlying24 rfl (by kernel_rfl) ?_)
              | (go_at_call 28; refine V1.out.mono ?_; rintro e w5 ⟨rfl, hb5⟩; have hg15 := row_next2 hg14 hb5; have hg25 := row_next2 hg24 hb5; have c9 := nvI_at hg15 i (by rw [List.length_append, List.length_cons]; omega); have f9 := frozen_of_row _ _ i _ _ hg15.out; clear V1))
            have hset := world_set_cell hg15.out i (.int .i64 (J : Int))
            have hbt9 := (But.refl w.heap.size w5).set (i := i) (.int .i64 (J : Int))
            have hg29 := row_but hg25 hbt9 (by omega)
            have hb9 := But.below (below_next hb4 hb4.size hb5) hbt9 (Nat.le_refl _) (by have := hb5.size; omega)
            rw [nvI_set, set_mid F (List.replicate (n - (i + 1)) 0) 0 J i hFl] at hset
            have hPY2 : Vlt (fstate (t.take (i + 1)) = (F ++ [J], P ++ [Y])) := vlt (by rw [hPY.out, hJ2.out])
            have hlt9 := row_size hg29
            go_roundg (n - (i + 1))
            case measure => omega
            case rel => exact ⟨i + 1, F ++ [J], P ++ [Y], by go_num, by omega, by omega, hPY2, by rw [List.append_assoc]; exact hset, by rw [List.append_assoc]; exact hg29, hlt9, hb9⟩
          · have h2 : ¬ x.kind = 2 := by omega
            go_upto_region 11 with fail
            refine wp_region_held_drew (S := fun W' => But (w.heap.size + 1) U W') (by kernel_rfl) ((But.refl _ _).drew) (fun hHeld => ?_)
            refine wpAnyH_take (i := 0) (oi := ⟨(some 32), _, _, _, _, _⟩) (v := .slice (some ⟨(w.heap.size + 1), 0, none⟩) n n) rfl (by kernel_rfl) (by kernel_rfl) (by kernel_rfl) (fun _ _ _ h => h) (Or.inl ⟨by rfl, ?yr11_0⟩) hHeld ?_
            case yr11_0 => (intro W0 hSw; go_simp; try with_reducible rfl)
            try simp only [pu]
            refine wpAnyH_take (i := 1) (oi := ⟨(some 33), _, _, _, _, _⟩) (v := .int .i64 (i : Int)) rfl (by kernel_rfl) (by kernel_rfl) (by kernel_rfl) (fun _ _ _ h => h) (Or.inl ⟨by rfl, ?yr11_1⟩) hHeld ?_
            case yr11_1 => (intro W0 hSw; go_simp; try with_reducible rfl)
            try simp only [pu]
            refine wpAnyH_take (i := 2) (oi := ⟨(some 34), _, _, _, _, _⟩) (v := .pointer (some ⟨wr.heap.size, 0, none⟩)) rfl (by kernel_rfl) (by kernel_rfl) (by kernel_rfl) (fun _ _ _ h => h) (Or.inl ⟨by rfl, ?yr11_2⟩) hHeld ?_
            case yr11_2 => (intro W0 hSw; go_simp; try with_reducible rfl)
            try simp only [pu]
            refine wpAnyH_take (i := 3) (oi := ⟨(some 35), _, _, _, _, _⟩) (v := .int .i64 x.kind) rfl (by kernel_rfl) (by kernel_rfl) (by kernel_rfl) (fun _ _ _ h => h) (Or.inl ⟨by rfl, ?yr11_3⟩) hHeld ?_
            case yr11_3 => (intro W0 hSw; have cc := fd0 _ hSw; go_simp; try with_reducible rfl)
            try simp only [pu]
            refine wpAnyH_take (i := 4) (oi := ⟨(some 36), _, _, _, _, _⟩) (v := .slice (some ⟨w.heap.size, 0, none⟩) n n) rfl (by kernel_rfl) (by kernel_rfl) (by kernel_rfl) (fun _ _ _ h => h) (Or.inl ⟨by rfl, ?yr11_4⟩) hHeld ?_
            case yr11_4 => (intro W0 hSw; go_simp; try with_reducible rfl)
            try simp only [pu]
            refine wpAnyH_take (i := 5) (oi := ⟨(some 37), _, _, _, _, _⟩) (v := .pointer (some ⟨wr.heap.size, 1, none⟩)) rfl (by kernel_rfl) (by kernel_rfl) (by kernel_rfl) (fun _ _ _ h => h) (Or.inl ⟨by rfl, ?yr11_5⟩) hHeld ?_
            case yr11_5 => (intro W0 hSw; go_simp; try with_reducible rfl)
            try simp only [pu]
            refine wpAnyH_take (i := 6) (oi := ⟨(some 38), _, _, _, _, _⟩) (v := .int .i64 x.a) rfl (by kernel_rfl) (by kernel_rfl) (by kernel_rfl) (fun _ _ _ h => h) (Or.inl ⟨by rfl, ?yr11_6⟩) hHeld ?_
            case yr11_6 => (intro W0 hSw; have cc := fd1 _ hSw; go_simp; try with_reducible rfl)
            try simp only [pu]
            refine wpAnyH_take (i := 7) (oi := ⟨(some 39), _, _, _, _, _⟩) (v := .pointer (some ⟨w.heap.size, x.a.toNat, none⟩)) rfl (by kernel_rfl) (by kernel_rfl) (by kernel_rfl) (fun _ _ _ h => h) (Or.inl ⟨by rfl, ?yr11_7⟩) hHeld ?_
            case yr11_7 => (intro W0 hSw; go_simp; try with_reducible rfl)
            try simp only [pu]
            refine wpAnyH_take (i := 8) (oi := ⟨(some 40), _, _, _, _, _⟩) (v := .int .i64 (na : Nat)) rfl (by kernel_rfl) (by kernel_rfl) (by kernel_rfl) (fun _ _ _ h => h) (Or.inl ⟨by rfl, ?yr11_8⟩) hHeld ?_
            case yr11_8 => (intro W0 hSw; have cc := fka _ hSw; go_simp; try with_reducible rfl)
            try simp only [pu]
            refine wpAnyH_take (i := 9) (oi := ⟨(some 41), _, _, _, _, _⟩) (v := .slice (some ⟨w.heap.size, 0, none⟩) n n) rfl (by kernel_rfl) (by kernel_rfl) (by kernel_rfl) (fun _ _ _ h => h) (Or.inl ⟨by rfl, ?yr11_9⟩) hHeld ?_
            case yr11_9 => (intro W0 hSw; go_simp; try with_reducible rfl)
            try simp only [pu]
            refine wpAnyH_take (i := 10) (oi := ⟨(some 42), _, _, _, _, _⟩) (v := .pointer (some ⟨wr.heap.size, 2, none⟩)) rfl (by kernel_rfl) (by kernel_rfl) (by kernel_rfl) (fun _ _ _ h => h) (Or.inl ⟨by rfl, ?yr11_10⟩) hHeld ?_
            case yr11_10 => (intro W0 hSw; go_simp; try with_reducible rfl)
            try simp only [pu]
            refine wpAnyH_take (i := 11) (oi := ⟨(some 43), _, _, _, _, _⟩) (v := .int .i64 x.b) rfl (by kernel_rfl) (by kernel_rfl) (by kernel_rfl) (fun _ _ _ h => h) (Or.inl ⟨by rfl, ?yr11_11⟩) hHeld ?_
            case yr11_11 => (intro W0 hSw; have cc := fd2 _ hSw; go_simp; try with_reducible rfl)
            try simp only [pu]
            refine wpAnyH_take (i := 12) (oi := ⟨(some 44), _, _, _, _, _⟩) (v := .pointer (some ⟨w.heap.size, x.b.toNat, none⟩)) rfl (by kernel_rfl) (by kernel_rfl) (by kernel_rfl) (fun _ _ _ h => h) (Or.inl ⟨by rfl, ?yr11_12⟩) hHeld ?_
            case yr11_12 => (intro W0 hSw; go_simp; try with_reducible rfl)
            try simp only [pu]
            refine wpAnyH_take (i := 13) (oi := ⟨(some 45), _, _, _, _, _⟩) (v := .int .i64 (nb : Nat)) rfl (by kernel_rfl) (by kernel_rfl) (by kernel_rfl) (fun _ _ _ h => h) (Or.inl ⟨by rfl, ?yr11_13⟩) hHeld ?_
            case yr11_13 => (intro W0 hSw; have cc := fkb _ hSw; go_simp; try with_reducible rfl)
            try simp only [pu]
            refine wpAnyH_take (i := 14) (oi := ⟨(some 46), _, _, _, _, _⟩) (v := .agg Y.cells.toArray) rfl (by kernel_rfl) (by kernel_rfl) (by kernel_rfl) (fun _ _ _ h => h) (yields_build (by rfl) _ _ rfl [(0, .int .i64 x.kind), (1, .int .i64 (na : Nat)), (2, .int .i64 (nb : Nat))] (by rfl) _ hbd.out) hHeld ?_
            try simp only [pu]
            refine wpAnyH_take (i := 15) (oi := ⟨(some 47), _, _, _, _, _⟩) (v := .pointer (some ⟨(w.heap.size + 1), i * 4, none⟩)) rfl (by kernel_rfl) (by kernel_rfl) (by kernel_rfl) (fun _ _ _ h => h) (Or.inl ⟨by rfl, ?yr11_15⟩) hHeld ?_
            case yr11_15 => (intro W0 hSw; go_simp; try with_reducible rfl)
            try simp only [pu]
            refine wpAnyH_ready (rs := [16]) (by kernel_rfl) (by simp) ?_
            refine AllReadyH.cons (i := 16) (o := ⟨none, _, _, _, _, _⟩) rfl (fun K hK => ?_) AllReadyH.nil
            refine step_store_mid (by rfl) 24 (.tmp 47) (.tmp 46) rfl (w.heap.size + 1) (i * 4) Y.cells rfl rfl _ 24 (show U.drew.heap[(w.heap.size + 1)]? = _ from hg2U.out) (by rw [flatT_len]; simp [Th.cells, hPl]; omega) (by kernel_rfl) (Th.one Y) U (But.refl _ U).drew ?_
            intro w4 hg24 hk4
            refine hK.out _ _ (show But (w.heap.size + 1) U w4 from hk4) (fun hHeld => ?_)
            clear hK K
            try simp only [pu]
            refine wpAnyH_done (by kernel_rfl) ?_ _
            rw [splice_thing P (List.replicate (n - (i + 1)) th0) th0 Y i hPl] at hg24
            have hg14 := row_but hg1U hk4 (by omega)
            have hPY : Vlt (fstate (t.take (i + 1)) = (F ++ [idx Y (P ++ [Y])], P ++ [Y])) := vlt (by rw [fstate_step HX.out, HFP.out, fstep, hFl, HY.out])
            have hb4 := But.below hbu hk4 (by omega) hbu.size
            have hTP := thp_row (s := []) (by rw [List.append_nil]; exact hg24)
            have hR := hTP.range (i := i) (x := Y) (by rw [List.getElem?_append_right (by omega), hPl, Nat.sub_self]; rfl)
            have hr1 := hR _ (Below.refl _ _)
            have D1 := indexT_any (n := n) n hTP (by rw [List.length_append, List.length_cons, List.length_replicate]; omega) (by omega) Y (by simp)
            obtain ⟨J, hJ⟩ : ∃ J, idx Y (P ++ Y :: List.replicate (n - (i + 1)) th0) = J := ⟨_, rfl⟩
            have hJ2 : Vlt (idx Y (P ++ [Y]) = J) := vlt (by
              rw [← hJ, show P ++ Y :: List.replicate (n - (i + 1)) th0 = (P ++ [Y]) ++ List.replicate (n - (i + 1)) th0 by simp]
              exact (idx_app (by simp)).symm)
            rw [hJ] at D1
            have V1 := vlt D1
            have hs4 := hb4.size
            clear D1 hTP hR hJ
            go_wp2_with (first
              | (with_reducible refine wpList_load_mid rfl 24 (.tmp 66) rfl (w.heap.size + 1) (i * 4) rfl Y.cells _ (by rw [Nat.zero_add] at hr1; exact hr1) Try.underlying24 rfl (by kernel_rfl) ?_)
              | (go_at_call 28; refine V1.out.mono ?_; rintro e w5 ⟨rfl, hb5⟩; have hg15 := row_next2 hg14 hb5; have hg25 := row_next2 hg24 hb5; have c9 := nvI_at hg15 i (by rw [List.length_append, List.length_cons]; omega); have f9 := frozen_of_row _ _ i _ _ hg15.out; clear V1))
            have hset := world_set_cell hg15.out i (.int .i64 (J : Int))
            have hbt9 := (But.refl w.heap.size w5).set (i := i) (.int .i64 (J : Int))
            have hg29 := row_but hg25 hbt9 (by omega)
            have hb9 := But.below (below_next hb4 hb4.size hb5) hbt9 (Nat.le_refl _) (by have := hb5.size; omega)
            rw [nvI_set, set_mid F (List.replicate (n - (i + 1)) 0) 0 J i hFl] at hset
            have hPY2 : Vlt (fstate (t.take (i + 1)) = (F ++ [J], P ++ [Y])) := vlt (by rw [hPY.out, hJ2.out])
            have hlt9 := row_size hg29
            go_roundg (n - (i + 1))
            case measure => omega
            case rel => exact ⟨i + 1, F ++ [J], P ++ [Y], by go_num, by omega, by omega, hPY2, by rw [List.append_assoc]; exact hset, by rw [List.append_assoc]; exact hg29, hlt9, hb9⟩
        · rw [if_neg h1, if_neg h23] at hfit
          by_cases h4 : x.kind = 4
          · rw [if_pos h4, below, Bool.and_eq_true, decide_eq_true_iff, decide_eq_true_iff] at hfit
            obtain ⟨ha0, hai⟩ := hfit
            have han : x.a < (n : Int) := by omega
            obtain ⟨na, hna⟩ : ∃ na, nat F x.a = na := ⟨_, rfl⟩
            have fka : ∀ W', But (w.heap.size + 1) U W' → W'.cell? ⟨w.heap.size, x.a.toNat, none⟩ = some (.int .i64 (na : Nat)) := fun W' h => by
              rw [← hna, nvI_at (row_but hg1U h (by omega)) x.a.toNat (by simp [hFl]; omega), nat, List.getD_eq_getElem?_getD, List.getD_eq_getElem?_getD, List.getElem?_append_left (by omega)]
            obtain ⟨Y, hYd⟩ : ∃ Y : Th, Y = ⟨4, na, 0, x.n⟩ := ⟨_, rfl⟩
            have HY : Vlt (plainT F x i = Y) := vlt (by rw [plainT, if_neg h1, if_neg h23, hYd, hna])
            have hbd := Lib.hid (built_thing4 (na : Nat) x.n)
            rw [← hYd] at hbd
            clear hYd hna
            have h2 : ¬ x.kind = 2 := by omega
            have h3 : ¬ x.kind = 3 := by omega
            go_upto_region 13 with fail
            refine wp_region_held_drew (S := fun W' => But (w.heap.size + 1) U W') (by kernel_rfl) ((But.refl _ _).drew) (fun hHeld => ?_)
            refine wpAnyH_take (i := 0) (oi := ⟨(some 50), _, _, _, _, _⟩) (v := .slice (some ⟨(w.heap.size + 1), 0, none⟩) n n) rfl (by kernel_rfl) (by kernel_rfl) (by kernel_rfl) (fun _ _ _ h => h) (Or.inl ⟨by rfl, ?yr13_0⟩) hHeld ?_
            case yr13_0 => (intro W0 hSw; go_simp; try with_reducible rfl)
            try simp only [pu]
            refine wpAnyH_take (i := 1) (oi := ⟨(some 51), _, _, _, _, _⟩) (v := .int .i64 (i : Int)) rfl (by kernel_rfl) (by kernel_rfl) (by kernel_rfl) (fun _ _ _ h => h) (Or.inl ⟨by rfl, ?yr13_1⟩) hHeld ?_
            case yr13_1 => (intro W0 hSw; go_simp; try with_reducible rfl)
            try simp only [pu]
            refine wpAnyH_take (i := 2) (oi := ⟨(some 52), _, _, _, _, _⟩) (v := .slice (some ⟨w.heap.size, 0, none⟩) n n) rfl (by kernel_rfl) (by kernel_rfl) (by kernel_rfl) (fun _ _ _ h => h) (Or.inl ⟨by rfl, ?yr13_2⟩) hHeld ?_
            case yr13_2 => (intro W0 hSw; go_simp; try with_reducible rfl)
            try simp only [pu]
            refine wpAnyH_take (i := 3) (oi := ⟨(some 53), _, _, _, _, _⟩) (v := .pointer (some ⟨wr.heap.size, 1, none⟩)) rfl (by kernel_rfl) (by kernel_rfl) (by kernel_rfl) (fun _ _ _ h => h) (Or.inl ⟨by rfl, ?yr13_3⟩) hHeld ?_
            case yr13_3 => (intro W0 hSw; go_simp; try with_reducible rfl)
            try simp only [pu]
            refine wpAnyH_take (i := 4) (oi := ⟨(some 54), _, _, _, _, _⟩) (v := .int .i64 x.a) rfl (by kernel_rfl) (by kernel_rfl) (by kernel_rfl) (fun _ _ _ h => h) (Or.inl ⟨by rfl, ?yr13_4⟩) hHeld ?_
            case yr13_4 => (intro W0 hSw; have cc := fd1 _ hSw; go_simp; try with_reducible rfl)
            try simp only [pu]
            refine wpAnyH_take (i := 5) (oi := ⟨(some 55), _, _, _, _, _⟩) (v := .pointer (some ⟨w.heap.size, x.a.toNat, none⟩)) rfl (by kernel_rfl) (by kernel_rfl) (by kernel_rfl) (fun _ _ _ h => h) (Or.inl ⟨by rfl, ?yr13_5⟩) hHeld ?_
            case yr13_5 => (intro W0 hSw; go_simp; try with_reducible rfl)
            try simp only [pu]
            refine wpAnyH_take (i := 6) (oi := ⟨(some 56), _, _, _, _, _⟩) (v := .int .i64 (na : Nat)) rfl (by kernel_rfl) (by kernel_rfl) (by kernel_rfl) (fun _ _ _ h => h) (Or.inl ⟨by rfl, ?yr13_6⟩) hHeld ?_
            case yr13_6 => (intro W0 hSw; have cc := fka _ hSw; go_simp; try with_reducible rfl)
            try simp only [pu]
            refine wpAnyH_take (i := 7) (oi := ⟨(some 57), _, _, _, _, _⟩) (v := .pointer (some ⟨wr.heap.size, 3, none⟩)) rfl (by kernel_rfl) (by kernel_rfl) (by kernel_rfl) (fun _ _ _ h => h) (Or.inl ⟨by rfl, ?yr13_7⟩) hHeld ?_
            case yr13_7 => (intro W0 hSw; go_simp; try with_reducible rfl)
            try simp only [pu]
            refine wpAnyH_take (i := 8) (oi := ⟨(some 58), _, _, _, _, _⟩) (v := .int .i64 x.n) rfl (by kernel_rfl) (by kernel_rfl) (by kernel_rfl) (fun _ _ _ h => h) (Or.inl ⟨by rfl, ?yr13_8⟩) hHeld ?_
            case yr13_8 => (intro W0 hSw; have cc := fd3 _ hSw; go_simp; try with_reducible rfl)
            try simp only [pu]
            refine wpAnyH_take (i := 9) (oi := ⟨(some 59), _, _, _, _, _⟩) (v := .agg Y.cells.toArray) rfl (by kernel_rfl) (by kernel_rfl) (by kernel_rfl) (fun _ _ _ h => h) (yields_build (by rfl) _ _ rfl [(0, .int .i64 4), (1, .int .i64 (na : Nat)), (3, .int .i64 x.n)] (by rfl) _ hbd.out) hHeld ?_
            try simp only [pu]
            refine wpAnyH_take (i := 10) (oi := ⟨(some 60), _, _, _, _, _⟩) (v := .pointer (some ⟨(w.heap.size + 1), i * 4, none⟩)) rfl (by kernel_rfl) (by kernel_rfl) (by kernel_rfl) (fun _ _ _ h => h) (Or.inl ⟨by rfl, ?yr13_10⟩) hHeld ?_
            case yr13_10 => (intro W0 hSw; go_simp; try with_reducible rfl)
            try simp only [pu]
            refine wpAnyH_ready (rs := [11]) (by kernel_rfl) (by simp) ?_
            refine AllReadyH.cons (i := 11) (o := ⟨none, _, _, _, _, _⟩) rfl (fun K hK => ?_) AllReadyH.nil
            refine step_store_mid (by rfl) 24 (.tmp 60) (.tmp 59) rfl (w.heap.size + 1) (i * 4) Y.cells rfl rfl _ 24 (show U.drew.heap[(w.heap.size + 1)]? = _ from hg2U.out) (by rw [flatT_len]; simp [Th.cells, hPl]; omega) (by kernel_rfl) (Th.one Y) U (But.refl _ U).drew ?_
            intro w4 hg24 hk4
            refine hK.out _ _ (show But (w.heap.size + 1) U w4 from hk4) (fun hHeld => ?_)
            clear hK K
            try simp only [pu]
            refine wpAnyH_done (by kernel_rfl) ?_ _
            rw [splice_thing P (List.replicate (n - (i + 1)) th0) th0 Y i hPl] at hg24
            have hg14 := row_but hg1U hk4 (by omega)
            have hPY : Vlt (fstate (t.take (i + 1)) = (F ++ [idx Y (P ++ [Y])], P ++ [Y])) := vlt (by rw [fstate_step HX.out, HFP.out, fstep, hFl, HY.out])
            have hb4 := But.below hbu hk4 (by omega) hbu.size
            have hTP := thp_row (s := []) (by rw [List.append_nil]; exact hg24)
            have hR := hTP.range (i := i) (x := Y) (by rw [List.getElem?_append_right (by omega), hPl, Nat.sub_self]; rfl)
            have hr1 := hR _ (Below.refl _ _)
            have D1 := indexT_any (n := n) n hTP (by rw [List.length_append, List.length_cons, List.length_replicate]; omega) (by omega) Y (by simp)
            obtain ⟨J, hJ⟩ : ∃ J, idx Y (P ++ Y :: List.replicate (n - (i + 1)) th0) = J := ⟨_, rfl⟩
            have hJ2 : Vlt (idx Y (P ++ [Y]) = J) := vlt (by
              rw [← hJ, show P ++ Y :: List.replicate (n - (i + 1)) th0 = (P ++ [Y]) ++ List.replicate (n - (i + 1)) th0 by simp]
              exact (idx_app (by simp)).symm)
            rw [hJ] at D1
            have V1 := vlt D1
            have hs4 := hb4.size
            clear D1 hTP hR hJ
            go_wp2_with (first
              | (with_reducible refine wpList_load_mid rfl 24 (.tmp 66) rfl (w.heap.size + 1) (i * 4) rfl Y.cells _ (by rw [Nat.zero_add] at hr1; exact hr1) Try.underlying24 rfl (by kernel_rfl) ?_)
              | (go_at_call 28; refine V1.out.mono ?_; rintro e w5 ⟨rfl, hb5⟩; have hg15 := row_next2 hg14 hb5; have hg25 := row_next2 hg24 hb5; have c9 := nvI_at hg15 i (by rw [List.length_append, List.length_cons]; omega); have f9 := frozen_of_row _ _ i _ _ hg15.out; clear V1))
            have hset := world_set_cell hg15.out i (.int .i64 (J : Int))
            have hbt9 := (But.refl w.heap.size w5).set (i := i) (.int .i64 (J : Int))
            have hg29 := row_but hg25 hbt9 (by omega)
            have hb9 := But.below (below_next hb4 hb4.size hb5) hbt9 (Nat.le_refl _) (by have := hb5.size; omega)
            rw [nvI_set, set_mid F (List.replicate (n - (i + 1)) 0) 0 J i hFl] at hset
            have hPY2 : Vlt (fstate (t.take (i + 1)) = (F ++ [J], P ++ [Y])) := vlt (by rw [hPY.out, hJ2.out])
            have hlt9 := row_size hg29
            go_roundg (n - (i + 1))
            case measure => omega
            case rel => exact ⟨i + 1, F ++ [J], P ++ [Y], by go_num, by omega, by omega, hPY2, by rw [List.append_assoc]; exact hset, by rw [List.append_assoc]; exact hg29, hlt9, hb9⟩
          · rw [if_neg h4] at hfit
            cases hfit
    · have hltz : ¬ (i : Int) < (n : Int) := by omega
      have hi : i = n := by omega
      subst hi
      have HE : Vlt (F = firstsT t) := vlt (by
        have h := HFP.out
        rw [List.take_of_length_le (by rw [HN.out]; omega)] at h
        rw [firstsT, h])
      rw [Nat.sub_self, List.replicate_zero, List.append_nil, HE.out] at hg1
      go_wp2
      go_ret
      exact ⟨rfl, hg1, hb⟩
end Go.Proofs.Ytknmccpoheekmaa
