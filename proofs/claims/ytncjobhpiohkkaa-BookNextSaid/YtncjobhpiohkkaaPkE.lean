/-
  Words and contracts that other texts share, several in one text. No statement of the seat is proved here. Conditions: as each contract says.
  Rows of edits of one's own, put behind one another and sorted. No statement is proved here. Conditions: fewer than 2^20 of them, no two of one number.
  Contract of book's All. No statement is proved here. Conditions: none.
  Contract of book's Vec. Conditions: none.
  Contract of book's Next. Conditions: none.
  Contracts of book's Value, and of Next of a device that is none. No statement is proved here. Conditions: none.
  Contract of book's Contacts. No statement is proved here. Conditions: none.
  Contracts of book's New, Edits, Copy, and of slices.Clone at edits. No statement is proved here. Conditions: none.
  Contract of law 17's awake. No statement is proved here. Conditions: none.
  Contract of book's Fields. No statement is proved here. Conditions: none.
  Contracts of slices.Equal at edits, of book's Same. Conditions: fewer than 2^20 edits.
  Contract of book's Merge. No statement is proved here. Conditions: none.
  Contract of law 17's long. No statement is proved here. Conditions: a vector of eight.
-/
import Derived.Test.YtncjobhpiohkkaaPkD
import Derived.Test.YtncjobhpiohkkaaPkA
import Derived.Lib.SliceRun
namespace Go.Proofs.Ytncjobhpiohkkaa
open Go.RowKit Go.Sort

def Edo (w : World) (B : Nat) (A : Option Addr) (n c : Nat) (T : List Ed) : Prop :=
  (w.ownsRow 0 32 15 (.slice A n c) n (flatE T) ∧ T.length = n ∧ Se T) ∧ ∀ p, A = some p → B ≤ p.block
theorem Edo.nil (w : World) (B : Nat) : Edo w B none 0 0 [] := ⟨⟨World.ownsRow_nil _ _ _ _, rfl, fun x hx => absurd hx (by simp)⟩, fun p h => by cases h⟩
theorem Edo.next {w w' : World} {B n c : Nat} {A : Option Addr} {T : List Ed} (h : Edo w B A n c T) (hb : Below w.heap.size w w') : Edo w' B A n c T :=
  ⟨⟨own_next h.1.1 fun p hp => hb.block _ (own_lt h.1.1 p hp), h.1.2⟩, h.2⟩
theorem Edo.but {w w' : World} {B n c g : Nat} {A : Option Addr} {T : List Ed} (h : Edo w B A n c T) (hb : But g w w') (hg : g < B) : Edo w' B A n c T :=
  ⟨⟨own_next h.1.1 fun p hp => hb.block _ (own_lt h.1.1 p hp) (fun e => by injection e with e; have := h.2 p hp; omega), h.1.2⟩, h.2⟩
theorem edo_push {w : World} {B n c : Nat} {A : Option Addr} {T : List Ed} (h : Edo w B A n c T) (hB : B ≤ w.heap.size) (hn : n ≤ 1048576) (x : Ed) (hx : x.seen.length = 8) :
    ∃ A' c' w', (Builtin.append_ #[44, 44] 44 #[.slice A n c, .slice (some ⟨w.heap.size, 0, none⟩) 1 1]).run Try.prog (w.alloc (.cells x.cells.toArray 32)) = .ok (.slice A' (n + 1) c') w' ∧ Edo w' B A' (n + 1) c' (T ++ [x]) ∧ Below B w w' := by
  have hown := h.1.1.alloc (.cells x.cells.toArray 32)
  obtain ⟨A', c', w2, hrun, hown2, hgr, hpl, h5⟩ := append_big (P := Try.prog) (ty := 44) _ Try.underlying44 edit_info (by kernel_rfl) (by omega) hown ⟨w.heap.size, 0, none⟩ 1 1 x.cells (by rw [Ed.cells_len hx]) (ed_cells_at (heap_alloc_new w _)) (Ed.cells_one x) (by omega) (by omega)
  have hbw : Below B w (w.alloc (.cells x.cells.toArray 32)) := (Below.refl _ _).alloc hB _
  refine ⟨A', c', w2, hrun, ⟨⟨by rw [flatE_app]; simpa [flatE] using hown2, by simp [h.1.2.1], fun y hy => ?_⟩, fun p hp => ?_⟩, (grown_off hgr).below hbw (fun i hi => ?_) (Nat.le_trans hB hbw.size)⟩
  · rcases List.mem_append.1 hy with hy | hy
    · exact h.1.2.2 y hy
    · rw [List.mem_singleton] at hy; rw [hy]; exact hx
  · rcases hpl p hp with ⟨q, hq, he⟩ | hge
    · rw [he]; exact h.2 q hq
    · simp at hge; omega
  · obtain ⟨q, hq, rfl⟩ := hi
    exact h.2 q hq
/-- The sort of such a row; the variable that the closure reads lies at V. -/
theorem sort_edo {w : World} {B V n c : Nat} {A : Option Addr} {T : List Ed} (h : Edo w B A n c T) (hB : B ≤ w.heap.size) (hVB : V < B) (hn : n ≤ 1048576) (hV : Hid (w.heap[V]? = some (.cells #[.slice A n c] 44 (0, 0)))) (hT : T.Pairwise (fun a b => eless a b = true ∨ eless b a = true)) :
    Calls Try.prog 37 #[.iface 44 (.slice A n c), .func (.func 38) #[] #[.pointer (some ⟨V, 0, none⟩)]] w fun e w' => e = .returned (.tuple #[]) ∧ ∃ M, Vlt (M.Pairwise (fun a b => eless a b = true) ∧ (∀ x, x ∈ M ↔ x ∈ T) ∧ Se M ∧ M.length = n) ∧ ER w' A M ∧ Below B w w' := by
  by_cases h2 : n ≤ 1
  · refine (sslice_few w _ _ _ h2).mono ?_
    rintro e w' ⟨rfl, hb⟩
    refine ⟨rfl, T, vlt ⟨?_, fun x => Iff.rfl, h.1.2.2, h.1.2.1⟩, (own_er h.1.1 h.1.2.1).next hb, hb.mono hB⟩
    match T, h.1.2.1 with
    | [], _ => exact List.Pairwise.nil
    | [x], _ => exact List.pairwise_singleton ..
    | x :: y :: l, hl => simp at hl; omega
  · rcases h.1.1.2 with ⟨_, h0⟩ | ⟨g, cap, cur, hv, _, hg, _, _, _, ht⟩
    · omega
    · simp only [Value.slice.injEq] at hv
      obtain ⟨rfl, _, rfl⟩ := hv
      have hgB := h.2 _ rfl
      have hrow : w.heap[g]? = some (.cells (flatE T ++ cur.toList.drop (n * 15)).toArray 32 (0, 0)) := by
        rw [← ht, List.take_append_drop]; simpa using hg
      have hA : SrtAt w.heap.size V g n c (cur.toList.drop (n * 15)) T.toArray w := ⟨hV, Lib.hid hrow, by simpa using h.1.2.1, by simpa using h.1.2.2, Nat.le_refl _⟩
      refine (sslice_any hA (by omega) (by simp at hgB; omega) (by omega) (by omega)).mono ?_
      rintro e w' ⟨rfl, ⟨R, hR, hP, hS⟩, hbt⟩
      have hlen := hR.len
      have hperm : R.toList.Perm T := by
        have h3 := hP.2.2
        have e1 : R.extract 0 n = R := by rw [← hlen]; simp
        have e2 : T.toArray.extract 0 n = T.toArray := by rw [← h.1.2.1]; simp
        rw [e1, e2] at h3
        simpa using h3
      have hM : ∀ x, x ∈ R.toList ↔ x ∈ T := fun x => hperm.mem_iff
      have hRT : R.toList.Pairwise (fun a b => eless a b = true ∨ eless b a = true) := hperm.symm.pairwise hT Or.symm
      refine ⟨rfl, R.toList, vlt ⟨?_, hM, hR.se, by simpa using hlen⟩, .inr ⟨g, _, rfl, hR.row⟩, But.below (Below.refl B w) hbt (by simpa using hgB) hB⟩
      rw [List.pairwise_iff_getElem] at hRT ⊢
      intro i j hi hj hij
      have h4 := hS i j (Nat.zero_le _) hij (by simp at hj; omega)
      have hi2 : i < R.size := by simpa using hi
      have hj2 : j < R.size := by simpa using hj
      rw [getElem!_pos R j hj2, getElem!_pos R i hi2] at h4
      rcases hRT i j hi hj hij with h5 | h5
      · exact h5
      · rw [Array.getElem_toList, Array.getElem_toList] at h5
        rw [h4] at h5; cases h5
/-- The slice of one edit, made, in a region in the text's order. -/
theorem wpList_one_edit {ops : Array Oper} {rest : List Oper} {o : Oper} {a : Act} {w : World} {Q : Exit → Act → World → Prop} (hgd : o.guard = none) (x : Operand) (ho : o.op = .buildSlice 44 1 #[(0, x)]) (e : Ed) (he : e.seen.length = 8) (hx : a.eval x = .agg e.cells.toArray)
    (h : wpList Try.prog ops Q rest (a.put o.dst (.slice (some ⟨w.heap.size, 0, none⟩) 1 1)) (w.alloc (.cells e.cells.toArray 32))) : wpList Try.prog ops Q (o :: rest) a w :=
  wpList_plain hgd fun K hK => by
    obtain ⟨i0, hi0, hz0, hzs, hzb⟩ := info_parts edit_info
    have hf := fill_one e.cells (Ed.cells_len he)
    have hrun : (Instr.buildSlice 44 1 #[(0, .agg e.cells.toArray)]).run Try.prog w = .ok (.slice (some ⟨w.heap.size, 0, none⟩) 1 1) (w.alloc (.cells e.cells.toArray 32)) := by
      simp [Instr.buildSlice, run_underlying Try.underlying44, sizeOf, typeInfo, zeroValue, hi0, hz0, hzs, hf, newRow]
    unfold Oper.wp execOp
    simp only [ho, List.map_toArray, List.map_cons, List.map_nil, hx, Sem.run_bind, hrun, Result.andThen_ok, Sem.run_pure]
    exact hK _ _ h
end Go.Proofs.Ytncjobhpiohkkaa
namespace Go.Proofs.Ytncjobhpiohkkaa
open Go.RowKit

theorem take_map {α β : Type} {M : List α} {i : Nat} {x : α} (f : α → β) (hx : M[i]? = some x) : (M.take (i + 1)).map f = (M.take i).map f ++ [f x] := by
  rw [List.take_add_one, hx, List.map_append]; rfl
theorem Txo.tr {w : World} {B n c : Nat} {A : Option Addr} {T : List ByteArray} (h : Txo w B A n c T) : TR w A T := by
  have hl := h.len
  rcases h.1.2 with ⟨h1, h2⟩ | ⟨g, cap, cur, h1, _, hg, _, _, _, ht⟩
  · exact .inl (List.eq_nil_of_length_eq_zero (by omega))
  · simp only [Value.slice.injEq] at h1
    refine .inr ⟨g, cur.toList.drop (n * 1), h1.1, Lib.hid ?_⟩
    rw [← ht, List.take_append_drop]
    simpa using hg
theorem ball_of {L M : List Ed} {q f : ByteArray} (hL : BGood L) (h1 : M.Pairwise (fun a b => eless a b = true)) (h2 : ∀ x, x ∈ M ↔ x ∈ L.filter (fun x => (decide (x.con = q) && decide (x.fld = f)) && isLive L x)) : M.map (·.val) = ball L q f := by
  rw [ball]
  refine congrArg _ (sorted_ext eless_strict h1 (ball_filter hL) fun x => ?_)
  rw [h2, mem_ball, List.mem_filter, Bool.and_eq_true, Bool.and_eq_true, decide_eq_true_iff, decide_eq_true_iff]
  constructor
  · rintro ⟨a, ⟨b, c⟩, d⟩; exact ⟨⟨a, d⟩, b, c⟩
  · rintro ⟨⟨a, d⟩, b, c⟩; exact ⟨a, ⟨b, c⟩, d⟩
set_option maxRecDepth 100000 in
set_option maxHeartbeats 8000000 in
theorem all_any {w : World} {F : Nat → Prop} {b : Nat} {L : List Ed} (hb : BkF w F b L) (q f : ByteArray) :
    Calls Try.prog 25 #[.pointer (some ⟨b, 0, none⟩), .string q, .string f] w fun x w' => ∃ A c, x = .returned (.slice A (ball L q f).length c) ∧ TR w' A (ball L q f) ∧ Below w.heap.size w w' := by
  obtain ⟨W, hW, hgZ, hbW, hsW⟩ := one_new w #[.slice none 0 0] 44
  have HW := Lib.hid hW
  have HL := vlt hb.good
  obtain ⟨A0, c0, hc, hr⟩ := hb.er
  have V1 := vlt hb
  have HSE := vlt hb.good.se
  have hfew := hb.good.few
  obtain ⟨m, hm⟩ : ∃ m, L.length = m := ⟨_, rfl⟩
  rw [hm] at hc hfew
  have HM := Lib.hid hm
  have hbl := row_size hc
  have cb := s_cell (row_next2 hc hbW)
  clear hb hm hW
  go_enter Try.func25, Try.ntmps25
  go_upto_region 2 with fail
  rw [HW.out]
  go_wp2
  go_loopg [9, 18] m (fun k s9 s18 wr => ∃ (i : Nat) (A : Option Addr) (n c : Nat), s18 = .int .i64 i ∧ m - i < k + 1 ∧ i ≤ m ∧ n ≤ i ∧ Vlt (Edo wr (w.heap.size + 1) A n c ((L.take i).filter (fun x => (decide (x.con = q) && decide (x.fld = f)) && isLive L x))) ∧ Hid (wr.heap[w.heap.size]? = some (.cells #[.slice A n c] 44 (0, 0))) ∧ Below w.heap.size w wr)
  case atStart => exact ⟨0, none, 0, 0, rfl, by omega, Nat.zero_le _, Nat.le_refl _, vlt (Edo.nil _ _), hgZ, hbW⟩
  case round =>
    obtain ⟨i, A, n, c, rfl, hk, him, hni, H1, hVr, hbt⟩ := hrel
    have hVs := row_size hVr
    by_cases hlt : i < m
    · skip
      have hltz : (i : Int) < (m : Int) := by omega
      obtain ⟨G, s, rfl, hrow⟩ := (hr.next hbt).at_ (by rw [HM.out]; omega)
      obtain ⟨x, hx⟩ : ∃ x, L[i]? = some x := ⟨_, List.getElem?_eq_getElem (by rw [HM.out]; omega)⟩
      have hrng := edit_range hrow.out HSE.out hx
      have HX := Lib.hid hx
      have HX8 := Lib.hid (HSE.out.get hx)
      obtain ⟨U, hU⟩ : ∃ U, wr.alloc (.cells x.cells.toArray 32) = U := ⟨_, rfl⟩
      have hgX : Hid (U.heap[wr.heap.size]? = some (.cells x.cells.toArray 32 (0, 0))) := by rw [← hU]; exact heap_alloc_new wr _
      have hbn : Below wr.heap.size wr U := by rw [← hU]; exact (Below.refl wr.heap.size wr).alloc (Nat.le_refl _) _
      have hUs : wr.heap.size < U.heap.size := row_size hgX
      have hbu := below_next hbt hbt.size hbn
      obtain ⟨o, ho⟩ : ∃ o, isLive L x = o := ⟨_, rfl⟩
      have DL : ∀ w2, Below U.heap.size U w2 → _ := fun w2 hw2 => live_any ((V1.out.next hbu).next hw2) x HX8.out ho
      have H2 := vlt (H1.out.next hbn)
      have hbn' := hbn
      have HUW := Lib.hid hU
      clear hx hbn hU
      have hVU := row_next2 hVr hbn'
      go_upto_region 4 with fail
      go_upto_region 5 with (first | (with_reducible refine wpList_load_mid rfl 32 (.tmp 20) rfl G (i * 15) rfl x.cells _ hrng Try.underlying32 rfl (by rw [Ed.cells_len HX8.out]; kernel_rfl) ?_) | ((with_reducible refine wpList_store_row rfl 32 (.tmp 9) (.tmp 21) rfl wr.heap.size x.cells.toArray rfl (by kernel_rfl) 32 _ (heap_alloc_new _ _) (by rw [Ed.cells_size HX8.out]; kernel_rfl) (by rw [Ed.cells_size HX8.out]; kernel_rfl) (all_oneCell_toArray (Ed.cells_one _)) ?_); rw [World.setRow_alloc_new, HUW.out]))
      by_cases hcon : x.con = q
      · by_cases hfld : x.fld = f
        · cases o with
          | true =>
            have VO := vlt ho
            clear ho
            refine plain_start (S := fun W' => Below U.heap.size U W') (by kernel_rfl) (Below.refl _ _) (fun hHeld => ?_)
            refine wpAnyH_take (i := 0) (oi := ⟨(some 22), _, _, _, _, _⟩) (v := .pointer (some ⟨wr.heap.size, 11, none⟩)) rfl (by kernel_rfl) (by kernel_rfl) (by kernel_rfl) (fun _ _ _ h => h) (Or.inl ⟨by rfl, ?yr5_0⟩) hHeld ?_
            case yr5_0 => (intro W0 hSw; go_simp; try with_reducible rfl)
            try simp only [pu]
            refine wpAnyH_take (i := 1) (oi := ⟨(some 23), _, _, _, _, _⟩) (v := .string x.con) rfl (by kernel_rfl) (by kernel_rfl) (by kernel_rfl) (fun _ _ _ h => h) (Or.inl ⟨by rfl, ?yr5_1⟩) hHeld ?_
            case yr5_1 => (intro W0 hSw; have cc := ed_con (row_next2 hgX hSw) HX8.out; go_simp; try with_reducible rfl)
            try simp only [pu]
            refine wpAnyH_take (i := 2) (oi := ⟨(some 24), _, _, _, _, _⟩) (v := .string q) rfl (by kernel_rfl) (by kernel_rfl) (by kernel_rfl) (fun _ _ _ h => h) (Or.inl ⟨by rfl, ?yr5_2⟩) hHeld ?_
            case yr5_2 => (intro W0 hSw; go_simp; try with_reducible rfl)
            try simp only [pu]
            refine wpAnyH_take (i := 3) (oi := ⟨(some 25), _, _, _, _, _⟩) (v := .bool true) rfl (by kernel_rfl) (by kernel_rfl) (by kernel_rfl) (fun _ _ _ h => h) (Or.inl ⟨by rfl, ?yr5_3⟩) hHeld ?_
            case yr5_3 => (intro W0 hSw; go_simp; first | done | exact hconl | (simp [hcon]; done))
            try simp only [pu]
            refine wpAnyH_take (i := 4) (oi := ⟨(some 26), _, _, _, _, _⟩) (v := .bool true) rfl (by kernel_rfl) (by kernel_rfl) (by kernel_rfl) (fun _ _ _ h => h) (Or.inl ⟨by rfl, ?yr5_4⟩) hHeld ?_
            case yr5_4 => (intro W0 hSw; go_simp; try with_reducible rfl)
            try simp only [pu]
            refine wpAnyH_take (i := 5) (oi := ⟨(some 27), _, _, _, _, _⟩) (v := .pointer (some ⟨wr.heap.size, 12, none⟩)) rfl (by kernel_rfl) (by kernel_rfl) (by kernel_rfl) (fun _ _ _ h => h) (Or.inl ⟨by rfl, ?yr5_5⟩) hHeld ?_
            case yr5_5 => (intro W0 hSw; go_simp; try with_reducible rfl)
            try simp only [pu]
            refine wpAnyH_take (i := 6) (oi := ⟨(some 28), _, _, _, _, _⟩) (v := .string x.fld) rfl (by kernel_rfl) (by kernel_rfl) (by kernel_rfl) (fun _ _ _ h => h) (Or.inl ⟨by rfl, ?yr5_6⟩) hHeld ?_
            case yr5_6 => (intro W0 hSw; have cc := ed_fld (row_next2 hgX hSw) HX8.out; go_simp; try with_reducible rfl)
            try simp only [pu]
            refine wpAnyH_take (i := 7) (oi := ⟨(some 29), _, _, _, _, _⟩) (v := .string f) rfl (by kernel_rfl) (by kernel_rfl) (by kernel_rfl) (fun _ _ _ h => h) (Or.inl ⟨by rfl, ?yr5_7⟩) hHeld ?_
            case yr5_7 => (intro W0 hSw; go_simp; try with_reducible rfl)
            try simp only [pu]
            refine wpAnyH_take (i := 8) (oi := ⟨(some 30), _, _, _, _, _⟩) (v := .bool true) rfl (by kernel_rfl) (by kernel_rfl) (by kernel_rfl) (fun _ _ _ h => h) (Or.inl ⟨by rfl, ?yr5_8⟩) hHeld ?_
            case yr5_8 => (intro W0 hSw; go_simp; first | done | exact hfldl | (simp [hfld]; done))
            try simp only [pu]
            refine wpAnyH_take (i := 9) (oi := ⟨(some 31), _, _, _, _, _⟩) (v := .bool true) rfl (by kernel_rfl) (by kernel_rfl) (by kernel_rfl) (fun _ _ _ h => h) (Or.inl ⟨by rfl, ?yr5_9⟩) hHeld ?_
            case yr5_9 => (intro W0 hSw; go_simp; try with_reducible rfl)
            try simp only [pu]
            refine wpAnyH_take (i := 10) (oi := ⟨(some 32), _, _, _, _, _⟩) (v := .bool true) rfl (by kernel_rfl) (by kernel_rfl) (by kernel_rfl) (fun _ _ _ h => h) (Or.inl ⟨by rfl, ?yr5_10⟩) hHeld ?_
            case yr5_10 => (intro W0 hSw; go_simp; try with_reducible rfl)
            try simp only [pu]
            refine wpAnyH_take (i := 11) (oi := ⟨(some 33), _, _, _, _, _⟩) (v := .pointer (some ⟨b, 0, none⟩)) rfl (by kernel_rfl) (by kernel_rfl) (by kernel_rfl) (fun _ _ _ h => h) (Or.inl ⟨by rfl, ?yr5_11⟩) hHeld ?_
            case yr5_11 => (intro W0 hSw; go_simp; try with_reducible rfl)
            try simp only [pu]
            refine wpAnyH_take (i := 12) (oi := ⟨(some 34), _, _, _, _, _⟩) (v := .agg x.cells.toArray) rfl (by kernel_rfl) (by kernel_rfl) (by kernel_rfl) (fun _ _ _ h => h) (yieldsIf_load_mid (by rfl) _ _ rfl (wr.heap.size) 0 rfl x.cells _ (fun W' hW' => ed_allR (row_next2 hgX hW')) (Try.underlying32) rfl (by rw [Ed.cells_len HX8.out]; kernel_rfl)) hHeld ?_
            try simp only [pu]
            refine wpAnyH_ready (rs := [13]) (by kernel_rfl) (by simp) ?_
            refine AllReadyH.cons (i := 13) (o := ⟨(some 35), _, _, _, _, _⟩) rfl (fun K hK => ?_) AllReadyH.nil
            go_simp
            refine (DL _ hHeld).mono ?_
            rintro e r5W1 ⟨rfl, r5h1⟩
            refine hK.out _ _ (below_next hHeld hHeld.size r5h1) (fun hHeld => ?_)
            clear hK K r5h1
            try simp only [pu]
            refine wpAnyH_take (i := 14) (oi := ⟨(some 36), _, _, _, _, _⟩) (v := .bool true) rfl (by kernel_rfl) (by kernel_rfl) (by kernel_rfl) (fun _ _ _ h => h) (Or.inl ⟨by rfl, ?yr5_14⟩) hHeld ?_
            case yr5_14 => (intro W0 hSw; go_simp; try with_reducible rfl)
            try simp only [pu]
            refine wpAnyH_done (by kernel_rfl) ?_ _
            have hb5 := hHeld
            have hgX5 := row_next2 hgX hb5
            have hV5 := row_next2 hVU hb5
            have ccV := s_cell hV5
            have hb5' := below_next hbu hbu.size hb5
            have hs5 := hb5.size
            obtain ⟨A', c', w7, hrun, hT7, hb7⟩ := edo_push (H2.out.next hb5) (show w.heap.size + 1 ≤ r5W1.heap.size by omega) (show n ≤ 1048576 by omega) x HX8.out
            have VR := vlt hrun
            have H7 := vlt hT7
            have hV7 : Hid (w7.heap[w.heap.size]? = some (.cells #[.slice A n c] 44 (0, 0))) := Lib.hid ((hb7.block _ (by omega)).trans hV5.out)
            have cc7 := s_cell hV7
            have fc7 := s_froz hV7
            clear hrun hT7 DL
            go_wp2_with (first | (with_reducible refine wpList_load_row rfl 32 (.tmp 9) rfl wr.heap.size rfl 32 x.cells.toArray (0, 0) _ hgX5.out Try.underlying32 rfl (by rw [Ed.cells_size HX8.out]; kernel_rfl) ?_) | (with_reducible refine wpList_one_edit rfl (.tmp 38) rfl x HX8.out rfl ?_) | (at_builtin; refine Lib.wpList_append_run _ rfl _ _ _ _ rfl _ _ rfl rfl _ _ VR.out ?_))
            have hset : Hid ((w7.setCell ⟨w.heap.size, 0, none⟩ (.slice A' (n + 1) c')).heap[w.heap.size]? = some (.cells #[.slice A' (n + 1) c'] 44 (0, 0))) := Lib.hid (by rw [heap_setCell_same _ _ _ _ _ _ hV7.out]; rfl)
            have hbut : But w.heap.size w7 (w7.setCell ⟨w.heap.size, 0, none⟩ (.slice A' (n + 1) c')) := (But.refl _ w7).set _
            have hs7 := hb7.size
            have hb8 := But.below (hb5'.trans (hb7.mono (Nat.le_succ _))) hbut (Nat.le_refl _) (by omega)
            have H8 : Vlt (Edo (w7.setCell ⟨w.heap.size, 0, none⟩ (.slice A' (n + 1) c')) (w.heap.size + 1) A' (n + 1) c' ((L.take (i + 1)).filter (fun x => (decide (x.con = q) && decide (x.fld = f)) && isLive L x))) := vlt (by rw [pick_step _ HX.out, if_pos (by rw [VO.out, decide_eq_true hcon, decide_eq_true hfld]; rfl)]; exact H7.out.but hbut (Nat.lt_succ_self _))
            go_roundg (m - (i + 1))
            case measure => omega
            case rel => exact ⟨i + 1, A', n + 1, c', by go_num, by omega, by omega, by omega, H8, hset, hb8⟩
          | false =>
            have VO := vlt ho
            clear ho
            refine plain_start (S := fun W' => Below U.heap.size U W') (by kernel_rfl) (Below.refl _ _) (fun hHeld => ?_)
            refine wpAnyH_take (i := 0) (oi := ⟨(some 22), _, _, _, _, _⟩) (v := .pointer (some ⟨wr.heap.size, 11, none⟩)) rfl (by kernel_rfl) (by kernel_rfl) (by kernel_rfl) (fun _ _ _ h => h) (Or.inl ⟨by rfl, ?yr5_0⟩) hHeld ?_
            case yr5_0 => (intro W0 hSw; go_simp; try with_reducible rfl)
            try simp only [pu]
            refine wpAnyH_take (i := 1) (oi := ⟨(some 23), _, _, _, _, _⟩) (v := .string x.con) rfl (by kernel_rfl) (by kernel_rfl) (by kernel_rfl) (fun _ _ _ h => h) (Or.inl ⟨by rfl, ?yr5_1⟩) hHeld ?_
            case yr5_1 => (intro W0 hSw; have cc := ed_con (row_next2 hgX hSw) HX8.out; go_simp; try with_reducible rfl)
            try simp only [pu]
            refine wpAnyH_take (i := 2) (oi := ⟨(some 24), _, _, _, _, _⟩) (v := .string q) rfl (by kernel_rfl) (by kernel_rfl) (by kernel_rfl) (fun _ _ _ h => h) (Or.inl ⟨by rfl, ?yr5_2⟩) hHeld ?_
            case yr5_2 => (intro W0 hSw; go_simp; try with_reducible rfl)
            try simp only [pu]
            refine wpAnyH_take (i := 3) (oi := ⟨(some 25), _, _, _, _, _⟩) (v := .bool true) rfl (by kernel_rfl) (by kernel_rfl) (by kernel_rfl) (fun _ _ _ h => h) (Or.inl ⟨by rfl, ?yr5_3⟩) hHeld ?_
            case yr5_3 => (intro W0 hSw; go_simp; first | done | exact hconl | (simp [hcon]; done))
            try simp only [pu]
            refine wpAnyH_take (i := 4) (oi := ⟨(some 26), _, _, _, _, _⟩) (v := .bool true) rfl (by kernel_rfl) (by kernel_rfl) (by kernel_rfl) (fun _ _ _ h => h) (Or.inl ⟨by rfl, ?yr5_4⟩) hHeld ?_
            case yr5_4 => (intro W0 hSw; go_simp; try with_reducible rfl)
            try simp only [pu]
            refine wpAnyH_take (i := 5) (oi := ⟨(some 27), _, _, _, _, _⟩) (v := .pointer (some ⟨wr.heap.size, 12, none⟩)) rfl (by kernel_rfl) (by kernel_rfl) (by kernel_rfl) (fun _ _ _ h => h) (Or.inl ⟨by rfl, ?yr5_5⟩) hHeld ?_
            case yr5_5 => (intro W0 hSw; go_simp; try with_reducible rfl)
            try simp only [pu]
            refine wpAnyH_take (i := 6) (oi := ⟨(some 28), _, _, _, _, _⟩) (v := .string x.fld) rfl (by kernel_rfl) (by kernel_rfl) (by kernel_rfl) (fun _ _ _ h => h) (Or.inl ⟨by rfl, ?yr5_6⟩) hHeld ?_
            case yr5_6 => (intro W0 hSw; have cc := ed_fld (row_next2 hgX hSw) HX8.out; go_simp; try with_reducible rfl)
            try simp only [pu]
            refine wpAnyH_take (i := 7) (oi := ⟨(some 29), _, _, _, _, _⟩) (v := .string f) rfl (by kernel_rfl) (by kernel_rfl) (by kernel_rfl) (fun _ _ _ h => h) (Or.inl ⟨by rfl, ?yr5_7⟩) hHeld ?_
            case yr5_7 => (intro W0 hSw; go_simp; try with_reducible rfl)
            try simp only [pu]
            refine wpAnyH_take (i := 8) (oi := ⟨(some 30), _, _, _, _, _⟩) (v := .bool true) rfl (by kernel_rfl) (by kernel_rfl) (by kernel_rfl) (fun _ _ _ h => h) (Or.inl ⟨by rfl, ?yr5_8⟩) hHeld ?_
            case yr5_8 => (intro W0 hSw; go_simp; first | done | exact hfldl | (simp [hfld]; done))
            try simp only [pu]
            refine wpAnyH_take (i := 9) (oi := ⟨(some 31), _, _, _, _, _⟩) (v := .bool true) rfl (by kernel_rfl) (by kernel_rfl) (by kernel_rfl) (fun _ _ _ h => h) (Or.inl ⟨by rfl, ?yr5_9⟩) hHeld ?_
            case yr5_9 => (intro W0 hSw; go_simp; try with_reducible rfl)
            try simp only [pu]
            refine wpAnyH_take (i := 10) (oi := ⟨(some 32), _, _, _, _, _⟩) (v := .bool true) rfl (by kernel_rfl) (by kernel_rfl) (by kernel_rfl) (fun _ _ _ h => h) (Or.inl ⟨by rfl, ?yr5_10⟩) hHeld ?_
            case yr5_10 => (intro W0 hSw; go_simp; try with_reducible rfl)
            try simp only [pu]
            refine wpAnyH_take (i := 11) (oi := ⟨(some 33), _, _, _, _, _⟩) (v := .pointer (some ⟨b, 0, none⟩)) rfl (by kernel_rfl) (by kernel_rfl) (by kernel_rfl) (fun _ _ _ h => h) (Or.inl ⟨by rfl, ?yr5_11⟩) hHeld ?_
            case yr5_11 => (intro W0 hSw; go_simp; try with_reducible rfl)
            try simp only [pu]
            refine wpAnyH_take (i := 12) (oi := ⟨(some 34), _, _, _, _, _⟩) (v := .agg x.cells.toArray) rfl (by kernel_rfl) (by kernel_rfl) (by kernel_rfl) (fun _ _ _ h => h) (yieldsIf_load_mid (by rfl) _ _ rfl (wr.heap.size) 0 rfl x.cells _ (fun W' hW' => ed_allR (row_next2 hgX hW')) (Try.underlying32) rfl (by rw [Ed.cells_len HX8.out]; kernel_rfl)) hHeld ?_
            try simp only [pu]
            refine wpAnyH_ready (rs := [13]) (by kernel_rfl) (by simp) ?_
            refine AllReadyH.cons (i := 13) (o := ⟨(some 35), _, _, _, _, _⟩) rfl (fun K hK => ?_) AllReadyH.nil
            go_simp
            refine (DL _ hHeld).mono ?_
            rintro e r5W1 ⟨rfl, r5h1⟩
            refine hK.out _ _ (below_next hHeld hHeld.size r5h1) (fun hHeld => ?_)
            clear hK K r5h1
            try simp only [pu]
            refine wpAnyH_take (i := 14) (oi := ⟨(some 36), _, _, _, _, _⟩) (v := .bool false) rfl (by kernel_rfl) (by kernel_rfl) (by kernel_rfl) (fun _ _ _ h => h) (Or.inl ⟨by rfl, ?yr5_14⟩) hHeld ?_
            case yr5_14 => (intro W0 hSw; go_simp; try with_reducible rfl)
            try simp only [pu]
            refine wpAnyH_done (by kernel_rfl) ?_ _
            have H8 : Vlt (Edo r5W1 (w.heap.size + 1) A n c ((L.take (i + 1)).filter (fun x => (decide (x.con = q) && decide (x.fld = f)) && isLive L x))) := vlt (by rw [pick_step _ HX.out, if_neg (by rw [VO.out, Bool.and_false]; decide), List.append_nil]; exact H2.out.next hHeld)
            have hV8 := row_next2 hVU hHeld
            have hb8 := below_next hbu hbu.size hHeld
            go_wp2
            go_roundg (m - (i + 1))
            case measure => omega
            case rel => exact ⟨i + 1, A, n, c, by go_num, by omega, by omega, by omega, H8, hV8, hb8⟩
        · have hfldl : ¬ x.fld.toList = f.toList := fun e => hfld (by
            rw [ByteArray.toList_eq, ByteArray.toList_eq] at e
            exact ByteArray.ext (Array.toList_inj.1 e))
          refine plain_start (S := fun W' => Below U.heap.size U W') (by kernel_rfl) (Below.refl _ _) (fun hHeld => ?_)
          refine wpAnyH_take (i := 0) (oi := ⟨(some 22), _, _, _, _, _⟩) (v := .pointer (some ⟨wr.heap.size, 11, none⟩)) rfl (by kernel_rfl) (by kernel_rfl) (by kernel_rfl) (fun _ _ _ h => h) (Or.inl ⟨by rfl, ?yr5_0⟩) hHeld ?_
          case yr5_0 => (intro W0 hSw; go_simp; try with_reducible rfl)
          try simp only [pu]
          refine wpAnyH_take (i := 1) (oi := ⟨(some 23), _, _, _, _, _⟩) (v := .string x.con) rfl (by kernel_rfl) (by kernel_rfl) (by kernel_rfl) (fun _ _ _ h => h) (Or.inl ⟨by rfl, ?yr5_1⟩) hHeld ?_
          case yr5_1 => (intro W0 hSw; have cc := ed_con (row_next2 hgX hSw) HX8.out; go_simp; try with_reducible rfl)
          try simp only [pu]
          refine wpAnyH_take (i := 2) (oi := ⟨(some 24), _, _, _, _, _⟩) (v := .string q) rfl (by kernel_rfl) (by kernel_rfl) (by kernel_rfl) (fun _ _ _ h => h) (Or.inl ⟨by rfl, ?yr5_2⟩) hHeld ?_
          case yr5_2 => (intro W0 hSw; go_simp; try with_reducible rfl)
          try simp only [pu]
          refine wpAnyH_take (i := 3) (oi := ⟨(some 25), _, _, _, _, _⟩) (v := .bool true) rfl (by kernel_rfl) (by kernel_rfl) (by kernel_rfl) (fun _ _ _ h => h) (Or.inl ⟨by rfl, ?yr5_3⟩) hHeld ?_
          case yr5_3 => (intro W0 hSw; go_simp; first | done | exact hconl | (simp [hcon]; done))
          try simp only [pu]
          refine wpAnyH_take (i := 4) (oi := ⟨(some 26), _, _, _, _, _⟩) (v := .bool true) rfl (by kernel_rfl) (by kernel_rfl) (by kernel_rfl) (fun _ _ _ h => h) (Or.inl ⟨by rfl, ?yr5_4⟩) hHeld ?_
          case yr5_4 => (intro W0 hSw; go_simp; try with_reducible rfl)
          try simp only [pu]
          refine wpAnyH_take (i := 5) (oi := ⟨(some 27), _, _, _, _, _⟩) (v := .pointer (some ⟨wr.heap.size, 12, none⟩)) rfl (by kernel_rfl) (by kernel_rfl) (by kernel_rfl) (fun _ _ _ h => h) (Or.inl ⟨by rfl, ?yr5_5⟩) hHeld ?_
          case yr5_5 => (intro W0 hSw; go_simp; try with_reducible rfl)
          try simp only [pu]
          refine wpAnyH_take (i := 6) (oi := ⟨(some 28), _, _, _, _, _⟩) (v := .string x.fld) rfl (by kernel_rfl) (by kernel_rfl) (by kernel_rfl) (fun _ _ _ h => h) (Or.inl ⟨by rfl, ?yr5_6⟩) hHeld ?_
          case yr5_6 => (intro W0 hSw; have cc := ed_fld (row_next2 hgX hSw) HX8.out; go_simp; try with_reducible rfl)
          try simp only [pu]
          refine wpAnyH_take (i := 7) (oi := ⟨(some 29), _, _, _, _, _⟩) (v := .string f) rfl (by kernel_rfl) (by kernel_rfl) (by kernel_rfl) (fun _ _ _ h => h) (Or.inl ⟨by rfl, ?yr5_7⟩) hHeld ?_
          case yr5_7 => (intro W0 hSw; go_simp; try with_reducible rfl)
          try simp only [pu]
          refine wpAnyH_take (i := 8) (oi := ⟨(some 30), _, _, _, _, _⟩) (v := .bool false) rfl (by kernel_rfl) (by kernel_rfl) (by kernel_rfl) (fun _ _ _ h => h) (Or.inl ⟨by rfl, ?yr5_8⟩) hHeld ?_
          case yr5_8 => (intro W0 hSw; go_simp; first | done | exact hfldl | (simp [hfld]; done))
          try simp only [pu]
          refine wpAnyH_take (i := 9) (oi := ⟨(some 31), _, _, _, _, _⟩) (v := .bool false) rfl (by kernel_rfl) (by kernel_rfl) (by kernel_rfl) (fun _ _ _ h => h) (Or.inl ⟨by rfl, ?yr5_9⟩) hHeld ?_
          case yr5_9 => (intro W0 hSw; go_simp; try with_reducible rfl)
          try simp only [pu]
          refine wpAnyH_take (i := 10) (oi := ⟨(some 32), _, _, _, _, _⟩) (v := .bool false) rfl (by kernel_rfl) (by kernel_rfl) (by kernel_rfl) (fun _ _ _ h => h) (Or.inl ⟨by rfl, ?yr5_10⟩) hHeld ?_
          case yr5_10 => (intro W0 hSw; go_simp; try with_reducible rfl)
          try simp only [pu]
          refine wpAnyH_take (i := 11) (oi := ⟨(some 33), _, _, _, _, _⟩) (v := undef) rfl (by kernel_rfl) (by kernel_rfl) (by kernel_rfl) (fun _ _ _ h => h) (Or.inr ⟨by rfl, rfl⟩) hHeld ?_
          try simp only [pu]
          refine wpAnyH_take (i := 12) (oi := ⟨(some 34), _, _, _, _, _⟩) (v := undef) rfl (by kernel_rfl) (by kernel_rfl) (by kernel_rfl) (fun _ _ _ h => h) (Or.inr ⟨by rfl, rfl⟩) hHeld ?_
          try simp only [pu]
          refine wpAnyH_take (i := 13) (oi := ⟨(some 35), _, _, _, _, _⟩) (v := undef) rfl (by kernel_rfl) (by kernel_rfl) (by kernel_rfl) (fun _ _ _ h => h) (Or.inr ⟨by rfl, rfl⟩) hHeld ?_
          try simp only [pu]
          refine wpAnyH_take (i := 14) (oi := ⟨(some 36), _, _, _, _, _⟩) (v := .bool false) rfl (by kernel_rfl) (by kernel_rfl) (by kernel_rfl) (fun _ _ _ h => h) (Or.inl ⟨by rfl, ?yr5_14⟩) hHeld ?_
          case yr5_14 => (intro W0 hSw; go_simp; try with_reducible rfl)
          try simp only [pu]
          refine wpAnyH_done (by kernel_rfl) ?_ _
          have H8 : Vlt (Edo U (w.heap.size + 1) A n c ((L.take (i + 1)).filter (fun x => (decide (x.con = q) && decide (x.fld = f)) && isLive L x))) := vlt (by rw [pick_step _ HX.out, if_neg (by rw [decide_eq_false hfld, Bool.and_false, Bool.false_and]; decide), List.append_nil]; exact H2.out)
          have hV8 := hVU
          have hb8 := hbu
          go_wp2
          go_roundg (m - (i + 1))
          case measure => omega
          case rel => exact ⟨i + 1, A, n, c, by go_num, by omega, by omega, by omega, H8, hV8, hb8⟩
      · have hconl : ¬ x.con.toList = q.toList := fun e => hcon (by
          rw [ByteArray.toList_eq, ByteArray.toList_eq] at e
          exact ByteArray.ext (Array.toList_inj.1 e))
        refine plain_start (S := fun W' => Below U.heap.size U W') (by kernel_rfl) (Below.refl _ _) (fun hHeld => ?_)
        refine wpAnyH_take (i := 0) (oi := ⟨(some 22), _, _, _, _, _⟩) (v := .pointer (some ⟨wr.heap.size, 11, none⟩)) rfl (by kernel_rfl) (by kernel_rfl) (by kernel_rfl) (fun _ _ _ h => h) (Or.inl ⟨by rfl, ?yr5_0⟩) hHeld ?_
        case yr5_0 => (intro W0 hSw; go_simp; try with_reducible rfl)
        try simp only [pu]
        refine wpAnyH_take (i := 1) (oi := ⟨(some 23), _, _, _, _, _⟩) (v := .string x.con) rfl (by kernel_rfl) (by kernel_rfl) (by kernel_rfl) (fun _ _ _ h => h) (Or.inl ⟨by rfl, ?yr5_1⟩) hHeld ?_
        case yr5_1 => (intro W0 hSw; have cc := ed_con (row_next2 hgX hSw) HX8.out; go_simp; try with_reducible rfl)
        try simp only [pu]
        refine wpAnyH_take (i := 2) (oi := ⟨(some 24), _, _, _, _, _⟩) (v := .string q) rfl (by kernel_rfl) (by kernel_rfl) (by kernel_rfl) (fun _ _ _ h => h) (Or.inl ⟨by rfl, ?yr5_2⟩) hHeld ?_
        case yr5_2 => (intro W0 hSw; go_simp; try with_reducible rfl)
        try simp only [pu]
        refine wpAnyH_take (i := 3) (oi := ⟨(some 25), _, _, _, _, _⟩) (v := .bool false) rfl (by kernel_rfl) (by kernel_rfl) (by kernel_rfl) (fun _ _ _ h => h) (Or.inl ⟨by rfl, ?yr5_3⟩) hHeld ?_
        case yr5_3 => (intro W0 hSw; go_simp; first | done | exact hconl | (simp [hcon]; done))
        try simp only [pu]
        refine wpAnyH_take (i := 4) (oi := ⟨(some 26), _, _, _, _, _⟩) (v := .bool false) rfl (by kernel_rfl) (by kernel_rfl) (by kernel_rfl) (fun _ _ _ h => h) (Or.inl ⟨by rfl, ?yr5_4⟩) hHeld ?_
        case yr5_4 => (intro W0 hSw; go_simp; try with_reducible rfl)
        try simp only [pu]
        refine wpAnyH_take (i := 5) (oi := ⟨(some 27), _, _, _, _, _⟩) (v := undef) rfl (by kernel_rfl) (by kernel_rfl) (by kernel_rfl) (fun _ _ _ h => h) (Or.inr ⟨by rfl, rfl⟩) hHeld ?_
        try simp only [pu]
        refine wpAnyH_take (i := 6) (oi := ⟨(some 28), _, _, _, _, _⟩) (v := undef) rfl (by kernel_rfl) (by kernel_rfl) (by kernel_rfl) (fun _ _ _ h => h) (Or.inr ⟨by rfl, rfl⟩) hHeld ?_
        try simp only [pu]
        refine wpAnyH_take (i := 7) (oi := ⟨(some 29), _, _, _, _, _⟩) (v := undef) rfl (by kernel_rfl) (by kernel_rfl) (by kernel_rfl) (fun _ _ _ h => h) (Or.inr ⟨by rfl, rfl⟩) hHeld ?_
        try simp only [pu]
        refine wpAnyH_take (i := 8) (oi := ⟨(some 30), _, _, _, _, _⟩) (v := undef) rfl (by kernel_rfl) (by kernel_rfl) (by kernel_rfl) (fun _ _ _ h => h) (Or.inr ⟨by rfl, rfl⟩) hHeld ?_
        try simp only [pu]
        refine wpAnyH_take (i := 9) (oi := ⟨(some 31), _, _, _, _, _⟩) (v := .bool false) rfl (by kernel_rfl) (by kernel_rfl) (by kernel_rfl) (fun _ _ _ h => h) (Or.inl ⟨by rfl, ?yr5_9⟩) hHeld ?_
        case yr5_9 => (intro W0 hSw; go_simp; try with_reducible rfl)
        try simp only [pu]
        refine wpAnyH_take (i := 10) (oi := ⟨(some 32), _, _, _, _, _⟩) (v := .bool false) rfl (by kernel_rfl) (by kernel_rfl) (by kernel_rfl) (fun _ _ _ h => h) (Or.inl ⟨by rfl, ?yr5_10⟩) hHeld ?_
        case yr5_10 => (intro W0 hSw; go_simp; try with_reducible rfl)
        try simp only [pu]
        refine wpAnyH_take (i := 11) (oi := ⟨(some 33), _, _, _, _, _⟩) (v := undef) rfl (by kernel_rfl) (by kernel_rfl) (by kernel_rfl) (fun _ _ _ h => h) (Or.inr ⟨by rfl, rfl⟩) hHeld ?_
        try simp only [pu]
        refine wpAnyH_take (i := 12) (oi := ⟨(some 34), _, _, _, _, _⟩) (v := undef) rfl (by kernel_rfl) (by kernel_rfl) (by kernel_rfl) (fun _ _ _ h => h) (Or.inr ⟨by rfl, rfl⟩) hHeld ?_
        try simp only [pu]
        refine wpAnyH_take (i := 13) (oi := ⟨(some 35), _, _, _, _, _⟩) (v := undef) rfl (by kernel_rfl) (by kernel_rfl) (by kernel_rfl) (fun _ _ _ h => h) (Or.inr ⟨by rfl, rfl⟩) hHeld ?_
        try simp only [pu]
        refine wpAnyH_take (i := 14) (oi := ⟨(some 36), _, _, _, _, _⟩) (v := .bool false) rfl (by kernel_rfl) (by kernel_rfl) (by kernel_rfl) (fun _ _ _ h => h) (Or.inl ⟨by rfl, ?yr5_14⟩) hHeld ?_
        case yr5_14 => (intro W0 hSw; go_simp; try with_reducible rfl)
        try simp only [pu]
        refine wpAnyH_done (by kernel_rfl) ?_ _
        have H8 : Vlt (Edo U (w.heap.size + 1) A n c ((L.take (i + 1)).filter (fun x => (decide (x.con = q) && decide (x.fld = f)) && isLive L x))) := vlt (by rw [pick_step _ HX.out, if_neg (by rw [decide_eq_false hcon, Bool.false_and, Bool.false_and]; decide), List.append_nil]; exact H2.out)
        have hV8 := hVU
        have hb8 := hbu
        go_wp2
        go_roundg (m - (i + 1))
        case measure => omega
        case rel => exact ⟨i + 1, A, n, c, by go_num, by omega, by omega, by omega, H8, hV8, hb8⟩
    · have hltz : ¬ (i : Int) < (m : Int) := by omega
      have HT : Vlt ((L.take i).filter (fun x => (decide (x.con = q) && decide (x.fld = f)) && isLive L x) = L.filter (fun x => (decide (x.con = q) && decide (x.fld = f)) && isLive L x)) := vlt (by rw [List.take_of_length_le (by rw [HM.out]; omega)])
      rw [HT.out] at H1
      have DS := vlt (sort_edo H1.out (by omega) (Nat.lt_succ_self _) (by omega) hVr ((HL.out.sorted.filter _).imp fun hab => eless_tot (elt_apart hab)))
      have ccV := s_cell hVr
      clear HT H1
      go_upto_region 10 with (go_at_call 37; refine DS.out.mono ?_; rintro e w9 ⟨rfl, M, HMM, hM, hb9⟩; clear DS)
      have hV9 : Hid (w9.heap[w.heap.size]? = some (.cells #[.slice A n c] 44 (0, 0))) := Lib.hid ((hb9.block _ (Nat.lt_succ_self _)).trans hVr.out)
      have hbt9 := hbt.trans (hb9.mono (Nat.le_succ _))
      have cc9 := s_cell hV9
      have hni2 : n ≤ 500 := by omega
      have HB : Vlt (M.map (·.val) = ball L q f) := vlt (ball_of HL.out HMM.out.1 HMM.out.2.1)
      clear hlt hltz hk him hni hVr hVs ccV hb9 hbt
      go_wp2
      go_loopg [10, 12, 48] n (fun k s10 s12 s48 wr => ∃ (i : Nat) (A2 : Option Addr) (c2 : Nat), s10 = .slice A2 i c2 ∧ s48 = .int .i64 i ∧ n - i < k + 1 ∧ i ≤ n ∧ Vlt (Txo wr w9.heap.size A2 i c2 ((M.take i).map (·.val))) ∧ Below w9.heap.size w9 wr)
      case atStart => exact ⟨0, none, 0, rfl, rfl, by omega, Nat.zero_le _, vlt (Txo.nil _ _), Below.refl _ _⟩
      case round =>
        obtain ⟨i, A2, c2, rfl, rfl, hk, him, H1, hbt⟩ := hrel
        by_cases hlt : i < n
        · have hltz : (i : Int) < (n : Int) := by omega
          obtain ⟨G, s, rfl, hrow⟩ := (hM.next hbt).at_ (by rw [HMM.out.2.2.2]; omega)
          obtain ⟨x, hx⟩ : ∃ x, M[i]? = some x := ⟨_, List.getElem?_eq_getElem (by rw [HMM.out.2.2.2]; omega)⟩
          have hrng := edit_range hrow.out HMM.out.2.2.1 hx
          have HX := Lib.hid hx
          have HX8 := Lib.hid (HMM.out.2.2.1.get hx)
          obtain ⟨U, hU⟩ : ∃ U, wr.alloc (.cells x.cells.toArray 32) = U := ⟨_, rfl⟩
          have hgX : Hid (U.heap[wr.heap.size]? = some (.cells x.cells.toArray 32 (0, 0))) := by rw [← hU]; exact heap_alloc_new wr _
          have hbn : Below wr.heap.size wr U := by rw [← hU]; exact (Below.refl wr.heap.size wr).alloc (Nat.le_refl _) _
          have hUs : wr.heap.size < U.heap.size := row_size hgX
          have hbu := below_next hbt hbt.size hbn
          have HUW := Lib.hid hU
          have cc := ed_val hgX HX8.out
          obtain ⟨A', c', w7, hrun, hT7, hb7⟩ := txo_push (H1.out.next hbn) hbu.size (by omega) x.val
          have VR := vlt hrun
          have H7 := vlt hT7
          have H8 : Vlt (Txo w7 w9.heap.size A' (i + 1) c' ((M.take (i + 1)).map (·.val))) := vlt (by rw [take_map _ HX.out]; exact H7.out)
          clear hx hbn hrun hT7 H7 hU
          go_wp2_with (first | (with_reducible refine wpList_load_mid rfl 32 (.tmp 50) rfl G (i * 15) rfl x.cells _ hrng Try.underlying32 rfl (by rw [Ed.cells_len HX8.out]; kernel_rfl) ?_) | ((with_reducible refine wpList_store_row rfl 32 (.tmp 12) (.tmp 51) rfl wr.heap.size x.cells.toArray rfl (by kernel_rfl) 32 _ (heap_alloc_new _ _) (by rw [Ed.cells_size HX8.out]; kernel_rfl) (by rw [Ed.cells_size HX8.out]; kernel_rfl) (all_oneCell_toArray (Ed.cells_one _)) ?_); rw [World.setRow_alloc_new, HUW.out]) | (at_builtin; refine Lib.wpList_append_run _ rfl _ _ _ _ rfl _ _ rfl rfl _ _ VR.out ?_))
          go_roundg (n - (i + 1))
          case measure => omega
          case rel => exact ⟨i + 1, A', c', by go_num, by go_num, by omega, by omega, H8, hbu.trans hb7⟩
        · have hltz : ¬ (i : Int) < (n : Int) := by omega
          have HE : Vlt ((M.take i).map (·.val) = ball L q f ∧ (ball L q f).length = i) := vlt (by
            have h4 := HMM.out.2.2.2
            rw [← HB.out, List.length_map, List.take_of_length_le (by omega)]
            exact ⟨rfl, by omega⟩)
          go_wp2
          go_ret
          have hT := H1.out.tr
          rw [HE.out.1] at hT
          have hend := hbt9.trans (hbt.mono hbt9.size)
          exact ⟨A2, ⟨c2, by rw [HE.out.2]; rfl⟩, hT, hend⟩
end Go.Proofs.Ytncjobhpiohkkaa
namespace Go.Proofs.Ytncjobhpiohkkaa
open Go.RowKit

theorem upto_nil : Upto [] (List.replicate 8 0) := bvec_upto (L := []) BGood.nil
theorem Upto.step_at {L : List Ed} {i : Nat} {x : Ed} {v : List Int} (h : Upto (L.take i) v) (hx : L[i]? = some x) (hp : L.Pairwise (fun a b => elt a b = true)) (hr : 0 ≤ x.dev ∧ x.dev < 8) : Upto (L.take (i + 1)) (bstep v x) := by
  obtain ⟨hlt, he⟩ := List.getElem?_eq_some_iff.1 hx
  rw [List.take_add_one, hx]
  refine h.step hr fun y hy => ?_
  obtain ⟨q, hq, rfl⟩ := List.mem_iff_getElem.1 hy
  rw [List.getElem_take, ← he]
  exact List.pairwise_iff_getElem.1 hp q i _ hlt (by simp at hq; omega)
theorem Upto.top {L : List Ed} {i : Nat} {v : List Int} (h : Upto (L.take i) v) (hL : BGood L) (d : Nat) (hd : d < 8) : 0 ≤ iat v d ∧ iat v d ≤ 1099511627776 := by
  refine ⟨h.pos d hd, ?_⟩
  by_cases h1 : 1 ≤ iat v d
  · obtain ⟨x, hx, _, hn⟩ := h.all d hd _ h1 (Int.le_refl _)
    have hf := (Ed.fine (hL.good x (List.mem_of_mem_take hx)).1).num
    omega
  · omega
set_option maxRecDepth 100000 in
set_option maxHeartbeats 4000000 in
theorem vec_any {w : World} {F : Nat → Prop} {b : Nat} {L : List Ed} (hb : BkF w F b L) :
    Calls Try.prog 17 #[.pointer (some ⟨b, 0, none⟩)] w fun x w' => x = .returned (.agg (i64v (bvec L)).toArray) ∧ Below w.heap.size w w' := by
  obtain ⟨A, c, hc, hr⟩ := hb.er
  have HL := vlt hb.good
  have HSE := vlt hb.good.se
  have hfew := hb.good.few
  obtain ⟨W, hW, hgZ, hgV, hbW, hsW⟩ := pair_new w #[.int .i64 0, .int .i64 0, .int .i64 0, .int .i64 0, .int .i64 0, .int .i64 0, .int .i64 0, .int .i64 0] #[.int .i64 0, .int .i64 0, .int .i64 0, .int .i64 0, .int .i64 0, .int .i64 0, .int .i64 0, .int .i64 0] 30 30
  have HW := Lib.hid hW
  have e0 : (i64v (List.replicate 8 0)).toArray = #[.int .i64 0, .int .i64 0, .int .i64 0, .int .i64 0, .int .i64 0, .int .i64 0, .int .i64 0, .int .i64 0] := rfl
  rw [← e0] at hgZ hgV
  obtain ⟨n, hn⟩ : ∃ n, L.length = n := ⟨_, rfl⟩
  rw [hn] at hc hfew
  have HLN := Lib.hid hn
  have hbl := row_size hc
  have cb := s_cell (row_next2 hc hbW)
  clear hW hb hn e0
  go_enter Try.func17, Try.ntmps17
  go_upto_region 2 with fail
  rw [HW.out]
  go_wp2
  go_loopg [5, 11] n (fun k s5 s11 wr => ∃ (i : Nat) (v : List Int), s11 = .int .i64 i ∧ n - i < k + 1 ∧ i ≤ n ∧ Vlt (Upto (L.take i) v) ∧ Hid (wr.heap[w.heap.size + 1]? = some (.cells (i64v v).toArray 30 (0, 0))) ∧ But (w.heap.size + 1) W wr)
  case atStart => exact ⟨0, List.replicate 8 0, rfl, by omega, Nat.zero_le _, vlt upto_nil, hgV, But.refl _ _⟩
  case round =>
    obtain ⟨i, v, rfl, hk, hin, H1, hgv, hbt⟩ := hrel
    by_cases hlt : i < n
    · have hltz : (i : Int) < (n : Int) := by omega
      obtain ⟨G, s, rfl, hrow⟩ := hr.at_ (by rw [HLN.out]; omega)
      have hGl := row_size hrow
      have hrowr := row_but (row_next2 hrow hbW) hbt (by omega)
      obtain ⟨x, hx⟩ : ∃ x, L[i]? = some x := ⟨_, List.getElem?_eq_getElem (by rw [HLN.out]; omega)⟩
      have hrng := edit_range hrowr.out HSE.out hx
      have HX8 := Lib.hid (HSE.out.get hx)
      have hgood := (HL.out.good x (List.mem_of_getElem? hx)).1
      have hdv := (Ed.fine hgood).dev
      have HU := vlt (H1.out.step_at hx HL.out.sorted hdv)
      obtain ⟨hd0, hd8⟩ := hdv
      have hdn : x.dev.toNat < 8 := by omega
      have hvl := H1.out.len
      have hdl : x.dev.toNat < v.length := by omega
      have htop := H1.out.top HL.out x.dev.toNat hdn
      have hadd : IntKind.i64.wrap (iat v x.dev.toNat + 1) = iat v x.dev.toNat + 1 := by rw [IntKind.wrap_i64]; omega
      obtain ⟨U, hU⟩ : ∃ U, wr.alloc (.cells x.cells.toArray 32) = U := ⟨_, rfl⟩
      have hgX : Hid (U.heap[wr.heap.size]? = some (.cells x.cells.toArray 32 (0, 0))) := by rw [← hU]; exact heap_alloc_new wr _
      have hbn : Below wr.heap.size wr U := by rw [← hU]; exact (Below.refl wr.heap.size wr).alloc (Nat.le_refl _) _
      have hgV2 := row_next2 hgv hbn
      have hUs : wr.heap.size < U.heap.size := row_size hgX
      have hbt2 := hbt.go hbn
      have HUW := Lib.hid hU
      clear hx hU hgood
      go_upto_region 4 with fail
      go_wp2_with (first | (with_reducible refine wpList_load_mid rfl 32 (.tmp 13) rfl G (i * 15) rfl x.cells _ hrng Try.underlying32 rfl (by rw [Ed.cells_len HX8.out]; kernel_rfl) ?_) | ((with_reducible refine wpList_store_row rfl 32 (.tmp 5) (.tmp 14) rfl wr.heap.size x.cells.toArray rfl (by kernel_rfl) 32 _ (heap_alloc_new _ _) (by rw [Ed.cells_size HX8.out]; kernel_rfl) (by rw [Ed.cells_size HX8.out]; kernel_rfl) (all_oneCell_toArray (Ed.cells_one _)) ?_); rw [World.setRow_alloc_new, HUW.out]))
      by_cases hq : x.num = iat v x.dev.toNat + 1
      · have HB : Vlt (bstep v x = v.set x.dev.toNat (iat v x.dev.toNat + 1)) := vlt (by rw [bstep, if_pos hq, hq])
        go_upto_region 5 with fail
        refine wp_region_held_drew (S := fun W' => Below U.heap.size U W') (by kernel_rfl) ((Below.refl _ _).drew) (fun hHeld => ?_)
        refine wpAnyH_take (i := 0) (oi := ⟨(some 15), _, _, _, _, _⟩) (v := .pointer (some ⟨wr.heap.size, 0, none⟩)) rfl (by kernel_rfl) (by kernel_rfl) (by kernel_rfl) (fun _ _ _ h => h) (Or.inl ⟨by rfl, ?yr5_0⟩) hHeld ?_
        case yr5_0 => (intro W0 hSw; go_simp; try with_reducible rfl)
        try simp only [pu]
        refine wpAnyH_take (i := 1) (oi := ⟨(some 16), _, _, _, _, _⟩) (v := .pointer (some ⟨wr.heap.size, 1, none⟩)) rfl (by kernel_rfl) (by kernel_rfl) (by kernel_rfl) (fun _ _ _ h => h) (Or.inl ⟨by rfl, ?yr5_1⟩) hHeld ?_
        case yr5_1 => (intro W0 hSw; go_simp; try with_reducible rfl)
        try simp only [pu]
        refine wpAnyH_take (i := 2) (oi := ⟨(some 17), _, _, _, _, _⟩) (v := .int .i64 x.num) rfl (by kernel_rfl) (by kernel_rfl) (by kernel_rfl) (fun _ _ _ h => h) (Or.inl ⟨by rfl, ?yr5_2⟩) hHeld ?_
        case yr5_2 => (intro W0 hSw; have cc := ed_num (row_next2 hgX hSw); go_simp; try with_reducible rfl)
        try simp only [pu]
        refine wpAnyH_take (i := 3) (oi := ⟨(some 18), _, _, _, _, _⟩) (v := .pointer (some ⟨wr.heap.size, 0, none⟩)) rfl (by kernel_rfl) (by kernel_rfl) (by kernel_rfl) (fun _ _ _ h => h) (Or.inl ⟨by rfl, ?yr5_3⟩) hHeld ?_
        case yr5_3 => (intro W0 hSw; go_simp; try with_reducible rfl)
        try simp only [pu]
        refine wpAnyH_take (i := 4) (oi := ⟨(some 19), _, _, _, _, _⟩) (v := .pointer (some ⟨wr.heap.size, 0, none⟩)) rfl (by kernel_rfl) (by kernel_rfl) (by kernel_rfl) (fun _ _ _ h => h) (Or.inl ⟨by rfl, ?yr5_4⟩) hHeld ?_
        case yr5_4 => (intro W0 hSw; go_simp; try with_reducible rfl)
        try simp only [pu]
        refine wpAnyH_take (i := 5) (oi := ⟨(some 20), _, _, _, _, _⟩) (v := .int .i64 x.dev) rfl (by kernel_rfl) (by kernel_rfl) (by kernel_rfl) (fun _ _ _ h => h) (Or.inl ⟨by rfl, ?yr5_5⟩) hHeld ?_
        case yr5_5 => (intro W0 hSw; have cc := ed_dev (row_next2 hgX hSw); go_simp; try with_reducible rfl)
        try simp only [pu]
        refine wpAnyH_take (i := 6) (oi := ⟨(some 21), _, _, _, _, _⟩) (v := .pointer (some ⟨w.heap.size + 1, x.dev.toNat, none⟩)) rfl (by kernel_rfl) (by kernel_rfl) (by kernel_rfl) (fun _ _ _ h => h) (Or.inl ⟨by rfl, ?yr5_6⟩) hHeld ?_
        case yr5_6 => (intro W0 hSw; go_simp; try with_reducible rfl)
        try simp only [pu]
        refine wpAnyH_take (i := 7) (oi := ⟨(some 22), _, _, _, _, _⟩) (v := .int .i64 (iat v x.dev.toNat)) rfl (by kernel_rfl) (by kernel_rfl) (by kernel_rfl) (fun _ _ _ h => h) (Or.inl ⟨by rfl, ?yr5_7⟩) hHeld ?_
        case yr5_7 => (intro W0 hSw; have cc := int_at (row_next2 hgV2 hSw).out x.dev.toNat hdl; go_simp; try with_reducible rfl)
        try simp only [pu]
        refine wpAnyH_take (i := 8) (oi := ⟨(some 23), _, _, _, _, _⟩) (v := .int .i64 (iat v x.dev.toNat + 1)) rfl (by kernel_rfl) (by kernel_rfl) (by kernel_rfl) (fun _ _ _ h => h) (Or.inl ⟨by rfl, ?yr5_8⟩) hHeld ?_
        case yr5_8 => (intro W0 hSw; go_simp; try with_reducible rfl)
        try simp only [pu]
        refine wpAnyH_take (i := 9) (oi := ⟨(some 24), _, _, _, _, _⟩) (v := .bool true) rfl (by kernel_rfl) (by kernel_rfl) (by kernel_rfl) (fun _ _ _ h => h) (Or.inl ⟨by rfl, ?yr5_9⟩) hHeld ?_
        case yr5_9 => (intro W0 hSw; go_simp; try with_reducible rfl)
        try simp only [pu]
        refine wpAnyH_done (by kernel_rfl) ?_ _
        have c1 := ed_dev (row_next2 hgX hHeld)
        have hgV3 := row_next2 hgV2 hHeld
        have c2 := int_at hgV3.out x.dev.toNat hdl
        have f2 := frozen_of_row _ _ x.dev.toNat _ _ hgV3.out
        have hset := world_set_cell hgV2.out x.dev.toNat (.int .i64 (iat v x.dev.toNat + 1))
        rw [i64v_set, ← HB.out] at hset
        have hbt3 := (hbt2.set (i := x.dev.toNat) (.int .i64 (iat v x.dev.toNat + 1))).drew
        go_wp2
        go_roundg (n - (i + 1))
        case measure => omega
        case rel => exact ⟨i + 1, _, by go_num, by omega, by omega, HU, hset, hbt3⟩
      · have HB : Vlt (bstep v x = v) := vlt (by rw [bstep, if_neg hq])
        go_upto_region 5 with fail
        refine wp_region_held_drew (S := fun W' => Below U.heap.size U W') (by kernel_rfl) ((Below.refl _ _).drew) (fun hHeld => ?_)
        refine wpAnyH_take (i := 0) (oi := ⟨(some 15), _, _, _, _, _⟩) (v := .pointer (some ⟨wr.heap.size, 0, none⟩)) rfl (by kernel_rfl) (by kernel_rfl) (by kernel_rfl) (fun _ _ _ h => h) (Or.inl ⟨by rfl, ?yr5_0⟩) hHeld ?_
        case yr5_0 => (intro W0 hSw; go_simp; try with_reducible rfl)
        try simp only [pu]
        refine wpAnyH_take (i := 1) (oi := ⟨(some 16), _, _, _, _, _⟩) (v := .pointer (some ⟨wr.heap.size, 1, none⟩)) rfl (by kernel_rfl) (by kernel_rfl) (by kernel_rfl) (fun _ _ _ h => h) (Or.inl ⟨by rfl, ?yr5_1⟩) hHeld ?_
        case yr5_1 => (intro W0 hSw; go_simp; try with_reducible rfl)
        try simp only [pu]
        refine wpAnyH_take (i := 2) (oi := ⟨(some 17), _, _, _, _, _⟩) (v := .int .i64 x.num) rfl (by kernel_rfl) (by kernel_rfl) (by kernel_rfl) (fun _ _ _ h => h) (Or.inl ⟨by rfl, ?yr5_2⟩) hHeld ?_
        case yr5_2 => (intro W0 hSw; have cc := ed_num (row_next2 hgX hSw); go_simp; try with_reducible rfl)
        try simp only [pu]
        refine wpAnyH_take (i := 3) (oi := ⟨(some 18), _, _, _, _, _⟩) (v := .pointer (some ⟨wr.heap.size, 0, none⟩)) rfl (by kernel_rfl) (by kernel_rfl) (by kernel_rfl) (fun _ _ _ h => h) (Or.inl ⟨by rfl, ?yr5_3⟩) hHeld ?_
        case yr5_3 => (intro W0 hSw; go_simp; try with_reducible rfl)
        try simp only [pu]
        refine wpAnyH_take (i := 4) (oi := ⟨(some 19), _, _, _, _, _⟩) (v := .pointer (some ⟨wr.heap.size, 0, none⟩)) rfl (by kernel_rfl) (by kernel_rfl) (by kernel_rfl) (fun _ _ _ h => h) (Or.inl ⟨by rfl, ?yr5_4⟩) hHeld ?_
        case yr5_4 => (intro W0 hSw; go_simp; try with_reducible rfl)
        try simp only [pu]
        refine wpAnyH_take (i := 5) (oi := ⟨(some 20), _, _, _, _, _⟩) (v := .int .i64 x.dev) rfl (by kernel_rfl) (by kernel_rfl) (by kernel_rfl) (fun _ _ _ h => h) (Or.inl ⟨by rfl, ?yr5_5⟩) hHeld ?_
        case yr5_5 => (intro W0 hSw; have cc := ed_dev (row_next2 hgX hSw); go_simp; try with_reducible rfl)
        try simp only [pu]
        refine wpAnyH_take (i := 6) (oi := ⟨(some 21), _, _, _, _, _⟩) (v := .pointer (some ⟨w.heap.size + 1, x.dev.toNat, none⟩)) rfl (by kernel_rfl) (by kernel_rfl) (by kernel_rfl) (fun _ _ _ h => h) (Or.inl ⟨by rfl, ?yr5_6⟩) hHeld ?_
        case yr5_6 => (intro W0 hSw; go_simp; try with_reducible rfl)
        try simp only [pu]
        refine wpAnyH_take (i := 7) (oi := ⟨(some 22), _, _, _, _, _⟩) (v := .int .i64 (iat v x.dev.toNat)) rfl (by kernel_rfl) (by kernel_rfl) (by kernel_rfl) (fun _ _ _ h => h) (Or.inl ⟨by rfl, ?yr5_7⟩) hHeld ?_
        case yr5_7 => (intro W0 hSw; have cc := int_at (row_next2 hgV2 hSw).out x.dev.toNat hdl; go_simp; try with_reducible rfl)
        try simp only [pu]
        refine wpAnyH_take (i := 8) (oi := ⟨(some 23), _, _, _, _, _⟩) (v := .int .i64 (iat v x.dev.toNat + 1)) rfl (by kernel_rfl) (by kernel_rfl) (by kernel_rfl) (fun _ _ _ h => h) (Or.inl ⟨by rfl, ?yr5_8⟩) hHeld ?_
        case yr5_8 => (intro W0 hSw; go_simp; try with_reducible rfl)
        try simp only [pu]
        refine wpAnyH_take (i := 9) (oi := ⟨(some 24), _, _, _, _, _⟩) (v := .bool false) rfl (by kernel_rfl) (by kernel_rfl) (by kernel_rfl) (fun _ _ _ h => h) (Or.inl ⟨by rfl, ?yr5_9⟩) hHeld ?_
        case yr5_9 => (intro W0 hSw; go_simp; try with_reducible rfl)
        try simp only [pu]
        refine wpAnyH_done (by kernel_rfl) ?_ _
        go_wp2
        go_roundg (n - (i + 1))
        case measure => omega
        case rel => exact ⟨i + 1, v, by go_num, by omega, by omega, vlt (by have := HU.out; rwa [HB.out] at this), row_next2 hgV2 hHeld, hbt2.go hHeld⟩
    · have hltz : ¬ (i : Int) < (n : Int) := by omega
      have HE : Vlt (v = bvec L) := vlt (bvec_is HL.out (by have := H1.out; rwa [List.take_of_length_le (by rw [HLN.out]; omega)] at this))
      have hvl := H1.out.len
      have hsz : Hid ((i64v v).toArray.size = 8) := Lib.hid (by simp [i64v_len, hvl])
      have hz := row_but hgZ hbt (by omega)
      have hbw : Below w.heap.size w wr := But.below hbW hbt (by omega) hbW.size
      clear hvl
      go_wp2_with (first | (with_reducible refine wpList_load_row rfl 30 (.tmp 3) rfl (w.heap.size + 1) rfl 30 (i64v v).toArray (0, 0) _ hgv.out Try.underlying30 rfl (by rw [hsz.out]; kernel_rfl) ?_) | (with_reducible refine wpList_store_row rfl 30 (.tmp 2) (.tmp 33) rfl w.heap.size (i64v v).toArray rfl rfl 30 _ hz.out (by rw [hsz.out]; kernel_rfl) (by rw [hsz.out]; kernel_rfl) (all_oneCell_toArray (i64v_one _)) ?_))
      refine bodyPost_ret (v := .agg (i64v v).toArray) (results_cell_row Try.results17 _ _ w.heap.size 30 _ (0, 0) _ rfl (setRow_heap _ _ _ _ _ _ hz.out) Try.underlying30 rfl (by rw [hsz.out]; kernel_rfl)) rfl ⟨by rw [HE.out], below_setRow hbw (by omega) _⟩
end Go.Proofs.Ytncjobhpiohkkaa
namespace Go.Proofs.Ytncjobhpiohkkaa
open Go.RowKit

theorem results_rows {P : Program} {fn : Func} {p q : Tmp} {ty ty2 : TypeId} (h : fn.results = #[.cell p ty, .cell q ty2]) (tmps : Array Value) (w : World)
    (g : Nat) (t : TypeId) (cs : Array Value) (fr : Nat × Nat) (d : TypeDesc) (hp : tmps.getD p undef = .pointer (some ⟨g, 0, none⟩)) (hg : w.heap[g]? = some (.cells cs t fr))
    (hu : P.underlying ty = some d) (hd : (match d with | .struct _ | .array _ _ => true | _ => false) = true) (hi : (P.info? ty).map (·.size) = some cs.size)
    (g2 : Nat) (t2 : TypeId) (cs2 : Array Value) (fr2 : Nat × Nat) (d2 : TypeDesc) (hp2 : tmps.getD q undef = .pointer (some ⟨g2, 0, none⟩)) (hg2 : w.heap[g2]? = some (.cells cs2 t2 fr2))
    (hu2 : P.underlying ty2 = some d2) (hd2 : (match d2 with | .struct _ | .array _ _ => true | _ => false) = true) (hi2 : (P.info? ty2).map (·.size) = some cs2.size) :
    (results fn tmps).run P w = .ok (.tuple #[.agg cs, .agg cs2]) w := by
  have hp' : tmps[p]?.getD undef = .pointer (some ⟨g, 0, none⟩) := by simpa using hp
  have hq' : tmps[q]?.getD undef = .pointer (some ⟨g2, 0, none⟩) := by simpa using hp2
  simp [results, h, hp', hq', asAddr, run_loadVar_row w g t ty cs fr d hg hu hd hi, run_loadVar_row w g2 t2 ty2 cs2 fr2 d2 hg2 hu2 hd2 hi2, Sem.run_bind, Result.andThen]
theorem built_dot2 (x y : Int) : Try.prog.built 28 [(0, .int .i64 x), (1, .int .i64 y)] = some #[.int .i64 x, .int .i64 y] := by kernel_rfl
set_option maxRecDepth 100000 in
set_option maxHeartbeats 4000000 in
theorem next_any {w : World} {F : Nat → Prop} {b : Nat} {L : List Ed} (hb : BkF w F b L) (d : Int) (v : List Int) (hd : 0 ≤ d ∧ d < 8) (hv : v = bvec L) :
    Calls Try.prog 12 #[.pointer (some ⟨b, 0, none⟩), .int .i64 d] w fun x w' => x = .returned (.tuple #[.agg #[.int .i64 d, .int .i64 (iat v d.toNat + 1)], .agg (i64v v).toArray]) ∧ Below w.heap.size w w' := by
  obtain ⟨W, hW, hgD, hgZ, hbW, hsW⟩ := pair_new w #[.int .i64 0, .int .i64 0] #[.int .i64 0, .int .i64 0, .int .i64 0, .int .i64 0, .int .i64 0, .int .i64 0, .int .i64 0, .int .i64 0] 28 30
  have HW := Lib.hid hW
  have dV := vlt (vec_any (hb.next hbW))
  rw [← hv] at dV
  have hvl : v.length = 8 := by rw [hv]; exact bvec_len hb.good
  have htop : 0 ≤ iat v d.toNat ∧ iat v d.toNat ≤ 1099511627776 := by
    rw [hv]
    exact Upto.top (i := L.length) (by rw [List.take_length]; exact bvec_upto hb.good) hb.good _ (by omega)
  have hadd : IntKind.i64.wrap (iat v d.toNat + 1) = iat v d.toNat + 1 := by rw [IntKind.wrap_i64]; omega
  have hdl : d.toNat < v.length := by omega
  have hsz : Hid ((i64v v).toArray.size = 8) := Lib.hid (by simp [i64v_len, hvl])
  have hlv : Hid ((i64v v).length = 8) := Lib.hid (by rw [i64v_len, hvl])
  obtain ⟨hd0, hd8⟩ := hd
  have hn1 : ¬ d < 0 := by omega
  have hn2 : ¬ (8 : Int) ≤ d := by omega
  clear hW hb hv
  go_enter Try.func12, Try.ntmps12
  go_upto_region 1 with fail
  rw [HW.out]
  refine plain_start (S := fun W' => Below W.heap.size W W') (by kernel_rfl) (Below.refl _ _) (fun hHeld => ?_)
  refine wpAnyH_take (i := 0) (oi := ⟨(some 7), _, _, _, _, _⟩) (v := .int .i64 d) rfl (by kernel_rfl) (by kernel_rfl) (by kernel_rfl) (fun _ _ _ h => h) (Or.inl ⟨by rfl, ?yr1_0⟩) hHeld ?_
  case yr1_0 => (intro W0 hSw; go_simp; try with_reducible rfl)
  try simp only [pu]
  refine wpAnyH_take (i := 1) (oi := ⟨(some 8), _, _, _, _, _⟩) (v := .bool false) rfl (by kernel_rfl) (by kernel_rfl) (by kernel_rfl) (fun _ _ _ h => h) (Or.inl ⟨by rfl, ?yr1_1⟩) hHeld ?_
  case yr1_1 => (intro W0 hSw; go_simp; try with_reducible rfl)
  try simp only [pu]
  refine wpAnyH_take (i := 2) (oi := ⟨(some 9), _, _, _, _, _⟩) (v := .bool false) rfl (by kernel_rfl) (by kernel_rfl) (by kernel_rfl) (fun _ _ _ h => h) (Or.inl ⟨by rfl, ?yr1_2⟩) hHeld ?_
  case yr1_2 => (intro W0 hSw; go_simp; try with_reducible rfl)
  try simp only [pu]
  refine wpAnyH_take (i := 3) (oi := ⟨(some 10), _, _, _, _, _⟩) (v := .int .i64 d) rfl (by kernel_rfl) (by kernel_rfl) (by kernel_rfl) (fun _ _ _ h => h) (Or.inl ⟨by rfl, ?yr1_3⟩) hHeld ?_
  case yr1_3 => (intro W0 hSw; go_simp; try with_reducible rfl)
  try simp only [pu]
  refine wpAnyH_take (i := 4) (oi := ⟨(some 11), _, _, _, _, _⟩) (v := .bool false) rfl (by kernel_rfl) (by kernel_rfl) (by kernel_rfl) (fun _ _ _ h => h) (Or.inl ⟨by rfl, ?yr1_4⟩) hHeld ?_
  case yr1_4 => (intro W0 hSw; go_simp; try with_reducible rfl)
  try simp only [pu]
  refine wpAnyH_take (i := 5) (oi := ⟨(some 12), _, _, _, _, _⟩) (v := .bool false) rfl (by kernel_rfl) (by kernel_rfl) (by kernel_rfl) (fun _ _ _ h => h) (Or.inl ⟨by rfl, ?yr1_5⟩) hHeld ?_
  case yr1_5 => (intro W0 hSw; go_simp; try with_reducible rfl)
  try simp only [pu]
  refine wpAnyH_done (by kernel_rfl) ?_ _
  go_upto_region 3 with fail
  go_wp2_with (first | (go_at_call 17; refine dV.out.mono ?_; rintro e w1 ⟨rfl, hb1⟩) | ((with_reducible refine wpList_store_row rfl 30 (.tmp 6) (.tmp 16) rfl _ (i64v v).toArray rfl (by kernel_rfl) 30 _ (heap_alloc_new _ _) (by rw [hsz.out]; kernel_rfl) (by rw [hsz.out]; kernel_rfl) (all_oneCell_toArray (i64v_one _)) ?_); rw [World.setRow_alloc_new]))
  try simp only [pu]
  have hb3 := below_next hbW hbW.size hb1
  have hgD3 := row_next2 hgD hb1
  have hgZ3 := row_next2 hgZ hb1
  have hlZ := row_size hgZ3
  obtain ⟨U, hU⟩ : ∃ U, w1.alloc (.cells (i64v v).toArray 30) = U := ⟨_, rfl⟩
  have hbn : Below w1.heap.size w1 U := by rw [← hU]; exact (Below.refl _ w1).alloc (Nat.le_refl _) _
  have hgN : Hid (U.heap[w1.heap.size]? = some (.cells (i64v v).toArray 30 (0, 0))) := by rw [← hU]; exact heap_alloc_new w1 _
  rw [hU]
  have hgD4 := row_next2 hgD3 hbn
  have hgZ4 := row_next2 hgZ3 hbn
  have hb4 := below_next hb3 hb3.size hbn
  obtain ⟨N, hN⟩ : ∃ N, w1.heap.size = N := ⟨_, rfl⟩
  rw [hN] at hgN hlZ ⊢
  have hnN : ¬ (N = w.heap.size ∨ N = w.heap.size + 1) := by omega
  have hbd := Lib.hid (built_dot2 d (iat v d.toNat + 1))
  clear hU hN hHeld hbn hb1 hgD3 hgZ3 hb3
  refine wp_region_held_drew (S := fun W' => Off (fun i => i = w.heap.size ∨ i = w.heap.size + 1) U W') (by kernel_rfl) ((Off.refl _ U).drew) (fun hHeld => ?_)
  refine wpAnyH_take (i := 0) (oi := ⟨(some 17), _, _, _, _, _⟩) (v := .int .i64 d) rfl (by kernel_rfl) (by kernel_rfl) (by kernel_rfl) (fun _ _ _ h => h) (Or.inl ⟨by rfl, ?yr4_0⟩) hHeld ?_
  case yr4_0 => (intro W0 hSw; go_simp; try with_reducible rfl)
  try simp only [pu]
  refine wpAnyH_take (i := 1) (oi := ⟨(some 18), _, _, _, _, _⟩) (v := .int .i64 d) rfl (by kernel_rfl) (by kernel_rfl) (by kernel_rfl) (fun _ _ _ h => h) (Or.inl ⟨by rfl, ?yr4_1⟩) hHeld ?_
  case yr4_1 => (intro W0 hSw; go_simp; try with_reducible rfl)
  try simp only [pu]
  refine wpAnyH_take (i := 2) (oi := ⟨(some 19), _, _, _, _, _⟩) (v := .pointer (some ⟨N, d.toNat, none⟩)) rfl (by kernel_rfl) (by kernel_rfl) (by kernel_rfl) (fun _ _ _ h => h) (Or.inl ⟨by rfl, ?yr4_2⟩) hHeld ?_
  case yr4_2 => (intro W0 hSw; go_simp; try with_reducible rfl)
  try simp only [pu]
  refine wpAnyH_take (i := 3) (oi := ⟨(some 20), _, _, _, _, _⟩) (v := .int .i64 (iat v d.toNat)) rfl (by kernel_rfl) (by kernel_rfl) (by kernel_rfl) (fun _ _ _ h => h) (Or.inl ⟨by rfl, ?yr4_3⟩) hHeld ?_
  case yr4_3 => (intro W0 hSw; have cc := int_at (row_off hgN hSw hnN).out d.toNat hdl; go_simp; try with_reducible rfl)
  try simp only [pu]
  refine wpAnyH_take (i := 4) (oi := ⟨(some 21), _, _, _, _, _⟩) (v := .int .i64 (iat v d.toNat + 1)) rfl (by kernel_rfl) (by kernel_rfl) (by kernel_rfl) (fun _ _ _ h => h) (Or.inl ⟨by rfl, ?yr4_4⟩) hHeld ?_
  case yr4_4 => (intro W0 hSw; go_simp; try with_reducible rfl)
  try simp only [pu]
  refine wpAnyH_take (i := 5) (oi := ⟨(some 22), _, _, _, _, _⟩) (v := .agg [.int .i64 d, .int .i64 (iat v d.toNat + 1)].toArray) rfl (by kernel_rfl) (by kernel_rfl) (by kernel_rfl) (fun _ _ _ h => h) (yields_build (by rfl) _ _ rfl [(0, .int .i64 d), (1, .int .i64 (iat v d.toNat + 1))] (by rfl) _ hbd.out) hHeld ?_
  try simp only [pu]
  refine wpAnyH_take (i := 6) (oi := ⟨(some 23), _, _, _, _, _⟩) (v := .agg (i64v v).toArray) rfl (by kernel_rfl) (by kernel_rfl) (by kernel_rfl) (fun _ _ _ h => h) (yieldsIf_load_mid (by rfl) _ _ rfl N 0 rfl (i64v v) _ (fun W' hW' => range_row ((row_off hgN hW' hnN).out)) (Try.underlying30) rfl (by rw [hlv.out]; kernel_rfl)) hHeld ?_
  try simp only [pu]
  refine wpAnyH_ready (rs := [7]) (by kernel_rfl) (by simp) ?_
  refine AllReadyH.cons (i := 7) (o := ⟨none, _, _, _, _, _⟩) rfl (fun K hK => ?_) AllReadyH.nil
  refine step_row (by rfl) 28 (.tmp 4) (.tmp 22) rfl w.heap.size [.int .i64 d, .int .i64 (iat v d.toNat + 1)] rfl rfl 28 _ hgD4.out (by kernel_rfl) rfl (by simp [Value.oneCell']) ?_
  intro U5 hgD5 hk5
  have hgZ5 := row_but (show Hid (U.drew.heap[w.heap.size + 1]? = _) from hgZ4) hk5 (by omega)
  refine hK.out _ _ (hHeld.trans (Off.of_but (F := fun i => i = w.heap.size ∨ i = w.heap.size + 1) hk5 (.inl rfl)) (fun i h => .inl h)) (fun hHeld => ?_)
  clear hK K
  try simp only [pu]
  refine wpAnyH_ready (rs := [8]) (by kernel_rfl) (by simp) ?_
  refine AllReadyH.cons (i := 8) (o := ⟨none, _, _, _, _, _⟩) rfl (fun K hK => ?_) AllReadyH.nil
  refine step_row (by rfl) 30 (.tmp 5) (.tmp 23) rfl (w.heap.size + 1) (i64v v) rfl rfl 30 _ hgZ5.out (by rw [hlv.out]; kernel_rfl) (by rw [hlv.out]; rfl) (i64v_one _) ?_
  intro U6 hgZ6 hk6
  refine hK.out _ _ (hHeld.trans (Off.of_but (F := fun i => i = w.heap.size ∨ i = w.heap.size + 1) hk6 (.inr rfl)) (fun i h => .inl h)) (fun hHeld => ?_)
  clear hK K
  try simp only [pu]
  refine wpAnyH_done (by kernel_rfl) ?_ _
  go_wp2
  refine bodyPost_ret (v := .tuple #[.agg #[.int .i64 d, .int .i64 (iat v d.toNat + 1)], .agg (i64v v).toArray]) (results_rows Try.results12 _ _ w.heap.size 28 _ (0, 0) _ rfl (row_but hgD5 hk6 (by omega)).out Try.underlying28 rfl (by kernel_rfl) (w.heap.size + 1) 30 _ (0, 0) _ rfl hgZ6.out Try.underlying30 rfl (by rw [hsz.out]; kernel_rfl)) rfl ⟨rfl, ?_⟩
  exact hHeld.below hb4 (fun i h => by omega) hb4.size
end Go.Proofs.Ytncjobhpiohkkaa
namespace Go.Proofs.Ytncjobhpiohkkaa
open Go.RowKit

def blast (l : List ByteArray) : ByteArray := l.getLastD ⟨#[]⟩
set_option maxRecDepth 100000 in
set_option maxHeartbeats 4000000 in
theorem value_any {w : World} {F : Nat → Prop} {b : Nat} {L : List Ed} (hb : BkF w F b L) (q f : ByteArray) (hfew : (ball L q f).length ≤ 1048576) :
    Calls Try.prog 13 #[.pointer (some ⟨b, 0, none⟩), .string q, .string f] w fun x w' => x = .returned (.tuple #[.string (blast (ball L q f)), .bool (decide (0 < (ball L q f).length))]) ∧ Below w.heap.size w w' := by
  have DA := vlt (all_any hb q f)
  obtain ⟨V, hV⟩ : ∃ V, ball L q f = V := ⟨_, rfl⟩
  rw [hV] at DA hfew ⊢
  obtain ⟨n, hn⟩ : ∃ n, V.length = n := ⟨_, rfl⟩
  rw [hn] at DA hfew ⊢
  have HN := Lib.hid hn
  obtain ⟨B, hB⟩ : ∃ B, blast V = B := ⟨_, rfl⟩
  have HB := Lib.hid hB
  rw [hB]
  clear hV hb hB
  go_enter Try.func13, Try.ntmps13
  go_upto_region 2 with (go_at_call 25; refine DA.out.mono ?_; rintro e w1 ⟨A, c, rfl, hr, hb1⟩; clear DA)
  by_cases h0 : n = 0
  · have hz : B = ⟨#[]⟩ := by
      rw [← HB.out, List.eq_nil_of_length_eq_zero (HN.out.trans h0)]; rfl
    subst hz
    subst h0
    clear hn
    go_wp2
    go_ret2
    exact ⟨rfl, hb1⟩
  · obtain ⟨G, s, rfl, hrow⟩ := hr.at_ (by rw [HN.out]; omega)
    have hx : V[n - 1]? = some B := by
      rw [← HB.out, blast]
      have hne : V ≠ [] := fun e => by rw [e] at hn; simp at hn; omega
      rw [List.getLastD_eq_getLast?, List.getLast?_eq_getElem?, HN.out]
      rw [List.getElem?_eq_getElem (by rw [HN.out]; omega)]; rfl
    have cc := text_at hrow hx
    obtain ⟨k, rfl⟩ : ∃ k, n = k + 1 := ⟨n - 1, by omega⟩
    rw [Nat.add_sub_cancel] at cc
    have hp : (0 : Int) < ((k + 1 : Nat) : Int) := by omega
    clear hx hn
    go_wp2
    go_ret2
    exact ⟨by simp, hb1⟩
set_option maxRecDepth 100000 in
set_option maxHeartbeats 4000000 in
theorem next_none (w : World) (b : Nat) (d : Int) (hd : ¬ (0 ≤ d ∧ d < 8)) :
    Calls Try.prog 12 #[.pointer (some ⟨b, 0, none⟩), .int .i64 d] w fun x w' => x = .returned (.tuple #[.agg #[.int .i64 0, .int .i64 0], .agg (i64v (List.replicate 8 0)).toArray]) ∧ Below w.heap.size w w' := by
  have e0 : (i64v (List.replicate 8 0)).toArray = #[.int .i64 0, .int .i64 0, .int .i64 0, .int .i64 0, .int .i64 0, .int .i64 0, .int .i64 0, .int .i64 0] := rfl
  rw [e0]
  clear e0
  have hz2 : ((w.alloc (.cells #[.int .i64 0, .int .i64 0] 28)).alloc (.cells #[.int .i64 0, .int .i64 0, .int .i64 0, .int .i64 0, .int .i64 0, .int .i64 0, .int .i64 0, .int .i64 0] 30)).heap[w.heap.size + 1]? = some (.cells #[.int .i64 0, .int .i64 0, .int .i64 0, .int .i64 0, .int .i64 0, .int .i64 0, .int .i64 0, .int .i64 0] 30 (0, 0)) := by
    have h := heap_alloc_new (w.alloc (.cells #[.int .i64 0, .int .i64 0] 28)) (.cells #[.int .i64 0, .int .i64 0, .int .i64 0, .int .i64 0, .int .i64 0, .int .i64 0, .int .i64 0, .int .i64 0] 30)
    simpa using h
  by_cases h1 : d < 0
  · clear hd
    go_enter Try.func12, Try.ntmps12
    go_wp2
    refine bodyPost_ret (v := .tuple #[.agg #[.int .i64 0, .int .i64 0], .agg #[.int .i64 0, .int .i64 0, .int .i64 0, .int .i64 0, .int .i64 0, .int .i64 0, .int .i64 0, .int .i64 0]]) (results_rows Try.results12 _ _ w.heap.size 28 _ (0, 0) _ rfl ((heap_alloc_old _ _ (by simp)).trans (heap_alloc_new w _)) Try.underlying28 rfl (by kernel_rfl) (w.heap.size + 1) 30 _ (0, 0) _ rfl hz2 Try.underlying30 rfl (by kernel_rfl)) rfl ⟨rfl, ?_⟩
    exact ((Below.refl _ _).alloc (Nat.le_refl _) _).alloc (by simp) _
  · have h2 : (8 : Int) ≤ d := by omega
    clear hd
    go_enter Try.func12, Try.ntmps12
    go_wp2
    refine bodyPost_ret (v := .tuple #[.agg #[.int .i64 0, .int .i64 0], .agg #[.int .i64 0, .int .i64 0, .int .i64 0, .int .i64 0, .int .i64 0, .int .i64 0, .int .i64 0, .int .i64 0]]) (results_rows Try.results12 _ _ w.heap.size 28 _ (0, 0) _ rfl ((heap_alloc_old _ _ (by simp)).trans (heap_alloc_new w _)) Try.underlying28 rfl (by kernel_rfl) (w.heap.size + 1) 30 _ (0, 0) _ rfl hz2 Try.underlying30 rfl (by kernel_rfl)) rfl ⟨rfl, ?_⟩
    exact ((Below.refl _ _).alloc (Nat.le_refl _) _).alloc (by simp) _
end Go.Proofs.Ytncjobhpiohkkaa
namespace Go.Proofs.Ytncjobhpiohkkaa
open Go.RowKit

theorem bcons_of {L : List Ed} {U : List ByteArray} (h : U.Pairwise (fun a b => tlt a b = true) ∧ ∀ x, x ∈ U ↔ x ∈ (L.filter (isLive L)).map (·.con)) : U = bcons L :=
  bcons_is h.1 fun c => by rw [h.2]; simp [and_assoc]
set_option maxRecDepth 100000 in
set_option maxHeartbeats 4000000 in
theorem contacts_any {w : World} {F : Nat → Prop} {b : Nat} {L : List Ed} (hb : BkF w F b L) :
    Calls Try.prog 19 #[.pointer (some ⟨b, 0, none⟩)] w fun x w' => ∃ A c, x = .returned (.slice A (bcons L).length c) ∧ TR w' A (bcons L) ∧ Below w.heap.size w w' := by
  obtain ⟨A0, c0, hc, hr⟩ := hb.er
  have V1 := vlt hb
  have HSE := vlt hb.good.se
  have hfew := hb.good.few
  obtain ⟨m, hm⟩ : ∃ m, L.length = m := ⟨_, rfl⟩
  rw [hm] at hc hfew
  have HM := Lib.hid hm
  have hbl := row_size hc
  have cb := s_cell hc
  clear hb hm
  go_enter Try.func19, Try.ntmps19
  go_wp2
  go_loopg [3, 5, 11] m (fun k s3 s5 s11 wr => ∃ (i : Nat) (A : Option Addr) (n c : Nat), s3 = .slice A n c ∧ s11 = .int .i64 i ∧ m - i < k + 1 ∧ i ≤ m ∧ n ≤ i ∧ Vlt (Txo wr w.heap.size A n c (((L.take i).filter (isLive L)).map (·.con))) ∧ Below w.heap.size w wr)
  case atStart => exact ⟨0, none, 0, 0, rfl, rfl, by omega, Nat.zero_le _, Nat.le_refl _, vlt (Txo.nil _ _), Below.refl _ _⟩
  case round =>
    obtain ⟨i, A, n, c, rfl, rfl, hk, him, hni, H1, hbt⟩ := hrel
    by_cases hlt : i < m
    · skip
      have hltz : (i : Int) < (m : Int) := by omega
      obtain ⟨G, s, rfl, hrow⟩ := (hr.next hbt).at_ (by rw [HM.out]; omega)
      obtain ⟨x, hx⟩ : ∃ x, L[i]? = some x := ⟨_, List.getElem?_eq_getElem (by rw [HM.out]; omega)⟩
      have hrng := edit_range hrow.out HSE.out hx
      have HX := Lib.hid hx
      have HX8 := Lib.hid (HSE.out.get hx)
      have hbn := (Below.refl wr.heap.size wr).alloc (Nat.le_refl _) (.cells x.cells.toArray 32)
      have hbu := below_next hbt hbt.size hbn
      have hgX : Hid ((wr.alloc (.cells x.cells.toArray 32)).heap[wr.heap.size]? = some (.cells x.cells.toArray 32 (0, 0))) := Lib.hid (heap_alloc_new wr _)
      obtain ⟨o, ho⟩ : ∃ o, isLive L x = o := ⟨_, rfl⟩
      have DL := vlt (live_any (V1.out.next hbu) x HX8.out ho)
      have H2 := vlt (H1.out.next hbn)
      clear hx hbn
      cases o with
      | true =>
        have VO := vlt ho
        clear ho
        go_upto_region 4 with fail
        go_wp2_with (first | (with_reducible refine wpList_load_mid rfl 32 (.tmp 13) rfl G (i * 15) rfl x.cells _ hrng Try.underlying32 rfl (by rw [Ed.cells_len HX8.out]; kernel_rfl) ?_) | ((with_reducible refine wpList_store_row rfl 32 (.tmp 5) (.tmp 14) rfl wr.heap.size x.cells.toArray rfl (by kernel_rfl) 32 _ (heap_alloc_new _ _) (by rw [Ed.cells_size HX8.out]; kernel_rfl) (by rw [Ed.cells_size HX8.out]; kernel_rfl) (all_oneCell_toArray (Ed.cells_one _)) ?_); rw [World.setRow_alloc_new]) | (with_reducible refine wpList_load_row rfl 32 (.tmp 5) rfl wr.heap.size rfl 32 x.cells.toArray (0, 0) _ hgX.out Try.underlying32 rfl (by rw [Ed.cells_size HX8.out]; kernel_rfl) ?_) | (go_at_call 31; refine DL.out.mono ?_; rintro e w5 ⟨rfl, hb5⟩; have cc := ed_con (row_next2 hgX hb5) HX8.out; obtain ⟨A', c', w7, hrun, hT7, hb7⟩ := txo_push (H2.out.next hb5) (Nat.le_trans hbu.size hb5.size) (by omega) x.con; have VR := vlt hrun; have H7 := vlt hT7; have hb5' := below_next hbu hbu.size hb5; clear hrun hT7 DL) | (at_builtin; refine Lib.wpList_append_run _ rfl _ _ _ _ rfl _ _ rfl rfl _ _ VR.out ?_))
        have hs5 := hb5'.size
        have hb8 := hb5'.trans hb7
        have H8 : Vlt (Txo w7 w.heap.size A' (n + 1) c' (((L.take (i + 1)).filter (isLive L)).map (·.con))) := vlt (by rw [pick_yes HX.out (VO.out)]; exact H7.out)
        go_roundg (m - (i + 1))
        case measure => omega
        case rel => exact ⟨i + 1, A', n + 1, c', by go_num, by go_num, by omega, by omega, by omega, H8, hb8⟩
      | false =>
        have VO := vlt ho
        clear ho
        go_upto_region 4 with fail
        go_wp2_with (first | (with_reducible refine wpList_load_mid rfl 32 (.tmp 13) rfl G (i * 15) rfl x.cells _ hrng Try.underlying32 rfl (by rw [Ed.cells_len HX8.out]; kernel_rfl) ?_) | ((with_reducible refine wpList_store_row rfl 32 (.tmp 5) (.tmp 14) rfl wr.heap.size x.cells.toArray rfl (by kernel_rfl) 32 _ (heap_alloc_new _ _) (by rw [Ed.cells_size HX8.out]; kernel_rfl) (by rw [Ed.cells_size HX8.out]; kernel_rfl) (all_oneCell_toArray (Ed.cells_one _)) ?_); rw [World.setRow_alloc_new]) | (with_reducible refine wpList_load_row rfl 32 (.tmp 5) rfl wr.heap.size rfl 32 x.cells.toArray (0, 0) _ hgX.out Try.underlying32 rfl (by rw [Ed.cells_size HX8.out]; kernel_rfl) ?_) | (go_at_call 31; refine DL.out.mono ?_; rintro e w5 ⟨rfl, hb5⟩; clear DL))
        have hb8 := below_next hbu hbu.size hb5
        have H8 : Vlt (Txo w5 w.heap.size A n c (((L.take (i + 1)).filter (isLive L)).map (·.con))) := vlt (by rw [pick_no HX.out (VO.out)]; exact H2.out.next hb5)
        go_roundg (m - (i + 1))
        case measure => omega
        case rel => exact ⟨i + 1, A, n, c, rfl, by go_num, by omega, by omega, by omega, H8, hb8⟩
    · have hltz : ¬ (i : Int) < (m : Int) := by omega
      have HT : Vlt (((L.take i).filter (isLive L)).map (·.con) = (L.filter (isLive L)).map (·.con)) := vlt (by rw [List.take_of_length_le (by rw [HM.out]; omega)])
      rw [HT.out] at H1
      have DR := vlt (rising_txo H1.out hbt.size (by omega))
      clear HT
      go_wp2_with (go_at_call 32; refine DR.out.mono ?_; rintro e w9 ⟨U, c9, rfl, hU, hT9, hb9⟩; clear DR)
      have HU := vlt (bcons_of hU.out)
      clear hU
      go_ret
      rw [HU.out] at hT9
      exact ⟨A, c9, by rw [HU.out]; rfl, hT9, hbt.trans hb9⟩
end Go.Proofs.Ytncjobhpiohkkaa
namespace Go.Proofs.Ytncjobhpiohkkaa
open Go.RowKit

set_option maxRecDepth 100000 in
theorem new_any (w : World) : Calls Try.prog 10 #[] w fun x w' => ∃ N, x = .returned (.pointer (some ⟨N, 0, none⟩)) ∧ BkF w' (fun i => w.heap.size ≤ i) N [] ∧ Below w.heap.size w w' := by
  go_enter Try.func10, Try.ntmps10
  go_wp2
  go_ret
  exact ⟨_, rfl, ⟨Nat.le_refl _, BGood.nil, none, 0, Lib.hid (heap_alloc_new w _), World.ownsRow_nil _ _ _ _, fun p hp => by cases hp⟩, (Below.refl _ _).alloc (Nat.le_refl _) _⟩
set_option maxRecDepth 100000 in
theorem clone_any {w : World} {A : Option Addr} {L : List Ed} {n : Nat} (c : Nat) (hr : ER w A L) (hse : Se L) (hl : L.length = n) (hn : n ≤ 1048576) :
    Calls Try.prog 33 #[.slice A n c] w fun x w' => ∃ A' c', x = .returned (.slice A' n c') ∧ w'.ownsRow 0 32 15 (.slice A' n c') n (flatE L) ∧ Below w.heap.size w w' ∧ (∀ q, A' = some q → w.heap.size ≤ q.block) := by
  cases A with
  | none =>
    have hL : L = [] := by
      rcases hr with h | ⟨G, s, h, _⟩
      · exact h
      · cases h
    subst hL
    obtain rfl : n = 0 := by simpa using hl.symm
    have hnil := fun w0 => Lib.run_eql_slice_nil (P := Try.prog) w0 44 32 none 0 c 0 0 Try.underlying44
    go_enter Try.func33, Try.ntmps33
    go_wp2
    go_ret
    exact ⟨none, 0, rfl, World.ownsRow_nil _ _ _ _, Below.refl _ _, fun q hq => by cases hq⟩
  | some p =>
    have hown := World.ownsRow_made (base := 0) (e := 32) (size := 15) w #[] 0 (Nat.zero_le _) (Nat.zero_le _) rfl
    have hcells : ∀ j u, (flatE L)[j]? = some u → (w.alloc (.cells #[] 32)).cell? (p.add j) = some u := fun j u hu => by
      rcases hr with rfl | ⟨G, s, hp, hg⟩
      · simp [flatE] at hu
      · cases hp
        have hj := (List.getElem?_eq_some_iff.1 hu).1
        rw [Addr.add_lit, World.cell?_of_block (heap_alloc_old w _ (row_size hg)), cell_of_row _ _ _ _ _ _ hg.out, Nat.zero_add]
        simp only [List.getElem?_toArray]
        rw [List.getElem?_append_left hj]
        exact hu
    obtain ⟨A', c', w2, hrun, hown2, hgr, hpl, h5⟩ := append_big (P := Try.prog) (ty := 44) (w.alloc (.cells #[] 32)) Try.underlying44 edit_info (by kernel_rfl) (by omega) hown p n c (flatE L) (by rw [flatE_len hse, hl]) hcells (flatE_one L) (by omega) (by omega)
    have VR := vlt hrun
    have VF : Vlt (w2.ownsRow 0 32 15 (.slice A' n c') n (flatE L) ∧ Below w.heap.size w w2 ∧ (∀ q, A' = some q → w.heap.size ≤ q.block)) := vlt ⟨by simpa using hown2, ⟨hgr.os, hgr.tape, hgr.output, by have := hgr.size; simp at this; omega, fun k hk => by
        rw [hgr.block k (by simp; omega) (fun e => by simp at e; omega)]
        exact heap_alloc_old w _ hk⟩, fun q hq => by
        rcases hpl q hq with ⟨r, hr, he⟩ | hge
        · cases hr; rw [he]; exact Nat.le_refl _
        · simp at hge; omega⟩
    clear hrun hown2 hgr hpl h5 hown hcells hr
    simp only [Nat.zero_add] at VR
    have hnil := fun w0 => Lib.run_eql_slice_nil (P := Try.prog) w0 44 32 (some p) n c 0 0 Try.underlying44
    go_enter Try.func33, Try.ntmps33
    go_wp2_with (at_builtin; refine Lib.wpList_append_run _ rfl _ _ _ _ rfl _ _ rfl rfl _ _ VR.out ?_)
    go_ret
    exact ⟨_, _, rfl, VF.out⟩
set_option maxRecDepth 100000 in
theorem edits_any {w : World} {F : Nat → Prop} {b : Nat} {L : List Ed} (hb : BkF w F b L) :
    Calls Try.prog 22 #[.pointer (some ⟨b, 0, none⟩)] w fun x w' => ∃ A' c', x = .returned (.slice A' L.length c') ∧ w'.ownsRow 0 32 15 (.slice A' L.length c') L.length (flatE L) ∧ Below w.heap.size w w' ∧ (∀ q, A' = some q → w.heap.size ≤ q.block) := by
  obtain ⟨A, c, hc, hr⟩ := hb.er
  have hcl := clone_any c hr hb.good.se rfl (by have := hb.good.few; omega)
  have cc := s_cell hc
  have VC := vlt hcl
  clear hcl hr hb
  go_enter Try.func22, Try.ntmps22
  go_wp2_with (go_at_call 33; refine VC.out.mono ?_; rintro e w1 ⟨A', c', rfl, h1⟩)
  go_ret
  exact ⟨_, _, rfl, h1⟩
set_option maxRecDepth 100000 in
theorem copy_any {w : World} {F : Nat → Prop} {b : Nat} {L : List Ed} (hb : BkF w F b L) :
    Calls Try.prog 14 #[.pointer (some ⟨b, 0, none⟩)] w fun x w' => ∃ N, x = .returned (.pointer (some ⟨N, 0, none⟩)) ∧ BkF w' (fun i => w.heap.size ≤ i) N L ∧ Below w.heap.size w w' := by
  have hed := edits_any hb
  have VC := vlt hed
  have VG := vlt hb.good
  obtain ⟨n, hn⟩ : ∃ n, L.length = n := ⟨_, rfl⟩
  have HN := vlt hn
  rw [hn] at VC
  clear hed hb hn
  go_enter Try.func14, Try.ntmps14
  go_wp2_with (go_at_call 22; refine VC.out.mono ?_; rintro e w1 ⟨A', c', rfl, h1⟩; have VE := vlt h1; clear h1)
  go_ret
  obtain ⟨h1, h2, h3⟩ := VE.out
  have hs := h2.size
  refine ⟨_, rfl, ⟨hs, VG.out, A', c', Lib.hid ?_, ?_, fun q hq => ⟨h3 q hq, ?_⟩⟩, h2.trans ((Below.refl _ _).alloc (by omega) _)⟩
  · rw [HN.out]; exact heap_alloc_new w1 _
  · rw [HN.out]; exact h1.alloc _
  · have := own_lt h1 q hq
    simp only [ne_eq]
    omega
end Go.Proofs.Ytncjobhpiohkkaa
namespace Go.Proofs.Ytncjobhpiohkkaa
open Go.RowKit

/-- One more, in a book that lies above B. -/
theorem add_low {w0 w : World} {B b : Nat} {L M : List Ed} {r : Int} (hb : BkF w (fun i => B ≤ i) b L) (e : Ed) (he : e.seen.length = 8) (hl : Below B w0 w) (hB : B ≤ w.heap.size) (hr : badd L e = (M, r)) :
    Calls Try.prog 11 #[.pointer (some ⟨b, 0, none⟩), .agg e.cells.toArray] w fun x w' => x = .returned (.int .i64 r) ∧ BkF w' (fun i => B ≤ i) b M ∧ Below B w0 w' ∧ B ≤ w'.heap.size := by
  refine (add_any hb e he).mono ?_
  rintro x w' ⟨rfl, h1, h2⟩
  rw [hr] at h1 ⊢
  exact ⟨rfl, h1.mono fun i _ h => by rcases h with h | h <;> omega, h2.below hl (fun i h => h) hB, Nat.le_trans hB h2.size⟩
theorem tr_new {w w' : World} {g : Nat} {cs : List Value} (l : List ByteArray) (h : w.alloc (.cells cs.toArray 9) = w') (hg : g = w.heap.size) (hl : l.map Value.string = cs) : TR w' (some ⟨g, 0, none⟩) l := by
  subst h hg
  exact .inr ⟨_, [], rfl, Lib.hid (by rw [hl, List.append_nil]; exact heap_alloc_new w _)⟩
def eA : Ed := ⟨1, 1, List.replicate 8 0, 1, ⟨#[99]⟩, ⟨#[102]⟩, ⟨#[121]⟩, 1⟩
def eB : Ed := ⟨0, 1, List.replicate 8 0, 1, ⟨#[99]⟩, ⟨#[102]⟩, ⟨#[120]⟩, 0⟩
theorem eA_cells : eA.cells.toArray = #[.int .i64 1, .int .i64 1, .int .i64 0, .int .i64 0, .int .i64 0, .int .i64 0, .int .i64 0, .int .i64 0, .int .i64 0, .int .i64 0, .int .i64 1, .string ⟨#[99]⟩, .string ⟨#[102]⟩, .string ⟨#[121]⟩, .int .i64 1] := rfl
theorem eB_cells : eB.cells.toArray = #[.int .i64 0, .int .i64 1, .int .i64 0, .int .i64 0, .int .i64 0, .int .i64 0, .int .i64 0, .int .i64 0, .int .i64 0, .int .i64 0, .int .i64 1, .string ⟨#[99]⟩, .string ⟨#[102]⟩, .string ⟨#[120]⟩, .int .i64 0] := rfl
set_option maxRecDepth 100000 in
theorem aw_one : badd [] eA = ([eA], 0) := by decide +kernel
set_option maxRecDepth 100000 in
theorem aw_two : badd [eA] eB = ([eB, eA], 0) := by decide +kernel
set_option maxRecDepth 100000 in
theorem aw_all : ball [eB, eA] ⟨#[99]⟩ ⟨#[102]⟩ = [⟨#[120]⟩, ⟨#[121]⟩] := by decide +kernel
set_option maxRecDepth 100000 in
theorem aw_con : bcons [eB, eA] = [⟨#[99]⟩] := by decide +kernel
set_option maxRecDepth 100000 in
theorem aw_vec : bvec [eB, eA] = [1, 1, 0, 0, 0, 0, 0, 0] := by decide +kernel
theorem aw_eql (w : World) : (binOp .eql 30 (.agg #[.int .i64 1, .int .i64 1, .int .i64 0, .int .i64 0, .int .i64 0, .int .i64 0, .int .i64 0, .int .i64 0]) (.agg #[.int .i64 1, .int .i64 1, .int .i64 0, .int .i64 0, .int .i64 0, .int .i64 0, .int .i64 0, .int .i64 0])).run Try.prog w = .ok (.bool true) w :=
  eql_ints (P := Try.prog) Try.underlying30 Try.underlying2 Try.sizeI64 [1, 1, 0, 0, 0, 0, 0, 0] [1, 1, 0, 0, 0, 0, 0, 0] rfl rfl w
set_option maxRecDepth 100000 in
set_option maxHeartbeats 4000000 in
theorem awake_any (w : World) : Calls Try.prog 9 #[] w fun x w' => x = .returned (.bool true) ∧ Below w.heap.size w w' := by
  have DN := vlt (new_any w)
  go_enter Try.func9, Try.ntmps9
  go_upto_region 4 with (go_at_call 10; refine DN.out.mono ?_; rintro e w1 ⟨N, rfl, hN1, hb1⟩; clear DN)
  have D1 := add_low hN1 eA rfl hb1 hb1.size aw_one
  rw [eA_cells] at D1
  have V1 := vlt D1
  clear D1
  go_upto_region 5 with (go_at_call 11; refine V1.out.mono ?_; rintro e w2 ⟨rfl, hN2, hb2, hs2⟩; clear V1)
  have D1 := add_low hN2 eB rfl hb2 hs2 aw_two
  rw [eB_cells] at D1
  have V1 := vlt D1
  clear D1
  go_upto_region 6 with (go_at_call 11; refine V1.out.mono ?_; rintro e w3 ⟨rfl, hN3, hb3, hs3⟩; clear V1)
  have D1 := value_any hN3 ⟨#[99]⟩ ⟨#[102]⟩ (by rw [aw_all]; decide)
  rw [aw_all, show blast [⟨#[120]⟩, ⟨#[121]⟩] = ⟨#[121]⟩ from rfl] at D1
  have V1 := vlt D1
  clear D1
  go_upto_region 7 with (go_at_call 13; refine V1.out.mono ?_; rintro e w4 ⟨rfl, hb4⟩; clear V1)
  have hN4 := hN3.next hb4
  have hb4' := below_next hb3 hs3 hb4
  have D1 := all_any hN4 ⟨#[99]⟩ ⟨#[102]⟩
  rw [aw_all] at D1
  have V1 := vlt D1
  clear D1
  go_wp2_with (first
    | (go_at_call 25; refine V1.out.mono ?_; rintro e w5 ⟨A5, c5, rfl, hr5, hb5⟩; have hb5' := below_next hb4' hb4'.size hb5; have hN5 := hN4.next hb5; have hba := (Below.refl w5.heap.size w5).alloc (Nat.le_refl _) (.cells #[.string ⟨#[120]⟩, .string ⟨#[121]⟩] 9); clear V1)
    | (go_at_call 18; refine (texts_any (m := [⟨#[120]⟩, ⟨#[121]⟩]) c5 2 (hr5.next hba) (tr_new _ rfl rfl rfl) rfl rfl (by decide) true (by decide)).mono ?_; rintro e w6 ⟨rfl, hb6⟩; have hb56 := below_next hba hba.size hb6; have hN6 := hN5.next hb56; have hb6' := below_next hb5' hb5'.size hb56; have D2 := contacts_any hN6; rw [aw_con] at D2; have V2 := vlt D2; clear D2 hr5 hb6 hb56)
    | (go_at_call 19; refine V2.out.mono ?_; rintro e w7 ⟨A7, c7, rfl, hr7, hb7⟩; have hb7' := below_next hb6' hb6'.size hb7; have hN7 := hN6.next hb7; have hbb := (Below.refl w7.heap.size w7).alloc (Nat.le_refl _) (.cells #[.string ⟨#[99]⟩] 9); clear V2)
    | (go_at_call 18; refine (texts_any (m := [⟨#[99]⟩]) c7 1 (hr7.next hbb) (tr_new _ rfl rfl rfl) rfl rfl (by decide) true (by decide)).mono ?_; rintro e w8 ⟨rfl, hb8⟩; have hb78 := below_next hbb hbb.size hb8; have hN8 := hN7.next hb78; have hb8' := below_next hb7' hb7'.size hb78; have D3 := vec_any hN8; rw [aw_vec] at D3; have V3 := vlt D3; clear D3 hr7 hb8 hb78)
    | (go_at_call 17; refine V3.out.mono ?_; rintro e w9 ⟨rfl, hb9⟩; rw [show (i64v [1, 1, 0, 0, 0, 0, 0, 0]).toArray = #[.int .i64 1, .int .i64 1, .int .i64 0, .int .i64 0, .int .i64 0, .int .i64 0, .int .i64 0, .int .i64 0] from rfl]; clear V3)
    | (with_reducible refine wpList_eql_w (by kernel_rfl) 30 _ (.tmp 49) (.tmp 50) rfl (by kernel_rfl) #[.int .i64 1, .int .i64 1, .int .i64 0, .int .i64 0, .int .i64 0, .int .i64 0, .int .i64 0, .int .i64 0] #[.int .i64 1, .int .i64 1, .int .i64 0, .int .i64 0, .int .i64 0, .int .i64 0, .int .i64 0, .int .i64 0] rfl rfl true (aw_eql _) ?_))
  go_ret
  exact ⟨rfl, below_next hb8' hb8'.size hb9⟩
end Go.Proofs.Ytncjobhpiohkkaa
namespace Go.Proofs.Ytncjobhpiohkkaa
open Go.RowKit

theorem bflds_of {L : List Ed} {q : ByteArray} {U : List ByteArray} (h : U.Pairwise (fun a b => tlt a b = true) ∧ ∀ x, x ∈ U ↔ x ∈ (L.filter (fun x => decide (x.con = q) && isLive L x)).map (·.fld)) : U = bflds L q :=
  bflds_is h.1 fun c => by
    rw [h.2, List.mem_map]
    constructor
    · rintro ⟨y, hy, rfl⟩
      rw [List.mem_filter, Bool.and_eq_true, decide_eq_true_iff] at hy
      exact ⟨y, ⟨⟨hy.1, hy.2.2⟩, hy.2.1⟩, rfl⟩
    · rintro ⟨y, ⟨⟨h1, h2⟩, h3⟩, rfl⟩
      exact ⟨y, List.mem_filter.2 ⟨h1, by rw [h2, decide_eq_true h3]; rfl⟩, rfl⟩
set_option maxRecDepth 100000 in
set_option maxHeartbeats 4000000 in
theorem fields_any {w : World} {F : Nat → Prop} {b : Nat} {L : List Ed} (hb : BkF w F b L) (q : ByteArray) :
    Calls Try.prog 20 #[.pointer (some ⟨b, 0, none⟩), .string q] w fun x w' => ∃ A c, x = .returned (.slice A (bflds L q).length c) ∧ TR w' A (bflds L q) ∧ Below w.heap.size w w' := by
  obtain ⟨A0, c0, hc, hr⟩ := hb.er
  have V1 := vlt hb
  have HSE := vlt hb.good.se
  have hfew := hb.good.few
  obtain ⟨m, hm⟩ : ∃ m, L.length = m := ⟨_, rfl⟩
  rw [hm] at hc hfew
  have HM := Lib.hid hm
  have hbl := row_size hc
  have cb := s_cell hc
  clear hb hm
  go_enter Try.func20, Try.ntmps20
  go_wp2
  go_loopg [5, 7, 13] m (fun k s5 s7 s13 wr => ∃ (i : Nat) (A : Option Addr) (n c : Nat), s5 = .slice A n c ∧ s13 = .int .i64 i ∧ m - i < k + 1 ∧ i ≤ m ∧ n ≤ i ∧ Vlt (Txo wr w.heap.size A n c (((L.take i).filter (fun x => decide (x.con = q) && isLive L x)).map (·.fld))) ∧ Below w.heap.size w wr)
  case atStart => exact ⟨0, none, 0, 0, rfl, rfl, by omega, Nat.zero_le _, Nat.le_refl _, vlt (Txo.nil _ _), Below.refl _ _⟩
  case round =>
    obtain ⟨i, A, n, c, rfl, rfl, hk, him, hni, H1, hbt⟩ := hrel
    by_cases hlt : i < m
    · skip
      have hltz : (i : Int) < (m : Int) := by omega
      obtain ⟨G, s, rfl, hrow⟩ := (hr.next hbt).at_ (by rw [HM.out]; omega)
      obtain ⟨x, hx⟩ : ∃ x, L[i]? = some x := ⟨_, List.getElem?_eq_getElem (by rw [HM.out]; omega)⟩
      have hrng := edit_range hrow.out HSE.out hx
      have HX := Lib.hid hx
      have HX8 := Lib.hid (HSE.out.get hx)
      obtain ⟨U, hU⟩ : ∃ U, wr.alloc (.cells x.cells.toArray 32) = U := ⟨_, rfl⟩
      have hgX : Hid (U.heap[wr.heap.size]? = some (.cells x.cells.toArray 32 (0, 0))) := by rw [← hU]; exact heap_alloc_new wr _
      have hbn : Below wr.heap.size wr U := by rw [← hU]; exact (Below.refl wr.heap.size wr).alloc (Nat.le_refl _) _
      have hUs : wr.heap.size < U.heap.size := row_size hgX
      have hbu := below_next hbt hbt.size hbn
      obtain ⟨o, ho⟩ : ∃ o, isLive L x = o := ⟨_, rfl⟩
      have DL : ∀ w2, Below U.heap.size U w2 → _ := fun w2 hw2 => live_any ((V1.out.next hbu).next hw2) x HX8.out ho
      have H2 := vlt (H1.out.next hbn)
      have HUW := Lib.hid hU
      clear hx hbn hU
      go_upto_region 4 with fail
      go_upto_region 5 with (first | (with_reducible refine wpList_load_mid rfl 32 (.tmp 15) rfl G (i * 15) rfl x.cells _ hrng Try.underlying32 rfl (by rw [Ed.cells_len HX8.out]; kernel_rfl) ?_) | ((with_reducible refine wpList_store_row rfl 32 (.tmp 7) (.tmp 16) rfl wr.heap.size x.cells.toArray rfl (by kernel_rfl) 32 _ (heap_alloc_new _ _) (by rw [Ed.cells_size HX8.out]; kernel_rfl) (by rw [Ed.cells_size HX8.out]; kernel_rfl) (all_oneCell_toArray (Ed.cells_one _)) ?_); rw [World.setRow_alloc_new, HUW.out]))
      by_cases hcon : x.con = q
      · cases o with
        | true =>
        have VO := vlt ho
        clear ho
        refine plain_start (S := fun W' => Below U.heap.size U W') (by kernel_rfl) (Below.refl _ _) (fun hHeld => ?_)
        refine wpAnyH_take (i := 0) (oi := ⟨(some 17), _, _, _, _, _⟩) (v := .pointer (some ⟨wr.heap.size, 11, none⟩)) rfl (by kernel_rfl) (by kernel_rfl) (by kernel_rfl) (fun _ _ _ h => h) (Or.inl ⟨by rfl, ?yr5_0⟩) hHeld ?_
        case yr5_0 => (intro W0 hSw; go_simp; try with_reducible rfl)
        try simp only [pu]
        refine wpAnyH_take (i := 1) (oi := ⟨(some 18), _, _, _, _, _⟩) (v := .string x.con) rfl (by kernel_rfl) (by kernel_rfl) (by kernel_rfl) (fun _ _ _ h => h) (Or.inl ⟨by rfl, ?yr5_1⟩) hHeld ?_
        case yr5_1 => (intro W0 hSw; have cc := ed_con (row_next2 hgX hSw) HX8.out; go_simp; try with_reducible rfl)
        try simp only [pu]
        refine wpAnyH_take (i := 2) (oi := ⟨(some 19), _, _, _, _, _⟩) (v := .string q) rfl (by kernel_rfl) (by kernel_rfl) (by kernel_rfl) (fun _ _ _ h => h) (Or.inl ⟨by rfl, ?yr5_2⟩) hHeld ?_
        case yr5_2 => (intro W0 hSw; go_simp; try with_reducible rfl)
        try simp only [pu]
        refine wpAnyH_take (i := 3) (oi := ⟨(some 20), _, _, _, _, _⟩) (v := .bool true) rfl (by kernel_rfl) (by kernel_rfl) (by kernel_rfl) (fun _ _ _ h => h) (Or.inl ⟨by rfl, ?yr5_3⟩) hHeld ?_
        case yr5_3 => (intro W0 hSw; go_simp; first | done | exact hconl | (simp [hcon]; done))
        try simp only [pu]
        refine wpAnyH_take (i := 4) (oi := ⟨(some 21), _, _, _, _, _⟩) (v := .bool true) rfl (by kernel_rfl) (by kernel_rfl) (by kernel_rfl) (fun _ _ _ h => h) (Or.inl ⟨by rfl, ?yr5_4⟩) hHeld ?_
        case yr5_4 => (intro W0 hSw; go_simp; try with_reducible rfl)
        try simp only [pu]
        refine wpAnyH_take (i := 5) (oi := ⟨(some 22), _, _, _, _, _⟩) (v := .pointer (some ⟨b, 0, none⟩)) rfl (by kernel_rfl) (by kernel_rfl) (by kernel_rfl) (fun _ _ _ h => h) (Or.inl ⟨by rfl, ?yr5_5⟩) hHeld ?_
        case yr5_5 => (intro W0 hSw; go_simp; try with_reducible rfl)
        try simp only [pu]
        refine wpAnyH_take (i := 6) (oi := ⟨(some 23), _, _, _, _, _⟩) (v := .agg x.cells.toArray) rfl (by kernel_rfl) (by kernel_rfl) (by kernel_rfl) (fun _ _ _ h => h) (yieldsIf_load_mid (by rfl) _ _ rfl (wr.heap.size) 0 rfl x.cells _ (fun W' hW' => ed_allR (row_next2 hgX hW')) (Try.underlying32) rfl (by rw [Ed.cells_len HX8.out]; kernel_rfl)) hHeld ?_
        try simp only [pu]
        refine wpAnyH_ready (rs := [7]) (by kernel_rfl) (by simp) ?_
        refine AllReadyH.cons (i := 7) (o := ⟨(some 24), _, _, _, _, _⟩) rfl (fun K hK => ?_) AllReadyH.nil
        go_simp
        refine (DL _ hHeld).mono ?_
        rintro e r5W1 ⟨rfl, r5h1⟩
        refine hK.out _ _ (below_next hHeld hHeld.size r5h1) (fun hHeld => ?_)
        clear hK K r5h1
        try simp only [pu]
        refine wpAnyH_take (i := 8) (oi := ⟨(some 25), _, _, _, _, _⟩) (v := .bool true) rfl (by kernel_rfl) (by kernel_rfl) (by kernel_rfl) (fun _ _ _ h => h) (Or.inl ⟨by rfl, ?yr5_8⟩) hHeld ?_
        case yr5_8 => (intro W0 hSw; go_simp; try with_reducible rfl)
        try simp only [pu]
        refine wpAnyH_done (by kernel_rfl) ?_ _
        have hb5 := hHeld
        have cc := ed_fld (row_next2 hgX hb5) HX8.out
        obtain ⟨A', c', w7, hrun, hT7, hb7⟩ := txo_push (H2.out.next hb5) (Nat.le_trans hbu.size hb5.size) (by omega) x.fld
        have VR := vlt hrun
        have H7 := vlt hT7
        have hb5' := below_next hbu hbu.size hb5
        clear hrun hT7 DL
        go_wp2_with (first | (at_builtin; refine Lib.wpList_append_run _ rfl _ _ _ _ rfl _ _ rfl rfl _ _ VR.out ?_))
        have hs5 := hb5'.size
        have hb8 := hb5'.trans hb7
        have H8 : Vlt (Txo w7 w.heap.size A' (n + 1) c' (((L.take (i + 1)).filter (fun x => decide (x.con = q) && isLive L x)).map (·.fld))) := vlt (by rw [pick_yes HX.out (by rw [VO.out, decide_eq_true hcon]; rfl)]; exact H7.out)
        go_roundg (m - (i + 1))
        case measure => omega
        case rel => exact ⟨i + 1, A', n + 1, c', by go_num, by go_num, by omega, by omega, by omega, H8, hb8⟩
        | false =>
        have VO := vlt ho
        clear ho
        refine plain_start (S := fun W' => Below U.heap.size U W') (by kernel_rfl) (Below.refl _ _) (fun hHeld => ?_)
        refine wpAnyH_take (i := 0) (oi := ⟨(some 17), _, _, _, _, _⟩) (v := .pointer (some ⟨wr.heap.size, 11, none⟩)) rfl (by kernel_rfl) (by kernel_rfl) (by kernel_rfl) (fun _ _ _ h => h) (Or.inl ⟨by rfl, ?yr5_0⟩) hHeld ?_
        case yr5_0 => (intro W0 hSw; go_simp; try with_reducible rfl)
        try simp only [pu]
        refine wpAnyH_take (i := 1) (oi := ⟨(some 18), _, _, _, _, _⟩) (v := .string x.con) rfl (by kernel_rfl) (by kernel_rfl) (by kernel_rfl) (fun _ _ _ h => h) (Or.inl ⟨by rfl, ?yr5_1⟩) hHeld ?_
        case yr5_1 => (intro W0 hSw; have cc := ed_con (row_next2 hgX hSw) HX8.out; go_simp; try with_reducible rfl)
        try simp only [pu]
        refine wpAnyH_take (i := 2) (oi := ⟨(some 19), _, _, _, _, _⟩) (v := .string q) rfl (by kernel_rfl) (by kernel_rfl) (by kernel_rfl) (fun _ _ _ h => h) (Or.inl ⟨by rfl, ?yr5_2⟩) hHeld ?_
        case yr5_2 => (intro W0 hSw; go_simp; try with_reducible rfl)
        try simp only [pu]
        refine wpAnyH_take (i := 3) (oi := ⟨(some 20), _, _, _, _, _⟩) (v := .bool true) rfl (by kernel_rfl) (by kernel_rfl) (by kernel_rfl) (fun _ _ _ h => h) (Or.inl ⟨by rfl, ?yr5_3⟩) hHeld ?_
        case yr5_3 => (intro W0 hSw; go_simp; first | done | exact hconl | (simp [hcon]; done))
        try simp only [pu]
        refine wpAnyH_take (i := 4) (oi := ⟨(some 21), _, _, _, _, _⟩) (v := .bool true) rfl (by kernel_rfl) (by kernel_rfl) (by kernel_rfl) (fun _ _ _ h => h) (Or.inl ⟨by rfl, ?yr5_4⟩) hHeld ?_
        case yr5_4 => (intro W0 hSw; go_simp; try with_reducible rfl)
        try simp only [pu]
        refine wpAnyH_take (i := 5) (oi := ⟨(some 22), _, _, _, _, _⟩) (v := .pointer (some ⟨b, 0, none⟩)) rfl (by kernel_rfl) (by kernel_rfl) (by kernel_rfl) (fun _ _ _ h => h) (Or.inl ⟨by rfl, ?yr5_5⟩) hHeld ?_
        case yr5_5 => (intro W0 hSw; go_simp; try with_reducible rfl)
        try simp only [pu]
        refine wpAnyH_take (i := 6) (oi := ⟨(some 23), _, _, _, _, _⟩) (v := .agg x.cells.toArray) rfl (by kernel_rfl) (by kernel_rfl) (by kernel_rfl) (fun _ _ _ h => h) (yieldsIf_load_mid (by rfl) _ _ rfl (wr.heap.size) 0 rfl x.cells _ (fun W' hW' => ed_allR (row_next2 hgX hW')) (Try.underlying32) rfl (by rw [Ed.cells_len HX8.out]; kernel_rfl)) hHeld ?_
        try simp only [pu]
        refine wpAnyH_ready (rs := [7]) (by kernel_rfl) (by simp) ?_
        refine AllReadyH.cons (i := 7) (o := ⟨(some 24), _, _, _, _, _⟩) rfl (fun K hK => ?_) AllReadyH.nil
        go_simp
        refine (DL _ hHeld).mono ?_
        rintro e r5W1 ⟨rfl, r5h1⟩
        refine hK.out _ _ (below_next hHeld hHeld.size r5h1) (fun hHeld => ?_)
        clear hK K r5h1
        try simp only [pu]
        refine wpAnyH_take (i := 8) (oi := ⟨(some 25), _, _, _, _, _⟩) (v := .bool false) rfl (by kernel_rfl) (by kernel_rfl) (by kernel_rfl) (fun _ _ _ h => h) (Or.inl ⟨by rfl, ?yr5_8⟩) hHeld ?_
        case yr5_8 => (intro W0 hSw; go_simp; try with_reducible rfl)
        try simp only [pu]
        refine wpAnyH_done (by kernel_rfl) ?_ _
        have hb8 := below_next hbu hbu.size hHeld
        go_wp2
        have H8 : Vlt (Txo r5W1 w.heap.size A n c (((L.take (i + 1)).filter (fun x => decide (x.con = q) && isLive L x)).map (·.fld))) := vlt (by rw [pick_no HX.out (by rw [VO.out, Bool.and_false])]; exact H2.out.next hHeld)
        go_roundg (m - (i + 1))
        case measure => omega
        case rel => exact ⟨i + 1, A, n, c, rfl, by go_num, by omega, by omega, by omega, H8, hb8⟩
      · have hconl : ¬ x.con.toList = q.toList := fun e => hcon (by
          rw [ByteArray.toList_eq, ByteArray.toList_eq] at e
          exact ByteArray.ext (Array.toList_inj.1 e))
        refine plain_start (S := fun W' => Below U.heap.size U W') (by kernel_rfl) (Below.refl _ _) (fun hHeld => ?_)
        refine wpAnyH_take (i := 0) (oi := ⟨(some 17), _, _, _, _, _⟩) (v := .pointer (some ⟨wr.heap.size, 11, none⟩)) rfl (by kernel_rfl) (by kernel_rfl) (by kernel_rfl) (fun _ _ _ h => h) (Or.inl ⟨by rfl, ?yr5_0⟩) hHeld ?_
        case yr5_0 => (intro W0 hSw; go_simp; try with_reducible rfl)
        try simp only [pu]
        refine wpAnyH_take (i := 1) (oi := ⟨(some 18), _, _, _, _, _⟩) (v := .string x.con) rfl (by kernel_rfl) (by kernel_rfl) (by kernel_rfl) (fun _ _ _ h => h) (Or.inl ⟨by rfl, ?yr5_1⟩) hHeld ?_
        case yr5_1 => (intro W0 hSw; have cc := ed_con (row_next2 hgX hSw) HX8.out; go_simp; try with_reducible rfl)
        try simp only [pu]
        refine wpAnyH_take (i := 2) (oi := ⟨(some 19), _, _, _, _, _⟩) (v := .string q) rfl (by kernel_rfl) (by kernel_rfl) (by kernel_rfl) (fun _ _ _ h => h) (Or.inl ⟨by rfl, ?yr5_2⟩) hHeld ?_
        case yr5_2 => (intro W0 hSw; go_simp; try with_reducible rfl)
        try simp only [pu]
        refine wpAnyH_take (i := 3) (oi := ⟨(some 20), _, _, _, _, _⟩) (v := .bool false) rfl (by kernel_rfl) (by kernel_rfl) (by kernel_rfl) (fun _ _ _ h => h) (Or.inl ⟨by rfl, ?yr5_3⟩) hHeld ?_
        case yr5_3 => (intro W0 hSw; go_simp; first | done | exact hconl | (simp [hcon]; done))
        try simp only [pu]
        refine wpAnyH_take (i := 4) (oi := ⟨(some 21), _, _, _, _, _⟩) (v := .bool false) rfl (by kernel_rfl) (by kernel_rfl) (by kernel_rfl) (fun _ _ _ h => h) (Or.inl ⟨by rfl, ?yr5_4⟩) hHeld ?_
        case yr5_4 => (intro W0 hSw; go_simp; try with_reducible rfl)
        try simp only [pu]
        refine wpAnyH_take (i := 5) (oi := ⟨(some 22), _, _, _, _, _⟩) (v := undef) rfl (by kernel_rfl) (by kernel_rfl) (by kernel_rfl) (fun _ _ _ h => h) (Or.inr ⟨by rfl, rfl⟩) hHeld ?_
        try simp only [pu]
        refine wpAnyH_take (i := 6) (oi := ⟨(some 23), _, _, _, _, _⟩) (v := undef) rfl (by kernel_rfl) (by kernel_rfl) (by kernel_rfl) (fun _ _ _ h => h) (Or.inr ⟨by rfl, rfl⟩) hHeld ?_
        try simp only [pu]
        refine wpAnyH_take (i := 7) (oi := ⟨(some 24), _, _, _, _, _⟩) (v := undef) rfl (by kernel_rfl) (by kernel_rfl) (by kernel_rfl) (fun _ _ _ h => h) (Or.inr ⟨by rfl, rfl⟩) hHeld ?_
        try simp only [pu]
        refine wpAnyH_take (i := 8) (oi := ⟨(some 25), _, _, _, _, _⟩) (v := .bool false) rfl (by kernel_rfl) (by kernel_rfl) (by kernel_rfl) (fun _ _ _ h => h) (Or.inl ⟨by rfl, ?yr5_8⟩) hHeld ?_
        case yr5_8 => (intro W0 hSw; go_simp; try with_reducible rfl)
        try simp only [pu]
        refine wpAnyH_done (by kernel_rfl) ?_ _
        have hb8 := hbu
        go_wp2
        have H8 : Vlt (Txo U w.heap.size A n c (((L.take (i + 1)).filter (fun x => decide (x.con = q) && isLive L x)).map (·.fld))) := vlt (by rw [pick_no HX.out (by rw [decide_eq_false hcon]; rfl)]; exact H2.out)
        go_roundg (m - (i + 1))
        case measure => omega
        case rel => exact ⟨i + 1, A, n, c, rfl, by go_num, by omega, by omega, by omega, H8, hb8⟩
    · have hltz : ¬ (i : Int) < (m : Int) := by omega
      have HT : Vlt (((L.take i).filter (fun x => decide (x.con = q) && isLive L x)).map (·.fld) = (L.filter (fun x => decide (x.con = q) && isLive L x)).map (·.fld)) := vlt (by rw [List.take_of_length_le (by rw [HM.out]; omega)])
      rw [HT.out] at H1
      have DR := vlt (rising_txo H1.out hbt.size (by omega))
      clear HT
      go_wp2_with (go_at_call 32; refine DR.out.mono ?_; rintro e w9 ⟨U, c9, rfl, hU, hT9, hb9⟩; clear DR)
      have HU := vlt (bflds_of hU.out)
      clear hU
      go_ret
      rw [HU.out] at hT9
      exact ⟨A, c9, by rw [HU.out]; rfl, hT9, hbt.trans hb9⟩
end Go.Proofs.Ytncjobhpiohkkaa
namespace Go.Proofs.Ytncjobhpiohkkaa
open Go.RowKit

set_option maxRecDepth 100000 in
set_option maxHeartbeats 4000000 in
theorem equal_any {w : World} {A A2 : Option Addr} {L M : List Ed} {n m : Nat} (c c2 : Nat) (hr : ER w A L) (hr2 : ER w A2 M) (hse : Se L) (hse2 : Se M) (hl : L.length = n) (hl2 : M.length = m) (hn : n ≤ 1048576) (o : Bool) (ho : decide (L = M) = o) :
    Calls Try.prog 30 #[.slice A n c, .slice A2 m c2] w fun x w' => x = .returned (.bool o) ∧ Below w.heap.size w w' := by
  by_cases hnm : n = m
  · subst hnm
    have HO := vlt ho
    have HSE := vlt hse
    have HSE2 := vlt hse2
    have HLN := Lib.hid hl
    have HLM := Lib.hid hl2
    clear ho hse hse2 hl hl2
    go_enter Try.func30, Try.ntmps30
    go_wp2
    go_loopg [5, 13] n (fun k s5 s13 wr => ∃ (i : Nat), s13 = .int .i64 i ∧ n - i < k + 1 ∧ i ≤ n ∧ Vlt (∀ q, q < i → L[q]? = M[q]?) ∧ Below w.heap.size w wr)
    case atStart => exact ⟨0, rfl, by omega, Nat.zero_le _, vlt (fun q h => absurd h (by omega)), Below.refl _ _⟩
    case round =>
      obtain ⟨i, rfl, hk, hin, H1, hb⟩ := hrel
      have hrr := hr.next hb
      have hrr2 := hr2.next hb
      by_cases hlt : i < n
      · have hltz : (i : Int) < (n : Int) := by omega
        obtain ⟨G, s, rfl, hrow⟩ := hrr.at_ (by rw [HLN.out]; omega)
        obtain ⟨G2, s2, rfl, hrow2⟩ := hrr2.at_ (by rw [HLM.out]; omega)
        obtain ⟨x, hx⟩ : ∃ x, L[i]? = some x := ⟨_, List.getElem?_eq_getElem (by rw [HLN.out]; omega)⟩
        obtain ⟨y, hy⟩ : ∃ y, M[i]? = some y := ⟨_, List.getElem?_eq_getElem (by rw [HLM.out]; omega)⟩
        have HX := Lib.hid hx
        have HY := Lib.hid hy
        have hx8 := Lib.hid (HSE.out.get hx)
        have hy8 := Lib.hid (HSE2.out.get hy)
        have hsr := row_size hrow
        have hsr2 := row_size hrow2
        clear hx hy
        by_cases hxy : x = y
        · have q1 := neq_edit x y hx8.out hy8.out true (by simp [hxy])
          have HXY := vlt hxy
          clear hxy
          go_upto_region 6 with fail
          refine wp_region_held_drew (S := fun W' => Below wr.heap.size wr W') (by kernel_rfl) ((Below.refl _ _).drew) (fun hHeld => ?_)
          refine wpAnyH_take (i := 0) (oi := ⟨(some 16), _, _, _, _, _⟩) (v := .slice (some ⟨G, 0, none⟩) n c) rfl (by kernel_rfl) (by kernel_rfl) (by kernel_rfl) (fun _ _ _ h => h) (Or.inl ⟨by rfl, ?yr6_0⟩) hHeld ?_
          case yr6_0 => (intro W0 hSw; go_simp; try with_reducible rfl)
          try simp only [pu]
          refine wpAnyH_take (i := 1) (oi := ⟨(some 17), _, _, _, _, _⟩) (v := .int .i64 (i : Int)) rfl (by kernel_rfl) (by kernel_rfl) (by kernel_rfl) (fun _ _ _ h => h) (Or.inl ⟨by rfl, ?yr6_1⟩) hHeld ?_
          case yr6_1 => (intro W0 hSw; go_simp; try with_reducible rfl)
          try simp only [pu]
          refine wpAnyH_take (i := 2) (oi := ⟨(some 18), _, _, _, _, _⟩) (v := .pointer (some ⟨G, (i) * 15, none⟩)) rfl (by kernel_rfl) (by kernel_rfl) (by kernel_rfl) (fun _ _ _ h => h) (Or.inl ⟨by rfl, ?yr6_2⟩) hHeld ?_
          case yr6_2 => (intro W0 hSw; go_simp; try with_reducible rfl)
          try simp only [pu]
          refine wpAnyH_take (i := 3) (oi := ⟨(some 19), _, _, _, _, _⟩) (v := .agg x.cells.toArray) rfl (by kernel_rfl) (by kernel_rfl) (by kernel_rfl) (fun _ _ _ h => h) (yieldsIf_load_mid (by rfl) _ _ rfl G ((i) * 15) rfl x.cells _ (fun W' hW' => edit_range ((row_next2 hrow hW').out) HSE.out HX.out) (Try.underlying32) rfl (by rw [Ed.cells_len hx8.out]; kernel_rfl)) hHeld ?_
          try simp only [pu]
          refine wpAnyH_take (i := 4) (oi := ⟨(some 20), _, _, _, _, _⟩) (v := .slice (some ⟨G2, 0, none⟩) n c2) rfl (by kernel_rfl) (by kernel_rfl) (by kernel_rfl) (fun _ _ _ h => h) (Or.inl ⟨by rfl, ?yr6_4⟩) hHeld ?_
          case yr6_4 => (intro W0 hSw; go_simp; try with_reducible rfl)
          try simp only [pu]
          refine wpAnyH_take (i := 5) (oi := ⟨(some 21), _, _, _, _, _⟩) (v := .int .i64 (i : Int)) rfl (by kernel_rfl) (by kernel_rfl) (by kernel_rfl) (fun _ _ _ h => h) (Or.inl ⟨by rfl, ?yr6_5⟩) hHeld ?_
          case yr6_5 => (intro W0 hSw; go_simp; try with_reducible rfl)
          try simp only [pu]
          refine wpAnyH_take (i := 6) (oi := ⟨(some 22), _, _, _, _, _⟩) (v := .pointer (some ⟨G2, (i) * 15, none⟩)) rfl (by kernel_rfl) (by kernel_rfl) (by kernel_rfl) (fun _ _ _ h => h) (Or.inl ⟨by rfl, ?yr6_6⟩) hHeld ?_
          case yr6_6 => (intro W0 hSw; go_simp; try with_reducible rfl)
          try simp only [pu]
          refine wpAnyH_take (i := 7) (oi := ⟨(some 23), _, _, _, _, _⟩) (v := .agg y.cells.toArray) rfl (by kernel_rfl) (by kernel_rfl) (by kernel_rfl) (fun _ _ _ h => h) (yieldsIf_load_mid (by rfl) _ _ rfl G2 ((i) * 15) rfl y.cells _ (fun W' hW' => edit_range ((row_next2 hrow2 hW').out) HSE2.out HY.out) (Try.underlying32) rfl (by rw [Ed.cells_len hy8.out]; kernel_rfl)) hHeld ?_
          try simp only [pu]
          refine wpAnyH_take (i := 8) (oi := ⟨(some 24), _, _, _, _, _⟩) (v := .bool false) rfl (by kernel_rfl) (by kernel_rfl) (by kernel_rfl) (fun _ _ _ h => h) (Or.inl ⟨by rfl, ?yr6_8⟩) hHeld ?_
          case yr6_8 => (intro W0 hSw; go_simp; try simp only [q1]; try with_reducible rfl)
          try simp only [pu]
          refine wpAnyH_done (by kernel_rfl) ?_ _
          have hbb : Below w.heap.size w _ := hb.trans (hHeld.mono hb.size)
          go_wp2
          go_roundg (n - (i + 1))
          case measure => omega
          case rel => exact ⟨i + 1, by go_num, by omega, by omega, vlt (fun q hq => by
            rcases Nat.lt_or_eq_of_le (Nat.le_of_lt_succ hq) with h | rfl
            · exact H1.out q h
            · rw [HX.out, HY.out, HXY.out]), hbb⟩
        · have q1 := neq_edit x y hx8.out hy8.out false (by simp [hxy])
          have VF : Vlt (o = false) := vlt (by
            rw [← HO.out, decide_eq_false_iff_not]
            rintro rfl
            exact hxy (by have := HX.out.symm.trans HY.out; simpa using this))
          clear hxy
          go_upto_region 6 with fail
          refine wp_region_held_drew (S := fun W' => Below wr.heap.size wr W') (by kernel_rfl) ((Below.refl _ _).drew) (fun hHeld => ?_)
          refine wpAnyH_take (i := 0) (oi := ⟨(some 16), _, _, _, _, _⟩) (v := .slice (some ⟨G, 0, none⟩) n c) rfl (by kernel_rfl) (by kernel_rfl) (by kernel_rfl) (fun _ _ _ h => h) (Or.inl ⟨by rfl, ?yr6_0⟩) hHeld ?_
          case yr6_0 => (intro W0 hSw; go_simp; try with_reducible rfl)
          try simp only [pu]
          refine wpAnyH_take (i := 1) (oi := ⟨(some 17), _, _, _, _, _⟩) (v := .int .i64 (i : Int)) rfl (by kernel_rfl) (by kernel_rfl) (by kernel_rfl) (fun _ _ _ h => h) (Or.inl ⟨by rfl, ?yr6_1⟩) hHeld ?_
          case yr6_1 => (intro W0 hSw; go_simp; try with_reducible rfl)
          try simp only [pu]
          refine wpAnyH_take (i := 2) (oi := ⟨(some 18), _, _, _, _, _⟩) (v := .pointer (some ⟨G, (i) * 15, none⟩)) rfl (by kernel_rfl) (by kernel_rfl) (by kernel_rfl) (fun _ _ _ h => h) (Or.inl ⟨by rfl, ?yr6_2⟩) hHeld ?_
          case yr6_2 => (intro W0 hSw; go_simp; try with_reducible rfl)
          try simp only [pu]
          refine wpAnyH_take (i := 3) (oi := ⟨(some 19), _, _, _, _, _⟩) (v := .agg x.cells.toArray) rfl (by kernel_rfl) (by kernel_rfl) (by kernel_rfl) (fun _ _ _ h => h) (yieldsIf_load_mid (by rfl) _ _ rfl G ((i) * 15) rfl x.cells _ (fun W' hW' => edit_range ((row_next2 hrow hW').out) HSE.out HX.out) (Try.underlying32) rfl (by rw [Ed.cells_len hx8.out]; kernel_rfl)) hHeld ?_
          try simp only [pu]
          refine wpAnyH_take (i := 4) (oi := ⟨(some 20), _, _, _, _, _⟩) (v := .slice (some ⟨G2, 0, none⟩) n c2) rfl (by kernel_rfl) (by kernel_rfl) (by kernel_rfl) (fun _ _ _ h => h) (Or.inl ⟨by rfl, ?yr6_4⟩) hHeld ?_
          case yr6_4 => (intro W0 hSw; go_simp; try with_reducible rfl)
          try simp only [pu]
          refine wpAnyH_take (i := 5) (oi := ⟨(some 21), _, _, _, _, _⟩) (v := .int .i64 (i : Int)) rfl (by kernel_rfl) (by kernel_rfl) (by kernel_rfl) (fun _ _ _ h => h) (Or.inl ⟨by rfl, ?yr6_5⟩) hHeld ?_
          case yr6_5 => (intro W0 hSw; go_simp; try with_reducible rfl)
          try simp only [pu]
          refine wpAnyH_take (i := 6) (oi := ⟨(some 22), _, _, _, _, _⟩) (v := .pointer (some ⟨G2, (i) * 15, none⟩)) rfl (by kernel_rfl) (by kernel_rfl) (by kernel_rfl) (fun _ _ _ h => h) (Or.inl ⟨by rfl, ?yr6_6⟩) hHeld ?_
          case yr6_6 => (intro W0 hSw; go_simp; try with_reducible rfl)
          try simp only [pu]
          refine wpAnyH_take (i := 7) (oi := ⟨(some 23), _, _, _, _, _⟩) (v := .agg y.cells.toArray) rfl (by kernel_rfl) (by kernel_rfl) (by kernel_rfl) (fun _ _ _ h => h) (yieldsIf_load_mid (by rfl) _ _ rfl G2 ((i) * 15) rfl y.cells _ (fun W' hW' => edit_range ((row_next2 hrow2 hW').out) HSE2.out HY.out) (Try.underlying32) rfl (by rw [Ed.cells_len hy8.out]; kernel_rfl)) hHeld ?_
          try simp only [pu]
          refine wpAnyH_take (i := 8) (oi := ⟨(some 24), _, _, _, _, _⟩) (v := .bool true) rfl (by kernel_rfl) (by kernel_rfl) (by kernel_rfl) (fun _ _ _ h => h) (Or.inl ⟨by rfl, ?yr6_8⟩) hHeld ?_
          case yr6_8 => (intro W0 hSw; go_simp; try simp only [q1]; try with_reducible rfl)
          try simp only [pu]
          refine wpAnyH_done (by kernel_rfl) ?_ _
          have hbb : Below w.heap.size w _ := hb.trans (hHeld.mono hb.size)
          go_wp2
          go_ret
          rw [VF.out]
          exact ⟨rfl, hbb⟩
      · have hltz : ¬ (i : Int) < (n : Int) := by omega
        have VF : Vlt (o = true) := vlt (by
          rw [← HO.out, decide_eq_true_iff]
          refine List.ext_getElem? fun q => ?_
          by_cases hq : q < i
          · exact H1.out q hq
          · rw [List.getElem?_eq_none (by rw [HLN.out]; omega), List.getElem?_eq_none (by rw [HLM.out]; omega)])
        go_wp2
        go_ret
        rw [VF.out]
        exact ⟨rfl, hb⟩
  · have VF : Vlt (o = false) := vlt (by
      rw [← ho, decide_eq_false_iff_not]
      rintro rfl
      exact hnm (hl.symm.trans hl2))
    have hnz : ¬ (n : Int) = (m : Int) := by omega
    clear ho hse hse2 hl hl2 hr hr2
    go_enter Try.func30, Try.ntmps30
    go_wp2
    go_ret
    rw [VF.out]
    exact ⟨rfl, Below.refl _ _⟩
set_option maxRecDepth 100000 in
theorem same_any {w : World} {F F2 : Nat → Prop} {b b2 : Nat} {L M : List Ed} (h1 : BkF w F b L) (h2 : BkF w F2 b2 M) (o : Bool) (ho : decide (L = M) = o) :
    Calls Try.prog 15 #[.pointer (some ⟨b, 0, none⟩), .pointer (some ⟨b2, 0, none⟩)] w fun x w' => x = .returned (.bool o) ∧ Below w.heap.size w w' := by
  obtain ⟨A, c, hc, hr⟩ := h1.er
  obtain ⟨A2, c2, hc2, hr2⟩ := h2.er
  have hlt := row_size hc
  have hlt2 := row_size hc2
  have dE : ∀ w', Below w.heap.size w w' → Calls Try.prog 30 #[.slice A L.length c, .slice A2 M.length c2] w' fun x w2 => x = .returned (.bool o) ∧ Below w'.heap.size w' w2 := fun w' hb => equal_any c c2 (hr.next hb) (hr2.next hb) h1.good.se h2.good.se rfl rfl (by have := h1.good.few; omega) o ho
  obtain ⟨n, hn⟩ : ∃ n, L.length = n := ⟨_, rfl⟩
  obtain ⟨m, hm⟩ : ∃ m, M.length = m := ⟨_, rfl⟩
  rw [hn] at dE hc
  rw [hm] at dE hc2
  clear ho hr hr2 h1 h2 hn hm
  go_enter Try.func15, Try.ntmps15
  go_upto_region 1 with fail
  refine wp_region_held_drew (S := fun W' => Below w.heap.size w W') (by kernel_rfl) ((Below.refl _ _).drew) (fun hHeld => ?_)
  refine wpAnyH_take (i := 0) (oi := ⟨(some 5), _, _, _, _, _⟩) (v := ?vyr1_0) rfl (by kernel_rfl) (by kernel_rfl) (by kernel_rfl) (fun _ _ _ h => h) (Or.inl ⟨by rfl, ?yr1_0⟩) hHeld ?_
  case yr1_0 => (intro W0 hSw; go_simp; try with_reducible rfl)
  try simp only [pu]
  refine wpAnyH_take (i := 1) (oi := ⟨(some 6), _, _, _, _, _⟩) (v := ?vyr1_1) rfl (by kernel_rfl) (by kernel_rfl) (by kernel_rfl) (fun _ _ _ h => h) (Or.inl ⟨by rfl, ?yr1_1⟩) hHeld ?_
  case yr1_1 => (intro W0 hSw; go_simp; try with_reducible rfl)
  try simp only [pu]
  refine wpAnyH_take (i := 2) (oi := ⟨(some 7), _, _, _, _, _⟩) (v := ?vyr1_2) rfl (by kernel_rfl) (by kernel_rfl) (by kernel_rfl) (fun _ _ _ h => h) (Or.inl ⟨by rfl, ?yr1_2⟩) hHeld ?_
  case yr1_2 => (intro W0 hSw; go_simp; try with_reducible rfl)
  try simp only [pu]
  refine wpAnyH_take (i := 3) (oi := ⟨(some 8), _, _, _, _, _⟩) (v := .slice A n c) rfl (by kernel_rfl) (by kernel_rfl) (by kernel_rfl) (fun _ _ _ h => h) (Or.inl ⟨by rfl, ?yr1_3⟩) hHeld ?_
  case yr1_3 => (intro W0 hSw; have cc := s_cell (row_next2 hc hSw); go_simp; try with_reducible rfl)
  try simp only [pu]
  refine wpAnyH_take (i := 4) (oi := ⟨(some 9), _, _, _, _, _⟩) (v := ?vyr1_4) rfl (by kernel_rfl) (by kernel_rfl) (by kernel_rfl) (fun _ _ _ h => h) (Or.inl ⟨by rfl, ?yr1_4⟩) hHeld ?_
  case yr1_4 => (intro W0 hSw; go_simp; try with_reducible rfl)
  try simp only [pu]
  refine wpAnyH_take (i := 5) (oi := ⟨(some 10), _, _, _, _, _⟩) (v := ?vyr1_5) rfl (by kernel_rfl) (by kernel_rfl) (by kernel_rfl) (fun _ _ _ h => h) (Or.inl ⟨by rfl, ?yr1_5⟩) hHeld ?_
  case yr1_5 => (intro W0 hSw; go_simp; try with_reducible rfl)
  try simp only [pu]
  refine wpAnyH_take (i := 6) (oi := ⟨(some 11), _, _, _, _, _⟩) (v := ?vyr1_6) rfl (by kernel_rfl) (by kernel_rfl) (by kernel_rfl) (fun _ _ _ h => h) (Or.inl ⟨by rfl, ?yr1_6⟩) hHeld ?_
  case yr1_6 => (intro W0 hSw; go_simp; try with_reducible rfl)
  try simp only [pu]
  refine wpAnyH_take (i := 7) (oi := ⟨(some 12), _, _, _, _, _⟩) (v := .slice A2 m c2) rfl (by kernel_rfl) (by kernel_rfl) (by kernel_rfl) (fun _ _ _ h => h) (Or.inl ⟨by rfl, ?yr1_7⟩) hHeld ?_
  case yr1_7 => (intro W0 hSw; have cc := s_cell (row_next2 hc2 hSw); go_simp; try with_reducible rfl)
  try simp only [pu]
  refine wpAnyH_ready (rs := [8]) (by kernel_rfl) (by simp) ?_
  refine AllReadyH.cons (i := 8) (o := ⟨(some 13), _, _, _, _, _⟩) rfl (fun K hK => ?_) AllReadyH.nil
  go_simp
  refine (dE _ hHeld).mono ?_
  rintro e r1W1 ⟨rfl, r1h1⟩
  refine hK.out _ _ (below_next hHeld hHeld.size r1h1) (fun hHeld => ?_)
  clear hK K r1h1
  try simp only [pu]
  refine wpAnyH_take (i := 9) (oi := ⟨(some 4), _, _, _, _, _⟩) (v := .bool o) rfl (by kernel_rfl) (by kernel_rfl) (by kernel_rfl) (fun _ _ _ h => h) (Or.inl ⟨by rfl, ?yr1_9⟩) hHeld ?_
  case yr1_9 => (intro W0 hSw; go_simp; try with_reducible rfl)
  try simp only [pu]
  refine wpAnyH_done (by kernel_rfl) ?_ _
  go_wp2
  go_ret
  exact ⟨rfl, hHeld⟩
end Go.Proofs.Ytncjobhpiohkkaa
namespace Go.Proofs.Ytncjobhpiohkkaa
open Go.RowKit

theorem bmerge_yes {L M T : List Ed} (h : bmergeT L M = (T, 0)) : bmerge L M = (T, 0) := by rw [bmerge, h]; rfl
theorem bmerge_no {L M T : List Ed} {r : Int} (h : bmergeT L M = (T, r)) (hr : r ≠ 0) : bmerge L M = (L, r) := by rw [bmerge, h, if_neg hr]
theorem bmergeT_go {T M : List Ed} {i : Nat} {y : Ed} {r : List Ed × Int} (hy : M[i]? = some y) (hb : badd T y = r) : bmergeT T (M.drop i) = if r.2 = 0 then bmergeT r.1 (M.drop (i + 1)) else (T, r.2) := by
  obtain ⟨hlt, hx⟩ := List.getElem?_eq_some_iff.1 hy
  rw [List.drop_eq_getElem_cons hlt, hx, bmergeT, hb]
set_option maxRecDepth 100000 in
set_option maxHeartbeats 4000000 in
theorem merge_any {w : World} {F F2 : Nat → Prop} {b b2 : Nat} {L M : List Ed} (h1 : BkF w F b L) (h2 : BkF w F2 b2 M) :
    Calls Try.prog 16 #[.pointer (some ⟨b, 0, none⟩), .pointer (some ⟨b2, 0, none⟩)] w fun x w' => x = .returned (.int .i64 (bmerge L M).2) ∧ BkF w' (fun i => F i ∨ w.heap.size ≤ i) b (bmerge L M).1 ∧ Off (fun i => i = b) w w' := by
  have VC := vlt (copy_any h1)
  have V1 := vlt h1
  have hbl := h1.lt
  obtain ⟨A2, c2, hc2, hr2⟩ := h2.er
  have hse2 := vlt h2.good.se
  have hfew := h2.good.few
  obtain ⟨m, hm⟩ : ∃ m, M.length = m := ⟨_, rfl⟩
  rw [hm] at hc2 hfew
  have HM := Lib.hid hm
  have hb2l := row_size hc2
  clear h1 h2 hm
  go_enter Try.func16, Try.ntmps16
  go_wp2_with (go_at_call 14; refine VC.out.mono ?_; rintro e w1 ⟨N, rfl, hN1, hb1⟩; have cc1 := s_cell (row_next2 hc2 hb1); have hr1 := hr2.next hb1; clear VC)
  go_loopg [7, 8, 16] m (fun k s7 s8 s16 wr => ∃ (i : Nat) (T : List Ed), s16 = .int .i64 i ∧ m - i < k + 1 ∧ i ≤ m ∧ Vlt (bmergeT L M = bmergeT T (M.drop i)) ∧ BkF wr (fun j => w.heap.size ≤ j) N T ∧ Below w.heap.size w wr)
  case atStart => exact ⟨0, L, rfl, by omega, Nat.zero_le _, vlt rfl, hN1, hb1⟩
  case round =>
    obtain ⟨i, T, rfl, hk, him, H1, hT, hb⟩ := hrel
    by_cases hlt : i < m
    · have hltz : (i : Int) < (m : Int) := by omega
      obtain ⟨G, s, rfl, hrow⟩ := (hr2.next hb).at_ (by rw [HM.out]; omega)
      obtain ⟨y, hy⟩ : ∃ y, M[i]? = some y := ⟨_, List.getElem?_eq_getElem (by rw [HM.out]; omega)⟩
      have hrng := edit_range hrow.out hse2.out hy
      have HY8 := Lib.hid (hse2.out.get hy)
      obtain ⟨T2, r, hbd⟩ : ∃ T2 r, badd T y = (T2, r) := ⟨_, _, rfl⟩
      have HB := vlt (bmergeT_go hy hbd)
      have hbn := (Below.refl wr.heap.size wr).alloc (Nat.le_refl _) (.cells y.cells.toArray 32)
      have hdA := add_any (hT.next hbn) y HY8.out
      rw [hbd] at hdA
      have DA := vlt hdA
      have hb4 := below_next hb hb.size hbn
      have hgN : (wr.alloc (.cells y.cells.toArray 32)).heap[wr.heap.size]? = some (.cells y.cells.toArray 32 (0, 0)) := heap_alloc_new wr _
      clear hdA hbd hy
      by_cases hr0 : r = 0
      · subst hr0
        go_upto_region 4 with fail
        go_wp2_with (first | (with_reducible refine wpList_load_mid rfl 32 (.tmp 18) rfl G (i * 15) rfl y.cells _ hrng Try.underlying32 rfl (by rw [Ed.cells_len HY8.out]; kernel_rfl) ?_) | ((with_reducible refine wpList_store_row rfl 32 (.tmp 7) (.tmp 19) rfl wr.heap.size y.cells.toArray rfl (by kernel_rfl) 32 _ (heap_alloc_new _ _) (by rw [Ed.cells_size HY8.out]; kernel_rfl) (by rw [Ed.cells_size HY8.out]; kernel_rfl) (all_oneCell_toArray (Ed.cells_one _)) ?_); rw [World.setRow_alloc_new]) | (with_reducible refine wpList_load_row rfl 32 (.tmp 7) rfl wr.heap.size rfl 32 y.cells.toArray (0, 0) _ hgN Try.underlying32 rfl (by rw [Ed.cells_size HY8.out]; kernel_rfl) ?_) | (go_at_call 11; refine DA.out.mono ?_; rintro e w5 ⟨rfl, hbk5, hof5⟩))
        have hsz : (wr.alloc (.cells y.cells.toArray 32)).heap.size = wr.heap.size + 1 := by simp
        have hs := hb.size
        go_roundg (m - (i + 1))
        case measure => omega
        case rel => exact ⟨i + 1, T2, by go_num, by omega, by omega, vlt (H1.out.trans (HB.out.trans (by simp))), hbk5.mono (fun j _ h => by rcases h with h | h; exact h; omega), hof5.below hb4 (fun _ h => h) hb4.size⟩
      · have VE := vlt (bmerge_no (H1.out.trans (HB.out.trans (if_neg hr0))) hr0)
        go_upto_region 4 with fail
        go_wp2_with (first | (with_reducible refine wpList_load_mid rfl 32 (.tmp 18) rfl G (i * 15) rfl y.cells _ hrng Try.underlying32 rfl (by rw [Ed.cells_len HY8.out]; kernel_rfl) ?_) | ((with_reducible refine wpList_store_row rfl 32 (.tmp 7) (.tmp 19) rfl wr.heap.size y.cells.toArray rfl (by kernel_rfl) 32 _ (heap_alloc_new _ _) (by rw [Ed.cells_size HY8.out]; kernel_rfl) (by rw [Ed.cells_size HY8.out]; kernel_rfl) (all_oneCell_toArray (Ed.cells_one _)) ?_); rw [World.setRow_alloc_new]) | (with_reducible refine wpList_load_row rfl 32 (.tmp 7) rfl wr.heap.size rfl 32 y.cells.toArray (0, 0) _ hgN Try.underlying32 rfl (by rw [Ed.cells_size HY8.out]; kernel_rfl) ?_) | (go_at_call 11; refine DA.out.mono ?_; rintro e w5 ⟨rfl, hbk5, hof5⟩))
        go_ret
        rw [VE.out]
        have hb5 := hof5.below hb4 (fun _ h => h) hb4.size
        exact ⟨rfl, (V1.out.next hb5).mono fun _ _ h => .inl h, Off.of_below hb5 fun k h1 h2 => absurd h1 (by omega)⟩
    · have hltz : ¬ (i : Int) < (m : Int) := by omega
      have hend : bmergeT L M = (T, 0) := by rw [H1.out, List.drop_eq_nil_of_le (by rw [HM.out]; omega), bmergeT]
      have VE := vlt (bmerge_yes hend)
      obtain ⟨hF, hG, A, c, hc, hown, hA⟩ := hT
      obtain ⟨hFb, hLg, A1, c1, hcb, hown1, hA1⟩ := V1.out
      have hcb2 := row_next2 hcb hb
      have cN := s_cell hc
      have cb := s_cell hcb2
      have fb := s_froz hcb2
      obtain ⟨t, ht⟩ : ∃ t, T.length = t := ⟨_, rfl⟩
      obtain ⟨l1, hl1⟩ : ∃ l1, L.length = l1 := ⟨_, rfl⟩
      have VF : Vlt (BkF (wr.setCell ⟨b, 0, none⟩ (.slice A t c)) (fun i => F i ∨ w.heap.size ≤ i) b T ∧ Off (fun i => i = b) w (wr.setCell ⟨b, 0, none⟩ (.slice A t c))) := vlt (by
        rw [← ht]
        refine ⟨⟨.inl hFb, hG, A, c, Lib.hid ?_, own_next hown fun q hq => ?_, fun q hq => ⟨.inr (hA q hq).1, ?_⟩⟩, (Off.of_below (F := fun i => i = b) hb fun k h1 h2 => absurd h1 (by omega)).set (g := b) (.inl rfl) _⟩
        · rw [heap_setCell_same _ _ _ _ _ _ hcb2.out]; rfl
        · have := (hA q hq).1
          exact ((But.refl b wr).set _).block q.block (own_lt hown q hq) (fun e => by injection e; omega)
        · have := (hA q hq).1; omega)
      rw [ht] at cN
      rw [hl1] at cb
      clear hend hF hG hc hown hA hFb hLg hcb hown1 hA1 hcb2 ht hl1
      go_wp2
      go_ret
      rw [VE.out]
      exact ⟨rfl, VF.out⟩
end Go.Proofs.Ytncjobhpiohkkaa
namespace Go.Proofs.Ytncjobhpiohkkaa
open Go.RowKit

set_option maxRecDepth 100000 in
theorem blong_any (w : World) (a : Ed) (ha : a.seen.length = 8) :
    Calls Try.prog 21 #[.agg a.cells.toArray] w fun e w' => e = .returned (.bool (elong a)) ∧ Below w.heap.size w w' := by
  obtain ⟨W, hW, hgA, hbW, hsW⟩ := one_new w a.cells.toArray 32
  have HW := Lib.hid hW
  have c1 := ed_con hgA ha
  have c2 := ed_fld hgA ha
  have c3 := ed_val hgA ha
  have HO := vlt (show elong a = (decide (60 < a.con.size) || decide (60 < a.fld.size) || decide (250 < a.val.size)) from rfl)
  generalize elong a = o at *
  generalize a.con = x at *
  generalize a.fld = y at *
  generalize a.val = z at *
  clear hW ha hsW hgA
  go_enter Try.func21, Try.ntmps21
  go_upto_region 1 with fail
  rw [HW.out]
  clear HW
  by_cases h1 : (60 : Int) < (x.size : Int)
  · have hv : o = true := by rw [HO.out, decide_eq_true (by omega)]; simp
    go_wp2
    go_ret
    exact ⟨by rw [hv]; rfl, hbW⟩
  · by_cases h2 : (60 : Int) < (y.size : Int)
    · have hv : o = true := by rw [HO.out, decide_eq_true (p := 60 < y.size) (by omega)]; simp
      go_wp2
      go_ret
      exact ⟨rfl, hbW⟩
    · by_cases h3 : (250 : Int) < (z.size : Int)
      · have hv : o = true := by rw [HO.out, decide_eq_true (p := 250 < z.size) (by omega)]; simp
        go_wp2
        go_ret
        exact ⟨rfl, hbW⟩
      · have hv : o = false := by rw [HO.out, decide_eq_false (by omega), decide_eq_false (by omega), decide_eq_false (by omega)]; rfl
        go_wp2
        go_ret
        exact ⟨rfl, hbW⟩
theorem along_size {e : Ed} (h : elong e = false) : e.con.size ≤ 60 ∧ e.fld.size ≤ 60 ∧ e.val.size ≤ 250 := by
  simp only [elong, Bool.or_eq_false_iff, decide_eq_false_iff_not] at h
  omega
end Go.Proofs.Ytncjobhpiohkkaa
