/-
  The contract of the document's own drop. Conditions: fewer than 2^40 files.
-/
import Derived.Test.YtnpaodhcaeofnaaRkD
namespace Go.Proofs.Ytnpaodhcaeofnaa
open Go.RowKit

theorem cut3_h {P : Program} {T E k : TypeId} (hT : P.underlying T = some (.slice E)) (hs : (P.info? E).map (·.size) = some k) (A : Option Addr) (n c t : Nat) (L : Int) (hL : L = (t : Int)) (ht : t ≤ c) (w : World) :
    (Instr.slice T (.slice A n c) none (some (.int .i64 L)) none).run P w = .ok (.slice A t c) w := by
  subst hL
  obtain ⟨i, hi', hi2⟩ := Option.map_eq_some_iff.1 hs
  have he : P.elem T = E := by simp [Program.elem, hT]
  rw [run_slice_h w T A n c (by rw [he]; exact hT) .i64 _ (by omega) (by omega), he]
  cases A <;> simp [sizeOf, typeInfo, hi', hi2, sliced, Addr.add]
theorem cut3_l {P : Program} {T E k : TypeId} (hT : P.underlying T = some (.slice E)) (hs : (P.info? E).map (·.size) = some k) (A : Option Addr) (n c t : Nat) (L : Int) (hL : L = (t : Int)) (ht : t ≤ n) (w : World) :
    (Instr.slice T (.slice A n c) (some (.int .i64 L)) none none).run P w = .ok (.slice (if c = t then A else A.map (·.add (t * k))) (n - t) (c - t)) w := by
  subst hL
  obtain ⟨i, hi', hi2⟩ := Option.map_eq_some_iff.1 hs
  have he : P.elem T = E := by simp [Program.elem, hT]
  rw [run_slice_l w T A n c (by rw [he]; exact hT) .i64 _ (by omega) (by omega), he]
  by_cases hct : c = t <;> cases A <;> simp [sizeOf, typeInfo, hi', hi2, sliced, hct]
theorem Try.sizeFile : (Try.prog.info? 56).map (·.size) = some 3 := by kernel_rfl
section
variable {ops : Array Oper} {o : Oper} {a : Act} {w : World} {K : Act → World → Prop} {Q : Exit → Act → World → Prop} {E' : Prop}
theorem step_emptyF (hw : Region.wanted o (yielded ops a.tmps) = true) (ho : o.op = .buildSlice 29 0 #[])
    (h : ∀ w', w'.heap[w.heap.size]? = some (.cells #[] 56 (0, 0)) → Below w.heap.size w w' → w'.heap.size = w.heap.size + 1 → K (a.put o.dst (.slice (some ⟨w.heap.size, 0, none⟩) 0 0)) w') : if Region.wanted o (yielded ops a.tmps) = true then Oper.wp Try.prog o a w K Q else E' := by
  rw [if_pos hw]
  have h1 := h (w.alloc (.cells #[] 56)) (heap_alloc_new w _) ((Below.refl _ _).alloc (Nat.le_refl _) _) (by simp)
  unfold Oper.wp
  simp only [execOp, ho, List.map_toArray, List.map_nil]
  clear h
  go_simp
  exact h1
theorem step_emptyW (hw : Region.wanted o (yielded ops a.tmps) = true) (ho : o.op = .buildSlice 54 0 #[])
    (h : ∀ w', w'.heap[w.heap.size]? = some (.cells #[] 33 (0, 0)) → Below w.heap.size w w' → w'.heap.size = w.heap.size + 1 → K (a.put o.dst (.slice (some ⟨w.heap.size, 0, none⟩) 0 0)) w') : if Region.wanted o (yielded ops a.tmps) = true then Oper.wp Try.prog o a w K Q else E' := by
  rw [if_pos hw]
  have h1 := h (w.alloc (.cells #[] 33)) (heap_alloc_new w _) ((Below.refl _ _).alloc (Nat.le_refl _) _) (by simp)
  unfold Oper.wp
  simp only [execOp, ho, List.map_toArray, List.map_nil]
  clear h
  go_simp
  exact h1
theorem step_emptyB (hw : Region.wanted o (yielded ops a.tmps) = true) (ho : o.op = .buildSlice 33 0 #[])
    (h : ∀ w', w'.heap[w.heap.size]? = some (.cells #[] 5 (0, 0)) → Below w.heap.size w w' → w'.heap.size = w.heap.size + 1 → K (a.put o.dst (.slice (some ⟨w.heap.size, 0, none⟩) 0 0)) w') : if Region.wanted o (yielded ops a.tmps) = true then Oper.wp Try.prog o a w K Q else E' := by
  rw [if_pos hw]
  have h1 := h (w.alloc (.cells #[] 5)) (heap_alloc_new w _) ((Below.refl _ _).alloc (Nat.le_refl _) _) (by simp)
  unfold Oper.wp
  simp only [execOp, ho, List.map_toArray, List.map_nil]
  clear h
  go_simp
  exact h1
end
theorem own_lit0 {w : World} {g size : Nat} {E : TypeId} (h : w.heap[g]? = some (.cells #[] E (0, 0))) : w.ownsRow 0 E size (.slice (some ⟨g, 0, none⟩) 0 0) 0 [] :=
  ⟨by simp, .inr ⟨g, 0, #[], rfl, Nat.zero_le _, h, Nat.le_refl _, Nat.zero_le _, by simp, by simp⟩⟩
theorem xs_one {w : World} {D : Nat → Prop} {r n c room lives : Nat} {A : Option Addr} {pf : Bool} {xs : List Value} {L : List (ByteArray × Rf)} (h : RkAt w D r A n c room pf lives xs L) : ∀ u ∈ xs, u.oneCell' = true := by
  intro u hu
  obtain ⟨k, hk, rfl⟩ := List.getElem_of_mem hu
  have hs := h.size.2
  have hlen := h.len
  obtain ⟨x, hx⟩ : ∃ x, L[k / 3]? = some x := ⟨_, List.getElem?_eq_getElem (by omega)⟩
  obtain ⟨As, ns, cs, Aw, nw, cw, h1, h2, h3, _⟩ := h.ents _ _ hx
  have e := Nat.div_add_mod k 3
  have hm := Nat.mod_lt k (show 0 < 3 by decide)
  rcases (show k % 3 = 0 ∨ k % 3 = 1 ∨ k % 3 = 2 by omega) with h0 | h0 | h0
  · rw [show k / 3 * 3 = k by omega, List.getElem?_eq_getElem hk] at h1
    injection h1 with h1
    rw [h1]; rfl
  · rw [show k / 3 * 3 + 1 = k by omega, List.getElem?_eq_getElem hk] at h2
    injection h2 with h2
    rw [h2]; rfl
  · rw [show k / 3 * 3 + 2 = k by omega, List.getElem?_eq_getElem hk] at h3
    injection h3 with h3
    rw [h3]; rfl
theorem xs_src {w : World} {D : Nat → Prop} {r n c room lives : Nat} {A : Option Addr} {pf : Bool} {xs : List Value} {L : List (ByteArray × Rf)} (h : RkAt w D r A n c room pf lives xs L) : ∀ g, A = some g → g.off = 0 ∧ g.spot = none ∧ ∀ j u, xs[j]? = some u → w.cell? ⟨g.block, j, none⟩ = some u := by
  intro g hg
  rcases h.own.2 with ⟨h6, h7⟩ | ⟨b, cap, cur, h6, hb, hh, h8, _⟩
  · simp only [Value.slice.injEq] at h6
    rw [hg] at h6; simp at h6
  · have h9 := h6
    simp only [Value.slice.injEq] at h6
    rw [hg] at h6
    obtain ⟨h6, _, _⟩ := h6
    injection h6 with h6
    subst h6
    subst hg
    refine ⟨rfl, rfl, fun j u hj => ?_⟩
    have hjl := (List.getElem?_eq_some_iff.1 hj).1
    rw [World.ownsRow.cellAt h.own j (by rw [← h.size.2]; exact hjl)]; exact hj

theorem EntAt.move {w : World} {D : Nat → Prop} {xs xs' : List Value} {j j' : Nat} {x : ByteArray × Rf} (h : EntAt w D xs j x) (e : ∀ k, k < 3 → xs'[j' * 3 + k]? = xs[j * 3 + k]?) : EntAt w D xs' j' x := by
  obtain ⟨As, ns, cs, Aw, nw, cw, h1, h2, h3, h4⟩ := h
  exact ⟨As, ns, cs, Aw, nw, cw, (e 0 (by decide)).trans h1, (e 1 (by decide)).trans h2, (e 2 (by decide)).trans h3, h4⟩
theorem at_new {A A1 : Option Addr} {z B : Nat} (h : ∀ p, A1 = some p → (∃ q, A = some q ∧ p.block = q.block) ∨ z ≤ p.block) (hA : ∀ q, A = some q → B ≤ q.block) (hz : B ≤ z) : ∀ p, A1 = some p → B ≤ p.block := fun p hp => by
  rcases h p hp with ⟨q, hq, e⟩ | h
  · rw [e]; exact hA q hq
  · exact Nat.le_trans hz h
theorem erase_at {L : List (ByteArray × Rf)} {i j : Nat} {x : ByteArray × Rf} (h : (L.eraseIdx i)[j]? = some x) : (j < i ∧ L[j]? = some x) ∨ (i ≤ j ∧ L[j + 1]? = some x) := by
  rw [List.getElem?_eraseIdx] at h
  by_cases hj : j < i
  · rw [if_pos hj] at h; exact .inl ⟨hj, h⟩
  · rw [if_neg hj] at h; exact .inr ⟨by omega, h⟩
/-- The object has another row of files. -/
theorem RkAt.newRow {w w' : World} {D : Nat → Prop} {r n c room lives : Nat} {A : Option Addr} {pf : Bool} {xs : List Value} {L : List (ByteArray × Rf)} (h : RkAt w D r A n c room pf lives xs L) (hoff : Off (fun i => i = r) w w') {A' : Option Addr} {n' c' : Nat} {xs' : List Value} {L' : List (ByteArray × Rf)}
    (hrow : w'.heap[r]? = some (.cells #[.int .i64 (room : Int), .slice A' n' c', .bool pf, .int .i64 (lives : Int)] 31 (0, 0))) (hown : w'.ownsRow 0 56 3 (.slice A' n' c') n' xs') (hA : ∀ a, A' = some a → ¬ D a.block)
    (he : ∀ i x, L'[i]? = some x → EntAt w D xs' i x) (hl : L'.length = n') : RkAt w' D r A' n' c' room pf lives xs' L' where
  row := hrow
  own := hown
  ents := fun i x hx => (he i x hx).off hoff fun _ _ hk e => h.rD (e ▸ hk)
  len := hl
  rD := h.rD
  aD := hA
  low := fun i hi => Nat.lt_of_lt_of_le (h.low i hi) hoff.size

theorem own3_set {w : World} {A : Option Addr} {e size n c m g i : Nat} {xs : List Value} (h : w.ownsRow 0 e size (.slice A n c) m xs) (hA : AtF (fun i => i ≠ g) A) (u : Value) : (w.setCell ⟨g, i, none⟩ u).ownsRow 0 e size (.slice A n c) m xs :=
  owns3_keep h fun k hk hv => ((But.refl g w).set (i := i) u).block k hk fun e => by
    cases A with
    | none => simp [Value.ownBlock] at hv
    | some a =>
      simp [Value.ownBlock] at hv
      injection e with e
      exact hA a rfl (by omega)
theorem drop_ents {w : World} {D : Nat → Prop} {r n c room lives : Nat} {A : Option Addr} {pf : Bool} {xs : List Value} {L : List (ByteArray × Rf)} (h : RkAt w D r A n c room pf lives xs L) {i : Nat} (hi : i < n) :
    ∀ j x, (L.eraseIdx i)[j]? = some x → EntAt w D (xs.take (i * 3) ++ xs.drop ((i + 1) * 3)) j x := fun j x hx => by
  have hxl := h.size.2
  rcases erase_at hx with ⟨hj, hx⟩ | ⟨hj, hx⟩
  · refine (h.ents _ _ hx).move fun k hk => ?_
    rw [List.getElem?_append_left (by rw [List.length_take]; omega), List.getElem?_take_of_lt (by omega)]
  · refine (h.ents _ _ hx).move fun k hk => ?_
    rw [List.getElem?_append_right (by rw [List.length_take]; omega), List.length_take, List.getElem?_drop]
    congr 1; omega

set_option maxRecDepth 100000 in
set_option maxHeartbeats 1000000 in
theorem rdrop_any (w : World) (D : Nat → Prop) (r n c room lives : Nat) (A : Option Addr) (pf : Bool) (xs : List Value) (L : List (ByteArray × Rf)) (h : RkAt w D r A n c room pf lives xs L) (hn : n ≤ 1099511627776) (i : Nat) (hi : i < n) :
    Calls Try.prog 32 #[.pointer (some ⟨r, 0, none⟩), .int .i64 (i : Int)] w fun e w' => ∃ A' c', e = .returned (.tuple #[]) ∧ RkAt w' D r A' (n - 1) c' room pf lives (xs.take (i * 3) ++ xs.drop ((i + 1) * 3)) (L.eraseIdx i) ∧ (∀ a, A' = some a → w.heap.size ≤ a.block) ∧ Off (fun i => i = r) w w' := by
  obtain ⟨⟨c0, c1, c2, c3⟩, f1, f2, f3⟩ := row4 h.row
  have hnc := h.size.1
  have hxl := h.size.2
  have hone := xs_one h
  have hsrc := xs_src h
  have hltr := h.ltr
  obtain ⟨z, hI, hz3⟩ := Try.infoFile
  have hcut := cut3_h (P := Try.prog) Try.underlying29 Try.sizeFile A n c i (i : Int) rfl (by omega)
  have hcut2 := cut3_l (P := Try.prog) Try.underlying29 Try.sizeFile A n c (i + 1) ((i : Int) + 1) (by simp) (by omega)
  obtain ⟨Ad, hAd⟩ : ∃ Ad, Ad = (if c = i + 1 then A else A.map (·.add ((i + 1) * 3))) := ⟨_, rfl⟩
  simp only [← hAd] at hcut2
  have hAsome : ∃ g, A = some g := by
    obtain ⟨x, hx⟩ : ∃ x, L[i]? = some x := ⟨_, List.getElem?_eq_getElem (by rw [h.len]; exact hi)⟩
    obtain ⟨b, _, _, _, _, _, _, hA, _⟩ := h.ent hx
    exact ⟨_, hA⟩
  obtain ⟨g, hgA⟩ := hAsome
  obtain ⟨g0, gs, hcell⟩ := hsrc g hgA
  have hgl : g.block < w.heap.size := by
    have h5 := h.own
    rw [hgA] at h5
    exact owns3_lt h5 rfl
  have hgg : g = ⟨g.block, 0, none⟩ := by cases g; simp at g0 gs; subst g0 gs; rfl
  have hs1 := Lib.hid (show ∀ W', Below w.heap.size w W' → i ≠ 0 → ∃ d, A = some d ∧ ∀ j u, (xs.take (i * 3))[j]? = some u → W'.cell? (d.add j) = some u from fun W' hb _ => by
    refine ⟨g, hgA, fun j u hj => ?_⟩
    have hj2 : xs[j]? = some u := by
      have := (List.getElem?_eq_some_iff.1 hj).1
      rw [List.getElem?_take_of_lt (by simp at this; omega)] at hj; exact hj
    rw [hgg, addr_add, Nat.zero_add]
    exact (hb.cell (p := ⟨g.block, j, none⟩) hgl).trans (hcell j u hj2))
  have hs2 := Lib.hid (show ∀ W', Below w.heap.size w W' → n - (i + 1) ≠ 0 → ∃ d, Ad = some d ∧ ∀ j u, (xs.drop ((i + 1) * 3))[j]? = some u → W'.cell? (d.add j) = some u from fun W' hb hne => by
    refine ⟨⟨g.block, (i + 1) * 3, none⟩, ?_, fun j u hj => ?_⟩
    · rw [hAd, if_neg (by omega), hgA, Option.map_some, hgg, addr_add, Nat.zero_add]
    · rw [List.getElem?_drop] at hj
      rw [addr_add]
      exact (hb.cell (p := ⟨g.block, (i + 1) * 3 + j, none⟩) hgl).trans (hcell _ u hj))
  have HH := Lib.hid h
  have HXL := Lib.hid hxl
  have HSRC := Lib.hid hsrc
  obtain ⟨cd, hcd⟩ : ∃ cd, cd = c - (i + 1) := ⟨_, rfl⟩
  obtain ⟨nd, hnd⟩ : ∃ nd, nd = n - (i + 1) := ⟨_, rfl⟩
  simp only [← hcd, ← hnd] at hcut2 hs2
  have HND := Lib.hid hnd
  clear h hAd hxl hsrc hcd hnd hcell hgg g0 gs hgA hgl
  have hwr : IntKind.i64.wrap ((i : Int) + 1) = (i : Int) + 1 := IntWalk.i64_in _ (by omega)
  go_enter Try.func32, Try.ntmps32
  refine c_start (S := (fun W' => W'.cell? ⟨r, 1, none⟩ = some (.slice A n c))) 19 (by kernel_rfl) (c1) (fun hHeld => ?_)
  refine c_take (i := 0) (oi := ⟨(some 4), _, _, _, _, _⟩) (v := ?vq1_0) rfl (by decide) (by kernel_rfl) (by kernel_rfl) (by kernel_rfl) (fun _ _ _ h => h) (Or.inl ⟨by rfl, ?yq1_0⟩) hHeld ?_
  case yq1_0 => (intro W0 hSw; go_simp; try with_reducible rfl)
  try simp only [Act.put, List.setIfInBounds_toArray, List.set_cons_zero, List.set_cons_succ]
  refine c_take (i := 2) (oi := ⟨(some 6), _, _, _, _, _⟩) (v := ?vq1_1) rfl (by decide) (by kernel_rfl) (by kernel_rfl) (by kernel_rfl) (fun _ _ _ h => h) (Or.inl ⟨by rfl, ?yq1_1⟩) hHeld ?_
  case yq1_1 => (intro W0 hSw; go_simp; try with_reducible rfl)
  try simp only [Act.put, List.setIfInBounds_toArray, List.set_cons_zero, List.set_cons_succ]
  refine c_take (i := 3) (oi := ⟨(some 7), _, _, _, _, _⟩) (v := ?vq1_2) rfl (by decide) (by kernel_rfl) (by kernel_rfl) (by kernel_rfl) (fun _ _ _ h => h) (Or.inl ⟨by rfl, ?yq1_2⟩) hHeld ?_
  case yq1_2 => (intro W0 hSw; go_simp; try with_reducible rfl)
  try simp only [Act.put, List.setIfInBounds_toArray, List.set_cons_zero, List.set_cons_succ]
  refine c_take (i := 4) (oi := ⟨(some 8), _, _, _, _, _⟩) (v := ?vq1_3) rfl (by decide) (by kernel_rfl) (by kernel_rfl) (by kernel_rfl) (fun _ _ _ h => h) (Or.inl ⟨by rfl, ?yq1_3⟩) hHeld ?_
  case yq1_3 => (intro W0 hSw; go_simp; try with_reducible rfl)
  try simp only [Act.put, List.setIfInBounds_toArray, List.set_cons_zero, List.set_cons_succ]
  refine c_take (i := 6) (oi := ⟨(some 10), _, _, _, _, _⟩) (v := ?vq1_4) rfl (by decide) (by kernel_rfl) (by kernel_rfl) (by kernel_rfl) (fun _ _ _ h => h) (Or.inl ⟨by rfl, ?yq1_4⟩) hHeld ?_
  case yq1_4 => (intro W0 hSw; go_simp; try with_reducible rfl)
  try simp only [Act.put, List.setIfInBounds_toArray, List.set_cons_zero, List.set_cons_succ]
  refine c_take (i := 9) (oi := ⟨(some 13), _, _, _, _, _⟩) (v := ?vq1_5) rfl (by decide) (by kernel_rfl) (by kernel_rfl) (by kernel_rfl) (fun _ _ _ h => h) (Or.inl ⟨by rfl, ?yq1_5⟩) hHeld ?_
  case yq1_5 => (intro W0 hSw; go_simp; try with_reducible rfl)
  try simp only [Act.put, List.setIfInBounds_toArray, List.set_cons_zero, List.set_cons_succ]
  refine c_take (i := 10) (oi := ⟨(some 14), _, _, _, _, _⟩) (v := ?vq1_6) rfl (by decide) (by kernel_rfl) (by kernel_rfl) (by kernel_rfl) (fun _ _ _ h => h) (Or.inl ⟨by rfl, ?yq1_6⟩) hHeld ?_
  case yq1_6 => (intro W0 hSw; go_simp; try with_reducible rfl)
  try simp only [Act.put, List.setIfInBounds_toArray, List.set_cons_zero, List.set_cons_succ]
  refine c_take (i := 11) (oi := ⟨(some 15), _, _, _, _, _⟩) (v := ?vq1_7) rfl (by decide) (by kernel_rfl) (by kernel_rfl) (by kernel_rfl) (fun _ _ _ h => h) (Or.inl ⟨by rfl, ?yq1_7⟩) hHeld ?_
  case yq1_7 => (intro W0 hSw; go_simp; try with_reducible rfl)
  try simp only [Act.put, List.setIfInBounds_toArray, List.set_cons_zero, List.set_cons_succ]
  refine c_take (i := 13) (oi := ⟨(some 17), _, _, _, _, _⟩) (v := ?vq1_8) rfl (by decide) (by kernel_rfl) (by kernel_rfl) (by kernel_rfl) (fun _ _ _ h => h) (Or.inl ⟨by rfl, ?yq1_8⟩) hHeld ?_
  case yq1_8 => (intro W0 hSw; go_simp; try with_reducible rfl)
  try simp only [Act.put, List.setIfInBounds_toArray, List.set_cons_zero, List.set_cons_succ]
  refine c_take (i := 14) (oi := ⟨(some 18), _, _, _, _, _⟩) (v := ?vq1_9) rfl (by decide) (by kernel_rfl) (by kernel_rfl) (by kernel_rfl) (fun _ _ _ h => h) (Or.inl ⟨by rfl, ?yq1_9⟩) hHeld ?_
  case yq1_9 => (intro W0 hSw; go_simp; try with_reducible rfl)
  try simp only [Act.put, List.setIfInBounds_toArray, List.set_cons_zero, List.set_cons_succ]
  refine c_read (i := 5) (oi := ⟨(some 9), _, _, _, _, _⟩) (v := ?vq1_10) rfl (by decide) (by kernel_rfl) (by kernel_rfl) (by kernel_rfl) (by kernel_rfl) (by kernel_rfl) (fun _ _ _ h => h) (Or.inl ⟨by rfl, ?yq1_10⟩) hHeld ?_
  case yq1_10 => (intro W0 hSw; go_simp; try with_reducible rfl)
  try simp only [Act.put, List.setIfInBounds_toArray, List.set_cons_zero, List.set_cons_succ]
  refine c_read (i := 12) (oi := ⟨(some 16), _, _, _, _, _⟩) (v := ?vq1_11) rfl (by decide) (by kernel_rfl) (by kernel_rfl) (by kernel_rfl) (by kernel_rfl) (by kernel_rfl) (fun _ _ _ h => h) (Or.inl ⟨by rfl, ?yq1_11⟩) hHeld ?_
  case yq1_11 => (intro W0 hSw; go_simp; try with_reducible rfl)
  try simp only [Act.put, List.setIfInBounds_toArray, List.set_cons_zero, List.set_cons_succ]
  refine c_take (i := 7) (oi := ⟨(some 11), _, _, _, _, _⟩) (v := ?vq1_12) rfl (by decide) (by kernel_rfl) (by kernel_rfl) (by kernel_rfl) (fun _ _ _ h => h) (Or.inl ⟨by rfl, ?yq1_12⟩) hHeld ?_
  case yq1_12 => (intro W0 hSw; go_simp; try with_reducible rfl)
  try simp only [Act.put, List.setIfInBounds_toArray, List.set_cons_zero, List.set_cons_succ]
  refine c_take (i := 15) (oi := ⟨(some 19), _, _, _, _, _⟩) (v := ?vq1_13) rfl (by decide) (by kernel_rfl) (by kernel_rfl) (by kernel_rfl) (fun _ _ _ h => h) (Or.inl ⟨by rfl, ?yq1_13⟩) hHeld ?_
  case yq1_13 => (intro W0 hSw; go_simp; try with_reducible rfl)
  try simp only [Act.put, List.setIfInBounds_toArray, List.set_cons_zero, List.set_cons_succ]
  refine c_step (i := 1) (o := ⟨(some 5), _, _, _, _, _⟩) (by kernel_rfl) rfl (fun K hK => ?_)
  refine step_emptyF (by rfl) rfl ?_
  intro W1 hg1 hb1 _
  have HG1 := Lib.hid hg1
  have HB1 := Lib.hid hb1
  refine hK.out _ _ ((World.cell?_of_block (hb1.block r hltr)).trans hHeld) (fun hHeld => ?_)
  clear hK K
  try simp only [Act.put, List.setIfInBounds_toArray, List.set_cons_zero, List.set_cons_succ]
  have HBw := Lib.hid (show Below w.heap.size w W1 from ⟨hb1.os, hb1.tape, hb1.output, hb1.size, hb1.block⟩)
  refine c_step (i := 8) (o := ⟨(some 12), _, _, _, _, _⟩) (by kernel_rfl) rfl (fun K hK => ?_)
  refine step_append_row W1 rfl (.tmp 5) (.tmp 11) 29 rfl 56 Try.underlying29 z 3 64 hI hz3 (by decide) (by decide) (some ⟨w.heap.size, 0, none⟩) 0 0 [] (by rfl) (own_lit0 HG1.out) A i c (by rfl) (xs.take (i * 3)) (hs1.out W1 HBw.out) (fun u hu => hone u (List.mem_of_mem_take hu)) (by rw [List.length_take, HXL.out]; omega) (by omega) ?_
  intro A1 cc1 W2 ho1 hgr1 hat1 _ _
  have HO1 := Lib.hid ho1
  have HB2 := Lib.hid (HBw.out.grown hgr1 HBw.out.size fun k hk => by injection hk with hk; simp at hk; omega)
  have HAT1 := Lib.hid (at_new hat1 (fun q hq => by injection hq with hq; subst hq; exact Nat.le_refl w.heap.size) HBw.out.size)
  refine hK.out _ _ ((World.cell?_of_block (HB2.out.block r hltr)).trans c1) (fun hHeld => ?_)
  clear hK K
  try simp only [Act.put, List.setIfInBounds_toArray, List.set_cons_zero, List.set_cons_succ]
  refine c_step (i := 16) (o := ⟨(some 20), _, _, _, _, _⟩) (by kernel_rfl) rfl (fun K hK => ?_)
  refine step_append_row W2 rfl (.tmp 12) (.tmp 19) 29 rfl 56 Try.underlying29 z 3 64 hI hz3 (by decide) (by decide) A1 (0 + i) cc1 ([] ++ xs.take (i * 3)) (by rfl) HO1.out Ad nd cd (by rfl) (xs.drop ((i + 1) * 3)) (hs2.out W2 HB2.out) (fun u hu => hone u (List.mem_of_mem_drop hu)) (by rw [List.length_drop, HXL.out, HND.out]; omega) (by rw [HND.out]; omega) ?_
  intro A2 cc2 W3 ho2 hgr2 hat2 _ _
  have HO2 := Lib.hid ho2
  have HB3 := Lib.hid (HB2.out.grown hgr2 HB2.out.size fun k hk => by obtain ⟨q, hq, rfl⟩ := Option.map_eq_some_iff.1 hk; exact HAT1.out q hq)
  have HAT2 := Lib.hid (at_new hat2 HAT1.out HB2.out.size)
  refine hK.out _ _ ((World.cell?_of_block (HB3.out.block r hltr)).trans c1) (fun hHeld => ?_)
  clear hK K
  try simp only [Act.put, List.setIfInBounds_toArray, List.set_cons_zero, List.set_cons_succ]
  refine c_take (i := 17) (oi := ⟨(some 21), _, _, _, _, _⟩) (v := ?vq1_14) rfl (by decide) (by kernel_rfl) (by kernel_rfl) (by kernel_rfl) (fun _ _ _ h => h) (Or.inl ⟨by rfl, ?yq1_14⟩) hHeld ?_
  case yq1_14 => (intro W0 hSw; go_simp; try with_reducible rfl)
  try simp only [Act.put, List.setIfInBounds_toArray, List.set_cons_zero, List.set_cons_succ]
  refine c_take (i := 18) (oi := ⟨(some 22), _, _, _, _, _⟩) (v := ?vq1_15) rfl (by decide) (by kernel_rfl) (by kernel_rfl) (by kernel_rfl) (fun _ _ _ h => h) (Or.inl ⟨by rfl, ?yq1_15⟩) hHeld ?_
  case yq1_15 => (intro W0 hSw; go_simp; try with_reducible rfl)
  try simp only [Act.put, List.setIfInBounds_toArray, List.set_cons_zero, List.set_cons_succ]
  have hrow3 : W3.heap[r]? = some (.cells #[.int .i64 (room : Int), .slice A n c, .bool pf, .int .i64 (lives : Int)] 31 (0, 0)) := (HB3.out.block r hltr).trans HH.out.row
  obtain ⟨⟨_, k1, _, _⟩, kf1, _⟩ := row4 hrow3
  have hset := world_set_cell (cs := [.int .i64 (room : Int), .slice A n c, .bool pf, .int .i64 (lives : Int)]) hrow3 1 (.slice A2 (0 + i + nd) cc2)
  have e1 : 0 + i + nd = n - 1 := by have := HND.out; omega
  have hoffW : Off (fun i => i = r) w W3 := Off.of_below HB3.out fun k h1 h2 => by omega
  have hoffF : Off (fun i => i = r) w (W3.setCell ⟨r, 1, none⟩ (.slice A2 (0 + i + nd) cc2)) := hoffW.set (.inl rfl) _
  have hneA : AtF (fun i => i ≠ r) A2 := fun a ha e => by have := HAT2.out a ha; omega
  have ho3 : W3.ownsRow 0 56 3 (.slice A2 (0 + i + nd) cc2) (0 + i + nd) (xs.take (i * 3) ++ xs.drop ((i + 1) * 3)) := by have h := HO2.out; simpa using h
  have hownF := own3_set (i := 1) ho3 hneA (.slice A2 (0 + i + nd) cc2)
  have hfin := HH.out.newRow hoffF (L' := L.eraseIdx i) hset.out hownF (fun a ha hD => by have := HAT2.out a ha; have := HH.out.low _ hD; omega) (drop_ents HH.out hi) (by rw [List.length_eraseIdx, HH.out.len, if_pos hi, e1])
  rw [e1] at hfin hoffF
  have HFIN := Lib.hid hfin
  have HOFF := Lib.hid hoffF
  clear hfin hoffF hset hownF ho3 hoffW hneA e1 hrow3
  have e1 : 0 + i + nd = n - 1 := by have := HND.out; omega
  rw [e1]
  refine c_call (S' := (fun W' => RkAt W' D r A2 (n - 1) cc2 room pf lives (xs.take (i * 3) ++ xs.drop ((i + 1) * 3)) (L.eraseIdx i) ∧ Off (fun i => i = r) w W')) (o := ⟨none, _, _, _, _, _⟩) (by kernel_rfl) (by kernel_rfl) rfl (fun K hK => ?_)
  clear hHeld
  go_simp
  refine hK.out _ _ (⟨HFIN.out, HOFF.out⟩) (fun hHeld => ?_)
  clear hK K
  try simp only [Act.put]
  refine wpAnyH_done (by kernel_rfl) ?_ _
  go_wp2
  go_end0
  exact ⟨A2, cc2, rfl, hHeld.1, HAT2.out, hHeld.2⟩
end Go.Proofs.Ytnpaodhcaeofnaa
