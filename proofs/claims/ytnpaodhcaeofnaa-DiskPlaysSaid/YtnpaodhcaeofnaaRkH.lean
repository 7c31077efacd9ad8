/-
  The contract of the document's own Rename. Conditions: fewer than 2^40 files.
-/
import Derived.Test.YtnpaodhcaeofnaaRkG
import Derived.Test.YtnpaodhcaeofnaaNew
import Derived.Test.YtnpaodhcaeofnaaRng
namespace Go.Proofs.Ytnpaodhcaeofnaa
open Go.RowKit

def rrenE (pf : Bool) (L : List (ByteArray × Rf)) (s t : ByteArray) : Int := if pf then 7 else if may s && may t then (if (getL L s).isSome then 0 else 4) else 1
def Rk.ren (T : Rk) (s t : ByteArray) : Rk := if rrenE T.pf T.L s t = 0 then (if s = t then T else match getL T.L s with | some f => { T with L := del (del T.L s) t ++ [(t, f)] } | none => T) else T
theorem rren_yes {pf : Bool} {L : List (ByteArray × Rf)} {s t : ByteArray} (h : rrenE pf L s t = 0) : pf = false ∧ may s = true ∧ may t = true ∧ ∃ f, getL L s = some f := by
  unfold rrenE at h
  cases pf with
  | true => simp at h
  | false =>
    cases hs : may s <;> cases ht : may t <;> simp [hs, ht] at h
    cases hg : getL L s with
    | none => rw [hg] at h; simp at h
    | some f => exact ⟨rfl, rfl, rfl, f, rfl⟩
theorem idx_of {L : List (ByteArray × Rf)} {s : ByteArray} {f : Rf} (h : getL L s = some f) : ∃ i, idxL L s = some i ∧ L[i]? = some (s, f) := by
  cases hi : idxL L s with
  | none => rw [idx_none hi] at h; cases h
  | some i =>
    obtain ⟨f', h1, h2⟩ := idx_some hi
    rw [h] at h2
    injection h2 with h2
    exact ⟨i, rfl, by rw [h1, h2]⟩

/-- The object has another row of files; its old one may have turned. -/
theorem RkAt.newRow2 {w w' : World} {D F : Nat → Prop} {r n c room lives : Nat} {A : Option Addr} {pf : Bool} {xs : List Value} {L : List (ByteArray × Rf)} (h : RkAt w D r A n c room pf lives xs L) (hoff : Off F w w') (hF : ∀ k, D k → ¬ F k) {A' : Option Addr} {n' c' : Nat} {xs' : List Value} {L' : List (ByteArray × Rf)}
    (hrow : w'.heap[r]? = some (.cells #[.int .i64 (room : Int), .slice A' n' c', .bool pf, .int .i64 (lives : Int)] 31 (0, 0))) (hown : w'.ownsRow 0 56 3 (.slice A' n' c') n' xs') (hA : ∀ a, A' = some a → ¬ D a.block)
    (he : ∀ i x, L'[i]? = some x → EntAt w D xs' i x) (hl : L'.length = n') : RkAt w' D r A' n' c' room pf lives xs' L' where
  row := hrow
  own := hown
  ents := fun i x hx => (he i x hx).off hoff fun k _ hk => hF k hk
  len := hl
  rD := h.rD
  aD := hA
  low := fun i hi => Nat.lt_of_lt_of_le (h.low i hi) hoff.size
theorem snoc_ents {w : World} {D : Nat → Prop} {r n c room lives : Nat} {A : Option Addr} {pf : Bool} {xs : List Value} {L : List (ByteArray × Rf)} (h : RkAt w D r A n c room pf lives xs L) {y : ByteArray × Rf} {news : List Value} (hy : EntAt w D news 0 y) :
    ∀ j x, (L ++ [y])[j]? = some x → EntAt w D (xs ++ news) j x := fun j x hx => by
  have hxl := h.size.2
  have hlen := h.len
  by_cases hj : j < n
  · rw [List.getElem?_append_left (by omega)] at hx
    refine (h.ents _ _ hx).move fun k hk => ?_
    rw [List.getElem?_append_left (by omega)]
  · have hj2 := (List.getElem?_eq_some_iff.1 hx).1
    simp at hj2
    obtain rfl : j = n := by omega
    rw [List.getElem?_append_right (by omega), hlen, Nat.sub_self] at hx
    simp at hx
    subst hx
    refine hy.move fun k hk => ?_
    rw [List.getElem?_append_right (by omega)]
    congr 1; omega
theorem step_litF {ops : Array Oper} {o : Oper} {a : Act} {w : World} {K : Act → World → Prop} {Q : Exit → Act → World → Prop} {E' : Prop} (hw : Region.wanted o (yielded ops a.tmps) = true) (x : Operand) (ho : o.op = .buildSlice 29 1 #[(0, x)])
    (u v y : Value) (hx : a.eval x = .agg #[u, v, y])
    (h : ∀ w', w'.heap[w.heap.size]? = some (.cells #[u, v, y] 56 (0, 0)) → Below w.heap.size w w' → w'.heap.size = w.heap.size + 1 → K (a.put o.dst (.slice (some ⟨w.heap.size, 0, none⟩) 1 1)) w') : if Region.wanted o (yielded ops a.tmps) = true then Oper.wp Try.prog o a w K Q else E' := by
  rw [if_pos hw]
  have h1 := h (w.alloc (.cells #[u, v, y] 56)) (heap_alloc_new w _) ((Below.refl _ _).alloc (Nat.le_refl _) _) (by simp)
  unfold Oper.wp
  simp only [execOp, ho, List.map_toArray, List.map_cons, List.map_nil, hx]
  clear h hx
  go_simp
  exact h1

set_option maxRecDepth 100000 in
set_option maxHeartbeats 2000000 in
theorem rrename_ok (w : World) (G : Nat → Prop) (r : Nat) (T : Rk) (h : RkIs w G r T) (h1 : One T.L) (hn : T.L.length ≤ 1099511627776) (s t : ByteArray) (hs : s.size ≤ 140737488355328) (ht : t.size ≤ 140737488355328) (he : rrenE T.pf T.L s t = 0) (hst : ¬ s = t) :
    Calls Try.prog 11 #[.pointer (some ⟨r, 0, none⟩), .string s, .string t] w fun e w' => e = .returned (.int .i64 (rrenE T.pf T.L s t)) ∧ (∃ G', RkIs w' G' r (T.ren s t) ∧ OwnG G G' w.heap.size) ∧ Off G w w' := by
  obtain ⟨D, A, n, c, xs, hat, hG⟩ := h
  obtain ⟨hpf, hms, hmt, f, hgs⟩ := rren_yes he
  obtain ⟨i, hi, hx⟩ := idx_of hgs
  have hm1 := rmay_any s w hs
  have hm2 := rmay_any t w ht
  rw [hms] at hm1
  rw [hmt] at hm2
  have hf := rfind_any w D r n c T.room T.lives A T.pf xs T.L hat (by rw [← hat.len]; exact hn) s
  rw [hi] at hf
  simp only [idxI] at hf
  have hin : i < n := by rw [← hat.len]; exact (List.getElem?_eq_some_iff.1 hx).1
  obtain ⟨⟨c0, c1, c2, c3⟩, _⟩ := row4 hat.row
  rw [hpf] at c2
  obtain ⟨b, As, ns, cs, Aw, nw, cw, rfl, _, hrg, q1, q2, q3, q4, q5, q6⟩ := hat.rng hx
  have HEN := Lib.hid (show EntAt w D [.string t, .slice As ns cs, .slice Aw nw cw] 0 (t, f) from ⟨As, ns, cs, Aw, nw, cw, rfl, rfl, rfl, q1, q2, q3, q4, q5, q6⟩)
  have HT := vlt (show T.ren s t = { T with L := del (del T.L s) t ++ [(t, f)] } by unfold Rk.ren; rw [if_pos he, if_neg hst, hgs])
  obtain ⟨z, hI, hz3⟩ := Try.infoFile
  clear q1 q2 q3 q4 q5 q6
  have hnc := hat.size.1
  have hst2 := bytes_ne hst
  have hi0 : ¬ (i : Int) < 0 := by omega
  have HE := Lib.hid he
  have HAT := Lib.hid hat
  have HX := vlt hx
  have HN := Lib.hid hn
  have HPF := Lib.hid hpf
  have HGS := vlt hgs
  clear hat he hgs hx hi hms hmt hn hpf
  go_enter Try.func11, Try.ntmps11
  go_wp2_with fail
  refine hm1.mono ?_
  rintro e w2 ⟨rfl, rfl⟩
  clear hm1
  go_wp2_with fail
  refine hm2.mono ?_
  rintro e w2 ⟨rfl, rfl⟩
  clear hm2
  go_wp2_with fail
  refine hf.mono ?_
  rintro e w2 ⟨rfl, rfl⟩
  clear hf
  go_upto_region 10 with fail
  go_wp2_with (with_reducible refine wpList_load_mid rfl 56 (.tmp 35) rfl b (i * 3) rfl [.string s, .slice As ns cs, .slice Aw nw cw] _ hrg Try.underlying56 rfl (by kernel_rfl) ?_)
  obtain ⟨WF, hWF⟩ : ∃ WF, WF = w2.alloc (.cells #[.string s, .slice As ns cs, .slice Aw nw cw] 56) := ⟨_, rfl⟩
  have hrowF : WF.heap[w2.heap.size]? = some (.cells #[.string s, .slice As ns cs, .slice Aw nw cw] 56 (0, 0)) := by rw [hWF]; exact heap_alloc_new w2 _
  have hbF : Below w2.heap.size w2 WF := by rw [hWF]; exact (Below.refl _ _).alloc (Nat.le_refl _) _
  have hszF : WF.heap.size = w2.heap.size + 1 := by rw [hWF]; simp
  rw [← hWF]
  clear hWF
  have hofF : Off (fun _ => False) w2 WF := Off.of_below hbF fun k h1 h2 => by omega
  have hatF : RkAt WF D r (some ⟨b, 0, none⟩) n c T.room T.pf T.lives xs T.L := HAT.out.off hofF fun _ _ h => h
  obtain ⟨g, hg⟩ : ∃ g, g = w2.heap.size := ⟨_, rfl⟩
  rw [← hg] at hrowF hszF ⊢
  have HG := vlt hg
  have hnT : n ≤ 1099511627776 := by rw [← HAT.out.len]; exact HN.out
  have hd := rdrop_any WF D r n c T.room T.lives (some ⟨b, 0, none⟩) T.pf xs T.L hatF hnT i hin
  have HSF := vlt hszF
  clear hg hszF hrg
  refine hd.mono ?_
  rintro e w3 ⟨A1, c1', rfl, hat3, hA1, hoff3⟩
  clear hd hatF
  obtain ⟨n1, hn1⟩ : ∃ n1, n1 = n - 1 := ⟨_, rfl⟩
  obtain ⟨L1, hL1⟩ : ∃ L1, L1 = T.L.eraseIdx i := ⟨_, rfl⟩
  rw [← hn1, ← hL1] at hat3
  generalize xs.take (i * 3) ++ xs.drop ((i + 1) * 3) = xs1 at hat3
  have HL1 := vlt (show L1 = del T.L s by rw [hL1, del_erase h1 HX.out])
  have hn1T : n1 ≤ 1099511627776 := by omega
  have hone1 : One L1 := by rw [HL1.out]; exact h1.del s
  have HFR3 := Lib.hid (show w3.heap[g]? = some (.cells #[.string s, .slice As ns cs, .slice Aw nw cw] 56 (0, 0)) from (hoff3.block g (Array.getElem?_eq_some_iff.1 hrowF).1 (by have := HAT.out.ltr; have := HG.out; omega)).trans hrowF)
  have HO3 := Lib.hid (show Off (fun k => k = r) w2 w3 from (hofF.mono (G := fun k => k = r) fun _ _ h => h.elim).trans hoff3 fun k h => .inl h)
  have HA1 := Lib.hid (show ∀ a, A1 = some a → g + 1 ≤ a.block from fun a ha => by have := hA1 a ha; rw [HSF.out] at this; exact this)
  have HN1 := Lib.hid hn1T
  have hf2 := rfind_any w3 D r n1 c1' T.room T.lives A1 T.pf xs1 L1 hat3 hn1T t
  have H3 := Lib.hid hat3
  clear hn1 hL1 hoff3 hA1 hofF hrowF hbF hat3
  cases hk : idxL L1 t with
  | none =>
    rw [hk] at hf2
    simp only [idxI] at hf2
    have HL2 := vlt (show L1 = del (del T.L s) t by rw [← HL1.out, del_none (idx_none hk)])
    clear hk
    go_wp2_with fail
    refine hf2.mono ?_
    rintro e w4 ⟨rfl, rfl⟩
    clear hf2
    have cg0 : w4.cell? ⟨g, 0, none⟩ = some (.string s) := by rw [cell_of_row _ _ _ _ _ _ HFR3.out]; rfl
    have fg0 : w4.frozen? ⟨g, 0, none⟩ = false := frozen_of_row _ _ _ _ _ HFR3.out
    go_upto_region 16 with fail
    clear cg0 fg0
    have hset0 := world_set_cell (cs := [.string s, .slice As ns cs, .slice Aw nw cw]) HFR3.out 0 (.string t)
    have hat5 := H3.out.off (G := fun k => k = g) ((Off.refl (fun k => k = g) w4).set (i := 0) (.inl rfl) (.string t)) (fun k hk e => by
      subst e
      rcases hk with hk | ⟨a, ha, hk⟩ | hk
      · have := HAT.out.ltr; have := HG.out; omega
      · have := HA1.out a ha; omega
      · have := HAT.out.low _ hk; have := HG.out; omega)
    have hoff5 : Off (fun k => k = r) w2 (w4.setCell ⟨g, 0, none⟩ (.string t)) := HO3.out.set (.inr (by rw [HG.out]; exact Nat.le_refl _)) _
    generalize hw5 : w4.setCell ⟨g, 0, none⟩ (.string t) = W5 at *
    clear hw5
    have hrow5 : W5.heap[g]? = some (.cells #[.string t, .slice As ns cs, .slice Aw nw cw] 56 (0, 0)) := hset0.out
    have hrg5 : W5.rangeAt g 0 [.string t, .slice As ns cs, .slice Aw nw cw] := range_row hrow5
    have hgl5 : g < W5.heap.size := (Array.getElem?_eq_some_iff.1 hrow5).1
    obtain ⟨⟨k0, k1, k2, k3⟩, _⟩ := row4 hat5.row
    have hltr5 := hat5.ltr
    have HA5 := Lib.hid hat5
    have HO5 := Lib.hid hoff5
    have hsz5 : w2.heap.size ≤ W5.heap.size := hoff5.size
    have hw5d : W5.drew.heap.size = W5.heap.size := rfl
    clear hset0 hat5 hoff5 hrow5
    refine c_start (S := (fun W' => W'.cell? ⟨r, 1, none⟩ = some (.slice A1 n1 c1') ∧ W'.rangeAt g 0 [.string t, .slice As ns cs, .slice Aw nw cw])) 10 (by kernel_rfl) (⟨k1,hrg5⟩) (fun hHeld => ?_)
    refine c_take (i := 0) (oi := ⟨(some 50), _, _, _, _, _⟩) (v := ?vq1_0) rfl (by decide) (by kernel_rfl) (by kernel_rfl) (by kernel_rfl) (fun _ _ _ h => h) (Or.inl ⟨by rfl, ?yq1_0⟩) hHeld ?_
    case yq1_0 => (intro W0 hSw; go_simp; try with_reducible rfl)
    try simp only [Act.put, List.setIfInBounds_toArray, List.set_cons_zero, List.set_cons_succ]
    refine c_take (i := 1) (oi := ⟨(some 51), _, _, _, _, _⟩) (v := ?vq1_1) rfl (by decide) (by kernel_rfl) (by kernel_rfl) (by kernel_rfl) (fun _ _ _ h => h) (Or.inl ⟨by rfl, ?yq1_1⟩) hHeld ?_
    case yq1_1 => (intro W0 hSw; go_simp; try with_reducible rfl)
    try simp only [Act.put, List.setIfInBounds_toArray, List.set_cons_zero, List.set_cons_succ]
    refine c_take (i := 2) (oi := ⟨(some 52), _, _, _, _, _⟩) (v := ?vq1_2) rfl (by decide) (by kernel_rfl) (by kernel_rfl) (by kernel_rfl) (fun _ _ _ h => h) (Or.inl ⟨by rfl, ?yq1_2⟩) hHeld ?_
    case yq1_2 => (intro W0 hSw; go_simp; try with_reducible rfl)
    try simp only [Act.put, List.setIfInBounds_toArray, List.set_cons_zero, List.set_cons_succ]
    refine c_take (i := 3) (oi := ⟨(some 53), _, _, _, _, _⟩) (v := ?vq1_3) rfl (by decide) (by kernel_rfl) (by kernel_rfl) (by kernel_rfl) (fun _ _ _ h => h) (Or.inl ⟨by rfl, ?yq1_3⟩) hHeld ?_
    case yq1_3 => (intro W0 hSw; go_simp; try with_reducible rfl)
    try simp only [Act.put, List.setIfInBounds_toArray, List.set_cons_zero, List.set_cons_succ]
    refine c_read (i := 4) (oi := ⟨(some 54), _, _, _, _, _⟩) (v := ?vq1_4) rfl (by decide) (by kernel_rfl) (by kernel_rfl) (by kernel_rfl) (by kernel_rfl) (by kernel_rfl) (fun _ _ _ h => h) (Or.inl ⟨by rfl, ?yq1_4⟩) hHeld ?_
    case yq1_4 => (intro W0 hSw; go_simp; try with_reducible rfl)
    try simp only [Act.put, List.setIfInBounds_toArray, List.set_cons_zero, List.set_cons_succ]
    refine c_read (i := 5) (oi := ⟨(some 55), _, _, _, _, _⟩) (v := _) rfl (by decide) (by kernel_rfl) (by kernel_rfl) (by kernel_rfl) (by kernel_rfl) (by kernel_rfl) (fun _ _ _ h => h) (yieldsIf_load_mid (by rfl) _ _ rfl g 0 rfl [.string t, .slice As ns cs, .slice Aw nw cw] _ (fun W' hW' => hW'.2) (Try.underlying56) (rfl) (by kernel_rfl)) hHeld ?_
    try simp only [Act.put, List.setIfInBounds_toArray, List.set_cons_zero, List.set_cons_succ]
    refine c_step (i := 6) (o := ⟨(some 56), _, _, _, _, _⟩) (by kernel_rfl) rfl (fun K hK => ?_)
    refine step_litF (by rfl) (.tmp 55) rfl (.string t) (.slice As ns cs) (.slice Aw nw cw) (by rfl) ?_
    intro W6 hg6 hb6 _
    have HG6 := Lib.hid (show W6.heap[W5.heap.size]? = some (.cells #[.string t, .slice As ns cs, .slice Aw nw cw] 56 (0, 0)) from hg6)
    have HB6 := Lib.hid (show Below W5.heap.size W5 W6 from ⟨hb6.os, hb6.tape, hb6.output, hb6.size, hb6.block⟩)
    have hown6 := Lib.hid (owns3_keep HA5.out.own (w' := W6) fun k hk _ => HB6.out.block k hk)
    refine hK.out _ _ (⟨(World.cell?_of_block (HB6.out.block r hltr5)).trans k1, fun j v hv => (HB6.out.cell (p := ⟨g, 0 + j, none⟩) hgl5).trans (hrg5 j v hv)⟩) (fun hHeld => ?_)
    clear hK K
    try simp only [Act.put, List.setIfInBounds_toArray, List.set_cons_zero, List.set_cons_succ]
    refine c_step (i := 7) (o := ⟨(some 57), _, _, _, _, _⟩) (by kernel_rfl) rfl (fun K hK => ?_)
    refine step_append_row W6 rfl (.tmp 54) (.tmp 56) 29 rfl 56 Try.underlying29 z 3 64 hI hz3 (by decide) (by decide) A1 n1 c1' xs1 (by rfl) hown6.out (some ⟨W5.heap.size, 0, none⟩) 1 1 (by rfl) [.string t, .slice As ns cs, .slice Aw nw cw] (fun _ => ⟨_, rfl, fun j u hj => by rw [addr_add, Nat.zero_add, cell_of_row _ _ _ _ _ _ HG6.out]; simpa using hj⟩) (by simp [Value.oneCell']) rfl (by have := HN1.out; omega) ?_
    intro A3 c3' W7 ho7 hgr7 hat7 _ _
    have HO7 := Lib.hid ho7
    have hrow7 : W7.heap[r]? = some (.cells #[.int .i64 (T.room : Int), .slice A1 n1 c1', .bool T.pf, .int .i64 (T.lives : Int)] 31 (0, 0)) := (hgr7.block r (Nat.lt_of_lt_of_le hltr5 HB6.out.size) (fun e => by obtain ⟨q, hq, e2⟩ := Option.map_eq_some_iff.1 e.symm; exact owns3_ne HA5.out.own HA5.out.row (by decide) q hq e2)).trans ((HB6.out.block r hltr5).trans HA5.out.row)
    refine hK.out _ _ (⟨(row4 hrow7).1.2.1, fun j v hv => (World.cell?_of_block (hgr7.block g (Nat.lt_of_lt_of_le hgl5 HB6.out.size) (fun e => by obtain ⟨q, hq, e2⟩ := Option.map_eq_some_iff.1 e.symm; have := HA1.out q hq; omega))).trans ((HB6.out.cell (p := ⟨g, 0 + j, none⟩) hgl5).trans (hrg5 j v hv))⟩) (fun hHeld => ?_)
    clear hK K
    try simp only [Act.put, List.setIfInBounds_toArray, List.set_cons_zero, List.set_cons_succ]
    refine c_take (i := 8) (oi := ⟨(some 58), _, _, _, _, _⟩) (v := ?vq1_5) rfl (by decide) (by kernel_rfl) (by kernel_rfl) (by kernel_rfl) (fun _ _ _ h => h) (Or.inl ⟨by rfl, ?yq1_5⟩) hHeld ?_
    case yq1_5 => (intro W0 hSw; go_simp; try with_reducible rfl)
    try simp only [Act.put, List.setIfInBounds_toArray, List.set_cons_zero, List.set_cons_succ]
    refine c_take (i := 9) (oi := ⟨(some 59), _, _, _, _, _⟩) (v := ?vq1_6) rfl (by decide) (by kernel_rfl) (by kernel_rfl) (by kernel_rfl) (fun _ _ _ h => h) (Or.inl ⟨by rfl, ?yq1_6⟩) hHeld ?_
    case yq1_6 => (intro W0 hSw; go_simp; try with_reducible rfl)
    try simp only [Act.put, List.setIfInBounds_toArray, List.set_cons_zero, List.set_cons_succ]
    obtain ⟨⟨_, j1, _, _⟩, jf1, _⟩ := row4 hrow7
    have hset := world_set_cell (cs := [.int .i64 (T.room : Int), .slice A1 n1 c1', .bool T.pf, .int .i64 (T.lives : Int)]) hrow7 1 (.slice A3 (n1 + 1) c3')
    have hA3 : ∀ p, A3 = some p → w2.heap.size < p.block := at_new hat7 (fun q hq => by have := HA1.out q hq; have := HG.out; omega) (by have := HB6.out.size; have := HG.out; omega)
    have hof57 : Off (fun k => k = r ∨ ∃ a, A1 = some a ∧ k = a.block) W5 (W7.setCell ⟨r, 1, none⟩ (.slice A3 (n1 + 1) c3')) := (((Off.of_below HB6.out fun k h1 h2 => by omega).trans (G := fun k => ∃ a, A1 = some a ∧ k = a.block) ⟨hgr7.os, hgr7.tape, hgr7.output, hgr7.size, fun k hk hn => hgr7.block k hk (fun e => by obtain ⟨q, hq, e2⟩ := Option.map_eq_some_iff.1 e.symm; exact hn ⟨q, hq, e2.symm⟩)⟩ fun k h => .inl (.inr h))).set (.inl (.inl rfl)) _
    have hne3 : AtF (fun k => k ≠ r) A3 := fun a ha e => by have := hA3 a ha; have := HAT.out.ltr; omega
    have hownF := own3_set (g := r) (i := 1) HO7.out hne3 (.slice A3 (n1 + 1) c3')
    have hfin := HA5.out.newRow2 hof57 (fun k hk e => by rcases e with e | ⟨a, ha, e⟩; exact HA5.out.rD (e ▸ hk); exact HA5.out.aD a ha (e ▸ hk)) (L' := L1 ++ [(t, f)]) hset.out hownF (fun a ha hD => by have := hA3 a ha; have := HAT.out.low _ hD; omega) (snoc_ents HA5.out (y := (t, f)) (HEN.out.off HO5.out fun k _ hk e => HAT.out.rD (e ▸ hk))) (by rw [List.length_append, HA5.out.len]; rfl)
    have hoffF : Off (fun k => k = r) w2 (W7.setCell ⟨r, 1, none⟩ (.slice A3 (n1 + 1) c3')) := HO5.out.trans hof57 fun k h => by rcases h with h | ⟨a, ha, h⟩; exact .inl h; exact .inr (by have := HA1.out a ha; have := HG.out; omega)
    have HFIN := Lib.hid hfin
    have HOFF := Lib.hid hoffF
    clear hfin hoffF hset hownF hof57 hne3 hrow7 hgr7 hat7 ho7
    refine c_call (S' := (fun W' => RkAt W' D r A3 (n1 + 1) c3' T.room T.pf T.lives (xs1 ++ [.string t, .slice As ns cs, .slice Aw nw cw]) (L1 ++ [(t, f)]) ∧ Off (fun k => k = r) w2 W')) (o := ⟨none, _, _, _, _, _⟩) (by kernel_rfl) (by kernel_rfl) rfl (fun K hK => ?_)
    clear hHeld
    go_simp
    refine hK.out _ _ (⟨HFIN.out, HOFF.out⟩) (fun hHeld => ?_)
    clear hK K
    try simp only [Act.put]
    refine wpAnyH_done (by kernel_rfl) ?_ _
    go_wp2
    go_ret
    refine ⟨by rw [HE.out]; rfl, ⟨RkG D r A3, ?_, ?_⟩, hHeld.2.mono fun k _ hk => (hG k).2 (.inl hk)⟩
    · rw [HT.out, ← HL2.out]
      exact ⟨_, _, _, _, _, hHeld.1, fun _ => Iff.rfl⟩
    · intro k hk
      rcases hk with hk | ⟨a, ha, rfl⟩ | hk
      · exact .inl ((hG k).2 (.inl hk))
      · exact .inr (Nat.le_of_lt (hA3 a ha))
      · exact .inl ((hG k).2 (.inr (.inr hk)))
  | some k =>
    rw [hk] at hf2
    simp only [idxI] at hf2
    obtain ⟨f2, hx2, _⟩ := idx_some hk
    have hk1 : k < n1 := by rw [← H3.out.len]; exact (List.getElem?_eq_some_iff.1 hx2).1
    have hd2 := rdrop_any w3 D r n1 c1' T.room T.lives A1 T.pf xs1 L1 H3.out hn1T k hk1
    have hk0 : (0 : Int) ≤ (k : Int) := by omega
    go_wp2_with fail
    refine hf2.mono ?_
    rintro e w4 ⟨rfl, rfl⟩
    clear hf2
    go_wp2_with fail
    refine hd2.mono ?_
    rintro e w5 ⟨A2, c2, rfl, hat4, hA2, hoff4⟩
    clear hd2
    obtain ⟨n2, hn2⟩ : ∃ n2, n2 = n1 - 1 := ⟨_, rfl⟩
    obtain ⟨L2, hL2⟩ : ∃ L2, L2 = L1.eraseIdx k := ⟨_, rfl⟩
    rw [← hn2, ← hL2] at hat4
    generalize xs1.take (k * 3) ++ xs1.drop ((k + 1) * 3) = xs2 at hat4
    have HL2 := vlt (show L2 = del (del T.L s) t by rw [hL2, del_erase hone1 hx2, HL1.out])
    have HN2 := Lib.hid (show n2 ≤ 1099511627776 by omega)
    have hgw4 : g < w4.heap.size := (Array.getElem?_eq_some_iff.1 HFR3.out).1
    have HFR := Lib.hid (show w5.heap[g]? = some (.cells #[.string s, .slice As ns cs, .slice Aw nw cw] 56 (0, 0)) from (hoff4.block g hgw4 (by have := HAT.out.ltr; have := HG.out; omega)).trans HFR3.out)
    have HOX := Lib.hid (HO3.out.trans hoff4 fun k h => .inl h)
    have HA2 := Lib.hid (show ∀ a, A2 = some a → g + 1 ≤ a.block from fun a ha => by have := hA2 a ha; omega)
    have HAX := Lib.hid hat4
    clear hn2 hL2 hoff4 hA2 hat4 hx2 hk HFR3 HO3 HA1 H3 hk1 hgw4
    have cg0 : w5.cell? ⟨g, 0, none⟩ = some (.string s) := by rw [cell_of_row _ _ _ _ _ _ HFR.out]; rfl
    have fg0 : w5.frozen? ⟨g, 0, none⟩ = false := frozen_of_row _ _ _ _ _ HFR.out
    go_upto_region 16 with fail
    clear cg0 fg0
    have hset0 := world_set_cell (cs := [.string s, .slice As ns cs, .slice Aw nw cw]) HFR.out 0 (.string t)
    have hat5 := HAX.out.off (G := fun k => k = g) ((Off.refl (fun k => k = g) w5).set (i := 0) (.inl rfl) (.string t)) (fun k hk e => by
      subst e
      rcases hk with hk | ⟨a, ha, hk⟩ | hk
      · have := HAT.out.ltr; have := HG.out; omega
      · have := HA2.out a ha; omega
      · have := HAT.out.low _ hk; have := HG.out; omega)
    have hoff5 : Off (fun k => k = r) w2 (w5.setCell ⟨g, 0, none⟩ (.string t)) := HOX.out.set (.inr (by rw [HG.out]; exact Nat.le_refl _)) _
    generalize hw5 : w5.setCell ⟨g, 0, none⟩ (.string t) = W5 at *
    clear hw5
    have hrow5 : W5.heap[g]? = some (.cells #[.string t, .slice As ns cs, .slice Aw nw cw] 56 (0, 0)) := hset0.out
    have hrg5 : W5.rangeAt g 0 [.string t, .slice As ns cs, .slice Aw nw cw] := range_row hrow5
    have hgl5 : g < W5.heap.size := (Array.getElem?_eq_some_iff.1 hrow5).1
    obtain ⟨⟨k0, k1, k2, k3⟩, _⟩ := row4 hat5.row
    have hltr5 := hat5.ltr
    have HA5 := Lib.hid hat5
    have HO5 := Lib.hid hoff5
    have hsz5 : w2.heap.size ≤ W5.heap.size := hoff5.size
    have hw5d : W5.drew.heap.size = W5.heap.size := rfl
    clear hset0 hat5 hoff5 hrow5
    refine c_start (S := (fun W' => W'.cell? ⟨r, 1, none⟩ = some (.slice A2 n2 c2) ∧ W'.rangeAt g 0 [.string t, .slice As ns cs, .slice Aw nw cw])) 10 (by kernel_rfl) (⟨k1,hrg5⟩) (fun hHeld => ?_)
    refine c_take (i := 0) (oi := ⟨(some 50), _, _, _, _, _⟩) (v := ?vq2_0) rfl (by decide) (by kernel_rfl) (by kernel_rfl) (by kernel_rfl) (fun _ _ _ h => h) (Or.inl ⟨by rfl, ?yq2_0⟩) hHeld ?_
    case yq2_0 => (intro W0 hSw; go_simp; try with_reducible rfl)
    try simp only [Act.put, List.setIfInBounds_toArray, List.set_cons_zero, List.set_cons_succ]
    refine c_take (i := 1) (oi := ⟨(some 51), _, _, _, _, _⟩) (v := ?vq2_1) rfl (by decide) (by kernel_rfl) (by kernel_rfl) (by kernel_rfl) (fun _ _ _ h => h) (Or.inl ⟨by rfl, ?yq2_1⟩) hHeld ?_
    case yq2_1 => (intro W0 hSw; go_simp; try with_reducible rfl)
    try simp only [Act.put, List.setIfInBounds_toArray, List.set_cons_zero, List.set_cons_succ]
    refine c_take (i := 2) (oi := ⟨(some 52), _, _, _, _, _⟩) (v := ?vq2_2) rfl (by decide) (by kernel_rfl) (by kernel_rfl) (by kernel_rfl) (fun _ _ _ h => h) (Or.inl ⟨by rfl, ?yq2_2⟩) hHeld ?_
    case yq2_2 => (intro W0 hSw; go_simp; try with_reducible rfl)
    try simp only [Act.put, List.setIfInBounds_toArray, List.set_cons_zero, List.set_cons_succ]
    refine c_take (i := 3) (oi := ⟨(some 53), _, _, _, _, _⟩) (v := ?vq2_3) rfl (by decide) (by kernel_rfl) (by kernel_rfl) (by kernel_rfl) (fun _ _ _ h => h) (Or.inl ⟨by rfl, ?yq2_3⟩) hHeld ?_
    case yq2_3 => (intro W0 hSw; go_simp; try with_reducible rfl)
    try simp only [Act.put, List.setIfInBounds_toArray, List.set_cons_zero, List.set_cons_succ]
    refine c_read (i := 4) (oi := ⟨(some 54), _, _, _, _, _⟩) (v := ?vq2_4) rfl (by decide) (by kernel_rfl) (by kernel_rfl) (by kernel_rfl) (by kernel_rfl) (by kernel_rfl) (fun _ _ _ h => h) (Or.inl ⟨by rfl, ?yq2_4⟩) hHeld ?_
    case yq2_4 => (intro W0 hSw; go_simp; try with_reducible rfl)
    try simp only [Act.put, List.setIfInBounds_toArray, List.set_cons_zero, List.set_cons_succ]
    refine c_read (i := 5) (oi := ⟨(some 55), _, _, _, _, _⟩) (v := _) rfl (by decide) (by kernel_rfl) (by kernel_rfl) (by kernel_rfl) (by kernel_rfl) (by kernel_rfl) (fun _ _ _ h => h) (yieldsIf_load_mid (by rfl) _ _ rfl g 0 rfl [.string t, .slice As ns cs, .slice Aw nw cw] _ (fun W' hW' => hW'.2) (Try.underlying56) (rfl) (by kernel_rfl)) hHeld ?_
    try simp only [Act.put, List.setIfInBounds_toArray, List.set_cons_zero, List.set_cons_succ]
    refine c_step (i := 6) (o := ⟨(some 56), _, _, _, _, _⟩) (by kernel_rfl) rfl (fun K hK => ?_)
    refine step_litF (by rfl) (.tmp 55) rfl (.string t) (.slice As ns cs) (.slice Aw nw cw) (by rfl) ?_
    intro W6 hg6 hb6 _
    have HG6 := Lib.hid (show W6.heap[W5.heap.size]? = some (.cells #[.string t, .slice As ns cs, .slice Aw nw cw] 56 (0, 0)) from hg6)
    have HB6 := Lib.hid (show Below W5.heap.size W5 W6 from ⟨hb6.os, hb6.tape, hb6.output, hb6.size, hb6.block⟩)
    have hown6 := Lib.hid (owns3_keep HA5.out.own (w' := W6) fun k hk _ => HB6.out.block k hk)
    refine hK.out _ _ (⟨(World.cell?_of_block (HB6.out.block r hltr5)).trans k1, fun j v hv => (HB6.out.cell (p := ⟨g, 0 + j, none⟩) hgl5).trans (hrg5 j v hv)⟩) (fun hHeld => ?_)
    clear hK K
    try simp only [Act.put, List.setIfInBounds_toArray, List.set_cons_zero, List.set_cons_succ]
    refine c_step (i := 7) (o := ⟨(some 57), _, _, _, _, _⟩) (by kernel_rfl) rfl (fun K hK => ?_)
    refine step_append_row W6 rfl (.tmp 54) (.tmp 56) 29 rfl 56 Try.underlying29 z 3 64 hI hz3 (by decide) (by decide) A2 n2 c2 xs2 (by rfl) hown6.out (some ⟨W5.heap.size, 0, none⟩) 1 1 (by rfl) [.string t, .slice As ns cs, .slice Aw nw cw] (fun _ => ⟨_, rfl, fun j u hj => by rw [addr_add, Nat.zero_add, cell_of_row _ _ _ _ _ _ HG6.out]; simpa using hj⟩) (by simp [Value.oneCell']) rfl (by have := HN2.out; omega) ?_
    intro A3 c3' W7 ho7 hgr7 hat7 _ _
    have HO7 := Lib.hid ho7
    have hrow7 : W7.heap[r]? = some (.cells #[.int .i64 (T.room : Int), .slice A2 n2 c2, .bool T.pf, .int .i64 (T.lives : Int)] 31 (0, 0)) := (hgr7.block r (Nat.lt_of_lt_of_le hltr5 HB6.out.size) (fun e => by obtain ⟨q, hq, e2⟩ := Option.map_eq_some_iff.1 e.symm; exact owns3_ne HA5.out.own HA5.out.row (by decide) q hq e2)).trans ((HB6.out.block r hltr5).trans HA5.out.row)
    refine hK.out _ _ (⟨(row4 hrow7).1.2.1, fun j v hv => (World.cell?_of_block (hgr7.block g (Nat.lt_of_lt_of_le hgl5 HB6.out.size) (fun e => by obtain ⟨q, hq, e2⟩ := Option.map_eq_some_iff.1 e.symm; have := HA2.out q hq; omega))).trans ((HB6.out.cell (p := ⟨g, 0 + j, none⟩) hgl5).trans (hrg5 j v hv))⟩) (fun hHeld => ?_)
    clear hK K
    try simp only [Act.put, List.setIfInBounds_toArray, List.set_cons_zero, List.set_cons_succ]
    refine c_take (i := 8) (oi := ⟨(some 58), _, _, _, _, _⟩) (v := ?vq2_5) rfl (by decide) (by kernel_rfl) (by kernel_rfl) (by kernel_rfl) (fun _ _ _ h => h) (Or.inl ⟨by rfl, ?yq2_5⟩) hHeld ?_
    case yq2_5 => (intro W0 hSw; go_simp; try with_reducible rfl)
    try simp only [Act.put, List.setIfInBounds_toArray, List.set_cons_zero, List.set_cons_succ]
    refine c_take (i := 9) (oi := ⟨(some 59), _, _, _, _, _⟩) (v := ?vq2_6) rfl (by decide) (by kernel_rfl) (by kernel_rfl) (by kernel_rfl) (fun _ _ _ h => h) (Or.inl ⟨by rfl, ?yq2_6⟩) hHeld ?_
    case yq2_6 => (intro W0 hSw; go_simp; try with_reducible rfl)
    try simp only [Act.put, List.setIfInBounds_toArray, List.set_cons_zero, List.set_cons_succ]
    obtain ⟨⟨_, j1, _, _⟩, jf1, _⟩ := row4 hrow7
    have hset := world_set_cell (cs := [.int .i64 (T.room : Int), .slice A2 n2 c2, .bool T.pf, .int .i64 (T.lives : Int)]) hrow7 1 (.slice A3 (n2 + 1) c3')
    have hA3 : ∀ p, A3 = some p → w2.heap.size < p.block := at_new hat7 (fun q hq => by have := HA2.out q hq; have := HG.out; omega) (by have := HB6.out.size; have := HG.out; omega)
    have hof57 : Off (fun k => k = r ∨ ∃ a, A2 = some a ∧ k = a.block) W5 (W7.setCell ⟨r, 1, none⟩ (.slice A3 (n2 + 1) c3')) := (((Off.of_below HB6.out fun k h1 h2 => by omega).trans (G := fun k => ∃ a, A2 = some a ∧ k = a.block) ⟨hgr7.os, hgr7.tape, hgr7.output, hgr7.size, fun k hk hn => hgr7.block k hk (fun e => by obtain ⟨q, hq, e2⟩ := Option.map_eq_some_iff.1 e.symm; exact hn ⟨q, hq, e2.symm⟩)⟩ fun k h => .inl (.inr h))).set (.inl (.inl rfl)) _
    have hne3 : AtF (fun k => k ≠ r) A3 := fun a ha e => by have := hA3 a ha; have := HAT.out.ltr; omega
    have hownF := own3_set (g := r) (i := 1) HO7.out hne3 (.slice A3 (n2 + 1) c3')
    have hfin := HA5.out.newRow2 hof57 (fun k hk e => by rcases e with e | ⟨a, ha, e⟩; exact HA5.out.rD (e ▸ hk); exact HA5.out.aD a ha (e ▸ hk)) (L' := L2 ++ [(t, f)]) hset.out hownF (fun a ha hD => by have := hA3 a ha; have := HAT.out.low _ hD; omega) (snoc_ents HA5.out (y := (t, f)) (HEN.out.off HO5.out fun k _ hk e => HAT.out.rD (e ▸ hk))) (by rw [List.length_append, HA5.out.len]; rfl)
    have hoffF : Off (fun k => k = r) w2 (W7.setCell ⟨r, 1, none⟩ (.slice A3 (n2 + 1) c3')) := HO5.out.trans hof57 fun k h => by rcases h with h | ⟨a, ha, h⟩; exact .inl h; exact .inr (by have := HA2.out a ha; have := HG.out; omega)
    have HFIN := Lib.hid hfin
    have HOFF := Lib.hid hoffF
    clear hfin hoffF hset hownF hof57 hne3 hrow7 hgr7 hat7 ho7
    refine c_call (S' := (fun W' => RkAt W' D r A3 (n2 + 1) c3' T.room T.pf T.lives (xs2 ++ [.string t, .slice As ns cs, .slice Aw nw cw]) (L2 ++ [(t, f)]) ∧ Off (fun k => k = r) w2 W')) (o := ⟨none, _, _, _, _, _⟩) (by kernel_rfl) (by kernel_rfl) rfl (fun K hK => ?_)
    clear hHeld
    go_simp
    refine hK.out _ _ (⟨HFIN.out, HOFF.out⟩) (fun hHeld => ?_)
    clear hK K
    try simp only [Act.put]
    refine wpAnyH_done (by kernel_rfl) ?_ _
    go_wp2
    go_ret
    refine ⟨by rw [HE.out]; rfl, ⟨RkG D r A3, ?_, ?_⟩, hHeld.2.mono fun k _ hk => (hG k).2 (.inl hk)⟩
    · rw [HT.out, ← HL2.out]
      exact ⟨_, _, _, _, _, hHeld.1, fun _ => Iff.rfl⟩
    · intro k hk
      rcases hk with hk | ⟨a, ha, rfl⟩ | hk
      · exact .inl ((hG k).2 (.inl hk))
      · exact .inr (Nat.le_of_lt (hA3 a ha))
      · exact .inl ((hG k).2 (.inr (.inr hk)))

end Go.Proofs.Ytnpaodhcaeofnaa
