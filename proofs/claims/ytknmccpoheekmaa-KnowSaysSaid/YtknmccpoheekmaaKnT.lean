/-
  Contract of slices.Index at things. No statement is proved here. Conditions: it is there; fewer than 2^48 of them.
-/
import Derived.Test.YtknmccpoheekmaaKnM
import Derived.Test.YtknmccpoheekmaaReg
import Derived.Test.YtknmccpoheekmaaRng
namespace Go.Proofs.Ytknmccpoheekmaa
open Go.RowKit

theorem kq_step {P : Program} (w : World) (d : Nat) (xs ys : Array Value) (T : TypeId) (off : Nat) {n1 n2 n3 : String} {em : Bool} {bo : Nat} (fs : List Field) (a b : Value) (r : Bool) (hn : n1 ≠ "_") (ha : (part T xs off).run P w = .ok a w) (hb : (part T ys off).run P w = .ok b w) (hr : (Op.equalIn d T a b).run P w = .ok r w) :
    (Op.eqFields d xs ys (⟨n1, T, off, em, n2, n3, bo⟩ :: fs)).run P w = if r = true then (Op.eqFields d xs ys fs).run P w else .ok false w := by
  simp only [Op.eqFields, if_pos hn, Sem.run_bind, ha, hb, hr, Result.andThen_ok]
  cases r <;> simp
theorem kq_end {P : Program} (w : World) (d : Nat) (xs ys : Array Value) : (Op.eqFields d xs ys []).run P w = .ok true w := rfl
theorem kq_part {P : Program} {t : TypeId} {D : TypeDesc} (ht : P.underlying t = some D) (hD : (match D with | .struct _ | .array _ _ => true | _ => false) = false) (cs : Array Value) (off : Nat) (v : Value) (h : cs[off]? = some v) (w : World) : (part t cs off).run P w = .ok v w := by
  cases D <;> simp_all [part, isAgg, run_underlying ht]
set_option maxRecDepth 100000 in
theorem eq_thing {w : World} (x y : Th) (n : Nat) : (Op.equalIn (n + 2) 24 (.agg x.cells.toArray) (.agg y.cells.toArray)).run Try.prog w = .ok (decide (x = y)) w := by
  obtain ⟨a, b, c, d⟩ := x
  obtain ⟨a2, b2, c2, d2⟩ := y
  rw [run_equalIn_struct w (n + 1) 24 _ _ (by kernel_rfl) (by kernel_rfl), Program.fieldsOf]
  simp only [Try.underlying24]
  rw [kq_step w _ _ _ 3 0 _ (.int .i64 a) (.int .i64 a2) (a == a2) (by decide) (kq_part Try.underlying3 rfl _ _ _ rfl w) (kq_part Try.underlying3 rfl _ _ _ rfl w) (run_equalIn_int w n _ .i64 .i64 a a2 Try.underlying3),
    kq_step w _ _ _ 3 1 _ (.int .i64 b) (.int .i64 b2) (b == b2) (by decide) (kq_part Try.underlying3 rfl _ _ _ rfl w) (kq_part Try.underlying3 rfl _ _ _ rfl w) (run_equalIn_int w n _ .i64 .i64 b b2 Try.underlying3),
    kq_step w _ _ _ 3 2 _ (.int .i64 c) (.int .i64 c2) (c == c2) (by decide) (kq_part Try.underlying3 rfl _ _ _ rfl w) (kq_part Try.underlying3 rfl _ _ _ rfl w) (run_equalIn_int w n _ .i64 .i64 c c2 Try.underlying3),
    kq_step w _ _ _ 3 3 _ (.int .i64 d) (.int .i64 d2) (d == d2) (by decide) (kq_part Try.underlying3 rfl _ _ _ rfl w) (kq_part Try.underlying3 rfl _ _ _ rfl w) (run_equalIn_int w n _ .i64 .i64 d d2 Try.underlying3), kq_end]
  by_cases h1 : a = a2 <;> by_cases h2 : b = b2 <;> by_cases h3 : c = c2 <;> by_cases h4 : d = d2 <;> simp [h1, h2, h3, h4]
theorem eql_thing (x y : Th) (o : Bool) (ho : decide (x = y) = o) (w : World) : (binOp .eql 24 (.agg x.cells.toArray) (.agg y.cells.toArray)).run Try.prog w = .ok (.bool o) w := by
  rw [run_eql_struct, eq_thing x y 9998, ho]; rfl
theorem ThP.range {w : World} {B g o : Nat} {t : List Th} (h : ThP w B (some ⟨g, o, none⟩) t) {i : Nat} {x : Th} (hx : t[i]? = some x) : ∀ w', Below B w w' → w'.rangeAt g (o + i * 4) x.cells := by
  rcases h with rfl | ⟨g', o', hA, hg, hc⟩
  · simp at hx
  · injection hA with hA
    injection hA with e1 e2
    subst e1 e2
    obtain ⟨c0, c1, c2, c3⟩ := hc i x hx
    intro w' hb j v hj
    match j, hj with
    | 0, hj => simp only [Th.cells, List.getElem?_cons_zero, Option.some.injEq] at hj; subst hj; exact (hb.cell (p := ⟨g, _, none⟩) hg).trans c0
    | 1, hj => simp only [Th.cells, List.getElem?_cons_succ, List.getElem?_cons_zero, Option.some.injEq] at hj; subst hj; exact (hb.cell (p := ⟨g, _, none⟩) hg).trans c1
    | 2, hj => simp only [Th.cells, List.getElem?_cons_succ, List.getElem?_cons_zero, Option.some.injEq] at hj; subst hj; exact (hb.cell (p := ⟨g, _, none⟩) hg).trans c2
    | 3, hj => simp only [Th.cells, List.getElem?_cons_succ, List.getElem?_cons_zero, Option.some.injEq] at hj; subst hj; exact (hb.cell (p := ⟨g, _, none⟩) hg).trans c3
    | j + 4, hj => simp [Th.cells] at hj
set_option maxRecDepth 100000 in
set_option maxHeartbeats 4000000 in
theorem indexT_any {w : World} {A : Option Addr} {l : List Th} {n : Nat} (c : Nat) (hA : ThP w w.heap.size A l) (hl : l.length = n) (hn : n ≤ 281474976710656) (x : Th) (hx : x ∈ l) :
    Calls Try.prog 28 #[.slice A n c, .agg x.cells.toArray] w fun e w' => e = .returned (.int .i64 ((idx x l : Nat) : Int)) ∧ Below w.heap.size w w' := by
  have HN := Lib.hid hl
  obtain ⟨W, hW, hgE, hbW, hsW⟩ := one_new w x.cells.toArray 24
  have HW := Lib.hid hW
  have hA2 := hA.next hbW
  have hgl := row_size hgE
  obtain ⟨o, ho⟩ : ∃ o, idx x l = o := ⟨_, rfl⟩
  have HI := vlt (idx_at hx)
  rw [ho] at HI ⊢
  have HO := vlt ho
  clear hl ho hW hx
  go_enter Try.func28, Try.ntmps28
  go_upto_region 1 with fail
  rw [HW.out]
  go_wp2
  go_loopg [5, 8] n (fun k s5 s8 wr => ∃ (i : Nat), s8 = .int .i64 i ∧ n - i < k + 1 ∧ i ≤ n ∧ Vlt (∀ q, q < i → l[q]? ≠ some x) ∧ Below W.heap.size W wr)
  case atStart => exact ⟨0, rfl, by omega, Nat.zero_le _, vlt (fun q h => by omega), Below.refl _ _⟩
  case round =>
    obtain ⟨i, rfl, hk, hin, HQ, hb⟩ := hrel
    have hgr := row_next2 hgE hb
    by_cases hlt : i < n
    · have hltz : (i : Int) < (n : Int) := by omega
      obtain ⟨g, o2, y, rfl, hg, HX, c0⟩ := (hA2.below hb).at_ (i := i) (by rw [HN.out]; omega)
      have hR := fun w' (h : Below wr.heap.size wr w') => (hA2.next hb).range HX.out w' h
      clear c0
      by_cases hxy : x = y
      · have VO : Vlt (o = i) := vlt (by rw [← HO.out]; exact idx_is (by rw [hxy]; exact HX.out) HQ.out)
        have q1 := eql_thing x y true (decide_eq_true hxy)
        clear hxy
        go_upto_region 4 with fail
        refine wp_region_held_drew (S := fun W' => Below wr.heap.size wr W') (by kernel_rfl) ((Below.refl _ _).drew) (fun hHeld => ?_)
        refine wpAnyH_take (i := 0) (oi := ⟨(some 11), _, _, _, _, _⟩) (v := .agg x.cells.toArray) rfl (by kernel_rfl) (by kernel_rfl) (by kernel_rfl) (fun _ _ _ h => h) (yieldsIf_load_mid (by rfl) _ _ rfl (w.heap.size) (0) rfl x.cells _ (fun W' hW' => range_row (row_next2 hgr hW').out) (Try.underlying24) rfl (by kernel_rfl)) hHeld ?_
        try simp only [pu]
        refine wpAnyH_take (i := 1) (oi := ⟨(some 12), _, _, _, _, _⟩) (v := .slice (some ⟨g, o2, none⟩) n c) rfl (by kernel_rfl) (by kernel_rfl) (by kernel_rfl) (fun _ _ _ h => h) (Or.inl ⟨by rfl, ?yr4_1⟩) hHeld ?_
        case yr4_1 => (intro W0 hSw; go_simp; try with_reducible rfl)
        try simp only [pu]
        refine wpAnyH_take (i := 2) (oi := ⟨(some 13), _, _, _, _, _⟩) (v := .int .i64 (i : Int)) rfl (by kernel_rfl) (by kernel_rfl) (by kernel_rfl) (fun _ _ _ h => h) (Or.inl ⟨by rfl, ?yr4_2⟩) hHeld ?_
        case yr4_2 => (intro W0 hSw; go_simp; try with_reducible rfl)
        try simp only [pu]
        refine wpAnyH_take (i := 3) (oi := ⟨(some 14), _, _, _, _, _⟩) (v := .pointer (some ⟨g, o2 + i * 4, none⟩)) rfl (by kernel_rfl) (by kernel_rfl) (by kernel_rfl) (fun _ _ _ h => h) (Or.inl ⟨by rfl, ?yr4_3⟩) hHeld ?_
        case yr4_3 => (intro W0 hSw; go_simp; try with_reducible rfl)
        try simp only [pu]
        refine wpAnyH_take (i := 4) (oi := ⟨(some 15), _, _, _, _, _⟩) (v := .agg y.cells.toArray) rfl (by kernel_rfl) (by kernel_rfl) (by kernel_rfl) (fun _ _ _ h => h) (yieldsIf_load_mid (by rfl) _ _ rfl (g) (o2 + i * 4) rfl y.cells _ (fun W' hW' => hR W' hW') (Try.underlying24) rfl (by kernel_rfl)) hHeld ?_
        try simp only [pu]
        refine wpAnyH_take (i := 5) (oi := ⟨(some 16), _, _, _, _, _⟩) (v := .bool true) rfl (by kernel_rfl) (by kernel_rfl) (by kernel_rfl) (fun _ _ _ h => h) (Or.inl ⟨by rfl, ?yr4_5⟩) hHeld ?_
        case yr4_5 => (intro W0 hSw; go_simp; try simp only [q1]; try with_reducible rfl)
        try simp only [pu]
        refine wpAnyH_done (by kernel_rfl) ?_ _
        have hbb := hbW.trans ((hb.mono (Nat.le_refl _)).mono hbW.size)
        have hbb2 := below_next hbb hbb.size hHeld
        go_wp2
        go_ret
        rw [VO.out]
        exact ⟨rfl, hbb2⟩
      · have HQ2 : Vlt (∀ q, q < i + 1 → l[q]? ≠ some x) := vlt (fun q hq => by
          rcases Nat.lt_or_eq_of_le (Nat.le_of_lt_succ hq) with h | rfl
          · exact HQ.out q h
          · rw [HX.out]; intro e; injection e with e; exact hxy e.symm)
        have q1 := eql_thing x y false (decide_eq_false hxy)
        clear hxy
        go_upto_region 4 with fail
        refine wp_region_held_drew (S := fun W' => Below wr.heap.size wr W') (by kernel_rfl) ((Below.refl _ _).drew) (fun hHeld => ?_)
        refine wpAnyH_take (i := 0) (oi := ⟨(some 11), _, _, _, _, _⟩) (v := .agg x.cells.toArray) rfl (by kernel_rfl) (by kernel_rfl) (by kernel_rfl) (fun _ _ _ h => h) (yieldsIf_load_mid (by rfl) _ _ rfl (w.heap.size) (0) rfl x.cells _ (fun W' hW' => range_row (row_next2 hgr hW').out) (Try.underlying24) rfl (by kernel_rfl)) hHeld ?_
        try simp only [pu]
        refine wpAnyH_take (i := 1) (oi := ⟨(some 12), _, _, _, _, _⟩) (v := .slice (some ⟨g, o2, none⟩) n c) rfl (by kernel_rfl) (by kernel_rfl) (by kernel_rfl) (fun _ _ _ h => h) (Or.inl ⟨by rfl, ?yr4_1⟩) hHeld ?_
        case yr4_1 => (intro W0 hSw; go_simp; try with_reducible rfl)
        try simp only [pu]
        refine wpAnyH_take (i := 2) (oi := ⟨(some 13), _, _, _, _, _⟩) (v := .int .i64 (i : Int)) rfl (by kernel_rfl) (by kernel_rfl) (by kernel_rfl) (fun _ _ _ h => h) (Or.inl ⟨by rfl, ?yr4_2⟩) hHeld ?_
        case yr4_2 => (intro W0 hSw; go_simp; try with_reducible rfl)
        try simp only [pu]
        refine wpAnyH_take (i := 3) (oi := ⟨(some 14), _, _, _, _, _⟩) (v := .pointer (some ⟨g, o2 + i * 4, none⟩)) rfl (by kernel_rfl) (by kernel_rfl) (by kernel_rfl) (fun _ _ _ h => h) (Or.inl ⟨by rfl, ?yr4_3⟩) hHeld ?_
        case yr4_3 => (intro W0 hSw; go_simp; try with_reducible rfl)
        try simp only [pu]
        refine wpAnyH_take (i := 4) (oi := ⟨(some 15), _, _, _, _, _⟩) (v := .agg y.cells.toArray) rfl (by kernel_rfl) (by kernel_rfl) (by kernel_rfl) (fun _ _ _ h => h) (yieldsIf_load_mid (by rfl) _ _ rfl (g) (o2 + i * 4) rfl y.cells _ (fun W' hW' => hR W' hW') (Try.underlying24) rfl (by kernel_rfl)) hHeld ?_
        try simp only [pu]
        refine wpAnyH_take (i := 5) (oi := ⟨(some 16), _, _, _, _, _⟩) (v := .bool false) rfl (by kernel_rfl) (by kernel_rfl) (by kernel_rfl) (fun _ _ _ h => h) (Or.inl ⟨by rfl, ?yr4_5⟩) hHeld ?_
        case yr4_5 => (intro W0 hSw; go_simp; try simp only [q1]; try with_reducible rfl)
        try simp only [pu]
        refine wpAnyH_done (by kernel_rfl) ?_ _
        have hb2 := below_next hb hb.size hHeld
        go_wp2
        go_roundg (n - (i + 1))
        case measure => omega
        case rel => exact ⟨i + 1, by go_num, by omega, by omega, HQ2, hb2⟩
    · exfalso
      have h1 := HI.out.1
      have h2 := (List.getElem?_eq_some_iff.1 h1).1
      rw [HN.out] at h2
      exact HQ.out o (by omega) h1
end Go.Proofs.Ytknmccpoheekmaa
