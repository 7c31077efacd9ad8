/-
  Contract of law 18's things: a table as the document's own. No statement is proved here. Conditions: at most sixty things.
-/
import Derived.Test.YtknmccpoheekmaaKnP
import Derived.Test.YtknmccpoheekmaaKnW
import Derived.Test.YtknmccpoheekmaaMix
namespace Go.Proofs.Ytknmccpoheekmaa
open Go.RowKit

theorem step_append_run {P : Program} {w : World} {ops : Array Oper} {o : Oper} {a : Act} {K : Act → World → Prop} {Q : Exit → Act → World → Prop} {E' : Prop} (hgd : o.guard = none) (s x : Operand) (T : TypeId)
    (ho : o.op = .call { callee := .builtin .append, args := #[s, x], argTypes := #[T, T] }) (vs vx : Value) (hs : a.eval s = vs) (hx : a.eval x = vx) (v' : Value) (w' : World) (hr : (Builtin.append_ #[T, T] o.type #[vs, vx]).run P w = .ok v' w') (h : K (a.put o.dst v') w') :
    if Region.wanted o (yielded ops a.tmps) = true then Oper.wp P o a w K Q else E' := by
  have hw : Region.wanted o (yielded ops a.tmps) = true := by simp [Region.wanted, hgd]
  rw [if_pos hw]
  unfold Oper.wp
  simp only [execOp, ho, resolve, invoke, builtin, Sem.run_bind, Sem.run_pure, Result.andThen_ok, List.map_toArray, List.map_cons, List.map_nil, hs, hx, hr]
  exact h
/-- Things of one's own, the document's. -/
def Rto (w : World) (B : Nat) (A : Option Addr) (n c : Nat) (l : List Th) : Prop :=
  w.ownsRow 0 54 4 (.slice A n c) n (flatT l) ∧ ∀ p, A = some p → B ≤ p.block
theorem rth_info : (Try.prog.info? 54).map (fun i => (i.zero, i.size, i.bytes)) = some (some (.agg #[.int .i64 0, .int .i64 0, .int .i64 0, .int .i64 0]), 4, 32) := by kernel_rfl
theorem Rto.len {w : World} {B n c : Nat} {A : Option Addr} {l : List Th} (h : Rto w B A n c l) : l.length = n := by
  have := h.1.1
  rw [flatT_len] at this
  omega
theorem Rto.thp {w : World} {B n c : Nat} {A : Option Addr} {l : List Th} (h : Rto w B A n c l) : ThP w w.heap.size A l := by
  have hl := h.len
  rcases h.1.2 with ⟨h1, h2⟩ | ⟨g, cap, cur, h1, _, hg, _, _, _, ht⟩
  · exact .inl (List.eq_nil_of_length_eq_zero (by omega))
  · simp only [Value.slice.injEq] at h1
    have hat : ∀ i x, l[i]? = some x → ∀ j v, x.cells[j]? = some v → w.cell? ⟨g, 0 + i * 4 + j, none⟩ = some v := fun i x hx j v hj => by
      rw [cell_of_row _ _ _ _ _ _ hg, Nat.zero_add]
      have e := flatT_at hx hj
      rw [← ht, List.getElem?_take] at e
      split at e
      · simpa using e
      · cases e
    exact .inr ⟨g, 0, h1.1, (Array.getElem?_eq_some_iff.1 hg).1, fun i x hx => ⟨hat i x hx 0 _ rfl, hat i x hx 1 _ rfl, hat i x hx 2 _ rfl, hat i x hx 3 _ rfl⟩⟩
theorem Rto.alloc {w : World} {B n c : Nat} {A : Option Addr} {l : List Th} (h : Rto w B A n c l) (o : Obj) : Rto (w.alloc o) B A n c l := ⟨h.1.alloc o, h.2⟩
theorem rto_app {w : World} {B n c : Nat} {A : Option Addr} {l : List Th} (h : Rto w B A n c l) (hB : B ≤ w.heap.size) {A2 : Option Addr} {m : Nat} (c2 : Nat) {l2 : List Th} (h2 : ThP w w.heap.size A2 l2) (hl : l2.length = m) (hn : n + m ≤ 1048576) :
    ∃ A' c' w', (Builtin.append_ #[33, 33] 33 #[.slice A n c, .slice A2 m c2]).run Try.prog w = .ok (.slice A' (n + m) c') w' ∧ Rto w' B A' (n + m) c' (l ++ l2) ∧ Below B w w' := by
  cases A2 with
  | none =>
    have hn0 : l2 = [] := by
      rcases h2 with h | ⟨_, _, h, _⟩
      · exact h
      · cases h
    subst hn0
    obtain rfl : m = 0 := by simpa using hl.symm
    obtain ⟨i, hi, _⟩ := info_parts rth_info
    have hrun := append_nothing (P := Try.prog) (ty := 33) (c := c2) w Try.underlying33 hi h.1
    exact ⟨A, c, w, hrun, by rw [List.append_nil]; exact h, Below.refl _ _⟩
  | some p =>
    have hc : ∀ j u, (flatT l2)[j]? = some u → w.cell? (p.add j) = some u := fun j u hj => by
      rcases h2 with rfl | ⟨g, o, hA, _, hc⟩
      · simp [flatT] at hj
      · cases hA
        have hj4 := (List.getElem?_eq_some_iff.1 hj).1
        rw [flatT_len] at hj4
        have hq : j / 4 < l2.length := by omega
        have hx := hc (j / 4) _ (List.getElem?_eq_getElem hq)
        have e : ∀ k v, l2[j / 4].cells[k]? = some v → j = j / 4 * 4 + k → u = v := fun k v hk hjk => by
          have := flatT_at (List.getElem?_eq_getElem hq) hk
          rw [← hjk, hj] at this
          injection this
        rw [Addr.add_lit]
        rcases (show j % 4 = 0 ∨ j % 4 = 1 ∨ j % 4 = 2 ∨ j % 4 = 3 by omega) with h4 | h4 | h4 | h4
        · rw [e 0 _ rfl (by omega), show o + j = o + j / 4 * 4 by omega]; exact hx.1
        · rw [e 1 _ rfl (by omega), show o + j = o + j / 4 * 4 + 1 by omega]; exact hx.2.1
        · rw [e 2 _ rfl (by omega), show o + j = o + j / 4 * 4 + 2 by omega]; exact hx.2.2.1
        · rw [e 3 _ rfl (by omega), show o + j = o + j / 4 * 4 + 3 by omega]; exact hx.2.2.2
    obtain ⟨A', c', w2, hrun, hown2, hgr, hpl, h5⟩ := append_big (P := Try.prog) (ty := 33) _ Try.underlying33 rth_info rfl (by omega) h.1 p m c2 (flatT l2) (by rw [flatT_len, hl]) hc (flatT_one l2) (by omega) (by omega)
    have hoff : Off (fun i => ∃ q, A = some q ∧ q.block = i) w w2 := ⟨hgr.os, hgr.tape, hgr.output, hgr.size, fun i hi hn => hgr.block i hi fun e => by
      obtain ⟨q, hq, he⟩ := Option.map_eq_some_iff.1 e.symm
      exact hn ⟨q, hq, he⟩⟩
    refine ⟨A', c', w2, hrun, ⟨by rw [flatT_app]; exact hown2, fun p hp => ?_⟩, hoff.below (Below.refl _ _) (fun i hi => ?_) hB⟩
    · rcases hpl p hp with ⟨q, hq, he⟩ | hge
      · rw [he]; exact h.2 q hq
      · omega
    · obtain ⟨q, hq, rfl⟩ := hi
      exact h.2 q hq
theorem Rto.nil (w : World) (B : Nat) : Rto w B none 0 0 [] := ⟨World.ownsRow_nil _ _ _ _, fun p h => by cases h⟩
theorem rto_push {w : World} {B n c : Nat} {A : Option Addr} {l : List Th} (h : Rto w B A n c l) (hB : B ≤ w.heap.size) (hn : n ≤ 1048575) (x : Th) :
    ∃ A' c' w', (Builtin.append_ #[33, 33] 33 #[.slice A n c, .slice (some ⟨w.heap.size, 0, none⟩) 1 1]).run Try.prog (w.alloc (.cells x.cells.toArray 54)) = .ok (.slice A' (n + 1) c') w' ∧ Rto w' B A' (n + 1) c' (l ++ [x]) ∧ Below B w w' := by
  have hbw : Below B w (w.alloc (.cells x.cells.toArray 54)) := (Below.refl _ _).alloc hB _
  have hp : ThP (w.alloc (.cells x.cells.toArray 54)) (w.alloc (.cells x.cells.toArray 54)).heap.size (some ⟨w.heap.size, 0, none⟩) [x] := thp_row (l := [x]) (s := []) (T := 54) (Lib.hid (heap_alloc_new w (.cells x.cells.toArray 54)))
  obtain ⟨A', c', w2, h1, h2, h3⟩ := rto_app (m := 1) (h.alloc (.cells x.cells.toArray 54)) (Nat.le_trans hB hbw.size) 1 hp rfl (by omega)
  exact ⟨A', c', w2, h1, h2, hbw.trans h3⟩
theorem built_rth (a b c d : Int) : Try.prog.built 54 [(0, .int .i64 a), (1, .int .i64 b), (2, .int .i64 c), (3, .int .i64 d)] = some (Th.mk a b c d).cells.toArray := by kernel_rfl
set_option maxRecDepth 100000 in
set_option maxHeartbeats 4000000 in
theorem kthings_any {w : World} {A : Option Addr} {t : List Th} {n : Nat} (c : Nat) (ht : ThP w w.heap.size A t) (hl : t.length = n) (hn : n ≤ 60) :
    Calls Try.prog 15 #[.slice A n c] w fun e w' => ∃ A' c', e = .returned (.slice A' n c') ∧ ThP w' w'.heap.size A' t ∧ Below w.heap.size w w' := by
  have HN := Lib.hid hl
  clear hl
  go_enter Try.func15, Try.ntmps15
  go_wp2
  go_loopg [3, 4] n (fun k s3 s4 wr => ∃ (i : Nat) (A : Option Addr) (m c : Nat) (l : List Th), s3 = .slice A m c ∧ s4 = .int .i64 i ∧ n - i < k + 1 ∧ i ≤ n ∧ m = i ∧ Vlt (Rto wr w.heap.size A m c l) ∧ Vlt (l = t.take i) ∧ Below w.heap.size w wr)
  case atStart => exact ⟨0, none, 0, 0, [], rfl, rfl, by omega, Nat.zero_le _, rfl, vlt (Rto.nil _ _), vlt rfl, Below.refl _ _⟩
  case round =>
    obtain ⟨i, A2, m, c3, l, rfl, rfl, hk, hin, hmi, H1, HL, hb⟩ := hrel
    have hm60 : m ≤ 60 := by omega
    by_cases hlt : i < n
    · have hltz : (i : Int) < (n : Int) := by omega
      obtain ⟨g, o2, x, rfl, hg, HX, c0, c1, c2, c4⟩ := ht.at_ (i := i) (by rw [HN.out]; omega)
      have fd0 : ∀ W', Below w.heap.size w W' → W'.cell? ⟨g, o2 + i * 4, none⟩ = some (.int .i64 x.kind) := fun W' h => (h.cell (p := ⟨g, _, none⟩) hg).trans c0
      have fd1 : ∀ W', Below w.heap.size w W' → W'.cell? ⟨g, o2 + i * 4 + 1, none⟩ = some (.int .i64 x.a) := fun W' h => (h.cell (p := ⟨g, _, none⟩) hg).trans c1
      have fd2 : ∀ W', Below w.heap.size w W' → W'.cell? ⟨g, o2 + i * 4 + 2, none⟩ = some (.int .i64 x.b) := fun W' h => (h.cell (p := ⟨g, _, none⟩) hg).trans c2
      have fd3 : ∀ W', Below w.heap.size w W' → W'.cell? ⟨g, o2 + i * 4 + 3, none⟩ = some (.int .i64 x.n) := fun W' h => (h.cell (p := ⟨g, _, none⟩) hg).trans c4
      have htake : Vlt (t.take (i + 1) = t.take i ++ [x]) := vlt (by rw [List.take_add_one, HX.out]; rfl)
      obtain ⟨A', c', w9, hrun, hT9, hb9⟩ := rto_push (w := wr.drew) H1.out hb.size (by omega) x
      have VR := vlt hrun
      have H9 := vlt hT9
      have hb19 : Below w.heap.size w w9 := hb.drew.trans hb9
      have HL2 : Vlt (l ++ [x] = t.take (i + 1)) := vlt (by rw [htake.out, HL.out])
      have hm1 : m + 1 = i + 1 := by omega
      clear hrun hT9 hb9 c0 c1 c2 c4 hmi
      go_upto_region 5 with fail
      refine wp_region_held_drew (S := fun W' => Below w.heap.size w W') (by kernel_rfl) ((hb).drew) (fun hHeld => ?_)
      refine wpAnyH_take (i := 0) (oi := ⟨(some 11), _, _, _, _, _⟩) (v := .slice A2 m c3) rfl (by kernel_rfl) (by kernel_rfl) (by kernel_rfl) (fun _ _ _ h => h) (Or.inl ⟨by rfl, ?yr5_0⟩) hHeld ?_
      case yr5_0 => (intro W0 hSw; go_simp; try with_reducible rfl)
      try simp only [pu]
      refine wpAnyH_take (i := 1) (oi := ⟨(some 12), _, _, _, _, _⟩) (v := .slice (some ⟨g, o2, none⟩) n c) rfl (by kernel_rfl) (by kernel_rfl) (by kernel_rfl) (fun _ _ _ h => h) (Or.inl ⟨by rfl, ?yr5_1⟩) hHeld ?_
      case yr5_1 => (intro W0 hSw; go_simp; try with_reducible rfl)
      try simp only [pu]
      refine wpAnyH_take (i := 2) (oi := ⟨(some 13), _, _, _, _, _⟩) (v := .int .i64 (i : Int)) rfl (by kernel_rfl) (by kernel_rfl) (by kernel_rfl) (fun _ _ _ h => h) (Or.inl ⟨by rfl, ?yr5_2⟩) hHeld ?_
      case yr5_2 => (intro W0 hSw; go_simp; try with_reducible rfl)
      try simp only [pu]
      refine wpAnyH_take (i := 3) (oi := ⟨(some 14), _, _, _, _, _⟩) (v := .pointer (some ⟨g, o2 + i * 4, none⟩)) rfl (by kernel_rfl) (by kernel_rfl) (by kernel_rfl) (fun _ _ _ h => h) (Or.inl ⟨by rfl, ?yr5_3⟩) hHeld ?_
      case yr5_3 => (intro W0 hSw; go_simp; try with_reducible rfl)
      try simp only [pu]
      refine wpAnyH_take (i := 4) (oi := ⟨(some 15), _, _, _, _, _⟩) (v := .pointer (some ⟨g, o2 + i * 4, none⟩)) rfl (by kernel_rfl) (by kernel_rfl) (by kernel_rfl) (fun _ _ _ h => h) (Or.inl ⟨by rfl, ?yr5_4⟩) hHeld ?_
      case yr5_4 => (intro W0 hSw; go_simp; try with_reducible rfl)
      try simp only [pu]
      refine wpAnyH_take (i := 5) (oi := ⟨(some 16), _, _, _, _, _⟩) (v := .int .i64 x.kind) rfl (by kernel_rfl) (by kernel_rfl) (by kernel_rfl) (fun _ _ _ h => h) (Or.inl ⟨by rfl, ?yr5_5⟩) hHeld ?_
      case yr5_5 => (intro W0 hSw; have cc := fd0 _ hSw; go_simp; try with_reducible rfl)
      try simp only [pu]
      refine wpAnyH_take (i := 6) (oi := ⟨(some 17), _, _, _, _, _⟩) (v := .slice (some ⟨g, o2, none⟩) n c) rfl (by kernel_rfl) (by kernel_rfl) (by kernel_rfl) (fun _ _ _ h => h) (Or.inl ⟨by rfl, ?yr5_6⟩) hHeld ?_
      case yr5_6 => (intro W0 hSw; go_simp; try with_reducible rfl)
      try simp only [pu]
      refine wpAnyH_take (i := 7) (oi := ⟨(some 18), _, _, _, _, _⟩) (v := .int .i64 (i : Int)) rfl (by kernel_rfl) (by kernel_rfl) (by kernel_rfl) (fun _ _ _ h => h) (Or.inl ⟨by rfl, ?yr5_7⟩) hHeld ?_
      case yr5_7 => (intro W0 hSw; go_simp; try with_reducible rfl)
      try simp only [pu]
      refine wpAnyH_take (i := 8) (oi := ⟨(some 19), _, _, _, _, _⟩) (v := .pointer (some ⟨g, o2 + i * 4, none⟩)) rfl (by kernel_rfl) (by kernel_rfl) (by kernel_rfl) (fun _ _ _ h => h) (Or.inl ⟨by rfl, ?yr5_8⟩) hHeld ?_
      case yr5_8 => (intro W0 hSw; go_simp; try with_reducible rfl)
      try simp only [pu]
      refine wpAnyH_take (i := 9) (oi := ⟨(some 20), _, _, _, _, _⟩) (v := .pointer (some ⟨g, o2 + i * 4 + 1, none⟩)) rfl (by kernel_rfl) (by kernel_rfl) (by kernel_rfl) (fun _ _ _ h => h) (Or.inl ⟨by rfl, ?yr5_9⟩) hHeld ?_
      case yr5_9 => (intro W0 hSw; go_simp; try with_reducible rfl)
      try simp only [pu]
      refine wpAnyH_take (i := 10) (oi := ⟨(some 21), _, _, _, _, _⟩) (v := .int .i64 x.a) rfl (by kernel_rfl) (by kernel_rfl) (by kernel_rfl) (fun _ _ _ h => h) (Or.inl ⟨by rfl, ?yr5_10⟩) hHeld ?_
      case yr5_10 => (intro W0 hSw; have cc := fd1 _ hSw; go_simp; try with_reducible rfl)
      try simp only [pu]
      refine wpAnyH_take (i := 11) (oi := ⟨(some 22), _, _, _, _, _⟩) (v := .slice (some ⟨g, o2, none⟩) n c) rfl (by kernel_rfl) (by kernel_rfl) (by kernel_rfl) (fun _ _ _ h => h) (Or.inl ⟨by rfl, ?yr5_11⟩) hHeld ?_
      case yr5_11 => (intro W0 hSw; go_simp; try with_reducible rfl)
      try simp only [pu]
      refine wpAnyH_take (i := 12) (oi := ⟨(some 23), _, _, _, _, _⟩) (v := .int .i64 (i : Int)) rfl (by kernel_rfl) (by kernel_rfl) (by kernel_rfl) (fun _ _ _ h => h) (Or.inl ⟨by rfl, ?yr5_12⟩) hHeld ?_
      case yr5_12 => (intro W0 hSw; go_simp; try with_reducible rfl)
      try simp only [pu]
      refine wpAnyH_take (i := 13) (oi := ⟨(some 24), _, _, _, _, _⟩) (v := .pointer (some ⟨g, o2 + i * 4, none⟩)) rfl (by kernel_rfl) (by kernel_rfl) (by kernel_rfl) (fun _ _ _ h => h) (Or.inl ⟨by rfl, ?yr5_13⟩) hHeld ?_
      case yr5_13 => (intro W0 hSw; go_simp; try with_reducible rfl)
      try simp only [pu]
      refine wpAnyH_take (i := 14) (oi := ⟨(some 25), _, _, _, _, _⟩) (v := .pointer (some ⟨g, o2 + i * 4 + 2, none⟩)) rfl (by kernel_rfl) (by kernel_rfl) (by kernel_rfl) (fun _ _ _ h => h) (Or.inl ⟨by rfl, ?yr5_14⟩) hHeld ?_
      case yr5_14 => (intro W0 hSw; go_simp; try with_reducible rfl)
      try simp only [pu]
      refine wpAnyH_take (i := 15) (oi := ⟨(some 26), _, _, _, _, _⟩) (v := .int .i64 x.b) rfl (by kernel_rfl) (by kernel_rfl) (by kernel_rfl) (fun _ _ _ h => h) (Or.inl ⟨by rfl, ?yr5_15⟩) hHeld ?_
      case yr5_15 => (intro W0 hSw; have cc := fd2 _ hSw; go_simp; try with_reducible rfl)
      try simp only [pu]
      refine wpAnyH_take (i := 16) (oi := ⟨(some 27), _, _, _, _, _⟩) (v := .slice (some ⟨g, o2, none⟩) n c) rfl (by kernel_rfl) (by kernel_rfl) (by kernel_rfl) (fun _ _ _ h => h) (Or.inl ⟨by rfl, ?yr5_16⟩) hHeld ?_
      case yr5_16 => (intro W0 hSw; go_simp; try with_reducible rfl)
      try simp only [pu]
      refine wpAnyH_take (i := 17) (oi := ⟨(some 28), _, _, _, _, _⟩) (v := .int .i64 (i : Int)) rfl (by kernel_rfl) (by kernel_rfl) (by kernel_rfl) (fun _ _ _ h => h) (Or.inl ⟨by rfl, ?yr5_17⟩) hHeld ?_
      case yr5_17 => (intro W0 hSw; go_simp; try with_reducible rfl)
      try simp only [pu]
      refine wpAnyH_take (i := 18) (oi := ⟨(some 29), _, _, _, _, _⟩) (v := .pointer (some ⟨g, o2 + i * 4, none⟩)) rfl (by kernel_rfl) (by kernel_rfl) (by kernel_rfl) (fun _ _ _ h => h) (Or.inl ⟨by rfl, ?yr5_18⟩) hHeld ?_
      case yr5_18 => (intro W0 hSw; go_simp; try with_reducible rfl)
      try simp only [pu]
      refine wpAnyH_take (i := 19) (oi := ⟨(some 30), _, _, _, _, _⟩) (v := .pointer (some ⟨g, o2 + i * 4 + 3, none⟩)) rfl (by kernel_rfl) (by kernel_rfl) (by kernel_rfl) (fun _ _ _ h => h) (Or.inl ⟨by rfl, ?yr5_19⟩) hHeld ?_
      case yr5_19 => (intro W0 hSw; go_simp; try with_reducible rfl)
      try simp only [pu]
      refine wpAnyH_take (i := 20) (oi := ⟨(some 31), _, _, _, _, _⟩) (v := .int .i64 x.n) rfl (by kernel_rfl) (by kernel_rfl) (by kernel_rfl) (fun _ _ _ h => h) (Or.inl ⟨by rfl, ?yr5_20⟩) hHeld ?_
      case yr5_20 => (intro W0 hSw; have cc := fd3 _ hSw; go_simp; try with_reducible rfl)
      try simp only [pu]
      refine wpAnyH_take (i := 21) (oi := ⟨(some 32), _, _, _, _, _⟩) (v := .agg x.cells.toArray) rfl (by kernel_rfl) (by kernel_rfl) (by kernel_rfl) (fun _ _ _ h => h) (yields_build (by rfl) _ _ rfl [(0, .int .i64 x.kind), (1, .int .i64 x.a), (2, .int .i64 x.b), (3, .int .i64 x.n)] (by rfl) _ (built_rth _ _ _ _)) hHeld ?_
      try simp only [pu]
      refine wpAnyH_ready (rs := [22]) (by kernel_rfl) (by simp) ?_
      refine AllReadyH.cons (i := 22) (o := ⟨(some 33), _, _, _, _, _⟩) rfl (fun K hK => ?_) AllReadyH.nil
      have hzb : Below w.heap.size w (wr.drew.alloc (.cells x.cells.toArray 54)) := (hb.drew).alloc hb.size _
      go_simp
      refine hK.out _ _ hzb (fun hHeld => ?_)
      clear hK K
      try simp only [pu]
      refine wpAnyH_ready (rs := [23]) (by kernel_rfl) (by simp) ?_
      refine AllReadyH.cons (i := 23) (o := ⟨(some 34), _, _, _, _, _⟩) rfl (fun K hK => ?_) AllReadyH.nil
      refine step_append_run rfl (.tmp 11) (.tmp 33) 33 rfl _ _ rfl rfl _ _ VR.out ?_
      refine hK.out _ _ hb19 (fun hHeld => ?_)
      clear hK K
      try simp only [pu]
      refine wpAnyH_take (i := 24) (oi := ⟨(some 3), _, _, _, _, _⟩) (v := .slice A' (m + 1) c') rfl (by kernel_rfl) (by kernel_rfl) (by kernel_rfl) (fun _ _ _ h => h) (Or.inl ⟨by rfl, ?ylast⟩) hHeld ?_
      case ylast => (intro W0 hSw; go_simp; try with_reducible rfl)
      try simp only [pu]
      refine wpAnyH_done (by kernel_rfl) ?_ _
      go_wp2
      go_roundg (n - (i + 1))
      case measure => omega
      case rel => exact ⟨i + 1, A', m + 1, c', _, by go_num, by go_num, by omega, by omega, hm1, H9, HL2, hb19⟩
    · have hltz : ¬ (i : Int) < (n : Int) := by omega
      have HE : Vlt (l = t) := vlt (by rw [HL.out, List.take_of_length_le (by rw [HN.out]; omega)])
      have hI := H1.out.thp
      rw [HE.out] at hI
      have hmn : m = n := by omega
      subst hmn
      go_wp2
      go_ret
      exact ⟨A2, ⟨c3, rfl⟩, hI, hb⟩
end Go.Proofs.Ytknmccpoheekmaa
