/-
  append onto a row that an object owns: where the new row lies. No statement is proved here. Conditions: lengths up to 2^47.
-/
import Derived.Test.YtnpaodhcaeofnaaSrc
import Derived.Test.YtnpaodhcaeofnaaFoot
namespace Go.Proofs.Ytnpaodhcaeofnaa
open Go.RowKit

/-- Numbers of type int as the cells of a row. -/
def iv (l : List Nat) : List Value := l.map fun (x : Nat) => Value.int .i64 (x : Int)
theorem iv_len (l : List Nat) : (iv l).length = l.length := by simp [iv]
theorem iv_app (l m : List Nat) : iv (l ++ m) = iv l ++ iv m := by simp [iv]
theorem iv_at (l : List Nat) (k : Nat) : (iv l)[k]? = l[k]?.map fun (x : Nat) => Value.int .i64 (x : Int) := by simp [iv]
theorem iv_set (l : List Nat) (k x : Nat) : (iv l).set k (.int .i64 (x : Int)) = iv (l.set k x) := by simp [iv, List.map_set]
theorem iv_one (l : List Nat) : ∀ u ∈ iv l, u.oneCell' = true := by
  intro u hu
  obtain ⟨b, _, rfl⟩ := List.mem_map.1 hu
  rfl

/-- The row of a slice lies in K. -/
def AtF (K : Nat → Prop) (A : Option Addr) : Prop := ∀ a, A = some a → K a.block
theorem AtF.none_ (K : Nat → Prop) : AtF K none := fun _ h => by cases h
theorem AtF.mono {K G : Nat → Prop} {A : Option Addr} (h : AtF K A) (hG : ∀ i, K i → G i) : AtF G A := fun a ha => hG _ (h a ha)

/-- append(own, news..): the row is the old one or a new one. -/
theorem append_at {P : Program} (w : World) {t ty e : TypeId} {z : Value} {bytes : Nat} (ht : P.underlying t = some (.slice e)) (hI : (P.info? e).map (fun i => (i.zero, i.size, i.bytes)) = some (some z, 1, bytes)) (hz : z.cells.size = 1)
    {A : Option Addr} {n c : Nat} {xs : List Value} (hown : w.ownsRow 0 e 1 (.slice A n c) n xs) (a : Addr) (m c2 : Nat) (news : List Value) (hl : news.length = m) (hnews : ∀ j u, news[j]? = some u → w.cell? (a.add j) = some u) (h1 : ∀ u ∈ news, u.oneCell' = true)
    (hsz : (n + m) * 8 ≤ 140737488355328) (hby : bytes ≤ 8) :
    ∃ A' c' w', (Builtin.append_ #[t, t] ty #[.slice A n c, .slice (some a) m c2]).run P w = .ok (.slice A' (n + m) c') w' ∧ w'.ownsRow 0 e 1 (.slice A' (n + m) c') (n + m) (xs ++ news) ∧ w.grownBy w' ((A.map (·.block))) ∧
      (∀ p, A' = some p → (∃ q, A = some q ∧ p.block = q.block) ∨ w.heap.size ≤ p.block) := by
  obtain ⟨i, hi, hz1, hz2, hz3⟩ := info_parts hI
  have hmx : n + m ≤ maxLen := by unfold maxLen; omega
  have hby2 : (n + m) * bytes ≤ 140737488355328 := Nat.le_trans (Nat.mul_le_mul_left _ hby) hsz
  obtain ⟨v', w', hrun, hown', hgr, _⟩ := run_append_own (P := P) w 0 t ty e i z 1 bytes ht hi hz1 hz2 hz3 hz (by decide) _ n xs hown a m c2 news (by omega) hnews h1 hmx hby2 (Nat.zero_le _)
  have hv : ∃ A' c', v' = .slice A' (n + m) c' := by
    rcases hown'.2 with ⟨rfl, h0⟩ | ⟨g, cap, cur, rfl, _⟩
    · exact ⟨none, 0, by rw [h0]⟩
    · exact ⟨_, _, rfl⟩
  obtain ⟨A', c', rfl⟩ := hv
  have hgr2 : w.grownBy w' (A.map (·.block)) := by cases A <;> exact hgr
  refine ⟨A', c', w', hrun, hown', hgr2, fun p hp => ?_⟩
  subst hp
  rcases hown.2 with ⟨hv, h0⟩ | ⟨g, cap, cur, hv, _, hg, hle, hcm, hcs, htk⟩
  · obtain ⟨v2, w2, hrun2, hown2, _, _⟩ := run_append_own (P := P) w w.heap.size t ty e i z 1 bytes ht hi hz1 hz2 hz3 hz (by decide) _ n xs (⟨hown.1, .inl ⟨hv, h0⟩⟩ : w.ownsRow w.heap.size e 1 (.slice A n c) n xs) a m c2 news (by omega) hnews h1 hmx hby2 (Nat.le_refl _)
    rw [hrun] at hrun2
    injection hrun2 with e1 e2
    subst e1 e2
    rcases hown2.2 with ⟨h, _⟩ | ⟨g, _, _, h, hb, _⟩
    · simp at h
    · simp only [Value.slice.injEq, Option.some.injEq] at h
      right; rw [h.1]; exact hb
  · simp only [Value.slice.injEq] at hv
    obtain ⟨rfl, _, rfl⟩ := hv
    by_cases hroom : n + m ≤ c
    · have hr := run_append_room (P := P) w t ty e i ht hi g n c cur hg a m c2 news (by rw [hz2]; omega) hnews h1 hroom (by rw [hz2]; omega)
      rw [hrun] at hr
      injection hr with e1 _
      simp only [Value.slice.injEq, Option.some.injEq] at e1
      left; exact ⟨_, rfl, by rw [e1.1]⟩
    · have hr := run_append_grow (P := P) w t ty e i z ht hi hz1 ⟨g, 0, none⟩ n c xs (by rw [hz2]; exact hown.1) (hown.cells (g := g) rfl) a m c2 news (by rw [hz2]; omega) hnews (by omega) (by omega) (growslice_fits (by omega) (by rw [hz3]; exact hby2))
      rw [hrun] at hr
      injection hr with e1 _
      simp only [Value.slice.injEq, Option.some.injEq] at e1
      right; rw [e1.1]; exact Nat.le_refl _

theorem wp_append_at {P : Program} (w : World) {ops : Array Oper} {rest : List Oper} {o : Oper} {a : Act} {Q : Exit → Act → World → Prop} (hgd : o.guard = none) (s x : Operand) (T : TypeId)
    (ho : o.op = .call { callee := .builtin .append, args := #[s, x], argTypes := #[T, T] }) (E : TypeId) (hT : P.underlying T = some (.slice E)) (z : Value) (bytes : Nat)
    (hI : (P.info? E).map (fun i => (i.zero, i.size, i.bytes)) = some (some z, 1, bytes)) (hz : z.cells.size = 1) (hby : bytes ≤ 8) (A : Option Addr) (n c : Nat) (xs : List Value) (hs : a.eval s = .slice A n c) (hown : w.ownsRow 0 E 1 (.slice A n c) n xs)
    (D : Option Addr) (m c2 : Nat) (hx : a.eval x = .slice D m c2) (news : List Value) (hsrc : news ≠ [] → ∃ d, D = some d ∧ ∀ j u, news[j]? = some u → w.cell? (d.add j) = some u) (h1 : ∀ u ∈ news, u.oneCell' = true) (hl : news.length = m) (hsz : (n + m) * 8 ≤ 140737488355328)
    (h : ∀ A' c' w', w'.ownsRow 0 E 1 (.slice A' (n + m) c') (n + m) (xs ++ news) → w.grownBy w' (A.map (·.block)) → (∀ p, A' = some p → (∃ q, A = some q ∧ p.block = q.block) ∨ w.heap.size ≤ p.block) → wpList P ops Q rest (a.put o.dst (.slice A' (n + m) c')) w') : wpList P ops Q (o :: rest) a w := by
  refine wpList_plain hgd fun K hK => ?_
  cases D with
  | some d =>
    have hnews : ∀ j u, news[j]? = some u → w.cell? (d.add j) = some u := fun j u hj => by
      obtain ⟨d', hd, hc⟩ := hsrc (by intro e; subst e; simp at hj)
      injection hd with hd
      subst hd
      exact hc j u hj
    obtain ⟨A', c', w', hrun, h2, h3, h4⟩ := append_at (P := P) (ty := o.type) w hT hI hz hown d m c2 news hl hnews h1 hsz hby
    unfold Oper.wp
    simp only [execOp, ho, resolve, invoke, builtin, Sem.run_bind, Sem.run_pure, Result.andThen_ok, List.map_toArray, List.map_cons, List.map_nil, hs, hx, hrun]
    exact hK _ _ (h A' c' w' h2 h3 h4)
  | none =>
    have hn : news = [] := by
      rcases Classical.em (news = []) with h | h
      · exact h
      · obtain ⟨_, h, _⟩ := hsrc h; cases h
    subst hn
    subst hl
    obtain ⟨i, hi, _⟩ := info_parts hI
    have hrun := append_nothing (P := P) (ty := o.type) (c := c2) w hT hi hown
    unfold Oper.wp
    simp only [execOp, ho, resolve, invoke, builtin, Sem.run_bind, Sem.run_pure, Result.andThen_ok, List.map_toArray, List.map_cons, List.map_nil, hs, hx, List.length_nil, hrun]
    refine hK _ _ ?_
    have h2 := h A c w (by simpa using hown) ⟨rfl, rfl, rfl, Nat.le_refl _, fun _ _ _ => rfl⟩ (fun p hp => .inl ⟨p, hp, rfl⟩)
    simpa using h2
end Go.Proofs.Ytnpaodhcaeofnaa
