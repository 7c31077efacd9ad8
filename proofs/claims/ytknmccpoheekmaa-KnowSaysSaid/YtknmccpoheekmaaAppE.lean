/-
  append onto rows that an object owns, of elements of any size. No statement is proved here. Conditions: lengths up to 2^38.
-/
import Derived.Test.YtknmccpoheekmaaSrc
import Derived.Test.YtknmccpoheekmaaFoot
import Derived.Test.YtknmccpoheekmaaRegC
namespace Go.Proofs.Ytknmccpoheekmaa
open Go.RowKit

/-- append(own, news..), elements of any size: the row is the old one or a new one. -/
theorem append_big {P : Program} (w : World) {t ty e size bytes : Nat} {z : Value} (ht : P.underlying t = some (.slice e)) (hI : (P.info? e).map (fun i => (i.zero, i.size, i.bytes)) = some (some z, size, bytes)) (hz : z.cells.size = size) (hp : 0 < size)
    {A : Option Addr} {n c : Nat} {xs : List Value} (hown : w.ownsRow 0 e size (.slice A n c) n xs) (a : Addr) (m c2 : Nat) (news : List Value) (hl : news.length = m * size) (hnews : ∀ j u, news[j]? = some u → w.cell? (a.add j) = some u) (h1 : ∀ u ∈ news, u.oneCell' = true)
    (hsz : (n + m) * 256 ≤ 140737488355328) (hby : bytes ≤ 256) :
    ∃ A' c' w', (Builtin.append_ #[t, t] ty #[.slice A n c, .slice (some a) m c2]).run P w = .ok (.slice A' (n + m) c') w' ∧ w'.ownsRow 0 e size (.slice A' (n + m) c') (n + m) (xs ++ news) ∧ w.grownBy w' ((A.map (·.block))) ∧
      (∀ p, A' = some p → (∃ q, A = some q ∧ p.block = q.block) ∨ w.heap.size ≤ p.block) ∧ (c < n + m → A' = some ⟨w.heap.size, 0, none⟩ ∧ Below w.heap.size w w') := by
  obtain ⟨i, hi, hz1, hz2, hz3⟩ := info_parts hI
  have hmx : n + m ≤ maxLen := by unfold maxLen; omega
  have hby2 : (n + m) * bytes ≤ 140737488355328 := Nat.le_trans (Nat.mul_le_mul_left _ hby) hsz
  obtain ⟨v', w', hrun, hown', hgr, _⟩ := run_append_own (P := P) w 0 t ty e i z size bytes ht hi hz1 hz2 hz3 hz hp _ n xs hown a m c2 news hl hnews h1 hmx hby2 (Nat.zero_le _)
  have hv : ∃ A' c', v' = .slice A' (n + m) c' := by
    rcases hown'.2 with ⟨rfl, h0⟩ | ⟨g, cap, cur, rfl, _⟩
    · exact ⟨none, 0, by rw [h0]⟩
    · exact ⟨_, _, rfl⟩
  obtain ⟨A', c', rfl⟩ := hv
  have hgr2 : w.grownBy w' (A.map (·.block)) := by cases A <;> exact hgr
  have key : (∀ p, A' = some p → (∃ q, A = some q ∧ p.block = q.block) ∨ w.heap.size ≤ p.block) ∧ (c < n + m → A' = some ⟨w.heap.size, 0, none⟩ ∧ Below w.heap.size w w') := by
    rcases hown.2 with ⟨hv, h0⟩ | ⟨g, cap, cur, hv, _, hg, hle, hcm, hcs, htk⟩
    · obtain ⟨v2, w2, hrun2, hown2, hg2, hnil⟩ := run_append_own (P := P) w w.heap.size t ty e i z size bytes ht hi hz1 hz2 hz3 hz hp _ n xs (⟨hown.1, .inl ⟨hv, h0⟩⟩ : w.ownsRow w.heap.size e size (.slice A n c) n xs) a m c2 news hl hnews h1 hmx hby2 (Nat.le_refl _)
      rw [hrun] at hrun2
      injection hrun2 with e1 e2
      subst e1 e2
      have hv2 := hv
      simp only [Value.slice.injEq] at hv2
      obtain ⟨hA, hn, hc⟩ := hv2
      refine ⟨fun p hp => ?_, fun hlt => ?_⟩
      · subst hp
        rcases hown2.2 with ⟨h, _⟩ | ⟨g, _, _, h, hb, _⟩
        · simp at h
        · simp only [Value.slice.injEq, Option.some.injEq] at h
          right; rw [h.1]; exact hb
      · have hx : xs = [] := List.eq_nil_of_length_eq_zero (by rw [hown.1, hn]; simp)
        subst hA hn hc hx
        have hr := run_append_nil (P := P) w t ty e i z ht hi hz1 a m c2 news (by rw [hz2]; exact hl) hnews (by omega) (by omega) (by rw [hz3]; have := Nat.mul_le_mul_left m hby; omega)
        rw [hrun] at hr
        injection hr with e1 e2
        simp only [Value.slice.injEq] at e1
        refine ⟨e1.1, ?_⟩
        rw [e2]; exact ((Below.refl _ _).drew).alloc (Nat.le_refl _) _
    · simp only [Value.slice.injEq] at hv
      obtain ⟨rfl, _, rfl⟩ := hv
      by_cases hroom : n + m ≤ c
      · have hr := run_append_room (P := P) w t ty e i ht hi g n c cur hg a m c2 news (by rw [hz2]; exact hl) hnews h1 hroom (by rw [hz2, hl, hcs, ← Nat.add_mul]; exact Nat.mul_le_mul_right _ hroom)
        rw [hrun] at hr
        injection hr with e1 _
        simp only [Value.slice.injEq] at e1
        exact ⟨fun p hp => by rw [e1.1] at hp; injection hp with hp; left; exact ⟨_, rfl, by rw [← hp]⟩, fun h => by omega⟩
      · have hr := run_append_grow (P := P) w t ty e i z ht hi hz1 ⟨g, 0, none⟩ n c xs (by rw [hz2]; exact hown.1) (hown.cells (g := g) rfl) a m c2 news (by rw [hz2]; exact hl) hnews (by omega) (by omega) (growslice_fits (by omega) (by rw [hz3]; exact hby2))
        rw [hrun] at hr
        injection hr with e1 e2
        simp only [Value.slice.injEq] at e1
        refine ⟨fun p hp => by rw [e1.1] at hp; injection hp with hp; right; rw [← hp]; exact Nat.le_refl _, fun _ => ⟨e1.1, ?_⟩⟩
        rw [e2]; exact ((Below.refl _ _).drew).alloc (Nat.le_refl _) _
  exact ⟨A', c', w', hrun, hown', hgr2, key.1, key.2⟩

theorem append_big_none {P : Program} (w : World) {t ty e size c2 : Nat} {i : TypeInfo} (ht : P.underlying t = some (.slice e)) (hi : P.info? e = some i) {A : Option Addr} {n c : Nat} {xs : List Value} (hown : w.ownsRow 0 e size (.slice A n c) n xs) :
    (Builtin.append_ #[t, t] ty #[.slice A n c, .slice none 0 c2]).run P w = .ok (.slice A n c) w := append_nothing w ht hi hown

/-- The same as one step of a region that draws its order, the source of whatever address. -/
theorem step_append_big {P : Program} (w : World) {ops : Array Oper} {o : Oper} {a : Act} {K : Act → World → Prop} {Q : Exit → Act → World → Prop} {E' : Prop} (hgd : o.guard = none) (s x : Operand) (T : TypeId)
    (ho : o.op = .call { callee := .builtin .append, args := #[s, x], argTypes := #[T, T] }) (E : TypeId) (hT : P.underlying T = some (.slice E)) (z : Value) (size bytes : Nat)
    (hI : (P.info? E).map (fun i => (i.zero, i.size, i.bytes)) = some (some z, size, bytes)) (hz : z.cells.size = size) (hp : 0 < size) (hby : bytes ≤ 256) (A : Option Addr) (n c : Nat) (xs : List Value) (hs : a.eval s = .slice A n c) (hown : w.ownsRow 0 E size (.slice A n c) n xs)
    (D : Option Addr) (m c2 : Nat) (hx : a.eval x = .slice D m c2) (news : List Value) (hsrc : m ≠ 0 → ∃ d, D = some d ∧ ∀ j u, news[j]? = some u → w.cell? (d.add j) = some u) (h1 : ∀ u ∈ news, u.oneCell' = true) (hl : news.length = m * size) (hsz : (n + m) * 256 ≤ 140737488355328)
    (h : ∀ A' c' w', w'.ownsRow 0 E size (.slice A' (n + m) c') (n + m) (xs ++ news) → w.grownBy w' (A.map (·.block)) → (∀ p, A' = some p → (∃ q, A = some q ∧ p.block = q.block) ∨ w.heap.size ≤ p.block) → (c < n + m → A' = some ⟨w.heap.size, 0, none⟩ ∧ Below w.heap.size w w') → (m = 0 → w' = w ∧ A' = A) → K (a.put o.dst (.slice A' (n + m) c')) w') :
    if Region.wanted o (yielded ops a.tmps) = true then Oper.wp P o a w K Q else E' := by
  have hw : Region.wanted o (yielded ops a.tmps) = true := by simp [Region.wanted, hgd]
  rw [if_pos hw]
  obtain ⟨i, hi, hz1, hz2, hz3⟩ := info_parts hI
  by_cases hm : m = 0
  · subst hm
    have hnn : news = [] := List.eq_nil_of_length_eq_zero (by simpa using hl)
    subst hnn
    have hrun : (Builtin.append_ #[T, T] o.type #[.slice A n c, .slice D 0 c2]).run P w = .ok (.slice A n c) w := by
      rcases hown.2 with ⟨hv, _⟩ | ⟨g, cap, cur, hv, _, _, hle, _⟩
      · rw [hv]; cases D <;> simp [Builtin.append_, run_underlying hT, typeInfo, sizeOf, hi, Builtin.lenOf, Builtin.firstCells, loadCells, loadCellsFrom]
      · rw [hv]; cases D <;> simp [Builtin.append_, run_underlying hT, typeInfo, sizeOf, hi, Builtin.lenOf, Builtin.firstCells, storeCells, loadCells, loadCellsFrom, hle]
    unfold Oper.wp
    simp only [execOp, ho, resolve, invoke, builtin, Sem.run_bind, Sem.run_pure, Result.andThen_ok, List.map_toArray, List.map_cons, List.map_nil, hs, hx, hrun]
    have h2 := h A c w (by simpa using hown) ⟨rfl, rfl, rfl, Nat.le_refl _, fun _ _ _ => rfl⟩ (fun p hp => .inl ⟨p, hp, rfl⟩) (fun hlt => by
      exfalso
      rcases hown.2 with ⟨hv, h0⟩ | ⟨g, cap, cur, hv, _, _, hle, _⟩
      · simp only [Value.slice.injEq] at hv; omega
      · simp only [Value.slice.injEq] at hv; omega) (fun _ => ⟨rfl, rfl⟩)
    have h3 : K (a.put o.dst (.slice A n c)) w := by simpa using h2
    exact h3
  · obtain ⟨d, rfl, hnews⟩ := hsrc hm
    obtain ⟨A', c', w', hrun, h2, h3, h4, h5⟩ := append_big (P := P) (ty := o.type) w hT hI hz hp hown d m c2 news hl hnews h1 hsz hby
    unfold Oper.wp
    simp only [execOp, ho, resolve, invoke, builtin, Sem.run_bind, Sem.run_pure, Result.andThen_ok, List.map_toArray, List.map_cons, List.map_nil, hs, hx, hrun]
    exact h A' c' w' h2 h3 h4 h5 fun e => absurd e hm
end Go.Proofs.Ytknmccpoheekmaa
