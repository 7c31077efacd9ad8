/-
  append onto numbers and things of one's own, of what came in or was made. No statement is proved here. Conditions: some million at most.
-/
import Derived.Test.YtknmccpoheekmaaKnB
import Derived.Test.YtknmccpoheekmaaKnF
namespace Go.Proofs.Ytknmccpoheekmaa
open Go.RowKit

theorem iwo_made (w : World) : Iwo (w.alloc (.cells #[] 3)) w.heap.size (some ⟨w.heap.size, 0, none⟩) 0 0 [] :=
  ⟨World.ownsRow_made (base := 0) (e := 3) (size := 1) w #[] 0 (Nat.zero_le _) (Nat.zero_le _) rfl, fun p h => by injection h with h; subst h; exact Nat.le_refl _⟩
theorem iwo_app {w : World} {B n c : Nat} {A : Option Addr} {l : List Int} (h : Iwo w B A n c l) (hB : B ≤ w.heap.size) {A2 : Option Addr} {m : Nat} (c2 : Nat) {l2 : List Int} (h2 : InP w w.heap.size A2 l2) (hl : l2.length = m) (hn : n + m ≤ 1048576) :
    ∃ A' c' w', (Builtin.append_ #[28, 28] 28 #[.slice A n c, .slice A2 m c2]).run Try.prog w = .ok (.slice A' (n + m) c') w' ∧ Iwo w' B A' (n + m) c' (l ++ l2) ∧ Below B w w' := by
  cases A2 with
  | none =>
    have hn0 : l2 = [] := by
      rcases h2 with h | ⟨_, _, h, _⟩
      · exact h
      · cases h
    subst hn0
    obtain rfl : m = 0 := by simpa using hl.symm
    obtain ⟨i, hi, _⟩ := info_parts int_info
    have hrun := append_nothing (P := Try.prog) (ty := 28) (c := c2) w Try.underlying28 hi h.1
    exact ⟨A, c, w, hrun, by rw [List.append_nil]; exact h, Below.refl _ _⟩
  | some p =>
    have hc : ∀ j u, (l2.map (Value.int .i64))[j]? = some u → w.cell? (p.add j) = some u := fun j u hj => by
      rcases h2 with rfl | ⟨g, o, hA, _, hc⟩
      · simp at hj
      · cases hA
        rw [List.getElem?_map, Option.map_eq_some_iff] at hj
        obtain ⟨x, hx, rfl⟩ := hj
        rw [Addr.add_lit]
        exact hc j x hx
    obtain ⟨A', c', w2, hrun, hown2, hgr, hpl, h5⟩ := append_big (P := Try.prog) (ty := 28) _ Try.underlying28 int_info rfl (by omega) h.1 p m c2 (l2.map (Value.int .i64)) (by simp [hl]) hc (by intro u hu; obtain ⟨x, _, rfl⟩ := List.mem_map.1 hu; rfl) (by omega) (by omega)
    have hoff : Off (fun i => ∃ q, A = some q ∧ q.block = i) w w2 := ⟨hgr.os, hgr.tape, hgr.output, hgr.size, fun i hi hn => hgr.block i hi fun e => by
      obtain ⟨q, hq, he⟩ := Option.map_eq_some_iff.1 e.symm
      exact hn ⟨q, hq, he⟩⟩
    refine ⟨A', c', w2, hrun, ⟨by simpa using hown2, fun p hp => ?_⟩, hoff.below (Below.refl _ _) (fun i hi => ?_) hB⟩
    · rcases hpl p hp with ⟨q, hq, he⟩ | hge
      · rw [he]; exact h.2 q hq
      · omega
    · obtain ⟨q, hq, rfl⟩ := hi
      exact h.2 q hq
theorem Iwo.alloc {w : World} {B n c : Nat} {A : Option Addr} {l : List Int} (h : Iwo w B A n c l) (o : Obj) : Iwo (w.alloc o) B A n c l := ⟨h.1.alloc o, h.2⟩
/-- Things of one's own. -/
def Two (w : World) (B : Nat) (A : Option Addr) (n c : Nat) (l : List Th) : Prop :=
  w.ownsRow 0 24 4 (.slice A n c) n (flatT l) ∧ ∀ p, A = some p → B ≤ p.block
theorem thing_info : (Try.prog.info? 24).map (fun i => (i.zero, i.size, i.bytes)) = some (some (.agg #[.int .i64 0, .int .i64 0, .int .i64 0, .int .i64 0]), 4, 32) := by kernel_rfl
theorem flatT_one (l : List Th) : ∀ u ∈ flatT l, u.oneCell' = true := by
  intro u hu
  simp only [flatT, List.mem_flatten, List.mem_map] at hu
  obtain ⟨_, ⟨x, _, rfl⟩, hu⟩ := hu
  simp only [Th.cells, List.mem_cons, List.not_mem_nil, or_false] at hu
  rcases hu with h | h | h | h <;> (subst h; rfl)
theorem Two.len {w : World} {B n c : Nat} {A : Option Addr} {l : List Th} (h : Two w B A n c l) : l.length = n := by
  have := h.1.1
  rw [flatT_len] at this
  omega
theorem Two.thp {w : World} {B n c : Nat} {A : Option Addr} {l : List Th} (h : Two w B A n c l) : ThP w w.heap.size A l := by
  have hl := h.len
  rcases h.1.2 with ⟨h1, h2⟩ | ⟨g, cap, cur, h1, _, hg, _, _, _, ht⟩
  · exact .inl (List.eq_nil_of_length_eq_zero (by omega))
  · simp only [Value.slice.injEq] at h1
    have hat : ∀ i x, l[i]? = some x → ∀ j v, x.cells[j]? = some v → w.cell? ⟨g, 0 + i * 4 + j, none⟩ = some v := fun i x hx j v hj => by
      rw [cell_of_row _ _ _ _ _ _ hg, Nat.zero_add]
      have e := flatT_at hx hj
      rw [← ht, List.getElem?_take] at e
      split at e
      · simpa using e
      · cases e
    exact .inr ⟨g, 0, h1.1, (Array.getElem?_eq_some_iff.1 hg).1, fun i x hx => ⟨hat i x hx 0 _ rfl, hat i x hx 1 _ rfl, hat i x hx 2 _ rfl, hat i x hx 3 _ rfl⟩⟩
theorem two_made (w : World) : Two (w.alloc (.cells #[] 24)) w.heap.size (some ⟨w.heap.size, 0, none⟩) 0 0 [] :=
  ⟨World.ownsRow_made (base := 0) (e := 24) (size := 4) w #[] 0 (Nat.zero_le _) (Nat.zero_le _) rfl, fun p h => by injection h with h; subst h; exact Nat.le_refl _⟩
theorem Two.alloc {w : World} {B n c : Nat} {A : Option Addr} {l : List Th} (h : Two w B A n c l) (o : Obj) : Two (w.alloc o) B A n c l := ⟨h.1.alloc o, h.2⟩
theorem two_app {w : World} {B n c : Nat} {A : Option Addr} {l : List Th} (h : Two w B A n c l) (hB : B ≤ w.heap.size) {A2 : Option Addr} {m : Nat} (c2 : Nat) {l2 : List Th} (h2 : ThP w w.heap.size A2 l2) (hl : l2.length = m) (hn : n + m ≤ 1048576) :
    ∃ A' c' w', (Builtin.append_ #[25, 25] 25 #[.slice A n c, .slice A2 m c2]).run Try.prog w = .ok (.slice A' (n + m) c') w' ∧ Two w' B A' (n + m) c' (l ++ l2) ∧ Below B w w' := by
  cases A2 with
  | none =>
    have hn0 : l2 = [] := by
      rcases h2 with h | ⟨_, _, h, _⟩
      · exact h
      · cases h
    subst hn0
    obtain rfl : m = 0 := by simpa using hl.symm
    obtain ⟨i, hi, _⟩ := info_parts thing_info
    have hrun := append_nothing (P := Try.prog) (ty := 25) (c := c2) w Try.underlying25 hi h.1
    exact ⟨A, c, w, hrun, by rw [List.append_nil]; exact h, Below.refl _ _⟩
  | some p =>
    have hc : ∀ j u, (flatT l2)[j]? = some u → w.cell? (p.add j) = some u := fun j u hj => by
      rcases h2 with rfl | ⟨g, o, hA, _, hc⟩
      · simp [flatT] at hj
      · cases hA
        have hj4 := (List.getElem?_eq_some_iff.1 hj).1
        rw [flatT_len] at hj4
        have hq : j / 4 < l2.length := by omega
        have hx := hc (j / 4) _ (List.getElem?_eq_getElem hq)
        have e : ∀ k v, l2[j / 4].cells[k]? = some v → j = j / 4 * 4 + k → u = v := fun k v hk hjk => by
          have := flatT_at (List.getElem?_eq_getElem hq) hk
          rw [← hjk, hj] at this
          injection this
        rw [Addr.add_lit]
        rcases (show j % 4 = 0 ∨ j % 4 = 1 ∨ j % 4 = 2 ∨ j % 4 = 3 by omega) with h4 | h4 | h4 | h4
        · rw [e 0 _ rfl (by omega), show o + j = o + j / 4 * 4 by omega]; exact hx.1
        · rw [e 1 _ rfl (by omega), show o + j = o + j / 4 * 4 + 1 by omega]; exact hx.2.1
        · rw [e 2 _ rfl (by omega), show o + j = o + j / 4 * 4 + 2 by omega]; exact hx.2.2.1
        · rw [e 3 _ rfl (by omega), show o + j = o + j / 4 * 4 + 3 by omega]; exact hx.2.2.2
    obtain ⟨A', c', w2, hrun, hown2, hgr, hpl, h5⟩ := append_big (P := Try.prog) (ty := 25) _ Try.underlying25 thing_info rfl (by omega) h.1 p m c2 (flatT l2) (by rw [flatT_len, hl]) hc (flatT_one l2) (by omega) (by omega)
    have hoff : Off (fun i => ∃ q, A = some q ∧ q.block = i) w w2 := ⟨hgr.os, hgr.tape, hgr.output, hgr.size, fun i hi hn => hgr.block i hi fun e => by
      obtain ⟨q, hq, he⟩ := Option.map_eq_some_iff.1 e.symm
      exact hn ⟨q, hq, he⟩⟩
    refine ⟨A', c', w2, hrun, ⟨by rw [flatT_app]; exact hown2, fun p hp => ?_⟩, hoff.below (Below.refl _ _) (fun i hi => ?_) hB⟩
    · rcases hpl p hp with ⟨q, hq, he⟩ | hge
      · rw [he]; exact h.2 q hq
      · omega
    · obtain ⟨q, hq, rfl⟩ := hi
      exact h.2 q hq
end Go.Proofs.Ytknmccpoheekmaa
