/-
  append onto a list that is being made, as a step of a region that draws its order. No statement is proved here. Conditions: none.
-/
import Derived.Test.YtaklbgikoeedbaaDoorJnFu
namespace Go.Proofs.YtaklbgikoeedbaaDoor
open Go.RowKit

theorem own_same {w : World} {E : TypeId} {A : Option Addr} {n c : Nat} {vs us : List Value} (h : w.ownsRow 0 E 1 (.slice A n c) n vs) (k : w.ownsRow 0 E 1 (.slice A n c) n us) : vs = us := by
  rcases h.2 with ⟨hv, h0⟩ | ⟨g, cap, cur, hv, _, hg, _, _, _, ht⟩
  · simp only [Value.slice.injEq] at hv
    have a1 := h.1
    have a2 := k.1
    rw [hv.2.1] at a1 a2
    rw [List.eq_nil_of_length_eq_zero (l := vs) (by simpa using a1), List.eq_nil_of_length_eq_zero (l := us) (by simpa using a2)]
  · rcases k.2 with ⟨hv2, _⟩ | ⟨g2, cap2, cur2, hv2, _, hg2, _, _, _, ht2⟩
    · rw [hv] at hv2; simp at hv2
    · rw [hv] at hv2
      simp only [Value.slice.injEq, Option.some.injEq, Addr.mk.injEq, and_true] at hv2
      obtain ⟨e1, _⟩ := hv2
      subst e1
      rw [hg] at hg2
      injection hg2 with hg2
      injection hg2 with e1
      subst e1
      rw [← ht, ← ht2]
section
variable {w0 : World} (w : World) {ops : Array Oper} {o : Oper} {a : Act} {K : Act → World → Prop} {Q : Exit → Act → World → Prop} {E' : Prop} (hgd : o.guard = none) (s x : Operand)
    (ho : o.op = .call { callee := .builtin .append, args := #[s, x], argTypes := #[32, 32] })
include hgd ho
theorem step_append_new (A : Option Addr) (n c : Nat) (ps : Rcs) (hs : a.eval s = .slice A n c) (hnew : NewL w0 w A n c ps)
    (D : Option Addr) (m c2 : Nat) (hx : a.eval x = .slice D m c2) (F : Nat → Prop) (qs : Rcs) (hp : PrtF w F D qs) (hF : AtF (fun i => ¬ F i) A) (hl : qs.length = m) (hsz : n + m ≤ 1073741824)
    (h : ∀ A' c' w', NewL w0 w' A' (n + m) c' (ps ++ qs) → Off (fun b => ∃ q, A = some q ∧ b = q.block) w w' → (c < n + m → A' = some ⟨w.heap.size, 0, none⟩ ∧ Below w.heap.size w w') → (m = 0 → w' = w ∧ A' = A) → K (a.put o.dst (.slice A' (n + m) c')) w') :
    if Region.wanted o (yielded ops a.tmps) = true then Oper.wp Tryd.prog o a w K Q else E' := by
  obtain ⟨h1, Dd, vs, h2, h3, h4, h5, h6⟩ := hnew
  obtain ⟨us, hsrc, hpl⟩ := prt_news hp
  have hvl : us.length = m := by rw [hpl.1, hl]
  refine step_append_row w hgd s x 32 ho 31 Tryd.underlying32 (.slice none 0 0) 1 24 Tryd.infoSlc rfl (by decide) (by decide) A n c vs hs h2 D m c2 hx us (fun hm => hsrc fun e => hm (by rw [← hvl, e]; rfl)) hpl.single (by rw [hvl, Nat.mul_one]) (by omega) ?_
  intro A' c' w' hown hgr hq hbig hnil
  refine h A' c' w' (NewL.push ⟨h1, Dd, vs, h2, h3, h4, h5, h6⟩ hF hpl (fun vs2 h7 => ?_) hgr hq) (grown_off hgr fun q hq => ⟨q, hq, rfl⟩) hbig hnil
  rw [own_same h7 h2]; exact hown
/-- Onto an empty one. -/
theorem step_append_empty (A : Option Addr) (hs : a.eval s = .slice A 0 0) (hnew : NewL w0 w A 0 0 [])
    (D : Option Addr) (m c2 : Nat) (hx : a.eval x = .slice D m c2) (F : Nat → Prop) (qs : Rcs) (hp : PrtF w F D qs) (hF : AtF (fun i => ¬ F i) A) (hl : qs.length = m) (hsz : m ≤ 1073741824)
    (h : ∀ A' c' w', NewL w0 w' A' m c' qs → (∀ p, A' = some p → (∃ q, A = some q ∧ p.block = q.block) ∨ p.block = w.heap.size) → Below w.heap.size w w' → K (a.put o.dst (.slice A' m c')) w') :
    if Region.wanted o (yielded ops a.tmps) = true then Oper.wp Tryd.prog o a w K Q else E' := by
  refine step_append_new w hgd s x ho A 0 0 [] hs hnew D m c2 hx F qs hp hF hl (by omega) ?_
  intro A' c' w' hn _ hbig hnil
  rw [Nat.zero_add, List.nil_append] at hn
  rw [Nat.zero_add]
  by_cases hm : m = 0
  · obtain ⟨e1, e2⟩ := hnil hm
    refine h A' c' w' hn (fun p hp => .inl ⟨p, by rw [← e2]; exact hp, rfl⟩) ?_
    rw [e1]; exact Below.refl _ _
  · obtain ⟨e1, e2⟩ := hbig (by omega)
    exact h A' c' w' hn (fun p hp => .inr (by rw [e1] at hp; injection hp with hp; rw [← hp])) e2
end
end Go.Proofs.YtaklbgikoeedbaaDoor
