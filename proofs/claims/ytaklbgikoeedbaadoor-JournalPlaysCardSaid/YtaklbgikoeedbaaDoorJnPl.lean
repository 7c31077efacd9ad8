/-
  What a law of acts keeps beside its journal: the act's row, a list of its own that grows into new rows. No statement is proved here. Conditions: none.
-/
import Derived.Test.YtaklbgikoeedbaaDoorJnFu
import Derived.Test.YtaklbgikoeedbaaDoorArgJ
namespace Go.Proofs.YtaklbgikoeedbaaDoor
open Go.RowKit

theorem run_cut_hm {P : Program} {T E : TypeId} (hT : P.underlying T = some (.slice E)) (hs : (P.info? E).map (·.size) = some 1) (A : Option Addr) (n c t : Nat) (L M : Int) (hL : L = (t : Int)) (hM : M = (t : Int)) (ht : t ≤ c) (w : World) :
    (Instr.slice T (.slice A n c) none (some (.int .i64 L)) (some (.int .i64 M))).run P w = .ok (.slice A t t) w := by
  subst hL hM
  obtain ⟨i, hi', hi2⟩ := Option.map_eq_some_iff.1 hs
  have he : P.elem T = E := by simp [Program.elem, hT]
  rw [run_slice_hm w T A n c (by rw [he]; exact hT) .i64 .i64 _ _ (by omega) (Int.le_refl _) (by omega), he]
  cases A <;> simp [sizeOf, typeInfo, hi', hi2, sliced, Addr.add]
/-- A block that is kept as it is. -/
def KRow (x : Nat) (o : Obj) : World → (Nat → Prop) → Prop := fun W F => W.heap[x]? = some o ∧ F x
theorem kRow (x : Nat) (o : Obj) : Kp (KRow x o) :=
  ⟨fun ⟨h1, h2⟩ hb hd => by
    have hlt := (Array.getElem?_eq_some_iff.1 h1).1
    exact ⟨(hb.block x hlt (hd x hlt h2)).trans h1, h2⟩, fun ⟨h1, h2⟩ hG => ⟨h1, hG x (Array.getElem?_eq_some_iff.1 h1).1 h2⟩⟩
def actJ (op nn : Int) (mask : Nat) (r : AcR) : Obj := .cells #[.int .i64 op, .int .i64 nn, .int .u64 (mask : Int), .slice r.Ab r.nb r.cb, .slice r.Al r.nl r.cl] 42 (0, 0)
theorem actJ_cells {W : World} {x : Nat} {op nn : Int} {mask : Nat} {r : AcR} (h : W.heap[x]? = some (actJ op nn mask r)) :
    W.cell? ⟨x, 0, none⟩ = some (.int .i64 op) ∧ W.cell? ⟨x, 1, none⟩ = some (.int .i64 nn) ∧ W.cell? ⟨x, 2, none⟩ = some (.int .u64 (mask : Int)) ∧ W.cell? ⟨x, 3, none⟩ = some (.slice r.Ab r.nb r.cb) ∧ W.cell? ⟨x, 4, none⟩ = some (.slice r.Al r.nl r.cl) := by
  unfold actJ at h
  refine ⟨?_, ?_, ?_, ?_, ?_⟩ <;> (rw [cell_of_row _ _ _ _ _ _ h]; rfl)
section
variable {w w' : World} {F G : Nat → Prop} {A : Option Addr} {ps : Rcs} {vs : List Value}
theorem PrtF.take (h : PrtF w F A ps) (k : Nat) : PrtF w F A (ps.take k) := by
  rcases h with h | ⟨g, o, hA, hF, hg, hc⟩
  · subst h; exact .inl (by simp)
  · exact .inr ⟨g, o, hA, hF, hg, fun j p hj => hc j p (by
      have hk : j < k := by
        have := (List.getElem?_eq_some_iff.1 hj).1
        simp at this; omega
      rwa [List.getElem?_take_of_lt hk] at hj)⟩
/-- vs are what lies at A. -/
def Src_ (w : World) (A : Option Addr) (vs : List Value) : Prop := vs ≠ [] → ∃ d, A = some d ∧ ∀ j u, vs[j]? = some u → w.cell? (d.add j) = some u
theorem Src_.keep (h : Src_ w A vs) (hb : Below w.heap.size w w') : Src_ w' A vs := fun hv => by
  obtain ⟨d, hd, hc⟩ := h hv
  exact ⟨d, hd, fun j u hj => (hb.cell (p := d.add j) (World.block_lt_of_cell? w _ (hc j u hj))).trans (hc j u hj)⟩
theorem PL.same {w0 : World} (h : PL w0 G vs ps) (hsrc : Src_ w A vs) (hp : PrtF w F A ps) : PL w F vs ps :=
  ⟨h.1, fun i p hi => by
    obtain ⟨A', n, c, h1, _⟩ := h.2 i p hi
    obtain ⟨d, hd, hc⟩ := hsrc (by intro e; subst e; simp at h1)
    have hcell := hc i _ h1
    rcases hp with hp | ⟨g, o, hA, hF, hg, hcc⟩
    · subst hp; simp at hi
    · rw [hA] at hd
      injection hd with hd
      subst hd
      obtain ⟨Aj, nj, cj, e1, e2, e3, e4⟩ := hcc i p hi
      rw [addr_add] at hcell
      rw [hcell] at e1
      injection e1 with e1
      injection e1 with a b c
      subst a b c
      exact ⟨_, _, _, h1, e2, e3, e4⟩⟩
end
section
variable {w0 W V : World} {j d room NB B LB safe : Nat} {base : List UInt8} {recs : Rcs} {K : World → (Nat → Prop) → Prop}
/-- Two lists one behind the other, in a row of one's own. -/
theorem Lw.joined (hK : Kp K) (h : Lw w0 W j d room NB B LB base recs safe K) {Q1 Q2 Q : Option Addr} {ps qs : Rcs} {us vs : List Value} {n c : Nat} (h1 : ∀ W F, K W F → PrtF W F Q1 ps) (h2 : ∀ W F, K W F → PrtF W F Q2 qs)
    {G1 G2 : Nat → Prop} (p1 : PL W G1 us ps) (s1 : Src_ W Q1 us) (p2 : PL W G2 vs qs) (s2 : Src_ W Q2 vs) (hown : V.ownsRow 0 31 1 (.slice Q n c) n (us ++ vs)) (hb : Below W.heap.size W V) (hA : AtF (fun i => W.heap.size ≤ i) Q) :
    Lw w0 V j d room NB B LB base recs safe (KP Q (ps ++ qs)) :=
  (h.fresh2 hK hb (K2 := KP Q (ps ++ qs)) fun _ hF hn => own_prtF hown ((p1.same (s1.keep hb) (h1 _ _ hF)).app (p2.same (s2.keep hb) (h2 _ _ hF))) fun a ha => hn _ (hA a ha)).weak fun _ _ h => h.2
end
end Go.Proofs.YtaklbgikoeedbaaDoor
