/-
  Objects with memory of their own, said by the blocks that are theirs ('F'): what turns beside them, and what does not. No statement is proved here. Conditions: none.
-/
import Derived.Test.YtknmccpoheekmaaCut
namespace Go.Proofs.Ytknmccpoheekmaa
open Go.RowKit

/-- Of what was there nothing has turned outside F. -/
structure Off (F : Nat → Prop) (w w' : World) : Prop where
  os : w'.os = w.os
  tape : w'.tape = w.tape
  output : w'.output = w.output
  size : w.heap.size ≤ w'.heap.size
  block : ∀ k, k < w.heap.size → ¬ F k → w'.heap[k]? = w.heap[k]?
section
variable {F G : Nat → Prop} {a w w' : World} {B g : Nat}
theorem Off.refl (F : Nat → Prop) (w : World) : Off F w w := ⟨rfl, rfl, rfl, Nat.le_refl _, fun _ _ _ => rfl⟩
/-- Two steps; what the second one calls its own was the first one's, or is new. -/
theorem Off.trans (h : Off F a w) (k : Off G w w') (hG : ∀ i, G i → F i ∨ a.heap.size ≤ i) : Off F a w' :=
  ⟨k.os.trans h.os, k.tape.trans h.tape, k.output.trans h.output, Nat.le_trans h.size k.size, fun i hi hn =>
    (k.block i (Nat.lt_of_lt_of_le hi h.size) (fun hg => by rcases hG i hg with h | h; exact hn h; omega)).trans (h.block i hi hn)⟩
theorem Off.mono (h : Off F a w) (hG : ∀ i, i < a.heap.size → F i → G i) : Off G a w := ⟨h.os, h.tape, h.output, h.size, fun i hi hn => h.block i hi fun hf => hn (hG i hi hf)⟩
theorem Off.of_below (h : Below B w w') (hF : ∀ i, i < w.heap.size → B ≤ i → F i) : Off F w w' := ⟨h.os, h.tape, h.output, h.size, fun i hi hn => h.block i (by
  rcases Nat.lt_or_ge i B with h | h
  · exact h
  · exact absurd (hF i hi h) hn)⟩
theorem Off.of_but (h : But g w w') (hF : F g) : Off F w w' := ⟨h.os, h.tape, h.output, h.size, fun i hi hn => h.block i hi fun e => by injection e with e; subst e; exact hn hF⟩
theorem Off.next (h : Off F a w) (k : Below w.heap.size w w') : Off F a w' := h.trans (G := fun _ => False) (Off.of_below k fun i hi hB => by omega) fun _ h => h.elim
theorem Off.drew (h : Off F a w) : Off F a w.drew := ⟨h.os, h.tape, h.output, h.size, h.block⟩
theorem Off.alloc (h : Off F a w) (o : Obj) : Off F a (w.alloc o) := h.next ((Below.refl _ _).alloc (Nat.le_refl _) o)
theorem Off.set (h : Off F a w) {i : Nat} (hg : F g ∨ a.heap.size ≤ g) (u : Value) : Off F a (w.setCell ⟨g, i, none⟩ u) :=
  h.trans (G := fun k => k = g) (Off.of_but ((But.refl g w).set u) rfl) fun k hk => by rw [hk]; exact hg
theorem Off.row (h : Off F a w) (hg : F g ∨ a.heap.size ≤ g) (cs : Array Value) : Off F a (w.setRow g cs) :=
  h.trans (G := fun k => k = g) (Off.of_but ((But.refl g w).row cs) rfl) fun k hk => by rw [hk]; exact hg
/-- Below B, if all of F lies from B on. -/
theorem Off.below (k : Off F w w') (h : Below B a w) (hF : ∀ i, F i → B ≤ i) (hs : B ≤ w.heap.size) : Below B a w' :=
  h.trans ⟨k.os, k.tape, k.output, k.size, fun i hi => k.block i (by omega) fun hf => by have := hF i hf; omega⟩
theorem Off.cell (h : Off F w w') {p : Addr} (hp : p.block < w.heap.size) (hF : ¬ F p.block) : w'.cell? p = w.cell? p := World.cell?_of_block (h.block p.block hp hF)
end
theorem Byt.off {F : Nat → Prop} {w w' : World} {B : Nat} {A : Option Addr} {l : List UInt8} (h : Byt w B A l) (hb : Off F w w') (hB : B ≤ w.heap.size) (hF : ∀ i, i < B → ¬ F i) : Byt w' B A l :=
  h.keep fun p hp => hb.cell (by omega) (hF _ hp)

/-- Bytes in a block of F. -/
def BytF (w : World) (F : Nat → Prop) (A : Option Addr) (l : List UInt8) : Prop :=
  l = [] ∨ ∃ g o, A = some ⟨g, o, none⟩ ∧ F g ∧ g < w.heap.size ∧ ∀ j b, l[j]? = some b → w.cell? ⟨g, o + j, none⟩ = some (.int .u8 (b.toNat : Int))
section
variable {F G : Nat → Prop} {w w' : World} {A : Option Addr} {l : List UInt8} {ps : List (List UInt8)} {base n c : Nat} {E : TypeId}
theorem BytF.none_ : BytF w F A [] := .inl rfl
theorem BytF.byt (h : BytF w F A l) : Byt w w.heap.size A l := by
  rcases h with h | ⟨g, o, hA, _, hg, hc⟩
  · exact .inl h
  · exact .inr ⟨g, o, hA, hg, hc⟩
theorem BytF.mono (h : BytF w F A l) (hG : ∀ i, i < w.heap.size → F i → G i) : BytF w G A l := by
  rcases h with h | ⟨g, o, hA, hF, hg, hc⟩
  · exact .inl h
  · exact .inr ⟨g, o, hA, hG g hg hF, hg, hc⟩
/-- What turns lies elsewhere. -/
theorem BytF.off (h : BytF w F A l) (hb : Off G w w') (hd : ∀ i, i < w.heap.size → F i → ¬ G i) : BytF w' F A l := by
  rcases h with h | ⟨g, o, hA, hF, hg, hc⟩
  · exact .inl h
  · exact .inr ⟨g, o, hA, hF, Nat.lt_of_lt_of_le hg hb.size, fun j b hj => (hb.cell (p := ⟨g, o + j, none⟩) hg (hd g hg hF)).trans (hc j b hj)⟩
theorem BytF.take (h : BytF w F A l) (k : Nat) : BytF w F A (l.take k) := by
  rcases h with h | ⟨g, o, hA, hF, hg, hc⟩
  · subst h; exact .inl (by simp)
  · refine .inr ⟨g, o, hA, hF, hg, fun j b hj => hc j b ?_⟩
    have hjk : j < k := by
      have := (List.getElem?_eq_some_iff.1 hj).1
      simp at this; omega
    rwa [List.getElem?_take_of_lt hjk] at hj
/-- A result of a call. -/
theorem Res.inF (h : Res w base E A n c l) (hF : ∀ i, base ≤ i → F i) : BytF w F A l := by
  rcases h.byt with h0 | ⟨g, o, hA, hg, hc⟩
  · exact .inl h0
  · rcases h.2 with ⟨h', h0⟩ | ⟨b, cap, cur, h', hb, _⟩
    · simp only [Value.slice.injEq] at h'
      rw [hA] at h'; exact absurd h'.1 (by simp)
    · simp only [Value.slice.injEq] at h'
      obtain ⟨h1, _, _⟩ := h'
      rw [hA] at h1
      injection h1 with h1
      injection h1 with h1 _
      subst h1
      exact .inr ⟨g, o, hA, hF g hb, hg, hc⟩
/-- Lists of bytes, each in blocks of F. -/
def PrtF (w : World) (F : Nat → Prop) (A : Option Addr) (ps : List (List UInt8)) : Prop :=
  ps = [] ∨ ∃ g o, A = some ⟨g, o, none⟩ ∧ F g ∧ g < w.heap.size ∧ ∀ j p, ps[j]? = some p → ∃ Aj nj cj, w.cell? ⟨g, o + j, none⟩ = some (.slice Aj nj cj) ∧ p.length = nj ∧ nj ≤ cj ∧ BytF w F Aj p
theorem PrtF.mono (h : PrtF w F A ps) (hG : ∀ i, i < w.heap.size → F i → G i) : PrtF w G A ps := by
  rcases h with h | ⟨g, o, hA, hF, hg, hc⟩
  · exact .inl h
  · refine .inr ⟨g, o, hA, hG g hg hF, hg, fun j p hj => ?_⟩
    obtain ⟨Aj, nj, cj, h1, h2, h3, h4⟩ := hc j p hj
    exact ⟨Aj, nj, cj, h1, h2, h3, h4.mono hG⟩
theorem PrtF.off (h : PrtF w F A ps) (hb : Off G w w') (hd : ∀ i, i < w.heap.size → F i → ¬ G i) : PrtF w' F A ps := by
  rcases h with h | ⟨g, o, hA, hF, hg, hc⟩
  · exact .inl h
  · refine .inr ⟨g, o, hA, hF, Nat.lt_of_lt_of_le hg hb.size, fun j p hj => ?_⟩
    obtain ⟨Aj, nj, cj, h1, h2, h3, h4⟩ := hc j p hj
    exact ⟨Aj, nj, cj, (hb.cell (p := ⟨g, o + j, none⟩) hg (hd g hg hF)).trans h1, h2, h3, h4.off hb hd⟩
end
end Go.Proofs.Ytknmccpoheekmaa
