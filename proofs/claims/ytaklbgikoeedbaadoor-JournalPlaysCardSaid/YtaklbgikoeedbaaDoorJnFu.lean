/-
  A journal in a law, with room or without; a list of one list out of another. Conditions: as each says.
-/
import Derived.Test.YtaklbgikoeedbaaDoorPkF
namespace Go.Proofs.YtaklbgikoeedbaaDoor
open Go.RowKit

/-- It found the disk full. -/
def Lf (w0 W : World) (j d room NB LB : Nat) (base : List UInt8) (recs : Rcs) (safe : Nat) (K : World → (Nat → Prop) → Prop) : Prop :=
  ∃ N S J, N ≤ NB ∧ S.lives ≤ NB + 1 ∧ Hold w0 W d N S (JnOb j d { J with full := true }) K ∧ JI S J safe ∧ S.room = room ∧ J.base = base ∧ J.recs = recs ∧ J.last ≤ LB
section
variable {w0 W W' : World} {j d room NB B LB safe : Nat} {base : List UInt8} {recs : Rcs} {K K2 : World → (Nat → Prop) → Prop}
theorem Lw.size (h : Lw w0 W j d room NB B LB base recs safe K) : Lw w0 W j d room NB room LB base recs safe K := by
  obtain ⟨N, S, J, h4, h5, h6, h7, h8, h9, h10, h11, h12⟩ := h
  obtain ⟨hd, sps, tl, hs⟩ := h7.st
  exact ⟨N, S, J, h4, h5, h6, h7, h8, by rw [← h8]; exact hs.fit, h10, h11, h12⟩
theorem lw_addAny (hK : Kp K) (h : Lw w0 W j d room NB B LB base recs safe K) (A : Option Addr) (ps : Rcs) (n c : Nat) (hp : ∀ W F, K W F → PrtF W F A ps) (hlen : ps.length = n) (hn : n ≤ 1048576) (hNB : NB ≤ 536870912) (hps : lenOk ps) (hrl : recs.length ≤ 1073741824) :
    Calls Tryd.prog 12 #[.pointer (some ⟨j, 0, none⟩), .slice A n c] W fun e w' =>
      (e = .returned (.int .i64 0) ∧ Lw w0 w' j d room (NB + 2 * n + 1) room LB base (recs ++ ps) safe K) ∨ (e = .returned (.int .i64 6) ∧ Lf w0 w' j d room (NB + 2 * n + 1) LB base recs safe K) := by
  obtain ⟨N, S, J, h4, h5, h6, h7, h8, h9, h10, h11, h12⟩ := h
  refine (jadd_any hK h6 (by have := h7.few; omega) A ps n c hp hlen hn (by omega) (fun p hp => by have := hps p hp; omega) (by rw [h11]; exact hrl)).mono ?_
  rintro e w' ⟨rfl, h13⟩
  rcases h7.addAny ps hps with ⟨_, hf⟩ | ⟨a1, a2, a3⟩
  · obtain ⟨a1, a2, a3, a4, a5⟩ := h7.add ps hps hf
    rw [a2] at h13
    exact .inl ⟨by rw [a1], _, _, _, by omega, by have := a3.lives; have := h7.lives; simp at *; omega, h13, a3, by rw [a5, h8], by rw [a4, ← h8]; exact hf, h10, by rw [← h11], h12⟩
  · rw [a2, a3] at h13
    exact .inr ⟨by rw [a1], _, S, J, by omega, by omega, h13, h7, h8, h10, h11, h12⟩
theorem Lf.weak (h : Lf w0 W j d room NB LB base recs safe K) (hk : ∀ W F, K W F → K2 W F) : Lf w0 W j d room NB LB base recs safe K2 := by
  obtain ⟨N, S, J, h1, h2, h3, h4⟩ := h
  exact ⟨N, S, J, h1, h2, h3.weak hk, h4⟩
theorem Lf.fresh (hK : Kp K) (h : Lf w0 W j d room NB LB base recs safe K) (hb : Below W.heap.size W W') (hK2 : Kp K2) (hk : K2 W' (fun i => W.heap.size ≤ i)) : Lf w0 W' j d room NB LB base recs safe (KAnd K K2) := by
  obtain ⟨N, S, J, h1, h2, h3, h4⟩ := h
  exact ⟨N, S, J, h1, h2, h3.fresh (jnOb _ _ _) hK hb hK2 hk, h4⟩
theorem lf_done (hK : Kp K) (h : Lf w0 W j d room NB LB base recs safe K) :
    Calls Tryd.prog 18 #[.pointer (some ⟨j, 0, none⟩)] W fun e w' => e = .returned (.bool true) ∧ Lf w0 w' j d room NB LB base recs safe K := by
  obtain ⟨N, S, J, h4, h5, h6, h7, h8⟩ := h
  refine (jdone_any h6).mono ?_
  rintro e w' ⟨rfl, k, rfl⟩
  exact ⟨by unfold doneB; rfl, N, S, J, h4, h5, h6.drewN (jnOb _ _ _) hK k, h7, h8⟩
theorem lf_add (hK : Kp K) (h : Lf w0 W j d room NB LB base recs safe K) (A : Option Addr) (ps : Rcs) (n c : Nat) (hp : ∀ W F, K W F → PrtF W F A ps) (hlen : ps.length = n) (hn : n ≤ 1048576) (hNB : NB ≤ 536870912) (hps : lenOk ps) (hrl : recs.length ≤ 1073741824) :
    Calls Tryd.prog 12 #[.pointer (some ⟨j, 0, none⟩), .slice A n c] W fun e w' => e = .returned (.int .i64 7) ∧ Lf w0 w' j d room (NB + 2 * n + 1) LB base recs safe K := by
  obtain ⟨N, S, J, h4, h5, h6, h7, h8, h10, h11, h12⟩ := h
  have hl := longR_ok hps
  have hd : doneB S { J with full := true } = true := by unfold doneB; rfl
  refine (jadd_any hK h6 (by have := h7.few; show J.last < 100; omega) A ps n c hp hlen hn (by omega) (fun p hp => by have := hps p hp; omega) (by show J.recs.length ≤ _; rw [h11]; exact hrl)).mono ?_
  rintro e w' ⟨rfl, h13⟩
  have e1 : addE S { J with full := true } ps = 7 := by unfold addE; rw [hl, hd]; rfl
  have e2 : addS S { J with full := true } ps = S := by unfold addS; rw [hl, hd]; rfl
  have e3 : addJ S { J with full := true } ps = { J with full := true } := by unfold addJ; rw [hl, hd]; rfl
  rw [e2, e3] at h13
  exact ⟨by rw [e1], _, S, J, by omega, by omega, h13, h7, h8, h10, h11, h12⟩
theorem Lf.lo (hK : Kp K) (h : Lf w0 W j d room NB LB base recs safe K) (hL : LB ≤ 96) (hroom : room ≤ 1048576) : Lo w0 W d room NB room (LB + 1) base recs K := by
  obtain ⟨N, S, J, h4, h5, h6, h7, h8, h10, h11, h12⟩ := h
  obtain ⟨k, hd, bs, fs, h13, h14⟩ := h7.found (by omega) (by rw [h8]; exact hroom)
  rw [h10, h11] at *
  exact ⟨_, _, k, hd, bs, fs, h4, h5, h6.bare hK, h13, h8, by rw [← h8]; exact h13.fit, by omega⟩
theorem Lw.lo (hK : Kp K) (h : Lw w0 W j d room NB B LB base recs safe K) (hL : LB ≤ 96) (hroom : room ≤ 1048576) : Lo w0 W d room NB room (LB + 1) base recs K := by
  obtain ⟨N, S, J, h4, h5, h6, h7, h8, h9, h10, h11, h12⟩ := h
  obtain ⟨k, hd, bs, fs, h13, h14⟩ := h7.found (by omega) (by rw [h8]; exact hroom)
  rw [h10, h11] at *
  exact ⟨_, _, k, hd, bs, fs, h4, h5, h6.bare hK, h13, h8, by rw [← h8]; exact h13.fit, by omega⟩
theorem PrtF.at_ {w : World} {F : Nat → Prop} {A : Option Addr} {ps : Rcs} (h : PrtF w F A ps) {k : Nat} {p : List UInt8} (hk : ps[k]? = some p) {b o : Nat} (hA : A = some ⟨b, o, none⟩) {Aj : Option Addr} {nj cj : Nat} (hc : w.cell? ⟨b, o + k, none⟩ = some (.slice Aj nj cj)) : p.length = nj ∧ nj ≤ cj ∧ BytF w F Aj p := by
  rcases h with h | ⟨g, o', hA', _, _, hcell⟩
  · subst h; simp at hk
  · rw [hA] at hA'
    injection hA' with hA'
    injection hA' with e1 e2
    subst e1 e2
    obtain ⟨Ai, ni, ci, h1, h2, h3, h4⟩ := hcell k p hk
    rw [hc] at h1
    injection h1 with h1
    injection h1 with e1 e2 e3
    subst e1 e2 e3
    exact ⟨h2, h3, h4⟩
/-- One list out of another, as a list of its own. -/
theorem Lw.one (hK : Kp K) (h : Lw w0 W j d room NB B LB base recs safe K) {A : Option Addr} {ps : Rcs} (hp : ∀ W F, K W F → PrtF W F A ps) {k : Nat} {p : List UInt8} (hk : ps[k]? = some p) {b o : Nat} (hA : A = some ⟨b, o, none⟩) {Aj : Option Addr} {nj cj : Nat} (hb : b < W.heap.size) (hc : W.cell? ⟨b, o + k, none⟩ = some (.slice Aj nj cj)) :
    Lw w0 (W.alloc (.cells #[.slice Aj nj cj] 31)) j d room NB B LB base recs safe (KAnd K (KP (some ⟨W.heap.size, 0, none⟩) [p])) :=
  h.fresh2 hK ((Below.refl _ _).alloc (Nat.le_refl _) _) fun _ hF hn => by
    have hc2 : (W.alloc (.cells #[.slice Aj nj cj] 31)).cell? ⟨b, o + k, none⟩ = some (.slice Aj nj cj) := (((Below.refl W.heap.size W).alloc (Nat.le_refl _) _).cell (p := ⟨b, o + k, none⟩) hb).trans hc
    obtain ⟨h1, h2, h3⟩ := (hp _ _ hF).at_ hk hA hc2
    exact (PL.one h3 h1 h2).prtF (heap_alloc_new W _) (hn _ (Nat.le_refl _))
/-- The same of bytes that are kept. -/
theorem Lw.oneB (hK : Kp K) (h : Lw w0 W j d room NB B LB base recs safe K) {A : Option Addr} {l : List UInt8} {n c : Nat} (hp : ∀ W F, K W F → BytF W F A l) (hl : l.length = n) (hc : n ≤ c) :
    Lw w0 (W.alloc (.cells #[.slice A n c] 31)) j d room NB B LB base recs safe (KAnd K (KP (some ⟨W.heap.size, 0, none⟩) [l])) :=
  h.fresh2 hK ((Below.refl _ _).alloc (Nat.le_refl _) _) fun _ hF hn => (PL.one (hp _ _ hF) hl hc).prtF (heap_alloc_new W _) (hn _ (Nat.le_refl _))
theorem take_step {ps : Rcs} {k : Nat} {p : List UInt8} (hk : ps[k]? = some p) : ps.take k ++ [p] = ps.take (k + 1) := by rw [List.take_add_one, hk]; rfl
end
end Go.Proofs.YtaklbgikoeedbaaDoor
