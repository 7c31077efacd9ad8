/-
  What All tells is the caller's own: the contracts of clones and All once more, with the rows of the bytes. Conditions: as each says.
-/
import Derived.Test.YtaklbgikoeedbaaDoorJnFu
namespace Go.Proofs.YtaklbgikoeedbaaDoor
open Go.RowKit

/-- The cells vs are slices of the bytes ps, each in a row of one's own. -/
def PR (w : World) (base : Nat) (vs : List Value) (ps : Rcs) : Prop :=
  vs.length = ps.length ∧ ∀ (i : Nat) (p : List UInt8), ps[i]? = some p → ∃ A n c, vs[i]? = some (Value.slice A n c) ∧ Res w base 5 A n c p
section
variable {w w' : World} {base : Nat} {vs : List Value} {ps : Rcs}
theorem PR.nil : PR w base [] [] := ⟨rfl, fun i p h => by simp at h⟩
theorem PR.keep (h : PR w base vs ps) (hb : Below w.heap.size w w') : PR w' base vs ps := ⟨h.1, fun i p hp => by
  obtain ⟨A, n, c, h1, h2⟩ := h.2 i p hp
  exact ⟨A, n, c, h1, h2.keep hb⟩⟩
theorem PR.set (h : PR w base vs ps) {g i : Nat} (hg : g < base) (u : Value) : PR (w.setCell ⟨g, i, none⟩ u) base vs ps := ⟨h.1, fun k p hp => by
  obtain ⟨A, n, c, h1, h2⟩ := h.2 k p hp
  exact ⟨A, n, c, h1, ownsRow_setCell_below h2 (a := ⟨g, i, none⟩) hg u⟩⟩
theorem PR.snoc (h : PR w base vs ps) {A : Option Addr} {n c : Nat} {p : List UInt8} (hr : Res w base 5 A n c p) (_ : p.length = n) : PR w base (vs ++ [.slice A n c]) (ps ++ [p]) := ⟨by rw [List.length_append, List.length_append, h.1]; rfl, fun i q hq => by
  by_cases hi : i < ps.length
  · rw [List.getElem?_append_left hi] at hq
    obtain ⟨A, n, c, h1, h2⟩ := h.2 i q hq
    exact ⟨A, n, c, by rw [List.getElem?_append_left (by rw [h.1]; exact hi)]; exact h1, h2⟩
  · rw [List.getElem?_append_right (by omega)] at hq
    have hi2 : i - ps.length = 0 := by
      have := (List.getElem?_eq_some_iff.1 hq).1
      simpa using this
    rw [hi2] at hq
    simp at hq
    subst hq
    exact ⟨A, n, c, by rw [List.getElem?_append_right (by rw [h.1]; omega), h.1, hi2]; rfl, hr⟩⟩
/-- Cells that hold bytes, whichever, and may be written. -/
def PB (w : World) (g : Nat) (vs : List Value) : Prop := ∀ i, i < vs.length → ∃ A n c, vs[i]? = some (Value.slice A n c) ∧ n ≤ c ∧ ∀ k, k < n → ∃ b o : Nat, ∃ x : Int, A = some ⟨b, o, none⟩ ∧ g < b ∧ w.cell? ⟨b, o + k, none⟩ = some (.int .u8 x) ∧ w.frozen? ⟨b, o + k, none⟩ = false
theorem PR.pb {g : Nat} (h : PR w (g + 1) vs ps) : PB w g vs := fun i hi => by
  obtain ⟨A, n, c, h1, h2⟩ := h.2 i _ (List.getElem?_eq_getElem (by rw [← h.1]; exact hi))
  refine ⟨A, n, c, h1, h2.cap, fun k hk => ?_⟩
  obtain ⟨b, hb⟩ := h2.some_ (by omega)
  subst hb
  have hlt := (World.ownsRow.lt h2 b rfl).1
  have hk2 : k < (ps[i]'(by rw [← h.1]; exact hi)).length := by rw [h2.len]; exact hk
  have hc := World.ownsRow.cellAt h2 k (by omega)
  refine ⟨b, 0, ((ps[i]'(by rw [← h.1]; exact hi))[k]'hk2).toNat, rfl, hlt, ?_, by rw [Nat.zero_add]; exact World.ownsRow.frozenAt h2 k⟩
  rw [Nat.zero_add, hc, bv_at, List.getElem?_eq_getElem hk2]; rfl
theorem PB.set {g b o : Nat} {x y : Int} (h : PB w g vs) (hc : w.cell? ⟨b, o, none⟩ = some (.int .u8 y)) : PB (w.setCell ⟨b, o, none⟩ (.int .u8 x)) g vs := fun i hi => by
  obtain ⟨A, n, c, h1, h2, h3⟩ := h i hi
  refine ⟨A, n, c, h1, h2, fun k hk => ?_⟩
  obtain ⟨b', o', z, h4, h5, h6, h7⟩ := h3 k hk
  by_cases e : (⟨b, o, none⟩ : Addr) = ⟨b', o' + k, none⟩
  · exact ⟨b', o', x, h4, h5, by rw [← e]; exact World.cell?_setCell_same _ _ _ hc, by rw [World.frozen?_setCell]; exact h7⟩
  · exact ⟨b', o', z, h4, h5, by rw [World.cell?_setCell_other _ _ _ _ e]; exact h6, by rw [World.frozen?_setCell]; exact h7⟩
end
set_option maxRecDepth 100000 in
set_option maxHeartbeats 1000000 in
theorem clones_res (w : World) (A : Option Addr) (ps : List (List UInt8)) (n c : Nat) (hp : Prt w w.heap.size A ps) (hl : ps.length = n) (hn : n ≤ 1099511627776) (hps : ∀ p ∈ ps, p.length ≤ 1099511627776) :
    Calls Tryd.prog 28 #[.slice A n c] w fun e w' => e = .returned (.slice (some ⟨w.heap.size, 0, none⟩) n n) ∧ (∃ vs, w'.heap[w.heap.size]? = some (.cells vs.toArray 31 (0, 0)) ∧ PR w' (w.heap.size + 1) vs ps) ∧ Below w.heap.size w w' := by
  have HL := Lib.hid hl
  obtain ⟨i, hi, hz, h1, h2⟩ := info_parts (show (Tryd.prog.info? 31).map (fun i => (i.zero, i.size, i.bytes)) = some (some (.slice none 0 0), 1, 24) by kernel_rfl)
  have hmk := run_make (P := Tryd.prog) w 32 31 i (.slice none 0 0) Tryd.underlying32 hi hz .i64 .i64 n n (by omega) (by omega) (by rw [h2]; omega) (by omega)
  simp only [Int.toNat_natCast] at hmk
  have e : madeCells (Value.slice none 0 0).cells (n * i.size) = (nilsL n).toArray := by
    rw [h1, Nat.mul_one]
    apply Array.ext'
    show (madeCells #[Value.slice none 0 0] n).toList = _
    rw [toList_madeCells_one]; rfl
  rw [e] at hmk
  have hg1 := Lib.hid (heap_alloc_new w (.cells (nilsL n).toArray 31))
  have hb1 : Below w.heap.size w (w.alloc (.cells (nilsL n).toArray 31)) := (Below.refl _ _).alloc (Nat.le_refl _) _
  have hs1 : (w.alloc (.cells (nilsL n).toArray 31)).heap.size = w.heap.size + 1 := by simp
  generalize w.alloc (.cells (nilsL n).toArray 31) = w1 at *
  clear hl hi hz h1 h2 e
  have HN := Lib.hid hn
  go_enter Tryd.func28, Tryd.ntmps28
  go_wp2
  go_loopw [11] (fun s wr => ∃ (k : Nat) (vs : List Value), s = .int .i64 (k : Int) ∧ k ≤ n ∧ Vlt (wr.heap[w.heap.size]? = some (.cells (vs ++ nilsL (n - k)).toArray 31 (0, 0))) ∧ Vlt (PR wr (w.heap.size + 1) vs (ps.take k)) ∧ Below w.heap.size w wr ∧ w.heap.size < wr.heap.size)
    (fun s _ => n - (intOf s).toNat)
  case atStart => exact ⟨0, [], rfl, Nat.zero_le _, vlt hg1.out, vlt PR.nil, hb1, by omega⟩
  case round =>
    obtain ⟨k, vs, rfl, hk, hgr, hpl, hbr, hsr⟩ := hrel
    by_cases hlt : k < n
    · obtain ⟨b, o, Aj, nj, cj, p, rfl, hblt, hcell, hpk, hpj, hcj, hbp⟩ := hp.at_ (k := k) (by rw [HL.out]; exact hlt)
      have hcell2 : wr.cell? ⟨b, o + k, none⟩ = some (.slice Aj nj cj) := (hbr.cell (p := ⟨b, o + k, none⟩) hblt).trans hcell
      have hbp2 := ((hbp.below hbr).up hbr.size)
      have hnj : nj ≤ 1099511627776 := by
        have h := hps p (List.mem_of_getElem? hpk.out)
        rw [hpj.out] at h; exact h
      have hcl := bclone_any wr Aj p nj cj hbp2 hpj.out (by omega)
      have hvk : Hid (vs.length = k) := show _ = _ by rw [hpl.out.1, List.length_take, HL.out]; omega
      clear hcell hbp
      go_wp2_with fail
      refine hcl.mono ?_
      rintro e w3 ⟨A3, c3, rfl, hr3, hb3⟩
      clear hcl
      obtain ⟨m, hm⟩ : ∃ m, n - k = m + 1 := ⟨n - k - 1, by omega⟩
      have hgr3 : Hid (w3.heap[w.heap.size]? = some (.cells (vs ++ nilsL (m + 1)).toArray 31 (0, 0))) := by
        show _ = _
        rw [hb3.block _ hsr, ← hm]; exact hgr.out
      have hset := world_set_cell hgr3.out k (.slice A3 nj c3)
      have hcc3 : w3.cell? ⟨w.heap.size, k, none⟩ = some (.slice none 0 0) := by
        rw [cell_of_row _ _ _ _ _ _ hgr3.out]
        simp [hvk.out, nilsL]
      have hff3 : w3.frozen? ⟨w.heap.size, k, none⟩ = false := frozen_of_row _ _ _ _ _ hgr3.out
      have hvs2 : (vs ++ nilsL (m + 1)).set k (.slice A3 nj c3) = (vs ++ [.slice A3 nj c3]) ++ nilsL m := by
        have h := nils_set vs m (.slice A3 nj c3)
        rw [hvk.out] at h; exact h
      rw [hvs2] at hset
      have hw4 : Below w.heap.size w (w3.setCell ⟨w.heap.size, k, none⟩ (.slice A3 nj c3)) := (hbr.trans (hb3.mono (by omega))).setCell (Nat.le_refl _) _
      have hPL4 : Vlt (PR (w3.setCell ⟨w.heap.size, k, none⟩ (.slice A3 nj c3)) (w.heap.size + 1) (vs ++ [.slice A3 nj c3]) (ps.take (k + 1))) := by
        have e1 : ps.take (k + 1) = ps.take k ++ [p] := by rw [List.take_add_one, hpk.out]; rfl
        rw [e1]
        exact vlt (((hpl.out.keep hb3).snoc (hr3.base_le (by omega)) hpj.out).set (Nat.lt_succ_self _) _)
      have hsz4 : w.heap.size < (w3.setCell ⟨w.heap.size, k, none⟩ (.slice A3 nj c3)).heap.size := by
        have h := hb3.size
        have h2 : (w3.setCell ⟨w.heap.size, k, none⟩ (.slice A3 nj c3)).heap.size = w3.heap.size := by simp
        omega
      clear hgr hgr3 hpl hr3 hb3 hvs2 hbr
      have hmk2 : m = n - (k + 1) := by omega
      go_wp2
      go_roundw
      case rel => exact ⟨k + 1, _, by go_num, by omega, vlt (by rw [← hmk2]; exact hset.out), hPL4, hw4, hsz4⟩
      case measure => simp [intOf]; omega
    · obtain rfl : k = n := by omega
      have hgE : Vlt (wr.heap[w.heap.size]? = some (.cells vs.toArray 31 (0, 0))) := by
        have h := hgr.out
        rw [Nat.sub_self] at h
        simp only [nilsL, List.replicate_zero, List.append_nil] at h
        exact vlt h
      have hpE : Vlt (PR wr (w.heap.size + 1) vs ps) := by
        have h := hpl.out
        rw [List.take_of_length_le (by rw [HL.out]; exact Nat.le_refl _)] at h
        exact vlt h
      clear hgr hpl
      go_wp2
      go_ret
      exact ⟨rfl, ⟨vs, hgE.out, hpE.out⟩, hbr⟩

section
variable {w0 W W' : World} {j d N room NB B LB safe : Nat} {S : Dk} {J : Jv} {base : List UInt8} {recs : Rcs} {K : World → (Nat → Prop) → Prop}
set_option maxRecDepth 100000 in
theorem jall_res (h : Hold w0 W d N S (JnOb j d J) K) (hb : J.recs.length ≤ 1099511627776) (hps : ∀ p ∈ J.recs, p.length ≤ 1099511627776) :
    Calls Tryd.prog 13 #[.pointer (some ⟨j, 0, none⟩)] W fun e w' => ∃ m, e = .returned (.slice (some ⟨W.heap.size, 0, none⟩) m m) ∧ Hid (J.recs.length = m) ∧ (∃ vs, w'.heap[W.heap.size]? = some (.cells vs.toArray 31 (0, 0)) ∧ PR w' (W.heap.size + 1) vs J.recs) ∧ Below W.heap.size W w' := by
  obtain ⟨G, hob⟩ := h.obj
  obtain ⟨A, n, c, Q, m, k, ⟨c0, c1, c2, c3, c4, c5⟩, _, _, _, hA, hl, hc⟩ := hob.cells
  have hcl := clones_res W Q J.recs m k hA hl (by omega) hps
  have HL := Lib.hid hl
  clear hob hA hl hps h
  generalize J.recs = b at *
  go_enter Tryd.func13, Tryd.ntmps13
  go_wp2_with fail
  refine hcl.mono ?_
  rintro e w2 ⟨rfl, hv2, hb2⟩
  clear hcl
  go_wp2
  go_ret
  exact ⟨m, rfl, HL, hv2, hb2⟩
theorem lw_own (h : Lw w0 W j d room NB B LB base recs safe K) (hb : recs.length ≤ 1099511627776) :
    Calls Tryd.prog 13 #[.pointer (some ⟨j, 0, none⟩)] W fun e w' => ∃ m, e = .returned (.slice (some ⟨W.heap.size, 0, none⟩) m m) ∧ Hid (recs.length = m) ∧ (∃ vs, w'.heap[W.heap.size]? = some (.cells vs.toArray 31 (0, 0)) ∧ PR w' (W.heap.size + 1) vs recs) ∧ Below W.heap.size W w' := by
  obtain ⟨N, S, J, h4, h5, h6, h7, h8, h9, h10, h11, h12⟩ := h
  subst h11
  exact jall_res h6 hb fun p hp => by have := h7.ok p hp; omega
/-- A list that a law makes beside the disk. -/
def KO (b0 : Nat) (Q : Option Addr) (m c : Nat) (qs : Rcs) : World → (Nat → Prop) → Prop := fun W F => ∃ D vs, W.ownsRow 0 31 1 (.slice Q m c) m vs ∧ AtF (fun i => F i ∧ b0 ≤ i) Q ∧ (∀ i, D i → F i ∧ i < W.heap.size) ∧ AtF (fun i => ¬ D i) Q ∧ PL W D vs qs
theorem kO (b0 : Nat) (Q : Option Addr) (m c : Nat) (qs : Rcs) : Kp (KO b0 Q m c qs) :=
  ⟨fun ⟨D, vs, h1, h2, h3, h4, h5⟩ hb hd => ⟨D, vs, owns_keep h1 fun i hi hv => hb.block i hi (hd i hi (by
      cases Q with
      | none => simp [Value.ownBlock] at hv
      | some a => simp [Value.ownBlock] at hv; rw [← hv]; exact (h2 a rfl).1)), h2, fun i hi => ⟨(h3 i hi).1, Nat.lt_of_lt_of_le (h3 i hi).2 hb.size⟩, h4, h5.off hb fun i hi hD => hd i hi (h3 i hD).1⟩,
   fun ⟨D, vs, h1, h2, h3, h4, h5⟩ hG => ⟨D, vs, h1, fun a ha => ⟨hG _ (owns_lt h1 a ha) (h2 a ha).1, (h2 a ha).2⟩, fun i hi => ⟨hG i (h3 i hi).2 (h3 i hi).1, (h3 i hi).2⟩, h4, h5⟩⟩
theorem KO.prt {b0 : Nat} {Q : Option Addr} {m c : Nat} {qs : Rcs} {F : Nat → Prop} (h : KO b0 Q m c qs W F) : Prt W W.heap.size Q qs := by
  obtain ⟨D, vs, h1, h2, h3, h4, h5⟩ := h
  exact PrtF.prt (own_prtF h1 (h5.mono fun _ _ _ => trivial) (F := fun _ => True) fun _ _ => trivial)
/-- Kept data turns, in blocks of its own. -/
theorem Hold.turnK {P K2 : World → (Nat → Prop) → Prop} (hP : Obj2 P) (hK2 : Kp K2) (h : Hold w0 W d N S P K) (hs : ∀ F, K W F → ∃ T : Nat → Prop, (∀ i, T i → F i ∧ w0.heap.size ≤ i) ∧ Off T W W' ∧ K2 W' (fun i => F i ∨ W.heap.size ≤ i)) : Hold w0 W' d N S P K2 := by
  have hlow : ∀ O, DkIs W O d N S → ∀ i, O i ≠ none → i < W.heap.size := fun O h => h.low
  obtain ⟨O, G, h1, h2, h3, h4, h5, h6, h7⟩ := h
  obtain ⟨T, h8, h9, h10⟩ := hs _ h7
  refine ⟨O, G, h1.off h9 (fun i hi hT => hi (h8 i hT).1.1), hP.off h2 h9 (fun i hi hT => (h8 i hT).1.2 hi), h3, h4, h5, h9.below h6 (fun i hi => (h8 i hi).2) h6.size, hK2.mono h10 fun i _ hi => ?_⟩
  rcases hi with hi | hi
  · exact hi
  · refine ⟨?_, fun hG => by have := hP.low h2 i hG; omega⟩
    cases hO : O i with
    | none => rfl
    | some y => have := hlow O h1 i (by rw [hO]; simp); omega
/-- A row's cells are known. -/
theorem own_one {Q : Option Addr} {m c : Nat} {vs vs2 : List Value} {E : TypeId} (h2 : W.ownsRow 0 E 1 (.slice Q m c) m vs) (h7 : W.ownsRow 0 E 1 (.slice Q m c) m vs2) : vs2 = vs := by
  rcases h2.2 with ⟨hv, h0⟩ | ⟨g, cap, cur, hv, _, hg, _, _, _, ht⟩
  · simp only [Value.slice.injEq] at hv
    have a1 := h2.1
    have a2 := h7.1
    rw [hv.2.1] at a1 a2
    rw [List.eq_nil_of_length_eq_zero (l := vs) (by simpa using a1), List.eq_nil_of_length_eq_zero (l := vs2) (by simpa using a2)]
  · rcases h7.2 with ⟨hv2, _⟩ | ⟨g2, cap2, cur2, hv2, _, hg2, _, _, _, ht2⟩
    · rw [hv] at hv2; simp at hv2
    · rw [hv] at hv2
      simp only [Value.slice.injEq, Option.some.injEq, Addr.mk.injEq, and_true] at hv2
      obtain ⟨e1, _⟩ := hv2
      subst e1
      rw [hg] at hg2
      injection hg2 with hg2
      injection hg2 with e1
      subst e1
      rw [← ht, ← ht2]
theorem Lw.turnK {K2 : World → (Nat → Prop) → Prop} (hK2 : Kp K2) (h : Lw w0 W j d room NB B LB base recs safe K) (hs : ∀ F, K W F → ∃ T : Nat → Prop, (∀ i, T i → F i ∧ w0.heap.size ≤ i) ∧ Off T W W' ∧ K2 W' (fun i => F i ∨ W.heap.size ≤ i)) : Lw w0 W' j d room NB B LB base recs safe K2 := by
  obtain ⟨N, S, J, h1, h2, h3, h4⟩ := h
  exact ⟨N, S, J, h1, h2, h3.turnK (jnOb _ _ _) hK2 hs, h4⟩
/-- append onto such a list, out of blocks that are new. -/
theorem Lw.push {U : World} {Q Q' : Option Addr} {m c r c' : Nat} {qs ps : Rcs} {us vs0 : List Value} (h : Lw w0 U j d room NB B LB base recs safe (KO w0.heap.size Q m c qs)) (hUW : Below U.heap.size U W) (hus : PL W (fun i => U.heap.size ≤ i) us ps)
    (hown0 : W.ownsRow 0 31 1 (.slice Q m c) m vs0) (hown : W'.ownsRow 0 31 1 (.slice Q' (m + r) c') (m + r) (vs0 ++ us)) (hgr : W.grownBy W' (Q.map (·.block))) (hq : ∀ p, Q' = some p → (∃ q, Q = some q ∧ p.block = q.block) ∨ W.heap.size ≤ p.block) : Lw w0 W' j d room NB B LB base recs safe (KO w0.heap.size Q' (m + r) c' (qs ++ ps)) := by
  have hbel := h.bel
  refine h.turnK (kO _ _ _ _ _) fun F hK => ?_
  obtain ⟨D, vs, h1, h2, h3, h4, h5⟩ := hK
  have hofU : Off (fun _ => False) U W := Off.of_below hUW fun i a b => by omega
  have hof : Off (fun b => ∃ a, Q = some a ∧ b = a.block) W W' := grown_off hgr fun a ha => ⟨a, ha, rfl⟩
  have hlt := owns_lt h1
  have h1W : W.ownsRow 0 31 1 (.slice Q m c) m vs := owns_keep h1 fun i hi _ => hofU.block i hi fun h => h
  have e := own_one hown0 h1W
  subst e
  refine ⟨fun b => ∃ a, Q = some a ∧ b = a.block, fun i ⟨a, ha, e⟩ => by rw [e]; exact h2 a ha, (hofU.mono fun _ _ h => h.elim).trans hof (fun _ h => .inl h), fun i => D i ∨ (U.heap.size ≤ i ∧ i < W.heap.size), vs ++ us, hown, fun p hp => ?_, fun i hi => ?_, fun p hp hd => ?_, ?_⟩
  · rcases hq p hp with ⟨q, hq, e⟩ | e
    · rw [e]; exact ⟨.inl (h2 q hq).1, (h2 q hq).2⟩
    · exact ⟨.inr (Nat.le_trans hUW.size e), Nat.le_trans hbel.size (Nat.le_trans hUW.size e)⟩
  · rcases hi with hi | hi
    · exact ⟨.inl (h3 i hi).1, Nat.lt_of_lt_of_le (h3 i hi).2 (Nat.le_trans hUW.size hof.size)⟩
    · exact ⟨.inr hi.1, Nat.lt_of_lt_of_le hi.2 hof.size⟩
  · rcases hq p hp with ⟨q, hq, e⟩ | e
    · rw [e] at hd
      rcases hd with hd | hd
      · exact h4 q hq hd
      · have := hlt q hq; omega
    · rcases hd with hd | hd
      · have := (h3 _ hd).2; have := hUW.size; omega
      · omega
  · refine PL.app ?_ ?_
    · exact ((h5.off hofU fun _ _ _ h => h).off hof fun b _ hb ⟨a, ha, e⟩ => h4 a ha (e ▸ hb)).mono fun i _ hi => .inl hi
    · refine ((hus.mono (G := fun i => U.heap.size ≤ i ∧ i < W.heap.size) fun i hi h => ⟨h, hi⟩).off hof fun b _ hb ⟨a, ha, e⟩ => ?_).mono fun i _ hi => .inr hi
      have := hlt a ha
      rw [e] at hb
      omega
end
end Go.Proofs.YtaklbgikoeedbaaDoor
