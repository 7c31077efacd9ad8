/-
  The document's own disk as an object: how it turns; the contracts of its On and Drop. Conditions: fewer than 2^40 files.
-/
import Derived.Test.YtnpaodhcaeofnaaRkE
namespace Go.Proofs.Ytnpaodhcaeofnaa
open Go.RowKit

structure Rk where
  room : Nat
  pf : Bool
  lives : Nat
  L : List (ByteArray × Rf)
def RkIs (w : World) (G : Nat → Prop) (r : Nat) (T : Rk) : Prop := ∃ D A n c xs, RkAt w D r A n c T.room T.pf T.lives xs T.L ∧ ∀ i, G i ↔ RkG D r A i
def OwnG (G G' : Nat → Prop) (B : Nat) : Prop := ∀ i, G' i → G i ∨ B ≤ i
theorem OwnG.refl {G : Nat → Prop} {B : Nat} : OwnG G G B := fun _ h => .inl h
section
variable {w w' w3 : World} {D G : Nat → Prop} {r n c room lives b : Nat} {A : Option Addr} {pf : Bool} {xs xs' : List Value} {L : List (ByteArray × Rf)} {T : Rk}
theorem RkIs.off {F : Nat → Prop} (h : RkIs w G r T) (hb : Off F w w') (hd : ∀ i, G i → ¬ F i) : RkIs w' G r T := by
  obtain ⟨D, A, n, c, xs, h1, h2⟩ := h
  exact ⟨D, A, n, c, xs, h1.off hb fun i hi => hd i ((h2 i).2 hi), h2⟩
theorem RkIs.low (h : RkIs w G r T) : ∀ i, G i → i < w.heap.size := by
  obtain ⟨D, A, n, c, xs, h1, h2⟩ := h
  exact fun i hi => h1.gLow i ((h2 i).1 hi)
/-- A new entry in the place of another. -/
theorem RkAt.putEnt (h : RkAt w D r (some ⟨b, 0, none⟩) n c room pf lives xs L) (hb3 : Below w.heap.size w w3) (hown : w'.ownsRow 0 56 3 (.slice (some ⟨b, 0, none⟩) n c) n xs') (hg : w3.grownBy w' (some b)) {i : Nat} (hi : i < n) {nm : ByteArray} {f : Rf} {As Aw : Option Addr} {ns cs nw cw : Nat}
    (hx0 : xs'[i * 3]? = some (.string nm)) (hx1 : xs'[i * 3 + 1]? = some (.slice As ns cs)) (hx2 : xs'[i * 3 + 2]? = some (.slice Aw nw cw)) (hxo : ∀ k, ¬ (i * 3 ≤ k ∧ k < i * 3 + 3) → xs'[k]? = xs[k]?)
    (hs : BytF w3 (fun k => D k ∨ w.heap.size ≤ k) As f.safe) (hsl : f.safe.length = ns) (hsc : ns ≤ cs) (hw : PrtF w3 (fun k => D k ∨ w.heap.size ≤ k) Aw f.ws) (hwl : f.ws.length = nw) (hwc : nw ≤ cw) :
    RkAt w' (fun k => D k ∨ (w.heap.size ≤ k ∧ k < w3.heap.size)) r (some ⟨b, 0, none⟩) n c room pf lives xs' (L.set i (nm, f)) ∧ Off (RkG D r (some ⟨b, 0, none⟩)) w w' := by
  have hbl : b < w.heap.size := owns3_lt h.own rfl
  have hof3 : Off (fun k => k = b) w w' := (Off.of_below (F := fun k => k = b) hb3 fun k h1 h2 => by omega).trans (G := fun k => k = b) ⟨hg.os, hg.tape, hg.output, hg.size, fun k hk hn => hg.block k hk fun e => hn (by injection e)⟩ fun i h => .inl h
  have hofg : Off (fun k => k = b) w3 w' := ⟨hg.os, hg.tape, hg.output, hg.size, fun k hk hn => hg.block k hk fun e => hn (by injection e)⟩
  have hbD : ¬ D b := h.aD _ rfl
  have hbr : r ≠ b := (owns3_ne h.own h.row (by decide) _ rfl).symm
  refine ⟨⟨(hof3.block r h.ltr hbr).trans h.row, hown, fun j x hx => ?_, by rw [List.length_set, h.len], fun hD => ?_, fun a ha hD => ?_, fun k hk => ?_⟩, hof3.mono fun k _ e => .inr (.inl ⟨_, rfl, e⟩)⟩
  · by_cases hj : i = j
    · subst hj
      rw [List.getElem?_set_self (by rw [h.len]; exact hi)] at hx
      injection hx with hx
      subst hx
      have hm : ∀ k, k < w'.heap.size → ((D k ∨ w.heap.size ≤ k) ∧ k < w3.heap.size) → (D k ∨ (w.heap.size ≤ k ∧ k < w3.heap.size)) := fun k _ h => h.1.imp id fun h' => ⟨h', h.2⟩
      have hd : ∀ k, k < w3.heap.size → ((D k ∨ w.heap.size ≤ k) ∧ k < w3.heap.size) → ¬ k = b := fun k _ h5 e => by
        rcases h5.1 with h6 | h6
        · exact hbD (e ▸ h6)
        · omega
      exact ⟨As, ns, cs, Aw, nw, cw, hx0, hx1, hx2, ((hs.mono (G := fun k => (D k ∨ w.heap.size ≤ k) ∧ k < w3.heap.size) fun k hk h => ⟨h, hk⟩).off hofg hd).mono hm, hsl, hsc, ((hw.mono (G := fun k => (D k ∨ w.heap.size ≤ k) ∧ k < w3.heap.size) fun k hk h => ⟨h, hk⟩).off hofg hd).mono hm, hwl, hwc⟩
    · rw [List.getElem?_set_ne hj] at hx
      refine (((h.ents j x hx).move (xs' := xs') (j' := j) fun k hk => hxo _ (by omega)).off hof3 fun k _ hk e => hbD (e ▸ hk)).mono fun k _ hk => .inl hk
  · rcases hD with hD | hD
    · exact h.rD hD
    · have := h.ltr; omega
  · injection ha with ha
    subst ha
    rcases hD with hD | hD
    · exact hbD hD
    · simp at hD; omega
  · rcases hk with hk | hk
    · exact Nat.lt_of_lt_of_le (h.low k hk) hof3.size
    · exact Nat.lt_of_lt_of_le hk.2 hg.size
theorem own_setsN {e size n c b : Nat} : ∀ (vs : List Value) (o : Nat) (w : World) (xs : List Value), w.ownsRow 0 e size (.slice (some ⟨b, 0, none⟩) n c) n xs → (w.setCells b o vs).ownsRow 0 e size (.slice (some ⟨b, 0, none⟩) n c) n (setsL xs o vs) ∧ w.grownBy (w.setCells b o vs) (some b)
  | [], o, w, xs, h => ⟨h, ⟨rfl, rfl, rfl, Nat.le_refl _, fun _ _ _ => rfl⟩⟩
  | v :: r, o, w, xs, h => by
    obtain ⟨h1, h2⟩ := h.stored o v
    obtain ⟨h3, h4⟩ := own_setsN r (o + 1) (w.setCell ⟨b, o, none⟩ v) _ h1
    exact ⟨h3, But.trans (g := b) h2 h4⟩
theorem sets_at {xs vs : List Value} {o : Nat} (h : o + vs.length ≤ xs.length) (k : Nat) : (setsL xs o vs)[k]? = if o ≤ k ∧ k < o + vs.length then vs[k - o]? else xs[k]? := by
  rw [setsL_eq vs xs o h, List.append_assoc]
  by_cases h1 : o ≤ k
  · rw [List.getElem?_append_right (by rw [List.length_take]; omega), List.length_take, Nat.min_eq_left (by omega)]
    by_cases h2 : k < o + vs.length
    · rw [if_pos ⟨h1, h2⟩, List.getElem?_append_left (by omega)]
    · rw [if_neg (by omega), List.getElem?_append_right (by omega), List.getElem?_drop]
      congr 1; omega
  · rw [if_neg (by omega), List.getElem?_append_left (by rw [List.length_take]; omega), List.getElem?_take_of_lt (by omega)]
theorem upd_set {L : List (ByteArray × Rf)} (h1 : One L) {i : Nat} {s : ByteArray} {f : Rf} (hx : L[i]? = some (s, f)) (f' : Rf) : L.set i (s, f') = upd L s fun _ => f' := by
  have hi := (List.getElem?_eq_some_iff.1 hx).1
  refine List.ext_getElem? fun j => ?_
  unfold upd
  rw [List.getElem?_map]
  by_cases hj : i = j
  · subst hj
    rw [List.getElem?_set_self hi, hx]
    simp
  · rw [List.getElem?_set_ne hj]
    cases hq : L[j]? with
    | none => rfl
    | some y =>
      have hne : ¬ y.1 = s := fun e => by
        have hjl := (List.getElem?_eq_some_iff.1 hq)
        have hil := (List.getElem?_eq_some_iff.1 hx)
        have hp := List.pairwise_iff_getElem.1 h1
        rcases Nat.lt_or_ge i j with hlt | hge
        · exact hp i j hi hjl.1 hlt (by rw [hil.2, hjl.2]; exact e.symm)
        · exact hp j i hjl.1 hi (by omega) (by rw [hil.2, hjl.2]; exact e)
      simp [hne]
theorem del_erase {L : List (ByteArray × Rf)} (h1 : One L) {i : Nat} {s : ByteArray} {f : Rf} (hx : L[i]? = some (s, f)) : L.eraseIdx i = del L s := by
  induction L generalizing i with
  | nil => simp at hx
  | cons y L ih =>
    have h2 := List.pairwise_cons.1 h1
    cases i with
    | zero =>
      simp at hx
      subst hx
      have hn : getL L s = none := by
        cases hq : getL L s with
        | none => rfl
        | some f2 => exact absurd rfl (h2.1 (s, f2) (mem_getL hq))
      have e : del ((s, f) :: L) s = del L s := by simp [del]
      rw [List.eraseIdx_zero, List.tail_cons, e, del_none hn]
    | succ i =>
      simp at hx
      have hne : ¬ y.1 = s := h2.1 _ (List.mem_of_getElem? hx)
      have e : del (y :: L) s = y :: del L s := by simp [del, hne]
      rw [List.eraseIdx_cons_succ, ih h2.2 hx, e]
end
end Go.Proofs.Ytnpaodhcaeofnaa
