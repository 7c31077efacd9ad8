/-
  The document's own disk in memory; the contracts of its May and find. Conditions: names up to 2^47 bytes, fewer than 2^40 files.
-/
import Derived.Test.YtnpaodhcaeofnaaDkQ
namespace Go.Proofs.Ytnpaodhcaeofnaa
open Go.RowKit

/-- A file of the document's own: its safe bytes, its writes. -/
structure Rf where
  safe : List UInt8
  ws : List (List UInt8)
def Rf.all (f : Rf) : List UInt8 := f.safe ++ f.ws.flatten
/-- The three cells of an entry. -/
def EntAt (w : World) (D : Nat → Prop) (xs : List Value) (i : Nat) (x : ByteArray × Rf) : Prop :=
  ∃ As ns cs Aw nw cw, xs[i * 3]? = some (.string x.1) ∧ xs[i * 3 + 1]? = some (.slice As ns cs) ∧ xs[i * 3 + 2]? = some (.slice Aw nw cw) ∧ BytF w D As x.2.safe ∧ x.2.safe.length = ns ∧ ns ≤ cs ∧ PrtF w D Aw x.2.ws ∧ x.2.ws.length = nw ∧ nw ≤ cw
structure RkAt (w : World) (D : Nat → Prop) (r : Nat) (A : Option Addr) (n c room : Nat) (pf : Bool) (lives : Nat) (xs : List Value) (L : List (ByteArray × Rf)) : Prop where
  row : w.heap[r]? = some (.cells #[.int .i64 (room : Int), .slice A n c, .bool pf, .int .i64 (lives : Int)] 31 (0, 0))
  own : w.ownsRow 0 56 3 (.slice A n c) n xs
  ents : ∀ i x, L[i]? = some x → EntAt w D xs i x
  len : L.length = n
  rD : ¬ D r
  aD : ∀ a, A = some a → ¬ D a.block
  low : ∀ i, D i → i < w.heap.size
section
variable {w w' : World} {D G : Nat → Prop} {r n c room lives : Nat} {A : Option Addr} {pf : Bool} {xs : List Value} {L : List (ByteArray × Rf)}
theorem EntAt.off {i : Nat} {x : ByteArray × Rf} (h : EntAt w D xs i x) (hb : Off G w w') (hd : ∀ i, i < w.heap.size → D i → ¬ G i) : EntAt w' D xs i x := by
  obtain ⟨As, ns, cs, Aw, nw, cw, h1, h2, h3, h4, h5, h6, h7, h8, h9⟩ := h
  exact ⟨As, ns, cs, Aw, nw, cw, h1, h2, h3, h4.off hb hd, h5, h6, h7.off hb hd, h8, h9⟩
theorem EntAt.mono {D' : Nat → Prop} {i : Nat} {x : ByteArray × Rf} (h : EntAt w D xs i x) (hd : ∀ i, i < w.heap.size → D i → D' i) : EntAt w D' xs i x := by
  obtain ⟨As, ns, cs, Aw, nw, cw, h1, h2, h3, h4, h5, h6, h7, h8, h9⟩ := h
  exact ⟨As, ns, cs, Aw, nw, cw, h1, h2, h3, h4.mono hd, h5, h6, h7.mono hd, h8, h9⟩
theorem owns3_lt {e size m k : Nat} {v : Value} (h : w.ownsRow 0 e size v m xs) (hk : v.ownBlock = some k) : k < w.heap.size := (h.lt k hk).2
theorem owns3_keep {e size m : Nat} {v : Value} (h : w.ownsRow 0 e size v m xs) (hb : ∀ k, k < w.heap.size → v.ownBlock = some k → w'.heap[k]? = w.heap[k]?) : w'.ownsRow 0 e size v m xs := by
  refine ⟨h.1, ?_⟩
  rcases h.2 with hn | ⟨g, cap, cur, rfl, hB, hg, r⟩
  · exact .inl hn
  · exact .inr ⟨g, cap, cur, rfl, hB, (hb g (Array.getElem?_eq_some_iff.1 hg).1 rfl).trans hg, r⟩
/-- Of an owned row: its block is not one of another type. -/
theorem owns3_ne {e size m t g : Nat} {cs : Array Value} (h : w.ownsRow 0 e size (.slice A n c) m xs) (hg : w.heap[g]? = some (.cells cs t (0, 0))) (ht : e ≠ t) : AtF (fun i => i ≠ g) A := fun a ha e1 => by
  subst ha
  rcases h.2 with ⟨h1, _⟩ | ⟨g', cap, cur, h1, _, h2, _⟩
  · simp at h1
  · simp only [Value.slice.injEq, Option.some.injEq] at h1
    rw [h1.1] at e1
    rw [show g' = g from e1, hg] at h2
    injection h2 with h2
    injection h2 with _ h2 _
    exact ht h2.symm
theorem RkAt.ltr (h : RkAt w D r A n c room pf lives xs L) : r < w.heap.size := (Array.getElem?_eq_some_iff.1 h.row).1
/-- All that the object has. -/
def RkG (D : Nat → Prop) (r : Nat) (A : Option Addr) : Nat → Prop := fun i => i = r ∨ (∃ a, A = some a ∧ i = a.block) ∨ D i
theorem RkAt.off (h : RkAt w D r A n c room pf lives xs L) (hb : Off G w w') (hd : ∀ i, RkG D r A i → ¬ G i) : RkAt w' D r A n c room pf lives xs L where
  row := (hb.block r h.ltr (hd r (.inl rfl))).trans h.row
  own := owns3_keep h.own fun k hk hv => hb.block k hk (hd k (by
    cases A with
    | none => simp [Value.ownBlock] at hv
    | some a => simp [Value.ownBlock] at hv; exact .inr (.inl ⟨a, rfl, hv.symm⟩)))
  ents := fun i x hx => (h.ents i x hx).off hb fun i _ hi => hd i (.inr (.inr hi))
  len := h.len
  rD := h.rD
  aD := h.aD
  low := fun i hi => Nat.lt_of_lt_of_le (h.low i hi) hb.size
theorem RkAt.gLow (h : RkAt w D r A n c room pf lives xs L) : ∀ i, RkG D r A i → i < w.heap.size := fun i hi => by
  rcases hi with rfl | ⟨a, ha, rfl⟩ | hi
  · exact h.ltr
  · subst ha; exact owns3_lt h.own rfl
  · exact h.low i hi
theorem RkAt.size (h : RkAt w D r A n c room pf lives xs L) : n ≤ c ∧ xs.length = n * 3 := by
  have h1 := h.own.1
  rcases h.own.2 with ⟨h2, h3⟩ | ⟨g', cap, cur, h2, _, _, h5, _⟩
  · simp only [Value.slice.injEq] at h2; omega
  · simp only [Value.slice.injEq] at h2; omega
/-- The cells of entry i. -/
theorem RkAt.ent (h : RkAt w D r A n c room pf lives xs L) {i : Nat} {x : ByteArray × Rf} (hx : L[i]? = some x) :
    ∃ b As ns cs Aw nw cw, A = some ⟨b, 0, none⟩ ∧ i < n ∧ w.cell? ⟨b, i * 3, none⟩ = some (.string x.1) ∧ w.cell? ⟨b, i * 3 + 1, none⟩ = some (.slice As ns cs) ∧ w.cell? ⟨b, i * 3 + 2, none⟩ = some (.slice Aw nw cw) ∧
      BytF w D As x.2.safe ∧ x.2.safe.length = ns ∧ ns ≤ cs ∧ PrtF w D Aw x.2.ws ∧ x.2.ws.length = nw ∧ nw ≤ cw := by
  have hi : i < n := by rw [← h.len]; exact (List.getElem?_eq_some_iff.1 hx).1
  obtain ⟨As, ns, cs, Aw, nw, cw, h1, h2, h3, h4⟩ := h.ents i x hx
  have hlen := h.size
  rcases h.own.2 with ⟨h6, h7⟩ | ⟨b, cap, cur, h6, hb, hg, h8, _⟩
  · omega
  · have h9 := h6
    simp only [Value.slice.injEq] at h6
    obtain ⟨rfl, _, rfl⟩ := h6
    exact ⟨b, As, ns, cs, Aw, nw, cw, rfl, hi, (World.ownsRow.cellAt h.own (i * 3) (by omega)).trans h1, (World.ownsRow.cellAt h.own (i * 3 + 1) (by omega)).trans h2, (World.ownsRow.cellAt h.own (i * 3 + 2) (by omega)).trans h3, h4⟩
theorem row4 {t : Nat} {a b e f : Value} (h : w.heap[r]? = some (.cells #[a, b, e, f] t (0, 0))) : (w.cell? ⟨r, 0, none⟩ = some a ∧ w.cell? ⟨r, 1, none⟩ = some b ∧ w.cell? ⟨r, 2, none⟩ = some e ∧ w.cell? ⟨r, 3, none⟩ = some f) ∧ w.frozen? ⟨r, 1, none⟩ = false ∧ w.frozen? ⟨r, 2, none⟩ = false ∧ w.frozen? ⟨r, 3, none⟩ = false :=
  ⟨⟨by rw [cell_of_row _ _ _ _ _ _ h]; rfl, by rw [cell_of_row _ _ _ _ _ _ h]; rfl, by rw [cell_of_row _ _ _ _ _ _ h]; rfl, by rw [cell_of_row _ _ _ _ _ _ h]; rfl⟩, frozen_of_row _ _ _ _ _ h, frozen_of_row _ _ _ _ _ h, frozen_of_row _ _ _ _ _ h⟩
end

set_option maxRecDepth 100000 in
theorem rmay_any (s : ByteArray) (w : World) (hs : s.size ≤ 140737488355328) : Calls Try.prog 30 #[.string s] w fun e w' => e = .returned (.bool (may s)) ∧ w' = w := by
  by_cases h1 : 1 ≤ s.size
  · by_cases h2 : s.size ≤ 20
    · have h1' : ¬ (s.size : Int) < 1 := by omega
      have h2' : ¬ (20 : Int) < (s.size : Int) := by omega
      go_enter Try.func30, Try.ntmps30
      go_wp2
      go_loopw [3] (fun i wr => ∃ k : Nat, i = .int .i64 (k : Int) ∧ k ≤ s.size ∧ Vlt ((s.data.toList.take k).all mayB = true) ∧ wr = w) (fun i _ => s.size - (intOf i).toNat)
      case atStart => exact ⟨0, rfl, Nat.zero_le _, vlt rfl, rfl⟩
      case round =>
        obtain ⟨k, rfl, hk, h0, rfl⟩ := hrel
        by_cases hlt : k < s.size
        · have hb : s.data.toList[k]? = some s[k] := by
            show _ = some s.data[k]
            rw [List.getElem?_eq_getElem (by simpa using hlt)]; simp
          by_cases h3 : s[k].toNat < 33
          · have HN := vlt (show may s = false by
              have h2 := all_no (p := mayB) hb (by simp [mayB]; omega)
              unfold may; rw [h2]; simp)
            have h3' : (s[k].toNat : Int) < 33 := by omega
            clear hb h0
            go_wp2
            go_ret
            exact ⟨by rw [HN.out]; rfl, rfl⟩
          · have h3' : ¬ (s[k].toNat : Int) < 33 := by omega
            by_cases h4 : 126 < s[k].toNat
            · have HN := vlt (show may s = false by
                have h2 := all_no (p := mayB) hb (by simp [mayB]; omega)
                unfold may; rw [h2]; simp)
              have h4' : (126 : Int) < (s[k].toNat : Int) := by omega
              clear hb h0
              go_wp2
              go_ret
              exact ⟨by rw [HN.out]; rfl, rfl⟩
            · have h4' : ¬ (126 : Int) < (s[k].toNat : Int) := by omega
              have HT := vlt (all_take h0.out hb (by simp [mayB]; omega))
              clear hb h0
              go_wp2
              go_roundw
              case rel => exact ⟨k + 1, by go_num, by omega, HT, trivial⟩
              case measure => simp [intOf]; omega
        · obtain rfl : k = s.size := by omega
          have HM := vlt (show may s = true by
            have h5 := h0.out
            rw [List.take_of_length_le (by simp)] at h5
            unfold may; rw [h5]; simp [h1, h2])
          clear h0 hlt
          go_wp2
          go_ret
          exact ⟨by rw [HM.out]; rfl, rfl⟩
    · have HM := vlt (show may s = false by simp [may]; omega)
      have h1' : ¬ (s.size : Int) < 1 := by omega
      have h2' : (20 : Int) < (s.size : Int) := by omega
      go_enter Try.func30, Try.ntmps30
      go_wp2
      go_ret
      exact ⟨by rw [HM.out]; rfl, rfl⟩
  · have HM := vlt (show may s = false by simp [may]; omega)
    have h1' : (s.size : Int) < 1 := by omega
    go_enter Try.func30, Try.ntmps30
    go_wp2
    go_ret
    exact ⟨by rw [HM.out]; rfl, rfl⟩

/-- Where a file stands. -/
def idxL (L : List (ByteArray × Rf)) (s : ByteArray) : Option Nat := L.findIdx? fun x => decide (x.1 = s)
def idxI : Option Nat → Int
  | some i => (i : Int)
  | none => -1
theorem bytes_eq {s t : ByteArray} (h : s = t) : (s.toList == t.toList) = true := by subst h; simp
set_option maxRecDepth 100000 in
theorem rfind_any (w : World) (D : Nat → Prop) (r n c room lives : Nat) (A : Option Addr) (pf : Bool) (xs : List Value) (L : List (ByteArray × Rf)) (h : RkAt w D r A n c room pf lives xs L) (hn : n ≤ 1099511627776) (s : ByteArray) :
    Calls Try.prog 31 #[.pointer (some ⟨r, 0, none⟩), .string s] w fun e w' => e = .returned (.int .i64 (idxI (idxL L s))) ∧ w' = w := by
  obtain ⟨⟨c0, c1, c2, c3⟩, _⟩ := row4 h.row
  have hlen := h.len
  have hnc := h.size.1
  go_enter Try.func31, Try.ntmps31
  go_wp2
  go_loopw [5] (fun i wr => ∃ k : Nat, i = .int .i64 (k : Int) ∧ k ≤ n ∧ Vlt (∀ j x, j < k → L[j]? = some x → ¬ x.1 = s) ∧ wr = w) (fun i _ => n - (intOf i).toNat)
  case atStart => exact ⟨0, rfl, Nat.zero_le _, vlt (fun j x hj => by omega), rfl⟩
  case round =>
    obtain ⟨k, rfl, hk, h0, rfl⟩ := hrel
    by_cases hlt : k < n
    · have hx : L[k]? = some L[k] := List.getElem?_eq_getElem (by omega)
      obtain ⟨b, As, ns, cs, Aw, nw, cw, rfl, hi, hc1, hc2, hc3, _⟩ := h.ent hx
      by_cases he : L[k].1 = s
      · have HI := vlt (show idxL L s = some k by
          unfold idxL
          rw [List.findIdx?_eq_some_iff_getElem]
          refine ⟨by omega, by simpa using he, fun j hj => ?_⟩
          have := h0.out j _ hj (List.getElem?_eq_getElem (by omega))
          simpa using this)
        have hbe := bytes_eq he
        clear h h0 hx he
        generalize L[k].1 = nm at *
        go_wp2
        go_ret
        exact ⟨by rw [HI.out]; rfl, rfl⟩
      · have hbe := bytes_ne he
        have H0 := vlt (show ∀ j x, j < k + 1 → L[j]? = some x → ¬ x.1 = s from fun j x hj hjx => by
          rcases Nat.lt_or_ge j k with h' | h'
          · exact h0.out j x h' hjx
          · obtain rfl : j = k := by omega
            rw [hx] at hjx
            injection hjx with hjx
            rw [← hjx]; exact he)
        clear h h0 hx he
        generalize L[k].1 = nm at *
        go_wp2
        go_roundw
        case rel => exact ⟨k + 1, by go_num, by omega, H0, trivial⟩
        case measure => simp [intOf]; omega
    · obtain rfl : k = n := by omega
      have HI := vlt (show idxL L s = none by
        unfold idxL
        rw [List.findIdx?_eq_none_iff]
        intro x hx
        obtain ⟨j, hj, rfl⟩ := List.getElem_of_mem hx
        have := h0.out j _ (by omega) (List.getElem?_eq_getElem hj)
        simpa using this)
      clear h h0
      go_wp2
      go_ret
      exact ⟨by rw [HI.out]; rfl, rfl⟩
end Go.Proofs.Ytnpaodhcaeofnaa
