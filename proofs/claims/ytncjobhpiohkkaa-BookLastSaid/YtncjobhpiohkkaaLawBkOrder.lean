/-
  Law BookOrder. Conditions: none.
-/
import Derived.Test.YtncjobhpiohkkaaPkE
import Derived.Test.YtncjobhpiohkkaaPkF
import Derived.Test.YtncjobhpiohkkaaPkA
namespace Go.Proofs.Ytncjobhpiohkkaa
open Go.RowKit

theorem eql_dot2 (x y : Ed) (o : Bool) (ho : decide (x.dev = y.dev ∧ x.num = y.num) = o) (w : World) : (binOp .eql 28 (.agg [.int .i64 x.dev, .int .i64 x.num].toArray) (.agg [.int .i64 y.dev, .int .i64 y.num].toArray)).run Try.prog w = .ok (.bool o) w := by
  rw [run_eql_struct, eq_dot 9998, ho]; rfl
theorem dot_mid {w : World} {g off : Nat} {e : Ed} (h : w.rangeAt g off e.cells) : w.rangeAt g off [.int .i64 e.dev, .int .i64 e.num] := fun j v hj => h j v (by
  match j, hj with
  | 0, hj => exact hj
  | 1, hj => exact hj)
structure Ord (l : List Ed) (i : Nat) (La Lb : List Ed) : Prop where
  one : ∃ es, La = badds [] es ∧ es.length = 2 * i ∧ ∀ x, x ∈ es ↔ x ∈ l.take i
  two : ∃ fs, Lb = badds [] fs ∧ fs.length = i ∧ ∀ x, x ∈ fs ↔ x ∈ l.drop (l.length - i)
  fork : ∀ j k x y, k < j → j < i → l[j]? = some x → l[k]? = some y → sdot x y → x = y
theorem badds_add {L es : List Ed} {x : Ed} : badds L (es ++ [x]) = (badd (badds L es) x).1 := by rw [badds, badds, List.foldl_append]; rfl
theorem Ord.nil (l : List Ed) : Ord l 0 [] [] := ⟨⟨[], rfl, rfl, fun x => by simp⟩, ⟨[], rfl, rfl, fun x => by simp⟩, fun j k x y _ h => by omega⟩
theorem Ord.step {l : List Ed} {i : Nat} {La Lb : List Ed} {x y : Ed} (h : Ord l i La Lb) (hx : l[i]? = some x) (hy : l[l.length - 1 - i]? = some y) (hf : ∀ k z, k < i → l[k]? = some z → sdot x z → x = z) : Ord l (i + 1) (badd (badd La x).1 x).1 (badd Lb y).1 := by
  obtain ⟨es, rfl, h2, h3⟩ := h.one
  obtain ⟨fs, rfl, h5, h6⟩ := h.two
  have hi := (List.getElem?_eq_some_iff.1 hx).1
  refine ⟨⟨es ++ [x] ++ [x], by rw [badds_add, badds_add], by simp; omega, fun z => ?_⟩, ⟨fs ++ [y], by rw [badds_add], by simp; omega, fun z => ?_⟩, fun j k u v hkj hj hu hv hs => ?_⟩
  · rw [List.take_add_one, hx]
    simp [h3]
  · have e1 : l.length - i = l.length - 1 - i + 1 := by omega
    have e2 : l.length - (i + 1) = l.length - 1 - i := by omega
    obtain ⟨hlt, he⟩ := List.getElem?_eq_some_iff.1 hy
    rw [e2, List.drop_eq_getElem_cons hlt, he, List.mem_append, h6, e1]
    simp [or_comm]
  · by_cases hji : j = i
    · subst hji
      rw [hx] at hu; cases hu
      exact hf k v hkj hv hs
    · exact h.fork j k u v hkj (by omega) hu hv hs
theorem Ord.all {l : List Ed} {La Lb : List Ed} (h : Ord l l.length La Lb) : (∀ x ∈ l, ∀ y ∈ l, sdot x y → x = y) := by
  intro x hx y hy hs
  obtain ⟨j, hj, rfl⟩ := List.mem_iff_getElem.1 hx
  obtain ⟨k, hk, rfl⟩ := List.mem_iff_getElem.1 hy
  rcases Nat.lt_trichotomy k j with hlt | rfl | hlt
  · exact h.fork j k _ _ hlt hj (List.getElem?_eq_getElem hj) (List.getElem?_eq_getElem hk) hs
  · rfl
  · exact (h.fork k j _ _ hlt hk (List.getElem?_eq_getElem hk) (List.getElem?_eq_getElem hj) ⟨hs.1.symm, hs.2.symm⟩).symm
/-- The second round of the other one. -/
structure Ord2 (l : List Ed) (j : Nat) (Lb : List Ed) : Prop where
  two : ∃ fs, Lb = badds [] fs ∧ fs.length = l.length + j ∧ ∀ x, x ∈ fs ↔ x ∈ l
theorem Ord2.step {l : List Ed} {j : Nat} {Lb : List Ed} {y : Ed} (h : Ord2 l j Lb) (hy : y ∈ l) : Ord2 l (j + 1) (badd Lb y).1 := by
  obtain ⟨fs, rfl, h5, h6⟩ := h.two
  refine ⟨fs ++ [y], by rw [badds_add], by simp; omega, fun z => ?_⟩
  rw [List.mem_append, h6, List.mem_singleton]
  exact ⟨fun h => h.elim id fun e => e ▸ hy, .inl⟩
theorem EdsP.eight {w : World} {B : Nat} {A : Option Addr} {es : List Ed} (h : EdsP w B A es) : ∀ x ∈ es, x.seen.length = 8 := by
  intro x hx
  obtain ⟨i, hi, rfl⟩ := List.mem_iff_getElem.1 hx
  rcases h with rfl | ⟨g, o, _, _, hc⟩
  · simp at hi
  · exact (hc i _ (List.getElem?_eq_getElem hi)).2
theorem EdsP.rng2 {w : World} {g o : Nat} {es : List Ed} (h : EdsP w w.heap.size (some ⟨g, o, none⟩) es) {i : Nat} {e : Ed} (hi : es[i]? = some e) : ∀ w', Below w.heap.size w w' → w'.rangeAt g (o + i * 15) e.cells := by
  rcases h with rfl | ⟨g', o', hA, hg, hc⟩
  · simp at hi
  · injection hA with hA
    injection hA with e1 e2
    subst e1 e2
    exact fun w' hb j v hj => (hb.cell (p := ⟨g, o + i * 15 + j, none⟩) hg).trans ((hc i _ hi).1 j v hj)
theorem order_end {l La Lb : List Ed} {La0 : List Ed} (h1 : Ord l l.length La La0) (h2 : Ord2 l l.length Lb) (h8 : ∀ x ∈ l, x.seen.length = 8) (h40 : l.length ≤ 40) : La = Lb := by
  obtain ⟨es, rfl, h3, h4⟩ := h1.one
  obtain ⟨fs, rfl, h5, h6⟩ := h2.two
  rw [List.take_length] at h4
  exact order_same (fun x hx y hy => h1.all x ((h4 x).1 hx) y ((h4 y).1 hy)) (fun x hx => h8 x ((h4 x).1 hx)) (fun x => (h4 x).trans (h6 x).symm) (by omega) (by omega)
theorem contacts_bs {w0 w : World} {S : List (Nat × List Ed)} {b : Nat} {L : List Ed} (h : Bks w0.heap.size w S) (hl : Below w0.heap.size w0 w) (k : Nat) (hk : S[k]? = some (b, L)) : Calls Try.prog 19 #[.pointer (some ⟨b, 0, none⟩)] w fun x w' => ∃ A c, x = .returned (.slice A (bcons L).length c) ∧ TR w' A (bcons L) ∧ Bks w0.heap.size w' S ∧ Below w0.heap.size w0 w' ∧ Below w.heap.size w w' := by
  obtain ⟨F, hb, _⟩ := h.get hk
  refine (contacts_any hb).mono ?_
  rintro x w' ⟨A, c, rfl, h1, h2⟩
  exact ⟨A, c, rfl, h1, h.next h2, below_next hl hl.size h2, h2⟩
theorem bcons_few (L : List Ed) (hL : BGood L) : (bcons L).length ≤ 1048576 := by
  have h : ∀ (l r : List ByteArray), (usorts tlt r l).length ≤ r.length + l.length := by
    intro l
    induction l with
    | nil => intro r; simp [usorts]
    | cons y l ih =>
      intro r
      have h1 := ih (insU tlt y r)
      have h2 : (insU tlt y r).length ≤ r.length + 1 := by
        rw [insU]; split
        · omega
        · rw [ins_len]; omega
      rw [show usorts tlt r (y :: l) = usorts tlt (insU tlt y r) l from rfl, List.length_cons]
      omega
  have h1 := h ((blive L).map (·.con)) []
  have h2 : (blive L).length ≤ L.length := by
    rw [blive, isorts_len]
    have := List.length_filter_le (isLive L) L
    simp; omega
  have h3 := hL.few
  rw [bcons]
  simp at h1
  omega
set_option maxRecDepth 100000 in
set_option maxHeartbeats 8000000 in
theorem walk_BookOrder (w : World) (A1 : Option Addr) (l : List Ed) (n c : Nat) (b1 : EdsP w w.heap.size A1 l) (e1 : l.length = n) (_ : n ≤ c) (t : Int) (_ : (Lit.int .i64 t).wf = true) :
    Calls Try.prog 4 #[.slice A1 n c, .int .i64 t] w fun x w' => x = .returned (.bool true) ∧ Below w.heap.size w w' := by
  have HN := Lib.hid e1
  have H8 := vlt b1.eight
  clear e1
  have DA := vlt (awake_any w)
  go_enter Try.func4, Try.ntmps4
  go_upto_region 3 with (go_at_call 9; refine DA.out.mono ?_; rintro e v0 ⟨rfl, hv0⟩; clear DA)
  by_cases h30 : n ≤ 40
  case neg =>
    have h1 : (40 : Int) < (n : Int) := by omega
    go_wp2
    go_ret
    exact ⟨rfl, hv0⟩
  have h1 : ¬ (40 : Int) < (n : Int) := by omega
  by_cases h31 : t < 0
  · go_wp2
    go_ret
    exact ⟨rfl, hv0⟩
  go_upto_region 5 with fail
  have D1 := vlt (new_bs (Bks.nil w.heap.size v0) hv0)
  go_upto_region 6 with (first | (go_at_call 10; refine D1.out.mono ?_; rintro e w1 ⟨a, rfl, hS1, hb1, hn1⟩; have D2 := vlt (new_bs hS1 hb1); clear D1) | (go_at_call 10; refine D2.out.mono ?_; rintro e w2 ⟨b, rfl, hS2, hb2, hn2⟩; clear D2))
  clear h1 hS1 hb1 hn1 hn2 hv0
  go_wp2
  go_loopg [7] n (fun k s wr => ∃ (i : Nat) (La Lb : List Ed), s = .int .i64 i ∧ n - i < k + 1 ∧ i ≤ n ∧ Vlt (Ord l i La Lb) ∧ Vlt (Bks w.heap.size wr [(a, La), (b, Lb)]) ∧ Below w.heap.size w wr)
  case atStart => exact ⟨0, [], [], rfl, by omega, Nat.zero_le _, vlt (Ord.nil l), vlt (by simpa using hS2), hb2⟩
  case round =>
    obtain ⟨i, La, Lb, rfl, hk, hin, HO, H1, hbt⟩ := hrel
    by_cases hlt : i < n
    · have hltz : (i : Int) < (n : Int) := by omega
      have hni : IntKind.i64.wrap (IntKind.i64.wrap ((n : Int) - 1) - (i : Int)) = ((n - 1 - i : Nat) : Int) := by rw [IntKind.wrap_i64, IntKind.wrap_i64]; omega
      obtain ⟨g, o, x, rfl, HX, HX8, hR⟩ := b1.rng (i := i) (by rw [HN.out]; omega)
      obtain ⟨z, hz⟩ : ∃ z, l[n - 1 - i]? = some z := ⟨_, List.getElem?_eq_getElem (by rw [HN.out]; omega)⟩
      have HZ := Lib.hid hz
      have HZ8 := Lib.hid (H8.out z (List.mem_of_getElem? hz))
      have hRz := EdsP.rng2 b1 hz
      clear hz
      obtain ⟨wo, hwo⟩ : ∃ wo, wo = wr := ⟨_, rfl⟩
      subst hwo
      go_upto_region 10 with fail
      go_wp2
      go_loopg [8] i (fun k2 s wk => ∃ (k : Nat), s = .int .i64 k ∧ i - k < k2 + 1 ∧ k ≤ i ∧ Vlt (∀ q y, q < k → l[q]? = some y → sdot x y → x = y) ∧ Vlt (Bks w.heap.size wk [(a, La), (b, Lb)]) ∧ Below w.heap.size w wk)
      case atStart => exact ⟨0, rfl, by omega, Nat.zero_le _, vlt (fun q y h => by omega), H1, hbt⟩
      case round =>
        obtain ⟨k, rfl, hk2, hki, HQ, H3, hbk⟩ := hrel
        obtain ⟨wk, hwk⟩ : ∃ wk, wk = wr := ⟨_, rfl⟩
        subst hwk
        by_cases hlt2 : k < i
        · have hltz2 : (k : Int) < (i : Int) := by omega
          have hkn : (k : Int) < (n : Int) := by omega
          obtain ⟨y, hy⟩ : ∃ y, l[k]? = some y := ⟨_, List.getElem?_eq_getElem (by rw [HN.out]; omega)⟩
          have HY := Lib.hid hy
          have HY8 := Lib.hid (H8.out y (List.mem_of_getElem? hy))
          have hR2 := EdsP.rng2 b1 hy
          clear hy
          by_cases hd : x.dev = y.dev ∧ x.num = y.num
          · have q0 := eql_dot2 x y true (decide_eq_true hd)
            by_cases hxy : x = y
            · have q1 := neq_edit x y HX8.out HY8.out true (decide_eq_true hxy)
              simp only [Bool.not_true] at q1
              have HXY := vlt hxy
              clear hxy
              go_upto_region 12 with fail
              refine wp_region_held_drew (S := fun W' => Below w.heap.size wk W') (by kernel_rfl) ((Below.refl _ _).drew) (fun hHeld => ?_)
              refine wpAnyH_take (i := 0) (oi := ⟨(some 32), _, _, _, _, _⟩) (v := .slice (some ⟨g, o, none⟩) n c) rfl (by kernel_rfl) (by kernel_rfl) (by kernel_rfl) (fun _ _ _ h => h) (Or.inl ⟨by rfl, ?yr12_0⟩) hHeld ?_
              case yr12_0 => (intro W0 hSw; go_simp; try with_reducible rfl)
              try simp only [pu]
              refine wpAnyH_take (i := 1) (oi := ⟨(some 33), _, _, _, _, _⟩) (v := .int .i64 (i : Int)) rfl (by kernel_rfl) (by kernel_rfl) (by kernel_rfl) (fun _ _ _ h => h) (Or.inl ⟨by rfl, ?yr12_1⟩) hHeld ?_
              case yr12_1 => (intro W0 hSw; go_simp; try with_reducible rfl)
              try simp only [pu]
              refine wpAnyH_take (i := 2) (oi := ⟨(some 34), _, _, _, _, _⟩) (v := .pointer (some ⟨g, o + i * 15, none⟩)) rfl (by kernel_rfl) (by kernel_rfl) (by kernel_rfl) (fun _ _ _ h => h) (Or.inl ⟨by rfl, ?yr12_2⟩) hHeld ?_
              case yr12_2 => (intro W0 hSw; go_simp; try with_reducible rfl)
              try simp only [pu]
              refine wpAnyH_take (i := 3) (oi := ⟨(some 35), _, _, _, _, _⟩) (v := .pointer (some ⟨g, o + i * 15, none⟩)) rfl (by kernel_rfl) (by kernel_rfl) (by kernel_rfl) (fun _ _ _ h => h) (Or.inl ⟨by rfl, ?yr12_3⟩) hHeld ?_
              case yr12_3 => (intro W0 hSw; go_simp; try with_reducible rfl)
              try simp only [pu]
              refine wpAnyH_take (i := 4) (oi := ⟨(some 36), _, _, _, _, _⟩) (v := .agg [.int .i64 x.dev, .int .i64 x.num].toArray) rfl (by kernel_rfl) (by kernel_rfl) (by kernel_rfl) (fun _ _ _ h => h) (yieldsIf_load_mid (by rfl) _ _ rfl g (o + i * 15) rfl [.int .i64 x.dev, .int .i64 x.num] _ (fun W' hW' => dot_mid (hR W' (hbk.trans hW'))) (Try.underlying28) rfl (by kernel_rfl)) hHeld ?_
              try simp only [pu]
              refine wpAnyH_take (i := 5) (oi := ⟨(some 37), _, _, _, _, _⟩) (v := .slice (some ⟨g, o, none⟩) n c) rfl (by kernel_rfl) (by kernel_rfl) (by kernel_rfl) (fun _ _ _ h => h) (Or.inl ⟨by rfl, ?yr12_5⟩) hHeld ?_
              case yr12_5 => (intro W0 hSw; go_simp; try with_reducible rfl)
              try simp only [pu]
              refine wpAnyH_take (i := 6) (oi := ⟨(some 38), _, _, _, _, _⟩) (v := .int .i64 (k : Int)) rfl (by kernel_rfl) (by kernel_rfl) (by kernel_rfl) (fun _ _ _ h => h) (Or.inl ⟨by rfl, ?yr12_6⟩) hHeld ?_
              case yr12_6 => (intro W0 hSw; go_simp; try with_reducible rfl)
              try simp only [pu]
              refine wpAnyH_take (i := 7) (oi := ⟨(some 39), _, _, _, _, _⟩) (v := .pointer (some ⟨g, o + k * 15, none⟩)) rfl (by kernel_rfl) (by kernel_rfl) (by kernel_rfl) (fun _ _ _ h => h) (Or.inl ⟨by rfl, ?yr12_7⟩) hHeld ?_
              case yr12_7 => (intro W0 hSw; go_simp; try with_reducible rfl)
              try simp only [pu]
              refine wpAnyH_take (i := 8) (oi := ⟨(some 40), _, _, _, _, _⟩) (v := .pointer (some ⟨g, o + k * 15, none⟩)) rfl (by kernel_rfl) (by kernel_rfl) (by kernel_rfl) (fun _ _ _ h => h) (Or.inl ⟨by rfl, ?yr12_8⟩) hHeld ?_
              case yr12_8 => (intro W0 hSw; go_simp; try with_reducible rfl)
              try simp only [pu]
              refine wpAnyH_take (i := 9) (oi := ⟨(some 41), _, _, _, _, _⟩) (v := .agg [.int .i64 y.dev, .int .i64 y.num].toArray) rfl (by kernel_rfl) (by kernel_rfl) (by kernel_rfl) (fun _ _ _ h => h) (yieldsIf_load_mid (by rfl) _ _ rfl g (o + k * 15) rfl [.int .i64 y.dev, .int .i64 y.num] _ (fun W' hW' => dot_mid (hR2 W' (hbk.trans hW'))) (Try.underlying28) rfl (by kernel_rfl)) hHeld ?_
              try simp only [pu]
              refine wpAnyH_take (i := 10) (oi := ⟨(some 42), _, _, _, _, _⟩) (v := .bool true) rfl (by kernel_rfl) (by kernel_rfl) (by kernel_rfl) (fun _ _ _ h => h) (Or.inl ⟨by rfl, ?yr12_10⟩) hHeld ?_
              case yr12_10 => (intro W0 hSw; go_simp; try simp only [q0]; try with_reducible rfl)
              try simp only [pu]
              refine wpAnyH_take (i := 11) (oi := ⟨(some 43), _, _, _, _, _⟩) (v := .bool true) rfl (by kernel_rfl) (by kernel_rfl) (by kernel_rfl) (fun _ _ _ h => h) (Or.inl ⟨by rfl, ?yr12_11⟩) hHeld ?_
              case yr12_11 => (intro W0 hSw; go_simp; try with_reducible rfl)
              try simp only [pu]
              refine wpAnyH_take (i := 12) (oi := ⟨(some 44), _, _, _, _, _⟩) (v := .slice (some ⟨g, o, none⟩) n c) rfl (by kernel_rfl) (by kernel_rfl) (by kernel_rfl) (fun _ _ _ h => h) (Or.inl ⟨by rfl, ?yr12_12⟩) hHeld ?_
              case yr12_12 => (intro W0 hSw; go_simp; try with_reducible rfl)
              try simp only [pu]
              refine wpAnyH_take (i := 13) (oi := ⟨(some 45), _, _, _, _, _⟩) (v := .int .i64 (i : Int)) rfl (by kernel_rfl) (by kernel_rfl) (by kernel_rfl) (fun _ _ _ h => h) (Or.inl ⟨by rfl, ?yr12_13⟩) hHeld ?_
              case yr12_13 => (intro W0 hSw; go_simp; try with_reducible rfl)
              try simp only [pu]
              refine wpAnyH_take (i := 14) (oi := ⟨(some 46), _, _, _, _, _⟩) (v := .pointer (some ⟨g, o + i * 15, none⟩)) rfl (by kernel_rfl) (by kernel_rfl) (by kernel_rfl) (fun _ _ _ h => h) (Or.inl ⟨by rfl, ?yr12_14⟩) hHeld ?_
              case yr12_14 => (intro W0 hSw; go_simp; try with_reducible rfl)
              try simp only [pu]
              refine wpAnyH_take (i := 15) (oi := ⟨(some 47), _, _, _, _, _⟩) (v := .agg x.cells.toArray) rfl (by kernel_rfl) (by kernel_rfl) (by kernel_rfl) (fun _ _ _ h => h) (yieldsIf_load_mid (by rfl) _ _ rfl g (o + i * 15) rfl x.cells _ (fun W' hW' => hR W' (hbk.trans hW')) (Try.underlying32) rfl (by rw [Ed.cells_len HX8.out]; kernel_rfl)) hHeld ?_
              try simp only [pu]
              refine wpAnyH_take (i := 16) (oi := ⟨(some 48), _, _, _, _, _⟩) (v := .slice (some ⟨g, o, none⟩) n c) rfl (by kernel_rfl) (by kernel_rfl) (by kernel_rfl) (fun _ _ _ h => h) (Or.inl ⟨by rfl, ?yr12_16⟩) hHeld ?_
              case yr12_16 => (intro W0 hSw; go_simp; try with_reducible rfl)
              try simp only [pu]
              refine wpAnyH_take (i := 17) (oi := ⟨(some 49), _, _, _, _, _⟩) (v := .int .i64 (k : Int)) rfl (by kernel_rfl) (by kernel_rfl) (by kernel_rfl) (fun _ _ _ h => h) (Or.inl ⟨by rfl, ?yr12_17⟩) hHeld ?_
              case yr12_17 => (intro W0 hSw; go_simp; try with_reducible rfl)
              try simp only [pu]
              refine wpAnyH_take (i := 18) (oi := ⟨(some 50), _, _, _, _, _⟩) (v := .pointer (some ⟨g, o + k * 15, none⟩)) rfl (by kernel_rfl) (by kernel_rfl) (by kernel_rfl) (fun _ _ _ h => h) (Or.inl ⟨by rfl, ?yr12_18⟩) hHeld ?_
              case yr12_18 => (intro W0 hSw; go_simp; try with_reducible rfl)
              try simp only [pu]
              refine wpAnyH_take (i := 19) (oi := ⟨(some 51), _, _, _, _, _⟩) (v := .agg y.cells.toArray) rfl (by kernel_rfl) (by kernel_rfl) (by kernel_rfl) (fun _ _ _ h => h) (yieldsIf_load_mid (by rfl) _ _ rfl g (o + k * 15) rfl y.cells _ (fun W' hW' => hR2 W' (hbk.trans hW')) (Try.underlying32) rfl (by rw [Ed.cells_len HY8.out]; kernel_rfl)) hHeld ?_
              try simp only [pu]
              refine wpAnyH_take (i := 20) (oi := ⟨(some 52), _, _, _, _, _⟩) (v := .bool false) rfl (by kernel_rfl) (by kernel_rfl) (by kernel_rfl) (fun _ _ _ h => h) (Or.inl ⟨by rfl, ?yr12_20⟩) hHeld ?_
              case yr12_20 => (intro W0 hSw; go_simp; try simp only [q1]; try with_reducible rfl)
              try simp only [pu]
              refine wpAnyH_take (i := 21) (oi := ⟨(some 53), _, _, _, _, _⟩) (v := .bool false) rfl (by kernel_rfl) (by kernel_rfl) (by kernel_rfl) (fun _ _ _ h => h) (Or.inl ⟨by rfl, ?yr12_21⟩) hHeld ?_
              case yr12_21 => (intro W0 hSw; go_simp; try with_reducible rfl)
              try simp only [pu]
              refine wpAnyH_done (by kernel_rfl) ?_ _
              have hbk2 := hbk.trans hHeld
              have H4 : Vlt (Bks w.heap.size wk.drew [(a, La), (b, Lb)]) := vlt (H3.out.next (Below.refl wk.heap.size wk).drew)
              have HQ2 : Vlt (∀ q y, q < k + 1 → l[q]? = some y → sdot x y → x = y) := vlt (fun q z hq hz hs => by
                rcases Nat.lt_or_eq_of_le (Nat.le_of_lt_succ hq) with h | rfl
                · exact HQ.out q z h hz hs
                · have e := HY.out.symm.trans hz
                  injection e with e
                  subst e
                  exact HXY.out)
              go_wp2
              go_roundg (i - (k + 1))
              case measure => omega
              case rel => exact ⟨k + 1, by go_num, by omega, by omega, HQ2, H4, hbk2⟩
            · have q1 := neq_edit x y HX8.out HY8.out false (decide_eq_false hxy)
              simp only [Bool.not_false] at q1
              go_upto_region 12 with fail
              refine wp_region_held_drew (S := fun W' => Below w.heap.size wk W') (by kernel_rfl) ((Below.refl _ _).drew) (fun hHeld => ?_)
              refine wpAnyH_take (i := 0) (oi := ⟨(some 32), _, _, _, _, _⟩) (v := .slice (some ⟨g, o, none⟩) n c) rfl (by kernel_rfl) (by kernel_rfl) (by kernel_rfl) (fun _ _ _ h => h) (Or.inl ⟨by rfl, ?yr12_0⟩) hHeld ?_
              case yr12_0 => (intro W0 hSw; go_simp; try with_reducible rfl)
              try simp only [pu]
              refine wpAnyH_take (i := 1) (oi := ⟨(some 33), _, _, _, _, _⟩) (v := .int .i64 (i : Int)) rfl (by kernel_rfl) (by kernel_rfl) (by kernel_rfl) (fun _ _ _ h => h) (Or.inl ⟨by rfl, ?yr12_1⟩) hHeld ?_
              case yr12_1 => (intro W0 hSw; go_simp; try with_reducible rfl)
              try simp only [pu]
              refine wpAnyH_take (i := 2) (oi := ⟨(some 34), _, _, _, _, _⟩) (v := .pointer (some ⟨g, o + i * 15, none⟩)) rfl (by kernel_rfl) (by kernel_rfl) (by kernel_rfl) (fun _ _ _ h => h) (Or.inl ⟨by rfl, ?yr12_2⟩) hHeld ?_
              case yr12_2 => (intro W0 hSw; go_simp; try with_reducible rfl)
              try simp only [pu]
              refine wpAnyH_take (i := 3) (oi := ⟨(some 35), _, _, _, _, _⟩) (v := .pointer (some ⟨g, o + i * 15, none⟩)) rfl (by kernel_rfl) (by kernel_rfl) (by kernel_rfl) (fun _ _ _ h => h) (Or.inl ⟨by rfl, ?yr12_3⟩) hHeld ?_
              case yr12_3 => (intro W0 hSw; go_simp; try with_reducible rfl)
              try simp only [pu]
              refine wpAnyH_take (i := 4) (oi := ⟨(some 36), _, _, _, _, _⟩) (v := .agg [.int .i64 x.dev, .int .i64 x.num].toArray) rfl (by kernel_rfl) (by kernel_rfl) (by kernel_rfl) (fun _ _ _ h => h) (yieldsIf_load_mid (by rfl) _ _ rfl g (o + i * 15) rfl [.int .i64 x.dev, .int .i64 x.num] _ (fun W' hW' => dot_mid (hR W' (hbk.trans hW'))) (Try.underlying28) rfl (by kernel_rfl)) hHeld ?_
              try simp only [pu]
              refine wpAnyH_take (i := 5) (oi := ⟨(some 37), _, _, _, _, _⟩) (v := .slice (some ⟨g, o, none⟩) n c) rfl (by kernel_rfl) (by kernel_rfl) (by kernel_rfl) (fun _ _ _ h => h) (Or.inl ⟨by rfl, ?yr12_5⟩) hHeld ?_
              case yr12_5 => (intro W0 hSw; go_simp; try with_reducible rfl)
              try simp only [pu]
              refine wpAnyH_take (i := 6) (oi := ⟨(some 38), _, _, _, _, _⟩) (v := .int .i64 (k : Int)) rfl (by kernel_rfl) (by kernel_rfl) (by kernel_rfl) (fun _ _ _ h => h) (Or.inl ⟨by rfl, ?yr12_6⟩) hHeld ?_
              case yr12_6 => (intro W0 hSw; go_simp; try with_reducible rfl)
              try simp only [pu]
              refine wpAnyH_take (i := 7) (oi := ⟨(some 39), _, _, _, _, _⟩) (v := .pointer (some ⟨g, o + k * 15, none⟩)) rfl (by kernel_rfl) (by kernel_rfl) (by kernel_rfl) (fun _ _ _ h => h) (Or.inl ⟨by rfl, ?yr12_7⟩) hHeld ?_
              case yr12_7 => (intro W0 hSw; go_simp; try with_reducible rfl)
              try simp only [pu]
              refine wpAnyH_take (i := 8) (oi := ⟨(some 40), _, _, _, _, _⟩) (v := .pointer (some ⟨g, o + k * 15, none⟩)) rfl (by kernel_rfl) (by kernel_rfl) (by kernel_rfl) (fun _ _ _ h => h) (Or.inl ⟨by rfl, ?yr12_8⟩) hHeld ?_
              case yr12_8 => (intro W0 hSw; go_simp; try with_reducible rfl)
              try simp only [pu]
              refine wpAnyH_take (i := 9) (oi := ⟨(some 41), _, _, _, _, _⟩) (v := .agg [.int .i64 y.dev, .int .i64 y.num].toArray) rfl (by kernel_rfl) (by kernel_rfl) (by kernel_rfl) (fun _ _ _ h => h) (yieldsIf_load_mid (by rfl) _ _ rfl g (o + k * 15) rfl [.int .i64 y.dev, .int .i64 y.num] _ (fun W' hW' => dot_mid (hR2 W' (hbk.trans hW'))) (Try.underlying28) rfl (by kernel_rfl)) hHeld ?_
              try simp only [pu]
              refine wpAnyH_take (i := 10) (oi := ⟨(some 42), _, _, _, _, _⟩) (v := .bool true) rfl (by kernel_rfl) (by kernel_rfl) (by kernel_rfl) (fun _ _ _ h => h) (Or.inl ⟨by rfl, ?yr12_10⟩) hHeld ?_
              case yr12_10 => (intro W0 hSw; go_simp; try simp only [q0]; try with_reducible rfl)
              try simp only [pu]
              refine wpAnyH_take (i := 11) (oi := ⟨(some 43), _, _, _, _, _⟩) (v := .bool true) rfl (by kernel_rfl) (by kernel_rfl) (by kernel_rfl) (fun _ _ _ h => h) (Or.inl ⟨by rfl, ?yr12_11⟩) hHeld ?_
              case yr12_11 => (intro W0 hSw; go_simp; try with_reducible rfl)
              try simp only [pu]
              refine wpAnyH_take (i := 12) (oi := ⟨(some 44), _, _, _, _, _⟩) (v := .slice (some ⟨g, o, none⟩) n c) rfl (by kernel_rfl) (by kernel_rfl) (by kernel_rfl) (fun _ _ _ h => h) (Or.inl ⟨by rfl, ?yr12_12⟩) hHeld ?_
              case yr12_12 => (intro W0 hSw; go_simp; try with_reducible rfl)
              try simp only [pu]
              refine wpAnyH_take (i := 13) (oi := ⟨(some 45), _, _, _, _, _⟩) (v := .int .i64 (i : Int)) rfl (by kernel_rfl) (by kernel_rfl) (by kernel_rfl) (fun _ _ _ h => h) (Or.inl ⟨by rfl, ?yr12_13⟩) hHeld ?_
              case yr12_13 => (intro W0 hSw; go_simp; try with_reducible rfl)
              try simp only [pu]
              refine wpAnyH_take (i := 14) (oi := ⟨(some 46), _, _, _, _, _⟩) (v := .pointer (some ⟨g, o + i * 15, none⟩)) rfl (by kernel_rfl) (by kernel_rfl) (by kernel_rfl) (fun _ _ _ h => h) (Or.inl ⟨by rfl, ?yr12_14⟩) hHeld ?_
              case yr12_14 => (intro W0 hSw; go_simp; try with_reducible rfl)
              try simp only [pu]
              refine wpAnyH_take (i := 15) (oi := ⟨(some 47), _, _, _, _, _⟩) (v := .agg x.cells.toArray) rfl (by kernel_rfl) (by kernel_rfl) (by kernel_rfl) (fun _ _ _ h => h) (yieldsIf_load_mid (by rfl) _ _ rfl g (o + i * 15) rfl x.cells _ (fun W' hW' => hR W' (hbk.trans hW')) (Try.underlying32) rfl (by rw [Ed.cells_len HX8.out]; kernel_rfl)) hHeld ?_
              try simp only [pu]
              refine wpAnyH_take (i := 16) (oi := ⟨(some 48), _, _, _, _, _⟩) (v := .slice (some ⟨g, o, none⟩) n c) rfl (by kernel_rfl) (by kernel_rfl) (by kernel_rfl) (fun _ _ _ h => h) (Or.inl ⟨by rfl, ?yr12_16⟩) hHeld ?_
              case yr12_16 => (intro W0 hSw; go_simp; try with_reducible rfl)
              try simp only [pu]
              refine wpAnyH_take (i := 17) (oi := ⟨(some 49), _, _, _, _, _⟩) (v := .int .i64 (k : Int)) rfl (by kernel_rfl) (by kernel_rfl) (by kernel_rfl) (fun _ _ _ h => h) (Or.inl ⟨by rfl, ?yr12_17⟩) hHeld ?_
              case yr12_17 => (intro W0 hSw; go_simp; try with_reducible rfl)
              try simp only [pu]
              refine wpAnyH_take (i := 18) (oi := ⟨(some 50), _, _, _, _, _⟩) (v := .pointer (some ⟨g, o + k * 15, none⟩)) rfl (by kernel_rfl) (by kernel_rfl) (by kernel_rfl) (fun _ _ _ h => h) (Or.inl ⟨by rfl, ?yr12_18⟩) hHeld ?_
              case yr12_18 => (intro W0 hSw; go_simp; try with_reducible rfl)
              try simp only [pu]
              refine wpAnyH_take (i := 19) (oi := ⟨(some 51), _, _, _, _, _⟩) (v := .agg y.cells.toArray) rfl (by kernel_rfl) (by kernel_rfl) (by kernel_rfl) (fun _ _ _ h => h) (yieldsIf_load_mid (by rfl) _ _ rfl g (o + k * 15) rfl y.cells _ (fun W' hW' => hR2 W' (hbk.trans hW')) (Try.underlying32) rfl (by rw [Ed.cells_len HY8.out]; kernel_rfl)) hHeld ?_
              try simp only [pu]
              refine wpAnyH_take (i := 20) (oi := ⟨(some 52), _, _, _, _, _⟩) (v := .bool true) rfl (by kernel_rfl) (by kernel_rfl) (by kernel_rfl) (fun _ _ _ h => h) (Or.inl ⟨by rfl, ?yr12_20⟩) hHeld ?_
              case yr12_20 => (intro W0 hSw; go_simp; try simp only [q1]; try with_reducible rfl)
              try simp only [pu]
              refine wpAnyH_take (i := 21) (oi := ⟨(some 53), _, _, _, _, _⟩) (v := .bool true) rfl (by kernel_rfl) (by kernel_rfl) (by kernel_rfl) (fun _ _ _ h => h) (Or.inl ⟨by rfl, ?yr12_21⟩) hHeld ?_
              case yr12_21 => (intro W0 hSw; go_simp; try with_reducible rfl)
              try simp only [pu]
              refine wpAnyH_done (by kernel_rfl) ?_ _
              have hbk2 := hbk.trans hHeld
              go_wp2
              go_ret
              exact ⟨rfl, hbk2⟩
          · have q0 := eql_dot2 x y false (decide_eq_false hd)
            have HD := vlt hd
            clear hd
            go_upto_region 12 with fail
            refine wp_region_held_drew (S := fun W' => Below w.heap.size wk W') (by kernel_rfl) ((Below.refl _ _).drew) (fun hHeld => ?_)
            refine wpAnyH_take (i := 0) (oi := ⟨(some 32), _, _, _, _, _⟩) (v := .slice (some ⟨g, o, none⟩) n c) rfl (by kernel_rfl) (by kernel_rfl) (by kernel_rfl) (fun _ _ _ h => h) (Or.inl ⟨by rfl, ?yr12_0⟩) hHeld ?_
            case yr12_0 => (intro W0 hSw; go_simp; try with_reducible rfl)
            try simp only [pu]
            refine wpAnyH_take (i := 1) (oi := ⟨(some 33), _, _, _, _, _⟩) (v := .int .i64 (i : Int)) rfl (by kernel_rfl) (by kernel_rfl) (by kernel_rfl) (fun _ _ _ h => h) (Or.inl ⟨by rfl, ?yr12_1⟩) hHeld ?_
            case yr12_1 => (intro W0 hSw; go_simp; try with_reducible rfl)
            try simp only [pu]
            refine wpAnyH_take (i := 2) (oi := ⟨(some 34), _, _, _, _, _⟩) (v := .pointer (some ⟨g, o + i * 15, none⟩)) rfl (by kernel_rfl) (by kernel_rfl) (by kernel_rfl) (fun _ _ _ h => h) (Or.inl ⟨by rfl, ?yr12_2⟩) hHeld ?_
            case yr12_2 => (intro W0 hSw; go_simp; try with_reducible rfl)
            try simp only [pu]
            refine wpAnyH_take (i := 3) (oi := ⟨(some 35), _, _, _, _, _⟩) (v := .pointer (some ⟨g, o + i * 15, none⟩)) rfl (by kernel_rfl) (by kernel_rfl) (by kernel_rfl) (fun _ _ _ h => h) (Or.inl ⟨by rfl, ?yr12_3⟩) hHeld ?_
            case yr12_3 => (intro W0 hSw; go_simp; try with_reducible rfl)
            try simp only [pu]
            refine wpAnyH_take (i := 4) (oi := ⟨(some 36), _, _, _, _, _⟩) (v := .agg [.int .i64 x.dev, .int .i64 x.num].toArray) rfl (by kernel_rfl) (by kernel_rfl) (by kernel_rfl) (fun _ _ _ h => h) (yieldsIf_load_mid (by rfl) _ _ rfl g (o + i * 15) rfl [.int .i64 x.dev, .int .i64 x.num] _ (fun W' hW' => dot_mid (hR W' (hbk.trans hW'))) (Try.underlying28) rfl (by kernel_rfl)) hHeld ?_
            try simp only [pu]
            refine wpAnyH_take (i := 5) (oi := ⟨(some 37), _, _, _, _, _⟩) (v := .slice (some ⟨g, o, none⟩) n c) rfl (by kernel_rfl) (by kernel_rfl) (by kernel_rfl) (fun _ _ _ h => h) (Or.inl ⟨by rfl, ?yr12_5⟩) hHeld ?_
            case yr12_5 => (intro W0 hSw; go_simp; try with_reducible rfl)
            try simp only [pu]
            refine wpAnyH_take (i := 6) (oi := ⟨(some 38), _, _, _, _, _⟩) (v := .int .i64 (k : Int)) rfl (by kernel_rfl) (by kernel_rfl) (by kernel_rfl) (fun _ _ _ h => h) (Or.inl ⟨by rfl, ?yr12_6⟩) hHeld ?_
            case yr12_6 => (intro W0 hSw; go_simp; try with_reducible rfl)
            try simp only [pu]
            refine wpAnyH_take (i := 7) (oi := ⟨(some 39), _, _, _, _, _⟩) (v := .pointer (some ⟨g, o + k * 15, none⟩)) rfl (by kernel_rfl) (by kernel_rfl) (by kernel_rfl) (fun _ _ _ h => h) (Or.inl ⟨by rfl, ?yr12_7⟩) hHeld ?_
            case yr12_7 => (intro W0 hSw; go_simp; try with_reducible rfl)
            try simp only [pu]
            refine wpAnyH_take (i := 8) (oi := ⟨(some 40), _, _, _, _, _⟩) (v := .pointer (some ⟨g, o + k * 15, none⟩)) rfl (by kernel_rfl) (by kernel_rfl) (by kernel_rfl) (fun _ _ _ h => h) (Or.inl ⟨by rfl, ?yr12_8⟩) hHeld ?_
            case yr12_8 => (intro W0 hSw; go_simp; try with_reducible rfl)
            try simp only [pu]
            refine wpAnyH_take (i := 9) (oi := ⟨(some 41), _, _, _, _, _⟩) (v := .agg [.int .i64 y.dev, .int .i64 y.num].toArray) rfl (by kernel_rfl) (by kernel_rfl) (by kernel_rfl) (fun _ _ _ h => h) (yieldsIf_load_mid (by rfl) _ _ rfl g (o + k * 15) rfl [.int .i64 y.dev, .int .i64 y.num] _ (fun W' hW' => dot_mid (hR2 W' (hbk.trans hW'))) (Try.underlying28) rfl (by kernel_rfl)) hHeld ?_
            try simp only [pu]
            refine wpAnyH_take (i := 10) (oi := ⟨(some 42), _, _, _, _, _⟩) (v := .bool false) rfl (by kernel_rfl) (by kernel_rfl) (by kernel_rfl) (fun _ _ _ h => h) (Or.inl ⟨by rfl, ?yr12_10⟩) hHeld ?_
            case yr12_10 => (intro W0 hSw; go_simp; try simp only [q0]; try with_reducible rfl)
            try simp only [pu]
            refine wpAnyH_take (i := 11) (oi := ⟨(some 43), _, _, _, _, _⟩) (v := .bool false) rfl (by kernel_rfl) (by kernel_rfl) (by kernel_rfl) (fun _ _ _ h => h) (Or.inl ⟨by rfl, ?yr12_11⟩) hHeld ?_
            case yr12_11 => (intro W0 hSw; go_simp; try with_reducible rfl)
            try simp only [pu]
            refine wpAnyH_take (i := 12) (oi := ⟨(some 44), _, _, _, _, _⟩) (v := undef) rfl (by kernel_rfl) (by kernel_rfl) (by kernel_rfl) (fun _ _ _ h => h) (Or.inr ⟨by rfl, rfl⟩) hHeld ?_
            try simp only [pu]
            refine wpAnyH_take (i := 13) (oi := ⟨(some 45), _, _, _, _, _⟩) (v := undef) rfl (by kernel_rfl) (by kernel_rfl) (by kernel_rfl) (fun _ _ _ h => h) (Or.inr ⟨by rfl, rfl⟩) hHeld ?_
            try simp only [pu]
            refine wpAnyH_take (i := 14) (oi := ⟨(some 46), _, _, _, _, _⟩) (v := undef) rfl (by kernel_rfl) (by kernel_rfl) (by kernel_rfl) (fun _ _ _ h => h) (Or.inr ⟨by rfl, rfl⟩) hHeld ?_
            try simp only [pu]
            refine wpAnyH_take (i := 15) (oi := ⟨(some 47), _, _, _, _, _⟩) (v := undef) rfl (by kernel_rfl) (by kernel_rfl) (by kernel_rfl) (fun _ _ _ h => h) (Or.inr ⟨by rfl, rfl⟩) hHeld ?_
            try simp only [pu]
            refine wpAnyH_take (i := 16) (oi := ⟨(some 48), _, _, _, _, _⟩) (v := undef) rfl (by kernel_rfl) (by kernel_rfl) (by kernel_rfl) (fun _ _ _ h => h) (Or.inr ⟨by rfl, rfl⟩) hHeld ?_
            try simp only [pu]
            refine wpAnyH_take (i := 17) (oi := ⟨(some 49), _, _, _, _, _⟩) (v := undef) rfl (by kernel_rfl) (by kernel_rfl) (by kernel_rfl) (fun _ _ _ h => h) (Or.inr ⟨by rfl, rfl⟩) hHeld ?_
            try simp only [pu]
            refine wpAnyH_take (i := 18) (oi := ⟨(some 50), _, _, _, _, _⟩) (v := undef) rfl (by kernel_rfl) (by kernel_rfl) (by kernel_rfl) (fun _ _ _ h => h) (Or.inr ⟨by rfl, rfl⟩) hHeld ?_
            try simp only [pu]
            refine wpAnyH_take (i := 19) (oi := ⟨(some 51), _, _, _, _, _⟩) (v := undef) rfl (by kernel_rfl) (by kernel_rfl) (by kernel_rfl) (fun _ _ _ h => h) (Or.inr ⟨by rfl, rfl⟩) hHeld ?_
            try simp only [pu]
            refine wpAnyH_take (i := 20) (oi := ⟨(some 52), _, _, _, _, _⟩) (v := undef) rfl (by kernel_rfl) (by kernel_rfl) (by kernel_rfl) (fun _ _ _ h => h) (Or.inr ⟨by rfl, rfl⟩) hHeld ?_
            try simp only [pu]
            refine wpAnyH_take (i := 21) (oi := ⟨(some 53), _, _, _, _, _⟩) (v := .bool false) rfl (by kernel_rfl) (by kernel_rfl) (by kernel_rfl) (fun _ _ _ h => h) (Or.inl ⟨by rfl, ?yr12_21⟩) hHeld ?_
            case yr12_21 => (intro W0 hSw; go_simp; try with_reducible rfl)
            try simp only [pu]
            refine wpAnyH_done (by kernel_rfl) ?_ _
            have hbk2 := hbk.trans hHeld
            have H4 : Vlt (Bks w.heap.size wk.drew [(a, La), (b, Lb)]) := vlt (H3.out.next (Below.refl wk.heap.size wk).drew)
            have HQ2 : Vlt (∀ q y, q < k + 1 → l[q]? = some y → sdot x y → x = y) := vlt (fun q z hq hz hs => by
              rcases Nat.lt_or_eq_of_le (Nat.le_of_lt_succ hq) with h | rfl
              · exact HQ.out q z h hz hs
              · have e := HY.out.symm.trans hz
                injection e with e
                subst e
                exact absurd hs HD.out)
            go_wp2
            go_roundg (i - (k + 1))
            case measure => omega
            case rel => exact ⟨k + 1, by go_num, by omega, by omega, HQ2, H4, hbk2⟩
        · have hltz2 : ¬ (k : Int) < (i : Int) := by omega
          have hki2 : k = i := by omega
          have hr1 := hR _ hbk
          obtain ⟨q, hq⟩ : ∃ q, elong x = q := ⟨_, rfl⟩
          have D1 := blong_any wk x HX8.out
          rw [hq] at D1
          have DL := vlt D1
          clear D1 hq
          go_upto_region 14 with fail
          cases q with
          | true =>
            go_wp2_with (first | (with_reducible refine wpList_load_mid rfl 32 (.tmp 56) rfl g (o + i * 15) rfl x.cells _ hr1 Try.underlying32 rfl (by rw [Ed.cells_len HX8.out]; kernel_rfl) ?_) | (go_at_call 21; refine DL.out.mono ?_; rintro e w5 ⟨rfl, hb5⟩; have hbt5 := below_next hbk hbk.size hb5; clear DL))
            go_ret
            exact ⟨rfl, hbt5⟩
          | false =>
            obtain ⟨M1, r1, hm1⟩ : ∃ M1 r1, badd La x = (M1, r1) := ⟨_, _, rfl⟩
            obtain ⟨M2, r2, hm2⟩ : ∃ M2 r2, badd M1 x = (M2, r2) := ⟨_, _, rfl⟩
            obtain ⟨M3, r3, hm3⟩ : ∃ M3 r3, badd Lb z = (M3, r3) := ⟨_, _, rfl⟩
            have HN' : Vlt (Ord l (i + 1) M2 M3) := vlt (by
              have h := HO.out.step HX.out (y := z) (by rw [HN.out]; exact HZ.out) (fun k z hk hz hs => HQ.out k z (by omega) hz hs)
              rw [hm1, hm3] at h
              dsimp only at h
              rw [hm2] at h
              exact h)
            have HM1 := vlt hm1
            have HM2 := vlt hm2
            have HM3 := vlt hm3
            clear hm1 hm2 hm3
            go_wp2_with (first
              | (with_reducible refine wpList_load_mid rfl 32 (.tmp 56) rfl g (o + i * 15) rfl x.cells _ hr1 Try.underlying32 rfl (by rw [Ed.cells_len HX8.out]; kernel_rfl) ?_) | (with_reducible refine wpList_load_mid rfl 32 (.tmp 62) rfl g (o + i * 15) rfl x.cells _ hr5 Try.underlying32 rfl (by rw [Ed.cells_len HX8.out]; kernel_rfl) ?_) | (with_reducible refine wpList_load_mid rfl 32 (.tmp 68) rfl g (o + i * 15) rfl x.cells _ hr6 Try.underlying32 rfl (by rw [Ed.cells_len HX8.out]; kernel_rfl) ?_) | (with_reducible refine wpList_load_mid rfl 32 (.tmp 78) rfl g (o + (n - 1 - i) * 15) rfl z.cells _ hr7 Try.underlying32 rfl (by rw [Ed.cells_len HZ8.out]; kernel_rfl) ?_)
              | (go_at_call 21; refine DL.out.mono ?_; rintro e w5 ⟨rfl, hb5⟩; have hbt5 := below_next hbk hbk.size hb5; have hr5 := hR _ hbt5; have VA := vlt (add_bs (H3.out.next hb5) hbt5 0 rfl x HX8.out HM1.out); clear DL)
              | (go_at_call 11; refine VA.out.mono ?_; rintro e w6 ⟨rfl, hS6, hb6⟩; have hr6 := hR _ hb6; have VB := vlt (add_bs hS6 hb6 0 rfl x HX8.out HM2.out); clear VA)
              | (go_at_call 11; refine VB.out.mono ?_; rintro e w7 ⟨rfl, hS7, hb7⟩; have hr7 := hRz _ hb7; have VC := vlt (add_bs hS7 hb7 1 rfl z HZ8.out HM3.out); clear VB)
              | (go_at_call 11; refine VC.out.mono ?_; rintro e w8 ⟨rfl, hS8, hb8⟩; clear VC))
            have H9 : Vlt (Bks w.heap.size w8 [(a, M2), (b, M3)]) := vlt hS8
            go_roundg (n - (i + 1))
            case measure => omega
            case rel => exact ⟨i + 1, M2, M3, by go_num, by omega, by omega, HN', H9, hb8⟩
    · have hltz : ¬ (i : Int) < (n : Int) := by omega
      go_upto_region 19 with fail
      have hi : i = n := by omega
      subst hi
      have HO2 : Vlt (Ord2 l 0 Lb) := vlt (by
        obtain ⟨fs, h1, h2, h3⟩ := HO.out.two
        exact ⟨fs, h1, by rw [HN.out]; omega, fun x => by rw [h3, HN.out, Nat.sub_self, List.drop_zero]⟩)
      clear hlt hltz hk hin
      obtain ⟨wo, hwo⟩ : ∃ wo, wo = wr := ⟨_, rfl⟩
      subst hwo
      go_wp2
      go_loopg [9] i (fun k s wr => ∃ (j : Nat) (Lc : List Ed), s = .int .i64 j ∧ i - j < k + 1 ∧ j ≤ i ∧ Vlt (Ord2 l j Lc) ∧ Vlt (Bks w.heap.size wr [(a, La), (b, Lc)]) ∧ Below w.heap.size w wr)
      case atStart => exact ⟨0, Lb, rfl, by omega, Nat.zero_le _, HO2, H1, hbt⟩
      case round =>
        obtain ⟨j, Lc, rfl, hk, hji, HP, H3, hbk⟩ := hrel
        by_cases hlt : j < i
        · have hltz : (j : Int) < (i : Int) := by omega
          have hne : ¬ (i : Int) = 0 := by omega
          obtain ⟨p, hp, hpl⟩ : ∃ p : Nat, t.tmod (i : Int) = (p : Int) ∧ p < i := ⟨t.toNat % i, by
            obtain ⟨q, rfl⟩ := Int.eq_ofNat_of_zero_le h31
            rw [← Int.ofNat_tmod]; simp, Nat.mod_lt _ (by omega)⟩
          obtain ⟨u, hu, hul⟩ : ∃ u : Nat, ((j : Int) + (p : Int)).tmod (i : Int) = (u : Int) ∧ u < i := ⟨(j + p) % i, by
            rw [← Int.natCast_add, ← Int.ofNat_tmod], Nat.mod_lt _ (by omega)⟩
          have hw : IntKind.i64.wrap ((j : Int) + (p : Int)) = (j : Int) + (p : Int) := by rw [IntKind.wrap_i64]; omega
          have huz : (u : Int) < (i : Int) := by omega
          obtain ⟨g, o, y, rfl, HY, HY8, hR⟩ := b1.rng (i := u) (by rw [HN.out]; omega)
          have hr1 := hR _ hbk
          obtain ⟨M3, r3, hm3⟩ : ∃ M3 r3, badd Lc y = (M3, r3) := ⟨_, _, rfl⟩
          have HP2 : Vlt (Ord2 l (j + 1) M3) := vlt (by
            have h := HP.out.step (List.mem_of_getElem? HY.out)
            rwa [hm3] at h)
          have VA := vlt (add_bs H3.out hbk 1 rfl y HY8.out hm3)
          clear hm3
          go_wp2_with (first
              | (with_reducible refine wpList_load_mid rfl 32 (.tmp 98) rfl g (o + u * 15) rfl y.cells _ hr1 Try.underlying32 rfl (by rw [Ed.cells_len HY8.out]; kernel_rfl) ?_)
              | (go_at_call 11; refine VA.out.mono ?_; rintro e w6 ⟨rfl, hS6, hb6⟩; clear VA))
          have H9 : Vlt (Bks w.heap.size w6 [(a, La), (b, M3)]) := vlt hS6
          go_roundg (i - (j + 1))
          case measure => omega
          case rel => exact ⟨j + 1, M3, by go_num, by omega, by omega, HP2, H9, hb6⟩
        · have hltz : ¬ (j : Int) < (i : Int) := by omega
          have hj : j = i := by omega
          subst hj
          have HE : Vlt (La = Lc) := vlt (order_end (by rw [HN.out]; exact HO.out) (by rw [HN.out]; exact HP.out) H8.out (by rw [HN.out]; exact h30))
          have hgd := H3.out.good (k := 0) rfl
          have hfew := bcons_few La hgd
          have V1 := vlt (same_bs H3.out hbk 0 rfl (k2 := 1) rfl true (decide_eq_true HE.out))
          obtain ⟨bc, hbc⟩ : ∃ bc, bcons La = bc := ⟨_, rfl⟩
          obtain ⟨bn, hbn⟩ : ∃ bn, bc.length = bn := ⟨_, rfl⟩
          have HBC : Vlt (bcons La = bc ∧ bcons Lc = bc) := vlt ⟨hbc, by rw [← HE.out]; exact hbc⟩
          have HBN := Lib.hid hbn
          rw [hbc, hbn] at hfew
          clear hbc hbn hgd
          go_wp2_with (first
              | (go_at_call 15; refine V1.out.mono ?_; rintro e w11 ⟨rfl, hS11, hb11⟩; have D1 := contacts_bs hS11 hb11 0 rfl; rw [HBC.out.1, HBN.out] at D1; have V2 := vlt D1; clear V1 D1)
              | (go_at_call 19; refine V2.out.mono ?_; rintro e w12 ⟨A12, c12, rfl, hr12, hS12, hb12, _⟩; have D1 := contacts_bs hS12 hb12 1 rfl; rw [HBC.out.2, HBN.out] at D1; have V3 := vlt D1; clear V2 D1)
              | (go_at_call 19; refine V3.out.mono ?_; rintro e w13 ⟨A13, c13, rfl, hr13, hS13, hb13, hb1213⟩; have V4 := vlt (texts_any c12 c13 (hr12.next hb1213) hr13 HBN.out HBN.out hfew true (decide_eq_true rfl)); clear V3)
              | (go_at_call 18; refine V4.out.mono ?_; rintro e w14 ⟨rfl, hb14⟩; clear V4))
          go_ret
          exact ⟨rfl, below_next hb13 hb13.size hb14⟩
end Go.Proofs.Ytncjobhpiohkkaa
