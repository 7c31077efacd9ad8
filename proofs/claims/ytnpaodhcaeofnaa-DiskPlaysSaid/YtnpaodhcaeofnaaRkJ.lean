/-
  Words for the document's own Append: two operations ready at once; lists of lists made in any order. No statement is proved here. Conditions: lengths up to 2^40.
-/
import Derived.Test.YtnpaodhcaeofnaaRkI
import Derived.Test.YtnpaodhcaeofnaaByn
namespace Go.Proofs.Ytnpaodhcaeofnaa
open Go.RowKit

section
variable {P : Program} {md : Region.Mode} {ops : Array Oper} {Q : Exit → Act → World → Prop} {S : World → Prop} {c : Nat}
/-- Two operations may come up; S stays behind either. -/
theorem c_two {i j : Nat} {oi oj : Oper} {fuel : Nat} {listed : Array Bool} {a : Act} {w : World} (hr : Region.ready md ops listed = [i, j]) (hoi : ops[i]? = some oi) (hoj : ops[j]? = some oj)
    (hi : ∀ K' : Act → World → Prop, Shut (∀ a w, S w → (S w → wpAnyC P md ops Q S c fuel (listed.setIfInBounds i true) a w) → K' a w) → if Region.wanted oi (yielded ops a.tmps) = true then Oper.wp P oi a w K' Q else K' (a.put oi.dst undef) w)
    (hj : ∀ K' : Act → World → Prop, Shut (∀ a w, S w → (S w → wpAnyC P md ops Q S c fuel (listed.setIfInBounds j true) a w) → K' a w) → if Region.wanted oj (yielded ops a.tmps) = true then Oper.wp P oj a w K' Q else K' (a.put oj.dst undef) w) :
    wpAnyC P md ops Q S c (fuel + 1) listed a w := by
  refine ⟨fun h0 => (by rw [hr] at h0; cases h0), fun k hk => ?_⟩
  rw [hr] at hk
  have hk2 : k = i ∨ k = j := by simpa using hk
  rcases hk2 with rfl | rfl
  · exact wpOp_step hoi (fun K' hK => hi K' (fun a w hS hW => hK a w ⟨fun _ => hS, hW hS⟩))
  · exact wpOp_step hoj (fun K' hK => hj K' (fun a w hS hW => hK a w ⟨fun _ => hS, hW hS⟩))
end
/-- append([]T{}, news..): nothing that was there turns. -/
theorem step_append_lit {P : Program} (w : World) {ops : Array Oper} {o : Oper} {a : Act} {K : Act → World → Prop} {Q : Exit → Act → World → Prop} {E' : Prop} (hgd : o.guard = none) (s x : Operand) (T : TypeId)
    (ho : o.op = .call { callee := .builtin .append, args := #[s, x], argTypes := #[T, T] }) (E : TypeId) (hT : P.underlying T = some (.slice E)) (z : Value) (bytes : Nat)
    (hI : (P.info? E).map (fun i => (i.zero, i.size, i.bytes)) = some (some z, 1, bytes)) (hz : z.cells.size = 1) (hby : bytes ≤ 64) (g : Nat) (hs : a.eval s = .slice (some ⟨g, 0, none⟩) 0 0) (hg : w.heap[g]? = some (.cells #[] E (0, 0)))
    (D : Option Addr) (m c2 : Nat) (hx : a.eval x = .slice D m c2) (news : List Value) (hsrc : m ≠ 0 → ∃ d, D = some d ∧ ∀ j u, news[j]? = some u → w.cell? (d.add j) = some u) (h1 : ∀ u ∈ news, u.oneCell' = true) (hl : news.length = m) (hsz : m * 64 ≤ 140737488355328)
    (h : ∀ A' c' w', w'.ownsRow 0 E 1 (.slice A' m c') m news → Below w.heap.size w w' → (∀ p, A' = some p → p.block = g ∨ w.heap.size ≤ p.block) → K (a.put o.dst (.slice A' m c')) w') :
    if Region.wanted o (yielded ops a.tmps) = true then Oper.wp P o a w K Q else E' := by
  refine step_append_row w hgd s x T ho E hT z 1 bytes hI hz (by decide) hby (some ⟨g, 0, none⟩) 0 0 [] hs (own_lit0 hg) D m c2 hx news hsrc h1 (by omega) (by omega) ?_
  intro A' c' w' hown hgr hat hnew hzero
  have e0 : 0 + m = m := Nat.zero_add m
  rw [e0] at hown ⊢
  rw [List.nil_append] at hown
  refine h A' c' w' hown ?_ (fun p hp => ?_)
  · by_cases hm : m = 0
    · rw [(hzero hm).1]; exact Below.refl _ _
    · exact (hnew (by omega)).2
  · rcases hat p hp with ⟨q, hq, e⟩ | h
    · injection hq with hq
      left; rw [e, ← hq]
    · exact .inr h
theorem Try.infoBytes : (Try.prog.info? 33).map (fun i => (i.zero, i.size, i.bytes)) = some (some (.slice none 0 0), 1, 24) := by kernel_rfl
theorem step_litW {ops : Array Oper} {o : Oper} {a : Act} {w : World} {K : Act → World → Prop} {Q : Exit → Act → World → Prop} {E' : Prop} (hw : Region.wanted o (yielded ops a.tmps) = true) (x : Operand) (ho : o.op = .buildSlice 54 1 #[(0, x)])
    (A : Option Addr) (n c : Nat) (hx : a.eval x = .slice A n c)
    (h : ∀ w', w'.heap[w.heap.size]? = some (.cells #[.slice A n c] 33 (0, 0)) → Below w.heap.size w w' → w'.heap.size = w.heap.size + 1 → K (a.put o.dst (.slice (some ⟨w.heap.size, 0, none⟩) 1 1)) w') : if Region.wanted o (yielded ops a.tmps) = true then Oper.wp Try.prog o a w K Q else E' := by
  rw [if_pos hw]
  have h1 := h (w.alloc (.cells #[.slice A n c] 33)) (heap_alloc_new w _) ((Below.refl _ _).alloc (Nat.le_refl _) _) (by simp)
  unfold Oper.wp
  simp only [execOp, ho, List.map_toArray, List.map_cons, List.map_nil, hx]
  clear h hx
  go_simp
  exact h1
/-- The cells of a list of lists. -/
theorem prt_vals {w : World} {D : Nat → Prop} {A : Option Addr} {ps : List (List UInt8)} {n : Nat} (h : PrtF w D A ps) (hl : ps.length = n) :
    ∃ vs : List Value, vs.length = n ∧ (∀ u ∈ vs, u.oneCell' = true) ∧ (∀ w', Below w.heap.size w w' → n ≠ 0 → ∃ d, A = some d ∧ ∀ j u, vs[j]? = some u → w'.cell? (d.add j) = some u) ∧
      ∀ (j : Nat) (p : List UInt8), ps[j]? = some p → ∃ (Aj : Option Addr) (nj cj : Nat), vs[j]? = some (Value.slice Aj nj cj) ∧ p.length = nj ∧ nj ≤ cj ∧ BytF w D Aj p := by
  rcases h with h | ⟨g, o, hA, _, hlt, hc⟩
  · subst h
    exact ⟨[], by simpa using hl, by simp, fun w' _ hn => absurd (by simpa using hl.symm) hn, fun j p hp => by simp at hp⟩
  · have hall : ∀ j, j < n → ∃ v, w.cell? ⟨g, o + j, none⟩ = some v := fun j hj => by
      obtain ⟨Aj, nj, cj, h1, _⟩ := hc j _ (List.getElem?_eq_getElem (by omega : j < ps.length))
      exact ⟨_, h1⟩
    let vs : List Value := (List.range n).map fun j => (w.cell? ⟨g, o + j, none⟩).getD undef
    have hv : ∀ j, j < n → vs[j]? = w.cell? ⟨g, o + j, none⟩ := fun j hj => by
      obtain ⟨v, hv⟩ := hall j hj
      simp [vs, hj, hv]
    have hvl : vs.length = n := by simp [vs]
    refine ⟨vs, hvl, fun u hu => ?_, fun w' hb _ => ⟨_, hA, fun j u hj => ?_⟩, fun j p hp => ?_⟩
    · obtain ⟨j, hj, rfl⟩ := List.getElem_of_mem hu
      have hj2 : j < n := by omega
      obtain ⟨Aj, nj, cj, h1, _⟩ := hc j _ (List.getElem?_eq_getElem (by omega : j < ps.length))
      have h2 := hv j hj2
      rw [h1, List.getElem?_eq_getElem hj] at h2
      injection h2 with h2
      rw [h2]; rfl
    · have hj2 : j < n := by have := (List.getElem?_eq_some_iff.1 hj).1; omega
      rw [addr_add]
      exact (hb.cell (p := ⟨g, o + j, none⟩) hlt).trans ((hv j hj2).symm.trans hj)
    · have hj2 : j < n := by have := (List.getElem?_eq_some_iff.1 hp).1; omega
      obtain ⟨Aj, nj, cj, h1, h2⟩ := hc j p hp
      exact ⟨Aj, nj, cj, (hv j hj2).trans h1, h2⟩
/-- A new list of lists: the old ones, and one more. -/
theorem prt_new {w w' : World} {D : Nat → Prop} {ps : List (List UInt8)} {l : List UInt8} {vs : List Value} {A A1 : Option Addr} {n c n1 c1 : Nat} (hb : Below w.heap.size w w') (hown : w'.ownsRow 0 33 1 (.slice A (n + 1) c) (n + 1) (vs ++ [.slice A1 n1 c1])) (hvl : vs.length = n) (hl : ps.length = n)
    (hv : ∀ (j : Nat) (p : List UInt8), ps[j]? = some p → ∃ (Aj : Option Addr) (nj cj : Nat), vs[j]? = some (Value.slice Aj nj cj) ∧ p.length = nj ∧ nj ≤ cj ∧ BytF w D Aj p) (h1 : w'.ownsRow 0 5 1 (.slice A1 n1 c1) n1 (bv l)) (hA : ∀ a, A = some a → w.heap.size ≤ a.block) (hA1 : ∀ a, A1 = some a → w.heap.size ≤ a.block) :
    PrtF w' (fun k => D k ∨ w.heap.size ≤ k) A (ps ++ [l]) := by
  have hs := owns_size h1
  rw [bv_len] at hs
  rcases hown.2 with ⟨h2, h3⟩ | ⟨g, cap, cur, h2, _, hg, h5, _⟩
  · omega
  · have h9 := h2
    simp only [Value.slice.injEq] at h2
    obtain ⟨rfl, _, rfl⟩ := h2
    refine .inr ⟨g, 0, rfl, .inr (hA _ rfl), (Array.getElem?_eq_some_iff.1 hg).1, fun j p hj => ?_⟩
    rw [Nat.zero_add]
    have hjl := (List.getElem?_eq_some_iff.1 hj).1
    simp at hjl
    rw [World.ownsRow.cellAt hown j (by omega)]
    by_cases hjn : j < n
    · rw [List.getElem?_append_left (by omega)] at hj
      obtain ⟨Aj, nj, cj, k1, k2, k3, k4⟩ := hv j p hj
      refine ⟨Aj, nj, cj, by rw [List.getElem?_append_left (by omega)]; exact k1, k2, k3, ?_⟩
      exact (k4.off (G := fun _ => False) (Off.of_below hb fun i a b => by omega) fun _ _ _ h => h).mono fun i _ h => .inl h
    · obtain rfl : j = n := by omega
      rw [List.getElem?_append_right (by omega), hl, Nat.sub_self] at hj
      simp at hj
      subst hj
      refine ⟨A1, n1, c1, by rw [List.getElem?_append_right (by omega), hvl, Nat.sub_self]; rfl, hs.1, hs.2.2, ?_⟩
      rcases h1.2 with ⟨k1, k2⟩ | ⟨g1, cap1, cur1, k1, _, kg, _⟩
      · have : l = [] := List.eq_nil_of_length_eq_zero (by omega)
        subst this; exact .inl rfl
      · simp only [Value.slice.injEq] at k1
        obtain ⟨rfl, _, rfl⟩ := k1
        refine .inr ⟨g1, 0, rfl, .inr (hA1 _ rfl), (Array.getElem?_eq_some_iff.1 kg).1, fun i x hx => ?_⟩
        rw [Nat.zero_add, World.ownsRow.cellAt h1 i (by have := (List.getElem?_eq_some_iff.1 hx).1; omega), bv_at, hx]; rfl
/-- append in a plain region. -/
theorem wp_append_row {P : Program} (w : World) {ops : Array Oper} {rest : List Oper} {o : Oper} {a : Act} {Q : Exit → Act → World → Prop} (hgd : o.guard = none) (s x : Operand) (T : TypeId)
    (ho : o.op = .call { callee := .builtin .append, args := #[s, x], argTypes := #[T, T] }) (E : TypeId) (hT : P.underlying T = some (.slice E)) (z : Value) (size bytes : Nat)
    (hI : (P.info? E).map (fun i => (i.zero, i.size, i.bytes)) = some (some z, size, bytes)) (hz : z.cells.size = size) (hp : 0 < size) (hby : bytes ≤ 64) (A : Option Addr) (n c : Nat) (xs : List Value) (hs : a.eval s = .slice A n c) (hown : w.ownsRow 0 E size (.slice A n c) n xs)
    (d : Addr) (m c2 : Nat) (hx : a.eval x = .slice (some d) m c2) (news : List Value) (hsrc : ∀ j u, news[j]? = some u → w.cell? (d.add j) = some u) (h1 : ∀ u ∈ news, u.oneCell' = true) (hl : news.length = m * size) (hsz : (n + m) * 64 ≤ 140737488355328)
    (h : ∀ A' c' w', w'.ownsRow 0 E size (.slice A' (n + m) c') (n + m) (xs ++ news) → w.grownBy w' (A.map (·.block)) → (∀ p, A' = some p → (∃ q, A = some q ∧ p.block = q.block) ∨ w.heap.size ≤ p.block) → wpList P ops Q rest (a.put o.dst (.slice A' (n + m) c')) w') : wpList P ops Q (o :: rest) a w := by
  refine wpList_plain hgd fun K hK => ?_
  obtain ⟨A', c', w', hrun, h2, h3, h4, _⟩ := append_row (P := P) (ty := o.type) w hT hI hz hp hown d m c2 news hl hsrc h1 hsz hby
  unfold Oper.wp
  simp only [execOp, ho, resolve, invoke, builtin, Sem.run_bind, Sem.run_pure, Result.andThen_ok, List.map_toArray, List.map_cons, List.map_nil, hs, hx, hrun]
  exact hK _ _ (h A' c' w' h2 h3 h4)
theorem own_next {w w' : World} {e size m : Nat} {v : Value} {xs : List Value} (h : Hid (w.ownsRow 0 e size v m xs)) (hb : Below w.heap.size w w') : Hid (w'.ownsRow 0 e size v m xs) := Lib.hid (owns3_keep h.out fun k hk _ => hb.block k hk)
def Rf.add (f : Rf) (l : List UInt8) : Rf := ⟨f.safe, f.ws ++ [l]⟩
/-- A file has a new list of writes. -/
theorem put_w {w w' w3 : World} {D : Nat → Prop} {r n c room lives b i : Nat} {pf : Bool} {xs : List Value} {L : List (ByteArray × Rf)} {s : ByteArray} {f : Rf} {As Aw : Option Addr} {ns cs nw cw : Nat} {l : List UInt8} (h : RkAt w D r (some ⟨b, 0, none⟩) n c room pf lives xs L) (hb3 : Below w.heap.size w w3)
    (hown : w'.ownsRow 0 56 3 (.slice (some ⟨b, 0, none⟩) n c) n (xs.set (i * 3 + 2) (.slice Aw (nw + 1) cw))) (hg : w3.grownBy w' (some b)) (hi : i < n) (x0 : xs[i * 3]? = some (.string s)) (x1 : xs[i * 3 + 1]? = some (.slice As ns cs)) (hxl : xs.length = n * 3)
    (hs : BytF w D As f.safe) (hsl : f.safe.length = ns) (hsc : ns ≤ cs) (hP : PrtF w3 (fun k => D k ∨ w.heap.size ≤ k) Aw (f.ws ++ [l])) (hwl : f.ws.length = nw) (hcap : nw + 1 ≤ cw) :
    RkAt w' (fun k => D k ∨ (w.heap.size ≤ k ∧ k < w3.heap.size)) r (some ⟨b, 0, none⟩) n c room pf lives (xs.set (i * 3 + 2) (.slice Aw (nw + 1) cw)) (L.set i (s, f.add l)) ∧ Off (RkG D r (some ⟨b, 0, none⟩)) w w' :=
  h.putEnt (nm := s) (f := f.add l) (As := As) (ns := ns) (cs := cs) (Aw := Aw) (nw := nw + 1) (cw := cw) hb3 hown hg hi (by rw [List.getElem?_set_ne (by omega)]; exact x0) (by rw [List.getElem?_set_ne (by omega)]; exact x1) (List.getElem?_set_self (by omega)) (fun k hk => List.getElem?_set_ne (by omega))
    ((hs.off (G := fun _ => False) (Off.of_below hb3 fun i a b => by omega) fun _ _ _ h => h).mono fun _ _ h => .inl h) hsl hsc hP (by simp [Rf.add, hwl]) hcap
theorem byt_src {w : World} {A : Option Addr} {l : List UInt8} {m : Nat} (h : Byt w w.heap.size A l) (hl : l.length = m) : ∀ w', Below w.heap.size w w' → m ≠ 0 → ∃ d, A = some d ∧ ∀ j u, (bv l)[j]? = some u → w'.cell? (d.add j) = some u := fun w' hb hm => by
  rcases h.below hb with h | ⟨g, o, hA, _, hc⟩
  · subst h; exact absurd hl.symm hm
  · refine ⟨_, hA, fun j u hj => ?_⟩
    rw [bv_at] at hj
    obtain ⟨x, hx, rfl⟩ := Option.map_eq_some_iff.1 hj
    rw [addr_add]; exact hc j x hx
theorem app_end {w w3 w' : World} {G D : Nat → Prop} {r n c room lives z : Nat} {A : Option Addr} {pf : Bool} {xs : List Value} {L : List (ByteArray × Rf)} (hG : ∀ i, G i ↔ RkG D r A i) (hb : Below w.heap.size w w3) (h : RkAt w' (fun k => D k ∨ (w3.heap.size ≤ k ∧ k < z)) r A n c room pf lives xs L) (ho : Off (RkG D r A) w3 w') :
    (∃ G', RkIs w' G' r ⟨room, pf, lives, L⟩ ∧ OwnG G G' w.heap.size) ∧ Off G w w' := by
  refine ⟨⟨RkG (fun k => D k ∨ (w3.heap.size ≤ k ∧ k < z)) r A, ⟨_, _, _, _, _, h, fun _ => Iff.rfl⟩, fun k hk => ?_⟩, (Off.of_below (F := G) hb fun i a b => by omega).trans ho fun k hk => .inl ((hG k).2 hk)⟩
  rcases hk with hk | hk | hk | hk
  · exact .inl ((hG k).2 (.inl hk))
  · exact .inl ((hG k).2 (.inr (.inl hk)))
  · exact .inl ((hG k).2 (.inr (.inr hk)))
  · exact .inr (Nat.le_trans hb.size hk.1)
theorem app_end2 {w w3 w5 w' : World} {G D : Nat → Prop} {r n c room lives z : Nat} {A A4 : Option Addr} {pf : Bool} {xs : List Value} {L : List (ByteArray × Rf)} (hG : ∀ i, G i ↔ RkG D r A i) (hb : Below w.heap.size w w3) (h5 : Off (fun k => k = r ∨ ∃ a, A = some a ∧ k = a.block) w3 w5) (hA : ∀ p, A4 = some p → (∃ q, A = some q ∧ p.block = q.block) ∨ w3.heap.size ≤ p.block)
    (h : RkAt w' (fun k => D k ∨ (w5.heap.size ≤ k ∧ k < z)) r A4 n c room pf lives xs L) (ho : Off (RkG D r A4) w5 w') : (∃ G', RkIs w' G' r ⟨room, pf, lives, L⟩ ∧ OwnG G G' w.heap.size) ∧ Off G w w' := by
  have key : ∀ k, RkG D r A4 k → G k ∨ w.heap.size ≤ k := fun k hk => by
    rcases hk with hk | ⟨a, ha, rfl⟩ | hk
    · exact .inl ((hG k).2 (.inl hk))
    · rcases hA a ha with ⟨q, hq, e⟩ | e
      · exact .inl ((hG _).2 (.inr (.inl ⟨q, hq, e⟩)))
      · exact .inr (Nat.le_trans hb.size e)
    · exact .inl ((hG k).2 (.inr (.inr hk)))
  refine ⟨⟨RkG (fun k => D k ∨ (w5.heap.size ≤ k ∧ k < z)) r A4, ⟨_, _, _, _, _, h, fun _ => Iff.rfl⟩, fun k hk => ?_⟩, ((Off.of_below (F := G) hb fun i a b => by omega).trans h5 fun k hk => .inl ((hG k).2 (by rcases hk with hk | hk; exact .inl hk; exact .inr (.inl hk)))).trans ho key⟩
  rcases hk with hk | hk | hk | hk
  · exact key k (.inl hk)
  · exact key k (.inr (.inl hk))
  · exact key k (.inr (.inr hk))
  · exact .inr (Nat.le_trans hb.size (Nat.le_trans h5.size hk.1))
theorem ent_new {w : World} {D : Nat → Prop} (s : ByteArray) : EntAt w D [.string s, .slice none 0 0, .slice none 0 0] 0 (s, ⟨[], []⟩) :=
  ⟨none, 0, 0, none, 0, 0, rfl, rfl, rfl, .inl rfl, rfl, Nat.le_refl _, .inl rfl, rfl, Nat.le_refl _⟩
end Go.Proofs.Ytnpaodhcaeofnaa
