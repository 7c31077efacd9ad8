/-
  A disk's file in memory, and the contracts of its calls end and write. Conditions: at most 2^40 bytes.
-/
import Derived.Test.YtnpaodhcaeofnaaDkA
import Derived.Test.YtnpaodhcaeofnaaDkS
import Derived.Test.YtnpaodhcaeofnaaNew
import Derived.Test.YtnpaodhcaeofnaaOctA
namespace Go.Proofs.Ytnpaodhcaeofnaa
open Go.RowKit

/-- A file at g: its bytes x, where its writes begin s; all of it in blocks of K. -/
def FileR (w : World) (K : Nat → Prop) (g : Nat) (x : List UInt8) (s : List Nat) : Prop :=
  K g ∧ ∃ A n c A2 n2 c2, w.heap[g]? = some (.cells #[.slice A n c, .slice A2 n2 c2] 50 (0, 0)) ∧ w.ownsRow 0 5 1 (.slice A n c) n (bv x) ∧ w.ownsRow 0 3 1 (.slice A2 n2 c2) n2 (iv s) ∧ AtF K A ∧ AtF K A2
def FileIs (w : World) (K : Nat → Prop) (g : Nat) (f : Fl) : Prop := f.gs.length ≤ 65 ∧ FileR w K g f.all f.st
section
variable {w w' : World} {K G : Nat → Prop} {g : Nat} {x : List UInt8} {s : List Nat} {f : Fl}
theorem owns_keep {e n : Nat} {v : Value} {xs : List Value} (h : w.ownsRow 0 e 1 v n xs) (hb : ∀ k, k < w.heap.size → v.ownBlock = some k → w'.heap[k]? = w.heap[k]?) : w'.ownsRow 0 e 1 v n xs := by
  refine ⟨h.1, ?_⟩
  rcases h.2 with hn | ⟨g, cap, cur, rfl, hB, hg, r⟩
  · exact .inl hn
  · exact .inr ⟨g, cap, cur, rfl, hB, (hb g (Array.getElem?_eq_some_iff.1 hg).1 rfl).trans hg, r⟩
theorem owns_lt {e n c m : Nat} {A : Option Addr} {xs : List Value} (h : w.ownsRow 0 e 1 (.slice A n c) m xs) : AtF (fun i => i < w.heap.size) A := fun a ha => by subst ha; exact (h.lt a.block rfl).2
/-- A row of another type is another block. -/
theorem owns_ne {e n c m t : Nat} {A : Option Addr} {xs : List Value} {cs : Array Value} (h : w.ownsRow 0 e 1 (.slice A n c) m xs) (hg : w.heap[g]? = some (.cells cs t (0, 0))) (ht : e ≠ t) : AtF (fun i => i ≠ g) A := fun a ha e1 => by
  subst ha
  rcases h.2 with ⟨h1, _⟩ | ⟨g', cap, cur, h1, _, h2, _⟩
  · simp at h1
  · simp only [Value.slice.injEq, Option.some.injEq] at h1
    rw [h1.1] at e1
    rw [show g' = g from e1, hg] at h2
    injection h2 with h2
    injection h2 with _ h2 _
    exact ht h2.symm
theorem FileR.lt (h : FileR w K g x s) : g < w.heap.size := by
  obtain ⟨_, A, n, c, A2, n2, c2, hg, _⟩ := h
  exact (Array.getElem?_eq_some_iff.1 hg).1
theorem FileR.keep (h : FileR w K g x s) (hb : ∀ k, k < w.heap.size → K k → w'.heap[k]? = w.heap[k]?) : FileR w' K g x s := by
  have hlt := h.lt
  obtain ⟨hK, A, n, c, A2, n2, c2, hg, h1, h2, h3, h4⟩ := h
  refine ⟨hK, A, n, c, A2, n2, c2, (hb g hlt hK).trans hg, owns_keep h1 ?_, owns_keep h2 ?_, h3, h4⟩
  · intro k hk e; cases A with
    | none => simp [Value.ownBlock] at e
    | some a => simp [Value.ownBlock] at e; subst e; exact hb _ hk (h3 a rfl)
  · intro k hk e; cases A2 with
    | none => simp [Value.ownBlock] at e
    | some a => simp [Value.ownBlock] at e; subst e; exact hb _ hk (h4 a rfl)
theorem FileR.off (h : FileR w K g x s) (hb : Off G w w') (hd : ∀ i, i < w.heap.size → K i → ¬ G i) : FileR w' K g x s := h.keep fun k hk hK => hb.block k hk (hd k hk hK)
theorem FileR.mono (h : FileR w K g x s) (hG : ∀ i, i < w.heap.size → K i → G i) : FileR w G g x s := by
  have hlt := h.lt
  obtain ⟨hK, A, n, c, A2, n2, c2, hg, h1, h2, h3, h4⟩ := h
  exact ⟨hG g hlt hK, A, n, c, A2, n2, c2, hg, h1, h2, fun a ha => hG _ (owns_lt h1 a ha) (h3 a ha), fun a ha => hG _ (owns_lt h2 a ha) (h4 a ha)⟩
theorem FileIs.off (h : FileIs w K g f) (hb : Off G w w') (hd : ∀ i, i < w.heap.size → K i → ¬ G i) : FileIs w' K g f := ⟨h.1, h.2.off hb hd⟩
theorem FileIs.mono (h : FileIs w K g f) (hG : ∀ i, i < w.heap.size → K i → G i) : FileIs w G g f := ⟨h.1, h.2.mono hG⟩
theorem owns_size {e n c m : Nat} {A : Option Addr} {xs : List Value} (h : w.ownsRow 0 e 1 (.slice A n c) m xs) : xs.length = m ∧ m = n ∧ n ≤ c := by
  have h1 := h.1
  rcases h.2 with ⟨h2, h3⟩ | ⟨g', cap, cur, h2, _, _, h5, _⟩
  · simp only [Value.slice.injEq] at h2; omega
  · simp only [Value.slice.injEq] at h2; omega
theorem own_ints {n c : Nat} {A : Option Addr} {s : List Nat} (h : w.ownsRow 0 3 1 (.slice A n c) n (iv s)) {k : Nat} (hk : k < s.length) : ∃ b v, A = some ⟨b, 0, none⟩ ∧ s[k]? = some v ∧ w.cell? ⟨b, k, none⟩ = some (.int .i64 (v : Int)) := by
  have hs := owns_size h
  rw [iv_len] at hs
  rcases h.2 with ⟨h2, h3⟩ | ⟨b, cap, cur, h2, hb, hg, h5, h6, h7, h8⟩
  · omega
  · have h9 := h2
    simp only [Value.slice.injEq] at h2
    obtain ⟨rfl, _, rfl⟩ := h2
    have h10 := World.ownsRow.cellAt h k (by omega)
    refine ⟨b, s[k], rfl, List.getElem?_eq_getElem hk, ?_⟩
    rw [h10, iv_at, List.getElem?_eq_getElem hk]; rfl
end
theorem Try.sizeInt : (Try.prog.info? 3).map (·.size) = some 1 := by kernel_rfl
theorem Try.infoInt : (Try.prog.info? 3).map (fun i => (i.zero, i.size, i.bytes)) = some (some (.int .i64 0), 1, 8) := by kernel_rfl

set_option maxRecDepth 100000 in
theorem end_any (w : World) (K : Nat → Prop) (g : Nat) (x : List UInt8) (s : List Nat) (hf : FileR w K g x s) (i : Nat) (hi : i < s.length) (hi2 : s.length ≤ 65) :
    Calls Try.prog 37 #[.pointer (some ⟨g, 0, none⟩), .int .i64 (i : Int)] w fun e w' => ∃ v : Nat, e = .returned (.int .i64 (v : Int)) ∧ Hid ((s ++ [x.length])[i + 1]? = some v) ∧ w' = w := by
  obtain ⟨hK, A, n, c, A2, n2, c2, hg, h1, h2, _, _⟩ := hf
  have hs1 := owns_size h1
  have hs2 := owns_size h2
  rw [bv_len] at hs1
  rw [iv_len] at hs2
  have c0 : w.cell? ⟨g, 0, none⟩ = some (.slice A n c) := by rw [cell_of_row _ _ _ _ _ _ hg]; rfl
  have c1 : w.cell? ⟨g, 1, none⟩ = some (.slice A2 n2 c2) := by rw [cell_of_row _ _ _ _ _ _ hg]; rfl
  by_cases hlt : i + 1 < s.length
  · obtain ⟨b, v, rfl, hv, hc⟩ := own_ints h2 hlt
    have HV := Lib.hid (show (s ++ [x.length])[i + 1]? = some v by rw [List.getElem?_append_left hlt]; exact hv)
    have hn2 : i + 1 < n2 := by omega
    have hi3 : i < 65 := by omega
    clear hg h1 h2 hs1 hs2 hlt hi hi2 hv
    go_enter Try.func37, Try.ntmps37
    go_wp2
    go_ret
    exact ⟨v, rfl, HV, rfl⟩
  · have HV := Lib.hid (show (s ++ [x.length])[i + 1]? = some x.length by
      have e : i + 1 = s.length := by omega
      rw [e, List.getElem?_append_right (Nat.le_refl _), Nat.sub_self]; rfl)
    have hn2 : ¬ i + 1 < n2 := by omega
    have hi3 : i < 65 := by omega
    obtain ⟨m, hm⟩ : ∃ m, m = x.length := ⟨_, rfl⟩
    rw [← hm] at HV
    obtain rfl : m = n := by omega
    clear hg h1 h2 hs1 hs2 hlt hi hi2
    have HM := Lib.hid hm
    clear hm
    go_enter Try.func37, Try.ntmps37
    go_wp2
    go_ret
    exact ⟨m, rfl, by rw [← HM.out]; exact HV, rfl⟩

theorem row2 {w : World} {g t : Nat} {a b : Value} (h : w.heap[g]? = some (.cells #[a, b] t (0, 0))) : w.cell? ⟨g, 0, none⟩ = some a ∧ w.cell? ⟨g, 1, none⟩ = some b ∧ w.frozen? ⟨g, 0, none⟩ = false ∧ w.frozen? ⟨g, 1, none⟩ = false :=
  ⟨by rw [cell_of_row _ _ _ _ _ _ h]; rfl, by rw [cell_of_row _ _ _ _ _ _ h]; rfl, frozen_of_row _ _ _ _ _ h, frozen_of_row _ _ _ _ _ h⟩
theorem AtF.atGrown {K : Nat → Prop} {A A' : Option Addr} {z : Nat} (h : AtF K A) (h2 : ∀ p, A' = some p → (∃ q, A = some q ∧ p.block = q.block) ∨ z ≤ p.block) : AtF (fun i => K i ∨ z ≤ i) A' := fun p hp => by
  rcases h2 p hp with ⟨q, hq, e⟩ | h3
  · left; rw [e]; exact h q hq
  · exact .inr h3
theorem grown_row {w w' : World} {A : Option Addr} {g t : Nat} {cs : Array Value} (hgr : w.grownBy w' (A.map (·.block))) (hA : AtF (fun i => i ≠ g) A) (hg : w.heap[g]? = some (.cells cs t (0, 0))) : w'.heap[g]? = some (.cells cs t (0, 0)) :=
  (hgr.block g (Array.getElem?_eq_some_iff.1 hg).1 (fun e => by
    cases A with
    | none => simp at e
    | some a => simp at e; exact hA a rfl e.symm)).trans hg
/-- A row of another type has turned. -/
theorem own_grown {w w' : World} {A A2 : Option Addr} {e1 e2 n c n2 c2 m m2 : Nat} {xs ys : List Value} (h1 : w.ownsRow 0 e1 1 (.slice A n c) m xs) (h2 : w.ownsRow 0 e2 1 (.slice A2 n2 c2) m2 ys) (he : e1 ≠ e2) (hgr : w.grownBy w' (A2.map (·.block))) : w'.ownsRow 0 e1 1 (.slice A n c) m xs := by
  refine owns_keep h1 fun k hk hv => hgr.block k hk fun e => ?_
  cases A2 with
  | none => simp at e
  | some a2 =>
    simp at e
    subst e
    rcases h2.2 with ⟨h3, _⟩ | ⟨b, cap, cur, h3, _, h4, _⟩
    · simp at h3
    · simp only [Value.slice.injEq, Option.some.injEq] at h3
      rw [h3.1] at hv
      cases A with
      | none => simp [Value.ownBlock] at hv
      | some a => 
        simp [Value.ownBlock] at hv
        exact owns_ne h1 h4 he a rfl hv
theorem own_set {w : World} {A : Option Addr} {e n c m g i : Nat} {xs : List Value} (h : w.ownsRow 0 e 1 (.slice A n c) m xs) (hA : AtF (fun i => i ≠ g) A) (u : Value) : (w.setCell ⟨g, i, none⟩ u).ownsRow 0 e 1 (.slice A n c) m xs :=
  owns_keep h fun k hk hv => ((But.refl g w).set (i := i) u).block k hk fun e => by
    cases A with
    | none => simp [Value.ownBlock] at hv
    | some a =>
      simp [Value.ownBlock] at hv
      injection e with e
      exact hA a rfl (by omega)
theorem off_set {K : Nat → Prop} {w : World} {g i : Nat} (v : Value) (hg : K g) : Off K w (w.setCell ⟨g, i, none⟩ v) := (Off.refl K w).set (.inl hg) v
theorem grown_off {K : Nat → Prop} {w w' : World} {A : Option Addr} (h : w.grownBy w' (A.map (·.block))) (hA : AtF K A) : Off K w w' :=
  ⟨h.os, h.tape, h.output, h.size, fun k hk hn => h.block k hk (fun e => by
    cases A with
    | none => simp at e
    | some a => simp at e; exact hn (by rw [e]; exact hA a rfl))⟩
theorem bytF_src {w : World} {F : Nat → Prop} {A : Option Addr} {l : List UInt8} (h : BytF w F A l) : bv l ≠ [] → ∃ d, A = some d ∧ ∀ j u, (bv l)[j]? = some u → w.cell? (d.add j) = some u := by
  intro hne
  rcases h with h | ⟨g, o, rfl, _, _, hc⟩
  · subst h; exact absurd rfl hne
  · refine ⟨_, rfl, fun j u hj => ?_⟩
    rw [bv_at] at hj
    obtain ⟨b, hb, rfl⟩ := Option.map_eq_some_iff.1 hj
    rw [addr_add]; exact hc j b hb

set_option maxRecDepth 100000 in
set_option maxHeartbeats 1000000 in
theorem write_any (w : World) (K : Nat → Prop) (g : Nat) (f : Fl) (hf : FileIs w K g f) (B : Option Addr) (l : List UInt8) (m cB : Nat) (hb : BytF w (fun i => ¬ K i) B l) (hl : l.length = m) (hsz : f.all.length + m ≤ 1099511627776) :
    Calls Try.prog 25 #[.pointer (some ⟨g, 0, none⟩), .slice B m cB] w fun e w' => e = .returned (.tuple #[]) ∧ FileIs w' (fun i => K i ∨ w.heap.size ≤ i) g (f.write l) ∧ Off K w w' := by
  obtain ⟨hlen, hK, A, n, c, A2, n2, c2, hg, h1, h2, h3, h4⟩ := hf
  have hs1 := owns_size h1
  have hs2 := owns_size h2
  rw [bv_len] at hs1
  rw [iv_len, st_len] at hs2
  have c0 : w.cell? ⟨g, 0, none⟩ = some (.slice A n c) := by rw [cell_of_row _ _ _ _ _ _ hg]; rfl
  have c1 : w.cell? ⟨g, 1, none⟩ = some (.slice A2 n2 c2) := by rw [cell_of_row _ _ _ _ _ _ hg]; rfl
  by_cases hmany : f.gs.length = 65
  · have HST := vlt (write_st_many f l hmany)
    have hn2 : 64 < n2 := by omega
    obtain ⟨b2, v0, rfl, _, hc64⟩ := own_ints h2 (k := 64) (by rw [st_len]; omega)
    have hfz := h2.frozenAt 64
    have hstored := h2.stored 64 (.int .i64 (n : Int))
    have hgl := (Array.getElem?_eq_some_iff.1 hg).1
    have H3 := Lib.hid h3
    have H4 := Lib.hid h4
    have HA1 := Lib.hid (owns_ne h1 hg (by decide))
    have HA2 := Lib.hid (owns_ne h2 hg (by decide))
    have HL := Lib.hid hl
    have HSZ := Lib.hid (show n + m ≤ 1099511627776 by omega)
    have HN := Lib.hid (show f.all.length = n by omega)
    have hn3 : n2 = 65 := by omega
    have hle2 : n2 ≤ c2 := by omega
    have HLEN := Lib.hid hlen
    have hrow1 : (w.setCell ⟨b2, 64, none⟩ (.int .i64 (n : Int))).heap[g]? = some (.cells #[.slice A n c, .slice (some ⟨b2, 0, none⟩) n2 c2] 50 (0, 0)) := grown_row (A := some ⟨b2, 0, none⟩) hstored.2 HA2.out hg
    have hoff2 : Off K w (w.setCell ⟨b2, 64, none⟩ (.int .i64 (n : Int))) := grown_off (A := some ⟨b2, 0, none⟩) hstored.2 H4.out
    have HO3 := Lib.hid hstored.1
    have HO1 := Lib.hid (own_grown h1 h2 (by decide) (hgr := hstored.2))
    have HAT3 : Hid (AtF (fun i => K i ∨ w.heap.size ≤ i) (some ⟨b2, 0, none⟩)) := Lib.hid (h4.mono fun i h => .inl h)
    clear hg h1 h2 h3 h4 hs1 hs2 hmany hl hsz hlen hstored
    subst hn3
    go_enter Try.func25, Try.ntmps25
    go_upto_region 4 with fail
    generalize hw2 : World.setCell w ⟨b2, 64, none⟩ (.int .i64 (n : Int)) = w2 at *
    have hrow2 := hrow1
    clear hw2 hrow1 c0 c1 hc64 hfz
    obtain ⟨d0, d1, e0, e1⟩ := row2 hrow2
    have hb2 := hb.off hoff2 (fun i _ h => h)
    go_wp2_with (at_builtin; refine wp_append_at _ rfl _ _ 33 rfl 5 Try.underlying33 (.int .u8 0) 1 Try.infoByte rfl (by decide) A n c (bv f.all) rfl HO1.out B m cB rfl (bv l) (bytF_src hb2) (bv_one _) (by rw [bv_len]; exact HL.out) (by have := HSZ.out; omega) ?_)
    intro A4 c4 w3 hown4 hgr4 hat4
    have hrow3 := grown_row hgr4 HA1.out hrow2
    have HO5 := Lib.hid (own_set (i := 0) (own_grown HO3.out HO1.out (by decide) hgr4) (owns_ne (own_grown HO3.out HO1.out (by decide) hgr4) hrow3 (by decide)) (.slice A4 (n + m) c4))
    have HO4 := Lib.hid (own_set (i := 0) hown4 (owns_ne hown4 hrow3 (by decide)) (.slice A4 (n + m) c4))
    have hoff3 := hoff2.trans (grown_off hgr4 H3.out) fun i h => .inl h
    have hoff4 := hoff3.trans (off_set (i := 0) (.slice A4 (n + m) c4) hK) fun i h => .inl h
    have HAT4 : Hid (AtF (fun i => K i ∨ w.heap.size ≤ i) A4) := Lib.hid ((H3.out.atGrown hat4).mono fun i h => h.imp id fun h => Nat.le_trans hoff2.size h)
    have hset := world_set_cell (cs := [.slice A n c, .slice (some ⟨b2, 0, none⟩) 65 c2]) hrow3 0 (.slice A4 (n + m) c4)
    clear d0 d1 e0 e1
    obtain ⟨d0, d1, e0, e1⟩ := row2 hrow3
    clear hown4 hgr4 hat4 hrow2 hrow3 HO1 HO3
    go_wp2
    go_end0
    have hst := HST.out
    refine ⟨rfl, ⟨wr_len _ _ HLEN.out, .inl hK, A4, n + m, c4, some ⟨b2, 0, none⟩, 65, c2, hset.out, ?_, ?_, HAT4.out, HAT3.out⟩, hoff4⟩
    · have h := HO4.out
      rw [write_all, bv_app]; exact h
    · have h := HO5.out
      rw [hst, HN.out, ← iv_set]; exact h
  · have HST := vlt (write_st_few f l (by omega))
    have hn2 : ¬ 64 < n2 := by omega
    have hgl := (Array.getElem?_eq_some_iff.1 hg).1
    have HG := Lib.hid hg
    have H1 := Lib.hid h1
    have H2 := Lib.hid h2
    have H3 := Lib.hid h3
    have H4 := Lib.hid h4
    have HA1 := Lib.hid (owns_ne h1 hg (by decide))
    have HA2 := Lib.hid (owns_ne h2 hg (by decide))
    have HL := Lib.hid hl
    have HSZ := Lib.hid (show n + m ≤ 1099511627776 by omega)
    have HN := Lib.hid (show f.all.length = n by omega)
    have hn3 : n2 ≤ 64 := by omega
    have HLEN := Lib.hid hlen
    clear hg h1 h2 h3 h4 hs1 hs2 hmany hl hsz hlen
    go_enter Try.func25, Try.ntmps25
    go_upto_region 3 with fail
    go_wp2_with (at_builtin; refine wp_append_at _ rfl _ _ 48 rfl 3 Try.underlying48 (.int .i64 0) 8 Try.infoInt rfl (by decide) A2 n2 c2 (iv f.st) rfl (H2.out.alloc _) (some ⟨w.heap.size, 0, none⟩) 1 1 rfl (iv [n]) (fun _ => ⟨_, rfl, fun j u hj => ?_⟩) (iv_one _) rfl (by omega) ?_)
    · rw [addr_add, Nat.zero_add, World.cell?_alloc_new]
      simpa [iv] using hj
    intro A3 c3 w1 hown3 hgr3 hat3
    obtain ⟨w0, hw0⟩ : ∃ w0, w0 = w.alloc (.cells #[.int .i64 (n : Int)] 3) := ⟨_, rfl⟩
    rw [← hw0] at hgr3
    have hoff0 : Off K w w0 := by rw [hw0]; exact (Off.refl K w).alloc _
    have hrow0 : w0.heap[g]? = some (.cells #[.slice A n c, .slice A2 n2 c2] 50 (0, 0)) := by rw [hw0]; exact (heap_alloc_old w _ hgl).trans HG.out
    have hrow1 := grown_row hgr3 HA2.out hrow0
    have hoff1 := hoff0.trans (grown_off hgr3 H4.out) fun i h => .inl h
    obtain ⟨d0, d1, e0, e1⟩ := row2 hrow1
    have hset := world_set_cell (cs := [.slice A n c, .slice A2 n2 c2]) hrow1 1 (.slice A3 (n2 + 1) c3)
    have hoff2 := hoff1.trans (off_set (i := 1) (.slice A3 (n2 + 1) c3) hK) fun i h => .inl h
    have HAT3 : Hid (AtF (fun i => K i ∨ w.heap.size ≤ i) A3) := Lib.hid ((H4.out.atGrown hat3).mono fun i h => h.imp id fun h => by omega)
    have HO3 := Lib.hid hown3
    have HO3 := Lib.hid (own_set (i := 1) hown3 (owns_ne hown3 hrow1 (by decide)) (.slice A3 (n2 + 1) c3))
    have H10 : w0.ownsRow 0 5 1 (.slice A n c) n (bv f.all) := by rw [hw0]; exact H1.out.alloc _
    have H20 : w0.ownsRow 0 3 1 (.slice A2 n2 c2) n2 (iv f.st) := by rw [hw0]; exact H2.out.alloc _
    have HO1 := Lib.hid (own_set (i := 1) (own_grown H10 H20 (by decide) hgr3) HA1.out (.slice A3 (n2 + 1) c3))
    clear hown3 hat3 hgr3 hrow0 hw0 hoff0 H10 H20 H1 H2 HG c0 c1
    go_upto_region 4 with fail
    generalize hw2 : World.setCell w1 ⟨g, 1, none⟩ (.slice A3 (n2 + 1) c3) = w2 at *
    have hrow2 : w2.heap[g]? = some (.cells #[.slice A n c, .slice A3 (n2 + 1) c3] 50 (0, 0)) := hset.out
    clear hw2 hset hrow1 d0 d1 e0 e1 hoff1
    obtain ⟨d0, d1, e0, e1⟩ := row2 hrow2
    have hb2 := hb.off hoff2 (fun i _ h => h)
    go_wp2_with (at_builtin; refine wp_append_at _ rfl _ _ 33 rfl 5 Try.underlying33 (.int .u8 0) 1 Try.infoByte rfl (by decide) A n c (bv f.all) rfl HO1.out B m cB rfl (bv l) (bytF_src hb2) (bv_one _) (by rw [bv_len]; exact HL.out) (by have := HSZ.out; omega) ?_)
    intro A4 c4 w3 hown4 hgr4 hat4
    have hrow3 := grown_row hgr4 HA1.out hrow2
    have HO5 := Lib.hid (own_set (i := 0) (own_grown HO3.out HO1.out (by decide) hgr4) (owns_ne (own_grown HO3.out HO1.out (by decide) hgr4) hrow3 (by decide)) (.slice A4 (n + m) c4))
    have HO4 := Lib.hid (own_set (i := 0) hown4 (owns_ne hown4 hrow3 (by decide)) (.slice A4 (n + m) c4))
    have hoff3 := hoff2.trans (grown_off hgr4 H3.out) fun i h => .inl h
    have hoff4 := hoff3.trans (off_set (i := 0) (.slice A4 (n + m) c4) hK) fun i h => .inl h
    have HAT4 : Hid (AtF (fun i => K i ∨ w.heap.size ≤ i) A4) := Lib.hid ((H3.out.atGrown hat4).mono fun i h => h.imp id fun h => Nat.le_trans hoff2.size h)
    have hset := world_set_cell (cs := [.slice A n c, .slice A3 (n2 + 1) c3]) hrow3 0 (.slice A4 (n + m) c4)
    clear d0 d1 e0 e1
    obtain ⟨d0, d1, e0, e1⟩ := row2 hrow3
    clear hown4 hgr4 hat4 hrow2 hrow3 HO1 HO3
    go_wp2
    go_end0
    have hst := HST.out
    refine ⟨rfl, ⟨wr_len _ _ HLEN.out, .inl hK, A4, n + m, c4, A3, n2 + 1, c3, hset.out, ?_, ?_, HAT4.out, HAT3.out⟩, hoff4⟩
    · have h := HO4.out
      rw [write_all, bv_app]; exact h
    · have h := HO5.out
      rw [hst, iv_app, HN.out]; exact h
end Go.Proofs.Ytnpaodhcaeofnaa
