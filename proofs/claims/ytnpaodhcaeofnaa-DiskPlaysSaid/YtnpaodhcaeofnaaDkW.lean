/-
  A disk that a law has made, beside another object (P) and bytes that are kept (xs): the contracts of its calls once more, with all that is the law's own in new blocks. Conditions: as each says.
-/
import Derived.Test.YtnpaodhcaeofnaaDkT
import Derived.Test.YtnpaodhcaeofnaaByn
namespace Go.Proofs.Ytnpaodhcaeofnaa
open Go.RowKit

/-- An object that stays when its own blocks stay. -/
structure Obj2 (P : World → (Nat → Prop) → Prop) : Prop where
  off : ∀ {W W' : World} {F G : Nat → Prop}, P W G → Off F W W' → (∀ i, G i → ¬ F i) → P W' G
  low : ∀ {W : World} {G : Nat → Prop}, P W G → ∀ i, G i → i < W.heap.size
def NoObj : World → (Nat → Prop) → Prop := fun _ G => ∀ i, ¬ G i
theorem noObj : Obj2 NoObj := ⟨fun h _ _ => h, fun h i hi => absurd hi (h i)⟩
/-- A disk of a call's own, beside P, in blocks that were not there when it began (w0). -/
def Mine (w0 W : World) (d N : Nat) (S : Dk) (P : World → (Nat → Prop) → Prop) (xs : List (Option Addr × List UInt8)) : Prop :=
  ∃ O G, DkIs W O d N S ∧ P W G ∧ (∀ i, G i → O i = none) ∧ (∀ i, O i ≠ none → w0.heap.size ≤ i) ∧ (∀ i, G i → w0.heap.size ≤ i) ∧ Below w0.heap.size w0 W ∧ ∀ p ∈ xs, BytF W (fun i => O i = none ∧ ¬ G i) p.1 p.2
section
variable {w0 W W' : World} {d N : Nat} {S : Dk} {O : Nat → Option Nat} {P : World → (Nat → Prop) → Prop} {xs : List (Option Addr × List UInt8)}
theorem DkIs.low (h : DkIs W O d N S) : ∀ i, O i ≠ none → i < W.heap.size := by
  obtain ⟨⟨m, L, h1, _⟩, _⟩ := h
  exact h1.low
theorem Mine.bel (h : Mine w0 W d N S P xs) : Below w0.heap.size w0 W := by obtain ⟨O, G, _, _, _, _, _, h, _⟩ := h; exact h
theorem Mine.off (hP : Obj2 P) (h : Mine w0 W d N S P xs) (hb : Off (fun _ => False) W W') : Mine w0 W' d N S P xs := by
  obtain ⟨O, G, h1, h2, h3, h4, h5, h6, h7⟩ := h
  exact ⟨O, G, h1.off hb fun _ _ h => h, hP.off h2 hb fun _ _ h => h, h3, h4, h5, hb.below h6 (fun _ h => h.elim) h6.size, fun p hp => (h7 p hp).off hb fun _ _ _ h => h⟩
theorem Mine.next (hP : Obj2 P) (h : Mine w0 W d N S P xs) (hb : Below W.heap.size W W') : Mine w0 W' d N S P xs := h.off hP (Off.of_below hb fun i a b => by omega)
theorem Mine.alloc (hP : Obj2 P) (h : Mine w0 W d N S P xs) (o : Obj) : Mine w0 (W.alloc o) d N S P xs := h.next hP ((Below.refl _ _).alloc (Nat.le_refl _) o)
theorem Mine.drew (hP : Obj2 P) (h : Mine w0 W d N S P xs) : Mine w0 W.drew d N S P xs := h.off hP (Off.refl _ _).drew
theorem Mine.drewN (hP : Obj2 P) (h : Mine w0 W d N S P xs) (k : Nat) : Mine w0 (W.drewN k) d N S P xs := h.off hP (off_drewN _ _ k)
theorem Mine.byt (h : Mine w0 W d N S P xs) {p : Option Addr × List UInt8} (hp : p ∈ xs) : Byt W W.heap.size p.1 p.2 := by
  obtain ⟨O, G, _, _, _, _, _, _, h7⟩ := h
  exact (h7 p hp).byt
/-- Bytes that came in. -/
theorem Mine.arg (h : Mine w0 W d N S P xs) {B : Option Addr} {l : List UInt8} (hb : Byt w0 w0.heap.size B l) : Mine w0 W d N S P ((B, l) :: xs) := by
  obtain ⟨O, G, h1, h2, h3, h4, h5, h6, h7⟩ := h
  refine ⟨O, G, h1, h2, h3, h4, h5, h6, fun p hp => ?_⟩
  rcases List.mem_cons.1 hp with rfl | hp
  · rcases hb.below h6 with h | ⟨g, o, hA, hg, hc⟩
    · exact .inl h
    · refine .inr ⟨g, o, hA, ⟨?_, fun hG => by have := h5 g hG; omega⟩, Nat.lt_of_lt_of_le hg h6.size, hc⟩
      cases hO : O g with
      | none => rfl
      | some y => have := h4 g (by rw [hO]; simp); omega
  · exact h7 p hp
/-- Bytes in a new block. -/
theorem Mine.fresh (hP : Obj2 P) (h : Mine w0 W d N S P xs) (hb : Below W.heap.size W W') {A : Option Addr} {l : List UInt8} (hB : Byt W' W'.heap.size A l) (hg : ∀ a, A = some a → W.heap.size ≤ a.block) : Mine w0 W' d N S P ((A, l) :: xs) := by
  have hlow : ∀ O, DkIs W O d N S → ∀ i, O i ≠ none → i < W.heap.size := fun O h => h.low
  obtain ⟨O, G, h1, h2, h3, h4, h5, h6, h7⟩ := h
  have hof : Off (fun _ => False) W W' := Off.of_below hb fun i a b => by omega
  refine ⟨O, G, h1.off hof fun _ _ h => h, hP.off h2 hof fun _ _ h => h, h3, h4, h5, hof.below h6 (fun _ h => h.elim) h6.size, fun p hp => ?_⟩
  rcases List.mem_cons.1 hp with rfl | hp
  · rcases hB with h | ⟨g, o, hA, hgl, hc⟩
    · exact .inl h
    · have hge := hg _ hA
      refine .inr ⟨g, o, hA, ⟨?_, fun hG => by have := hP.low h2 g hG; simp at hge; omega⟩, hgl, hc⟩
      cases hO : O g with
      | none => rfl
      | some y => have := hlow O h1 g (by rw [hO]; simp); simp at hge; omega
  · exact (h7 p hp).off hof fun _ _ _ h => h
theorem Mine.lit (hP : Obj2 P) (h : Mine w0 W d N S P xs) (E : TypeId) (cs : Array Value) (fr : Nat × Nat) (l : List UInt8) (hcs : cs.toList = bv l) : Mine w0 (W.alloc (.cells cs E fr)) d N S P ((some ⟨W.heap.size, 0, none⟩, l) :: xs) :=
  h.fresh hP ((Below.refl _ _).alloc (Nat.le_refl _) _) (Byt.lit_cold W E cs fr l hcs) fun a ha => by injection ha with ha; subst ha; exact Nat.le_refl _
/-- A call of the disk. -/
theorem Mine.call (hP : Obj2 P) {G : Nat → Prop} (h1 : P W G) (h2 : ∀ i, G i → O i = none) (h3 : ∀ i, O i ≠ none → w0.heap.size ≤ i) (h4 : ∀ i, G i → w0.heap.size ≤ i) (h5 : Below w0.heap.size w0 W) (h6 : ∀ p ∈ xs, BytF W (fun i => O i = none ∧ ¬ G i) p.1 p.2)
    {N' : Nat} {S' : Dk} {w' : World} (h7 : ∃ O', DkIs w' O' d N' S' ∧ Own O O' W.heap.size) (h8 : Off (fun i => O i ≠ none) W w') : Mine w0 w' d N' S' P xs := by
  obtain ⟨O', h9, h10⟩ := h7
  have hO' : ∀ i, i < W.heap.size → O i = none → O' i = none := fun i hi h => by
    cases hq : O' i with
    | none => rfl
    | some y => rcases h10 i (by rw [hq]; simp) with h' | h'; exact absurd h h'; omega
  refine ⟨O', G, h9, hP.off h1 h8 fun i hi h => h (h2 i hi), fun i hi => hO' i (hP.low h1 i hi) (h2 i hi), fun i hi => ?_, h4, h8.below h5 h3 h5.size, fun p hp => ?_⟩
  · rcases h10 i hi with h | h
    · exact h3 i h
    · exact Nat.le_trans h5.size h
  · have hpB := h6 p hp
    have h12 : BytF W (fun i => (O i = none ∧ ¬ G i) ∧ i < W.heap.size) p.1 p.2 := hpB.mono fun i hi h => ⟨h, hi⟩
    exact (h12.off h8 fun i _ h h' => h' h.1.1).mono fun i _ h => ⟨hO' i h.2 h.1.1, h.1.2⟩
theorem Mine.fewer (h : Mine w0 W d N S P xs) {ys : List (Option Addr × List UInt8)} (hy : ∀ p ∈ ys, p ∈ xs) : Mine w0 W d N S P ys := by
  obtain ⟨O, G, h1, h2, h3, h4, h5, h6, h7⟩ := h
  exact ⟨O, G, h1, h2, h3, h4, h5, h6, fun p hp => h7 p (hy p hp)⟩
theorem mine_new (w : World) (room : Nat) (h1 : 64 ≤ room) (h2 : room ≤ 1048576) :
    Calls Try.prog 5 #[.int .i64 (room : Int)] w fun e w' => ∃ d, e = .returned (.tuple #[.pointer (some ⟨d, 0, none⟩), .int .i64 0]) ∧ Mine w w' d 0 ⟨room, true, 1, []⟩ NoObj [] := by
  refine (dnew_ok w room h1 h2).mono ?_
  rintro e w' ⟨d, O, rfl, h3, h4, h5⟩
  exact ⟨d, rfl, O, fun _ => False, h3, fun _ h => h, fun _ h => h.elim, fun i hi => by
    rcases h4 i hi with h | h
    · exact absurd rfl h
    · exact h, fun _ h => h.elim, h5, fun p hp => (List.not_mem_nil hp).elim⟩
theorem mine_append (hP : Obj2 P) (h : Mine w0 W d N S P xs) (s : ByteArray) (hs : s.size ≤ 140737488355328) (B : Option Addr) (l : List UInt8) (n cB : Nat) (hm : (B, l) ∈ xs) (hl : l.length = n) (hn : n ≤ 1099511627776) (hN : N ≤ 1099511627776) :
    Calls Try.prog 6 #[.pointer (some ⟨d, 0, none⟩), .string s, .slice B n cB] W fun e w' => e = .returned (.int .i64 (appE S s n)) ∧ Mine w0 w' d (N + 1) (S.app s l) P xs := by
  obtain ⟨O, G, h1, h2, h3, h4, h5, h6, h7⟩ := h
  have hbF : BytF W (fun i => O i = none) B l := (h7 _ hm).mono fun i _ h => h.1
  refine (dappend_any W O d N S h1 s hs B l n cB hbF hl hn hN).mono ?_
  rintro e w' ⟨rfl, h8, h9⟩
  exact ⟨rfl, Mine.call hP h2 h3 h4 h5 h6 h7 h8 h9⟩
theorem mine_none (hP : Obj2 P) (h : Mine w0 W d N S P xs) (s : ByteArray) (hs : s.size ≤ 140737488355328) (c : Nat) (hN : N ≤ 1099511627776) :
    Calls Try.prog 6 #[.pointer (some ⟨d, 0, none⟩), .string s, .slice none 0 c] W fun e w' => e = .returned (.int .i64 (appE S s 0)) ∧ Mine w0 w' d (N + 1) (S.app s []) P xs := by
  refine (mine_append hP (h.arg (B := none) (l := []) Byt.none_) s hs none [] 0 c List.mem_cons_self rfl (by decide) hN).mono ?_
  rintro e w' ⟨rfl, O, G, h1, h2, h3, h4, h5, h6, h7⟩
  exact ⟨rfl, O, G, h1, h2, h3, h4, h5, h6, fun p hp => h7 p (List.mem_cons_of_mem _ hp)⟩
theorem mine_sync (hP : Obj2 P) (h : Mine w0 W d N S P xs) (s : ByteArray) (hs : s.size ≤ 140737488355328) :
    Calls Try.prog 8 #[.pointer (some ⟨d, 0, none⟩), .string s] W fun e w' => e = .returned (.int .i64 (askE S s)) ∧ Mine w0 w' d (N + 1) (S.syn s) P xs := by
  obtain ⟨O, G, h1, h2, h3, h4, h5, h6, h7⟩ := h
  refine (dsync_any W O d N S h1 s hs).mono ?_
  rintro e w' ⟨rfl, h8, h9⟩
  exact ⟨rfl, Mine.call hP h2 h3 h4 h5 h6 h7 h8 h9⟩
theorem mine_drop (hP : Obj2 P) (h : Mine w0 W d N S P xs) (s : ByteArray) (hs : s.size ≤ 140737488355328) :
    Calls Try.prog 12 #[.pointer (some ⟨d, 0, none⟩), .string s] W fun e w' => e = .returned (.int .i64 (askE S s)) ∧ Mine w0 w' d (N + 1) (S.drp s) P xs := by
  obtain ⟨O, G, h1, h2, h3, h4, h5, h6, h7⟩ := h
  refine (ddrop_any W O d N S h1 s hs).mono ?_
  rintro e w' ⟨rfl, h8, h9⟩
  exact ⟨rfl, Mine.call hP h2 h3 h4 h5 h6 h7 h8 h9⟩
theorem mine_ren (hP : Obj2 P) (h : Mine w0 W d N S P xs) (s t : ByteArray) (hs : s.size ≤ 140737488355328) (ht : t.size ≤ 140737488355328) (hN : N ≤ 1099511627776) :
    Calls Try.prog 10 #[.pointer (some ⟨d, 0, none⟩), .string s, .string t] W fun e w' => e = .returned (.int .i64 (renE S s t)) ∧ Mine w0 w' d (N + 1) (S.ren s t) P xs := by
  obtain ⟨O, G, h1, h2, h3, h4, h5, h6, h7⟩ := h
  refine (drename_any W O d N S h1 s t hs ht hN).mono ?_
  rintro e w' ⟨rfl, h8, h9⟩
  exact ⟨rfl, Mine.call hP h2 h3 h4 h5 h6 h7 h8 h9⟩
theorem mine_crash (hP : Obj2 P) (h : Mine w0 W d N S P xs) (keep tn : Nat) (torn : Int) (hk : keep < 18446744073709551616) (ht : tn = torn.toNat) (ht2 : torn < 9223372036854775808) (ht3 : -9223372036854775808 ≤ torn) :
    Calls Try.prog 14 #[.pointer (some ⟨d, 0, none⟩), .int .u64 (keep : Int), .int .i64 torn] W fun e w' => e = .returned (.tuple #[]) ∧ Mine w0 w' d (N + 1) (S.crs keep tn) P xs := by
  obtain ⟨O, G, h1, h2, h3, h4, h5, h6, h7⟩ := h
  refine (dcrash_any W O d N S h1 keep tn torn hk ht ht2 ht3).mono ?_
  rintro e w' ⟨rfl, h8, h9⟩
  exact ⟨rfl, Mine.call hP h2 h3 h4 h5 h6 h7 h8 h9⟩
theorem mine_on (hP : Obj2 P) (h : Mine w0 W d N S P xs) (hl : S.lives ≤ 1099511627776) :
    Calls Try.prog 16 #[.pointer (some ⟨d, 0, none⟩)] W fun e w' => e = .returned (.tuple #[]) ∧ Mine w0 w' d (N + 1) S.awake P xs := by
  obtain ⟨O, G, h1, h2, h3, h4, h5, h6, h7⟩ := h
  refine (don_any W O d N S h1 hl).mono ?_
  rintro e w' ⟨rfl, h8, h9⟩
  exact ⟨rfl, Mine.call hP h2 h3 h4 h5 h6 h7 h8 h9⟩
theorem mine_read (hP : Obj2 P) (h : Mine w0 W d N S P xs) (s : ByteArray) (hs : s.size ≤ 140737488355328) :
    Calls Try.prog 18 #[.pointer (some ⟨d, 0, none⟩), .string s] W fun e w' => ∃ A n c l, e = .returned (.tuple #[.slice A n c, .int .i64 (askE S s)]) ∧ Vlt (l = readB S s) ∧ Hid (l.length = n) ∧ n ≤ c ∧ Mine w0 w' d N S P ((A, l) :: xs) ∧ Below W.heap.size W w' := by
  have hh := h
  obtain ⟨O, G, h1, h2, h3, h4, h5, h6, h7⟩ := h
  refine (dread_any W O d N S h1 s hs).mono ?_
  rintro e w' ⟨A, n, c, l, rfl, h8, h9, h10, h11⟩
  exact ⟨A, n, c, l, rfl, h8, Lib.hid h9.len, h9.cap, hh.fresh hP h11 h9.byt (fun a ha => by subst ha; exact (World.ownsRow.lt h9 a.block rfl).1), h11⟩
theorem mine_size (h : Mine w0 W d N S P xs) : Calls Try.prog 20 #[.pointer (some ⟨d, 0, none⟩)] W fun e w' => e = .returned (.int .i64 S.siz) ∧ w' = W := by
  obtain ⟨O, G, h1, _⟩ := h
  exact dsize_any W O d N S h1
theorem mine_power (h : Mine w0 W d N S P xs) : Calls Try.prog 22 #[.pointer (some ⟨d, 0, none⟩)] W fun e w' => e = .returned (.bool S.on) ∧ w' = W := by
  obtain ⟨O, G, h1, _⟩ := h
  exact dpower_any W O d N S h1
theorem mine_lives (h : Mine w0 W d N S P xs) : Calls Try.prog 23 #[.pointer (some ⟨d, 0, none⟩)] W fun e w' => e = .returned (.int .i64 (S.lives : Int)) ∧ w' = W := by
  obtain ⟨O, G, h1, _⟩ := h
  exact dlives_any W O d N S h1
end
end Go.Proofs.Ytnpaodhcaeofnaa
