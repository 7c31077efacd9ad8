/-
  The document's own disk beside the program's, in a law, with one row (the act) that stays: the contracts of its calls. Conditions: as each says.
-/
import Derived.Test.YtnpaodhcaeofnaaRkO
import Derived.Test.YtnpaodhcaeofnaaRkQ
import Derived.Test.YtnpaodhcaeofnaaDkW
namespace Go.Proofs.Ytnpaodhcaeofnaa
open Go.RowKit

def RkObj (r : Nat) (T : Rk) : World → (Nat → Prop) → Prop := fun W G => RkIs W G r T
theorem rkObj (r : Nat) (T : Rk) : Obj2 (RkObj r T) := ⟨fun h hb hd => RkIs.off h hb hd, fun h => RkIs.low h⟩
/-- With a row beside it. -/
def RkRow (r : Nat) (T : Rk) (g : Nat) (R : Obj) : World → (Nat → Prop) → Prop := fun W G => ∃ G1, RkIs W G1 r T ∧ W.heap[g]? = some R ∧ ¬ G1 g ∧ ∀ i, G i ↔ G1 i ∨ i = g
theorem rkRow (r : Nat) (T : Rk) (g : Nat) (R : Obj) : Obj2 (RkRow r T g R) :=
  ⟨fun ⟨G1, h1, h2, h3, h4⟩ hb hd => ⟨G1, h1.off hb fun i hi => hd i ((h4 i).2 (.inl hi)), (hb.block g (Array.getElem?_eq_some_iff.1 h2).1 (hd g ((h4 g).2 (.inr rfl)))).trans h2, h3, h4⟩,
   fun ⟨G1, h1, h2, h3, h4⟩ i hi => by
    rcases (h4 i).1 hi with h | rfl
    · exact h1.low i h
    · exact (Array.getElem?_eq_some_iff.1 h2).1⟩
section
variable {w0 W W' : World} {d N r k g : Nat} {S : Dk} {T T' : Rk} {R : Obj} {O : Nat → Option Nat} {P P' : World → (Nat → Prop) → Prop} {xs : List (Option Addr × List UInt8)}
/-- A call of the other object. -/
theorem Mine.callG {G : Nat → Prop} {w' : World} (h1 : DkIs W O d N S) (h2 : ∀ i, G i → O i = none) (h3 : ∀ i, O i ≠ none → w0.heap.size ≤ i) (h4 : ∀ i, G i → w0.heap.size ≤ i) (h5 : Below w0.heap.size w0 W) (h6 : ∀ p ∈ xs, BytF W (fun i => O i = none ∧ ¬ G i) p.1 p.2)
    (h7 : ∃ G', P' w' G' ∧ OwnG G G' W.heap.size) (h8 : Off G W w') : Mine w0 w' d N S P' xs := by
  obtain ⟨G', h9, h10⟩ := h7
  have hOl := h1.low
  refine ⟨O, G', h1.off h8 (fun i hi hG => hi (h2 i hG)), h9, fun i hi => ?_, h3, fun i hi => ?_, h8.below h5 h4 h5.size, fun p hp => ?_⟩
  · rcases h10 i hi with h | h
    · exact h2 i h
    · cases hq : O i with
      | none => rfl
      | some y => have := hOl i (by rw [hq]; simp); omega
  · rcases h10 i hi with h | h
    · exact h4 i h
    · exact Nat.le_trans h5.size h
  · have h12 : BytF W (fun i => (O i = none ∧ ¬ G i) ∧ i < W.heap.size) p.1 p.2 := (h6 p hp).mono fun i hi h => ⟨h, hi⟩
    refine (h12.off h8 fun i _ h h' => h.1.2 h').mono fun i _ h => ⟨h.1.1, fun h' => ?_⟩
    rcases h10 i h' with h'' | h''
    · exact h.1.2 h''
    · have := h.2; omega
/-- A call of the document's own disk, the row beside it. -/
theorem Mine.callR {w' : World} {G G1 : Nat → Prop} (h1 : DkIs W O d N S) (hg : W.heap[g]? = some R) (hg1 : ¬ G1 g) (hG : ∀ i, G i ↔ G1 i ∨ i = g) (h2 : ∀ i, G i → O i = none) (h3 : ∀ i, O i ≠ none → w0.heap.size ≤ i) (h4 : ∀ i, G i → w0.heap.size ≤ i) (h5 : Below w0.heap.size w0 W) (h6 : ∀ p ∈ xs, BytF W (fun i => O i = none ∧ ¬ G i) p.1 p.2)
    (h7 : ∃ G', RkIs w' G' r T' ∧ OwnG G1 G' W.heap.size) (h8 : Off G1 W w') : Mine w0 w' d N S (RkRow r T' g R) xs := by
  have hgl := (Array.getElem?_eq_some_iff.1 hg).1
  obtain ⟨G', h9, h10⟩ := h7
  refine Mine.callG h1 h2 h3 h4 h5 h6 ⟨fun i => G' i ∨ i = g, ⟨G', h9, (h8.block g hgl hg1).trans hg, fun h => ?_, fun _ => Iff.rfl⟩, fun i hi => ?_⟩ (h8.mono fun i _ h => (hG i).2 (.inl h))
  · rcases h10 g h with h | h
    · exact hg1 h
    · omega
  · rcases hi with hi | hi
    · rcases h10 i hi with h | h
      · exact .inl ((hG i).2 (.inl h))
      · exact .inr h
    · exact .inl ((hG i).2 (.inr hi))
/-- The row goes. -/
theorem Mine.rowOff (h : Mine w0 W d N S (RkRow r T g R) xs) : Mine w0 W d N S (RkObj r T) xs := by
  obtain ⟨O, G, h1, ⟨G1, h2, h3, h4, h5⟩, h6, h7, h8, h9, h10⟩ := h
  exact ⟨O, G1, h1, h2, fun i hi => h6 i ((h5 i).2 (.inl hi)), h7, fun i hi => h8 i ((h5 i).2 (.inl hi)), h9, fun p hp => (h10 p hp).mono fun i _ h => ⟨h.1, fun h' => h.2 ((h5 i).2 (.inl h'))⟩⟩
/-- A new row comes. -/
theorem Mine.rowOn (h : Mine w0 W d N S (RkObj r T) xs) (hb : Below W.heap.size W W') (hg : W.heap.size ≤ g) (hR : W'.heap[g]? = some R) : Mine w0 W' d N S (RkRow r T g R) xs := by
  obtain ⟨O, G, h1, h2, h6, h7, h8, h9, h10⟩ := h
  have hof : Off (fun _ => False) W W' := Off.of_below hb fun i a b => by omega
  have hOl := h1.low
  have h2l := RkIs.low h2
  refine ⟨O, fun i => G i ∨ i = g, h1.off hof fun _ _ h => h, ⟨G, RkIs.off h2 hof fun _ _ h => h, hR, fun h => ?_, fun _ => Iff.rfl⟩, fun i hi => ?_, h7, fun i hi => ?_, hof.below h9 (fun _ h => h.elim) h9.size, fun p hp => ?_⟩
  · have := h2l g h; omega
  · rcases hi with hi | rfl
    · exact h6 i hi
    · cases hq : O i with
      | none => rfl
      | some y => have := hOl i (by rw [hq]; simp); omega
  · rcases hi with hi | rfl
    · exact h8 i hi
    · exact Nat.le_trans h9.size hg
  · have h14 : BytF W (fun i => (O i = none ∧ ¬ G i) ∧ i < W.heap.size) p.1 p.2 := (h10 p hp).mono fun i hi h => ⟨h, hi⟩
    refine (h14.off hof fun _ _ _ h => h).mono fun i _ h => ⟨h.1.1, fun h' => ?_⟩
    rcases h' with h' | rfl
    · exact h.1.2 h'
    · have := h.2; omega
theorem Mine.row (h : Mine w0 W d N S (RkRow r T g R) xs) : W.heap[g]? = some R := by
  obtain ⟨O, G, h1, ⟨G1, h2, h3, h4, h5⟩, _⟩ := h
  exact h3
theorem Mine.pf (h : Mine w0 W d N S (RkRow r T g R) xs) : W.cell? ⟨r, 2, none⟩ = some (.bool T.pf) ∧ W.cell? ⟨r, 3, none⟩ = some (.int .i64 (T.lives : Int)) := by
  obtain ⟨O, G, h1, ⟨G1, ⟨D, A, n, c, ys, hat, _⟩, h3, h4, h5⟩, _⟩ := h
  obtain ⟨⟨_, _, c2, c3⟩, _⟩ := row4 hat.row
  exact ⟨c2, c3⟩
/-- What holds of the document's disk while the program's is alike. -/
structure Rk.Fits (T : Rk) (k : Nat) : Prop where
  one : One T.L
  size : sumL rfz T.L ≤ T.room
  room : T.room ≤ 1048576
  few : T.Few k
theorem Mine.fits (h : Mine w0 W d N T.toD P xs) (hf : T.Few k) : T.Fits k := by
  obtain ⟨O, G, h1, _⟩ := h
  have h2 := h1.full
  rw [toD_size] at h2
  have h3 : One T.toD.C := by
    obtain ⟨m, L, h4, h5⟩ := h1.at_
    rw [← h5]; exact h4.one.onL _
  exact ⟨one_of T h3, h2, h1.few, hf⟩
section
variable (h : Mine w0 W d N S (RkRow r T g R) xs) (hf : T.Fits k) (hk : k ≤ 1000000) (s t : ByteArray) (hs : s.size ≤ 140737488355328) (ht : t.size ≤ 140737488355328)
include h hf hk
theorem mine_rappend (hs : s.size ≤ 140737488355328) (B : Option Addr) (l : List UInt8) (m cB : Nat) (hm : (B, l) ∈ xs) (hl : l.length = m) (hm2 : m ≤ 1099511627776) :
    Calls Try.prog 7 #[.pointer (some ⟨r, 0, none⟩), .string s, .slice B m cB] W fun e w' => e = .returned (.int .i64 (rappE T s m)) ∧ Mine w0 w' d N S (RkRow r (T.app s l) g R) xs := by
  obtain ⟨O, G, h1, ⟨G1, h2, h3, h4, h5⟩, h6, h7, h8, h9, h10⟩ := h
  have hbF : BytF W (fun i => ¬ G1 i) B l := (h10 _ hm).mono fun i _ h h' => h.2 ((h5 i).2 (.inl h'))
  refine (rappend_any W G1 r T h2 hf.one (by have := hf.few.len; omega) hf.size hf.room (fun x hx => by have := hf.few.ws x hx; omega) s hs B l m cB hbF hl hm2).mono ?_
  rintro e w' ⟨rfl, h11, h12⟩
  exact ⟨rfl, Mine.callR h1 h3 h4 h5 h6 h7 h8 h9 h10 h11 h12⟩
include hs
theorem mine_rsync : Calls Try.prog 9 #[.pointer (some ⟨r, 0, none⟩), .string s] W fun e w' => e = .returned (.int .i64 (raskE T.pf T.L s)) ∧ Mine w0 w' d N S (RkRow r (T.syn s) g R) xs := by
  obtain ⟨O, G, h1, ⟨G1, h2, h3, h4, h5⟩, h6, h7, h8, h9, h10⟩ := h
  refine (rsync_any W G1 r T h2 hf.one (by have := hf.few.len; omega) (by have := hf.size; have := hf.room; omega) (fun x hx => by have := hf.few.ws x hx; omega) s hs).mono ?_
  rintro e w' ⟨rfl, h11, h12⟩
  exact ⟨rfl, Mine.callR h1 h3 h4 h5 h6 h7 h8 h9 h10 h11 h12⟩
theorem mine_rdrop : Calls Try.prog 13 #[.pointer (some ⟨r, 0, none⟩), .string s] W fun e w' => e = .returned (.int .i64 (raskE T.pf T.L s)) ∧ Mine w0 w' d N S (RkRow r (T.drp s) g R) xs := by
  obtain ⟨O, G, h1, ⟨G1, h2, h3, h4, h5⟩, h6, h7, h8, h9, h10⟩ := h
  refine (rddrop_any W G1 r T h2 hf.one (by have := hf.few.len; omega) s hs).mono ?_
  rintro e w' ⟨rfl, h11, h12⟩
  exact ⟨rfl, Mine.callR h1 h3 h4 h5 h6 h7 h8 h9 h10 h11 h12⟩
theorem mine_rread : Calls Try.prog 19 #[.pointer (some ⟨r, 0, none⟩), .string s] W fun e w' => ∃ A n c l, e = .returned (.tuple #[.slice A n c, .int .i64 (raskE T.pf T.L s)]) ∧ Vlt (l = rreadB T.pf T.L s) ∧ Hid (l.length = n) ∧ n ≤ c ∧ Mine w0 w' d N S (RkRow r T g R) ((A, l) :: xs) ∧ Below W.heap.size W w' := by
  have hh := h
  obtain ⟨O, G, h1, ⟨G1, h2, h3, h4, h5⟩, h6, h7, h8, h9, h10⟩ := h
  obtain ⟨D, A0, n0, c0, ys, hat, hG⟩ := h2
  refine (rread_any W D r n0 c0 T.room T.lives A0 T.pf ys T.L hat (by have := hf.few.len; have := hat.len; omega) (by have := hf.size; have := hf.room; omega) (fun x hx => by have := hf.few.ws x hx; omega) s hs).mono ?_
  rintro e w' ⟨A, n, c, l, rfl, h11, h12, h13⟩
  exact ⟨A, n, c, l, rfl, h11, Lib.hid h12.len, h12.cap, hh.fresh (rkRow r T g R) h13 h12.byt (fun a ha => by subst ha; exact (World.ownsRow.lt h12 a.block rfl).1), h13⟩
include ht
theorem mine_rren : Calls Try.prog 11 #[.pointer (some ⟨r, 0, none⟩), .string s, .string t] W fun e w' => e = .returned (.int .i64 (rrenE T.pf T.L s t)) ∧ Mine w0 w' d N S (RkRow r (T.ren s t) g R) xs := by
  obtain ⟨O, G, h1, ⟨G1, h2, h3, h4, h5⟩, h6, h7, h8, h9, h10⟩ := h
  refine (rrename_any W G1 r T h2 hf.one (by have := hf.few.len; omega) s t hs ht).mono ?_
  rintro e w' ⟨rfl, h11, h12⟩
  exact ⟨rfl, Mine.callR h1 h3 h4 h5 h6 h7 h8 h9 h10 h11 h12⟩
end
theorem mine_rcrash (h : Mine w0 W d N S (RkRow r T g R) xs) (hf : T.Fits k) (hk : k ≤ 1000000) (keep tn : Nat) (torn : Int) (hk2 : keep < 18446744073709551616) (ht : tn = torn.toNat) (ht2 : torn < 9223372036854775808) (ht3 : -9223372036854775808 ≤ torn) :
    Calls Try.prog 15 #[.pointer (some ⟨r, 0, none⟩), .int .u64 (keep : Int), .int .i64 torn] W fun e w' => e = .returned (.tuple #[]) ∧ Mine w0 w' d N S (RkRow r (T.crs keep tn) g R) xs := by
  obtain ⟨O, G, h1, ⟨G1, h2, h3, h4, h5⟩, h6, h7, h8, h9, h10⟩ := h
  refine (rcrash_any W G1 r T h2 (by have := hf.few.len; omega) (by have := hf.size; have := hf.room; omega) (fun x hx => by have := hf.few.ws x hx; omega) keep tn torn hk2 ht ht2 ht3).mono ?_
  rintro e w' ⟨rfl, h11, h12⟩
  exact ⟨rfl, Mine.callR h1 h3 h4 h5 h6 h7 h8 h9 h10 h11 h12⟩
theorem mine_ron (h : Mine w0 W d N S (RkRow r T g R) xs) (hf : T.Fits k) (hk : k ≤ 1000000) :
    Calls Try.prog 17 #[.pointer (some ⟨r, 0, none⟩)] W fun e w' => e = .returned (.tuple #[]) ∧ Mine w0 w' d N S (RkRow r T.awake g R) xs := by
  obtain ⟨O, G, h1, ⟨G1, h2, h3, h4, h5⟩, h6, h7, h8, h9, h10⟩ := h
  refine (ron_any W G1 r T h2 (by have := hf.few.lives; omega)).mono ?_
  rintro e w' ⟨rfl, h11, h12⟩
  exact ⟨rfl, Mine.callR h1 h3 h4 h5 h6 h7 h8 h9 h10 h11 h12⟩
theorem mine_rsize (h : Mine w0 W d N S (RkRow r T g R) xs) (hf : T.Fits k) (hk : k ≤ 1000000) :
    Calls Try.prog 21 #[.pointer (some ⟨r, 0, none⟩)] W fun e w' => e = .returned (.int .i64 T.toD.siz) ∧ Mine w0 w' d N S (RkRow r T g R) xs ∧ Below W.heap.size W w' := by
  have hh := h
  obtain ⟨O, G, h1, ⟨G1, h2, h3, h4, h5⟩, h6, h7, h8, h9, h10⟩ := h
  obtain ⟨D, A0, n0, c0, ys, hat, hG⟩ := h2
  refine (rsize_any W D r n0 c0 T.room T.lives A0 T.pf ys T.L hat (by have := hf.few.len; have := hat.len; omega) (by have := hf.size; have := hf.room; omega) (fun x hx => by have := hf.few.ws x hx; omega)).mono ?_
  rintro e w' ⟨rfl, h11⟩
  exact ⟨by rw [toD_siz], hh.next (rkRow r T g R) h11, h11⟩
/-- The literal, its row new. -/
theorem Mine.rnew (h : Mine w0 W d N S NoObj xs) (room : Nat) (hb : Below W.heap.size W W') (hg : W.heap.size ≤ r) (hR : W'.heap[r]? = some (.cells #[.int .i64 (room : Int), .slice none 0 0, .bool false, .int .i64 1] 31 (0, 0))) : Mine w0 W' d N S (RkObj r ⟨room, false, 1, []⟩) xs := by
  obtain ⟨O, G, h1, h2, h6, h7, h8, h9, h10⟩ := h
  have hof : Off (fun _ => False) W W' := Off.of_below hb fun i a b => by omega
  have hOl := h1.low
  have hrl := (Array.getElem?_eq_some_iff.1 hR).1
  have hat : RkAt W' (fun _ => False) r none 0 0 room false 1 [] [] := ⟨hR, ⟨rfl, .inl ⟨rfl, rfl⟩⟩, fun i x hx => by simp at hx, rfl, id, fun a ha => by simp at ha, fun _ h => h.elim⟩
  refine ⟨O, fun i => i = r, h1.off hof fun _ _ h => h, ⟨fun _ => False, none, 0, 0, [], hat, fun i => ⟨fun h => .inl h, fun h => ?_⟩⟩, fun i hi => ?_, h7, fun i hi => ?_, hof.below h9 (fun _ h => h.elim) h9.size, fun p hp => ?_⟩
  · rcases h with h | ⟨a, h, _⟩ | h
    · exact h
    · simp at h
    · exact h.elim
  · subst hi
    cases hq : O i with
    | none => rfl
    | some y => have := hOl i (by rw [hq]; simp); omega
  · subst hi
    exact Nat.le_trans h9.size hg
  · have h14 : BytF W (fun i => (O i = none ∧ ¬ G i) ∧ i < W.heap.size) p.1 p.2 := (h10 p hp).mono fun i hi h => ⟨h, hi⟩
    refine (h14.off hof fun _ _ _ h => h).mono fun i _ h => ⟨h.1.1, fun h' => ?_⟩
    have := h.2
    omega
end
end Go.Proofs.Ytnpaodhcaeofnaa
