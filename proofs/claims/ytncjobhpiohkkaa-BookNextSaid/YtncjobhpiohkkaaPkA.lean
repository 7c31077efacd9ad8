/-
  Words and contracts that other texts share, several in one text. No statement of the seat is proved here. Conditions: as each contract says.
  Words for bytes in memory that the other texts of this seat share: no statement is proved here. Conditions: none.
  Contracts of package octet's inner functions width and roomier: what each returns, for every input that fits. Conditions: lengths up to 2^47.
  Arrays and rows in memory: words that the contracts of other texts share. No statement is proved here. Conditions: none.
  Numbers with a sign as the cells of a row: words that other texts share. No statement is proved here. Conditions: none.
  Numbers in groups of seven bits, as lists of bytes: words for the walks of wire and of the document's own. No statement is proved here. Conditions: none.
  What was seen of whom, as lists of numbers: the greater of each, none above, compared, summed, written. No statement is proved here. Conditions: none.
  Edits as numbers, lists and texts: which may be, what is written of one, which ends another, which is ahead. No statement is proved here. Conditions: none.
  Books as lists of edits by device and number: put in, what is there, sorted rows that have the same members. No statement is proved here. Conditions: none.
  What a book tells: live edits, values, contacts, fields, how far it is without a gap. No statement is proved here. Conditions: none.
  Texts sorted and made single: what slices.Sort and slices.Compact leave rises and has the same members. No statement is proved here. Conditions: none.
  One law on regions that draw their order, for the texts of this seat: the condition that is held may be made stronger on the way. Conditions: none.
  Pieces of slices, literals, growth, new blocks: words that the contracts of other texts share. No statement is proved here. Conditions: none.
  New blocks, whole rows, small words: what the contracts of other texts share. No statement is proved here. Conditions: none.
  Known rows from world to world, whole rows stored, regions in the text's order met as drawn ones: words that other texts share. No statement is proved here. Conditions: none.
  Arrays of numbers with a sign, held against each other; the least and the greatest of a row. Conditions: the row lies in a block of its own.
  Stores into the midst of a block, and pieces of a row: words that the contracts of other texts share. No statement is proved here. Conditions: none.
  Regions that draw their order and make new variables beside a chain of calls, each at whatever moment: one walk for all the orders. No statement is proved here. Conditions: as each law says.
  A range of bytes that is known whole: a word for regions that draw their order. No statement is proved here. Conditions: none.
  Edits in memory: cells, pieces, two held equal. No statement is proved here. Conditions: the edit lies in a block of its own.
  Rows of edits in memory: cells, pieces, one put in another's place. No statement is proved here. Conditions: edits with vectors of eight.
  Stores into an edit's fields. No statement is proved here. Conditions: the edit lies in a block of its own.
  append(own, src...) where src came in, nil or not: a law for the walks of this seat. Conditions: the sum of the lengths is at most 2^47.
  Objects with memory of their own, said by the blocks that are theirs ('F'): what turns beside them, and what does not. No statement is proved here. Conditions: none.
  Laws on regions that draw their order, for the texts of this seat: a condition on the world that is held only till operation c has come up (a load that c waits for may be taken first, though the region writes its cell behind c). Conditions: none.
  append onto rows that an object owns, of elements of any size. No statement is proved here. Conditions: lengths up to 2^38.
  What follows of books: merged, one that has seen all, one more. No statement is proved here. Conditions: none.
  Books in whatever order; edits of one device, one behind the other. No statement is proved here. Conditions: none.
  Two arrays of the same bytes are equal: a law for the walks of this seat. Conditions: none.
-/
import Derived.WalkKit
import Derived.Below
import Derived.Lib.Hide
import Derived.Laws.CopyOwn
import Derived.Laws.BytesArg
import Derived.Laws.BytesString
import Derived.Laws.OwnMore
import Derived.Deep.Draws
import Derived.OpenShut
import Derived.Test.YtncjobhpiohkkaaChecked
import Derived.WalkLawsBesides
import Derived.WalkSpells
import Derived.Outline
import Derived.Laws.Rows
import Derived.Laws.Tables
import Derived.Deep.MidRow
import Derived.Deep.WholeRow
import Derived.Deep.RegionLaw
import Derived.Lib.SlicesCompact
import Derived.Deep.RegionHeld3
import Derived.Lib.SlBytesConst
import Derived.ArgAppend
import Derived.Deep.Cut
import Derived.IntWalk
import Derived.BigRegion
import Derived.BigQuiet
import Derived.RegionTactic
import Derived.Deep.QuietTactic
import Derived.LoopTactic
import Derived.Laws.Cover3
import Derived.Laws.Shifts
import Derived.Laws.BitsAllLaws
import Derived.StillTail
import Derived.Laws.StructEq
import Derived.Laws.IdiomCopy
import Derived.Laws.CopyRow
namespace Go.Proofs.Ytncjobhpiohkkaa
open Go.RowKit

/-- Bytes as the cells of a row. -/
def bv (l : List UInt8) : List Value := l.map fun b => Value.int .u8 (b.toNat : Int)
theorem bv_len (l : List UInt8) : (bv l).length = l.length := by simp [bv]
theorem bv_app (l m : List UInt8) : bv (l ++ m) = bv l ++ bv m := by simp [bv]
theorem bv_nil : bv [] = [] := rfl
theorem bv_at (l : List UInt8) (k : Nat) : (bv l)[k]? = l[k]?.map fun b => Value.int .u8 (b.toNat : Int) := by simp [bv]
theorem bv_one (l : List UInt8) : ∀ u ∈ bv l, u.oneCell' = true := by
  intro u hu
  obtain ⟨b, _, rfl⟩ := List.mem_map.1 hu
  rfl
theorem bv_set (l : List UInt8) (k : Nat) (b : UInt8) : (bv l).set k (.int .u8 (b.toNat : Int)) = bv (l.set k b) := by simp [bv, List.map_set]
theorem bv_take (l : List UInt8) (k : Nat) : (bv l).take k = bv (l.take k) := by simp [bv, List.map_take]
theorem bv_rep (n : Nat) : List.replicate n (Value.int .u8 0) = bv (List.replicate n 0) := by simp [bv]
/-- One byte out of a number below 256. -/
theorem bv_single (c : Nat) (hc : c < 256) : [Value.int .u8 (c : Int)] = bv [UInt8.ofNat c] := by
  simp [bv, Nat.mod_eq_of_lt hc]

theorem ofNat_toNat (b : UInt8) : UInt8.ofNat b.toNat = b := by simp

/-- What a slice at A holds: the bytes l, in a block below B. Of an empty one nothing is asked. -/
def Byt (w : World) (B : Nat) (A : Option Addr) (l : List UInt8) : Prop :=
  l = [] ∨ ∃ g o, A = some ⟨g, o, none⟩ ∧ g < B ∧ ∀ j b, l[j]? = some b → w.cell? ⟨g, o + j, none⟩ = some (.int .u8 (b.toNat : Int))

section
variable {w w' : World} {B B' : Nat} {A : Option Addr} {l : List UInt8}
theorem Byt.none_ : Byt w B A [] := .inl rfl
theorem Byt.keep (h : Byt w B A l) (hk : ∀ p : Addr, p.block < B → w'.cell? p = w.cell? p) : Byt w' B A l := by
  rcases h with h | ⟨g, o, hA, hg, hc⟩
  · exact .inl h
  · exact .inr ⟨g, o, hA, hg, fun j b hb => (hk ⟨g, o + j, none⟩ hg).trans (hc j b hb)⟩
theorem Byt.below (h : Byt w B A l) (hb : Below B w w') : Byt w' B A l := h.keep fun _ hp => hb.cell hp
theorem Byt.up (h : Byt w B A l) (hB : B ≤ B') : Byt w B' A l := by
  rcases h with h | ⟨g, o, hA, hg, hc⟩
  · exact .inl h
  · exact .inr ⟨g, o, hA, by omega, hc⟩
theorem Byt.drewN (h : Byt w B A l) (k : Nat) : Byt (w.drewN k) B A l := h
theorem Byt.drew (h : Byt w B A l) : Byt w.drew B A l := h
theorem Byt.alloc (h : Byt w B A l) (hB : B ≤ w.heap.size) (o : Obj) : Byt (w.alloc o) B A l := h.below ((Below.refl _ _).alloc hB o)
/-- The byte at k, as a number. -/
theorem Byt.at_ (h : Byt w B A l) {k : Nat} (hk : k < l.length) :
    ∃ g o c : Nat, A = some ⟨g, o, none⟩ ∧ g < B ∧ c < 256 ∧ w.cell? ⟨g, o + k, none⟩ = some (.int .u8 (c : Int)) ∧ Hid (l[k]? = some (UInt8.ofNat c)) := by
  rcases h with h | ⟨g, o, hA, hg, hc⟩
  · subst h; simp at hk
  · exact ⟨g, o, l[k].toNat, hA, hg, UInt8.toNat_lt _, hc k _ (List.getElem?_eq_getElem hk), show _ = _ by rw [ofNat_toNat]; exact List.getElem?_eq_getElem hk⟩
theorem Byt.of_own {base E n c : Nat} (h : w.ownsRow base E 1 (.slice A n c) n (bv l)) : Byt w w.heap.size A l := by
  rcases h.2 with ⟨h', h0⟩ | ⟨g, cap, cur, h', hb, hg, hnc, hcm, hcs, htake⟩
  · refine .inl (List.eq_nil_of_length_eq_zero ?_)
    have := h.1; rw [bv_len] at this; omega
  · simp only [Value.slice.injEq] at h'
    obtain ⟨rfl, _, rfl⟩ := h'
    refine .inr ⟨g, 0, rfl, (Array.getElem?_eq_some_iff.1 hg).1, fun j b hj => ?_⟩
    have hl := h.1; rw [bv_len] at hl
    have hjl : j < l.length := (List.getElem?_eq_some_iff.1 hj).1
    have h2 := World.ownsRow.cellAt h j (by omega)
    rw [Nat.zero_add, h2, bv_at, hj]; rfl
end

/-- string(b). -/
theorem conv_bytes {P : Program} {w : World} {T E S : TypeId} (hT : P.underlying T = some (.slice E)) (hE : P.underlying E = some (.int .u8)) (hS : P.underlying S = some .string)
    {B : Nat} {A : Option Addr} {l : List UInt8} (h : Byt w B A l) (n c : Nat) (hn : l.length = n) : (convert T S (.slice A n c)).run P w = .ok (.string ⟨l.toArray⟩) w := by
  subst hn
  cases A with
  | none =>
    rcases h with rfl | ⟨g, o, hA, _⟩
    · exact run_convert_bytes_nil w T E hT hE _ c S hS
    · cases hA
  | some a =>
    have hl : (loadCells a l.length).run P w = .ok ((l.map fun b => (b.toNat : Int)).map (Value.int .u8)).toArray w := by
      have h1 := run_loadCells_list (P := P) w a (bv l) (fun j v hj => by
        rcases h with rfl | ⟨g, o, hA, _, hc⟩
        · simp [bv] at hj
        · cases hA
          rw [bv_at] at hj
          obtain ⟨b, hb, rfl⟩ := Option.map_eq_some_iff.1 hj
          have hp : (⟨g, o, none⟩ : Addr).add j = ⟨g, o + j, none⟩ := by unfold Addr.add; split <;> simp_all
          rw [hp]; exact hc j b hb)
      rw [bv_len] at h1
      simpa [bv, Function.comp_def] using h1
    rw [run_convert_bytes_string w T S E _ l.length c hT hE hS, run_bytesToString w _ l.length c _ hl, foldl_push_bytes]
    have e : (l.map fun b => (b.toNat : Int)).map (fun n => UInt8.ofNat n.toNat) = l := by
      rw [List.map_map]
      conv => rhs; rw [← List.map_id l]
      exact List.map_congr_left fun b _ => by simp
    rw [e]
    simp [ByteArray.empty, ByteArray.emptyWithCapacity]
    rfl

/-- A result: a new slice of the bytes l, in blocks from 'base' on. -/
def Res (w : World) (base : Nat) (E : TypeId) (A : Option Addr) (n c : Nat) (l : List UInt8) : Prop := w.ownsRow base E 1 (.slice A n c) n (bv l)
section
variable {w w' : World} {base B n c : Nat} {E : TypeId} {A : Option Addr} {l : List UInt8}
theorem Res.len (h : Res w base E A n c l) : l.length = n := by have := h.1; rw [bv_len] at this; omega
theorem Res.byt (h : Res w base E A n c l) : Byt w w.heap.size A l := Byt.of_own h
theorem Res.keep (h : Res w base E A n c l) (hb : Below w.heap.size w w') : Res w' base E A n c l := by
  refine ⟨h.1, ?_⟩
  rcases h.2 with hn | ⟨g, cap, cur, hv, hB, hg, r⟩
  · exact .inl hn
  · exact .inr ⟨g, cap, cur, hv, hB, (hb.block g (Array.getElem?_eq_some_iff.1 hg).1).trans hg, r⟩
theorem Res.base_le (h : Res w base E A n c l) (hB : B ≤ base) : Res w B E A n c l := by
  refine ⟨h.1, ?_⟩
  rcases h.2 with hn | ⟨g, cap, cur, hv, hB', hg, r⟩
  · exact .inl hn
  · exact .inr ⟨g, cap, cur, hv, by omega, hg, r⟩
theorem Res.of (v : Value) (h : w.ownsRow base E 1 v n (bv l)) : ∃ A c, v = .slice A n c ∧ Res w base E A n c l := by
  rcases h.2 with ⟨rfl, rfl⟩ | ⟨g, cap, cur, rfl, _⟩
  · exact ⟨_, _, rfl, h⟩
  · exact ⟨_, _, rfl, h⟩
end

/-- make([]byte, n, c): a row of c noughts. -/
theorem make_bytes {P : Program} {T E : TypeId} {i : TypeInfo} (hT : P.underlying T = some (.slice E)) (hi : P.info? E = some i) (hz : i.zero = some (.int .u8 0)) (h1 : i.size = 1) (h2 : i.bytes = 1)
    (n c : Nat) (L C : Int) (hL : L = (n : Int)) (hC : C = (c : Int)) (hnc : n ≤ c) (hc : c ≤ 281474976710656) (w : World) :
    ∃ w1, (Instr.makeSlice T (.int .i64 L) (.int .i64 C)).run P w = .ok (.slice (some ⟨w.heap.size, 0, none⟩) n c) w1 ∧ Hid (w1.heap[w.heap.size]? = some (.cells (bv (List.replicate c 0)).toArray E (0, 0))) ∧
      Hid (Below w.heap.size w w1) ∧ Hid (w1.heap.size = w.heap.size + 1) := by
  subst hL hC
  have hr := run_make (P := P) w T E i (.int .u8 0) hT hi hz .i64 .i64 n c (by omega) (by omega) (by rw [h2]; omega) (by omega)
  simp only [Int.toNat_natCast] at hr
  refine ⟨_, hr, ?_, (Below.refl _ _).alloc (Nat.le_refl _) _, show _ = _ by simp⟩
  show _ = _
  rw [heap_alloc_new]
  have e : madeCells (Value.int .u8 0).cells (c * i.size) = (bv (List.replicate c 0)).toArray := by
    rw [h1, Nat.mul_one, ← bv_rep]
    apply Array.ext'
    show (madeCells #[Value.int .u8 0] c).toList = _
    rw [toList_madeCells_one]
  rw [e]

/-- A row whose first cells are the bytes l. -/
theorem Res.row {w : World} {base E g n c : Nat} {l : List UInt8} {cur : Array Value} (hb : base ≤ g) (hg : w.heap[g]? = some (.cells cur E (0, 0))) (hn : n ≤ c) (hc : c ≤ 281474976710656) (hs : cur.size = c)
    (hl : l.length = n) (ht : cur.toList.take n = bv l) : Res w base E (some ⟨g, 0, none⟩) n c l :=
  ⟨by rw [bv_len]; omega, .inr ⟨g, c, cur, rfl, hb, hg, hn, by unfold maxLen; omega, by omega, by rw [Nat.mul_one]; exact ht⟩⟩

theorem addr_add (g o j : Nat) : (⟨g, o, none⟩ : Addr).add j = ⟨g, o + j, none⟩ := by unfold Addr.add; split <;> simp_all
/-- What a copy out of the bytes asks. -/
theorem Byt.src {w : World} {B : Nat} {A : Option Addr} {l : List UInt8} (h : Byt w B A l) (x : Option Addr) (y : Addr) (hx : x = some y) :
    0 < (bv l).length → x = some y ∧ ∃ ad, A = some ad ∧ ∀ j v, (bv l)[j]? = some v → w.cell? (ad.add j) = some v := by
  intro hp
  rcases h with h0 | ⟨g, o, rfl, hg, hc⟩
  · subst h0; simp [bv] at hp
  · refine ⟨hx, _, rfl, fun j v hj => ?_⟩
    rw [bv_at] at hj
    obtain ⟨b, hb, rfl⟩ := Option.map_eq_some_iff.1 hj
    rw [addr_add]; exact hc j b hb

/-- append(s, x..) onto bytes of the call's own. -/
theorem wp_append_bytes {P : Program} (w : World) {ops : Array Oper} {rest : List Oper} {o : Oper} {a : Act} {Q : Exit → Act → World → Prop} (hgd : o.guard = none) (s x : Operand) (T : TypeId)
    (ho : o.op = .call { callee := .builtin .append, args := #[s, x], argTypes := #[T, T] }) (E : TypeId) (hT : P.underlying T = some (.slice E))
    (hI : (P.info? E).map (fun i => (i.zero, i.size, i.bytes)) = some (some (.int .u8 0), 1, 1)) (base : Nat) (A : Option Addr) (n c : Nat) (l : List UInt8) (hs : a.eval s = .slice A n c) (hr : Res w base E A n c l)
    (ad : Addr) (m c2 : Nat) (hx : a.eval x = .slice (some ad) m c2) (news : List UInt8) (hl : news.length = m) (hnews : ∀ j u, (bv news)[j]? = some u → w.cell? (ad.add j) = some u) (hsz : n + m ≤ 140737488355328) (hbase : base ≤ w.heap.size)
    (h : ∀ A' c' w', Res w' base E A' (n + m) c' (l ++ news) → (∀ B w0, B ≤ base → Below B w0 w → Below B w0 w') → wpList P ops Q rest (a.put o.dst (.slice A' (n + m) c')) w') : wpList P ops Q (o :: rest) a w := by
  obtain ⟨i, hi, hz, h1, h2⟩ := info_parts hI
  refine wpList_append_own w hgd s x T ho base E i (.int .u8 0) 1 1 hT hi hz h1 h2 rfl (by decide) _ n (bv l) hs hr ad m c2 (bv news) hx (by rw [bv_len]; omega) hnews (bv_one _) (by unfold maxLen; omega) (by omega) hbase ?_
  intro v' w' hown hgr _
  rw [← bv_app] at hown
  obtain ⟨A', c', rfl, hres⟩ := Res.of v' hown
  exact h A' c' w' hres fun B w0 hB hb => hb.grown hgr (by omega) fun k hk => by have := World.ownsRow.lt hr k hk; omega

/-- The same as one step of a region that draws its order. -/
theorem step_append_bytes {P : Program} (w : World) {ops : Array Oper} {o : Oper} {a : Act} {K : Act → World → Prop} {Q : Exit → Act → World → Prop} {E' : Prop} (hgd : o.guard = none) (s x : Operand) (T : TypeId)
    (ho : o.op = .call { callee := .builtin .append, args := #[s, x], argTypes := #[T, T] }) (E : TypeId) (hT : P.underlying T = some (.slice E))
    (hI : (P.info? E).map (fun i => (i.zero, i.size, i.bytes)) = some (some (.int .u8 0), 1, 1)) (base : Nat) (A : Option Addr) (n c : Nat) (l : List UInt8) (hs : a.eval s = .slice A n c) (hr : Res w base E A n c l)
    (ad : Addr) (m c2 : Nat) (hx : a.eval x = .slice (some ad) m c2) (news : List UInt8) (hl : news.length = m) (hnews : ∀ j u, (bv news)[j]? = some u → w.cell? (ad.add j) = some u) (hsz : n + m ≤ 140737488355328) (hbase : base ≤ w.heap.size)
    (h : ∀ A' c' w', Res w' base E A' (n + m) c' (l ++ news) → (∀ B w0, B ≤ base → Below B w0 w → Below B w0 w') → K (a.put o.dst (.slice A' (n + m) c')) w') :
    if Region.wanted o (yielded ops a.tmps) = true then Oper.wp P o a w K Q else E' := by
  have hw : Region.wanted o (yielded ops a.tmps) = true := by simp [Region.wanted, hgd]
  rw [if_pos hw]
  obtain ⟨i, hi, hz, h1, h2⟩ := info_parts hI
  refine wp_append_own w s x T ho base E i (.int .u8 0) 1 1 hT hi hz h1 h2 rfl (by decide) _ n (bv l) hs hr ad m c2 (bv news) hx (by rw [bv_len]; omega) hnews (bv_one _) (by unfold maxLen; omega) (by omega) hbase ?_
  intro v' w' hown hgr _
  rw [← bv_app] at hown
  obtain ⟨A', c', rfl, hres⟩ := Res.of v' hown
  exact h A' c' w' hres fun B w0 hB hb => hb.grown hgr (by omega) fun k hk => by have := World.ownsRow.lt hr k hk; omega

theorem Res.drew {w : World} {base E n c : Nat} {A : Option Addr} {l : List UInt8} (h : Res w base E A n c l) : Res w.drew base E A n c l := h
/-- A literal of bytes, in the newest block. -/
theorem Byt.lit (w : World) (E : TypeId) (cs : Array Value) (l : List UInt8) (h : cs.toList = bv l) : Byt (w.alloc (.cells cs E)) (w.alloc (.cells cs E)).heap.size (some ⟨w.heap.size, 0, none⟩) l := by
  refine .inr ⟨w.heap.size, 0, rfl, by simp, fun j b hj => ?_⟩
  rw [Nat.zero_add, World.cell?_alloc_new]
  have h1 := bv_at l j
  rw [hj, ← h] at h1
  simpa using h1
/-- Below through a new block of the caller's own. -/
theorem below_lit {B : Nat} {a w w' : World} {o : Obj} (h : Below B a w) (hB : B ≤ w.heap.size) (h2 : Below (w.alloc o).heap.size (w.alloc o) w') : Below B a w' :=
  (h.alloc hB o).trans (h2.mono (by simp; omega))
theorem below_next {B : Nat} {a w w' : World} (h : Below B a w) (hB : B ≤ w.heap.size) (h2 : Below w.heap.size w w') : Below B a w' := h.trans (h2.mono hB)
/-- A []byte that came in, as the row's reading tells it. -/
theorem bytes_of_row {w : World} {a : Option Addr} {len cap : Nat} {zs : List Int}
    (h : (a = none ∧ len = 0 ∧ cap = 0 ∧ zs = []) ∨ ∃ x, a = some x ∧ len ≤ cap ∧ cap ≤ maxLen ∧ zs.length = cap ∧ (∀ i, i < zs.length → w.cell? (x.add i) = some (.int .u8 (zs.getD i 0))) ∧ ∀ n ∈ zs, (Lit.int .u8 n).wf = true) :
    ∃ l : List UInt8, Byt w w.heap.size a l ∧ l.length = len := by
  rcases h with ⟨rfl, rfl, _, _⟩ | ⟨x, rfl, hl, _, hz, hc, hw⟩
  · exact ⟨[], Byt.none_, rfl⟩
  · rcases Nat.eq_zero_or_pos len with h0 | h0
    · exact ⟨[], Byt.none_, h0.symm⟩
    · obtain ⟨b, off, rfl, hcell⟩ := ints_at hc (by omega)
      refine ⟨(zs.take len).map fun z => UInt8.ofNat z.toNat, .inr ⟨b, off, rfl, ?_, ?_⟩, by simp; omega⟩
      · exact World.block_lt_of_cell? w ⟨b, off + 0, none⟩ (hcell 0 (by omega))
      · intro j c hj
        have hjl : j < len := by
          have := (List.getElem?_eq_some_iff.1 hj).1
          simp at this; omega
        have hjz : j < zs.length := by omega
        rw [hcell j hjz]
        simp [hjl, List.getElem?_eq_getElem hjz] at hj
        subst hj
        have h1 := hw zs[j] (List.getElem_mem hjz)
        have h2 : 0 ≤ zs[j] ∧ zs[j] ≤ 255 := by simpa [Lit.wf, IntKind.min, IntKind.max, IntKind.signed, IntKind.bits] using h1
        congr 2
        simp [List.getElem?_eq_getElem hjz]
        omega
theorem u64_of_wf {a : Int} (h : (Lit.int .u64 a).wf = true) : ∃ v : Nat, a = (v : Int) ∧ v < 18446744073709551616 := by
  have h2 : 0 ≤ a ∧ a ≤ 18446744073709551615 := by simpa [Lit.wf, IntKind.min, IntKind.max, IntKind.signed, IntKind.bits] using h
  exact ⟨a.toNat, by omega, by omega⟩
theorem ret_bool {a b : Bool} (h : a = b) : Ending.returned (.bool a) = .returned (.bool b) := by rw [h]
theorem ret_str {a b : ByteArray} (h : a = b) : Ending.returned (.string a) = .returned (.string b) := by rw [h]

theorem Res.alloc {w : World} {base E n c : Nat} {A : Option Addr} {l : List UInt8} (h : Res w base E A n c l) (o : Obj) : Res (w.alloc o) base E A n c l := World.ownsRow.alloc h o

/-- The one new cell of append(s, x). -/
theorem new_byte (w : World) (E : TypeId) (x : Int) (b : UInt8) (hx : x = (b.toNat : Int)) :
    ∀ j u, (bv [b])[j]? = some u → (w.alloc (.cells #[.int .u8 x] E)).cell? ((⟨w.heap.size, 0, none⟩ : Addr).add j) = some u := by
  intro j u hj
  match j, hj with
  | 0, hj =>
    simp [bv] at hj
    subst hj hx
    rw [addr_add]
    simp
theorem new_bytes2 (w : World) (E : TypeId) (x y : Int) (b d : UInt8) (hx : x = (b.toNat : Int)) (hy : y = (d.toNat : Int)) :
    ∀ j u, (bv [b, d])[j]? = some u → (w.alloc (.cells #[.int .u8 x, .int .u8 y] E)).cell? ((⟨w.heap.size, 0, none⟩ : Addr).add j) = some u := by
  intro j u hj
  match j, hj with
  | 0, hj =>
    simp [bv] at hj
    subst hj hx
    rw [addr_add]
    simp
  | 1, hj =>
    simp [bv] at hj
    subst hj hy
    rw [addr_add]
    simp
theorem new_bytes2d (w : World) (E : TypeId) (x y : Int) (b d : UInt8) (hx : x = (b.toNat : Int)) (hy : y = (d.toNat : Int)) :
    ∀ j u, (bv [b, d])[j]? = some u → (w.alloc (.cells #[.int .u8 x, .int .u8 y] E)).drew.cell? ((⟨w.heap.size, 0, none⟩ : Addr).add j) = some u := new_bytes2 w E x y b d hx hy
theorem byte_of (v s : Nat) : (v : Int) / 2 ^ s % 256 = ((UInt8.ofNat (v / 2 ^ s)).toNat : Int) := by
  rw [UInt8.toNat_ofNat']
  simp

/-- Same heap and streams, draws aside. -/
theorem below_drewN {B : Nat} {a w : World} (h : Below B a w) (k : Nat) : Below B a (w.drewN k) := ⟨h.os, h.tape, h.output, h.size, h.block⟩
end Go.Proofs.Ytncjobhpiohkkaa
namespace Go.Proofs.Ytncjobhpiohkkaa
open Go.RowKit

theorem Try.infoByte : (Try.prog.info? 5).map (fun i => (i.zero, i.size, i.bytes)) = some (some (.int .u8 0), 1, 1) := by kernel_rfl

/-- How many bytes of a number are written. -/
def wd (n : Int) : Nat := (min (max n 0) 8).toNat
theorem wd_le (n : Int) : wd n ≤ 8 := by unfold wd; omega


end Go.Proofs.Ytncjobhpiohkkaa
namespace Go.Proofs.Ytncjobhpiohkkaa
open Go.RowKit

section
variable {P : Program} {t e n : Nat} (hu : P.underlying t = some (.array n e)) (hs : (P.info? e).map (·.size) = some 1) (g o : Nat)
include hu hs
theorem cut_lh (lo hi : Nat) (L H : Int) (hL : L = (lo : Int)) (hH : H = (hi : Int)) (h1 : lo ≤ hi) (h2 : hi ≤ n) (h3 : lo < n) (w : World) :
    (Instr.sliceAt t (.pointer (some ⟨g, o, none⟩)) (some (.int .i64 L)) (some (.int .i64 H)) none).run P w = .ok (.slice (some ⟨g, o + lo, none⟩) (hi - lo) (n - lo)) w := by
  subst hL hH
  obtain ⟨i, hi', hi2⟩ := Option.map_eq_some_iff.1 hs
  have ht : P.underlying t = some (.array (P.arrayLen t) (P.elem t)) := by simp [Program.arrayLen, Program.elem, hu]
  have hn : P.arrayLen t = n := by simp [Program.arrayLen, hu]
  have he : P.elem t = e := by simp [Program.elem, hu]
  rw [run_sliceAt_array_lh w t _ ht .i64 .i64 _ _ (by omega) (by omega) (by omega), hn, he]
  simp [sizeOf, typeInfo, hi', hi2, slicedAt, addr_add, show ¬ n = lo by omega]
theorem cut_l (lo : Nat) (L : Int) (hL : L = (lo : Int)) (h3 : lo < n) (w : World) :
    (Instr.sliceAt t (.pointer (some ⟨g, o, none⟩)) (some (.int .i64 L)) none none).run P w = .ok (.slice (some ⟨g, o + lo, none⟩) (n - lo) (n - lo)) w := by
  subst hL
  obtain ⟨i, hi', hi2⟩ := Option.map_eq_some_iff.1 hs
  have ht : P.underlying t = some (.array (P.arrayLen t) (P.elem t)) := by simp [Program.arrayLen, Program.elem, hu]
  have hn : P.arrayLen t = n := by simp [Program.arrayLen, hu]
  have he : P.elem t = e := by simp [Program.elem, hu]
  rw [run_sliceAt_array_l w t _ ht .i64 _ (by omega) (by omega), hn, he]
  simp [sizeOf, typeInfo, hi', hi2, slicedAt, addr_add, show ¬ n = lo by omega]
theorem cut_all (h3 : 0 < n) (w : World) :
    (Instr.sliceAt t (.pointer (some ⟨g, o, none⟩)) none none none).run P w = .ok (.slice (some ⟨g, o, none⟩) n n) w := by
  obtain ⟨i, hi', hi2⟩ := Option.map_eq_some_iff.1 hs
  have ht : P.underlying t = some (.array (P.arrayLen t) (P.elem t)) := by simp [Program.arrayLen, Program.elem, hu]
  have hn : P.arrayLen t = n := by simp [Program.arrayLen, hu]
  have he : P.elem t = e := by simp [Program.elem, hu]
  rw [run_sliceAt_array_all w t _ ht, hn, he]
  simp [sizeOf, typeInfo, hi', hi2, slicedAt, addr_add, show ¬ n = 0 by omega]
end
theorem Try.sizeByte : (Try.prog.info? 5).map (·.size) = some 1 := by kernel_rfl
theorem Try.sizeU32 : (Try.prog.info? 103).map (·.size) = some 1 := by kernel_rfl
/-- The element of an array's value. -/
theorem at_agg {P : Program} {t e n : Nat} {k : IntKind} (hu : P.underlying t = some (.array n e)) (hs : (P.info? e).map (·.size) = some 1) (he : P.underlying e = some (.int k)) (cs : List Value) (j : Nat) (v : Value) (I : Int) (hI : I = (j : Int)) (hj : j < n) (hv : cs[j]? = some v) (w : World) :
    (Instr.index t (.agg cs.toArray) (.int .i64 I)).run P w = .ok v w := by
  subst hI
  obtain ⟨i, hi', hi2⟩ := Option.map_eq_some_iff.1 hs
  simp [Instr.index, asIntOf, run_underlying hu, sizeOf, typeInfo, hi', hi2, part, isAgg, run_underlying he, hv, hj]
theorem getD_lt {l : List Nat} {B : Nat} (h : ∀ x ∈ l, x < B) (h0 : 0 < B) (k : Nat) : l.getD k 0 < B := by
  rw [List.getD_eq_getElem?_getD]
  by_cases hk : k < l.length
  · rw [List.getElem?_eq_getElem hk]; exact h _ (List.getElem_mem hk)
  · rw [List.getElem?_eq_none (by omega)]; exact h0
/-- Words as the cells of a row. -/
def u32v (l : List Nat) : List Value := l.map fun (x : Nat) => Value.int .u32 (x : Int)
/-- What a new variable holds. -/
def z32 : List UInt8 := List.replicate 32 0
def z64 : List UInt8 := List.replicate 64 0
theorem z32_len : z32.length = 32 := rfl
theorem z64_len : z64.length = 64 := rfl
/-- Of what was there nothing but block g has turned. -/
def But (g : Nat) (w w' : World) : Prop := w.grownBy w' (some g)
theorem But.refl (g : Nat) (w : World) : But g w w := ⟨rfl, rfl, rfl, Nat.le_refl _, fun _ _ _ => rfl⟩
theorem But.trans {g : Nat} {a b c : World} (h : But g a b) (k : But g b c) : But g a c :=
  ⟨k.os.trans h.os, k.tape.trans h.tape, k.output.trans h.output, Nat.le_trans h.size k.size, fun i hi hn => (k.block i (Nat.lt_of_lt_of_le hi h.size) hn).trans (h.block i hi hn)⟩
theorem But.of_below {g B : Nat} {w w' : World} (h : Below B w w') (hB : w.heap.size ≤ B) : But g w w' := ⟨h.os, h.tape, h.output, h.size, fun i hi _ => h.block i (by omega)⟩
theorem But.below {g B : Nat} {a w w' : World} (h : Below B a w) (k : But g w w') (hB : B ≤ g) (hs : B ≤ w.heap.size) : Below B a w' :=
  h.trans ⟨k.os, k.tape, k.output, k.size, fun i hi => k.block i (by omega) (fun e => by injection e; omega)⟩
theorem But.below_to {g B : Nat} {a b c : World} (h : But g a b) (k : Below B b c) (hB : b.heap.size ≤ B) : But g a c := h.trans (But.of_below k hB)
theorem But.set {g i : Nat} {a w : World} (h : But g a w) (u : Value) : But g a (w.setCell ⟨g, i, none⟩ u) :=
  h.trans ⟨rfl, rfl, rfl, by simp [World.setCell], fun k _ hn => heap_setCell_other w _ k u (fun e => hn (by rw [e]))⟩
theorem But.alloc {g : Nat} {a w : World} (h : But g a w) (o : Obj) : But g a (w.alloc o) := h.trans (World.grownBy_alloc w o _)
theorem But.drew {g : Nat} {a w : World} (h : But g a w) : But g a w.drew := ⟨h.os, h.tape, h.output, h.size, h.block⟩
theorem But.row {g : Nat} {a w : World} (h : But g a w) (cs : Array Value) : But g a (w.setRow g cs) :=
  h.trans ⟨rfl, rfl, rfl, by simp [World.setRow], fun k _ hn => setRow_other w g k cs (fun e => hn (by rw [e]))⟩
theorem Byt.but {w w' : World} {g B : Nat} {A : Option Addr} {l : List UInt8} (h : Byt w B A l) (hb : But g w w') (hB : B ≤ w.heap.size) (hg : B ≤ g) : Byt w' B A l :=
  h.keep fun p hp => World.cell?_of_block (hb.block p.block (by omega) (fun e => by injection e; omega))
theorem u32v_len (l : List Nat) : (u32v l).length = l.length := by simp [u32v]
theorem u32v_at (l : List Nat) (k : Nat) : (u32v l)[k]? = l[k]?.map fun (x : Nat) => Value.int .u32 (x : Int) := by simp [u32v]
theorem u32v_set (l : List Nat) (k x : Nat) : (u32v l).set k (.int .u32 (x : Int)) = u32v (l.set k x) := by simp [u32v, List.map_set]
theorem u32v_one (l : List Nat) : ∀ u ∈ u32v l, u.oneCell' = true := by
  intro u hu
  obtain ⟨b, _, rfl⟩ := List.mem_map.1 hu
  rfl
def natAt (l : List Nat) (k : Nat) : Nat := l.getD k 0
theorem natAt_lt {l : List Nat} (h : ∀ x ∈ l, x < 4294967296) (k : Nat) : natAt l k < 4294967296 := getD_lt h (by decide) k
theorem natAt_at {l : List Nat} {n k : Nat} (h : l.length = n) (hk : k < n) : (u32v l)[k]? = some (.int .u32 ((natAt l k : Nat) : Int)) := by
  have hl : k < l.length := by omega
  simp [u32v_at, natAt, List.getElem?_eq_getElem hl]
/-- Bytes that lie outside block g. -/
def Src (w : World) (g : Nat) (A : Option Addr) (m : List UInt8) : Prop :=
  m = [] ∨ ∃ b o, A = some ⟨b, o, none⟩ ∧ b ≠ g ∧ b < w.heap.size ∧ ∀ j x, m[j]? = some x → w.cell? ⟨b, o + j, none⟩ = some (.int .u8 (x.toNat : Int))
section
variable {w w' : World} {g B : Nat} {A : Option Addr} {m : List UInt8}
theorem Src.but (h : Src w g A m) (hb : But g w w') : Src w' g A m := by
  rcases h with h | ⟨b, o, hA, hne, hlt, hc⟩
  · exact .inl h
  · exact .inr ⟨b, o, hA, hne, Nat.lt_of_lt_of_le hlt hb.size, fun j x hj => (World.cell?_of_block (w := w) (hb.block b hlt (fun e => hne (by injection e)))).trans (hc j x hj)⟩
theorem Src.byt (h : Src w g A m) : Byt w w.heap.size A m := by
  rcases h with h | ⟨b, o, hA, hne, hlt, hc⟩
  · exact .inl h
  · exact .inr ⟨b, o, hA, hlt, hc⟩
theorem Byt.toSrc (h : Byt w B A m) (hB : B ≤ w.heap.size) (hg : B ≤ g) : Src w g A m := by
  rcases h with h | ⟨b, o, hA, hlt, hc⟩
  · exact .inl h
  · exact .inr ⟨b, o, hA, by omega, by omega, hc⟩
/-- The rest of a slice. -/
theorem Src.cut (h : Src w g A m) (t c : Nat) (hc : m.length ≤ c) : Src w g (if c = t then A else A.map (·.add t)) (m.drop t) := by
  rcases h with h | ⟨b, o, rfl, hne, hlt, hcell⟩
  · subst h; exact .inl (by simp)
  · by_cases ht : c = t
    · exact .inl (List.drop_eq_nil_of_le (by omega))
    · rw [if_neg ht]
      refine .inr ⟨b, o + t, by rw [Option.map_some, addr_add], hne, hlt, fun j x hj => ?_⟩
      rw [List.getElem?_drop] at hj
      rw [Nat.add_assoc]; exact hcell _ x hj
end
theorem run_cut_l {P : Program} {T E : TypeId} (hT : P.underlying T = some (.slice E)) (hs : (P.info? E).map (·.size) = some 1) (A : Option Addr) (n c t : Nat) (L : Int) (hL : L = (t : Int)) (ht : t ≤ n) (w : World) :
    (Instr.slice T (.slice A n c) (some (.int .i64 L)) none none).run P w = .ok (.slice (if c = t then A else A.map (·.add t)) (n - t) (c - t)) w := by
  subst hL
  obtain ⟨i, hi', hi2⟩ := Option.map_eq_some_iff.1 hs
  have he : P.elem T = E := by simp [Program.elem, hT]
  rw [run_slice_l w T A n c (by rw [he]; exact hT) .i64 _ (by omega) (by omega), he]
  simp [sizeOf, typeInfo, hi', hi2, sliced]

/-- copy into a block that is known whole, as one step of a region that draws its order. -/
theorem step_copy_but {P : Program} {ops : Array Oper} {o : Oper} {a : Act} {w : World} {K : Act → World → Prop} {Q : Exit → Act → World → Prop} {E : Prop} (hgd : o.guard = none) (d s : Operand) (T : TypeId)
    (ho : o.op = .call { callee := .builtin .copy, args := #[d, s], argTypes := #[T, T] }) (elem : TypeId) (hu : P.underlying T = some (.slice elem)) (hsz : (P.info? elem).map (·.size) = some 1)
    (g off dLen dCap sLen sCap : Nat) (A : Option Addr) (hd : a.eval d = .slice (some ⟨g, off, none⟩) dLen dCap) (hs : a.eval s = .slice A sLen sCap)
    (cur : List Value) (t : TypeId) (hg : w.heap[g]? = some (.cells cur.toArray t (0, 0))) (m : List UInt8) (B : Nat) (hA : Byt w B A m) (hm : m.length = sLen) (hs0 : 0 < sLen)
    (hfit : off + dLen ≤ cur.length) (w0 : World) (hb : But g w0 w)
    (h : ∀ w', Hid (w'.heap[g]? = some (.cells (splice cur off (bv (m.take dLen))).toArray t (0, 0))) → But g w0 w' → K (a.put o.dst (.int .i64 ((min sLen dLen : Nat) : Int))) w') :
    if Region.wanted o (yielded ops a.tmps) = true then Oper.wp P o a w K Q else E := by
  have hw : Region.wanted o (yielded ops a.tmps) = true := by simp [Region.wanted, hgd]
  rw [if_pos hw]
  rcases hA with h0 | ⟨b, o', rfl, hlt, hc⟩
  · subst h0; simp at hm; omega
  · have hlen : (bv (m.take dLen)).length = Nat.min sLen dLen := by rw [bv_len, List.length_take, hm]; exact Nat.min_comm _ _
    have hsrc : ∀ j v, (bv (m.take dLen))[j]? = some v → w.cell? ((⟨b, o', none⟩ : Addr).add j) = some v := by
      intro j v hj
      rw [bv_at] at hj
      obtain ⟨x, hx, rfl⟩ := Option.map_eq_some_iff.1 hj
      rw [addr_add]
      refine hc j x ?_
      have hjl : j < dLen := by
        have := (List.getElem?_eq_some_iff.1 hx).1
        simp at this; omega
      rwa [List.getElem?_take_of_lt hjl] at hx
    have hl2 : (bv (m.take dLen)).length = min sLen dLen := hlen
    have hrun := run_copy_row (P := P) w T T o.type elem g off dLen dCap ⟨b, o', none⟩ sLen sCap cur.toArray t (bv (m.take dLen)) hu hsz hg hlen hsrc (by simp only [List.size_toArray]; omega) (bv_one _)
    unfold Oper.wp
    simp [execOp, ho, resolve, invoke, builtin, hd, hs, hrun, Result.andThen]
    have h3 := h _ (show _ = _ by simpa [splice] using setRow_heap w g _ _ t _ hg) (hb.row _)
    rw [hl2] at h3 ⊢
    exact h3
theorem Res.toSrc {w : World} {base E n c g : Nat} {A : Option Addr} {l : List UInt8} (h : Res w base E A n c l) (hg : g < base) : Src w g A l := by
  rcases h.2 with ⟨h', h0⟩ | ⟨b, cap, cur, h', hb, hcur, hnc, hcm, hcs, htake⟩
  · refine .inl (List.eq_nil_of_length_eq_zero ?_)
    have := h.len; omega
  · rcases h.byt with h1 | ⟨b', o', hA, hlt, hc⟩
    · exact .inl h1
    · simp only [Value.slice.injEq] at h'
      obtain ⟨rfl, _, _⟩ := h'
      injection hA with hA
      injection hA with hA1 hA2
      subst hA1 hA2
      exact .inr ⟨b, 0, rfl, by omega, hlt, hc⟩
theorem Res.cap {w : World} {base E n c : Nat} {A : Option Addr} {l : List UInt8} (h : Res w base E A n c l) : n ≤ c := by
  rcases h.2 with ⟨h', h0⟩ | ⟨b, cap, cur, h', hb, hcur, hnc, hcm, hcs, htake⟩
  · simp only [Value.slice.injEq] at h'; omega
  · simp only [Value.slice.injEq] at h'; omega
theorem step_load_row {P : Program} {ops : Array Oper} {o : Oper} {a : Act} {w : World} {K : Act → World → Prop} {Q : Exit → Act → World → Prop} {E : Prop} (hgd : o.guard = none) (ty : TypeId) (x : Operand) (ho : o.op = .load ty x)
    (g : Nat) (hx : a.eval x = .pointer (some ⟨g, 0, none⟩)) (t : TypeId) (cs : Array Value) (d : TypeDesc) (hg : w.heap[g]? = some (.cells cs t (0, 0)))
    (hu : P.underlying ty = some d) (hd : (match d with | .struct _ | .array _ _ => true | _ => false) = true) (hi : (P.info? ty).map (·.size) = some cs.size)
    (h : K (a.put o.dst (.agg cs)) w) : if Region.wanted o (yielded ops a.tmps) = true then Oper.wp P o a w K Q else E := by
  have hw : Region.wanted o (yielded ops a.tmps) = true := by simp [Region.wanted, hgd]
  rw [if_pos hw]
  exact wp_load_row ty x ho g hx t cs (0, 0) d hg hu hd hi h
theorem step_store_row {P : Program} {ops : Array Oper} {o : Oper} {a : Act} {w : World} {K : Act → World → Prop} {Q : Exit → Act → World → Prop} {E : Prop} (hgd : o.guard = none) (ty : TypeId) (x y : Operand) (ho : o.op = .store ty x y)
    (g : Nat) (cells : Array Value) (hx : a.eval x = .pointer (some ⟨g, 0, none⟩)) (hy : a.eval y = .agg cells) (t : TypeId) (old : Array Value) (hg : w.heap[g]? = some (.cells old t (0, 0)))
    (hi : (P.info? ty).map (·.size) = some cells.size) (hold : old.size = cells.size) (h1 : cells.all (·.oneCell') = true)
    (h : K (a.put o.dst undef) (w.setRow g cells)) : if Region.wanted o (yielded ops a.tmps) = true then Oper.wp P o a w K Q else E := by
  have hw : Region.wanted o (yielded ops a.tmps) = true := by simp [Region.wanted, hgd]
  rw [if_pos hw]
  exact wp_store_row ty x y ho g cells hx hy t old hg hi hold h1 h

theorem byt_row {w : World} {g : Nat} {l : List UInt8} {t : TypeId} (hg : w.heap[g]? = some (.cells (bv l).toArray t (0, 0))) : Byt w w.heap.size (some ⟨g, 0, none⟩) l := by
  refine .inr ⟨g, 0, rfl, (Array.getElem?_eq_some_iff.1 hg).1, fun j b hj => ?_⟩
  rw [Nat.zero_add, cell_of_row _ _ _ _ _ _ hg]
  simp only [List.getElem?_toArray, bv_at, hj]; rfl
theorem src_row {w : World} {g b : Nat} {l : List UInt8} {t : TypeId} (hg : w.heap[g]? = some (.cells (bv l).toArray t (0, 0))) (hne : g ≠ b) : Src w b (some ⟨g, 0, none⟩) l := by
  rcases byt_row hg with h | ⟨g', o', h1, h2, h3⟩
  · exact .inl h
  · injection h1 with h1
    injection h1 with h1 h1'
    subst h1 h1'
    exact .inr ⟨g, 0, rfl, hne, h2, h3⟩

end Go.Proofs.Ytncjobhpiohkkaa
namespace Go.Proofs.Ytncjobhpiohkkaa
open Go.RowKit

def iat (l : List Int) (k : Nat) : Int := l.getD k 0
theorem iat_at {l : List Int} {k : Nat} (h : k < l.length) : l[k]? = some (iat l k) := by simp [iat, List.getElem?_eq_getElem h]
theorem iat_set_other (l : List Int) (k j : Nat) (x : Int) (h : k ≠ j) : iat (l.set k x) j = iat l j := by
  rw [iat, iat, List.getD_eq_getElem?_getD, List.getD_eq_getElem?_getD, List.getElem?_set_ne h]
theorem Try.sizeI64 : (Try.prog.info? 2).map (·.size) = some 1 := by kernel_rfl
/-- Pieces as the cells of a row. -/
def i64v (l : List Int) : List Value := l.map fun x => Value.int .i64 x
theorem i64v_len (l : List Int) : (i64v l).length = l.length := by simp [i64v]
theorem i64v_at (l : List Int) (k : Nat) : (i64v l)[k]? = l[k]?.map fun x => Value.int .i64 x := by simp [i64v]
theorem i64v_set (l : List Int) (k : Nat) (x : Int) : (i64v l).set k (.int .i64 x) = i64v (l.set k x) := by simp [i64v, List.map_set]
theorem i64v_one (l : List Int) : ∀ u ∈ i64v l, u.oneCell' = true := by
  intro u hu
  obtain ⟨b, _, rfl⟩ := List.mem_map.1 hu
  rfl
theorem i64v_size (l : List Int) (h : l.length = 16) : (i64v l).toArray.size = 16 := by simp [i64v_len, h]
theorem int_at {w : World} {g : Nat} {l : List Int} {t : TypeId} (hg : w.heap[g]? = some (.cells (i64v l).toArray t (0, 0))) (k : Nat) (hk : k < l.length) : w.cell? ⟨g, k, none⟩ = some (.int .i64 (iat l k)) := by
  rw [cell_of_row _ _ _ _ _ _ hg]
  simp [i64v_at, iat, List.getElem?_eq_getElem hk]
theorem iat_set_same (l : List Int) (k : Nat) (x : Int) (h : k < l.length) : iat (l.set k x) k = x := by simp [iat, List.getD_eq_getElem?_getD, h]
end Go.Proofs.Ytncjobhpiohkkaa
namespace Go.Proofs.Ytncjobhpiohkkaa
open Go.RowKit

def grN : Nat → Nat → List UInt8
  | 0, v => [UInt8.ofNat v]
  | f + 1, v => if v < 128 then [UInt8.ofNat v] else UInt8.ofNat (v % 128 + 128) :: grN f (v / 128)
def gr (v : Nat) : List UInt8 := grN 8 v
theorem grN_small (f v : Nat) (h : v < 128) : grN f v = [UInt8.ofNat v] := by
  cases f with
  | zero => rfl
  | succ f => rw [grN, if_pos h]
theorem grN_more (f v : Nat) (h : ¬ v < 128) : grN (f + 1) v = UInt8.ofNat (v % 128 + 128) :: grN f (v / 128) := by rw [grN, if_neg h]
theorem grN_pos (f v : Nat) : 1 ≤ (grN f v).length := by
  cases f with
  | zero => exact Nat.le_refl _
  | succ f =>
    rw [grN]
    split
    · exact Nat.le_refl _
    · simp
theorem grN_le (f : Nat) : ∀ v, (grN f v).length ≤ f + 1 := by
  induction f with
  | zero => intro v; exact Nat.le_refl _
  | succ f ih =>
    intro v
    rw [grN]
    split
    · simp
    · have := ih (v / 128)
      rw [List.length_cons]; omega
theorem grN_mono (f : Nat) : ∀ a b, a ≤ b → (grN f a).length ≤ (grN f b).length := by
  induction f with
  | zero => intro a b _; exact Nat.le_refl _
  | succ f ih =>
    intro a b h
    rw [grN, grN]
    by_cases ha : a < 128
    · rw [if_pos ha]
      by_cases hb : b < 128
      · rw [if_pos hb]; exact Nat.le_refl _
      · rw [if_neg hb]; simp
    · rw [if_neg ha, if_neg (by omega), List.length_cons, List.length_cons]
      exact Nat.succ_le_succ (ih _ _ (Nat.div_le_div_right h))
theorem gr_pos (v : Nat) : 1 ≤ (gr v).length := grN_pos 8 v
theorem gr_le (v : Nat) : (gr v).length ≤ 9 := grN_le 8 v
theorem gr_mono (a b : Nat) (h : a ≤ b) : (gr a).length ≤ (gr b).length := grN_mono 8 a b h
/-- The number that bytes begin with, and how many bytes it takes: none, if they begin with none. -/
def frL : List UInt8 → Nat → Nat → Nat × Nat
  | [], _, _ => (0, 0)
  | c :: r, i, v => if 128 ≤ c.toNat then frL r (i + 1) (v + c.toNat % 128 * 2 ^ (7 * i)) else if c.toNat = 0 ∧ 0 < i then (0, 0) else (v + c.toNat * 2 ^ (7 * i), i + 1)
def frontOf (l : List UInt8) : Nat × Nat := frL (l.take 9) 0 0
theorem frL_gr (f : Nat) : ∀ (v : Nat) (rest : List UInt8) (i a : Nat), v < 2 ^ (7 * (f + 1)) → (v ≠ 0 ∨ i = 0) → frL (grN f v ++ rest) i a = (a + v * 2 ^ (7 * i), i + (grN f v).length) := by
  have small : ∀ (f v : Nat) (rest : List UInt8) (i a : Nat), v < 128 → (v ≠ 0 ∨ i = 0) → frL (grN f v ++ rest) i a = (a + v * 2 ^ (7 * i), i + (grN f v).length) := by
    intro f v rest i a h h0
    rw [grN_small f v h]
    have e : (UInt8.ofNat v).toNat = v := by simp; omega
    rw [List.singleton_append, frL, e, if_neg (by omega), if_neg (by omega)]
    rfl
  induction f with
  | zero => intro v rest i a h h0; exact small 0 v rest i a (by simpa using h) h0
  | succ f ih =>
    intro v rest i a h h0
    by_cases hv : v < 128
    · exact small _ v rest i a hv h0
    · rw [grN_more f v hv]
      have e : (UInt8.ofNat (v % 128 + 128)).toNat = v % 128 + 128 := by simp; omega
      have hd : v / 128 < 2 ^ (7 * (f + 1)) := by
        have : 2 ^ (7 * (f + 1 + 1)) = 2 ^ (7 * (f + 1)) * 128 := by rw [show 7 * (f + 1 + 1) = 7 * (f + 1) + 7 by omega, Nat.pow_add]
        rw [this] at h
        exact Nat.div_lt_of_lt_mul (by rw [Nat.mul_comm]; exact h)
      rw [List.cons_append, frL, e, if_pos (by omega), ih (v / 128) rest (i + 1) _ hd (.inl (by omega)), List.length_cons]
      have e2 : (v % 128 + 128) % 128 = v % 128 := by omega
      have e3 : 2 ^ (7 * (i + 1)) = 128 * 2 ^ (7 * i) := by rw [show 7 * (i + 1) = 7 * i + 7 by omega, Nat.pow_add, Nat.mul_comm]
      rw [e2, e3, Nat.add_assoc]
      refine Prod.ext ?_ (by show _ = _; simp only; omega)
      show a + (v % 128 * 2 ^ (7 * i) + v / 128 * (128 * 2 ^ (7 * i))) = a + v * 2 ^ (7 * i)
      rw [← Nat.mul_assoc, ← Nat.add_mul]
      congr 2; omega
theorem front_gr (v : Nat) (hv : v < 9223372036854775808) (rest : List UInt8) : frontOf (gr v ++ rest) = (v, (gr v).length) := by
  have hl := gr_le v
  rw [frontOf, List.take_append, List.take_of_length_le hl]
  have h := frL_gr 8 v (rest.take (9 - (gr v).length)) 0 0 (by simpa using hv) (.inr rfl)
  rw [show grN 8 v = gr v from rfl] at h
  rw [h]
  simp
theorem frL_bound : ∀ (l : List UInt8) (i a : Nat), a < 2 ^ (7 * i) → (frL l i a).1 < 2 ^ (7 * (i + l.length)) ∧ (frL l i a).2 ≤ i + l.length
  | [], i, a, h => ⟨Nat.two_pow_pos _, Nat.zero_le _⟩
  | c :: r, i, a, h => by
    have hp : 2 ^ (7 * (i + 1)) = 128 * 2 ^ (7 * i) := by rw [show 7 * (i + 1) = 7 * i + 7 by omega, Nat.pow_add, Nat.mul_comm]
    have hmore : ∀ x, x < 128 → a + x * 2 ^ (7 * i) < 2 ^ (7 * (i + 1)) := by
      intro x hx
      have : x * 2 ^ (7 * i) ≤ 127 * 2 ^ (7 * i) := Nat.mul_le_mul_right _ (by omega)
      omega
    rw [frL]
    split
    · have h2 := frL_bound r (i + 1) _ (hmore (c.toNat % 128) (Nat.mod_lt _ (by decide)))
      rw [List.length_cons, show i + (r.length + 1) = i + 1 + r.length by omega]
      exact h2
    · split
      · exact ⟨Nat.two_pow_pos _, Nat.zero_le _⟩
      · refine ⟨Nat.lt_of_lt_of_le (hmore c.toNat (by omega)) (Nat.pow_le_pow_right (by decide) ?_), ?_⟩
        · rw [List.length_cons]; omega
        · rw [List.length_cons]; show i + 1 ≤ _; omega
theorem front_lt (l : List UInt8) : (frontOf l).1 < 9223372036854775808 := by
  have h := (frL_bound (l.take 9) 0 0 (by decide)).1
  refine Nat.lt_of_lt_of_le h ?_
  have : (l.take 9).length ≤ 9 := by rw [List.length_take]; omega
  exact Nat.le_trans (Nat.pow_le_pow_right (by decide) (show 7 * (0 + (l.take 9).length) ≤ 63 by omega)) (by decide)
theorem front_len (l : List UInt8) : (frontOf l).2 ≤ l.length := by
  have h := (frL_bound (l.take 9) 0 0 (by decide)).2
  rw [List.length_take] at h
  rw [frontOf]; omega
theorem or_add (a x k : Nat) (h : a < 2 ^ k) : a ||| (x * 2 ^ k) = a + x * 2 ^ k := by
  rw [Nat.mul_comm x, Nat.or_comm, ← Nat.two_pow_add_eq_or_of_lt h, Nat.add_comm]
end Go.Proofs.Ytncjobhpiohkkaa
namespace Go.Proofs.Ytncjobhpiohkkaa
open Go.RowKit

def vmx (a b : List Int) : List Int := List.zipWith max a b
def vle (a b : List Int) : Bool := decide (vmx a b = b)
def vgood (a : List Int) : Bool := decide (∀ x ∈ a, 0 ≤ x ∧ x ≤ 1099511627776)
def vcmp (a b : List Int) : Int := if a = b then 0 else if vle a b = true then -1 else if vle b a = true then 1 else 2
def vtot (a : List Int) : Int := a.foldr (· + ·) 0
def vsum (a : List Int) : Int := if vgood a = true then vtot a else -1
def vhas (a : List Int) (d n : Int) : Bool := decide (0 ≤ d ∧ d < 8 ∧ 1 ≤ n ∧ n ≤ iat a d.toNat)
def vput (a : List Int) : List UInt8 := (a.map fun x => gr x.toNat).flatten

theorem list_iat {a b : List Int} (h : a.length = b.length) (e : ∀ k, k < a.length → iat a k = iat b k) : a = b := by
  apply List.ext_getElem h
  intro k h1 h2
  have := e k h1
  simpa [iat, h1, h2] using this
theorem vmx_len {a b : List Int} (ha : a.length = 8) (hb : b.length = 8) : (vmx a b).length = 8 := by simp [vmx, ha, hb]
theorem vmx_at {a b : List Int} {k : Nat} (h1 : k < a.length) (h2 : k < b.length) : iat (vmx a b) k = max (iat a k) (iat b k) := by
  have h3 : k < (List.zipWith max a b).length := by rw [List.length_zipWith]; omega
  have hg : ∀ (l : List Int) (h : k < l.length), iat l k = l[k] := fun l h => by simp [iat, h]
  rw [vmx, hg _ h3, hg _ h1, hg _ h2, List.getElem_zipWith]
theorem vle_iff {a b : List Int} (ha : a.length = 8) (hb : b.length = 8) : vle a b = true ↔ ∀ k, k < 8 → iat a k ≤ iat b k := by
  rw [vle, decide_eq_true_iff]
  constructor
  · intro h k hk
    have := vmx_at (a := a) (b := b) (k := k) (by omega) (by omega)
    rw [h] at this
    omega
  · intro h
    apply list_iat (by rw [vmx_len ha hb, hb])
    intro k hk
    rw [vmx_len ha hb] at hk
    have := h k hk
    rw [vmx_at (by omega) (by omega)]
    omega
theorem iat_mem {a : List Int} {x : Int} (h : x ∈ a) : ∃ k, k < a.length ∧ iat a k = x := by
  obtain ⟨k, hk, rfl⟩ := List.mem_iff_getElem.1 h
  exact ⟨k, hk, by simp [iat, hk]⟩
theorem mem_iat {a : List Int} {k : Nat} (h : k < a.length) : iat a k ∈ a := by
  rw [show iat a k = a[k] by simp [iat, h]]
  exact List.getElem_mem h
theorem vgood_iff (a : List Int) : vgood a = true ↔ ∀ k, k < a.length → 0 ≤ iat a k ∧ iat a k ≤ 1099511627776 := by
  rw [vgood, decide_eq_true_iff]
  constructor
  · intro h k hk
    exact h _ (mem_iat hk)
  · intro h x hx
    obtain ⟨k, hk, rfl⟩ := iat_mem hx
    exact h k hk

/-! What follows of these. -/
theorem vmx_comm (a b : List Int) : vmx a b = vmx b a := by
  rw [vmx, vmx, List.zipWith_comm]
  congr 1
  funext x y
  exact Int.max_comm ..
theorem vmx_self (a : List Int) : vmx a a = a := by
  rw [vmx, List.zipWith_self]
  simp
theorem vmx_assoc {a b c : List Int} (ha : a.length = 8) (hb : b.length = 8) (hc : c.length = 8) : vmx (vmx a b) c = vmx a (vmx b c) := by
  have h1 := vmx_len ha hb
  have h2 := vmx_len hb hc
  apply list_iat (by rw [vmx_len h1 hc, vmx_len ha h2])
  intro k hk
  rw [vmx_len h1 hc] at hk
  rw [vmx_at (by omega) (by omega), vmx_at (by omega) (by omega), vmx_at (by omega) (by omega), vmx_at (by omega) (by omega)]
  omega
theorem vle_left {a b : List Int} (ha : a.length = 8) (hb : b.length = 8) : vle a (vmx a b) = true := by
  rw [vle, decide_eq_true_iff, ← vmx_assoc ha ha hb, vmx_self]
theorem vle_right {a b : List Int} (ha : a.length = 8) (hb : b.length = 8) : vle b (vmx a b) = true := by
  rw [vmx_comm]; exact vle_left hb ha
theorem vle_least {a b c : List Int} (ha : a.length = 8) (hb : b.length = 8) (hc : c.length = 8) (h1 : vle a c = true) (h2 : vle b c = true) : vle (vmx a b) c = true := by
  rw [vle, decide_eq_true_iff] at h1 h2 ⊢
  rw [vmx_assoc ha hb hc, h2, h1]
theorem vle_anti {a b : List Int} (h1 : vle a b = true) (h2 : vle b a = true) : a = b := by
  rw [vle, decide_eq_true_iff] at h1 h2
  rw [← h1, vmx_comm, h2]
theorem vle_same (a : List Int) : vle a a = true := by
  rw [vle, decide_eq_true_iff, vmx_self]
theorem vcmp_zero (a b : List Int) : (vcmp a b == 0) = decide (a = b) := by
  rw [vcmp]
  by_cases h : a = b
  · simp [h]
  · rw [if_neg h]; split
    · simp [h]
    · split <;> simp [h]
theorem vcmp_turn (a b : List Int) : (vcmp a b == 1) = (vcmp b a == -1) := by
  rw [vcmp, vcmp]
  by_cases h : a = b
  · simp [h]
  · have h' : ¬ b = a := fun e => h e.symm
    rw [if_neg h, if_neg h']
    by_cases h1 : vle a b = true
    · by_cases h2 : vle b a = true
      · exact absurd (vle_anti h1 h2) h
      · simp [h1, h2]
    · by_cases h2 : vle b a = true <;> simp [h1, h2]
theorem vhas_mono {a b : List Int} (ha : a.length = 8) (hb : b.length = 8) (h : vle a b = true) (d n : Int) (h1 : vhas a d n = true) : vhas b d n = true := by
  rw [vle_iff ha hb] at h
  rw [vhas, decide_eq_true_iff] at h1 ⊢
  have := h d.toNat (by omega)
  omega
theorem vhas_max {a b : List Int} (ha : a.length = 8) (hb : b.length = 8) (d n : Int) : vhas (vmx a b) d n = (vhas a d n || vhas b d n) := by
  rw [vhas, vhas, vhas, ← Bool.decide_or]
  apply decide_eq_decide.2
  by_cases h : 0 ≤ d ∧ d < 8
  · have := vmx_at (a := a) (b := b) (k := d.toNat) (by omega) (by omega)
    omega
  · omega
theorem vtot_max : ∀ (a b : List Int), (∀ x ∈ a, 0 ≤ x) → (∀ x ∈ b, 0 ≤ x) → vtot (vmx a b) ≤ vtot a + vtot b
  | [], b, _, hb => by
    have : ∀ (b : List Int), (∀ x ∈ b, 0 ≤ x) → 0 ≤ vtot b := by
      intro b
      induction b with
      | nil => intro _; exact Int.le_refl _
      | cons y s ih => intro h; have h1 := ih (fun x hx => h x (by simp [hx])); have h2 := h y (by simp); simp only [vtot, List.foldr_cons] at h1 ⊢; omega
    have := this b hb
    simp only [vmx, List.zipWith_nil_left]
    simp only [vtot, List.foldr_nil] at this ⊢
    omega
  | x :: r, [], ha, hb => by
    have : ∀ (b : List Int), (∀ x ∈ b, 0 ≤ x) → 0 ≤ vtot b := by
      intro b
      induction b with
      | nil => intro _; exact Int.le_refl _
      | cons y s ih => intro h; have h1 := ih (fun x hx => h x (by simp [hx])); have h2 := h y (by simp); simp only [vtot, List.foldr_cons] at h1 ⊢; omega
    have := this _ ha
    simp only [vmx, List.zipWith_nil_right]
    simp only [vtot, List.foldr_nil] at this ⊢
    omega
  | x :: r, y :: s, ha, hb => by
    have h1 := vtot_max r s (fun z hz => ha z (by simp [hz])) (fun z hz => hb z (by simp [hz]))
    have h2 := ha x (by simp)
    have h3 := hb y (by simp)
    simp only [vmx, vtot, List.zipWith_cons_cons, List.foldr_cons] at h1 ⊢
    omega
theorem vgood_max {a b : List Int} (ha : a.length = 8) (hb : b.length = 8) (h1 : vgood a = true) (h2 : vgood b = true) : vgood (vmx a b) = true := by
  rw [vgood_iff] at h1 h2 ⊢
  intro k hk
  rw [vmx_len ha hb] at hk
  have := h1 k (by omega)
  have := h2 k (by omega)
  rw [vmx_at (by omega) (by omega)]
  omega
theorem vsum_max {a b : List Int} (ha : a.length = 8) (hb : b.length = 8) (h1 : vgood a = true) (h2 : vgood b = true) : vsum (vmx a b) ≤ vsum a + vsum b := by
  rw [vsum, vsum, vsum, if_pos h1, if_pos h2, if_pos (vgood_max ha hb h1 h2)]
  rw [vgood, decide_eq_true_iff] at h1 h2
  exact vtot_max a b (fun x hx => (h1 x hx).1) (fun x hx => (h2 x hx).1)
/-- The sum of the first k. -/
def vup (a : List Int) (k : Nat) : Int := vtot (a.take k)
theorem vtot_app (a b : List Int) : vtot (a ++ b) = vtot a + vtot b := by
  induction a with
  | nil => simp [vtot]
  | cons x r ih => simp only [vtot, List.cons_append, List.foldr_cons] at ih ⊢; omega
theorem vup_next {a : List Int} {k : Nat} (h : k < a.length) : vup a (k + 1) = vup a k + iat a k := by
  rw [vup, vup, List.take_succ_eq_append_getElem h, vtot_app, show iat a k = a[k] by simp [iat, h]]
  simp [vtot]
theorem vup_bound {a : List Int} (hg : ∀ x ∈ a, 0 ≤ x ∧ x ≤ 1099511627776) : ∀ k, k ≤ a.length → 0 ≤ vup a k ∧ vup a k ≤ 1099511627776 * (k : Int) := by
  intro k
  induction k with
  | zero => intro _; simp [vup, vtot]
  | succ k ih =>
    intro hk
    have h1 := ih (by omega)
    have h2 := hg _ (mem_iat (a := a) (k := k) (by omega))
    rw [vup_next (by omega)]
    omega
theorem vup_all {a : List Int} (h : a.length = 8) : vup a 8 = vtot a := by rw [vup, List.take_of_length_le (by omega)]
theorem vup_zero (a : List Int) : vup a 0 = 0 := rfl
/-- Written, number by number. -/
def vpt (a : List Int) (k : Nat) : List UInt8 := vput (a.take k)
theorem vpt_next {a : List Int} {k : Nat} (h : k < a.length) : vpt a (k + 1) = vpt a k ++ gr (iat a k).toNat := by
  rw [vpt, vpt, List.take_succ_eq_append_getElem h, show iat a k = a[k] by simp [iat, h], vput, vput, List.map_append, List.flatten_append]
  rw [List.map_cons, List.map_nil, List.flatten_cons, List.flatten_nil, List.append_nil]
theorem vpt_all {a : List Int} (h : a.length = 8) : vpt a 8 = vput a := by rw [vpt, List.take_of_length_le (by omega)]
theorem vpt_zero (a : List Int) : vpt a 0 = [] := rfl
theorem vpt_le (a : List Int) : ∀ k, k ≤ a.length → (vpt a k).length ≤ 9 * k := by
  intro k
  induction k with
  | zero => intro _; simp [vpt_zero]
  | succ k ih =>
    intro hk
    have h1 := ih (by omega)
    have h2 := gr_le (iat a k).toNat
    rw [vpt_next (by omega), List.length_append]
    omega
end Go.Proofs.Ytncjobhpiohkkaa
namespace Go.Proofs.Ytncjobhpiohkkaa
open Go.RowKit

structure Ed where
  dev : Int
  num : Int
  seen : List Int
  kind : Int
  con : ByteArray
  fld : ByteArray
  val : ByteArray
  time : Int
theorem Ed.same {a b : Ed} (h1 : a.dev = b.dev) (h2 : a.num = b.num) (h3 : a.seen = b.seen) (h4 : a.kind = b.kind) (h5 : a.con = b.con) (h6 : a.fld = b.fld) (h7 : a.val = b.val) (h8 : a.time = b.time) : a = b := by
  cases a; cases b; simp_all
instance : DecidableEq Ed := fun a b =>
  if h : a.dev = b.dev ∧ a.num = b.num ∧ a.seen = b.seen ∧ a.kind = b.kind ∧ a.con = b.con ∧ a.fld = b.fld ∧ a.val = b.val ∧ a.time = b.time then
    .isTrue (Ed.same h.1 h.2.1 h.2.2.1 h.2.2.2.1 h.2.2.2.2.1 h.2.2.2.2.2.1 h.2.2.2.2.2.2.1 h.2.2.2.2.2.2.2)
  else .isFalse fun e => h (by subst e; simp)
/-- Its cells in memory. -/
def Ed.cells (e : Ed) : List Value := [.int .i64 e.dev, .int .i64 e.num] ++ (i64v e.seen ++ [.int .i64 e.kind, .string e.con, .string e.fld, .string e.val, .int .i64 e.time])

def nmB (b : UInt8) : Bool := decide (33 ≤ b.toNat) && decide (b.toNat ≤ 126)
def nm (s : ByteArray) : Bool := decide (1 ≤ s.size) && decide (s.size ≤ 40) && s.data.toList.all nmB
def nxt (d n : Int) (s : List Int) : Bool := decide (0 ≤ d ∧ d < 8 ∧ 1 ≤ n ∧ n ≤ 1099511627776) && vgood s && decide (iat s d.toNat = n - 1)
def tsays (k : Int) (f v : ByteArray) : Bool := if k = 1 then nm f && decide (v.size ≤ 200) else if k = 2 then decide (f.size = 0) && decide (v.size = 0) else false
def Ed.good (e : Ed) : Bool := nxt e.dev e.num e.seen && decide (0 ≤ e.time ∧ e.time ≤ 1099511627776) && nm e.con && tsays e.kind e.fld e.val
def txt (s : ByteArray) : List UInt8 := gr s.size ++ s.data.toList
def Ed.raw (e : Ed) : List UInt8 := gr e.dev.toNat ++ (gr e.num.toNat ++ (vput e.seen ++ (gr e.kind.toNat ++ (gr e.time.toNat ++ (txt e.con ++ (txt e.fld ++ txt e.val))))))
def Ed.put (e : Ed) : List UInt8 := if e.good = true then e.raw else []
def eover (a b : Ed) : Bool := decide (b.kind = 1) && vhas a.seen b.dev b.num && decide (a.con = b.con) && (decide (a.kind = 2) || decide (a.kind = 1) && decide (a.fld = b.fld))
def eless (a b : Ed) : Bool := if a.time = b.time then (if a.dev = b.dev then decide (a.num < b.num) else decide (a.dev < b.dev)) else decide (a.time < b.time)
/-- More than the laws ask of. -/
def elong (e : Ed) : Bool := decide (60 < e.con.size) || decide (60 < e.fld.size) || decide (250 < e.val.size)

theorem nm_take {l : List UInt8} {k : Nat} {b : UInt8} (h : (l.take k).all nmB = true) (hb : l[k]? = some b) (hp : nmB b = true) : (l.take (k + 1)).all nmB = true := by
  rw [List.take_add_one, hb, List.all_append, h]; simp [hp]
theorem nm_no {l : List UInt8} {k : Nat} {b : UInt8} (hb : l[k]? = some b) (hp : nmB b = false) : l.all nmB = false := by
  rw [List.all_eq_false]
  exact ⟨b, List.mem_of_getElem? hb, by simp [hp]⟩
/-- What a good one has. -/
structure Fine (e : Ed) : Prop where
  dev : 0 ≤ e.dev ∧ e.dev < 8
  num : 1 ≤ e.num ∧ e.num ≤ 1099511627776
  seen : vgood e.seen = true
  prev : iat e.seen e.dev.toNat = e.num - 1
  time : 0 ≤ e.time ∧ e.time ≤ 1099511627776
  con : nm e.con = true
  kind : e.kind = 1 ∨ e.kind = 2
  fld : e.fld.size ≤ 40
  val : e.val.size ≤ 200
theorem nm_size {s : ByteArray} (h : nm s = true) : 1 ≤ s.size ∧ s.size ≤ 40 := by
  simp only [nm, Bool.and_eq_true, decide_eq_true_eq] at h
  exact h.1
theorem Ed.fine {e : Ed} (h : e.good = true) : Fine e := by
  simp only [Ed.good, nxt, Bool.and_eq_true, decide_eq_true_eq] at h
  obtain ⟨⟨⟨⟨⟨h1, h2⟩, h3⟩, h4⟩, h5⟩, h6⟩ := h
  have hk : e.kind = 1 ∨ e.kind = 2 := by
    unfold tsays at h6
    by_cases k1 : e.kind = 1
    · exact .inl k1
    · by_cases k2 : e.kind = 2
      · exact .inr k2
      · rw [if_neg k1, if_neg k2] at h6; exact absurd h6 Bool.false_ne_true
  have hf : e.fld.size ≤ 40 ∧ e.val.size ≤ 200 := by
    unfold tsays at h6
    rcases hk with k1 | k2
    · rw [if_pos k1] at h6
      simp only [Bool.and_eq_true, decide_eq_true_eq] at h6
      exact ⟨(nm_size h6.1).2, h6.2⟩
    · rw [if_neg (by omega), if_pos k2] at h6
      simp only [Bool.and_eq_true, decide_eq_true_eq] at h6
      omega
  exact ⟨⟨h1.1, h1.2.1⟩, ⟨h1.2.2.1, h1.2.2.2⟩, h2, h3, h4, h5, hk, hf.1, hf.2⟩
/-! What follows of these. -/
theorem over_own {a : Ed} (h : a.good = true) : eover a a = false := by
  have f := Ed.fine h
  have : vhas a.seen a.dev a.num = false := by
    rw [vhas, decide_eq_false_iff_not]
    have := f.prev
    omega
  simp [eover, this]
theorem less_own (a : Ed) : eless a a = false := by simp [eless]
theorem less_two (a b : Ed) : (eless a b && eless b a) = false := by
  rw [eless, eless]
  by_cases h1 : a.time = b.time
  · rw [if_pos h1, if_pos h1.symm]
    by_cases h2 : a.dev = b.dev
    · rw [if_pos h2, if_pos h2.symm, ← Bool.decide_and, decide_eq_false_iff_not]; omega
    · rw [if_neg h2, if_neg (fun e => h2 e.symm), ← Bool.decide_and, decide_eq_false_iff_not]; omega
  · rw [if_neg h1, if_neg (fun e => h1 e.symm), ← Bool.decide_and, decide_eq_false_iff_not]; omega
theorem less_iff (a b : Ed) : eless a b = true ↔ a.time < b.time ∨ a.time = b.time ∧ (a.dev < b.dev ∨ a.dev = b.dev ∧ a.num < b.num) := by
  rw [eless]
  split
  · split
    · rw [decide_eq_true_iff]; omega
    · rw [decide_eq_true_iff]; omega
  · rw [decide_eq_true_iff]; omega
theorem less_three {a b c : Ed} (h1 : eless a b = true) (h2 : eless b c = true) : eless a c = true := by
  rw [less_iff] at *; omega
theorem over_not {a b : Ed} (h : vhas a.seen b.dev b.num = false) : eover a b = false := by simp [eover, h]
theorem over_yes {a b : Ed} (ha : a.good = true) (hb : b.kind = 1) (h : vhas a.seen b.dev b.num = true) : eover a b = (decide (a.con = b.con) && (decide (a.kind = 2) || decide (a.fld = b.fld))) := by
  have f := Ed.fine ha
  rw [eover, h, hb]
  rcases f.kind with k | k <;> simp [k]
end Go.Proofs.Ytncjobhpiohkkaa
namespace Go.Proofs.Ytncjobhpiohkkaa
open Go.RowKit

/-! Sorted rows. -/
section
variable {α : Type} {lt : α → α → Bool}
/-- Before itself no one is; ahead of what is ahead is ahead. -/
structure Strict (lt : α → α → Bool) : Prop where
  irr : ∀ a, lt a a = false
  tr : ∀ a b c, lt a b = true → lt b c = true → lt a c = true
theorem Strict.asy (h : Strict lt) {a b : α} (h1 : lt a b = true) (h2 : lt b a = true) : False := by
  have := h.tr a b a h1 h2
  rw [h.irr] at this; exact absurd this (by simp)
theorem sorted_ext (h : Strict lt) : ∀ {l m : List α}, l.Pairwise (fun a b => lt a b = true) → m.Pairwise (fun a b => lt a b = true) → (∀ x, x ∈ l ↔ x ∈ m) → l = m
  | [], [], _, _, _ => rfl
  | [], y :: m, _, _, hm => absurd ((hm y).2 (by simp)) (by simp)
  | x :: l, [], _, _, hm => absurd ((hm x).1 (by simp)) (by simp)
  | x :: l, y :: m, hl, hk, hm => by
    rw [List.pairwise_cons] at hl hk
    have hxy : x = y := by
      rcases List.mem_cons.1 ((hm x).1 (by simp)) with h1 | h1
      · exact h1
      · rcases List.mem_cons.1 ((hm y).2 (by simp)) with h2 | h2
        · exact h2.symm
        · exact (h.asy (hl.1 y h2) (hk.1 x h1)).elim
    subst hxy
    congr 1
    refine sorted_ext h hl.2 hk.2 fun z => ?_
    have hz := hm z
    simp only [List.mem_cons] at hz
    constructor
    · intro h1
      rcases hz.1 (.inr h1) with h2 | h2
      · subst h2
        have := hl.1 z h1
        rw [h.irr] at this; exact absurd this (by simp)
      · exact h2
    · intro h1
      rcases hz.2 (.inr h1) with h2 | h2
      · subst h2
        have := hk.1 z h1
        rw [h.irr] at this; exact absurd this (by simp)
      · exact h2
/-- Put where it belongs. -/
def ins (lt : α → α → Bool) (e : α) (l : List α) : List α := l.takeWhile (fun x => lt x e) ++ e :: l.dropWhile (fun x => lt x e)
theorem mem_ins {e x : α} {l : List α} : x ∈ ins lt e l ↔ x = e ∨ x ∈ l := by
  have h : x ∈ l.takeWhile (fun x => lt x e) ++ l.dropWhile (fun x => lt x e) ↔ x ∈ l := by rw [List.takeWhile_append_dropWhile]
  rw [List.mem_append] at h
  rw [ins, List.mem_append, List.mem_cons, ← h]
  constructor
  · rintro (h1 | h1 | h1)
    · exact .inr (.inl h1)
    · exact .inl h1
    · exact .inr (.inr h1)
  · rintro (h1 | h1 | h1)
    · exact .inr (.inl h1)
    · exact .inl h1
    · exact .inr (.inr h1)
theorem ins_len {e : α} {l : List α} : (ins lt e l).length = l.length + 1 := by
  have h := congrArg List.length (List.takeWhile_append_dropWhile (p := fun x => lt x e) (l := l))
  rw [List.length_append] at h
  rw [ins, List.length_append, List.length_cons]; omega
theorem ins_sorted (h : Strict lt) {e : α} : ∀ {l : List α}, l.Pairwise (fun a b => lt a b = true) → (∀ x ∈ l, lt x e = true ∨ lt e x = true) → (ins lt e l).Pairwise (fun a b => lt a b = true)
  | [], _, _ => by simp [ins]
  | x :: l, hl, he => by
    rw [List.pairwise_cons] at hl
    by_cases hx : lt x e = true
    · have ih := ins_sorted h hl.2 (fun y hy => he y (by simp [hy]))
      have e1 : ins lt e (x :: l) = x :: ins lt e l := by simp [ins, hx]
      rw [e1, List.pairwise_cons]
      refine ⟨fun y hy => ?_, ih⟩
      rcases mem_ins.1 hy with rfl | hy
      · exact hx
      · exact hl.1 y hy
    · have hex : lt e x = true := (he x (by simp)).resolve_left hx
      have e1 : ins lt e (x :: l) = e :: x :: l := by simp [ins, hx]
      rw [e1, List.pairwise_cons]
      refine ⟨fun y hy => ?_, List.pairwise_cons.2 hl⟩
      rcases List.mem_cons.1 hy with rfl | hy
      · exact hex
      · exact h.tr _ _ _ hex (hl.1 y hy)
theorem sorted_nodup (h : Strict lt) {l : List α} (hl : l.Pairwise (fun a b => lt a b = true)) : l.Nodup :=
  hl.imp fun {a b} hab e => by subst e; rw [h.irr] at hab; exact absurd hab (by simp)
end

/-! Books. -/
def elt (a b : Ed) : Bool := decide (a.dev < b.dev ∨ a.dev = b.dev ∧ a.num < b.num)
theorem elt_strict : Strict elt := ⟨fun a => by rw [elt, decide_eq_false_iff_not]; omega, fun _ _ _ h1 h2 => by rw [elt, decide_eq_true_iff] at *; omega⟩
theorem eless_strict : Strict eless := ⟨less_own, fun _ _ _ h1 h2 => less_three h1 h2⟩
def sdot (a b : Ed) : Prop := a.dev = b.dev ∧ a.num = b.num
instance (a b : Ed) : Decidable (sdot a b) := by unfold sdot; exact inferInstance
theorem elt_tot {a b : Ed} (h : ¬ sdot a b) : elt a b = true ∨ elt b a = true := by
  rw [sdot] at h
  rw [elt, elt, decide_eq_true_iff, decide_eq_true_iff]; omega
theorem eless_tot {a b : Ed} (h : ¬ sdot a b) : eless a b = true ∨ eless b a = true := by
  rw [sdot] at h
  rw [less_iff, less_iff]; omega
theorem elt_apart {a b : Ed} (h : elt a b = true) : ¬ sdot a b := by
  rw [elt, decide_eq_true_iff] at h
  rw [sdot]; omega
/-- A book: edits that may be, by device and number, at most MaxOps. -/
structure BGood (L : List Ed) : Prop where
  good : ∀ x ∈ L, x.good = true ∧ x.seen.length = 8
  sorted : L.Pairwise (fun a b => elt a b = true)
  few : L.length ≤ 500
theorem BGood.nil : BGood [] := ⟨fun x h => absurd h (by simp), List.Pairwise.nil, by simp⟩
theorem BGood.one {L : List Ed} (h : BGood L) {x y : Ed} (hx : x ∈ L) (hy : y ∈ L) (hd : sdot x y) : x = y := by
  have hp := h.sorted
  clear h
  induction L with
  | nil => exact absurd hx (by simp)
  | cons z l ih =>
    rw [List.pairwise_cons] at hp
    rcases List.mem_cons.1 hx with h1 | h1
    · rcases List.mem_cons.1 hy with h2 | h2
      · rw [h1, h2]
      · exact absurd (h1 ▸ hd) (elt_apart (hp.1 y h2))
    · rcases List.mem_cons.1 hy with h2 | h2
      · have hd' : sdot y x := ⟨hd.1.symm, hd.2.symm⟩
        exact absurd (h2 ▸ hd') (elt_apart (hp.1 x h1))
      · exact ih h1 h2 hp.2
/-- One put in: the book then, and what is answered. -/
def badd (L : List Ed) (e : Ed) : List Ed × Int :=
  if e.good = true then (if e ∈ L then (L, 0) else if ∃ x ∈ L, sdot x e then (L, 10) else if 500 ≤ L.length then (L, 2) else (ins elt e L, 0)) else (L, 1)
theorem badd_good {L : List Ed} {e : Ed} (h : BGood L) (he : e.seen.length = 8) : BGood (badd L e).1 := by
  rw [badd]
  split
  · rename_i hg
    split
    · exact h
    · split
      · exact h
      · rename_i hn
        split
        · exact h
        · rename_i hf
          refine ⟨fun x hx => ?_, ins_sorted elt_strict h.sorted (fun x hx => elt_tot fun hd => hn ⟨x, hx, hd⟩), by rw [ins_len]; omega⟩
          rcases mem_ins.1 hx with rfl | hx
          · exact ⟨hg, he⟩
          · exact h.good x hx
  · exact h
theorem mem_badd {L : List Ed} {e x : Ed} : x ∈ (badd L e).1 ↔ x ∈ L ∨ ((badd L e).2 = 0 ∧ x = e) := by
  rw [badd]
  split
  · split
    · rename_i hm
      exact ⟨fun h => .inl h, fun h => h.elim id fun h => h.2 ▸ hm⟩
    · split
      · exact ⟨fun h => .inl h, fun h => h.elim id fun h => absurd h.1 (by simp)⟩
      · split
        · exact ⟨fun h => .inl h, fun h => h.elim id fun h => absurd h.1 (by simp)⟩
        · rw [mem_ins]
          exact ⟨fun h => h.elim (fun h => .inr ⟨rfl, h⟩) .inl, fun h => h.elim .inr fun h => .inl h.2⟩
  · exact ⟨fun h => .inl h, fun h => h.elim id fun h => absurd h.1 (by simp)⟩
theorem badd_len {L : List Ed} {e : Ed} : L.length ≤ (badd L e).1.length ∧ (badd L e).1.length ≤ L.length + 1 := by
  rw [badd]
  repeat' split
  all_goals first | exact ⟨Nat.le_refl _, Nat.le_succ _⟩ | (rw [ins_len]; omega)
/-- Where no two of one number are unlike and there is room, it is there. -/
theorem badd_yes {L : List Ed} {e : Ed} (hg : e.good = true) (hc : ∀ x ∈ L, sdot x e → x = e) (hf : L.length < 500) : (badd L e).2 = 0 := by
  rw [badd, if_pos hg]
  split
  · rfl
  · rename_i hn
    rw [if_neg (fun ⟨x, hx, hd⟩ => hn (hc x hx hd ▸ hx)), if_neg (by omega)]
theorem badd_err {L : List Ed} {e : Ed} (h : (badd L e).2 ≠ 0) : (badd L e).1 = L := by
  rw [badd] at h ⊢
  split
  · split
    · rfl
    · split
      · rfl
      · split
        · rfl
        · rename_i h1 h2 h3 h4
          rw [if_pos h1, if_neg h2, if_neg h3, if_neg h4] at h
          exact absurd rfl h
  · rfl
def badds (L : List Ed) (es : List Ed) : List Ed := es.foldl (fun L e => (badd L e).1) L
theorem badds_good {L : List Ed} (h : BGood L) : ∀ {es : List Ed}, (∀ e ∈ es, e.seen.length = 8) → BGood (badds L es) := by
  intro es
  induction es generalizing L with
  | nil => intro _; exact h
  | cons e es ih =>
    intro he
    exact ih (badd_good h (he e (by simp))) fun x hx => he x (by simp [hx])
theorem badds_app (L l m : List Ed) : badds L (l ++ m) = badds (badds L l) m := by rw [badds, badds, badds, List.foldl_append]
/-- Edits of which no two of one number are unlike, in whatever order: all that may be are there. -/
theorem mem_badds {es : List Ed} : ∀ {L : List Ed}, (∀ x ∈ L ++ es, ∀ y ∈ L ++ es, sdot x y → x = y) → L.length + es.length ≤ 500 → ∀ x, x ∈ badds L es ↔ x ∈ L ∨ (x ∈ es ∧ x.good = true) := by
  induction es with
  | nil => intro L _ _ x; simp [badds]
  | cons e es ih =>
    intro L hc hf x
    simp only [List.length_cons] at hf
    have hl := badd_len (L := L) (e := e)
    have hsub : ∀ y ∈ (badd L e).1 ++ es, y ∈ L ++ e :: es := by
      intro y hy
      rcases List.mem_append.1 hy with hy | hy
      · rcases mem_badd.1 hy with hy | hy
        · simp [hy]
        · simp [hy.2]
      · simp [hy]
    have h1 := ih (L := (badd L e).1) (fun x hx y hy => hc x (hsub x hx) y (hsub y hy)) (by omega) x
    rw [show badds L (e :: es) = badds (badd L e).1 es from rfl, h1, mem_badd]
    by_cases hg : e.good = true
    · have h0 := badd_yes (L := L) hg (fun y hy hd => hc y (by simp [hy]) e (by simp) hd) (by omega)
      rw [h0]
      simp only [true_and, List.mem_cons]
      constructor
      · rintro ((h | rfl) | h)
        · exact .inl h
        · exact .inr ⟨.inl rfl, hg⟩
        · exact .inr ⟨.inr h.1, h.2⟩
      · rintro (h | ⟨rfl | h, h2⟩)
        · exact .inl (.inl h)
        · exact .inl (.inr rfl)
        · exact .inr ⟨h, h2⟩
    · have h0 : (badd L e).2 = 1 := by rw [badd, if_neg hg]
      rw [h0]
      simp only [List.mem_cons]
      constructor
      · rintro ((h | h) | h)
        · exact .inl h
        · exact absurd h.1 (by simp)
        · exact .inr ⟨.inr h.1, h.2⟩
      · rintro (h | ⟨rfl | h, h2⟩)
        · exact .inl (.inl h)
        · exact absurd h2 hg
        · exact .inr ⟨h, h2⟩
/-- Two books with the same edits are the same. -/
theorem book_ext {L M : List Ed} (hL : BGood L) (hM : BGood M) (h : ∀ x, x ∈ L ↔ x ∈ M) : L = M := sorted_ext elt_strict hL.sorted hM.sorted h
end Go.Proofs.Ytncjobhpiohkkaa
namespace Go.Proofs.Ytncjobhpiohkkaa
open Go.RowKit

/-! Sorting by putting in. -/
section
variable {α : Type} {lt : α → α → Bool}
def isorts (lt : α → α → Bool) (r l : List α) : List α := l.foldl (fun r x => ins lt x r) r
theorem mem_isorts {l : List α} {x : α} : ∀ {r : List α}, x ∈ isorts lt r l ↔ x ∈ r ∨ x ∈ l := by
  induction l with
  | nil => intro r; simp [isorts]
  | cons y l ih =>
    intro r
    rw [show isorts lt r (y :: l) = isorts lt (ins lt y r) l from rfl, ih, mem_ins, List.mem_cons]
    constructor
    · rintro ((h | h) | h)
      · exact .inr (.inl h)
      · exact .inl h
      · exact .inr (.inr h)
    · rintro (h | h | h)
      · exact .inl (.inr h)
      · exact .inl (.inl h)
      · exact .inr h
theorem isorts_sorted (h : Strict lt) {l : List α} : ∀ {r : List α}, r.Pairwise (fun a b => lt a b = true) → l.Pairwise (fun a b => lt a b = true ∨ lt b a = true) → (∀ x ∈ r, ∀ y ∈ l, lt x y = true ∨ lt y x = true) →
    (isorts lt r l).Pairwise (fun a b => lt a b = true) := by
  induction l with
  | nil => intro r hr _ _; exact hr
  | cons y l ih =>
    intro r hr hl hx
    rw [List.pairwise_cons] at hl
    refine ih (ins_sorted h hr fun x hxr => hx x hxr y (by simp)) hl.2 fun x hxr z hz => ?_
    rcases mem_ins.1 hxr with rfl | hxr
    · exact hl.1 z hz
    · exact hx x hxr z (by simp [hz])
theorem isorts_len {l : List α} : ∀ {r : List α}, (isorts lt r l).length = r.length + l.length := by
  induction l with
  | nil => intro r; rfl
  | cons y l ih => intro r; rw [show isorts lt r (y :: l) = isorts lt (ins lt y r) l from rfl, ih, ins_len, List.length_cons]; omega
/-- Each once. -/
def insU [DecidableEq α] (lt : α → α → Bool) (e : α) (l : List α) : List α := if e ∈ l then l else ins lt e l
def usorts [DecidableEq α] (lt : α → α → Bool) (r l : List α) : List α := l.foldl (fun r x => insU lt x r) r
theorem mem_insU [DecidableEq α] {e x : α} {l : List α} : x ∈ insU lt e l ↔ x = e ∨ x ∈ l := by
  rw [insU]
  split
  · rename_i h
    exact ⟨.inr, fun h2 => h2.elim (fun e => e ▸ h) id⟩
  · exact mem_ins
theorem mem_usorts [DecidableEq α] {l : List α} {x : α} : ∀ {r : List α}, x ∈ usorts lt r l ↔ x ∈ r ∨ x ∈ l := by
  induction l with
  | nil => intro r; simp [usorts]
  | cons y l ih =>
    intro r
    rw [show usorts lt r (y :: l) = usorts lt (insU lt y r) l from rfl, ih, mem_insU, List.mem_cons]
    constructor
    · rintro ((h | h) | h)
      · exact .inr (.inl h)
      · exact .inl h
      · exact .inr (.inr h)
    · rintro (h | h | h)
      · exact .inl (.inr h)
      · exact .inl (.inl h)
      · exact .inr h
theorem usorts_sorted [DecidableEq α] (h : Strict lt) (ht : ∀ a b : α, a ≠ b → lt a b = true ∨ lt b a = true) {l : List α} : ∀ {r : List α}, r.Pairwise (fun a b => lt a b = true) → (usorts lt r l).Pairwise (fun a b => lt a b = true) := by
  induction l with
  | nil => intro r hr; exact hr
  | cons y l ih =>
    intro r hr
    refine ih ?_
    show (insU lt y r).Pairwise _
    unfold insU
    split
    · exact hr
    · rename_i hn
      exact ins_sorted h hr fun x hx => ht x y fun e => hn (e ▸ hx)
end
/-! Texts in order. -/
def blt (a b : List UInt8) : Bool := Op.bytesLess a b
theorem blt_irr : ∀ a, blt a a = false
  | [] => rfl
  | x :: a => by
    have := blt_irr a
    simp only [blt] at this ⊢
    simp [Op.bytesLess, this]
theorem blt_cons (x y : UInt8) (a b : List UInt8) : blt (x :: a) (y :: b) = true ↔ x < y ∨ x = y ∧ blt a b = true := by simp [blt, Op.bytesLess]
theorem blt_tr : ∀ a b c, blt a b = true → blt b c = true → blt a c = true
  | a, b, [], _, h2 => by cases b <;> simp [blt, Op.bytesLess] at h2
  | [], b, z :: c, _, _ => by simp [blt, Op.bytesLess]
  | x :: a, [], z :: c, h1, _ => by simp [blt, Op.bytesLess] at h1
  | x :: a, y :: b, z :: c, h1, h2 => by
    rw [blt_cons] at h1 h2 ⊢
    simp only [UInt8.lt_iff_toNat_lt] at *
    rcases h1 with h1 | ⟨rfl, h1⟩
    · rcases h2 with h2 | ⟨rfl, h2⟩
      · exact .inl (by omega)
      · exact .inl h1
    · rcases h2 with h2 | ⟨rfl, h2⟩
      · exact .inl h2
      · exact .inr ⟨rfl, blt_tr a b c h1 h2⟩
theorem blt_tot : ∀ a b : List UInt8, a ≠ b → blt a b = true ∨ blt b a = true
  | [], [], h => absurd rfl h
  | [], y :: b, _ => .inl (by simp [blt, Op.bytesLess])
  | x :: a, [], _ => .inr (by simp [blt, Op.bytesLess])
  | x :: a, y :: b, h => by
    rw [blt_cons, blt_cons]
    simp only [UInt8.lt_iff_toNat_lt]
    by_cases hxy : x = y
    · subst hxy
      rcases blt_tot a b (fun e => h (by rw [e])) with h1 | h1
      · exact .inl (.inr ⟨rfl, h1⟩)
      · exact .inr (.inr ⟨rfl, h1⟩)
    · have : x.toNat ≠ y.toNat := fun e => hxy (UInt8.toNat_inj.1 e)
      rcases Nat.lt_or_gt_of_ne this with h1 | h1
      · exact .inl (.inl h1)
      · exact .inr (.inl h1)
def tlt (a b : ByteArray) : Bool := blt a.toList b.toList
theorem tlt_strict : Strict tlt := ⟨fun a => blt_irr a.toList, fun a b c h1 h2 => blt_tr a.toList b.toList c.toList h1 h2⟩
theorem tlt_tot (a b : ByteArray) (h : a ≠ b) : tlt a b = true ∨ tlt b a = true :=
  blt_tot _ _ fun e => h (by
    rw [ByteArray.toList_eq, ByteArray.toList_eq] at e
    exact ByteArray.ext (Array.toList_inj.1 e))

/-! What a book tells. -/
def isLive (L : List Ed) (x : Ed) : Bool := decide (x.kind = 1) && L.all fun y => !eover y x
def blive (L : List Ed) : List Ed := isorts eless [] (L.filter (isLive L))
theorem isLive_iff {L : List Ed} {x : Ed} : isLive L x = true ↔ x.kind = 1 ∧ ∀ y ∈ L, eover y x = false := by
  simp [isLive]
theorem mem_blive {L : List Ed} {x : Ed} : x ∈ blive L ↔ x ∈ L ∧ isLive L x = true := by
  rw [blive, mem_isorts, List.mem_filter]; simp
theorem blive_sorted {L : List Ed} (h : BGood L) : (blive L).Pairwise (fun a b => eless a b = true) := by
  refine isorts_sorted eless_strict List.Pairwise.nil ?_ (fun x hx => absurd hx (by simp))
  exact (h.sorted.filter _).imp fun hab => eless_tot (elt_apart hab)
def ball (L : List Ed) (c f : ByteArray) : List ByteArray := ((blive L).filter fun x => decide (x.con = c) && decide (x.fld = f)).map (·.val)
def bcons (L : List Ed) : List ByteArray := usorts tlt [] ((blive L).map (·.con))
def bflds (L : List Ed) (c : ByteArray) : List ByteArray := usorts tlt [] (((blive L).filter fun x => decide (x.con = c)).map (·.fld))
theorem mem_bcons {L : List Ed} {c : ByteArray} : c ∈ bcons L ↔ ∃ x, (x ∈ L ∧ isLive L x = true) ∧ x.con = c := by
  rw [bcons, mem_usorts, List.mem_map]
  simp only [List.not_mem_nil, false_or, mem_blive]
theorem mem_bflds {L : List Ed} {c f : ByteArray} : f ∈ bflds L c ↔ ∃ x, ((x ∈ L ∧ isLive L x = true) ∧ x.con = c) ∧ x.fld = f := by
  rw [bflds, mem_usorts, List.mem_map]
  simp only [List.not_mem_nil, false_or, List.mem_filter, mem_blive, decide_eq_true_eq]
theorem bcons_sorted (L : List Ed) : (bcons L).Pairwise (fun a b => tlt a b = true) := usorts_sorted tlt_strict tlt_tot List.Pairwise.nil
theorem bflds_sorted (L : List Ed) (c : ByteArray) : (bflds L c).Pairwise (fun a b => tlt a b = true) := usorts_sorted tlt_strict tlt_tot List.Pairwise.nil
/-- Any rising row of the live ones is it; of the contacts, of the fields likewise. -/
theorem blive_is {L l : List Ed} (h : BGood L) (hs : l.Pairwise (fun a b => eless a b = true)) (hm : ∀ x, x ∈ l ↔ x ∈ L ∧ isLive L x = true) : l = blive L :=
  sorted_ext eless_strict hs (blive_sorted h) fun x => (hm x).trans mem_blive.symm
theorem bcons_is {L : List Ed} {l : List ByteArray} (hs : l.Pairwise (fun a b => tlt a b = true)) (hm : ∀ c, c ∈ l ↔ ∃ x, (x ∈ L ∧ isLive L x = true) ∧ x.con = c) : l = bcons L :=
  sorted_ext tlt_strict hs (bcons_sorted L) fun x => (hm x).trans mem_bcons.symm
theorem bflds_is {L : List Ed} {c : ByteArray} {l : List ByteArray} (hs : l.Pairwise (fun a b => tlt a b = true)) (hm : ∀ f, f ∈ l ↔ ∃ x, ((x ∈ L ∧ isLive L x = true) ∧ x.con = c) ∧ x.fld = f) : l = bflds L c :=
  sorted_ext tlt_strict hs (bflds_sorted L c) fun x => (hm x).trans mem_bflds.symm

/-! How far it is without a gap. -/
def bstep (v : List Int) (x : Ed) : List Int := if x.num = iat v x.dev.toNat + 1 then v.set x.dev.toNat x.num else v
def bvec (L : List Ed) : List Int := L.foldl bstep (List.replicate 8 0)
/-- What is told of the edits P: those up to it are there, the next one is not. -/
structure Upto (P : List Ed) (v : List Int) : Prop where
  len : v.length = 8
  rng : ∀ x ∈ P, 0 ≤ x.dev ∧ x.dev < 8
  pos : ∀ d, d < 8 → 0 ≤ iat v d
  all : ∀ d, d < 8 → ∀ n : Int, 1 ≤ n → n ≤ iat v d → ∃ x ∈ P, x.dev = (d : Int) ∧ x.num = n
  gap : ∀ x ∈ P, x.num ≠ iat v x.dev.toNat + 1
theorem Upto.step {P : List Ed} {v : List Int} {x : Ed} (h : Upto P v) (hx : 0 ≤ x.dev ∧ x.dev < 8) (hlt : ∀ y ∈ P, elt y x = true) : Upto (P ++ [x]) (bstep v x) := by
  have hk : x.dev.toNat < v.length := by rw [h.len]; omega
  have hr : ∀ y ∈ P ++ [x], 0 ≤ y.dev ∧ y.dev < 8 := fun y hy => (List.mem_append.1 hy).elim (h.rng y) fun hy => by rw [List.mem_singleton] at hy; rw [hy]; exact hx
  unfold bstep
  split
  · rename_i hn
    have hat : ∀ d, iat (v.set x.dev.toNat x.num) d = if d = x.dev.toNat then x.num else iat v d := by
      intro d
      split
      · rename_i e; subst e; exact iat_set_same _ _ _ hk
      · rename_i e; exact iat_set_other _ _ _ _ (fun e2 => e e2.symm)
    have hp := h.pos x.dev.toNat (by omega)
    refine ⟨by rw [List.length_set, h.len], hr, fun d hd => ?_, fun d hd n h1 h2 => ?_, fun y hy => ?_⟩
    · rw [hat]; split
      · omega
      · exact h.pos d hd
    · rw [hat] at h2
      split at h2
      · rename_i e; subst e
        by_cases hl : n ≤ iat v x.dev.toNat
        · obtain ⟨y, hy, h3⟩ := h.all _ hd n h1 hl
          exact ⟨y, by simp [hy], h3⟩
        · exact ⟨x, by simp, by omega, by omega⟩
      · obtain ⟨y, hy, h3⟩ := h.all _ hd n h1 h2
        exact ⟨y, by simp [hy], h3⟩
    · rw [hat]
      rcases List.mem_append.1 hy with hy | hy
      · have h3 := hlt y hy
        rw [elt, decide_eq_true_iff] at h3
        split
        · rename_i e
          intro h4
          have h5 := h.gap y hy
          rw [e] at h5
          have : y.dev.toNat = x.dev.toNat := e
          have := h.rng y hy
          omega
        · exact h.gap y hy
      · rw [List.mem_singleton] at hy
        subst hy
        rw [if_pos rfl]; omega
  · rename_i hn
    refine ⟨h.len, hr, h.pos, fun d hd n h1 h2 => ?_, fun y hy => ?_⟩
    · obtain ⟨y, hy, h3⟩ := h.all _ hd n h1 h2
      exact ⟨y, by simp [hy], h3⟩
    · rcases List.mem_append.1 hy with hy | hy
      · exact h.gap y hy
      · rw [List.mem_singleton] at hy
        subst hy; exact hn
theorem upto_fold : ∀ {Q P : List Ed} {v : List Int}, Upto P v → (P ++ Q).Pairwise (fun a b => elt a b = true) → (∀ x ∈ Q, 0 ≤ x.dev ∧ x.dev < 8) → Upto (P ++ Q) (Q.foldl bstep v)
  | [], P, v, h, _, _ => by simpa using h
  | x :: Q, P, v, h, hp, hd => by
    have hlt : ∀ y ∈ P, elt y x = true := fun y hy => (List.pairwise_append.1 hp).2.2 y hy x (by simp)
    have h1 := upto_fold (Q := Q) (h.step (hd x (by simp)) hlt) (by simpa using hp) (fun y hy => hd y (by simp [hy]))
    simpa using h1
theorem bvec_upto {L : List Ed} (h : BGood L) : Upto L (bvec L) := by
  have h0 : Upto [] (List.replicate 8 0) := by
    have hz : ∀ d, iat (List.replicate 8 0) d = 0 := by
      intro d
      rw [iat, List.getD_eq_getElem?_getD, List.getElem?_replicate]
      split <;> rfl
    exact ⟨rfl, fun x hx => absurd hx (by simp), fun d _ => by rw [hz]; exact Int.le_refl _, fun d _ n h1 h2 => by rw [hz] at h2; omega, fun x hx => absurd hx (by simp)⟩
  have := upto_fold (Q := L) h0 (by simpa using h.sorted) (fun x hx => (Ed.fine (h.good x hx).1).dev)
  rwa [List.nil_append] at this
/-- There is one such vector alone, and it grows with the book. -/
theorem Upto.le {P Q : List Ed} {v u : List Int} (h1 : Upto P v) (h2 : Upto Q u) (hs : ∀ x ∈ P, x ∈ Q) : ∀ d, d < 8 → iat v d ≤ iat u d := by
  intro d hd
  by_cases hlt : iat u d < iat v d
  · have hp := h2.pos d hd
    obtain ⟨x, hx, h3, h4⟩ := h1.all d hd (iat u d + 1) (by omega) (by omega)
    have h5 := h2.gap x (hs x hx)
    rw [h3, Int.toNat_natCast] at h5
    exact absurd h4 h5
  · omega
theorem bvec_is {L : List Ed} (h : BGood L) {v : List Int} (hv : Upto L v) : v = bvec L := by
  have hb := bvec_upto h
  refine list_iat (by rw [hv.len, hb.len]) fun k hk => ?_
  rw [hv.len] at hk
  have h1 := hv.le hb (fun x hx => hx) k hk
  have h2 := hb.le hv (fun x hx => hx) k hk
  omega
theorem bvec_len {L : List Ed} (h : BGood L) : (bvec L).length = 8 := (bvec_upto h).len
end Go.Proofs.Ytncjobhpiohkkaa
namespace Go.Proofs.Ytncjobhpiohkkaa
open Go.RowKit

theorem blt_iff : ∀ a b : List UInt8, blt a b = true ↔ a < b
  | [], [] => by simp [blt, Op.bytesLess]
  | [], y :: b => by simp [blt, Op.bytesLess]
  | x :: a, [] => by simp [blt, Op.bytesLess]
  | x :: a, y :: b => by rw [blt_cons, blt_iff a b, List.cons_lt_cons_iff]
theorem le_blt (x y : List UInt8) : decide (x ≤ y) = !blt y x := by
  have h := blt_iff y x
  cases hb : blt y x with
  | true => exact decide_eq_false (fun hle => hle (h.1 hb))
  | false => exact decide_eq_true (fun hlt => by rw [h.2 hlt] at hb; cases hb)
theorem sort_up (l : List (List UInt8)) : (l.mergeSort fun x y => decide (x ≤ y)).Pairwise (fun x y => blt y x = false) := by
  have h := List.pairwise_mergeSort (le := fun x y : List UInt8 => decide (x ≤ y)) (fun a b c h1 h2 => by
    simp only [le_blt, Bool.not_eq_true'] at *
    cases hca : blt c a with
    | false => rfl
    | true =>
      by_cases hab : a = b
      · subst hab; rw [hca] at h2; cases h2
      · rcases blt_tot a b hab with h | h
        · have := blt_tr c a b hca h; rw [this] at h2; cases h2
        · rw [h] at h1; cases h1) (fun a b => by
    simp only [le_blt, Bool.or_eq_true, Bool.not_eq_true']
    cases hba : blt b a with
    | false => exact .inl rfl
    | true =>
      right
      cases hab : blt a b with
      | false => rfl
      | true => have := blt_tr a b a hab hba; rw [blt_irr] at this; cases this) l
  refine h.imp fun hxy => ?_
  simpa [le_blt] using hxy
theorem sort_mem (l : List (List UInt8)) (x : List UInt8) : x ∈ (l.mergeSort fun x y => decide (x ≤ y)) ↔ x ∈ l := (List.mergeSort_perm l _).mem_iff
/-- Made single. -/
theorem compact_upto (d : Array (List UInt8)) (hd : ∀ i j, i ≤ j → j < d.size → blt d[j]! d[i]! = false) : ∀ m, m ≤ d.size → (Lib.compactUpTo d m).Pairwise (fun x y => blt x y = true) ∧ (∀ x, x ∈ Lib.compactUpTo d m ↔ ∃ j, j < m ∧ d[j]! = x)
  | 0, _ => ⟨by simp [Lib.compactUpTo], fun x => by simp [Lib.compactUpTo]⟩
  | m + 1, hm => by
    obtain ⟨h1, h2⟩ := compact_upto d hd m (by omega)
    rw [Lib.compactUpTo_succ]
    by_cases hk : Lib.keeps d m = true
    · rw [if_pos hk]
      refine ⟨List.pairwise_append.2 ⟨h1, List.pairwise_singleton _ _, fun x hx y hy => ?_⟩, fun x => ?_⟩
      · rw [List.mem_singleton] at hy
        subst hy
        obtain ⟨j, hj, rfl⟩ := (h2 x).1 hx
        have hle := hd j m (by omega) (by omega)
        have hpos : 0 < m := by omega
        have hne : d[m]! ≠ d[m - 1]! := fun e => by rw [Lib.keeps_neg hpos e] at hk; cases hk
        have h3 := hd j (m - 1) (by omega) (by omega)
        have h4 := hd (m - 1) m (by omega) (by omega)
        rcases blt_tot _ _ hne with h | h
        · rw [h] at h4; cases h4
        · by_cases he : d[j]! = d[m - 1]!
          · rw [he]; exact h
          · rcases blt_tot _ _ he with h5 | h5
            · exact blt_tr _ _ _ h5 h
            · rw [h5] at h3; cases h3
      · rw [List.mem_append, h2, List.mem_singleton]
        constructor
        · rintro (⟨j, hj, rfl⟩ | rfl)
          · exact ⟨j, by omega, rfl⟩
          · exact ⟨m, by omega, rfl⟩
        · rintro ⟨j, hj, rfl⟩
          rcases Nat.lt_or_eq_of_le (Nat.le_of_lt_succ hj) with h | rfl
          · exact .inl ⟨j, h, rfl⟩
          · exact .inr rfl
    · have hk2 : Lib.keeps d m = false := by simpa using hk
      rw [if_neg hk, List.append_nil]
      refine ⟨h1, fun x => ?_⟩
      rw [h2]
      constructor
      · rintro ⟨j, hj, rfl⟩; exact ⟨j, by omega, rfl⟩
      · rintro ⟨j, hj, rfl⟩
        rcases Nat.lt_or_eq_of_le (Nat.le_of_lt_succ hj) with h | rfl
        · exact ⟨j, h, rfl⟩
        · by_cases hpos : 0 < j
          · by_cases he : d[j]! = d[j - 1]!
            · exact ⟨j - 1, by omega, he.symm⟩
            · rw [Lib.keeps_pos he] at hk2; cases hk2
          · have := Lib.keeps_lt_one d j (by omega)
            rw [this] at hk2; cases hk2
theorem compact_up (l : List (List UInt8)) : (Lib.compact (l.mergeSort fun x y => decide (x ≤ y))).Pairwise (fun x y => blt x y = true) ∧ ∀ x, x ∈ Lib.compact (l.mergeSort fun x y => decide (x ≤ y)) ↔ x ∈ l := by
  obtain ⟨s, hs⟩ : ∃ s, (l.mergeSort fun x y => decide (x ≤ y)) = s := ⟨_, rfl⟩
  have hp := sort_up l
  have hm := sort_mem l
  rw [hs] at hp hm ⊢
  have h := compact_upto s.toArray (fun i j hij hj => by
    simp only [List.size_toArray] at hj
    rcases Nat.lt_or_eq_of_le hij with h | rfl
    · have := List.pairwise_iff_getElem.1 hp i j (by omega) hj h
      simpa [getElem!_pos, hj, show i < s.length by omega] using this
    · exact blt_irr _) s.length (by simp)
  refine ⟨h.1, fun x => ?_⟩
  rw [Lib.compact, h.2, ← hm]
  constructor
  · rintro ⟨j, hj, rfl⟩
    rw [getElem!_pos s.toArray j (by simpa using hj)]
    simp
  · intro hx
    obtain ⟨j, hj, rfl⟩ := List.mem_iff_getElem.1 hx
    exact ⟨j, hj, by rw [getElem!_pos s.toArray j (by simpa using hj)]; simp⟩
end Go.Proofs.Ytncjobhpiohkkaa
namespace Go.Proofs.Ytncjobhpiohkkaa
open Go.RowKit

theorem held_more {P : Program} {ops : Array Oper} {Q : Exit → Act → World → Prop} {md : Region.Mode} {S S' : World → Prop} (h : ∀ w, S' w → S w) :
    ∀ (fuel : Nat) (listed : Array Bool) (a : Act) (w : World), wpAnyH P md ops Q S' fuel listed a w → wpAnyH P md ops Q S fuel listed a w
  | 0, _, _, _, H => H
  | fuel + 1, _, _, _, H => ⟨H.1, fun i hi => wpOp_mono (fun a' w' h' => ⟨h _ h'.1, held_more h fuel _ a' w' h'.2⟩) (H.2 i hi)⟩
end Go.Proofs.Ytncjobhpiohkkaa
namespace Go.Proofs.Ytncjobhpiohkkaa
open Go.RowKit

/-- A fact that no tactic looks into, an equation of things that can be reckoned ('contradiction' would reckon them). -/
def Vlt (p : Prop) : Prop := Unit → p
theorem Vlt.out {p : Prop} (h : Vlt p) : p := h ()
theorem vlt {p : Prop} (h : p) : Vlt p := fun _ => h
theorem Byt.take {w : World} {B : Nat} {A : Option Addr} {l : List UInt8} (h : Byt w B A l) (k : Nat) : Byt w B A (l.take k) := by
  rcases h with h | ⟨g, o, hA, hg, hc⟩
  · subst h; exact .inl (by simp)
  · refine .inr ⟨g, o, hA, hg, fun j b hj => hc j b ?_⟩
    have hjk : j < k := by
      have := (List.getElem?_eq_some_iff.1 hj).1
      simp at this; omega
    rwa [List.getElem?_take_of_lt hjk] at hj
theorem run_cut_h {P : Program} {T E : TypeId} (hT : P.underlying T = some (.slice E)) (hs : (P.info? E).map (·.size) = some 1) (A : Option Addr) (n c t : Nat) (L : Int) (hL : L = (t : Int)) (ht : t ≤ c) (w : World) :
    (Instr.slice T (.slice A n c) none (some (.int .i64 L)) none).run P w = .ok (.slice A t c) w := by
  subst hL
  obtain ⟨i, hi', hi2⟩ := Option.map_eq_some_iff.1 hs
  have he : P.elem T = E := by simp [Program.elem, hT]
  rw [run_slice_h w T A n c (by rw [he]; exact hT) .i64 _ (by omega) (by omega), he]
  cases A <;> simp [sizeOf, typeInfo, hi', hi2, sliced, Addr.add]

theorem Byt.lit_cold (w : World) (E : TypeId) (cs : Array Value) (fr : Nat × Nat) (l : List UInt8) (h : cs.toList = bv l) : Byt (w.alloc (.cells cs E fr)) (w.alloc (.cells cs E fr)).heap.size (some ⟨w.heap.size, 0, none⟩) l := by
  refine .inr ⟨w.heap.size, 0, rfl, by simp, fun j b hj => ?_⟩
  rw [Nat.zero_add, cell_of_row _ _ _ _ _ _ (heap_alloc_new w _)]
  have h1 := bv_at l j
  rw [hj, ← h] at h1
  simpa using h1
theorem run_cut_lh {P : Program} {T E : TypeId} (hT : P.underlying T = some (.slice E)) (hs : (P.info? E).map (·.size) = some 1) (A : Option Addr) (n c s t : Nat) (L H : Int) (hL : L = (s : Int)) (hH : H = (t : Int)) (hst : s ≤ t) (ht : t ≤ c) (w : World) :
    (Instr.slice T (.slice A n c) (some (.int .i64 L)) (some (.int .i64 H)) none).run P w = .ok (.slice (if c = s then A else A.map (·.add s)) (t - s) (c - s)) w := by
  subst hL hH
  obtain ⟨i, hi', hi2⟩ := Option.map_eq_some_iff.1 hs
  have he : P.elem T = E := by simp [Program.elem, hT]
  rw [run_slice_lh w T A n c (by rw [he]; exact hT) .i64 .i64 _ _ (by omega) (by omega) (by omega), he]
  simp [sizeOf, typeInfo, hi', hi2, sliced]
/-- A piece of a slice. -/
theorem Byt.cut {w : World} {B : Nat} {A : Option Addr} {l : List UInt8} (h : Byt w B A l) (s c : Nat) (hc : l.length ≤ c) : Byt w B (if c = s then A else A.map (·.add s)) (l.drop s) := by
  rcases h with h | ⟨b, o, rfl, hlt, hcell⟩
  · subst h; exact .inl (by simp)
  · by_cases ht : c = s
    · exact .inl (List.drop_eq_nil_of_le (by omega))
    · rw [if_neg ht]
      refine .inr ⟨b, o + s, by rw [Option.map_some, addr_add], hlt, fun j x hj => ?_⟩
      rw [List.getElem?_drop] at hj
      rw [Nat.add_assoc]; exact hcell _ x hj
/-- append onto bytes that have no room left: a new row. -/
theorem wp_append_grow {P : Program} (w : World) {ops : Array Oper} {rest : List Oper} {o : Oper} {a : Act} {Q : Exit → Act → World → Prop} (hgd : o.guard = none) (s x : Operand) (T : TypeId)
    (ho : o.op = .call { callee := .builtin .append, args := #[s, x], argTypes := #[T, T] }) (E : TypeId) (hT : P.underlying T = some (.slice E))
    (hI : (P.info? E).map (fun i => (i.zero, i.size, i.bytes)) = some (some (.int .u8 0), 1, 1)) (bo : Addr) (n c : Nat) (l : List UInt8) (hs : a.eval s = .slice (some bo) n c) (hl0 : l.length = n) (hb : ∀ j u, (bv l)[j]? = some u → w.cell? (bo.add j) = some u)
    (ad : Addr) (m c2 : Nat) (hx : a.eval x = .slice (some ad) m c2) (news : List UInt8) (hl : news.length = m) (hnews : ∀ j u, (bv news)[j]? = some u → w.cell? (ad.add j) = some u) (hfull : c < n + m) (hsz : n + m ≤ 140737488355328)
    (h : ∀ A' c' w', Res w' w.heap.size E A' (n + m) c' (l ++ news) → Below w.heap.size w w' → wpList P ops Q rest (a.put o.dst (.slice A' (n + m) c')) w') : wpList P ops Q (o :: rest) a w := by
  obtain ⟨i, hi, hz, h1, h2⟩ := info_parts hI
  refine wpList_append_grows w hgd s x T ho E i (.int .u8 0) 1 1 hT hi hz h1 h2 rfl (by decide) (some bo) n c (bv l) hs (fun e => by cases e) (by rw [bv_len]; omega) (fun b e j u hj => by injection e with e; subst e; exact hb j u hj) ad m c2 (bv news) hx (by rw [bv_len]; omega) hnews (bv_one _) hfull (by unfold maxLen; omega) (by omega) ?_
  intro v' w' hown hgr
  rw [← bv_app] at hown
  obtain ⟨A', c', rfl, hres⟩ := Res.of v' hown
  exact h A' c' w' hres ⟨hgr.os, hgr.tape, hgr.output, hgr.size, fun k hk => hgr.block k hk (by simp)⟩
theorem cells_at {w : World} {B : Nat} {b : Addr} {l : List UInt8} (h : Byt w B (some b) l) : ∀ j u, (bv l)[j]? = some u → w.cell? (b.add j) = some u := by
  intro j u hj
  obtain ⟨_, ad, he, hc⟩ := h.src (some b) b rfl (Nat.lt_of_le_of_lt (Nat.zero_le _) (List.getElem?_eq_some_iff.1 hj).1)
  injection he with he
  subst he
  exact hc j u hj
/-- Three new blocks. -/
theorem three_new (w : World) (a b c : Array Value) (s t u : TypeId) :
    ∃ W, ((w.alloc (.cells a s)).alloc (.cells b t)).alloc (.cells c u) = W ∧ Hid (W.heap[w.heap.size]? = some (.cells a s (0, 0))) ∧ Hid (W.heap[w.heap.size + 1]? = some (.cells b t (0, 0))) ∧ Hid (W.heap[w.heap.size + 2]? = some (.cells c u (0, 0))) ∧ Below w.heap.size w W ∧ Hid (W.heap.size = w.heap.size + 3) := by
  refine ⟨_, rfl, show _ = _ from ?_, show _ = _ from ?_, show _ = _ from ?_, (((Below.refl _ _).alloc (Nat.le_refl _) _).alloc (by simp) _).alloc (by simp; omega) _, show _ = _ by simp⟩
  · rw [Below.heap_alloc _ _ _ (by simp; omega)]; exact heap_alloc2_old _ _ _
  · rw [Below.heap_alloc _ _ _ (by simp)]; exact heap_alloc2_new _ _ _
  · have h := heap_alloc_new ((w.alloc (.cells a s)).alloc (.cells b t)) (.cells c u)
    have e : ((w.alloc (.cells a s)).alloc (.cells b t)).heap.size = w.heap.size + 2 := by simp
    rw [e] at h; exact h
/-- Words, and noughts up to n; bytes likewise. -/
def uptoW (n : Nat) (l : List Nat) : List Nat := l ++ List.replicate (n - l.length) 0
theorem uptoW_len (n : Nat) (l : List Nat) (h : l.length ≤ n) : (uptoW n l).length = n := by simp [uptoW]; omega
theorem uptoW_all (n : Nat) (l : List Nat) (h : l.length = n) : uptoW n l = l := by simp [uptoW, h]
theorem uptoW_set (n : Nat) (l : List Nat) (x : Nat) (h : l.length < n) : (uptoW n l).set l.length x = uptoW n (l ++ [x]) := by
  obtain ⟨m, hm⟩ : ∃ m, n - l.length = m + 1 := ⟨n - l.length - 1, by omega⟩
  rw [uptoW, uptoW, List.set_append_right _ _ (Nat.le_refl _), Nat.sub_self, hm, List.replicate_succ, List.set_cons_zero, List.length_append, List.append_assoc]
  congr 3
  simp; omega
theorem uptoW_at (n : Nat) (l : List Nat) (h : l.length < n) : (uptoW n l)[l.length]? = some 0 := by
  rw [uptoW, List.getElem?_append_right (Nat.le_refl _), List.getElem?_replicate, if_pos (by omega)]
def uptoB (n : Nat) (l : List UInt8) : List UInt8 := l ++ List.replicate (n - l.length) 0
theorem uptoB_all (n : Nat) (l : List UInt8) (h : l.length = n) : uptoB n l = l := by simp [uptoB, h]
theorem uptoB_len (n : Nat) (l : List UInt8) (h : l.length ≤ n) : (uptoB n l).length = n := by simp [uptoB]; omega
theorem uptoB_splice (n : Nat) (l x : List UInt8) (h : l.length + x.length ≤ n) : splice (bv (uptoB n l)) l.length (bv x) = bv (uptoB n (l ++ x)) := by
  have e : List.drop (l.length + x.length) (uptoB n l) = List.replicate (n - (l.length + x.length)) 0 := by
    rw [uptoB, List.drop_append, List.drop_of_length_le (by omega), List.nil_append, List.drop_replicate]
    congr 1; omega
  rw [splice, bv_take, bv_len]
  have e2 : List.drop (l.length + x.length) (bv (uptoB n l)) = bv (List.drop (l.length + x.length) (uptoB n l)) := by simp [bv, List.map_drop]
  have e3 : List.take l.length (uptoB n l) = l := by rw [uptoB, List.take_append_of_le_length (Nat.le_refl _), List.take_length]
  rw [e2, e, e3, uptoB, bv_app, bv_app, List.length_append, List.append_assoc]
end Go.Proofs.Ytncjobhpiohkkaa
namespace Go.Proofs.Ytncjobhpiohkkaa
open Go.RowKit

/-- One new block. -/
theorem one_new (w : World) (a : Array Value) (s : TypeId) :
    ∃ W, w.alloc (.cells a s) = W ∧ Hid (W.heap[w.heap.size]? = some (.cells a s (0, 0))) ∧ Below w.heap.size w W ∧ Hid (W.heap.size = w.heap.size + 1) :=
  ⟨_, rfl, heap_alloc_new _ _, (Below.refl _ _).alloc (Nat.le_refl _) _, show _ = _ by simp⟩
/-- Two new blocks. -/
theorem pair_new (w : World) (a b : Array Value) (s t : TypeId) :
    ∃ W, (w.alloc (.cells a s)).alloc (.cells b t) = W ∧ Hid (W.heap[w.heap.size]? = some (.cells a s (0, 0))) ∧ Hid (W.heap[w.heap.size + 1]? = some (.cells b t (0, 0))) ∧ Below w.heap.size w W ∧ Hid (W.heap.size = w.heap.size + 2) :=
  ⟨_, rfl, heap_alloc2_old _ _ _, heap_alloc2_new _ _ _, ((Below.refl _ _).alloc (Nat.le_refl _) _).alloc (by simp) _, show _ = _ by simp⟩
def slen : Value → Nat | .slice _ n _ => n | _ => 0
theorem Res.some_ {w : World} {base E n c : Nat} {A : Option Addr} {l : List UInt8} (h : Res w base E A n c l) (hn : 0 < n) : ∃ g, A = some ⟨g, 0, none⟩ := by
  rcases h.2 with ⟨_, h0⟩ | ⟨g, cap, cur, hv, _⟩
  · omega
  · injection hv with hv; exact ⟨g, hv⟩
theorem below_undrew {B : Nat} {w w' : World} (h : Below B w.drew w') : Below B w w' := ⟨h.os, h.tape, h.output, h.size, h.block⟩
theorem wpList_build_as {P : Program} {ops : Array Oper} {rest : List Oper} {o : Oper} {a : Act} {w : World} {Q : Exit → Act → World → Prop} (hg : o.guard = none) (t : TypeId) (ho : o.op = .build t #[]) (cs : Array Value) (hf : P.built t [] = some cs)
    (h : wpList P ops Q rest (a.put o.dst (.agg cs)) w) : wpList P ops Q (o :: rest) a w :=
  wpList_build hg t #[] ho (by simp [hf]) (by simpa [hf] using h)
theorem byte_cell {w : World} {g k : Nat} {l : List UInt8} {t : TypeId} {b : UInt8} (hg : w.heap[g]? = some (.cells (bv l).toArray t (0, 0))) (hb : l[k]? = some b) : w.cell? ⟨g, k, none⟩ = some (.int .u8 (b.toNat : Int)) := by
  rw [cell_of_row _ _ _ _ _ _ hg]
  simp [bv_at, hb]
theorem word_at {w : World} {g : Nat} {l : List Nat} {t : TypeId} (hg : w.heap[g]? = some (.cells (u32v l).toArray t (0, 0))) (k : Nat) (hk : k < l.length) : w.cell? ⟨g, k, none⟩ = some (.int .u32 ((natAt l k : Nat) : Int)) := by
  rw [cell_of_row _ _ _ _ _ _ hg]
  have := natAt_at (l := l) rfl hk
  simpa using this
/-- Numbers of 64 bits as the cells of a row. -/
def u64v (l : List Nat) : List Value := l.map fun (x : Nat) => Value.int .u64 (x : Int)
theorem u64v_len (l : List Nat) : (u64v l).length = l.length := by simp [u64v]
theorem u64v_at (l : List Nat) (k : Nat) : (u64v l)[k]? = l[k]?.map fun (x : Nat) => Value.int .u64 (x : Int) := by simp [u64v]
theorem u64v_set (l : List Nat) (k x : Nat) : (u64v l).set k (.int .u64 (x : Int)) = u64v (l.set k x) := by simp [u64v, List.map_set]
theorem u64v_one (l : List Nat) : ∀ u ∈ u64v l, u.oneCell' = true := by
  intro u hu
  obtain ⟨b, _, rfl⟩ := List.mem_map.1 hu
  rfl
theorem long_at {w : World} {g : Nat} {l : List Nat} {t : TypeId} (hg : w.heap[g]? = some (.cells (u64v l).toArray t (0, 0))) (k : Nat) (hk : k < l.length) : w.cell? ⟨g, k, none⟩ = some (.int .u64 ((natAt l k : Nat) : Int)) := by
  rw [cell_of_row _ _ _ _ _ _ hg]
  simp [u64v_at, natAt, List.getElem?_eq_getElem hk]
theorem world_set_cell {w : World} {g : Nat} {cs : List Value} {t : TypeId} (hg : w.heap[g]? = some (.cells cs.toArray t (0, 0))) (k : Nat) (u : Value) :
    Hid ((w.setCell ⟨g, k, none⟩ u).heap[g]? = some (.cells (cs.set k u).toArray t (0, 0))) := by
  show _ = _
  rw [heap_setCell_same w g k _ _ u hg]; simp
/-- A piece of a row of bytes. -/
theorem byt_mid {w : World} {g : Nat} {l : List UInt8} {t : TypeId} (hg : w.heap[g]? = some (.cells (bv l).toArray t (0, 0))) (k m : Nat) : Byt w w.heap.size (some ⟨g, k, none⟩) ((l.drop k).take m) := by
  refine .inr ⟨g, k, rfl, (Array.getElem?_eq_some_iff.1 hg).1, fun j b hj => ?_⟩
  have hjm : j < m := by
    have := (List.getElem?_eq_some_iff.1 hj).1
    simp at this; omega
  rw [List.getElem?_take_of_lt hjm, List.getElem?_drop] at hj
  exact byte_cell hg hj
theorem wpList_build_to {P : Program} {ops : Array Oper} {rest : List Oper} {o : Oper} {a : Act} {w : World} {Q : Exit → Act → World → Prop} (hg : o.guard = none) (t : TypeId) (parts : Array (Nat × Operand)) (ho : o.op = .build t parts) (lst : List (Nat × Value)) (hp : (parts.map fun (i, x) => (i, a.eval x)).toList = lst) (cs : Array Value) (hf : P.built t lst = some cs)
    (h : wpList P ops Q rest (a.put o.dst (.agg cs)) w) : wpList P ops Q (o :: rest) a w :=
  wpList_build hg t parts ho (by rw [hp, hf]; rfl) (by rw [hp, hf]; exact h)
theorem and26 (x : Nat) (hx : x < 18446744073709551616) : bits .and .u64 (x : Int) 67108863 = ((x % 67108864 : Nat) : Int) := by
  have h := u64_and_nat x 67108863 hx (by decide)
  rw [show ((67108863 : Nat) : Int) = 67108863 from rfl] at h
  rw [h, show (67108863 : Nat) = 2 ^ 26 - 1 by decide, Nat.and_two_pow_sub_one_eq_mod, show (2 : Nat) ^ 26 = 67108864 by decide]
theorem wrap64 (x : Nat) : IntKind.u64.wrap (x : Int) = ((x % 18446744073709551616 : Nat) : Int) := by
  simp [IntKind.wrap, IntKind.bits, IntKind.signed]
theorem range_byt {w : World} {B g o : Nat} {l : List UInt8} (h : Byt w B (some ⟨g, o, none⟩) l) : w.rangeAt g o (bv l) := by
  intro j v hj
  have := cells_at h j v hj
  rwa [addr_add] at this
theorem wd_8 : wd 8 = 8 := by decide
theorem splice_all (l m : List UInt8) (h : l.length = m.length) : splice (bv m) 0 (bv l) = bv l := by
  rw [splice, List.take_zero, List.nil_append, Nat.zero_add, List.drop_eq_nil_of_le (by rw [bv_len, bv_len, h]; exact Nat.le_refl _), List.append_nil]
theorem splice_bv (m : List UInt8) (k : Nat) (x : List UInt8) : splice (bv m) k (bv x) = bv (m.take k ++ (x ++ m.drop (k + x.length))) := by
  simp [splice, bv, List.map_take, List.map_drop]
end Go.Proofs.Ytncjobhpiohkkaa
namespace Go.Proofs.Ytncjobhpiohkkaa
open Go.RowKit

theorem row_but {w w' : World} {g c : Nat} {X : Obj} (h : Hid (w.heap[c]? = some X)) (hb : But g w w') (hne : c ≠ g) : Hid (w'.heap[c]? = some X) :=
  (hb.block c (Array.getElem?_eq_some_iff.1 h.out).1 (fun e => hne (by injection e))).trans h.out
theorem row_size {w : World} {c : Nat} {X : Obj} (h : Hid (w.heap[c]? = some X)) : c < w.heap.size := (Array.getElem?_eq_some_iff.1 h.out).1
theorem row_next2 {w w' : World} {c : Nat} {X : Obj} (h : Hid (w.heap[c]? = some X)) (hb : Below w.heap.size w w') : Hid (w'.heap[c]? = some X) :=
  (hb.block c (Array.getElem?_eq_some_iff.1 h.out).1).trans h.out
/-- In a world that keeps S's blocks. -/
theorem row_S {w w' : World} {g c : Nat} {X : Obj} (h : Hid (w.heap[c]? = some X)) (hb : But g w w') (hne : c ≠ g) : w'.heap[c]? = some X := (row_but h hb hne).out
theorem But.on {g n : Nat} {a w w' : World} (h : But g a w) (k : But n w w') (hn : a.heap.size ≤ n) : But g a w' :=
  ⟨k.os.trans h.os, k.tape.trans h.tape, k.output.trans h.output, Nat.le_trans h.size k.size, fun i hi hne => (k.block i (Nat.lt_of_lt_of_le hi h.size) (fun e => by injection e; omega)).trans (h.block i hi hne)⟩
theorem But.go {g : Nat} {a b c : World} (h : But g a b) (k : Below b.heap.size b c) : But g a c := h.below_to k (Nat.le_refl _)
/-- A whole row is stored, as one step. -/
theorem step_row {P : Program} {ops : Array Oper} {o : Oper} {a : Act} {w : World} {K : Act → World → Prop} {Q : Exit → Act → World → Prop} {E : Prop} (hgd : o.guard = none) (ty : TypeId) (x y : Operand) (ho : o.op = .store ty x y)
    (g : Nat) (cells : List Value) (hx : a.eval x = .pointer (some ⟨g, 0, none⟩)) (hy : a.eval y = .agg cells.toArray) (t : TypeId) (old : Array Value) (hg : w.heap[g]? = some (.cells old t (0, 0)))
    (hi : (P.info? ty).map (·.size) = some cells.length) (hold : old.size = cells.length) (h1 : ∀ v ∈ cells, v.oneCell' = true)
    (h : ∀ w', Hid (w'.heap[g]? = some (.cells cells.toArray t (0, 0))) → But g w w' → K (a.put o.dst undef) w') : if Region.wanted o (yielded ops a.tmps) = true then Oper.wp P o a w K Q else E :=
  step_store_row hgd ty x y ho g cells.toArray hx hy t old hg (by simpa using hi) (by simpa using hold) (all_oneCell_toArray h1)
    (h _ (setRow_heap _ _ _ _ _ _ hg) ((But.refl _ _).row _))
/-- What lies there is stored there again. -/
theorem step_same {P : Program} {ops : Array Oper} {o : Oper} {a : Act} {w : World} {K : Act → World → Prop} {Q : Exit → Act → World → Prop} {E : Prop} (hgd : o.guard = none) (ty : TypeId) (x y : Operand) (ho : o.op = .store ty x y)
    (g : Nat) (cells : List Value) (hx : a.eval x = .pointer (some ⟨g, 0, none⟩)) (hy : a.eval y = .agg cells.toArray) (t : TypeId) (hg : w.heap[g]? = some (.cells cells.toArray t (0, 0)))
    (hi : (P.info? ty).map (·.size) = some cells.length) (h1 : ∀ v ∈ cells, v.oneCell' = true)
    (h : ∀ w', Below w.heap.size w w' → K (a.put o.dst undef) w') : if Region.wanted o (yielded ops a.tmps) = true then Oper.wp P o a w K Q else E :=
  step_row hgd ty x y ho g cells hx hy t _ hg hi (by simp) h1 fun w' hr hb => h w' ⟨hb.os, hb.tape, hb.output, hb.size, fun i hi => by
    by_cases hig : i = g
    · rw [hig, hr.out, hg]
    · exact hb.block i hi (fun e => hig (by injection e))⟩
/-- A region in the text's order, met as one whose order is open. -/
theorem plain_start {P : Program} {ops : Array Oper} {Q : Exit → Act → World → Prop} {S : World → Prop} {id : Nat} {a : Act} {w : World}
    (hl : Region.linearise.go .any ops ops.size 0 (Array.replicate ops.size false) [] = List.range ops.size) (hS : S w)
    (h : S w → wpAnyH P .any ops Q S ops.size (Array.replicate ops.size false) a w) : (Code.region id ops false).wp P Q a w :=
  wp_region (hl ▸ wpAny_sound ops.size 0 _ _ _ (wpAny_of_held _ _ _ _ (h hS)))
end Go.Proofs.Ytncjobhpiohkkaa
namespace Go.Proofs.Ytncjobhpiohkkaa
open Go.RowKit

section
variable {P : Program} {t e n : Nat} (ht : P.underlying t = some (.array n e)) (he : P.underlying e = some (.int .i64)) (hs : (P.info? e).map (·.size) = some 1)
include ht he hs
theorem part_int (l : List Int) (k : Nat) (hk : k < l.length) (w : World) : (part e (i64v l).toArray (k * 1)).run P w = .ok (.int .i64 (iat l k)) w := by
  obtain ⟨i, hi', hi2⟩ := Option.map_eq_some_iff.1 hs
  have h1 : (i64v l)[k]? = some (.int .i64 (iat l k)) := by rw [i64v_at, iat_at hk]; rfl
  have _ := ht
  simp [part, isAgg, run_underlying he, h1]
theorem eq_ints (l m : List Int) (hl : l.length = n) (hm : m.length = n) (d : Nat) (w : World) : (Op.equalIn (d + 2) t (.agg (i64v l).toArray) (.agg (i64v m).toArray)).run P w = .ok (decide (l = m)) w := by
  obtain ⟨i, hi', hi2⟩ := Option.map_eq_some_iff.1 hs
  have hfor : ∀ (is : List Nat), (∀ k ∈ is, k < n) → (forIn (m := Sem) is ((none : Option Bool), ()) fun i _ => do
      let a ← part e (i64v l).toArray (i * 1)
      let b ← part e (i64v m).toArray (i * 1)
      let r ← Op.equalIn (d + 1) e a b
      if (!r) = true then pure (ForInStep.done (some false, ())) else pure (ForInStep.yield (none, ()))).run P w = .ok (if (∀ k ∈ is, iat l k = iat m k) then none else some false, ()) w := by
    intro is
    induction is with
    | nil => intro _; simp
    | cons k ks ih =>
      intro hk
      have hk1 : k < n := hk k (by simp)
      have h1 := part_int ht he hs l k (by omega) w
      have h1' := part_int ht he hs m k (by omega) w
      have h2 := ih (fun j hj => hk j (by simp [hj]))
      rw [List.forIn_cons]
      simp only [Sem.run_bind, h1, h1', Result.andThen_ok, run_equalIn_int w d e .i64 .i64 _ _ he]
      by_cases hkk : iat l k = iat m k
      · simp only [List.mem_cons, forall_eq_or_imp, hkk, true_and]
        simpa using h2
      · simp [hkk]
  rw [Op.equalIn]
  have hsz : (sizeOf e).run P w = .ok 1 w := by simp [sizeOf, typeInfo, hi', hi2]
  simp only [Sem.run_bind, run_underlying ht, Result.andThen_ok, hsz]
  have hr := hfor (List.range' 0 n) (fun k hk => by simpa using hk)
  simp only [Std.Legacy.Range.forIn_eq_forIn_range', Std.Legacy.Range.size, Nat.sub_zero, Nat.add_one_sub_one, Nat.div_one, hr]
  have hiff : (∀ k ∈ List.range' 0 n, iat l k = iat m k) ↔ l = m := by
    constructor
    · intro h
      apply list_iat (by omega)
      intro k h1
      exact h k (by simp; omega)
    · rintro rfl _ _; rfl
  by_cases hlm : l = m
  · simp [hlm]
  · rw [if_neg (fun h => hlm (hiff.1 h))]
    simp [hlm]
theorem eql_ints (l m : List Int) (hl : l.length = n) (hm : m.length = n) (w : World) : (binOp .eql t (.agg (i64v l).toArray) (.agg (i64v m).toArray)).run P w = .ok (.bool (decide (l = m))) w := by
  rw [run_eql_struct, eq_ints ht he hs l m hl hm 9998 w]
  rfl
theorem neq_ints (l m : List Int) (hl : l.length = n) (hm : m.length = n) (w : World) : (binOp .neq t (.agg (i64v l).toArray) (.agg (i64v m).toArray)).run P w = .ok (.bool (!decide (l = m))) w := by
  rw [run_neq_struct, eq_ints ht he hs l m hl hm 9998 w]
  rfl
end
/-- A row of numbers, in a block of its own. -/
def Row8 (w : World) (g : Nat) (T : TypeId) (l : List Int) : Prop := w.heap[g]? = some (.cells (i64v l).toArray T (0, 0))

theorem min_step {l : List Int} {k : Nat} {x y : Int} (h : (∃ j, j < k ∧ x = iat l j) ∧ ∀ j, j < k → x ≤ iat l j) (hy : y = iat l k) : (∃ j, j < k + 1 ∧ (if y < x then y else x) = iat l j) ∧ ∀ j, j < k + 1 → (if y < x then y else x) ≤ iat l j := by
  obtain ⟨⟨i, hi, hx⟩, h2⟩ := h
  refine ⟨?_, fun j hj => ?_⟩
  · split
    · exact ⟨k, by omega, hy⟩
    · exact ⟨i, by omega, hx⟩
  · by_cases hjk : j = k
    · subst hjk; split <;> omega
    · have := h2 j (by omega)
      split <;> omega
theorem min_step_all {l : List Int} {x : Int} (hl : l.length = 8) (h : (∃ j, j < 8 ∧ x = iat l j) ∧ ∀ j, j < 8 → x ≤ iat l j) : x ∈ l ∧ ∀ y ∈ l, x ≤ y := by
  obtain ⟨⟨i, hi, hx⟩, h2⟩ := h
  refine ⟨by rw [hx]; exact mem_iat (by omega), fun y hy => ?_⟩
  obtain ⟨k, hk, rfl⟩ := iat_mem hy
  exact h2 k (by omega)
set_option maxRecDepth 100000 in
theorem smin_any (w : World) (g : Nat) (T : TypeId) (l : List Int) (hr : Hid (Row8 w g T l)) (hl : l.length = 8) :
    Calls Try.prog 62 #[.slice (some ⟨g, 0, none⟩) 8 8] w fun e w' => ∃ m, e = .returned (.int .i64 m) ∧ Vlt (m ∈ l ∧ ∀ x ∈ l, m ≤ x) ∧ w = w' := by
  have HL := Lib.hid hl
  have c0 := int_at hr.out 0 (by omega)
  have H0 := vlt (show (∃ j, j < 1 ∧ iat l 0 = iat l j) ∧ ∀ j, j < 1 → iat l 0 ≤ iat l j from ⟨⟨0, by omega, rfl⟩, fun j hj => by
    obtain rfl : j = 0 := by omega
    exact Int.le_refl _⟩)
  clear hl
  go_enter Try.func62, Try.ntmps62
  go_wp2
  go_loopw [3, 4] (fun m i wr => ∃ (k : Nat) (x : Int), k ≤ 8 ∧ 1 ≤ k ∧ i = .int .i64 (k : Int) ∧ m = .int .i64 x ∧ Vlt ((∃ j, j < k ∧ x = iat l j) ∧ ∀ j, j < k → x ≤ iat l j) ∧ wr = w) (fun _ i _ => 8 - (intOf i).toNat)
  case atStart => exact ⟨1, iat l 0, by omega, by omega, rfl, rfl, H0, rfl⟩
  case round =>
    obtain ⟨k, x, hk, hk1, rfl, rfl, HX, rfl⟩ := hrel
    by_cases hlt : k < 8
    · have ck := int_at hr.out k (by rw [HL.out]; exact hlt)
      obtain ⟨y, hy⟩ : ∃ y, y = iat l k := ⟨_, rfl⟩
      rw [← hy] at ck
      have HY := vlt (min_step HX.out hy)
      clear hy c0 H0
      go_wp2
      go_roundw
      case rel => exact ⟨k + 1, if y < x then y else x, by omega, by omega, by go_num, rfl, HY, trivial⟩
      case measure => simp [intOf]; omega
    · obtain rfl : k = 8 := by omega
      have HX2 := vlt (min_step_all HL.out HX.out)
      go_wp2
      go_ret
      exact ⟨x, rfl, HX2, rfl⟩
theorem max_step {l : List Int} {k : Nat} {x y : Int} (h : (∃ j, j < k ∧ x = iat l j) ∧ ∀ j, j < k → iat l j ≤ x) (hy : y = iat l k) : (∃ j, j < k + 1 ∧ (if x < y then y else x) = iat l j) ∧ ∀ j, j < k + 1 → iat l j ≤ (if x < y then y else x) := by
  obtain ⟨⟨i, hi, hx⟩, h2⟩ := h
  refine ⟨?_, fun j hj => ?_⟩
  · split
    · exact ⟨k, by omega, hy⟩
    · exact ⟨i, by omega, hx⟩
  · by_cases hjk : j = k
    · subst hjk; split <;> omega
    · have := h2 j (by omega)
      split <;> omega
theorem max_step_all {l : List Int} {x : Int} (hl : l.length = 8) (h : (∃ j, j < 8 ∧ x = iat l j) ∧ ∀ j, j < 8 → iat l j ≤ x) : x ∈ l ∧ ∀ y ∈ l, y ≤ x := by
  obtain ⟨⟨i, hi, hx⟩, h2⟩ := h
  refine ⟨by rw [hx]; exact mem_iat (by omega), fun y hy => ?_⟩
  obtain ⟨k, hk, rfl⟩ := iat_mem hy
  exact h2 k (by omega)
set_option maxRecDepth 100000 in
theorem smax_any (w : World) (g : Nat) (T : TypeId) (l : List Int) (hr : Hid (Row8 w g T l)) (hl : l.length = 8) :
    Calls Try.prog 63 #[.slice (some ⟨g, 0, none⟩) 8 8] w fun e w' => ∃ m, e = .returned (.int .i64 m) ∧ Vlt (m ∈ l ∧ ∀ x ∈ l, x ≤ m) ∧ w = w' := by
  have HL := Lib.hid hl
  have c0 := int_at hr.out 0 (by omega)
  have H0 := vlt (show (∃ j, j < 1 ∧ iat l 0 = iat l j) ∧ ∀ j, j < 1 → iat l j ≤ iat l 0 from ⟨⟨0, by omega, rfl⟩, fun j hj => by
    obtain rfl : j = 0 := by omega
    exact Int.le_refl _⟩)
  clear hl
  go_enter Try.func63, Try.ntmps63
  go_wp2
  go_loopw [3, 4] (fun m i wr => ∃ (k : Nat) (x : Int), k ≤ 8 ∧ 1 ≤ k ∧ i = .int .i64 (k : Int) ∧ m = .int .i64 x ∧ Vlt ((∃ j, j < k ∧ x = iat l j) ∧ ∀ j, j < k → iat l j ≤ x) ∧ wr = w) (fun _ i _ => 8 - (intOf i).toNat)
  case atStart => exact ⟨1, iat l 0, by omega, by omega, rfl, rfl, H0, rfl⟩
  case round =>
    obtain ⟨k, x, hk, hk1, rfl, rfl, HX, rfl⟩ := hrel
    by_cases hlt : k < 8
    · have ck := int_at hr.out k (by rw [HL.out]; exact hlt)
      obtain ⟨y, hy⟩ : ∃ y, y = iat l k := ⟨_, rfl⟩
      rw [← hy] at ck
      have HY := vlt (max_step HX.out hy)
      clear hy c0 H0
      go_wp2
      go_roundw
      case rel => exact ⟨k + 1, if x < y then y else x, by omega, by omega, by go_num, rfl, HY, trivial⟩
      case measure => simp [intOf]; omega
    · obtain rfl : k = 8 := by omega
      have HX2 := vlt (max_step_all HL.out HX.out)
      go_wp2
      go_ret
      exact ⟨x, rfl, HX2, rfl⟩
end Go.Proofs.Ytncjobhpiohkkaa
namespace Go.Proofs.Ytncjobhpiohkkaa
open Go.RowKit

theorem setCells_row {w : World} {g o : Nat} {cs : List Value} {t : TypeId} (hg : w.heap[g]? = some (.cells cs.toArray t (0, 0))) (vs : List Value) (hfit : o + vs.length ≤ cs.length) (h1 : ∀ v ∈ vs, v.oneCell' = true) :
    w.setCells g o vs = w.setRow g (splice cs o vs).toArray := by
  have a := run_storeCells_cells (P := Try.prog) g o vs 0 w (fun j hj => by rw [cell_of_row _ _ _ _ _ _ hg]; simp; omega) (fun j hj => frozen_of_row _ _ _ _ _ hg) h1
  have b := run_storeCells_at (P := Try.prog) g o t vs 0 cs.toArray w hg (by simp; omega) h1
  rw [a] at b
  injection b with _ b
  simpa [splice] using b
/-- A whole array is stored into the midst of a block that is known whole, as one step of a region that draws its order. -/
theorem step_store_mid {P : Program} {ops : Array Oper} {o : Oper} {a : Act} {w : World} {K : Act → World → Prop} {Q : Exit → Act → World → Prop} {E : Prop} (hgd : o.guard = none) (ty : TypeId) (x y : Operand) (ho : o.op = .store ty x y)
    (g off : Nat) (cells : List Value) (hx : a.eval x = .pointer (some ⟨g, off, none⟩)) (hy : a.eval y = .agg cells.toArray) (cur : List Value) (t : TypeId) (hg : w.heap[g]? = some (.cells cur.toArray t (0, 0)))
    (hfit : off + cells.length ≤ cur.length) (hi : (P.info? ty).map (·.size) = some cells.length) (h1 : ∀ v ∈ cells, v.oneCell' = true) (w0 : World) (hb : But g w0 w)
    (h : ∀ w', Hid (w'.heap[g]? = some (.cells (splice cur off cells).toArray t (0, 0))) → But g w0 w' → K (a.put o.dst undef) w') :
    if Region.wanted o (yielded ops a.tmps) = true then Oper.wp P o a w K Q else E := by
  have hw : Region.wanted o (yielded ops a.tmps) = true := by simp [Region.wanted, hgd]
  rw [if_pos hw]
  refine wp_store_mid ty x y ho g off cells.toArray hx hy (fun j hj => ⟨?_, frozen_of_row _ _ _ _ _ hg⟩) (by simpa using hi) (all_oneCell_toArray h1) ?_
  · rw [cell_of_row _ _ _ _ _ _ hg]
    simp at hj ⊢; omega
  · have e := setCells_row hg cells hfit h1
    show K _ (w.setCells g off cells)
    rw [e]
    exact h _ (setRow_heap _ _ _ _ _ _ hg) (hb.row _)
theorem splice_mid (A B C x : List Value) (a k : Nat) (ha : a = A.length + k) (h : k + x.length ≤ B.length) : splice (A ++ (B ++ C)) a x = A ++ (splice B k x ++ C) := by
  subst ha
  simp only [splice]
  have e1 : List.take (A.length + k) (A ++ (B ++ C)) = A ++ List.take k B := by
    rw [List.take_append, List.take_of_length_le (by omega), Nat.add_sub_cancel_left, List.take_append_of_le_length (by omega)]
  have e2 : List.drop (A.length + k + x.length) (A ++ (B ++ C)) = List.drop (k + x.length) B ++ C := by
    rw [List.drop_append, List.drop_of_length_le (by omega), List.nil_append, show A.length + k + x.length - A.length = k + x.length by omega, List.drop_append_of_le_length (by omega)]
  rw [e1, e2]
  simp
theorem range_part {w : World} {g : Nat} {t : TypeId} (A B C : List Value) (hg : w.heap[g]? = some (.cells (A ++ (B ++ C)).toArray t (0, 0))) (a : Nat) (ha : A.length = a) : w.rangeAt g a B := by
  intro j v hj
  have hjl := (List.getElem?_eq_some_iff.1 hj).1
  rw [cell_of_row _ _ _ _ _ _ hg]
  simp only [List.getElem?_toArray]
  rw [List.getElem?_append_right (by omega), ← ha, Nat.add_sub_cancel_left, List.getElem?_append_left hjl]
  exact hj
end Go.Proofs.Ytncjobhpiohkkaa
namespace Go.Proofs.Ytncjobhpiohkkaa
open Go.RowKit

/-- What a slot holds behind a put: one word for 'simp only'. -/
theorem pu : (∀ (a : Act) (d : Nat) (v : Value), a.put (some d) v = { a with tmps := a.tmps.setIfInBounds d v }) ∧ (∀ (a : Act) (v : Value), a.put none v = a) ∧
    (∀ (l : List Value) (i : Nat) (v : Value), l.toArray.setIfInBounds i v = (l.set i v).toArray) ∧ (∀ (x v : Value) (l : List Value), (x :: l).set 0 v = v :: l) ∧ (∀ (x v : Value) (l : List Value) (i : Nat), (x :: l).set (i + 1) v = x :: l.set i v) :=
  ⟨fun _ _ _ => rfl, fun _ _ => rfl, fun _ _ _ => by simp, fun _ _ _ => rfl, fun _ _ _ _ => rfl⟩
/-- A new variable of a region: its operation, its slot, its type, what it first holds. -/
structure NewV where
  i : Nat
  d : Nat
  ty : TypeId
  z : Array Value
/-- The new variables that are made: in the list of what came up, in the slots, in the world. -/
def markD (l : Array Bool) (D : List (NewV × Nat)) : Array Bool := D.foldr (fun x l => l.setIfInBounds x.1.i true) l
def markA (l : Array Bool) (A : List NewV) : Array Bool := A.foldr (fun x l => l.setIfInBounds x.i true) l
def putD (a : Act) (D : List (NewV × Nat)) : Act := D.foldr (fun x a => a.put (some x.1.d) (.pointer (some ⟨x.2, 0, none⟩))) a
structure HoldD (B : Nat) (w : World) (D : List (NewV × Nat)) : Prop where
  row : ∀ x ∈ D, w.heap[x.2]? = some (.cells x.1.z x.1.ty (0, 0))
  new : ∀ x ∈ D, B ≤ x.2
  nodup : (D.map (·.2)).Nodup
theorem HoldD.next {B : Nat} {w w' : World} {D : List (NewV × Nat)} (h : HoldD B w D) (hb : Below w.heap.size w w') : HoldD B w' D :=
  ⟨fun x hx => (hb.block _ (Array.getElem?_eq_some_iff.1 (h.row x hx)).1).trans (h.row x hx), h.new, h.nodup⟩
theorem HoldD.more {B : Nat} {w : World} {D : List (NewV × Nat)} (h : HoldD B w D) (hB : B ≤ w.heap.size) (x : NewV) : HoldD B (w.alloc (.cells x.z x.ty)) ((x, w.heap.size) :: D) := by
  refine ⟨fun y hy => ?_, fun y hy => ?_, ?_⟩
  · rcases List.mem_cons.1 hy with rfl | hy
    · exact heap_alloc_new _ _
    · exact (Below.heap_alloc _ _ _ (Array.getElem?_eq_some_iff.1 (h.row y hy)).1).trans (h.row y hy)
  · rcases List.mem_cons.1 hy with rfl | hy
    · exact hB
    · exact h.new y hy
  · rw [List.map_cons, List.nodup_cons]
    refine ⟨fun hm => ?_, h.nodup⟩
    obtain ⟨y, hy, he⟩ := List.mem_map.1 hm
    have h1 := (Array.getElem?_eq_some_iff.1 (h.row y hy)).1
    have h2 : y.2 = w.heap.size := he
    omega
theorem set_comm (l : Array Bool) (i j : Nat) : (l.setIfInBounds i true).setIfInBounds j true = (l.setIfInBounds j true).setIfInBounds i true := by
  by_cases h : i = j
  · rw [h]
  · rw [Array.setIfInBounds_comm _ _ h]
theorem markD_set (l : Array Bool) (i : Nat) : ∀ D : List (NewV × Nat), markD (l.setIfInBounds i true) D = (markD l D).setIfInBounds i true
  | [] => rfl
  | x :: D => by
    show (markD (l.setIfInBounds i true) D).setIfInBounds x.1.i true = ((markD l D).setIfInBounds x.1.i true).setIfInBounds i true
    rw [markD_set l i D, set_comm]
theorem markD_A (l : Array Bool) : ∀ D : List (NewV × Nat), markD l D = markA l (D.map (·.1))
  | [] => rfl
  | x :: D => by
    show (markD l D).setIfInBounds x.1.i true = (markA l (D.map (·.1))).setIfInBounds x.1.i true
    rw [markD_A l D]
theorem markA_un (l : Array Bool) (j : Nat) : ∀ A : List NewV, (∀ x ∈ A, x.i ≠ j) → ∀ b, (markA l A).getD j b = l.getD j b
  | [], _, _ => rfl
  | x :: A, h, b => by
    show ((markA l A).setIfInBounds x.i true).getD j b = l.getD j b
    rw [getD_set_ne b (h x (List.mem_cons_self ..)), markA_un l j A (fun y hy => h y (List.mem_cons_of_mem _ hy)) b]
theorem getD_two {l : Array Bool} {j : Nat} (h : l.getD j true = false) : l.getD j false = false := by
  rcases Nat.lt_or_ge j l.size with h' | h'
  · simp [h'] at h ⊢; exact h
  · simp [Array.getElem?_eq_none h'] at h
theorem set_size (l : Array Bool) (i : Nat) : (l.setIfInBounds i true).size = l.size := by simp
theorem markA_size (l : Array Bool) : ∀ A : List NewV, (markA l A).size = l.size
  | [] => rfl
  | x :: A => by
    show ((markA l A).setIfInBounds x.i true).size = l.size
    rw [set_size, markA_size l A]
theorem markA_in (l : Array Bool) {x : NewV} : ∀ A : List NewV, x ∈ A → (markA l A).getD x.i true = true
  | y :: A, h => by
    show ((markA l A).setIfInBounds y.i true).getD x.i true = true
    by_cases hi : y.i = x.i
    · rw [hi]
      rcases Nat.lt_or_ge x.i (markA l A).size with h' | h'
      · simp [h']
      · simp [h']
    · rw [getD_set_ne true hi]
      rcases List.mem_cons.1 h with rfl | h
      · exact absurd rfl hi
      · exact markA_in l A h
theorem markA_more (l : Array Bool) {j : Nat} {A C : List NewV} (hs : ∀ x ∈ A, x ∈ C) (h : (markA l A).getD j false = true) : (markA l C).getD j false = true := by
  have hlt : j < l.size := by
    rw [← markA_size l A]
    rcases Nat.lt_or_ge j (markA l A).size with h' | h'
    · exact h'
    · simp [Array.getElem?_eq_none h'] at h
  by_cases hm : ∃ x ∈ C, x.i = j
  · obtain ⟨x, hx, rfl⟩ := hm
    have h2 := markA_in l C hx
    have h3 : x.i < (markA l C).size := by rw [markA_size]; exact hlt
    simp [h3] at h2 ⊢
    exact h2
  · have hn : ∀ x ∈ C, x.i ≠ j := fun x hx e => hm ⟨x, hx, e⟩
    rw [markA_un l j C hn false]
    rwa [markA_un l j A (fun x hx => hn x (hs x hx)) false] at h

theorem putD_cons (a : Act) (x : NewV × Nat) (D : List (NewV × Nat)) : putD a (x :: D) = (putD a D).put (some x.1.d) (.pointer (some ⟨x.2, 0, none⟩)) := rfl
section
variable {P : Program} {ops : Array Oper} {Q : Exit → Act → World → Prop} {md : Region.Mode} {S : World → Prop}
theorem ready_markA {j : Nat} {l : Array Bool} (hj : j ∈ Region.ready md ops l) : ∀ A : List NewV, (∀ x ∈ A, x.i ≠ j) → j ∈ Region.ready md ops (markA l A)
  | [], _ => hj
  | x :: A, h => ready_mono (ready_markA hj A fun y hy => h y (List.mem_cons_of_mem _ hy)) (Ne.symm (h x (List.mem_cons_self ..)))
/-- What may come up is a new variable that is not made yet, or may come up when all are made. -/
theorem ready_sub {j : Nat} {l : Array Bool} {al pend : List NewV} {A : List NewV} (hp : (A ++ pend).Perm al) (hj : j ∈ Region.ready md ops (markA l A)) :
    (∃ x ∈ pend, x.i = j) ∨ j ∈ Region.ready md ops (markA l al) := by
  by_cases hm : ∃ x ∈ pend, x.i = j
  · exact .inl hm
  · right
    obtain ⟨h0, o, ho, hall⟩ := mem_ready.1 hj
    have hA : ∀ x ∈ A, x.i ≠ j := fun x hx e => by
      have h1 := markA_in l A hx
      rw [e, h0] at h1; cases h1
    have hal : ∀ x ∈ al, x.i ≠ j := fun x hx e => by
      rcases List.mem_append.1 (hp.symm.subset hx) with h | h
      · exact hA x h e
      · exact hm ⟨x, h, e⟩
    refine mem_ready.2 ⟨?_, o, ho, fun e he hb => markA_more l (fun x hx => hp.subset (List.mem_append_left _ hx)) (hall e he hb)⟩
    rw [markA_un l j al hal true, ← markA_un l j A hA true]
    exact h0
/-- Whatever new variables are made already, and wherever they lie. -/
def wpMix (P : Program) (md : Region.Mode) (ops : Array Oper) (Q : Exit → Act → World → Prop) (S : World → Prop) (B : Nat) (al : List NewV) (fuel : Nat) (listed : Array Bool) (a : Act) : Prop :=
  ∀ D pend, (D.map (·.1) ++ pend).Perm al → ∀ w, S w → B ≤ w.heap.size → HoldD B w D → wpAnyH P md ops Q S (fuel + pend.length) (markD listed D) (putD a D) w
theorem mix_start {B : Nat} {al : List NewV} {fuel n : Nat} {listed : Array Bool} {a : Act} {w : World} (hn : n = fuel + al.length) (hS : S w) (hB : B ≤ w.heap.size)
    (h : wpMix P md ops Q S B al fuel listed a) : wpAnyH P md ops Q S n listed a w := by
  subst hn
  exact h [] al (List.Perm.refl _) w hS hB ⟨fun _ h => (by cases h), fun _ h => (by cases h), List.nodup_nil⟩
/-- A new variable comes up. -/
def MakesV (P : Program) (ops : Array Oper) (x : NewV) : Prop :=
  ∀ (Q : Exit → Act → World → Prop) (K : Act → World → Prop) (a : Act) (w : World), K (a.put (some x.d) (.pointer (some ⟨w.heap.size, 0, none⟩))) (w.alloc (.cells x.z x.ty)) → wpOp P ops Q x.i K a w
theorem mix_new {B : Nat} {al pend : List NewV} {fuel n : Nat} {listed : Array Bool} {a : Act} {D : List (NewV × Nat)} {w : World} {x : NewV} (hm : MakesV P ops x) (hx : x ∈ pend) (hl : pend.length = n + 1)
    (hp : (D.map (·.1) ++ pend).Perm al) (hSa : S (w.alloc (.cells x.z x.ty))) (hB : B ≤ w.heap.size) (hh : HoldD B w D)
    (ih : ∀ (D : List (NewV × Nat)) (pend : List NewV) (w : World), pend.length = n → (D.map (·.1) ++ pend).Perm al → S w → B ≤ w.heap.size → HoldD B w D → wpAnyH P md ops Q S (fuel + n) (markD listed D) (putD a D) w) :
    wpOp P ops Q x.i (fun a' w' => S w' ∧ wpAnyH P md ops Q S (fuel + n) ((markD listed D).setIfInBounds x.i true) a' w') (putD a D) w := by
  obtain ⟨s, t, rfl⟩ := List.append_of_mem hx
  refine hm Q _ _ _ ⟨hSa, ?_⟩
  refine ih ((x, w.heap.size) :: D) (s ++ t) _ ?_ ?_ hSa ?_ (hh.more hB x)
  · simp only [List.length_append, List.length_cons] at hl ⊢; omega
  · refine List.Perm.trans ?_ hp
    show (x :: (D.map (·.1) ++ (s ++ t))).Perm _
    have h1 : (D.map (·.1) ++ (s ++ x :: t)).Perm (x :: (D.map (·.1) ++ (s ++ t))) := by
      rw [← List.append_assoc, ← List.append_assoc]
      exact List.perm_middle
    exact h1.symm
  · simp; omega
theorem wpH_next {fuel : Nat} {listed : Array Bool} {a : Act} {w : World} (hne : Region.ready md ops listed ≠ [])
    (h : ∀ i ∈ Region.ready md ops listed, wpOp P ops Q i (fun a' w' => S w' ∧ wpAnyH P md ops Q S fuel (listed.setIfInBounds i true) a' w') a w) : wpAnyH P md ops Q S (fuel + 1) listed a w :=
  ⟨fun h0 => absurd h0 hne, h⟩
theorem wp_put_one {o : Oper} {a : Act} {w : World} {d : Nat} {v : Value} {K K' : Act → World → Prop} (hl : d ∉ o.looksAt ops) (hsel : ∀ cs b, o.op ≠ .select cs b) (hd : o.dst ≠ some d)
    (hQ : ∀ x a w, Q (.panic x) a w → Q (.panic x) (a.put (some d) v) w) (hK : ∀ a1 w1, K a1 w1 → K' (a1.put (some d) v) w1)
    (h : if Region.wanted o (yielded ops a.tmps) = true then Oper.wp P o a w K Q else K (a.put o.dst undef) w) :
    if Region.wanted o (yielded ops (a.put (some d) v).tmps) = true then Oper.wp P o (a.put (some d) v) w K' Q else K' ((a.put (some d) v).put o.dst undef) w := by
  have h1 : ∀ e, some d = some e → e ∉ o.looksAt ops := fun e he => by injection he with he; exact he ▸ hl
  have h2 : ∀ e, (some d : Option Tmp) = some e → o.dst ≠ some e := fun e he => by injection he with he; exact he ▸ hd
  rw [wanted_put o a (some d) v h1]
  split
  · rename_i hw
    rw [if_pos hw] at h
    unfold Oper.wp at *
    rw [execOp_put o hsel a (some d) v h1]
    generalize (execOp a.eval o).run P w = r at *
    cases r with
    | ok n w' =>
      cases n <;> simp only [Oper.upon] at h ⊢
      case value u => rw [Act.put_comm a v u h2]; exact hK _ _ h
      case skip => rw [Act.put_comm a v undef h2]; exact hK _ _ h
      case defer e =>
        rw [Act.put_defers, Act.put_comm _ v undef h2]
        exact hK _ _ h
      case enter f args =>
        refine Calls.mono h fun e w'' he => ?_
        cases e with
        | returned u => show K' _ _; rw [Act.put_comm a v u h2]; exact hK _ _ he
        | panicked c => exact hQ _ _ _ he
        | outgrown => exact he
      case row row args => exact Rows.mono h fun u w'' he => by rw [Act.put_comm a v u h2]; exact hK _ _ he
    | halt x w' =>
      cases x <;> simp only [Oper.upon] at h ⊢
      case panic u => exact hQ _ _ _ h
  · rename_i hw
    rw [if_neg hw] at h
    rw [Act.put_comm a v undef h2]
    exact hK _ _ h
/-- An operation and the slots of the new variables do not touch. -/
def apartV (ops : Array Oper) (al : List NewV) (o : Oper) : Bool := al.all fun x => !(o.looksAt ops).contains x.d && o.dst != some x.d
theorem wp_put_all {o : Oper} {w : World} (hsel : ∀ cs b, o.op ≠ .select cs b) (hQ : ∀ d v x a w, Q (.panic x) a w → Q (.panic x) (a.put (some d) v) w) :
    ∀ (D : List (NewV × Nat)) (a : Act) (K K' : Act → World → Prop), (∀ x ∈ D, x.1.d ∉ o.looksAt ops ∧ o.dst ≠ some x.1.d) → (∀ a1 w1, K a1 w1 → K' (putD a1 D) w1) →
      (if Region.wanted o (yielded ops a.tmps) = true then Oper.wp P o a w K Q else K (a.put o.dst undef) w) →
      if Region.wanted o (yielded ops (putD a D).tmps) = true then Oper.wp P o (putD a D) w K' Q else K' ((putD a D).put o.dst undef) w
  | [], a, K, K', _, hK, h => by
    have e : K = K ∧ ∀ a1 w1, K a1 w1 → K' a1 w1 := ⟨rfl, hK⟩
    show if Region.wanted o (yielded ops a.tmps) = true then Oper.wp P o a w K' Q else K' (a.put o.dst undef) w
    split
    · rename_i hw; rw [if_pos hw] at h; exact Oper.wp_mono e.2 h
    · rename_i hw; rw [if_neg hw] at h; exact e.2 _ _ h
  | x :: D, a, K, K', hap, hK, h => by
    have h1 := hap x (List.mem_cons_self ..)
    exact wp_put_one (K := fun a1 w1 => ∃ a2, K a2 w1 ∧ a1 = putD a2 D) h1.1 hsel h1.2 (hQ x.1.d _) (fun a1 w1 ⟨a2, hk, e⟩ => by subst e; exact hK a2 w1 hk)
      (wp_put_all hsel hQ D a K _ (fun y hy => hap y (List.mem_cons_of_mem _ hy)) (fun a1 w1 hk => ⟨a1, hk, rfl⟩) h)
/-- The next call of the chain. -/
theorem mix_call {B : Nat} {al : List NewV} {fuel : Nat} {listed : Array Bool} {a : Act} {i : Nat} {o : Oper} (ho : ops[i]? = some o) (hs : Region.noSelect ops = true) (hap : apartV ops al o = true)
    (hr : Region.ready md ops (markA listed al) = [i]) (hin : (Region.ready md ops listed).contains i = true) (hm : ∀ x ∈ al, MakesV P ops x) (hSa : ∀ w, ∀ x ∈ al, S w → S (w.alloc (.cells x.z x.ty)))
    (hQ : ∀ d v x a w, Q (.panic x) a w → Q (.panic x) (a.put (some d) v) w)
    (h : ∀ w, S w → B ≤ w.heap.size → ∀ K : Act → World → Prop, Shut (∀ v w', S w' → Below w.heap.size w w' → wpMix P md ops Q S B al fuel (listed.setIfInBounds i true) (a.put o.dst v) → K (a.put o.dst v) w') →
      if Region.wanted o (yielded ops a.tmps) = true then Oper.wp P o a w K Q else K (a.put o.dst undef) w) : wpMix P md ops Q S B al (fuel + 1) listed a := by
  have hin' : i ∈ Region.ready md ops listed := by simpa using hin
  have hni : ∀ x ∈ al, x.i ≠ i := fun x hx e => by
    have h1 : i ∈ Region.ready md ops (markA listed al) := by rw [hr]; exact List.mem_singleton.2 rfl
    have h2 := (mem_ready.1 h1).1
    rw [← e, markA_in listed al hx] at h2
    cases h2
  suffices hall : ∀ (n : Nat) (D : List (NewV × Nat)) (pend : List NewV) (w : World), pend.length = n → (D.map (·.1) ++ pend).Perm al → S w → B ≤ w.heap.size → HoldD B w D → wpAnyH P md ops Q S (fuel + 1 + n) (markD listed D) (putD a D) w by
    intro D pend hp w hS hB hh
    exact hall pend.length D pend w rfl hp hS hB hh
  intro n
  induction n with
  | zero =>
    intro D pend w hl hp hS hB hh
    have hap' : ∀ x ∈ D, x.1.d ∉ o.looksAt ops ∧ o.dst ≠ some x.1.d := fun x hx => by
      have h1 := List.all_eq_true.1 hap x.1 (hp.subset (List.mem_append_left _ (List.mem_map.2 ⟨x, hx, rfl⟩)))
      simpa using h1
    have hDal : ∀ x ∈ D.map (·.1), x ∈ al := fun x hx => hp.subset (List.mem_append_left _ hx)
    refine wpH_next (fun h0 => ?_) fun j hj => ?_
    · have := ready_markA hin' (D.map (·.1)) (fun x hx => hni x (hDal x hx))
      rw [← markD_A, h0] at this; cases this
    · rw [markD_A] at hj
      rcases ready_sub hp hj with ⟨x, hx, _⟩ | hj2
      · rw [List.eq_nil_of_length_eq_zero hl] at hx; cases hx
      · rw [hr] at hj2
        obtain rfl := List.mem_singleton.1 hj2
        refine wpOp_step ho fun K' hK => ?_
        refine wp_put_all (K := fun a' w' => ∃ v, a' = a.put o.dst v ∧ S w' ∧ Below w.heap.size w w' ∧ wpMix P md ops Q S B al fuel (listed.setIfInBounds j true) (a.put o.dst v)) (Region.noSelect_spec hs j o · · ho) hQ D a _ hap' ?_ (h w hS hB _ fun v w' h1 h2 h3 => ⟨v, rfl, h1, h2, h3⟩)
        rintro a1 w1 ⟨v, rfl, hS1, hb1, hM⟩
        refine hK _ _ ⟨hS1, ?_⟩
        have := hM D pend hp w1 hS1 (Nat.le_trans hB hb1.size) (hh.next hb1)
        rwa [hl, markD_set] at this
  | succ n ih =>
    intro D pend w hl hp hS hB hh
    have hap' : ∀ x ∈ D, x.1.d ∉ o.looksAt ops ∧ o.dst ≠ some x.1.d := fun x hx => by
      have h1 := List.all_eq_true.1 hap x.1 (hp.subset (List.mem_append_left _ (List.mem_map.2 ⟨x, hx, rfl⟩)))
      simpa using h1
    have hDal : ∀ x ∈ D.map (·.1), x ∈ al := fun x hx => hp.subset (List.mem_append_left _ hx)
    refine wpH_next (fun h0 => ?_) fun j hj => ?_
    · have := ready_markA hin' (D.map (·.1)) (fun x hx => hni x (hDal x hx))
      rw [← markD_A, h0] at this; cases this
    · rw [markD_A] at hj
      rcases ready_sub hp hj with ⟨x, hx, rfl⟩ | hj2
      · have hxa : x ∈ al := hp.subset (List.mem_append_right _ hx)
        exact mix_new (fuel := fuel + 1) (hm x hxa) hx hl hp (hSa w x hxa hS) hB hh ih
      · rw [hr] at hj2
        obtain rfl := List.mem_singleton.1 hj2
        refine wpOp_step ho fun K' hK => ?_
        refine wp_put_all (K := fun a' w' => ∃ v, a' = a.put o.dst v ∧ S w' ∧ Below w.heap.size w w' ∧ wpMix P md ops Q S B al fuel (listed.setIfInBounds j true) (a.put o.dst v)) (Region.noSelect_spec hs j o · · ho) hQ D a _ hap' ?_ (h w hS hB _ fun v w' h1 h2 h3 => ⟨v, rfl, h1, h2, h3⟩)
        rintro a1 w1 ⟨v, rfl, hS1, hb1, hM⟩
        refine hK _ _ ⟨hS1, ?_⟩
        have := hM D pend hp w1 hS1 (Nat.le_trans hB hb1.size) (hh.next hb1)
        rw [hl, markD_set] at this
        have e : (fuel + 1).add n = fuel + (n + 1) := by show fuel + 1 + n = _; omega
        rw [e]
        exact this
/-- A list whose names are a turn of another: turned alike. -/
theorem turn_back {α β : Type} {f : α → β} {l1 l2 : List β} (hp : l1.Perm l2) : ∀ D : List α, D.map f = l1 → ∃ D' : List α, D'.Perm D ∧ D'.map f = l2 := by
  induction hp with
  | nil => exact fun D hD => ⟨D, List.Perm.refl _, hD⟩
  | cons x _ ih =>
    intro D hD
    match D, hD with
    | d :: D1, hD =>
      simp only [List.map_cons, List.cons.injEq] at hD
      obtain ⟨D2, h1, h2⟩ := ih D1 hD.2
      exact ⟨d :: D2, h1.cons d, by rw [List.map_cons, hD.1, h2]⟩
  | swap x y l =>
    intro D hD
    match D, hD with
    | d :: e :: D1, hD =>
      simp only [List.map_cons, List.cons.injEq] at hD
      exact ⟨e :: d :: D1, List.Perm.swap _ _ _, by rw [List.map_cons, List.map_cons, hD.1, hD.2.1, hD.2.2]⟩
  | trans _ _ ih1 ih2 =>
    intro D hD
    obtain ⟨D1, h1, h2⟩ := ih1 D hD
    obtain ⟨D2, h3, h4⟩ := ih2 D1 h2
    exact ⟨D2, h3.trans h1, h4⟩
theorem putD_perm {D D' : List (NewV × Nat)} (hp : D.Perm D') : ∀ a : Act, (D.map (·.1.d)).Nodup → putD a D = putD a D' := by
  induction hp with
  | nil => exact fun _ _ => rfl
  | cons x _ ih =>
    intro a hn
    rw [putD_cons, putD_cons, ih a (List.nodup_cons.1 hn).2]
  | swap x y l =>
    intro a hn
    rw [putD_cons, putD_cons, putD_cons, putD_cons]
    refine Act.put_comm _ _ _ fun d hd => ?_
    simp only [List.map_cons, List.nodup_cons, List.mem_cons] at hn
    injection hd with hd
    intro he
    injection he with he
    exact hn.1 (.inl (by omega))
  | trans h1 _ ih1 ih2 =>
    intro a hn
    rw [ih1 a hn, ih2 a ((h1.map _).nodup_iff.1 hn)]
theorem markD_perm {D D' : List (NewV × Nat)} (hp : D.Perm D') : ∀ l : Array Bool, markD l D = markD l D' := by
  induction hp with
  | nil => exact fun _ => rfl
  | cons x _ ih =>
    intro l
    show (markD l _).setIfInBounds _ _ = (markD l _).setIfInBounds _ _
    rw [ih l]
  | swap x y t => intro l; exact set_comm _ _ _
  | trans _ _ ih1 ih2 => intro l; rw [ih1 l, ih2 l]
/-- All are made: the stores wait for each of them. -/
theorem mix_end {B : Nat} {al : List NewV} {fuel : Nat} {listed : Array Bool} {a : Act} (hr : ((Region.ready md ops (markA listed al)).all fun j => al.all fun x => Region.waitsFor md ops j x.i) = true)
    (hin : (al.all fun x => (Region.ready md ops listed).contains x.i) = true) (hnd : (al.map (·.i)).Nodup) (hnd2 : (al.map (·.d)).Nodup) (hm : ∀ x ∈ al, MakesV P ops x) (hSa : ∀ w, ∀ x ∈ al, S w → S (w.alloc (.cells x.z x.ty)))
    (h : ∀ D : List (NewV × Nat), D.map (·.1) = al → ∀ w, S w → B ≤ w.heap.size → HoldD B w D → wpAnyH P md ops Q S fuel (markD listed D) (putD a D) w) : wpMix P md ops Q S B al fuel listed a := by
  have hin' : ∀ x ∈ al, x.i ∈ Region.ready md ops listed := fun x hx => by
    have := List.all_eq_true.1 hin x hx
    simpa using this
  suffices hall : ∀ (n : Nat) (D : List (NewV × Nat)) (pend : List NewV) (w : World), pend.length = n → (D.map (·.1) ++ pend).Perm al → S w → B ≤ w.heap.size → HoldD B w D → wpAnyH P md ops Q S (fuel + n) (markD listed D) (putD a D) w by
    intro D pend hp w hS hB hh
    exact hall pend.length D pend w rfl hp hS hB hh
  intro n
  induction n with
  | zero =>
    intro D pend w hl hp hS hB hh
    rw [List.eq_nil_of_length_eq_zero hl, List.append_nil] at hp
    obtain ⟨D', h1, h2⟩ := turn_back hp D rfl
    have h3 : (D'.map (·.1.d)).Nodup := by
      have : D'.map (·.1.d) = (D'.map (·.1)).map (·.d) := by rw [List.map_map]; rfl
      rw [this, h2]; exact hnd2
    rw [← markD_perm h1, ← putD_perm h1 a h3]
    refine h D' h2 w hS hB ⟨fun x hx => hh.row x (h1.subset hx), fun x hx => hh.new x (h1.subset hx), (h1.map _).nodup_iff.2 hh.nodup⟩
  | succ n ih =>
    intro D pend w hl hp hS hB hh
    have hnd3 : ((D.map (·.1) ++ pend).map (·.i)).Nodup := (hp.map _).nodup_iff.2 hnd
    have hapart : ∀ x ∈ pend, ∀ y ∈ D.map (·.1), y.i ≠ x.i := fun x hx y hy e => by
      rw [List.map_append, List.nodup_append] at hnd3
      exact hnd3.2.2 y.i (List.mem_map.2 ⟨y, hy, rfl⟩) x.i (List.mem_map.2 ⟨x, hx, rfl⟩) e
    obtain ⟨x0, hx0⟩ : ∃ x, x ∈ pend := by
      cases pend with
      | nil => simp at hl
      | cons x t => exact ⟨x, List.mem_cons_self ..⟩
    have hready : ∀ x ∈ pend, x.i ∈ Region.ready md ops (markD listed D) := fun x hx => by
      rw [markD_A]
      exact ready_markA (hin' x (hp.subset (List.mem_append_right _ hx))) _ (hapart x hx)
    refine wpH_next (fun h0 => ?_) fun j hj => ?_
    · have := hready x0 hx0
      rw [h0] at this; cases this
    · have hj' := hj
      rw [markD_A] at hj
      rcases ready_sub hp hj with ⟨x, hx, rfl⟩ | hj2
      · have hxa : x ∈ al := hp.subset (List.mem_append_right _ hx)
        exact mix_new (hm x hxa) hx hl hp (hSa w x hxa hS) hB hh ih
      · exfalso
        have h1 := List.all_eq_true.1 hr j hj2
        have h2 := List.all_eq_true.1 h1 x0 (hp.subset (List.mem_append_right _ hx0))
        obtain ⟨oj, hoj, e, he, hb, hon⟩ := Region.waitsFor_spec h2
        obtain ⟨_, o, ho, hall⟩ := mem_ready.1 hj'
        obtain rfl := Option.some.inj (hoj.symm.trans ho)
        have h3 := hall e he hb
        rw [hon, getD_two (mem_ready.1 (hready x0 hx0)).1] at h3
        cases h3
end
theorem markA_back (l : Array Bool) {j : Nat} : ∀ A : List NewV, (markA l A).getD j true = false → l.getD j true = false
  | [], h => h
  | x :: A, h => by
    have h1 : ((markA l A).setIfInBounds x.i true).getD j true = false := h
    by_cases hi : x.i = j
    · subst hi
      rcases Nat.lt_or_ge x.i (markA l A).size with h' | h'
      · simp [h'] at h1
      · simp [h'] at h1
    · rw [getD_set_ne true hi] at h1
      exact markA_back l A h1
section
variable {P : Program} {ops : Array Oper} {Q : Exit → Act → World → Prop} {md : Region.Mode} {S : World → Prop}
theorem yields_putD {o : Oper} {v : Value} (hsel : ∀ cs b, o.op ≠ .select cs b) : ∀ (D : List (NewV × Nat)) (a : Act), (∀ x ∈ D, x.1.d ∉ o.looksAt ops ∧ o.dst ≠ some x.1.d) → YieldsIf P ops S o v a → YieldsIf P ops S o v (putD a D)
  | [], _, _, h => h
  | x :: D, a, hap, h => by
    have h1 := (hap x (List.mem_cons_self ..)).1
    have h2 : ∀ e, some x.1.d = some e → e ∉ o.looksAt ops := fun e he => by injection he with he; exact he ▸ h1
    exact (yields_putD hsel D a (fun y hy => hap y (List.mem_cons_of_mem _ hy)) h).of_same (execOp_put o hsel _ _ _ h2) (wanted_put o _ _ _ h2)
theorem putD_put {o : Oper} {v : Value} : ∀ (D : List (NewV × Nat)) (a : Act), (∀ x ∈ D, x.1.d ∉ o.looksAt ops ∧ o.dst ≠ some x.1.d) → (putD a D).put o.dst v = putD (a.put o.dst v) D
  | [], _, _ => rfl
  | x :: D, a, hap => by
    have h1 := (hap x (List.mem_cons_self ..)).2
    rw [putD_cons, putD_cons, ← putD_put D a (fun y hy => hap y (List.mem_cons_of_mem _ hy))]
    exact Act.put_comm _ _ _ fun d hd => by injection hd with hd; exact hd ▸ h1
/-- An operation that yields in every world that meets S is taken first, new variables pending. -/
theorem mix_take {B : Nat} {al : List NewV} {fuel : Nat} {listed : Array Bool} {a : Act} {i : Nat} {o : Oper} {v : Value} (ho : ops[i]? = some o) (hs : Region.noSelect ops = true) (hap : apartV ops al o = true)
    (hf : Region.free md ops listed i = true) (hin : (Region.ready md ops listed).contains i = true) (hni : (al.all fun x => x.i != i) = true) (hQ : ∀ c a w, Q (.panic c) (a.put o.dst v) w → Q (.panic c) a w) (hy : YieldsIf P ops S o v a)
    (h : wpMix P md ops Q S B al fuel (listed.setIfInBounds i true) (a.put o.dst v)) : wpMix P md ops Q S B al (fuel + 1) listed a := by
  intro D pend hp w hS hB hh
  have hDal : ∀ x ∈ D.map (·.1), x ∈ al := fun x hx => hp.subset (List.mem_append_left _ hx)
  have hap' : ∀ x ∈ D, x.1.d ∉ o.looksAt ops ∧ o.dst ≠ some x.1.d := fun x hx => by
    have h1 := List.all_eq_true.1 hap x.1 (hDal _ (List.mem_map.2 ⟨x, hx, rfl⟩))
    simpa using h1
  have hni' : ∀ x ∈ D.map (·.1), x.i ≠ i := fun x hx => by
    have h1 := List.all_eq_true.1 hni x (hDal x hx)
    simpa using h1
  have hfree := Region.free_spec ho hf
  have e : fuel + 1 + pend.length = (fuel + pend.length) + 1 := by omega
  rw [e]
  refine wpAnyH_first ho (Region.noSelect_spec hs) hQ _ _ _ _ (fun j oj hj hji hun hno => hfree j oj hj hji ?_ hno) ?_ (yields_putD (fun cs b => Region.noSelect_spec hs i o cs b ho) D a hap' hy) hS ?_
  · rw [markD_A] at hun
    exact markA_back listed _ hun
  · rw [markD_A]
    exact ready_markA (by simpa using hin) _ hni'
  · rw [← markD_set, putD_put D a hap']
    exact h D pend hp w hS hB hh
end
theorem v_two {D : List (NewV × Nat)} {x y : NewV} (h : D.map (·.1) = [x, y]) : ∃ g1 g2, D = [(x, g1), (y, g2)] := by
  match D, h with
  | [(a, g1), (b, g2)], h =>
    simp only [List.map_cons, List.map_nil, List.cons.injEq, and_true] at h
    obtain ⟨rfl, rfl⟩ := h
    exact ⟨g1, g2, rfl⟩
theorem v_one {D : List (NewV × Nat)} {x : NewV} (h : D.map (·.1) = [x]) : ∃ g1, D = [(x, g1)] := by
  match D, h with
  | [(a, g1)], h =>
    simp only [List.map_cons, List.map_nil, List.cons.injEq, and_true] at h
    obtain rfl := h
    exact ⟨g1, rfl⟩
theorem v_three {D : List (NewV × Nat)} {x y z : NewV} (h : D.map (·.1) = [x, y, z]) : ∃ g1 g2 g3, D = [(x, g1), (y, g2), (z, g3)] := by
  match D, h with
  | [(a, g1), (b, g2), (c, g3)], h =>
    simp only [List.map_cons, List.map_nil, List.cons.injEq, and_true] at h
    obtain ⟨rfl, rfl, rfl⟩ := h
    exact ⟨g1, g2, g3, rfl⟩
theorem v_four {D : List (NewV × Nat)} {x y z u : NewV} (h : D.map (·.1) = [x, y, z, u]) : ∃ g1 g2 g3 g4, D = [(x, g1), (y, g2), (z, g3), (u, g4)] := by
  match D, h with
  | [(a, g1), (b, g2), (c, g3), (d, g4)], h =>
    simp only [List.map_cons, List.map_nil, List.cons.injEq, and_true] at h
    obtain ⟨rfl, rfl, rfl, rfl⟩ := h
    exact ⟨g1, g2, g3, g4, rfl⟩
/-- The operation that makes a new variable. -/
theorem makes_new {P : Program} {ops : Array Oper} {i d : Nat} {ty : TypeId} {z : List Value} {o : Oper} (ho : ops[i]? = some o) (hop : o.op = .alloc ty) (hd : o.dst = some d) (hg : o.guard = none)
    (hz : ∀ w, (zeroValue ty).run P w = .ok (.agg z.toArray) w) : MakesV P ops ⟨i, d, ty, z.toArray⟩ := by
  intro Q K a w h
  unfold wpOp
  simp only [ho]
  have hw : Region.wanted o (yielded ops a.tmps) = true := by simp [Region.wanted, hg]
  rw [if_pos hw]
  refine .inl ?_
  unfold Oper.wp
  simp [execOp, hop, Instr.alloc, hz, newVar, newRow, Value.cells]
  rw [Oper.upon_value, hd]
  exact h
end Go.Proofs.Ytncjobhpiohkkaa
namespace Go.Proofs.Ytncjobhpiohkkaa
open Go.RowKit

theorem range_row {w : World} {g : Nat} {l : List Value} {t : TypeId} (hg : w.heap[g]? = some (.cells l.toArray t (0, 0))) : w.rangeAt g 0 l := by
  intro j v hj
  rw [Nat.zero_add, cell_of_row _ _ _ _ _ _ hg]
  simpa using hj
theorem bv_size (l : List UInt8) (h : l.length = 32) : (bv l).toArray.size = 32 := by simp [bv_len, h]
/-- An array built out of known parts, in a region that draws its order. -/
theorem yields_build {P : Program} {ops : Array Oper} {S : World → Prop} {op : Oper} {a : Act} (hw : Region.wanted op (yielded ops a.tmps) = true) (ty : TypeId) (parts : Array (Nat × Operand)) (ho : op.op = .build ty parts)
    (lst : List (Nat × Value)) (hp : (parts.toList.map fun (i, x) => (i, a.eval x)) = lst) (cs : Array Value) (hf : P.built ty lst = some cs) : YieldsIf P ops S op (.agg cs) a :=
  .inl ⟨hw, fun w _ => by
    have h := run_build (P := P) w ty (parts.map fun (i, x) => (i, a.eval x)) cs (by rw [Array.toList_map, hp]; exact hf)
    unfold execOp
    simp [ho, h, Result.andThen]⟩
end Go.Proofs.Ytncjobhpiohkkaa
namespace Go.Proofs.Ytncjobhpiohkkaa
open Go.RowKit

theorem Ed.cells_len {e : Ed} (h : e.seen.length = 8) : e.cells.length = 15 := by simp [Ed.cells, i64v_len, h]
theorem Ed.cells_size {e : Ed} (h : e.seen.length = 8) : e.cells.toArray.size = 15 := by rw [List.size_toArray, Ed.cells_len h]
theorem Ed.cells_one (e : Ed) : ∀ v ∈ e.cells, v.oneCell' = true := by
  intro v hv
  simp only [Ed.cells, List.mem_append, List.mem_cons, List.not_mem_nil, or_false] at hv
  rcases hv with (rfl | rfl) | h | rfl | rfl | rfl | rfl | rfl
  any_goals rfl
  exact i64v_one _ v h
theorem Ed.cells_tail {e : Ed} (h : e.seen.length = 8) (k : Nat) : e.cells[10 + k]? = [Value.int .i64 e.kind, .string e.con, .string e.fld, .string e.val, .int .i64 e.time][k]? := by
  rw [Ed.cells, List.getElem?_append_right (by simp; omega), List.getElem?_append_right (by simp [i64v_len, h]; omega)]
  simp only [List.length_cons, List.length_nil, i64v_len, h]
  congr 1; omega
theorem Ed.cell_kind {e : Ed} (h : e.seen.length = 8) : e.cells.toArray[10]? = some (Value.int .i64 e.kind) := by rw [List.getElem?_toArray]; exact Ed.cells_tail h 0
theorem Ed.cell_con {e : Ed} (h : e.seen.length = 8) : e.cells.toArray[11]? = some (Value.string e.con) := by rw [List.getElem?_toArray]; exact Ed.cells_tail h 1
theorem Ed.cell_fld {e : Ed} (h : e.seen.length = 8) : e.cells.toArray[12]? = some (Value.string e.fld) := by rw [List.getElem?_toArray]; exact Ed.cells_tail h 2
theorem Ed.cell_val {e : Ed} (h : e.seen.length = 8) : e.cells.toArray[13]? = some (Value.string e.val) := by rw [List.getElem?_toArray]; exact Ed.cells_tail h 3
theorem Ed.cell_time {e : Ed} (h : e.seen.length = 8) : e.cells.toArray[14]? = some (Value.int .i64 e.time) := by rw [List.getElem?_toArray]; exact Ed.cells_tail h 4
section
variable {w : World} {g : Nat} {T : TypeId} {e : Ed}
theorem ed_dev (h : Hid (w.heap[g]? = some (.cells e.cells.toArray T (0, 0)))) : w.cell? ⟨g, 0, none⟩ = some (.int .i64 e.dev) := by rw [cell_of_row _ _ _ _ _ _ h.out]; rfl
theorem ed_num (h : Hid (w.heap[g]? = some (.cells e.cells.toArray T (0, 0)))) : w.cell? ⟨g, 1, none⟩ = some (.int .i64 e.num) := by rw [cell_of_row _ _ _ _ _ _ h.out]; rfl
theorem ed_seen (h : Hid (w.heap[g]? = some (.cells e.cells.toArray T (0, 0)))) (k : Nat) (hk : k < e.seen.length) : w.cell? ⟨g, 2 + k, none⟩ = some (.int .i64 (iat e.seen k)) := by
  rw [cell_of_row _ _ _ _ _ _ h.out, List.getElem?_toArray, Ed.cells, List.getElem?_append_right (by simp), List.getElem?_append_left (by simp [i64v_len]; omega)]
  simp only [List.length_cons, List.length_nil]
  rw [show 2 + k - (0 + 1 + 1) = k by omega, i64v_at, iat_at hk]; rfl
theorem ed_kind (h : Hid (w.heap[g]? = some (.cells e.cells.toArray T (0, 0)))) (hl : e.seen.length = 8) : w.cell? ⟨g, 10, none⟩ = some (.int .i64 e.kind) := by rw [cell_of_row _ _ _ _ _ _ h.out]; exact Ed.cell_kind hl
theorem ed_con (h : Hid (w.heap[g]? = some (.cells e.cells.toArray T (0, 0)))) (hl : e.seen.length = 8) : w.cell? ⟨g, 11, none⟩ = some (.string e.con) := by rw [cell_of_row _ _ _ _ _ _ h.out]; exact Ed.cell_con hl
theorem ed_fld (h : Hid (w.heap[g]? = some (.cells e.cells.toArray T (0, 0)))) (hl : e.seen.length = 8) : w.cell? ⟨g, 12, none⟩ = some (.string e.fld) := by rw [cell_of_row _ _ _ _ _ _ h.out]; exact Ed.cell_fld hl
theorem ed_val (h : Hid (w.heap[g]? = some (.cells e.cells.toArray T (0, 0)))) (hl : e.seen.length = 8) : w.cell? ⟨g, 13, none⟩ = some (.string e.val) := by rw [cell_of_row _ _ _ _ _ _ h.out]; exact Ed.cell_val hl
theorem ed_time (h : Hid (w.heap[g]? = some (.cells e.cells.toArray T (0, 0)))) (hl : e.seen.length = 8) : w.cell? ⟨g, 14, none⟩ = some (.int .i64 e.time) := by rw [cell_of_row _ _ _ _ _ _ h.out]; exact Ed.cell_time hl
/-- Its dot, its vector, whole, as pieces of the row. -/
theorem ed_dotR (h : Hid (w.heap[g]? = some (.cells e.cells.toArray T (0, 0)))) : w.rangeAt g 0 [.int .i64 e.dev, .int .i64 e.num] := range_part [] [.int .i64 e.dev, .int .i64 e.num] _ h.out 0 rfl
theorem ed_seenR (h : Hid (w.heap[g]? = some (.cells e.cells.toArray T (0, 0)))) : w.rangeAt g 2 (i64v e.seen) := range_part [.int .i64 e.dev, .int .i64 e.num] (i64v e.seen) _ h.out 2 rfl
theorem ed_allR (h : Hid (w.heap[g]? = some (.cells e.cells.toArray T (0, 0)))) : w.rangeAt g 0 e.cells := range_row h.out
end
/-! Two held equal. -/
theorem eqf_step {P : Program} (w : World) (d : Nat) (xs ys : Array Value) (T : TypeId) (off : Nat) {n1 n2 n3 : String} {em : Bool} {bo : Nat} (fs : List Field) (a b : Value) (r : Bool) (hn : n1 ≠ "_") (ha : (part T xs off).run P w = .ok a w) (hb : (part T ys off).run P w = .ok b w) (hr : (Op.equalIn d T a b).run P w = .ok r w) :
    (Op.eqFields d xs ys (⟨n1, T, off, em, n2, n3, bo⟩ :: fs)).run P w = if r = true then (Op.eqFields d xs ys fs).run P w else .ok false w := by
  simp only [Op.eqFields, if_pos hn, Sem.run_bind, ha, hb, hr, Result.andThen_ok]
  cases r <;> simp
theorem eqf_end {P : Program} (w : World) (d : Nat) (xs ys : Array Value) : (Op.eqFields d xs ys []).run P w = .ok true w := rfl
theorem part_one {P : Program} {t : TypeId} {D : TypeDesc} (ht : P.underlying t = some D) (hD : (match D with | .struct _ | .array _ _ => true | _ => false) = false) (cs : Array Value) (off : Nat) (v : Value) (h : cs[off]? = some v) (w : World) : (part t cs off).run P w = .ok v w := by
  cases D <;> simp_all [part, isAgg, run_underlying ht]
theorem part_all {P : Program} {t : TypeId} {D : TypeDesc} {n : Nat} (ht : P.underlying t = some D) (hD : (match D with | .struct _ | .array _ _ => true | _ => false) = true) (hs : (P.info? t).map (·.size) = some n) (A B C : List Value) (off : Nat) (hA : A.length = off) (hB : B.length = n) (w : World) :
    (part t (A ++ (B ++ C)).toArray off).run P w = .ok (.agg B.toArray) w := by
  obtain ⟨i, hi', hi2⟩ := Option.map_eq_some_iff.1 hs
  have hsz : (sizeOf t).run P w = .ok n w := by simp [sizeOf, typeInfo, hi', hi2]
  have e : (A ++ (B ++ C)).toArray.extract off (off + n) = B.toArray := by
    subst hA hB
    simp [List.extract_toArray, List.extract]
  have ha : (isAgg t).run P w = .ok true w := by
    cases D <;> simp_all [isAgg, run_underlying ht]
  simp only [part, Sem.run_bind, ha, Result.andThen_ok, if_true, hsz, Sem.run_pure, e]
theorem text_beq (a b : ByteArray) : (a.toList == b.toList) = decide (a = b) := by
  rw [ByteArray.toList_eq, ByteArray.toList_eq, Bool.eq_iff_iff, beq_iff_eq, decide_eq_true_iff]
  exact ⟨fun h => ByteArray.ext (Array.toList_inj.1 h), fun h => by rw [h]⟩
section
variable {P : Program} {td ti tn w0 : TypeId}
set_option maxRecDepth 100000 in
/-- Dots. -/
theorem eq_dot {w : World} {a b c d : Int} (n : Nat) : (Op.equalIn (n + 2) 28 (.agg #[.int .i64 a, .int .i64 b]) (.agg #[.int .i64 c, .int .i64 d])).run Try.prog w = .ok (decide (a = c ∧ b = d)) w := by
  rw [run_equalIn_struct w (n + 1) 28 _ _ (by kernel_rfl) (by kernel_rfl), Program.fieldsOf]
  simp only [Try.underlying28]
  rw [eqf_step w _ _ _ 3 0 _ (.int .i64 a) (.int .i64 c) (a == c) (by decide) (part_one Try.underlying3 rfl _ _ _ rfl w) (part_one Try.underlying3 rfl _ _ _ rfl w) (run_equalIn_int w n _ .i64 .i64 a c Try.underlying3),
    eqf_step w _ _ _ 2 1 _ (.int .i64 b) (.int .i64 d) (b == d) (by decide) (part_one Try.underlying2 rfl _ _ _ rfl w) (part_one Try.underlying2 rfl _ _ _ rfl w) (run_equalIn_int w n _ .i64 .i64 b d Try.underlying2), eqf_end]
  by_cases h1 : a = c <;> by_cases h2 : b = d <;> simp [h1, h2]
end
theorem res_if (r q : Bool) (w : World) : (if r = true then Result.ok q w else Result.ok false w) = Result.ok (r && q) w := by cases r <;> rfl
theorem same_iff (a b : Ed) : a = b ↔ (a.dev = b.dev ∧ a.num = b.num) ∧ a.seen = b.seen ∧ a.kind = b.kind ∧ a.con = b.con ∧ a.fld = b.fld ∧ a.val = b.val ∧ a.time = b.time :=
  ⟨fun e => by subst e; simp, fun h => Ed.same h.1.1 h.1.2 h.2.1 h.2.2.1 h.2.2.2.1 h.2.2.2.2.1 h.2.2.2.2.2.1 h.2.2.2.2.2.2⟩
set_option maxRecDepth 100000 in
theorem eq_edit (n0 : Nat) (a b : Ed) (ha : a.seen.length = 8) (hb : b.seen.length = 8) (w : World) : (Op.equalIn (n0 + 3) 32 (.agg a.cells.toArray) (.agg b.cells.toArray)).run Try.prog w = .ok (decide (a = b)) w := by
  have hd : ∀ (e : Ed), (part 28 e.cells.toArray 0).run Try.prog w = .ok (.agg #[.int .i64 e.dev, .int .i64 e.num]) w := fun e => part_all Try.underlying28 rfl (n := 2) (by kernel_rfl) [] [.int .i64 e.dev, .int .i64 e.num] _ 0 rfl rfl w
  have hv : ∀ (e : Ed), e.seen.length = 8 → (part 30 e.cells.toArray 2).run Try.prog w = .ok (.agg (i64v e.seen).toArray) w := fun e he => part_all Try.underlying30 rfl (n := 8) (by kernel_rfl) [.int .i64 e.dev, .int .i64 e.num] (i64v e.seen) _ 2 rfl (by rw [i64v_len, he]) w
  have hq := eq_ints (P := Try.prog) Try.underlying30 Try.underlying2 Try.sizeI64 a.seen b.seen ha hb n0 w
  rw [run_equalIn_struct w (n0 + 2) 32 _ _ (by kernel_rfl) (by kernel_rfl), Program.fieldsOf]
  simp only [Try.underlying32]
  rw [eqf_step w _ _ _ 28 0 _ _ _ _ (by decide) (hd a) (hd b) (eq_dot n0),
    eqf_step w _ _ _ 30 2 _ _ _ _ (by decide) (hv a ha) (hv b hb) hq,
    eqf_step w _ _ _ 3 10 _ _ _ _ (by decide) (part_one Try.underlying3 rfl a.cells.toArray 10 _ (Ed.cell_kind ha) w) (part_one Try.underlying3 rfl b.cells.toArray 10 _ (Ed.cell_kind hb) w) (run_equalIn_int w (n0 + 1) _ .i64 .i64 a.kind b.kind Try.underlying3),
    eqf_step w _ _ _ 9 11 _ _ _ _ (by decide) (part_one Try.underlying9 rfl a.cells.toArray 11 _ (Ed.cell_con ha) w) (part_one Try.underlying9 rfl b.cells.toArray 11 _ (Ed.cell_con hb) w) (run_equalIn_string w (n0 + 1) _ a.con b.con Try.underlying9),
    eqf_step w _ _ _ 9 12 _ _ _ _ (by decide) (part_one Try.underlying9 rfl a.cells.toArray 12 _ (Ed.cell_fld ha) w) (part_one Try.underlying9 rfl b.cells.toArray 12 _ (Ed.cell_fld hb) w) (run_equalIn_string w (n0 + 1) _ a.fld b.fld Try.underlying9),
    eqf_step w _ _ _ 9 13 _ _ _ _ (by decide) (part_one Try.underlying9 rfl a.cells.toArray 13 _ (Ed.cell_val ha) w) (part_one Try.underlying9 rfl b.cells.toArray 13 _ (Ed.cell_val hb) w) (run_equalIn_string w (n0 + 1) _ a.val b.val Try.underlying9),
    eqf_step w _ _ _ 2 14 _ _ _ _ (by decide) (part_one Try.underlying2 rfl a.cells.toArray 14 _ (Ed.cell_time ha) w) (part_one Try.underlying2 rfl b.cells.toArray 14 _ (Ed.cell_time hb) w) (run_equalIn_int w (n0 + 1) _ .i64 .i64 a.time b.time Try.underlying2),
    eqf_end, text_beq, text_beq, text_beq]
  simp only [res_if]
  congr 1
  rw [Bool.eq_iff_iff, decide_eq_true_iff, same_iff]
  simp only [Bool.and_eq_true, decide_eq_true_eq, beq_iff_eq, and_true]
theorem eql_edit (a b : Ed) (ha : a.seen.length = 8) (hb : b.seen.length = 8) (o : Bool) (ho : decide (a = b) = o) (w : World) : (binOp .eql 32 (.agg a.cells.toArray) (.agg b.cells.toArray)).run Try.prog w = .ok (.bool o) w := by
  rw [run_eql_struct, eq_edit 9997 a b ha hb, ← ho]; rfl
theorem neq_edit (a b : Ed) (ha : a.seen.length = 8) (hb : b.seen.length = 8) (o : Bool) (ho : decide (a = b) = o) (w : World) : (binOp .neq 32 (.agg a.cells.toArray) (.agg b.cells.toArray)).run Try.prog w = .ok (.bool (!o)) w := by
  rw [run_neq_struct, eq_edit 9997 a b ha hb, ← ho]; rfl
end Go.Proofs.Ytncjobhpiohkkaa
namespace Go.Proofs.Ytncjobhpiohkkaa
open Go.RowKit

instance : Inhabited Ed := ⟨⟨0, 0, List.replicate 8 0, 0, ⟨#[]⟩, ⟨#[]⟩, ⟨#[]⟩, 0⟩⟩
/-- All bear vectors of eight. -/
def Se (L : List Ed) : Prop := ∀ e ∈ L, e.seen.length = 8
def flatE : List Ed → List Value
  | [] => []
  | e :: L => e.cells ++ flatE L
section
variable {L M : List Ed} {e : Ed}
theorem Se.nil : Se [] := fun e h => absurd h (by simp)
theorem Se.cons (he : e.seen.length = 8) (h : Se L) : Se (e :: L) := fun x hx => (List.mem_cons.1 hx).elim (fun h => by rw [h]; exact he) (h x)
theorem Se.app (h : Se L) (k : Se M) : Se (L ++ M) := fun x hx => (List.mem_append.1 hx).elim (h x) (k x)
theorem Se.take (h : Se L) (k : Nat) : Se (L.take k) := fun x hx => h x (List.mem_of_mem_take hx)
theorem Se.drop (h : Se L) (k : Nat) : Se (L.drop k) := fun x hx => h x (List.mem_of_mem_drop hx)
theorem Se.at_ (h : Se L) {k : Nat} (hk : k < L.length) : L[k].seen.length = 8 := h _ (List.getElem_mem hk)
theorem Se.get (h : Se L) {k : Nat} (hk : L[k]? = some e) : e.seen.length = 8 := h _ (List.mem_of_getElem? hk)
theorem flatE_app : ∀ (L M : List Ed), flatE (L ++ M) = flatE L ++ flatE M
  | [], M => rfl
  | e :: L, M => by rw [List.cons_append, flatE, flatE, flatE_app L M, List.append_assoc]
theorem flatE_len : ∀ {L : List Ed}, Se L → (flatE L).length = L.length * 15
  | [], _ => rfl
  | e :: L, h => by
    rw [flatE, List.length_append, Ed.cells_len (h e (by simp)), flatE_len fun x hx => h x (by simp [hx]), List.length_cons]; omega
theorem flatE_one : ∀ (L : List Ed), ∀ v ∈ flatE L, v.oneCell' = true
  | [], v, h => absurd h (by simp [flatE])
  | e :: L, v, h => by
    rw [flatE, List.mem_append] at h
    exact h.elim (Ed.cells_one e v) (flatE_one L v)
theorem flatE_split {k : Nat} (hk : k < L.length) : flatE L = flatE (L.take k) ++ (L[k].cells ++ flatE (L.drop (k + 1))) := by
  have h : L = L.take k ++ (L[k] :: L.drop (k + 1)) := by rw [List.getElem_cons_drop hk, List.take_append_drop]
  conv => lhs; rw [h]
  rw [flatE_app, flatE]
/-- One edit of a row. -/
theorem edit_range {w : World} {g : Nat} {T : TypeId} {s : List Value} {k : Nat} (hg : w.heap[g]? = some (.cells (flatE L ++ s).toArray T (0, 0))) (hs : Se L) (hk : L[k]? = some e) : w.rangeAt g (k * 15) e.cells := by
  obtain ⟨hlt, rfl⟩ := List.getElem?_eq_some_iff.1 hk
  have hl := flatE_len (hs.take k)
  rw [List.length_take, Nat.min_eq_left (by omega)] at hl
  have h2 : w.heap[g]? = some (.cells (flatE (L.take k) ++ (L[k].cells ++ (flatE (L.drop (k + 1)) ++ s))).toArray T (0, 0)) := by
    rw [hg, flatE_split hlt]; simp
  exact range_part _ _ _ h2 _ hl
theorem edit_splice {s : List Value} {k : Nat} (hs : Se L) (hk : k < L.length) (he : e.seen.length = 8) : splice (flatE L ++ s) (k * 15) e.cells = flatE (L.set k e) ++ s := by
  have hl := flatE_len (hs.take k)
  rw [List.length_take, Nat.min_eq_left (by omega)] at hl
  rw [flatE_split hk, flatE_split (L := L.set k e) (k := k) (by simpa using hk)]
  rw [show flatE (L.take k) ++ (L[k].cells ++ flatE (L.drop (k + 1))) ++ s = flatE (L.take k) ++ (L[k].cells ++ (flatE (L.drop (k + 1)) ++ s)) by simp]
  rw [splice_mid (k := 0) _ _ _ _ _ (by omega) (by rw [Ed.cells_len he, Ed.cells_len (hs.at_ hk)]; omega)]
  have hsp : splice L[k].cells 0 e.cells = e.cells := by
    rw [splice, List.take_zero, List.nil_append, Nat.zero_add, List.drop_of_length_le (by rw [Ed.cells_len he, Ed.cells_len (hs.at_ hk)]; omega), List.append_nil]
  rw [hsp, List.take_set_of_le (Nat.le_refl _), List.drop_set_of_lt (by omega)]
  simp
/-- An edit is stored in another's place. -/
theorem edit_stored {w : World} {g : Nat} {T : TypeId} {s : List Value} {k : Nat} (hg : w.heap[g]? = some (.cells (flatE L ++ s).toArray T (0, 0))) (hs : Se L) (hk : k < L.length) (he : e.seen.length = 8) :
    (w.setCells g (k * 15) e.cells).heap[g]? = some (.cells (flatE (L.set k e) ++ s).toArray T (0, 0)) ∧ But g w (w.setCells g (k * 15) e.cells) := by
  have hfit : k * 15 + e.cells.length ≤ (flatE L ++ s).length := by rw [Ed.cells_len he, List.length_append, flatE_len hs]; omega
  have h := setCells_row hg e.cells hfit (Ed.cells_one e)
  rw [h, edit_splice hs hk he]
  exact ⟨setRow_heap _ _ _ _ _ _ hg, (But.refl _ _).row _⟩
end
end Go.Proofs.Ytncjobhpiohkkaa
namespace Go.Proofs.Ytncjobhpiohkkaa
open Go.RowKit

theorem set_tail {e : Ed} (h : e.seen.length = 8) (k j : Nat) (hk : k = 10 + j) (u : Value) : e.cells.set k u = [.int .i64 e.dev, .int .i64 e.num] ++ (i64v e.seen ++ [.int .i64 e.kind, .string e.con, .string e.fld, .string e.val, .int .i64 e.time].set j u) := by
  subst hk
  rw [Ed.cells, List.set_append_right _ _ (by simp; omega), List.set_append_right _ _ (by simp [i64v_len, h]; omega)]
  simp only [List.length_cons, List.length_nil, i64v_len, h]
  congr 3; omega
section
variable {w : World} {g : Nat} {T : TypeId} {d n k t : Int} {s : List Int} {c f v : ByteArray}
theorem put_dev (h : Hid (w.heap[g]? = some (.cells (Ed.mk d n s k c f v t).cells.toArray T (0, 0)))) (x : Int) :
    Hid ((w.setCell ⟨g, 0, none⟩ (.int .i64 x)).heap[g]? = some (.cells (Ed.mk x n s k c f v t).cells.toArray T (0, 0))) := world_set_cell h.out 0 _
theorem put_num (h : Hid (w.heap[g]? = some (.cells (Ed.mk d n s k c f v t).cells.toArray T (0, 0)))) (x : Int) :
    Hid ((w.setCell ⟨g, 1, none⟩ (.int .i64 x)).heap[g]? = some (.cells (Ed.mk d x s k c f v t).cells.toArray T (0, 0))) := world_set_cell h.out 1 _
theorem put_kind (h : Hid (w.heap[g]? = some (.cells (Ed.mk d n s k c f v t).cells.toArray T (0, 0)))) (hs : s.length = 8) (x : Int) :
    Hid ((w.setCell ⟨g, 10, none⟩ (.int .i64 x)).heap[g]? = some (.cells (Ed.mk d n s x c f v t).cells.toArray T (0, 0))) := by
  have h2 := world_set_cell h.out 10 (.int .i64 x)
  rw [set_tail hs 10 0 rfl] at h2; exact h2
theorem put_con (h : Hid (w.heap[g]? = some (.cells (Ed.mk d n s k c f v t).cells.toArray T (0, 0)))) (hs : s.length = 8) (x : ByteArray) :
    Hid ((w.setCell ⟨g, 11, none⟩ (.string x)).heap[g]? = some (.cells (Ed.mk d n s k x f v t).cells.toArray T (0, 0))) := by
  have h2 := world_set_cell h.out 11 (.string x)
  rw [set_tail hs 11 1 rfl] at h2; exact h2
theorem put_fld (h : Hid (w.heap[g]? = some (.cells (Ed.mk d n s k c f v t).cells.toArray T (0, 0)))) (hs : s.length = 8) (x : ByteArray) :
    Hid ((w.setCell ⟨g, 12, none⟩ (.string x)).heap[g]? = some (.cells (Ed.mk d n s k c x v t).cells.toArray T (0, 0))) := by
  have h2 := world_set_cell h.out 12 (.string x)
  rw [set_tail hs 12 2 rfl] at h2; exact h2
theorem put_val (h : Hid (w.heap[g]? = some (.cells (Ed.mk d n s k c f v t).cells.toArray T (0, 0)))) (hs : s.length = 8) (x : ByteArray) :
    Hid ((w.setCell ⟨g, 13, none⟩ (.string x)).heap[g]? = some (.cells (Ed.mk d n s k c f x t).cells.toArray T (0, 0))) := by
  have h2 := world_set_cell h.out 13 (.string x)
  rw [set_tail hs 13 3 rfl] at h2; exact h2
theorem put_time (h : Hid (w.heap[g]? = some (.cells (Ed.mk d n s k c f v t).cells.toArray T (0, 0)))) (hs : s.length = 8) (x : Int) :
    Hid ((w.setCell ⟨g, 14, none⟩ (.int .i64 x)).heap[g]? = some (.cells (Ed.mk d n s k c f v x).cells.toArray T (0, 0))) := by
  have h2 := world_set_cell h.out 14 (.int .i64 x)
  rw [set_tail hs 14 4 rfl] at h2; exact h2
theorem put_seen (h : Hid (w.heap[g]? = some (.cells (Ed.mk d n s k c f v t).cells.toArray T (0, 0)))) (hs : s.length = 8) (x : List Int) (hx : x.length = 8) :
    Hid ((w.setCells g 2 (i64v x)).heap[g]? = some (.cells (Ed.mk d n x k c f v t).cells.toArray T (0, 0))) ∧ But g w (w.setCells g 2 (i64v x)) := by
  have e := setCells_row h.out (o := 2) (i64v x) (by rw [Ed.cells_len hs, i64v_len, hx]; decide) (i64v_one _)
  have e2 : splice (Ed.mk d n s k c f v t).cells 2 (i64v x) = (Ed.mk d n x k c f v t).cells := by
    rw [Ed.cells, splice_mid _ _ _ (i64v x) 2 0 rfl (by rw [i64v_len, i64v_len, hx, hs]; decide)]
    rw [show splice (i64v s) 0 (i64v x) = i64v x by
      simp only [splice, List.take_zero, List.nil_append]
      rw [List.drop_of_length_le (by rw [i64v_len, i64v_len, hx, hs]; decide), List.append_nil]]
    rfl
  rw [e2] at e
  rw [e]
  exact ⟨setRow_heap _ _ _ _ _ _ h.out, (But.refl _ _).row _⟩
theorem there_seen {e : Ed} (h : Hid (w.heap[g]? = some (.cells e.cells.toArray T (0, 0)))) (hs : e.seen.length = 8) (x : List Int) (hx : x.length = 8) : w.there g 2 (i64v x).toArray.size := by
  intro j hj
  rw [List.size_toArray, i64v_len, hx] at hj
  refine ⟨?_, frozen_of_row _ _ _ _ _ h.out⟩
  rw [ed_seen h j (by omega)]; rfl
end
def ed0 : Ed := ⟨0, 0, List.replicate 8 0, 0, ⟨#[]⟩, ⟨#[]⟩, ⟨#[]⟩, 0⟩
theorem ed0_len : ed0.seen.length = 8 := rfl
theorem zero_ed (w : World) : (zeroValue 32).run Try.prog w = .ok (.agg ed0.cells.toArray) w := by kernel_rfl
theorem built_ed0 : Try.prog.built 32 [] = some ed0.cells.toArray := by kernel_rfl
end Go.Proofs.Ytncjobhpiohkkaa
namespace Go.Proofs.Ytncjobhpiohkkaa
open Go.RowKit

theorem new_byted (w : World) (E : TypeId) (x : Int) (b : UInt8) (hx : x = (b.toNat : Int)) :
    ∀ j u, (bv [b])[j]? = some u → (w.alloc (.cells #[.int .u8 x] E)).drew.cell? ((⟨w.heap.size, 0, none⟩ : Addr).add j) = some u := new_byte w E x b hx

theorem append_nothing {P : Program} (w : World) {base t ty e size n c : Nat} {i : TypeInfo} {v : Value} {xs : List Value} (ht : P.underlying t = some (.slice e)) (hi : P.info? e = some i) (hown : w.ownsRow base e size v n xs) :
    (Builtin.append_ #[t, t] ty #[v, .slice none 0 c]).run P w = .ok v w := by
  rcases hown.2 with ⟨rfl, _⟩ | ⟨g, cap, cur, rfl, _, _, hle, _⟩
  · simp [Builtin.append_, run_underlying ht, typeInfo, sizeOf, hi, Builtin.lenOf, Builtin.firstCells]
  · simp [Builtin.append_, run_underlying ht, typeInfo, sizeOf, hi, Builtin.lenOf, Builtin.firstCells, storeCells, hle]

theorem wp_append_src {P : Program} (w : World) {ops : Array Oper} {rest : List Oper} {o : Oper} {a : Act} {Q : Exit → Act → World → Prop} (hgd : o.guard = none) (s x : Operand) (T : TypeId)
    (ho : o.op = .call { callee := .builtin .append, args := #[s, x], argTypes := #[T, T] }) (E : TypeId) (hT : P.underlying T = some (.slice E))
    (hI : (P.info? E).map (fun i => (i.zero, i.size, i.bytes)) = some (some (.int .u8 0), 1, 1)) (base : Nat) (A : Option Addr) (n c : Nat) (l : List UInt8) (hs : a.eval s = .slice A n c) (hr : Res w base E A n c l)
    (D : Option Addr) (m c2 : Nat) (hx : a.eval x = .slice D m c2) (B : Nat) (news : List UInt8) (hb : Byt w B D news) (hl : news.length = m) (hsz : n + m ≤ 140737488355328) (hbase : base ≤ w.heap.size)
    (h : ∀ A' c' w', Res w' base E A' (n + m) c' (l ++ news) → (∀ B w0, B ≤ base → Below B w0 w → Below B w0 w') → wpList P ops Q rest (a.put o.dst (.slice A' (n + m) c')) w') : wpList P ops Q (o :: rest) a w := by
  cases D with
  | some ad =>
    refine wp_append_bytes w hgd s x T ho E hT hI base A n c l hs hr ad m c2 hx news hl (fun j u hj => ?_) hsz hbase h
    have h0 : 0 < (bv news).length := Nat.lt_of_le_of_lt (Nat.zero_le _) (List.getElem?_eq_some_iff.1 hj).1
    obtain ⟨_, ad', he, hc⟩ := hb.src (some ⟨0, 0, none⟩) _ rfl h0
    injection he with he
    subst he
    exact hc j u hj
  | none =>
    have hn : news = [] := by
      rcases hb with h | ⟨_, _, h, _⟩
      · exact h
      · cases h
    subst hn
    subst hl
    obtain ⟨i, hi, _⟩ := info_parts hI
    refine wpList_plain hgd fun K hK => ?_
    have hrun := append_nothing (P := P) (ty := o.type) (c := c2) w hT hi hr
    unfold Oper.wp
    simp only [execOp, ho, resolve, invoke, builtin, Sem.run_bind, Sem.run_pure, Result.andThen_ok, List.map_toArray, List.map_cons, List.map_nil, hs, hx, List.length_nil, hrun]
    refine hK _ _ ?_
    have h2 := h A c w (by simpa using hr) (fun _ _ _ hb => hb)
    simpa using h2
end Go.Proofs.Ytncjobhpiohkkaa
namespace Go.Proofs.Ytncjobhpiohkkaa
open Go.RowKit

/-- Of what was there nothing has turned outside F. -/
structure Off (F : Nat → Prop) (w w' : World) : Prop where
  os : w'.os = w.os
  tape : w'.tape = w.tape
  output : w'.output = w.output
  size : w.heap.size ≤ w'.heap.size
  block : ∀ k, k < w.heap.size → ¬ F k → w'.heap[k]? = w.heap[k]?
section
variable {F G : Nat → Prop} {a w w' : World} {B g : Nat}
theorem Off.refl (F : Nat → Prop) (w : World) : Off F w w := ⟨rfl, rfl, rfl, Nat.le_refl _, fun _ _ _ => rfl⟩
/-- Two steps; what the second one calls its own was the first one's, or is new. -/
theorem Off.trans (h : Off F a w) (k : Off G w w') (hG : ∀ i, G i → F i ∨ a.heap.size ≤ i) : Off F a w' :=
  ⟨k.os.trans h.os, k.tape.trans h.tape, k.output.trans h.output, Nat.le_trans h.size k.size, fun i hi hn =>
    (k.block i (Nat.lt_of_lt_of_le hi h.size) (fun hg => by rcases hG i hg with h | h; exact hn h; omega)).trans (h.block i hi hn)⟩
theorem Off.mono (h : Off F a w) (hG : ∀ i, i < a.heap.size → F i → G i) : Off G a w := ⟨h.os, h.tape, h.output, h.size, fun i hi hn => h.block i hi fun hf => hn (hG i hi hf)⟩
theorem Off.of_below (h : Below B w w') (hF : ∀ i, i < w.heap.size → B ≤ i → F i) : Off F w w' := ⟨h.os, h.tape, h.output, h.size, fun i hi hn => h.block i (by
  rcases Nat.lt_or_ge i B with h | h
  · exact h
  · exact absurd (hF i hi h) hn)⟩
theorem Off.of_but (h : But g w w') (hF : F g) : Off F w w' := ⟨h.os, h.tape, h.output, h.size, fun i hi hn => h.block i hi fun e => by injection e with e; subst e; exact hn hF⟩
theorem Off.next (h : Off F a w) (k : Below w.heap.size w w') : Off F a w' := h.trans (G := fun _ => False) (Off.of_below k fun i hi hB => by omega) fun _ h => h.elim
theorem Off.drew (h : Off F a w) : Off F a w.drew := ⟨h.os, h.tape, h.output, h.size, h.block⟩
theorem Off.alloc (h : Off F a w) (o : Obj) : Off F a (w.alloc o) := h.next ((Below.refl _ _).alloc (Nat.le_refl _) o)
theorem Off.set (h : Off F a w) {i : Nat} (hg : F g ∨ a.heap.size ≤ g) (u : Value) : Off F a (w.setCell ⟨g, i, none⟩ u) :=
  h.trans (G := fun k => k = g) (Off.of_but ((But.refl g w).set u) rfl) fun k hk => by rw [hk]; exact hg
theorem Off.row (h : Off F a w) (hg : F g ∨ a.heap.size ≤ g) (cs : Array Value) : Off F a (w.setRow g cs) :=
  h.trans (G := fun k => k = g) (Off.of_but ((But.refl g w).row cs) rfl) fun k hk => by rw [hk]; exact hg
/-- Below B, if all of F lies from B on. -/
theorem Off.below (k : Off F w w') (h : Below B a w) (hF : ∀ i, F i → B ≤ i) (hs : B ≤ w.heap.size) : Below B a w' :=
  h.trans ⟨k.os, k.tape, k.output, k.size, fun i hi => k.block i (by omega) fun hf => by have := hF i hf; omega⟩
theorem Off.cell (h : Off F w w') {p : Addr} (hp : p.block < w.heap.size) (hF : ¬ F p.block) : w'.cell? p = w.cell? p := World.cell?_of_block (h.block p.block hp hF)
end
theorem Byt.off {F : Nat → Prop} {w w' : World} {B : Nat} {A : Option Addr} {l : List UInt8} (h : Byt w B A l) (hb : Off F w w') (hB : B ≤ w.heap.size) (hF : ∀ i, i < B → ¬ F i) : Byt w' B A l :=
  h.keep fun p hp => hb.cell (by omega) (hF _ hp)

/-- Bytes in a block of F. -/
def BytF (w : World) (F : Nat → Prop) (A : Option Addr) (l : List UInt8) : Prop :=
  l = [] ∨ ∃ g o, A = some ⟨g, o, none⟩ ∧ F g ∧ g < w.heap.size ∧ ∀ j b, l[j]? = some b → w.cell? ⟨g, o + j, none⟩ = some (.int .u8 (b.toNat : Int))
section
variable {F G : Nat → Prop} {w w' : World} {A : Option Addr} {l : List UInt8} {ps : List (List UInt8)} {base n c : Nat} {E : TypeId}
theorem BytF.none_ : BytF w F A [] := .inl rfl
theorem BytF.byt (h : BytF w F A l) : Byt w w.heap.size A l := by
  rcases h with h | ⟨g, o, hA, _, hg, hc⟩
  · exact .inl h
  · exact .inr ⟨g, o, hA, hg, hc⟩
theorem BytF.mono (h : BytF w F A l) (hG : ∀ i, i < w.heap.size → F i → G i) : BytF w G A l := by
  rcases h with h | ⟨g, o, hA, hF, hg, hc⟩
  · exact .inl h
  · exact .inr ⟨g, o, hA, hG g hg hF, hg, hc⟩
/-- What turns lies elsewhere. -/
theorem BytF.off (h : BytF w F A l) (hb : Off G w w') (hd : ∀ i, i < w.heap.size → F i → ¬ G i) : BytF w' F A l := by
  rcases h with h | ⟨g, o, hA, hF, hg, hc⟩
  · exact .inl h
  · exact .inr ⟨g, o, hA, hF, Nat.lt_of_lt_of_le hg hb.size, fun j b hj => (hb.cell (p := ⟨g, o + j, none⟩) hg (hd g hg hF)).trans (hc j b hj)⟩
theorem BytF.take (h : BytF w F A l) (k : Nat) : BytF w F A (l.take k) := by
  rcases h with h | ⟨g, o, hA, hF, hg, hc⟩
  · subst h; exact .inl (by simp)
  · refine .inr ⟨g, o, hA, hF, hg, fun j b hj => hc j b ?_⟩
    have hjk : j < k := by
      have := (List.getElem?_eq_some_iff.1 hj).1
      simp at this; omega
    rwa [List.getElem?_take_of_lt hjk] at hj
/-- A result of a call. -/
theorem Res.inF (h : Res w base E A n c l) (hF : ∀ i, base ≤ i → F i) : BytF w F A l := by
  rcases h.byt with h0 | ⟨g, o, hA, hg, hc⟩
  · exact .inl h0
  · rcases h.2 with ⟨h', h0⟩ | ⟨b, cap, cur, h', hb, _⟩
    · simp only [Value.slice.injEq] at h'
      rw [hA] at h'; exact absurd h'.1 (by simp)
    · simp only [Value.slice.injEq] at h'
      obtain ⟨h1, _, _⟩ := h'
      rw [hA] at h1
      injection h1 with h1
      injection h1 with h1 _
      subst h1
      exact .inr ⟨g, o, hA, hF g hb, hg, hc⟩
/-- Lists of bytes, each in blocks of F. -/
def PrtF (w : World) (F : Nat → Prop) (A : Option Addr) (ps : List (List UInt8)) : Prop :=
  ps = [] ∨ ∃ g o, A = some ⟨g, o, none⟩ ∧ F g ∧ g < w.heap.size ∧ ∀ j p, ps[j]? = some p → ∃ Aj nj cj, w.cell? ⟨g, o + j, none⟩ = some (.slice Aj nj cj) ∧ p.length = nj ∧ nj ≤ cj ∧ BytF w F Aj p
theorem PrtF.mono (h : PrtF w F A ps) (hG : ∀ i, i < w.heap.size → F i → G i) : PrtF w G A ps := by
  rcases h with h | ⟨g, o, hA, hF, hg, hc⟩
  · exact .inl h
  · refine .inr ⟨g, o, hA, hG g hg hF, hg, fun j p hj => ?_⟩
    obtain ⟨Aj, nj, cj, h1, h2, h3, h4⟩ := hc j p hj
    exact ⟨Aj, nj, cj, h1, h2, h3, h4.mono hG⟩
theorem PrtF.off (h : PrtF w F A ps) (hb : Off G w w') (hd : ∀ i, i < w.heap.size → F i → ¬ G i) : PrtF w' F A ps := by
  rcases h with h | ⟨g, o, hA, hF, hg, hc⟩
  · exact .inl h
  · refine .inr ⟨g, o, hA, hF, Nat.lt_of_lt_of_le hg hb.size, fun j p hj => ?_⟩
    obtain ⟨Aj, nj, cj, h1, h2, h3, h4⟩ := hc j p hj
    exact ⟨Aj, nj, cj, (hb.cell (p := ⟨g, o + j, none⟩) hg (hd g hg hF)).trans h1, h2, h3, h4.off hb hd⟩
end
end Go.Proofs.Ytncjobhpiohkkaa
namespace Go.Proofs.Ytncjobhpiohkkaa
open Go.RowKit

section
variable {P : Program} {ops : Array Oper} {Q : Exit → Act → World → Prop} {md : Region.Mode} {S : World → Prop} {c : Nat}
def wpAnyC (P : Program) (md : Region.Mode) (ops : Array Oper) (Q : Exit → Act → World → Prop) (S : World → Prop) (c : Nat) : Nat → Array Bool → Act → World → Prop
  | 0, listed, a, w => Region.ready md ops listed = [] ∧ Q .normal a w
  | fuel + 1, listed, a, w =>
    (Region.ready md ops listed = [] → Q .normal a w) ∧
    ∀ i ∈ Region.ready md ops listed, wpOp P ops Q i (fun a' w' => ((listed.setIfInBounds i true).getD c true = false → S w') ∧ wpAnyC P md ops Q S c fuel (listed.setIfInBounds i true) a' w') a w
theorem any_of_c : ∀ (fuel : Nat) (listed : Array Bool) (a : Act) (w : World), wpAnyC P md ops Q S c fuel listed a w → wpAny P md ops Q fuel listed a w
  | 0, _, _, _, h => h
  | fuel + 1, _, _, _, h => ⟨h.1, fun i hi => wpOp_mono (fun a' w' h' => any_of_c fuel _ a' w' h'.2) (h.2 i hi)⟩
theorem getD_stays {listed : Array Bool} {i c : Nat} (h : listed.getD c true = true) : (listed.setIfInBounds i true).getD c true = true := by
  by_cases hic : i = c
  · subst hic
    rcases Nat.lt_or_ge i listed.size with h' | h'
    · simp [h']
    · simp
  · rw [getD_set_ne true hic]; exact h
/-- Behind c another condition may be held, or none. -/
theorem c_of_held {S' : World → Prop} : ∀ (fuel : Nat) (listed : Array Bool) (a : Act) (w : World), listed.getD c true = true → wpAnyH P md ops Q S' fuel listed a w → wpAnyC P md ops Q S c fuel listed a w
  | 0, _, _, _, _, h => h
  | fuel + 1, _, _, _, hc, h => ⟨h.1, fun i hi => wpOp_mono (fun a' w' h' => ⟨fun h0 => (by rw [getD_stays hc] at h0; cases h0), c_of_held fuel _ a' w' (getD_stays hc) h'.2⟩) (h.2 i hi)⟩
theorem c_first {S' : World → Prop} {i : Nat} {oi : Oper} {v : Value} (hi : ops[i]? = some oi) (hsel : ∀ (j : Nat) (o : Oper) cs b, ops[j]? = some o → o.op ≠ .select cs b) (hci : i ≠ c)
    (hQ : ∀ x a w, Q (.panic x) (a.put oi.dst v) w → Q (.panic x) a w) :
    ∀ (fuel : Nat) (listed : Array Bool) (a : Act) (w : World),
      (∀ j oj, ops[j]? = some oj → j ≠ i → listed.getD j true = false → (∀ e ∈ oj.after, Region.binds md e = true → e.on ≠ i) → oi.apart ops oj = true) →
      i ∈ Region.ready md ops listed → YieldsIf P ops S' oi v a →
      ((∀ w, S' w) ∨ ((∀ w, S w → S' w) ∧ Region.waitsFor md ops c i = true ∧ listed.getD c true = false)) → (listed.getD c true = false → S w) →
      wpAnyC P md ops Q S c fuel (listed.setIfInBounds i true) (a.put oi.dst v) w → wpAnyC P md ops Q S c (fuel + 1) listed a w := by
  intro fuel
  induction fuel with
  | zero =>
    intro listed a w _ hr hy hcond hS H
    have hS' : S' w := hcond.elim (fun h => h w) (fun h => h.1 w (hS h.2.2))
    refine ⟨fun h => (by rw [h] at hr; cases hr), fun j hj => ?_⟩
    by_cases hji : j = i
    · subst hji; exact hy.wpOp hi hS' ⟨fun h0 => hS (by rwa [getD_set_ne true hci] at h0), H⟩
    · have := ready_mono hj hji
      rw [H.1] at this
      cases this
  | succ fuel ih =>
    intro listed a w hfree hr hy hcond hS H
    have hS' : S' w := hcond.elim (fun h => h w) (fun h => h.1 w (hS h.2.2))
    refine ⟨fun h => (by rw [h] at hr; cases hr), fun j hj => ?_⟩
    by_cases hji : j = i
    · subst hji; exact hy.wpOp hi hS' ⟨fun h0 => hS (by rwa [getD_set_ne true hci] at h0), H⟩
    · have h1 := H.2 j (ready_mono hj hji)
      obtain ⟨hjun, oj, hoj, hall⟩ := mem_ready.1 hj
      have hnot : ∀ e ∈ oj.after, Region.binds md e = true → e.on ≠ i := fun e he hb heq => by
        have h1 := hall e he hb
        have h0 := (mem_ready.1 hr).1
        rw [heq] at h1
        rcases Nat.lt_or_ge i listed.size with h' | h'
        · simp [h'] at h0 h1; rw [h0] at h1; cases h1
        · simp [Array.getElem?_eq_none h'] at h1
      have h2 := wpOp_putIf hoj (hfree j oj hoj hji hjun hnot) (fun cs b => hsel i oi cs b hi) (fun cs b => hsel j oj cs b hoj) hQ hy h1
      have hfree' : ∀ k ok, ops[k]? = some ok → k ≠ i → (listed.setIfInBounds j true).getD k true = false →
          (∀ e ∈ ok.after, Region.binds md e = true → e.on ≠ i) → oi.apart ops ok = true := fun k ok hk hki hun hno => by
        refine hfree k ok hk hki ?_ hno
        by_cases hjk : j = k
        · subst hjk; exact hjun
        · rw [getD_set_ne true hjk] at hun; exact hun
      have hcond' : (∀ w, S' w) ∨ ((∀ w, S w → S' w) ∧ Region.waitsFor md ops c i = true ∧ (listed.setIfInBounds j true).getD c true = false) := by
        rcases hcond with h | ⟨h3, h4, h5⟩
        · exact .inl h
        · have hjc : j ≠ c := by
            rintro rfl
            obtain ⟨oj', hoj', e, he, hb, hon⟩ := Region.waitsFor_spec h4
            obtain rfl := Option.some.inj (hoj'.symm.trans hoj)
            exact hnot e he hb hon
          exact .inr ⟨h3, h4, by rw [getD_set_ne true hjc]; exact h5⟩
      refine wpOp_mono (fun a' w' h3 => ?_) h2
      have hS3 : (listed.setIfInBounds j true).getD c true = false → S w' := fun h0 => h3.2.1 (by rw [Array.setIfInBounds_comm _ _ (Ne.symm hji), getD_set_ne true hci]; exact h0)
      refine ⟨hS3, ih (listed.setIfInBounds j true) a' w' hfree' (ready_mono hr (Ne.symm hji)) h3.1 hcond' hS3 ?_⟩
      rw [Array.setIfInBounds_comm _ _ hji]
      exact h3.2.2

/-- An operation that yields in whatever world. -/
theorem c_take {i : Nat} {oi : Oper} {v : Value} {fuel : Nat} {listed : Array Bool} {a : Act} {w : World} (hi : ops[i]? = some oi) (hci : i ≠ c)
    (hs : Region.noSelect ops = true) (hf : Region.free md ops listed i = true) (hr : (Region.ready md ops listed).contains i = true)
    (hQ : ∀ c a w, Q (.panic c) (a.put oi.dst v) w → Q (.panic c) a w) (hy : YieldsIf P ops (fun _ => True) oi v a) (hS : S w)
    (h : wpAnyC P md ops Q S c fuel (listed.setIfInBounds i true) (a.put oi.dst v) w) : wpAnyC P md ops Q S c (fuel + 1) listed a w :=
  c_first hi (Region.noSelect_spec hs) hci hQ fuel listed a w (Region.free_spec hi hf) (by simpa using hr) hy (.inl fun _ => trivial) (fun _ => hS) h
/-- An operation that yields in every world that meets S, and that c waits for. -/
theorem c_read {i : Nat} {oi : Oper} {v : Value} {fuel : Nat} {listed : Array Bool} {a : Act} {w : World} (hi : ops[i]? = some oi) (hci : i ≠ c)
    (hs : Region.noSelect ops = true) (hf : Region.free md ops listed i = true) (hr : (Region.ready md ops listed).contains i = true) (hw : Region.waitsFor md ops c i = true) (hun : listed.getD c true = false)
    (hQ : ∀ c a w, Q (.panic c) (a.put oi.dst v) w → Q (.panic c) a w) (hy : YieldsIf P ops S oi v a) (hS : S w)
    (h : wpAnyC P md ops Q S c fuel (listed.setIfInBounds i true) (a.put oi.dst v) w) : wpAnyC P md ops Q S c (fuel + 1) listed a w :=
  c_first hi (Region.noSelect_spec hs) hci hQ fuel listed a w (Region.free_spec hi hf) (by simpa using hr) hy (.inr ⟨fun _ h => h, hw, hun⟩) (fun _ => hS) h
/-- Another operation, where nothing else can come up; S stays. -/
theorem c_step {i : Nat} {o : Oper} {fuel : Nat} {listed : Array Bool} {a : Act} {w : World} (hr : Region.ready md ops listed = [i]) (ho : ops[i]? = some o)
    (h : ∀ K' : Act → World → Prop, Shut (∀ a w, S w → (S w → wpAnyC P md ops Q S c fuel (listed.setIfInBounds i true) a w) → K' a w) → if Region.wanted o (yielded ops a.tmps) = true then Oper.wp P o a w K' Q else K' (a.put o.dst undef) w) :
    wpAnyC P md ops Q S c (fuel + 1) listed a w := by
  refine ⟨fun h0 => (by rw [hr] at h0; cases h0), fun j hj => ?_⟩
  rw [hr] at hj
  obtain rfl : j = i := by simpa using hj
  exact wpOp_step ho (fun K' hK => h K' (fun a w hS hW => hK a w ⟨fun _ => hS, hW hS⟩))
/-- c itself, where nothing else can come up; behind it S' is held. -/
theorem c_call {S' : World → Prop} {o : Oper} {fuel : Nat} {listed : Array Bool} {a : Act} {w : World} (hr : Region.ready md ops listed = [c]) (hl : (listed.setIfInBounds c true).getD c true = true) (ho : ops[c]? = some o)
    (h : ∀ K' : Act → World → Prop, Shut (∀ a w, S' w → (S' w → wpAnyH P md ops Q S' fuel (listed.setIfInBounds c true) a w) → K' a w) → if Region.wanted o (yielded ops a.tmps) = true then Oper.wp P o a w K' Q else K' (a.put o.dst undef) w) :
    wpAnyC P md ops Q S c (fuel + 1) listed a w := by
  refine ⟨fun h0 => (by rw [hr] at h0; cases h0), fun i hi => ?_⟩
  rw [hr] at hi
  obtain rfl : i = c := by simpa using hi
  exact wpOp_step ho (fun K' hK => h K' (fun a w hS hW => hK a w ⟨fun h0 => (by rw [hl] at h0; cases h0), c_of_held fuel _ a w hl (hW hS)⟩))
theorem c_start {id : Nat} {a : Act} {w : World} (c : Nat) (hm : P.follows .mixedOrders = true) (hS : S w.drew)
    (h : S w.drew → wpAnyC P .any ops Q S c ops.size (Array.replicate ops.size false) a w.drew) : (Code.region id ops true).wp P Q a w :=
  wp_region_any hm (any_of_c _ _ _ _ (h hS))
end

/-- A number is stored into a block that is known whole, as one step of a region that draws its order. -/
theorem step_set {P : Program} {ops : Array Oper} {o : Oper} {a : Act} {w : World} {K : Act → World → Prop} {Q : Exit → Act → World → Prop} {E : Prop} (hgd : o.guard = none) (ty : TypeId) (x y : Operand) (ho : o.op = .store ty x y)
    (hs : (P.info? ty).map (·.size) = some 1) (g k : Nat) (hx : a.eval x = .pointer (some ⟨g, k, none⟩)) (kd : IntKind) (n : Int) (hy : a.eval y = .int kd n) (cs : List Value) (t : TypeId)
    (hg : w.heap[g]? = some (.cells cs.toArray t (0, 0))) (hk : k < cs.length) (w0 : World) (hb : But g w0 w)
    (h : ∀ w', Hid (w'.heap[g]? = some (.cells (cs.set k (.int kd n)).toArray t (0, 0))) → But g w0 w' → K (a.put o.dst undef) w') :
    if Region.wanted o (yielded ops a.tmps) = true then Oper.wp P o a w K Q else E := by
  have hw : Region.wanted o (yielded ops a.tmps) = true := by simp [Region.wanted, hgd]
  rw [if_pos hw]
  obtain ⟨i, hi', hi2⟩ := Option.map_eq_some_iff.1 hs
  have hc : w.cell? ⟨g, k, none⟩ = some cs[k] := by rw [cell_of_row _ _ _ _ _ _ hg]; simp [hk]
  have hf : w.frozen? ⟨g, k, none⟩ = false := frozen_of_row _ _ _ _ _ hg
  have h1 := heap_setCell_same w g k _ _ (.int kd n) hg
  have h2 := h (w.setCell ⟨g, k, none⟩ (.int kd n)) (show _ = _ by rw [h1]; simp) (hb.set _)
  unfold Oper.wp
  simp [execOp, ho, hx, hy, Instr.storeAt, Instr.sureAddr, storeVar, sizeOf, typeInfo, hi', hi2, Value.cells, storeCells, run_store_int, stored, hc, hf, addr_add]
  exact h2
end Go.Proofs.Ytncjobhpiohkkaa
namespace Go.Proofs.Ytncjobhpiohkkaa
open Go.RowKit

/-- append(own, news..), elements of any size: the row is the old one or a new one. -/
theorem append_big {P : Program} (w : World) {t ty e size bytes : Nat} {z : Value} (ht : P.underlying t = some (.slice e)) (hI : (P.info? e).map (fun i => (i.zero, i.size, i.bytes)) = some (some z, size, bytes)) (hz : z.cells.size = size) (hp : 0 < size)
    {A : Option Addr} {n c : Nat} {xs : List Value} (hown : w.ownsRow 0 e size (.slice A n c) n xs) (a : Addr) (m c2 : Nat) (news : List Value) (hl : news.length = m * size) (hnews : ∀ j u, news[j]? = some u → w.cell? (a.add j) = some u) (h1 : ∀ u ∈ news, u.oneCell' = true)
    (hsz : (n + m) * 256 ≤ 140737488355328) (hby : bytes ≤ 256) :
    ∃ A' c' w', (Builtin.append_ #[t, t] ty #[.slice A n c, .slice (some a) m c2]).run P w = .ok (.slice A' (n + m) c') w' ∧ w'.ownsRow 0 e size (.slice A' (n + m) c') (n + m) (xs ++ news) ∧ w.grownBy w' ((A.map (·.block))) ∧
      (∀ p, A' = some p → (∃ q, A = some q ∧ p.block = q.block) ∨ w.heap.size ≤ p.block) ∧ (c < n + m → A' = some ⟨w.heap.size, 0, none⟩ ∧ Below w.heap.size w w') := by
  obtain ⟨i, hi, hz1, hz2, hz3⟩ := info_parts hI
  have hmx : n + m ≤ maxLen := by unfold maxLen; omega
  have hby2 : (n + m) * bytes ≤ 140737488355328 := Nat.le_trans (Nat.mul_le_mul_left _ hby) hsz
  obtain ⟨v', w', hrun, hown', hgr, _⟩ := run_append_own (P := P) w 0 t ty e i z size bytes ht hi hz1 hz2 hz3 hz hp _ n xs hown a m c2 news hl hnews h1 hmx hby2 (Nat.zero_le _)
  have hv : ∃ A' c', v' = .slice A' (n + m) c' := by
    rcases hown'.2 with ⟨rfl, h0⟩ | ⟨g, cap, cur, rfl, _⟩
    · exact ⟨none, 0, by rw [h0]⟩
    · exact ⟨_, _, rfl⟩
  obtain ⟨A', c', rfl⟩ := hv
  have hgr2 : w.grownBy w' (A.map (·.block)) := by cases A <;> exact hgr
  have key : (∀ p, A' = some p → (∃ q, A = some q ∧ p.block = q.block) ∨ w.heap.size ≤ p.block) ∧ (c < n + m → A' = some ⟨w.heap.size, 0, none⟩ ∧ Below w.heap.size w w') := by
    rcases hown.2 with ⟨hv, h0⟩ | ⟨g, cap, cur, hv, _, hg, hle, hcm, hcs, htk⟩
    · obtain ⟨v2, w2, hrun2, hown2, hg2, hnil⟩ := run_append_own (P := P) w w.heap.size t ty e i z size bytes ht hi hz1 hz2 hz3 hz hp _ n xs (⟨hown.1, .inl ⟨hv, h0⟩⟩ : w.ownsRow w.heap.size e size (.slice A n c) n xs) a m c2 news hl hnews h1 hmx hby2 (Nat.le_refl _)
      rw [hrun] at hrun2
      injection hrun2 with e1 e2
      subst e1 e2
      have hv2 := hv
      simp only [Value.slice.injEq] at hv2
      obtain ⟨hA, hn, hc⟩ := hv2
      refine ⟨fun p hp => ?_, fun hlt => ?_⟩
      · subst hp
        rcases hown2.2 with ⟨h, _⟩ | ⟨g, _, _, h, hb, _⟩
        · simp at h
        · simp only [Value.slice.injEq, Option.some.injEq] at h
          right; rw [h.1]; exact hb
      · have hx : xs = [] := List.eq_nil_of_length_eq_zero (by rw [hown.1, hn]; simp)
        subst hA hn hc hx
        have hr := run_append_nil (P := P) w t ty e i z ht hi hz1 a m c2 news (by rw [hz2]; exact hl) hnews (by omega) (by omega) (by rw [hz3]; have := Nat.mul_le_mul_left m hby; omega)
        rw [hrun] at hr
        injection hr with e1 e2
        simp only [Value.slice.injEq] at e1
        refine ⟨e1.1, ?_⟩
        rw [e2]; exact ((Below.refl _ _).drew).alloc (Nat.le_refl _) _
    · simp only [Value.slice.injEq] at hv
      obtain ⟨rfl, _, rfl⟩ := hv
      by_cases hroom : n + m ≤ c
      · have hr := run_append_room (P := P) w t ty e i ht hi g n c cur hg a m c2 news (by rw [hz2]; exact hl) hnews h1 hroom (by rw [hz2, hl, hcs, ← Nat.add_mul]; exact Nat.mul_le_mul_right _ hroom)
        rw [hrun] at hr
        injection hr with e1 _
        simp only [Value.slice.injEq] at e1
        exact ⟨fun p hp => by rw [e1.1] at hp; injection hp with hp; left; exact ⟨_, rfl, by rw [← hp]⟩, fun h => by omega⟩
      · have hr := run_append_grow (P := P) w t ty e i z ht hi hz1 ⟨g, 0, none⟩ n c xs (by rw [hz2]; exact hown.1) (hown.cells (g := g) rfl) a m c2 news (by rw [hz2]; exact hl) hnews (by omega) (by omega) (growslice_fits (by omega) (by rw [hz3]; exact hby2))
        rw [hrun] at hr
        injection hr with e1 e2
        simp only [Value.slice.injEq] at e1
        refine ⟨fun p hp => by rw [e1.1] at hp; injection hp with hp; right; rw [← hp]; exact Nat.le_refl _, fun _ => ⟨e1.1, ?_⟩⟩
        rw [e2]; exact ((Below.refl _ _).drew).alloc (Nat.le_refl _) _
  exact ⟨A', c', w', hrun, hown', hgr2, key.1, key.2⟩

theorem append_big_none {P : Program} (w : World) {t ty e size c2 : Nat} {i : TypeInfo} (ht : P.underlying t = some (.slice e)) (hi : P.info? e = some i) {A : Option Addr} {n c : Nat} {xs : List Value} (hown : w.ownsRow 0 e size (.slice A n c) n xs) :
    (Builtin.append_ #[t, t] ty #[.slice A n c, .slice none 0 c2]).run P w = .ok (.slice A n c) w := append_nothing w ht hi hown

/-- The same as one step of a region that draws its order, the source of whatever address. -/
theorem step_append_big {P : Program} (w : World) {ops : Array Oper} {o : Oper} {a : Act} {K : Act → World → Prop} {Q : Exit → Act → World → Prop} {E' : Prop} (hgd : o.guard = none) (s x : Operand) (T : TypeId)
    (ho : o.op = .call { callee := .builtin .append, args := #[s, x], argTypes := #[T, T] }) (E : TypeId) (hT : P.underlying T = some (.slice E)) (z : Value) (size bytes : Nat)
    (hI : (P.info? E).map (fun i => (i.zero, i.size, i.bytes)) = some (some z, size, bytes)) (hz : z.cells.size = size) (hp : 0 < size) (hby : bytes ≤ 256) (A : Option Addr) (n c : Nat) (xs : List Value) (hs : a.eval s = .slice A n c) (hown : w.ownsRow 0 E size (.slice A n c) n xs)
    (D : Option Addr) (m c2 : Nat) (hx : a.eval x = .slice D m c2) (news : List Value) (hsrc : m ≠ 0 → ∃ d, D = some d ∧ ∀ j u, news[j]? = some u → w.cell? (d.add j) = some u) (h1 : ∀ u ∈ news, u.oneCell' = true) (hl : news.length = m * size) (hsz : (n + m) * 256 ≤ 140737488355328)
    (h : ∀ A' c' w', w'.ownsRow 0 E size (.slice A' (n + m) c') (n + m) (xs ++ news) → w.grownBy w' (A.map (·.block)) → (∀ p, A' = some p → (∃ q, A = some q ∧ p.block = q.block) ∨ w.heap.size ≤ p.block) → (c < n + m → A' = some ⟨w.heap.size, 0, none⟩ ∧ Below w.heap.size w w') → (m = 0 → w' = w ∧ A' = A) → K (a.put o.dst (.slice A' (n + m) c')) w') :
    if Region.wanted o (yielded ops a.tmps) = true then Oper.wp P o a w K Q else E' := by
  have hw : Region.wanted o (yielded ops a.tmps) = true := by simp [Region.wanted, hgd]
  rw [if_pos hw]
  obtain ⟨i, hi, hz1, hz2, hz3⟩ := info_parts hI
  by_cases hm : m = 0
  · subst hm
    have hnn : news = [] := List.eq_nil_of_length_eq_zero (by simpa using hl)
    subst hnn
    have hrun : (Builtin.append_ #[T, T] o.type #[.slice A n c, .slice D 0 c2]).run P w = .ok (.slice A n c) w := by
      rcases hown.2 with ⟨hv, _⟩ | ⟨g, cap, cur, hv, _, _, hle, _⟩
      · rw [hv]; cases D <;> simp [Builtin.append_, run_underlying hT, typeInfo, sizeOf, hi, Builtin.lenOf, Builtin.firstCells, loadCells, loadCellsFrom]
      · rw [hv]; cases D <;> simp [Builtin.append_, run_underlying hT, typeInfo, sizeOf, hi, Builtin.lenOf, Builtin.firstCells, storeCells, loadCells, loadCellsFrom, hle]
    unfold Oper.wp
    simp only [execOp, ho, resolve, invoke, builtin, Sem.run_bind, Sem.run_pure, Result.andThen_ok, List.map_toArray, List.map_cons, List.map_nil, hs, hx, hrun]
    have h2 := h A c w (by simpa using hown) ⟨rfl, rfl, rfl, Nat.le_refl _, fun _ _ _ => rfl⟩ (fun p hp => .inl ⟨p, hp, rfl⟩) (fun hlt => by
      exfalso
      rcases hown.2 with ⟨hv, h0⟩ | ⟨g, cap, cur, hv, _, _, hle, _⟩
      · simp only [Value.slice.injEq] at hv; omega
      · simp only [Value.slice.injEq] at hv; omega) (fun _ => ⟨rfl, rfl⟩)
    have h3 : K (a.put o.dst (.slice A n c)) w := by simpa using h2
    exact h3
  · obtain ⟨d, rfl, hnews⟩ := hsrc hm
    obtain ⟨A', c', w', hrun, h2, h3, h4, h5⟩ := append_big (P := P) (ty := o.type) w hT hI hz hp hown d m c2 news hl hnews h1 hsz hby
    unfold Oper.wp
    simp only [execOp, ho, resolve, invoke, builtin, Sem.run_bind, Sem.run_pure, Result.andThen_ok, List.map_toArray, List.map_cons, List.map_nil, hs, hx, hrun]
    exact h A' c' w' h2 h3 h4 h5 fun e => absurd e hm
end Go.Proofs.Ytncjobhpiohkkaa
namespace Go.Proofs.Ytncjobhpiohkkaa
open Go.RowKit

/-! Merged. -/
def bmergeT : List Ed → List Ed → List Ed × Int
  | T, [] => (T, 0)
  | T, e :: es => if (badd T e).2 = 0 then bmergeT (badd T e).1 es else (T, (badd T e).2)
def bmerge (L M : List Ed) : List Ed × Int := if (bmergeT L M).2 = 0 then bmergeT L M else (L, (bmergeT L M).2)
/-- Is there one of each of one number that are unlike? -/
def Fork (L M : List Ed) : Prop := ∃ x ∈ L, ∃ y ∈ M, sdot x y ∧ x ≠ y
theorem Fork.turn {L M : List Ed} (h : Fork L M) : Fork M L := by
  obtain ⟨x, hx, y, hy, hd, hn⟩ := h
  exact ⟨y, hy, x, hx, ⟨hd.1.symm, hd.2.symm⟩, fun e => hn e.symm⟩
theorem merge_all : ∀ {M L : List Ed}, BGood L → (∀ y ∈ M, y.good = true ∧ y.seen.length = 8) → M.Pairwise (fun a b => elt a b = true) → ¬ Fork L M → L.length + M.length ≤ 500 →
    (bmergeT L M).2 = 0 ∧ BGood (bmergeT L M).1 ∧ (∀ x, x ∈ (bmergeT L M).1 ↔ x ∈ L ∨ x ∈ M) ∧ (bmergeT L M).1.length ≤ L.length + M.length
  | [], L, hL, _, _, _, _ => ⟨rfl, hL, fun x => by simp [bmergeT], by simp [bmergeT]⟩
  | e :: M, L, hL, hg, hp, hf, hr => by
    simp only [List.length_cons] at hr
    rw [List.pairwise_cons] at hp
    have hge := hg e (by simp)
    have h0 : (badd L e).2 = 0 := badd_yes hge.1 (fun x hx hd => Decidable.byContradiction fun hn => hf ⟨x, hx, e, by simp, hd, hn⟩) (by omega)
    have hl := badd_len (L := L) (e := e)
    have hf2 : ¬ Fork (badd L e).1 M := by
      rintro ⟨x, hx, y, hy, hd, hn⟩
      rcases mem_badd.1 hx with hx | hx
      · exact hf ⟨x, hx, y, by simp [hy], hd, hn⟩
      · rw [hx.2] at hd
        exact elt_apart (hp.1 y hy) hd
    have ih := merge_all (L := (badd L e).1) (badd_good hL hge.2) (fun y hy => hg y (by simp [hy])) hp.2 hf2 (by omega)
    rw [bmergeT, if_pos h0]
    refine ⟨ih.1, ih.2.1, fun x => ?_, by rw [List.length_cons]; have := ih.2.2.2; omega⟩
    rw [ih.2.2.1, mem_badd, h0, List.mem_cons]
    constructor
    · rintro ((h | h) | h)
      · exact .inl h
      · exact .inr (.inl h.2)
      · exact .inr (.inr h)
    · rintro (h | h | h)
      · exact .inl (.inl h)
      · exact .inl (.inr ⟨rfl, h⟩)
      · exact .inr h
theorem merge_fork : ∀ {M L : List Ed}, BGood L → (∀ y ∈ M, y.good = true ∧ y.seen.length = 8) → Fork L M → L.length + M.length ≤ 500 → (bmergeT L M).2 = 10
  | [], L, _, _, h, _ => by obtain ⟨x, _, y, hy, _⟩ := h; exact absurd hy (by simp)
  | e :: M, L, hL, hg, hf, hr => by
    simp only [List.length_cons] at hr
    have hge := hg e (by simp)
    have hl := badd_len (L := L) (e := e)
    rw [bmergeT]
    by_cases hc : ∃ x ∈ L, sdot x e ∧ x ≠ e
    · obtain ⟨x, hx, hd, hn⟩ := hc
      have h10 : (badd L e).2 = 10 := by
        rw [badd, if_pos hge.1, if_neg (fun he => hn (hL.one hx he hd)), if_pos ⟨x, hx, hd⟩]
      rw [if_neg (by rw [h10]; decide), h10]
    · have h0 : (badd L e).2 = 0 := badd_yes hge.1 (fun x hx hd => Decidable.byContradiction fun hn => hc ⟨x, hx, hd, hn⟩) (by omega)
      rw [if_pos h0]
      refine merge_fork (badd_good hL hge.2) (fun y hy => hg y (by simp [hy])) ?_ (by omega)
      obtain ⟨x, hx, y, hy, hd, hn⟩ := hf
      rcases List.mem_cons.1 hy with rfl | hy
      · exact absurd ⟨x, hx, hd, hn⟩ hc
      · exact ⟨x, mem_badd.2 (.inl hx), y, hy, hd, hn⟩
/-- Both ways: one answer; the same book, or nothing is changed. -/
theorem merge_two {L M : List Ed} (hL : BGood L) (hM : BGood M) (hr : L.length + M.length ≤ 500) :
    (bmerge L M).2 = (bmerge M L).2 ∧ ((bmerge L M).2 = 0 ∧ (bmerge L M).1 = (bmerge M L).1 ∧ (bmerge L M).1.length ≤ L.length + M.length ∨ (bmerge L M).2 = 10 ∧ (bmerge L M).1 = L ∧ (bmerge M L).1 = M) := by
  by_cases hf : Fork L M
  · have h1 := merge_fork hL hM.good hf hr
    have h2 := merge_fork hM hL.good hf.turn (by omega)
    rw [bmerge, bmerge, if_neg (by rw [h1]; decide), if_neg (by rw [h2]; decide), h1, h2]
    exact ⟨rfl, .inr ⟨rfl, rfl, rfl⟩⟩
  · have h1 := merge_all hL hM.good hM.sorted hf hr
    have h2 := merge_all hM hL.good hL.sorted (fun h => hf h.turn) (by omega)
    rw [bmerge, bmerge, if_pos h1.1, if_pos h2.1]
    exact ⟨h1.1.trans h2.1.symm, .inl ⟨h1.1, book_ext h1.2.1 h2.2.1 fun x => by rw [h1.2.2.1, h2.2.2.1, Or.comm], h1.2.2.2⟩⟩
theorem bmerge_good {L M : List Ed} (hL : BGood L) (hM : ∀ y ∈ M, y.seen.length = 8) : BGood (bmerge L M).1 := by
  have h : ∀ {M L : List Ed}, BGood L → (∀ y ∈ M, y.seen.length = 8) → BGood (bmergeT L M).1 := by
    intro M
    induction M with
    | nil => intro L hL _; exact hL
    | cons e M ih =>
      intro L hL hM
      rw [bmergeT]
      split
      · exact ih (badd_good hL (hM e (by simp))) fun y hy => hM y (by simp [hy])
      · exact hL
  rw [bmerge]
  split
  · exact h hL hM
  · exact hL

/-! One more. -/
theorem ball_filter {L : List Ed} {c f : ByteArray} (h : BGood L) : ((blive L).filter fun x => decide (x.con = c) && decide (x.fld = f)).Pairwise (fun a b => eless a b = true) := (blive_sorted h).filter _
theorem mem_ball {L : List Ed} {c f : ByteArray} {x : Ed} : x ∈ ((blive L).filter fun x => decide (x.con = c) && decide (x.fld = f)) ↔ (x ∈ L ∧ isLive L x = true) ∧ x.con = c ∧ x.fld = f := by
  rw [List.mem_filter, mem_blive]; simp
/-- The one that has seen all, and that none has seen. -/
theorem last_all {L : List Ed} {e : Ed} (hL : BGood L) (hg : e.good = true) (hl : e.seen.length = 8) (hk : e.kind = 1) (hr : L.length < 500) (hs : ∀ x ∈ L, vhas e.seen x.dev x.num = true) (hn : ∀ x ∈ L, vhas x.seen e.dev e.num = false) :
    (badd L e).2 = 0 ∧ ball (badd L e).1 e.con e.fld = [e.val] := by
  have hf := Ed.fine hg
  have h0 : (badd L e).2 = 0 := badd_yes hg (fun x hx hd => by
    have h := hs x hx
    rw [vhas, decide_eq_true_iff, hd.1, hd.2] at h
    have := hf.prev
    omega) hr
  refine ⟨h0, ?_⟩
  have hB := badd_good hL hl
  rw [ball]
  have hm : ∀ x, x ∈ ((blive (badd L e).1).filter fun x => decide (x.con = e.con) && decide (x.fld = e.fld)) ↔ x ∈ [e] := by
    intro x
    rw [mem_ball, List.mem_singleton, isLive_iff]
    constructor
    · rintro ⟨⟨hx, h1, h2⟩, h3, h4⟩
      rcases mem_badd.1 hx with hx | hx
      · have h5 := h2 e (mem_badd.2 (.inr ⟨h0, rfl⟩))
        have h6 := hs x hx
        rw [eover, h1, h6, h3, h4, hk] at h5
        simp at h5
      · exact hx.2
    · rintro rfl
      refine ⟨⟨mem_badd.2 (.inr ⟨h0, rfl⟩), hk, fun y hy => ?_⟩, rfl, rfl⟩
      rcases mem_badd.1 hy with hy | hy
      · exact over_not (hn y hy)
      · rw [hy.2]; exact over_own hg
  rw [sorted_ext eless_strict (ball_filter hB) (List.pairwise_singleton ..) hm]
  rfl
/-- One that is of another field leaves a field as it was. -/
theorem other_all {L : List Ed} {e : Ed} {c f : ByteArray} (hL : BGood L) (hl : e.seen.length = 8) (hk : e.kind = 1) (hn : ¬ (e.con = c ∧ e.fld = f)) : ball (badd L e).1 c f = ball L c f := by
  have hB := badd_good hL hl
  rw [ball, ball]
  refine congrArg _ (sorted_ext eless_strict (ball_filter hB) (ball_filter hL) fun x => ?_)
  rw [mem_ball, mem_ball, isLive_iff, isLive_iff]
  constructor
  · rintro ⟨⟨hx, h1, h2⟩, h3⟩
    rcases mem_badd.1 hx with hx | hx
    · exact ⟨⟨hx, h1, fun y hy => h2 y (mem_badd.2 (.inl hy))⟩, h3⟩
    · exact absurd (hx.2 ▸ h3) hn
  · rintro ⟨⟨hx, h1, h2⟩, h3⟩
    refine ⟨⟨mem_badd.2 (.inl hx), h1, fun y hy => ?_⟩, h3⟩
    rcases mem_badd.1 hy with hy | hy
    · exact h2 y hy
    · rw [hy.2]
      cases ho : eover e x
      · rfl
      · exfalso
        simp only [eover, Bool.and_eq_true, Bool.or_eq_true, decide_eq_true_eq] at ho
        obtain ⟨⟨⟨_, _⟩, h4⟩, h5⟩ := ho
        rcases h5 with h5 | h5
        · omega
        · exact hn ⟨h4.trans h3.1, h5.2.trans h3.2⟩
theorem nodup_len {α : Type} [DecidableEq α] : ∀ {l m : List α}, l.Nodup → (∀ x ∈ l, x ∈ m) → l.length ≤ m.length
  | [], _, _, _ => Nat.zero_le _
  | x :: l, m, hl, hs => by
    rw [List.nodup_cons] at hl
    have h1 := nodup_len (l := l) (m := m.erase x) hl.2 (fun y hy => (List.mem_erase_of_ne (fun (e : y = x) => hl.1 (by rw [← e]; exact hy))).2 (hs y (by simp [hy])))
    rw [List.length_erase_of_mem (hs x (by simp))] at h1
    have : 0 < m.length := List.length_pos_of_mem (hs x (by simp))
    rw [List.length_cons]; omega
/-- What is live then was live, or is it. -/
theorem grows_all {L : List Ed} {e : Ed} {c f : ByteArray} (hL : BGood L) (hl : e.seen.length = 8) :
    (ball (badd L e).1 c f).length ≤ (ball L c f).length + (if e.con = c ∧ e.fld = f then 1 else 0) := by
  have hB := badd_good hL hl
  have hN := sorted_nodup eless_strict (ball_filter (c := c) (f := f) hB)
  rw [ball, ball, List.length_map, List.length_map]
  have hm : ∀ x ∈ ((blive (badd L e).1).filter fun x => decide (x.con = c) && decide (x.fld = f)), x ∈ ((blive L).filter fun x => decide (x.con = c) && decide (x.fld = f)) ++ (if e.con = c ∧ e.fld = f then [e] else []) := by
    intro x hx
    rw [mem_ball, isLive_iff] at hx
    obtain ⟨⟨hx, h1, h2⟩, h3⟩ := hx
    rw [List.mem_append]
    rcases mem_badd.1 hx with hx | hx
    · exact .inl (mem_ball.2 ⟨⟨hx, isLive_iff.2 ⟨h1, fun y hy => h2 y (mem_badd.2 (.inl hy))⟩⟩, h3⟩)
    · rw [hx.2] at h3
      rw [if_pos h3, hx.2]; exact .inr (by simp)
  have h := nodup_len hN hm
  rw [List.length_append] at h
  split at h
  · rename_i hc; rw [if_pos hc]; exact h
  · rename_i hc; rw [if_neg hc]; exact h
theorem grows_vec {L : List Ed} {e : Ed} (hL : BGood L) (hl : e.seen.length = 8) : vle (bvec L) (bvec (badd L e).1) = true := by
  have hB := badd_good hL hl
  rw [vle_iff (bvec_len hL) (bvec_len hB)]
  exact (bvec_upto hL).le (bvec_upto hB) fun x hx => mem_badd.2 (.inl hx)
end Go.Proofs.Ytncjobhpiohkkaa
namespace Go.Proofs.Ytncjobhpiohkkaa
open Go.RowKit

/-- Edits in whatever order, however often: one book. -/
theorem order_same {es fs : List Ed} (hc : ∀ x ∈ es, ∀ y ∈ es, sdot x y → x = y) (hl : ∀ x ∈ es, x.seen.length = 8) (hm : ∀ x, x ∈ es ↔ x ∈ fs) (h1 : es.length ≤ 500) (h2 : fs.length ≤ 500) : badds [] es = badds [] fs := by
  refine book_ext (badds_good BGood.nil hl) (badds_good BGood.nil fun x hx => hl x ((hm x).2 hx)) fun x => ?_
  rw [mem_badds (by simpa using hc) (by simpa using h1), mem_badds (by
    intro x hx y hy
    rw [List.nil_append] at hx hy
    exact hc x ((hm x).2 hx) y ((hm y).2 hy)) (by simpa using h2), hm]

/-- A book of i edits of one device, each with the number that Next told. -/
structure OneDev (L : List Ed) (d i : Nat) : Prop where
  book : BGood L
  len : L.length = i
  each : ∀ x ∈ L, x.dev = (d : Int) ∧ 1 ≤ x.num ∧ x.num ≤ (i : Int)
  upto : iat (bvec L) d = (i : Int)
  none : ∀ k, k < 8 → k ≠ d → iat (bvec L) k = 0
theorem OneDev.nil (d : Nat) : OneDev [] d 0 := by
  have hz : ∀ k, iat (List.replicate 8 0) k = 0 := by
    intro k
    rw [iat, List.getD_eq_getElem?_getD, List.getElem?_replicate]
    split <;> rfl
  exact ⟨BGood.nil, rfl, fun x h => absurd h (by simp), hz d, fun k _ _ => hz k⟩
theorem OneDev.step {L : List Ed} {d i : Nat} {e : Ed} (h : OneDev L d i) (hd : d < 8) (hi : i < 500) (hg : e.good = true) (he : e.dev = (d : Int)) (hn : e.num = (i : Int) + 1) (hs : e.seen = bvec L) (hk : e.kind = 1) :
    (badd L e).2 = 0 ∧ OneDev (badd L e).1 d (i + 1) ∧ ball (badd L e).1 e.con e.fld = [e.val] ∧ ∀ c f, ¬ (e.con = c ∧ e.fld = f) → ball (badd L e).1 c f = ball L c f := by
  have hl : e.seen.length = 8 := by rw [hs]; exact bvec_len h.book
  have hB := badd_good h.book hl
  have hup := bvec_upto h.book
  have hlast := last_all h.book hg hl hk (by rw [h.len]; exact hi) (fun x hx => by
    have h1 := h.each x hx
    rw [vhas, decide_eq_true_iff, hs, h1.1, Int.toNat_natCast, h.upto]
    omega) (fun x hx => by
    have h1 := h.each x hx
    have h2 := (Ed.fine (h.book.good x hx).1).prev
    rw [h1.1, Int.toNat_natCast] at h2
    rw [vhas, decide_eq_false_iff_not, he, Int.toNat_natCast, h2]
    omega)
  have hx0 := hlast.1
  have hu := bvec_upto hB
  have heach : ∀ x ∈ (badd L e).1, x.dev = (d : Int) ∧ 1 ≤ x.num ∧ x.num ≤ ((i + 1 : Nat) : Int) := by
    intro x hx
    rcases mem_badd.1 hx with hx | hx
    · have := h.each x hx; omega
    · rw [hx.2]; omega
  refine ⟨hx0, ⟨hB, ?_, heach, ?_, fun k hk8 hkd => ?_⟩, hlast.2, fun c f hc => other_all h.book hl hk hc⟩
  · have hin : e ∉ L := fun hx => by have := h.each e hx; omega
    have hnd : ¬ ∃ x ∈ L, sdot x e := fun ⟨x, hx, hdd⟩ => by have := h.each x hx; have := hdd.2; omega
    rw [badd, if_pos hg, if_neg hin, if_neg hnd, if_neg (by rw [h.len]; omega), ins_len, h.len]
  · by_cases hlt : iat (bvec (badd L e).1) d < (i : Int) + 1
    · exfalso
      have hp := hu.pos d hd
      by_cases hle : iat (bvec (badd L e).1) d + 1 ≤ (i : Int)
      · obtain ⟨x, hx, h1, h2⟩ := hup.all d hd (iat (bvec (badd L e).1) d + 1) (by omega) (by rw [h.upto]; exact hle)
        have h3 := hu.gap x (mem_badd.2 (.inl hx))
        rw [h1, Int.toNat_natCast] at h3
        exact h3 h2
      · have h3 := hu.gap e (mem_badd.2 (.inr ⟨hx0, rfl⟩))
        rw [he, Int.toNat_natCast] at h3
        omega
    · by_cases hgt : (i : Int) + 1 < iat (bvec (badd L e).1) d
      · obtain ⟨x, hx, h1, h2⟩ := hu.all d hd (iat (bvec (badd L e).1) d) (by omega) (Int.le_refl _)
        have := heach x hx
        omega
      · omega
  · have hp := hu.pos k hk8
    by_cases hz : iat (bvec (badd L e).1) k = 0
    · exact hz
    · obtain ⟨x, hx, h1, h2⟩ := hu.all k hk8 (iat (bvec (badd L e).1) k) (by omega) (Int.le_refl _)
      have := heach x hx
      omega
end Go.Proofs.Ytncjobhpiohkkaa
namespace Go.Proofs.Ytncjobhpiohkkaa
open Go.RowKit

section
variable {P : Program} {t e n : Nat} (ht : P.underlying t = some (.array n e)) (he : P.underlying e = some (.int .u8)) (hs : (P.info? e).map (·.size) = some 1)
include ht he hs
theorem part_bytes (l : List UInt8) (k : Nat) (b : UInt8) (hb : l[k]? = some b) (w : World) : (part e (bv l).toArray (k * 1)).run P w = .ok (.int .u8 (b.toNat : Int)) w := by
  obtain ⟨i, hi', hi2⟩ := Option.map_eq_some_iff.1 hs
  have h1 : (bv l)[k]? = some (.int .u8 (b.toNat : Int)) := by rw [bv_at, hb]; rfl
  have _ := ht
  simp [part, isAgg, run_underlying he, h1]
theorem eq_bytes_same (l : List UInt8) (hl : l.length = n) (d : Nat) (w : World) : (Op.equalIn (d + 2) t (.agg (bv l).toArray) (.agg (bv l).toArray)).run P w = .ok true w := by
  obtain ⟨i, hi', hi2⟩ := Option.map_eq_some_iff.1 hs
  have hp := part_bytes ht he hs l
  have hfor : ∀ (is : List Nat), (∀ k ∈ is, k < l.length) → (forIn (m := Sem) is ((none : Option Bool), ()) fun i _ => do
      let a ← part e (bv l).toArray (i * 1)
      let b ← part e (bv l).toArray (i * 1)
      let r ← Op.equalIn (d + 1) e a b
      if (!r) = true then pure (ForInStep.done (some false, ())) else pure (ForInStep.yield (none, ()))).run P w = .ok (none, ()) w := by
    intro is
    induction is with
    | nil => intro _; simp
    | cons k ks ih =>
      intro hk
      have hk1 : k < l.length := hk k (by simp)
      have h1 := hp k l[k] (List.getElem?_eq_getElem hk1)
      have h2 := ih (fun j hj => hk j (by simp [hj]))
      rw [List.forIn_cons]
      simp only [Sem.run_bind, h1, Result.andThen_ok, run_equalIn_int w d e .u8 .u8 _ _ he]
      simpa using h2
  rw [Op.equalIn]
  have hsz : (sizeOf e).run P w = .ok 1 w := by simp [sizeOf, typeInfo, hi', hi2]
  simp only [Sem.run_bind, run_underlying ht, Result.andThen_ok, hsz]
  have hr := hfor (List.range' 0 n) (fun k hk => by rw [hl]; simpa using hk)
  simp only [Std.Legacy.Range.forIn_eq_forIn_range', Std.Legacy.Range.size, Nat.sub_zero, Nat.add_one_sub_one, Nat.div_one, hr]
  simp
theorem eql_bytes_same (l : List UInt8) (hl : l.length = n) (w : World) : (binOp .eql t (.agg (bv l).toArray) (.agg (bv l).toArray)).run P w = .ok (.bool true) w := by
  rw [run_eql_struct, eq_bytes_same ht he hs l hl 9998 w]
  rfl
end
/-- Operations with a guard that says yes: a whole row is read, an array is built, two arrays are held against each other. -/
theorem wpList_wanted {P : Program} {ops : Array Oper} {rest : List Oper} {o : Oper} {a : Act} {w : World} {Q : Exit → Act → World → Prop} (hw : Region.wanted o (yielded ops a.tmps) = true)
    (h : ∀ K : Act → World → Prop, (∀ a w, wpList P ops Q rest a w → K a w) → o.wp P a w K Q) : wpList P ops Q (o :: rest) a w :=
  wpList_step fun K hK => by rw [if_pos hw]; exact h K hK
theorem wpList_load_row_w {P : Program} {ops : Array Oper} {rest : List Oper} {o : Oper} {a : Act} {w : World} {Q : Exit → Act → World → Prop} (hw : Region.wanted o (yielded ops a.tmps) = true) (ty : TypeId) (x : Operand) (ho : o.op = .load ty x)
    (g : Nat) (hx : a.eval x = .pointer (some ⟨g, 0, none⟩)) (t : TypeId) (cs : Array Value) (fr : Nat × Nat) (d : TypeDesc) (hg : w.heap[g]? = some (.cells cs t fr))
    (hu : P.underlying ty = some d) (hd : (match d with | .struct _ | .array _ _ => true | _ => false) = true) (hi : (P.info? ty).map (·.size) = some cs.size)
    (h : wpList P ops Q rest (a.put o.dst (.agg cs)) w) : wpList P ops Q (o :: rest) a w :=
  wpList_wanted hw fun _ hK => wp_load_row ty x ho g hx t cs fr d hg hu hd hi (hK _ _ h)
theorem wpList_build_w {P : Program} {ops : Array Oper} {rest : List Oper} {o : Oper} {a : Act} {w : World} {Q : Exit → Act → World → Prop} (hw : Region.wanted o (yielded ops a.tmps) = true) (t : TypeId) (parts : Array (Nat × Operand)) (ho : o.op = .build t parts) (lst : List (Nat × Value)) (hp : (parts.map fun (i, x) => (i, a.eval x)).toList = lst) (cs : Array Value) (hf : P.built t lst = some cs)
    (h : wpList P ops Q rest (a.put o.dst (.agg cs)) w) : wpList P ops Q (o :: rest) a w :=
  wpList_wanted hw fun _ hK => wp_build t parts ho (by rw [hp, hf]; rfl) (by rw [hp, hf]; exact hK _ _ h)
theorem wpList_eql_w {P : Program} {ops : Array Oper} {rest : List Oper} {o : Oper} {a : Act} {w : World} {Q : Exit → Act → World → Prop} (hw : Region.wanted o (yielded ops a.tmps) = true) (t s : TypeId) (x y : Operand) (ho : o.op = .binOp .eql t x y s)
    (hm : P.eqGuardType P.depth t = false) (xs ys : Array Value) (hx : a.eval x = .agg xs) (hy : a.eval y = .agg ys) (b : Bool) (hr : (binOp .eql t (.agg xs) (.agg ys)).run P w = .ok (.bool b) w) (h : wpList P ops Q rest (a.put o.dst (.bool b)) w) : wpList P ops Q (o :: rest) a w :=
  wpList_wanted hw fun K hK => by
    have hg := run_eqGuard_agg (P := P) (w := w) .eql t x y xs ys hm
    unfold Oper.wp
    simp only [execOp, ho, hx, hy, Sem.run_bind, hg, hr, Result.andThen_ok]
    exact hK _ _ h
end Go.Proofs.Ytncjobhpiohkkaa
