/-
  Words and contracts that other texts share, several in one text. No statement of the seat is proved here. Conditions: as each contract says.
  Words for bytes in memory that the other texts of this seat share: no statement is proved here. Conditions: none.
  Contracts of package octet's inner functions width and roomier: what each returns, for every input that fits. Conditions: lengths up to 2^47.
  The lowest bytes of a number, as lists: words that other texts share. No statement is proved here. Conditions: none.
  The number that bytes tell: words that other texts share. No statement is proved here. Conditions: none.
  Arrays and rows in memory: words that the contracts of other texts share. No statement is proved here. Conditions: none.
  Pieces of slices, literals, growth, new blocks: words that the contracts of other texts share. No statement is proved here. Conditions: none.
  New blocks, whole rows, small words: what the contracts of other texts share. No statement is proved here. Conditions: none.
  Numbers in four pieces of 64 bits: words that the contracts of field share. No statement is proved here. Conditions: none.
  One law on regions that draw their order, for the texts of this seat: the condition that is held may be made stronger on the way. Conditions: none.
  Words of 64 bits, words of 32 bytes as numbers, the contract of bits.Mul64: what field and scalar share. No statement is proved here. Conditions: none.
  The words of small numbers: what the laws of field and scalar share. No statement is proved here. Conditions: none.
  The bytes of a number in four pieces: words that the contract of told uses. No statement is proved here. Conditions: none.
  Words as numbers modulo the prime: no statement is proved here. Conditions: none.
  Contracts of field's step, sum and row. Conditions: none.
  Contracts of field's folded, plus, beneath and minus. Conditions: what goes over is at most 38.
  Contract of octet.FromLittle: the number that up to eight bytes tell, EARG of more. Conditions: the slice is shorter than 2^47 bytes.
  The beginning of an array behind a pointer. No statement is proved here. Conditions: none.
  Contracts of field's beneath, minus and numberOf. Conditions: a word has 32 bytes.
  A result's cells, read and written: words that other texts share. No statement is proved here. Conditions: none.
  Contract of field's told: the number modulo the prime, its 32 bytes. Conditions: none.
  Contract of field's times. Conditions: none.
  Contract of field's power. Conditions: none.
  Two arrays of the same bytes are equal: a law for the walks of this seat. Conditions: none.
  A range of bytes that is known whole: a word for regions that draw their order. No statement is proved here. Conditions: none.
  Contracts of field's Norm, Add, Sub, Mul, Power, Inv: each answer is the word of its number modulo the prime. Conditions: none.
  Two arrays of bytes, held against each other: a law for the walks of this seat. Conditions: none.
  Contracts of field's Inv, Of, Good. Conditions: Of's number has 64 bits.
  Constant words, an array built in a region that draws its order, powers by squaring: words that the laws of this seat share. No statement is proved here. Conditions: none.
-/
import Derived.WalkKit
import Derived.Below
import Derived.Lib.Hide
import Derived.Laws.CopyOwn
import Derived.Laws.BytesArg
import Derived.Laws.BytesString
import Derived.Laws.OwnMore
import Derived.Deep.Draws
import Derived.OpenShut
import Derived.Test.YtehkalbiomagjaaDoorChecked
import Derived.WalkLawsBesides
import Derived.WalkSpells
import Derived.Outline
import Derived.LoopTactic
import Derived.Laws.Shifts
import Derived.Laws.ShiftsVar
import Derived.Laws.BitsAllLaws
import Derived.Laws.Rows
import Derived.Laws.Tables
import Derived.Deep.MidRow
import Derived.Deep.WholeRow
import Derived.Deep.RegionLaw
import Derived.Lib.SlBytesConst
import Derived.ArgAppend
import Derived.Deep.Cut
import Derived.IntWalk
import Derived.BigRegion
import Derived.BigQuiet
import Derived.RegionTactic
import Derived.Deep.QuietTactic
import Derived.Laws.Cover3
import Derived.Laws.Externs
import Derived.Laws.ResultCell
import Derived.Lib.Mul64
import Derived.Deep.RegionHeld3
import Derived.Laws.StructEq
namespace Go.Proofs.YtehkalbiomagjaaDoor
open Go.RowKit

/-- Bytes as the cells of a row. -/
def bv (l : List UInt8) : List Value := l.map fun b => Value.int .u8 (b.toNat : Int)
theorem bv_len (l : List UInt8) : (bv l).length = l.length := by simp [bv]
theorem bv_app (l m : List UInt8) : bv (l ++ m) = bv l ++ bv m := by simp [bv]
theorem bv_nil : bv [] = [] := rfl
theorem bv_at (l : List UInt8) (k : Nat) : (bv l)[k]? = l[k]?.map fun b => Value.int .u8 (b.toNat : Int) := by simp [bv]
theorem bv_one (l : List UInt8) : ∀ u ∈ bv l, u.oneCell' = true := by
  intro u hu
  obtain ⟨b, _, rfl⟩ := List.mem_map.1 hu
  rfl
theorem bv_set (l : List UInt8) (k : Nat) (b : UInt8) : (bv l).set k (.int .u8 (b.toNat : Int)) = bv (l.set k b) := by simp [bv, List.map_set]
theorem bv_take (l : List UInt8) (k : Nat) : (bv l).take k = bv (l.take k) := by simp [bv, List.map_take]
theorem bv_rep (n : Nat) : List.replicate n (Value.int .u8 0) = bv (List.replicate n 0) := by simp [bv]
/-- One byte out of a number below 256. -/
theorem bv_single (c : Nat) (hc : c < 256) : [Value.int .u8 (c : Int)] = bv [UInt8.ofNat c] := by
  simp [bv, Nat.mod_eq_of_lt hc]

theorem ofNat_toNat (b : UInt8) : UInt8.ofNat b.toNat = b := by simp

/-- What a slice at A holds: the bytes l, in a block below B. Of an empty one nothing is asked. -/
def Byt (w : World) (B : Nat) (A : Option Addr) (l : List UInt8) : Prop :=
  l = [] ∨ ∃ g o, A = some ⟨g, o, none⟩ ∧ g < B ∧ ∀ j b, l[j]? = some b → w.cell? ⟨g, o + j, none⟩ = some (.int .u8 (b.toNat : Int))

section
variable {w w' : World} {B B' : Nat} {A : Option Addr} {l : List UInt8}
theorem Byt.none_ : Byt w B A [] := .inl rfl
theorem Byt.keep (h : Byt w B A l) (hk : ∀ p : Addr, p.block < B → w'.cell? p = w.cell? p) : Byt w' B A l := by
  rcases h with h | ⟨g, o, hA, hg, hc⟩
  · exact .inl h
  · exact .inr ⟨g, o, hA, hg, fun j b hb => (hk ⟨g, o + j, none⟩ hg).trans (hc j b hb)⟩
theorem Byt.below (h : Byt w B A l) (hb : Below B w w') : Byt w' B A l := h.keep fun _ hp => hb.cell hp
theorem Byt.up (h : Byt w B A l) (hB : B ≤ B') : Byt w B' A l := by
  rcases h with h | ⟨g, o, hA, hg, hc⟩
  · exact .inl h
  · exact .inr ⟨g, o, hA, by omega, hc⟩
theorem Byt.drewN (h : Byt w B A l) (k : Nat) : Byt (w.drewN k) B A l := h
theorem Byt.drew (h : Byt w B A l) : Byt w.drew B A l := h
theorem Byt.alloc (h : Byt w B A l) (hB : B ≤ w.heap.size) (o : Obj) : Byt (w.alloc o) B A l := h.below ((Below.refl _ _).alloc hB o)
/-- The byte at k, as a number. -/
theorem Byt.at_ (h : Byt w B A l) {k : Nat} (hk : k < l.length) :
    ∃ g o c : Nat, A = some ⟨g, o, none⟩ ∧ g < B ∧ c < 256 ∧ w.cell? ⟨g, o + k, none⟩ = some (.int .u8 (c : Int)) ∧ Hid (l[k]? = some (UInt8.ofNat c)) := by
  rcases h with h | ⟨g, o, hA, hg, hc⟩
  · subst h; simp at hk
  · exact ⟨g, o, l[k].toNat, hA, hg, UInt8.toNat_lt _, hc k _ (List.getElem?_eq_getElem hk), show _ = _ by rw [ofNat_toNat]; exact List.getElem?_eq_getElem hk⟩
theorem Byt.of_own {base E n c : Nat} (h : w.ownsRow base E 1 (.slice A n c) n (bv l)) : Byt w w.heap.size A l := by
  rcases h.2 with ⟨h', h0⟩ | ⟨g, cap, cur, h', hb, hg, hnc, hcm, hcs, htake⟩
  · refine .inl (List.eq_nil_of_length_eq_zero ?_)
    have := h.1; rw [bv_len] at this; omega
  · simp only [Value.slice.injEq] at h'
    obtain ⟨rfl, _, rfl⟩ := h'
    refine .inr ⟨g, 0, rfl, (Array.getElem?_eq_some_iff.1 hg).1, fun j b hj => ?_⟩
    have hl := h.1; rw [bv_len] at hl
    have hjl : j < l.length := (List.getElem?_eq_some_iff.1 hj).1
    have h2 := World.ownsRow.cellAt h j (by omega)
    rw [Nat.zero_add, h2, bv_at, hj]; rfl
end

/-- string(b). -/
theorem conv_bytes {P : Program} {w : World} {T E S : TypeId} (hT : P.underlying T = some (.slice E)) (hE : P.underlying E = some (.int .u8)) (hS : P.underlying S = some .string)
    {B : Nat} {A : Option Addr} {l : List UInt8} (h : Byt w B A l) (n c : Nat) (hn : l.length = n) : (convert T S (.slice A n c)).run P w = .ok (.string ⟨l.toArray⟩) w := by
  subst hn
  cases A with
  | none =>
    rcases h with rfl | ⟨g, o, hA, _⟩
    · exact run_convert_bytes_nil w T E hT hE _ c S hS
    · cases hA
  | some a =>
    have hl : (loadCells a l.length).run P w = .ok ((l.map fun b => (b.toNat : Int)).map (Value.int .u8)).toArray w := by
      have h1 := run_loadCells_list (P := P) w a (bv l) (fun j v hj => by
        rcases h with rfl | ⟨g, o, hA, _, hc⟩
        · simp [bv] at hj
        · cases hA
          rw [bv_at] at hj
          obtain ⟨b, hb, rfl⟩ := Option.map_eq_some_iff.1 hj
          have hp : (⟨g, o, none⟩ : Addr).add j = ⟨g, o + j, none⟩ := by unfold Addr.add; split <;> simp_all
          rw [hp]; exact hc j b hb)
      rw [bv_len] at h1
      simpa [bv, Function.comp_def] using h1
    rw [run_convert_bytes_string w T S E _ l.length c hT hE hS, run_bytesToString w _ l.length c _ hl, foldl_push_bytes]
    have e : (l.map fun b => (b.toNat : Int)).map (fun n => UInt8.ofNat n.toNat) = l := by
      rw [List.map_map]
      conv => rhs; rw [← List.map_id l]
      exact List.map_congr_left fun b _ => by simp
    rw [e]
    simp [ByteArray.empty, ByteArray.emptyWithCapacity]
    rfl

/-- A result: a new slice of the bytes l, in blocks from 'base' on. -/
def Res (w : World) (base : Nat) (E : TypeId) (A : Option Addr) (n c : Nat) (l : List UInt8) : Prop := w.ownsRow base E 1 (.slice A n c) n (bv l)
section
variable {w w' : World} {base B n c : Nat} {E : TypeId} {A : Option Addr} {l : List UInt8}
theorem Res.len (h : Res w base E A n c l) : l.length = n := by have := h.1; rw [bv_len] at this; omega
theorem Res.byt (h : Res w base E A n c l) : Byt w w.heap.size A l := Byt.of_own h
theorem Res.keep (h : Res w base E A n c l) (hb : Below w.heap.size w w') : Res w' base E A n c l := by
  refine ⟨h.1, ?_⟩
  rcases h.2 with hn | ⟨g, cap, cur, hv, hB, hg, r⟩
  · exact .inl hn
  · exact .inr ⟨g, cap, cur, hv, hB, (hb.block g (Array.getElem?_eq_some_iff.1 hg).1).trans hg, r⟩
theorem Res.base_le (h : Res w base E A n c l) (hB : B ≤ base) : Res w B E A n c l := by
  refine ⟨h.1, ?_⟩
  rcases h.2 with hn | ⟨g, cap, cur, hv, hB', hg, r⟩
  · exact .inl hn
  · exact .inr ⟨g, cap, cur, hv, by omega, hg, r⟩
theorem Res.of (v : Value) (h : w.ownsRow base E 1 v n (bv l)) : ∃ A c, v = .slice A n c ∧ Res w base E A n c l := by
  rcases h.2 with ⟨rfl, rfl⟩ | ⟨g, cap, cur, rfl, _⟩
  · exact ⟨_, _, rfl, h⟩
  · exact ⟨_, _, rfl, h⟩
end

/-- make([]byte, n, c): a row of c noughts. -/
theorem make_bytes {P : Program} {T E : TypeId} {i : TypeInfo} (hT : P.underlying T = some (.slice E)) (hi : P.info? E = some i) (hz : i.zero = some (.int .u8 0)) (h1 : i.size = 1) (h2 : i.bytes = 1)
    (n c : Nat) (L C : Int) (hL : L = (n : Int)) (hC : C = (c : Int)) (hnc : n ≤ c) (hc : c ≤ 281474976710656) (w : World) :
    ∃ w1, (Instr.makeSlice T (.int .i64 L) (.int .i64 C)).run P w = .ok (.slice (some ⟨w.heap.size, 0, none⟩) n c) w1 ∧ Hid (w1.heap[w.heap.size]? = some (.cells (bv (List.replicate c 0)).toArray E (0, 0))) ∧
      Hid (Below w.heap.size w w1) ∧ Hid (w1.heap.size = w.heap.size + 1) := by
  subst hL hC
  have hr := run_make (P := P) w T E i (.int .u8 0) hT hi hz .i64 .i64 n c (by omega) (by omega) (by rw [h2]; omega) (by omega)
  simp only [Int.toNat_natCast] at hr
  refine ⟨_, hr, ?_, (Below.refl _ _).alloc (Nat.le_refl _) _, show _ = _ by simp⟩
  show _ = _
  rw [heap_alloc_new]
  have e : madeCells (Value.int .u8 0).cells (c * i.size) = (bv (List.replicate c 0)).toArray := by
    rw [h1, Nat.mul_one, ← bv_rep]
    apply Array.ext'
    show (madeCells #[Value.int .u8 0] c).toList = _
    rw [toList_madeCells_one]
  rw [e]

/-- A row whose first cells are the bytes l. -/
theorem Res.row {w : World} {base E g n c : Nat} {l : List UInt8} {cur : Array Value} (hb : base ≤ g) (hg : w.heap[g]? = some (.cells cur E (0, 0))) (hn : n ≤ c) (hc : c ≤ 281474976710656) (hs : cur.size = c)
    (hl : l.length = n) (ht : cur.toList.take n = bv l) : Res w base E (some ⟨g, 0, none⟩) n c l :=
  ⟨by rw [bv_len]; omega, .inr ⟨g, c, cur, rfl, hb, hg, hn, by unfold maxLen; omega, by omega, by rw [Nat.mul_one]; exact ht⟩⟩

theorem addr_add (g o j : Nat) : (⟨g, o, none⟩ : Addr).add j = ⟨g, o + j, none⟩ := by unfold Addr.add; split <;> simp_all
/-- What a copy out of the bytes asks. -/
theorem Byt.src {w : World} {B : Nat} {A : Option Addr} {l : List UInt8} (h : Byt w B A l) (x : Option Addr) (y : Addr) (hx : x = some y) :
    0 < (bv l).length → x = some y ∧ ∃ ad, A = some ad ∧ ∀ j v, (bv l)[j]? = some v → w.cell? (ad.add j) = some v := by
  intro hp
  rcases h with h0 | ⟨g, o, rfl, hg, hc⟩
  · subst h0; simp [bv] at hp
  · refine ⟨hx, _, rfl, fun j v hj => ?_⟩
    rw [bv_at] at hj
    obtain ⟨b, hb, rfl⟩ := Option.map_eq_some_iff.1 hj
    rw [addr_add]; exact hc j b hb

/-- append(s, x..) onto bytes of the call's own. -/
theorem wp_append_bytes {P : Program} (w : World) {ops : Array Oper} {rest : List Oper} {o : Oper} {a : Act} {Q : Exit → Act → World → Prop} (hgd : o.guard = none) (s x : Operand) (T : TypeId)
    (ho : o.op = .call { callee := .builtin .append, args := #[s, x], argTypes := #[T, T] }) (E : TypeId) (hT : P.underlying T = some (.slice E))
    (hI : (P.info? E).map (fun i => (i.zero, i.size, i.bytes)) = some (some (.int .u8 0), 1, 1)) (base : Nat) (A : Option Addr) (n c : Nat) (l : List UInt8) (hs : a.eval s = .slice A n c) (hr : Res w base E A n c l)
    (ad : Addr) (m c2 : Nat) (hx : a.eval x = .slice (some ad) m c2) (news : List UInt8) (hl : news.length = m) (hnews : ∀ j u, (bv news)[j]? = some u → w.cell? (ad.add j) = some u) (hsz : n + m ≤ 140737488355328) (hbase : base ≤ w.heap.size)
    (h : ∀ A' c' w', Res w' base E A' (n + m) c' (l ++ news) → (∀ B w0, B ≤ base → Below B w0 w → Below B w0 w') → wpList P ops Q rest (a.put o.dst (.slice A' (n + m) c')) w') : wpList P ops Q (o :: rest) a w := by
  obtain ⟨i, hi, hz, h1, h2⟩ := info_parts hI
  refine wpList_append_own w hgd s x T ho base E i (.int .u8 0) 1 1 hT hi hz h1 h2 rfl (by decide) _ n (bv l) hs hr ad m c2 (bv news) hx (by rw [bv_len]; omega) hnews (bv_one _) (by unfold maxLen; omega) (by omega) hbase ?_
  intro v' w' hown hgr _
  rw [← bv_app] at hown
  obtain ⟨A', c', rfl, hres⟩ := Res.of v' hown
  exact h A' c' w' hres fun B w0 hB hb => hb.grown hgr (by omega) fun k hk => by have := World.ownsRow.lt hr k hk; omega

/-- The same as one step of a region that draws its order. -/
theorem step_append_bytes {P : Program} (w : World) {ops : Array Oper} {o : Oper} {a : Act} {K : Act → World → Prop} {Q : Exit → Act → World → Prop} {E' : Prop} (hgd : o.guard = none) (s x : Operand) (T : TypeId)
    (ho : o.op = .call { callee := .builtin .append, args := #[s, x], argTypes := #[T, T] }) (E : TypeId) (hT : P.underlying T = some (.slice E))
    (hI : (P.info? E).map (fun i => (i.zero, i.size, i.bytes)) = some (some (.int .u8 0), 1, 1)) (base : Nat) (A : Option Addr) (n c : Nat) (l : List UInt8) (hs : a.eval s = .slice A n c) (hr : Res w base E A n c l)
    (ad : Addr) (m c2 : Nat) (hx : a.eval x = .slice (some ad) m c2) (news : List UInt8) (hl : news.length = m) (hnews : ∀ j u, (bv news)[j]? = some u → w.cell? (ad.add j) = some u) (hsz : n + m ≤ 140737488355328) (hbase : base ≤ w.heap.size)
    (h : ∀ A' c' w', Res w' base E A' (n + m) c' (l ++ news) → (∀ B w0, B ≤ base → Below B w0 w → Below B w0 w') → K (a.put o.dst (.slice A' (n + m) c')) w') :
    if Region.wanted o (yielded ops a.tmps) = true then Oper.wp P o a w K Q else E' := by
  have hw : Region.wanted o (yielded ops a.tmps) = true := by simp [Region.wanted, hgd]
  rw [if_pos hw]
  obtain ⟨i, hi, hz, h1, h2⟩ := info_parts hI
  refine wp_append_own w s x T ho base E i (.int .u8 0) 1 1 hT hi hz h1 h2 rfl (by decide) _ n (bv l) hs hr ad m c2 (bv news) hx (by rw [bv_len]; omega) hnews (bv_one _) (by unfold maxLen; omega) (by omega) hbase ?_
  intro v' w' hown hgr _
  rw [← bv_app] at hown
  obtain ⟨A', c', rfl, hres⟩ := Res.of v' hown
  exact h A' c' w' hres fun B w0 hB hb => hb.grown hgr (by omega) fun k hk => by have := World.ownsRow.lt hr k hk; omega

theorem Res.drew {w : World} {base E n c : Nat} {A : Option Addr} {l : List UInt8} (h : Res w base E A n c l) : Res w.drew base E A n c l := h
/-- A literal of bytes, in the newest block. -/
theorem Byt.lit (w : World) (E : TypeId) (cs : Array Value) (l : List UInt8) (h : cs.toList = bv l) : Byt (w.alloc (.cells cs E)) (w.alloc (.cells cs E)).heap.size (some ⟨w.heap.size, 0, none⟩) l := by
  refine .inr ⟨w.heap.size, 0, rfl, by simp, fun j b hj => ?_⟩
  rw [Nat.zero_add, World.cell?_alloc_new]
  have h1 := bv_at l j
  rw [hj, ← h] at h1
  simpa using h1
/-- Below through a new block of the caller's own. -/
theorem below_lit {B : Nat} {a w w' : World} {o : Obj} (h : Below B a w) (hB : B ≤ w.heap.size) (h2 : Below (w.alloc o).heap.size (w.alloc o) w') : Below B a w' :=
  (h.alloc hB o).trans (h2.mono (by simp; omega))
theorem below_next {B : Nat} {a w w' : World} (h : Below B a w) (hB : B ≤ w.heap.size) (h2 : Below w.heap.size w w') : Below B a w' := h.trans (h2.mono hB)
/-- A []byte that came in, as the row's reading tells it. -/
theorem bytes_of_row {w : World} {a : Option Addr} {len cap : Nat} {zs : List Int}
    (h : (a = none ∧ len = 0 ∧ cap = 0 ∧ zs = []) ∨ ∃ x, a = some x ∧ len ≤ cap ∧ cap ≤ maxLen ∧ zs.length = cap ∧ (∀ i, i < zs.length → w.cell? (x.add i) = some (.int .u8 (zs.getD i 0))) ∧ ∀ n ∈ zs, (Lit.int .u8 n).wf = true) :
    ∃ l : List UInt8, Byt w w.heap.size a l ∧ l.length = len := by
  rcases h with ⟨rfl, rfl, _, _⟩ | ⟨x, rfl, hl, _, hz, hc, hw⟩
  · exact ⟨[], Byt.none_, rfl⟩
  · rcases Nat.eq_zero_or_pos len with h0 | h0
    · exact ⟨[], Byt.none_, h0.symm⟩
    · obtain ⟨b, off, rfl, hcell⟩ := ints_at hc (by omega)
      refine ⟨(zs.take len).map fun z => UInt8.ofNat z.toNat, .inr ⟨b, off, rfl, ?_, ?_⟩, by simp; omega⟩
      · exact World.block_lt_of_cell? w ⟨b, off + 0, none⟩ (hcell 0 (by omega))
      · intro j c hj
        have hjl : j < len := by
          have := (List.getElem?_eq_some_iff.1 hj).1
          simp at this; omega
        have hjz : j < zs.length := by omega
        rw [hcell j hjz]
        simp [hjl, List.getElem?_eq_getElem hjz] at hj
        subst hj
        have h1 := hw zs[j] (List.getElem_mem hjz)
        have h2 : 0 ≤ zs[j] ∧ zs[j] ≤ 255 := by simpa [Lit.wf, IntKind.min, IntKind.max, IntKind.signed, IntKind.bits] using h1
        congr 2
        simp [List.getElem?_eq_getElem hjz]
        omega
theorem u64_of_wf {a : Int} (h : (Lit.int .u64 a).wf = true) : ∃ v : Nat, a = (v : Int) ∧ v < 18446744073709551616 := by
  have h2 : 0 ≤ a ∧ a ≤ 18446744073709551615 := by simpa [Lit.wf, IntKind.min, IntKind.max, IntKind.signed, IntKind.bits] using h
  exact ⟨a.toNat, by omega, by omega⟩
theorem ret_bool {a b : Bool} (h : a = b) : Ending.returned (.bool a) = .returned (.bool b) := by rw [h]
theorem ret_str {a b : ByteArray} (h : a = b) : Ending.returned (.string a) = .returned (.string b) := by rw [h]

theorem Res.alloc {w : World} {base E n c : Nat} {A : Option Addr} {l : List UInt8} (h : Res w base E A n c l) (o : Obj) : Res (w.alloc o) base E A n c l := World.ownsRow.alloc h o

/-- The one new cell of append(s, x). -/
theorem new_byte (w : World) (E : TypeId) (x : Int) (b : UInt8) (hx : x = (b.toNat : Int)) :
    ∀ j u, (bv [b])[j]? = some u → (w.alloc (.cells #[.int .u8 x] E)).cell? ((⟨w.heap.size, 0, none⟩ : Addr).add j) = some u := by
  intro j u hj
  match j, hj with
  | 0, hj =>
    simp [bv] at hj
    subst hj hx
    rw [addr_add]
    simp
theorem new_bytes2 (w : World) (E : TypeId) (x y : Int) (b d : UInt8) (hx : x = (b.toNat : Int)) (hy : y = (d.toNat : Int)) :
    ∀ j u, (bv [b, d])[j]? = some u → (w.alloc (.cells #[.int .u8 x, .int .u8 y] E)).cell? ((⟨w.heap.size, 0, none⟩ : Addr).add j) = some u := by
  intro j u hj
  match j, hj with
  | 0, hj =>
    simp [bv] at hj
    subst hj hx
    rw [addr_add]
    simp
  | 1, hj =>
    simp [bv] at hj
    subst hj hy
    rw [addr_add]
    simp
theorem new_bytes2d (w : World) (E : TypeId) (x y : Int) (b d : UInt8) (hx : x = (b.toNat : Int)) (hy : y = (d.toNat : Int)) :
    ∀ j u, (bv [b, d])[j]? = some u → (w.alloc (.cells #[.int .u8 x, .int .u8 y] E)).drew.cell? ((⟨w.heap.size, 0, none⟩ : Addr).add j) = some u := new_bytes2 w E x y b d hx hy
theorem byte_of (v s : Nat) : (v : Int) / 2 ^ s % 256 = ((UInt8.ofNat (v / 2 ^ s)).toNat : Int) := by
  rw [UInt8.toNat_ofNat']
  simp

/-- Same heap and streams, draws aside. -/
theorem below_drewN {B : Nat} {a w : World} (h : Below B a w) (k : Nat) : Below B a (w.drewN k) := ⟨h.os, h.tape, h.output, h.size, h.block⟩
end Go.Proofs.YtehkalbiomagjaaDoor
namespace Go.Proofs.YtehkalbiomagjaaDoor
open Go.RowKit

theorem Tryd.infoByte : (Tryd.prog.info? 5).map (fun i => (i.zero, i.size, i.bytes)) = some (some (.int .u8 0), 1, 1) := by kernel_rfl

/-- How many bytes of a number are written. -/
def wd (n : Int) : Nat := (min (max n 0) 8).toNat
theorem wd_le (n : Int) : wd n ≤ 8 := by unfold wd; omega


end Go.Proofs.YtehkalbiomagjaaDoor
namespace Go.Proofs.YtehkalbiomagjaaDoor
open Go.RowKit

/-- The lowest n bytes of v, the lowest first; the highest first. -/
def le (v : Nat) : Nat → List UInt8
  | 0 => []
  | n + 1 => le v n ++ [UInt8.ofNat (v / 2 ^ (8 * n))]
def be (v : Nat) : Nat → List UInt8
  | 0 => []
  | n + 1 => UInt8.ofNat (v / 2 ^ (8 * n)) :: be v n
theorem le_len (v n : Nat) : (le v n).length = n := by induction n with | zero => rfl | succ n ih => simp [le, ih]
theorem be_len (v n : Nat) : (be v n).length = n := by induction n with | zero => rfl | succ n ih => simp [be, ih]
theorem be_rev (v n : Nat) : be v n = (le v n).reverse := by induction n with | zero => rfl | succ n ih => simp [be, le, ih]

end Go.Proofs.YtehkalbiomagjaaDoor
namespace Go.Proofs.YtehkalbiomagjaaDoor
open Go.RowKit

/-- The number that bytes tell, the highest first; the lowest first. -/
def bn (l : List UInt8) : Nat := l.foldl (fun a b => a * 256 + b.toNat) 0
theorem bn_snoc (l : List UInt8) (b : UInt8) : bn (l ++ [b]) = bn l * 256 + b.toNat := by simp [bn]
theorem bn_lt : ∀ (n : Nat) (l : List UInt8), l.length = n → bn l < 256 ^ n
  | 0, l, h => by
    obtain rfl := List.eq_nil_of_length_eq_zero h
    simp [bn]
  | n + 1, l, h => by
    have hl : l ≠ [] := by intro e; subst e; simp at h
    have e := List.dropLast_concat_getLast hl
    rw [← e, bn_snoc]
    have h1 := bn_lt n l.dropLast (by simp; omega)
    have h2 := (l.getLast hl).toNat_lt
    rw [Nat.pow_succ]; omega
def ln : List UInt8 → Nat
  | [] => 0
  | b :: r => b.toNat + 256 * ln r
theorem ln_rev (l : List UInt8) : ln l = bn l.reverse := by
  induction l with
  | nil => rfl
  | cons b r ih => rw [ln, ih, List.reverse_cons, bn_snoc]; omega
theorem ln_snoc (l : List UInt8) (b : UInt8) : ln (l ++ [b]) = ln l + b.toNat * 256 ^ l.length := by
  induction l with
  | nil => simp [ln]
  | cons a r ih =>
    simp only [List.cons_append, ln, ih, List.length_cons, Nat.pow_succ]
    rw [Nat.mul_add, Nat.add_assoc, Nat.mul_left_comm, Nat.mul_comm 256 (256 ^ r.length)]
theorem ln_lt (n : Nat) (l : List UInt8) (h : l.length = n) : ln l < 256 ^ n := by rw [ln_rev]; exact bn_lt n _ (by simpa using h)

theorem take_at {l : List UInt8} {k : Nat} {b : UInt8} (h : l[k]? = some b) : l.take (k + 1) = l.take k ++ [b] := by
  obtain ⟨hk, rfl⟩ := List.getElem?_eq_some_iff.1 h
  rw [List.take_succ_eq_append_getElem hk]

theorem pow_le8 (k : Nat) (hk : k < 8) : 256 ^ k ≤ 72057594037927936 := by
  have h1 : 256 ^ k ≤ 256 ^ 7 := Nat.pow_le_pow_right (by decide) (by omega)
  have h2 : (256 : Nat) ^ 7 = 72057594037927936 := by decide
  omega

theorem or_low (V x : Nat) (hV : V ≤ 72057594037927935) (hx : x < 256) : bits .or .u64 ((V : Int) * 256) (x : Int) = ((V * 256 + x : Nat) : Int) := by
  have e : ((V : Int) * 256) = ((V * 256 : Nat) : Int) := by omega
  rw [e, u64_or_nat _ _ (by omega) (by omega), nat_join 8 _ _ (by omega) (by omega)]
theorem or_high (k V x : Nat) (hk : k < 8) (hV : V < 256 ^ k) (hx : x < 256) : bits .or .u64 (V : Int) (IntKind.u64.wrap ((x : Int) * 2 ^ (8 * k))) = ((V + x * 256 ^ k : Nat) : Int) := by
  have e0 : (2 : Nat) ^ (8 * k) = 256 ^ k := by rw [Nat.pow_mul]
  have e : ((x : Int) * 2 ^ (8 * k)) = ((x * 2 ^ (8 * k) : Nat) : Int) := by simp
  have h1 := pow_le8 k hk
  have h2 : x * 256 ^ k ≤ 255 * 256 ^ k := Nat.mul_le_mul_right _ (by omega)
  have e2 : ∀ y : Nat, y < 18446744073709551616 → IntKind.u64.wrap (y : Int) = (y : Int) := by
    intro y hy; simp [IntKind.wrap, IntKind.bits, IntKind.signed]; omega
  rw [e, e0, e2 _ (by omega), u64_or_nat _ _ (by omega) (by omega), Nat.or_comm, nat_join (8 * k) _ _ (by rw [e0]; exact Nat.mul_mod_left _ _) (by rw [e0]; exact hV), Nat.add_comm]

end Go.Proofs.YtehkalbiomagjaaDoor
namespace Go.Proofs.YtehkalbiomagjaaDoor
open Go.RowKit

section
variable {P : Program} {t e n : Nat} (hu : P.underlying t = some (.array n e)) (hs : (P.info? e).map (·.size) = some 1) (g o : Nat)
include hu hs
theorem cut_lh (lo hi : Nat) (L H : Int) (hL : L = (lo : Int)) (hH : H = (hi : Int)) (h1 : lo ≤ hi) (h2 : hi ≤ n) (h3 : lo < n) (w : World) :
    (Instr.sliceAt t (.pointer (some ⟨g, o, none⟩)) (some (.int .i64 L)) (some (.int .i64 H)) none).run P w = .ok (.slice (some ⟨g, o + lo, none⟩) (hi - lo) (n - lo)) w := by
  subst hL hH
  obtain ⟨i, hi', hi2⟩ := Option.map_eq_some_iff.1 hs
  have ht : P.underlying t = some (.array (P.arrayLen t) (P.elem t)) := by simp [Program.arrayLen, Program.elem, hu]
  have hn : P.arrayLen t = n := by simp [Program.arrayLen, hu]
  have he : P.elem t = e := by simp [Program.elem, hu]
  rw [run_sliceAt_array_lh w t _ ht .i64 .i64 _ _ (by omega) (by omega) (by omega), hn, he]
  simp [sizeOf, typeInfo, hi', hi2, slicedAt, addr_add, show ¬ n = lo by omega]
theorem cut_l (lo : Nat) (L : Int) (hL : L = (lo : Int)) (h3 : lo < n) (w : World) :
    (Instr.sliceAt t (.pointer (some ⟨g, o, none⟩)) (some (.int .i64 L)) none none).run P w = .ok (.slice (some ⟨g, o + lo, none⟩) (n - lo) (n - lo)) w := by
  subst hL
  obtain ⟨i, hi', hi2⟩ := Option.map_eq_some_iff.1 hs
  have ht : P.underlying t = some (.array (P.arrayLen t) (P.elem t)) := by simp [Program.arrayLen, Program.elem, hu]
  have hn : P.arrayLen t = n := by simp [Program.arrayLen, hu]
  have he : P.elem t = e := by simp [Program.elem, hu]
  rw [run_sliceAt_array_l w t _ ht .i64 _ (by omega) (by omega), hn, he]
  simp [sizeOf, typeInfo, hi', hi2, slicedAt, addr_add, show ¬ n = lo by omega]
theorem cut_all (h3 : 0 < n) (w : World) :
    (Instr.sliceAt t (.pointer (some ⟨g, o, none⟩)) none none none).run P w = .ok (.slice (some ⟨g, o, none⟩) n n) w := by
  obtain ⟨i, hi', hi2⟩ := Option.map_eq_some_iff.1 hs
  have ht : P.underlying t = some (.array (P.arrayLen t) (P.elem t)) := by simp [Program.arrayLen, Program.elem, hu]
  have hn : P.arrayLen t = n := by simp [Program.arrayLen, hu]
  have he : P.elem t = e := by simp [Program.elem, hu]
  rw [run_sliceAt_array_all w t _ ht, hn, he]
  simp [sizeOf, typeInfo, hi', hi2, slicedAt, addr_add, show ¬ n = 0 by omega]
end
theorem Tryd.sizeByte : (Tryd.prog.info? 5).map (·.size) = some 1 := by kernel_rfl
theorem Tryd.sizeU32 : (Tryd.prog.info? 43).map (·.size) = some 1 := by kernel_rfl
/-- The element of an array's value. -/
theorem at_agg {P : Program} {t e n : Nat} {k : IntKind} (hu : P.underlying t = some (.array n e)) (hs : (P.info? e).map (·.size) = some 1) (he : P.underlying e = some (.int k)) (cs : List Value) (j : Nat) (v : Value) (I : Int) (hI : I = (j : Int)) (hj : j < n) (hv : cs[j]? = some v) (w : World) :
    (Instr.index t (.agg cs.toArray) (.int .i64 I)).run P w = .ok v w := by
  subst hI
  obtain ⟨i, hi', hi2⟩ := Option.map_eq_some_iff.1 hs
  simp [Instr.index, asIntOf, run_underlying hu, sizeOf, typeInfo, hi', hi2, part, isAgg, run_underlying he, hv, hj]
theorem getD_lt {l : List Nat} {B : Nat} (h : ∀ x ∈ l, x < B) (h0 : 0 < B) (k : Nat) : l.getD k 0 < B := by
  rw [List.getD_eq_getElem?_getD]
  by_cases hk : k < l.length
  · rw [List.getElem?_eq_getElem hk]; exact h _ (List.getElem_mem hk)
  · rw [List.getElem?_eq_none (by omega)]; exact h0
/-- Words as the cells of a row. -/
def u32v (l : List Nat) : List Value := l.map fun (x : Nat) => Value.int .u32 (x : Int)
/-- What a new variable holds. -/
def z32 : List UInt8 := List.replicate 32 0
def z64 : List UInt8 := List.replicate 64 0
theorem z32_len : z32.length = 32 := rfl
theorem z64_len : z64.length = 64 := rfl
/-- Of what was there nothing but block g has turned. -/
def But (g : Nat) (w w' : World) : Prop := w.grownBy w' (some g)
theorem But.refl (g : Nat) (w : World) : But g w w := ⟨rfl, rfl, rfl, Nat.le_refl _, fun _ _ _ => rfl⟩
theorem But.trans {g : Nat} {a b c : World} (h : But g a b) (k : But g b c) : But g a c :=
  ⟨k.os.trans h.os, k.tape.trans h.tape, k.output.trans h.output, Nat.le_trans h.size k.size, fun i hi hn => (k.block i (Nat.lt_of_lt_of_le hi h.size) hn).trans (h.block i hi hn)⟩
theorem But.of_below {g B : Nat} {w w' : World} (h : Below B w w') (hB : w.heap.size ≤ B) : But g w w' := ⟨h.os, h.tape, h.output, h.size, fun i hi _ => h.block i (by omega)⟩
theorem But.below {g B : Nat} {a w w' : World} (h : Below B a w) (k : But g w w') (hB : B ≤ g) (hs : B ≤ w.heap.size) : Below B a w' :=
  h.trans ⟨k.os, k.tape, k.output, k.size, fun i hi => k.block i (by omega) (fun e => by injection e; omega)⟩
theorem But.below_to {g B : Nat} {a b c : World} (h : But g a b) (k : Below B b c) (hB : b.heap.size ≤ B) : But g a c := h.trans (But.of_below k hB)
theorem But.set {g i : Nat} {a w : World} (h : But g a w) (u : Value) : But g a (w.setCell ⟨g, i, none⟩ u) :=
  h.trans ⟨rfl, rfl, rfl, by simp [World.setCell], fun k _ hn => heap_setCell_other w _ k u (fun e => hn (by rw [e]))⟩
theorem But.alloc {g : Nat} {a w : World} (h : But g a w) (o : Obj) : But g a (w.alloc o) := h.trans (World.grownBy_alloc w o _)
theorem But.drew {g : Nat} {a w : World} (h : But g a w) : But g a w.drew := ⟨h.os, h.tape, h.output, h.size, h.block⟩
theorem But.row {g : Nat} {a w : World} (h : But g a w) (cs : Array Value) : But g a (w.setRow g cs) :=
  h.trans ⟨rfl, rfl, rfl, by simp [World.setRow], fun k _ hn => setRow_other w g k cs (fun e => hn (by rw [e]))⟩
theorem Byt.but {w w' : World} {g B : Nat} {A : Option Addr} {l : List UInt8} (h : Byt w B A l) (hb : But g w w') (hB : B ≤ w.heap.size) (hg : B ≤ g) : Byt w' B A l :=
  h.keep fun p hp => World.cell?_of_block (hb.block p.block (by omega) (fun e => by injection e; omega))
theorem u32v_len (l : List Nat) : (u32v l).length = l.length := by simp [u32v]
theorem u32v_at (l : List Nat) (k : Nat) : (u32v l)[k]? = l[k]?.map fun (x : Nat) => Value.int .u32 (x : Int) := by simp [u32v]
theorem u32v_set (l : List Nat) (k x : Nat) : (u32v l).set k (.int .u32 (x : Int)) = u32v (l.set k x) := by simp [u32v, List.map_set]
theorem u32v_one (l : List Nat) : ∀ u ∈ u32v l, u.oneCell' = true := by
  intro u hu
  obtain ⟨b, _, rfl⟩ := List.mem_map.1 hu
  rfl
def natAt (l : List Nat) (k : Nat) : Nat := l.getD k 0
theorem natAt_lt {l : List Nat} (h : ∀ x ∈ l, x < 4294967296) (k : Nat) : natAt l k < 4294967296 := getD_lt h (by decide) k
theorem natAt_at {l : List Nat} {n k : Nat} (h : l.length = n) (hk : k < n) : (u32v l)[k]? = some (.int .u32 ((natAt l k : Nat) : Int)) := by
  have hl : k < l.length := by omega
  simp [u32v_at, natAt, List.getElem?_eq_getElem hl]
/-- Bytes that lie outside block g. -/
def Src (w : World) (g : Nat) (A : Option Addr) (m : List UInt8) : Prop :=
  m = [] ∨ ∃ b o, A = some ⟨b, o, none⟩ ∧ b ≠ g ∧ b < w.heap.size ∧ ∀ j x, m[j]? = some x → w.cell? ⟨b, o + j, none⟩ = some (.int .u8 (x.toNat : Int))
section
variable {w w' : World} {g B : Nat} {A : Option Addr} {m : List UInt8}
theorem Src.but (h : Src w g A m) (hb : But g w w') : Src w' g A m := by
  rcases h with h | ⟨b, o, hA, hne, hlt, hc⟩
  · exact .inl h
  · exact .inr ⟨b, o, hA, hne, Nat.lt_of_lt_of_le hlt hb.size, fun j x hj => (World.cell?_of_block (w := w) (hb.block b hlt (fun e => hne (by injection e)))).trans (hc j x hj)⟩
theorem Src.byt (h : Src w g A m) : Byt w w.heap.size A m := by
  rcases h with h | ⟨b, o, hA, hne, hlt, hc⟩
  · exact .inl h
  · exact .inr ⟨b, o, hA, hlt, hc⟩
theorem Byt.toSrc (h : Byt w B A m) (hB : B ≤ w.heap.size) (hg : B ≤ g) : Src w g A m := by
  rcases h with h | ⟨b, o, hA, hlt, hc⟩
  · exact .inl h
  · exact .inr ⟨b, o, hA, by omega, by omega, hc⟩
/-- The rest of a slice. -/
theorem Src.cut (h : Src w g A m) (t c : Nat) (hc : m.length ≤ c) : Src w g (if c = t then A else A.map (·.add t)) (m.drop t) := by
  rcases h with h | ⟨b, o, rfl, hne, hlt, hcell⟩
  · subst h; exact .inl (by simp)
  · by_cases ht : c = t
    · exact .inl (List.drop_eq_nil_of_le (by omega))
    · rw [if_neg ht]
      refine .inr ⟨b, o + t, by rw [Option.map_some, addr_add], hne, hlt, fun j x hj => ?_⟩
      rw [List.getElem?_drop] at hj
      rw [Nat.add_assoc]; exact hcell _ x hj
end
theorem run_cut_l {P : Program} {T E : TypeId} (hT : P.underlying T = some (.slice E)) (hs : (P.info? E).map (·.size) = some 1) (A : Option Addr) (n c t : Nat) (L : Int) (hL : L = (t : Int)) (ht : t ≤ n) (w : World) :
    (Instr.slice T (.slice A n c) (some (.int .i64 L)) none none).run P w = .ok (.slice (if c = t then A else A.map (·.add t)) (n - t) (c - t)) w := by
  subst hL
  obtain ⟨i, hi', hi2⟩ := Option.map_eq_some_iff.1 hs
  have he : P.elem T = E := by simp [Program.elem, hT]
  rw [run_slice_l w T A n c (by rw [he]; exact hT) .i64 _ (by omega) (by omega), he]
  simp [sizeOf, typeInfo, hi', hi2, sliced]

/-- copy into a block that is known whole, as one step of a region that draws its order. -/
theorem step_copy_but {P : Program} {ops : Array Oper} {o : Oper} {a : Act} {w : World} {K : Act → World → Prop} {Q : Exit → Act → World → Prop} {E : Prop} (hgd : o.guard = none) (d s : Operand) (T : TypeId)
    (ho : o.op = .call { callee := .builtin .copy, args := #[d, s], argTypes := #[T, T] }) (elem : TypeId) (hu : P.underlying T = some (.slice elem)) (hsz : (P.info? elem).map (·.size) = some 1)
    (g off dLen dCap sLen sCap : Nat) (A : Option Addr) (hd : a.eval d = .slice (some ⟨g, off, none⟩) dLen dCap) (hs : a.eval s = .slice A sLen sCap)
    (cur : List Value) (t : TypeId) (hg : w.heap[g]? = some (.cells cur.toArray t (0, 0))) (m : List UInt8) (B : Nat) (hA : Byt w B A m) (hm : m.length = sLen) (hs0 : 0 < sLen)
    (hfit : off + dLen ≤ cur.length) (w0 : World) (hb : But g w0 w)
    (h : ∀ w', Hid (w'.heap[g]? = some (.cells (splice cur off (bv (m.take dLen))).toArray t (0, 0))) → But g w0 w' → K (a.put o.dst (.int .i64 ((min sLen dLen : Nat) : Int))) w') :
    if Region.wanted o (yielded ops a.tmps) = true then Oper.wp P o a w K Q else E := by
  have hw : Region.wanted o (yielded ops a.tmps) = true := by simp [Region.wanted, hgd]
  rw [if_pos hw]
  rcases hA with h0 | ⟨b, o', rfl, hlt, hc⟩
  · subst h0; simp at hm; omega
  · have hlen : (bv (m.take dLen)).length = Nat.min sLen dLen := by rw [bv_len, List.length_take, hm]; exact Nat.min_comm _ _
    have hsrc : ∀ j v, (bv (m.take dLen))[j]? = some v → w.cell? ((⟨b, o', none⟩ : Addr).add j) = some v := by
      intro j v hj
      rw [bv_at] at hj
      obtain ⟨x, hx, rfl⟩ := Option.map_eq_some_iff.1 hj
      rw [addr_add]
      refine hc j x ?_
      have hjl : j < dLen := by
        have := (List.getElem?_eq_some_iff.1 hx).1
        simp at this; omega
      rwa [List.getElem?_take_of_lt hjl] at hx
    have hl2 : (bv (m.take dLen)).length = min sLen dLen := hlen
    have hrun := run_copy_row (P := P) w T T o.type elem g off dLen dCap ⟨b, o', none⟩ sLen sCap cur.toArray t (bv (m.take dLen)) hu hsz hg hlen hsrc (by simp only [List.size_toArray]; omega) (bv_one _)
    unfold Oper.wp
    simp [execOp, ho, resolve, invoke, builtin, hd, hs, hrun, Result.andThen]
    have h3 := h _ (show _ = _ by simpa [splice] using setRow_heap w g _ _ t _ hg) (hb.row _)
    rw [hl2] at h3 ⊢
    exact h3
theorem Res.toSrc {w : World} {base E n c g : Nat} {A : Option Addr} {l : List UInt8} (h : Res w base E A n c l) (hg : g < base) : Src w g A l := by
  rcases h.2 with ⟨h', h0⟩ | ⟨b, cap, cur, h', hb, hcur, hnc, hcm, hcs, htake⟩
  · refine .inl (List.eq_nil_of_length_eq_zero ?_)
    have := h.len; omega
  · rcases h.byt with h1 | ⟨b', o', hA, hlt, hc⟩
    · exact .inl h1
    · simp only [Value.slice.injEq] at h'
      obtain ⟨rfl, _, _⟩ := h'
      injection hA with hA
      injection hA with hA1 hA2
      subst hA1 hA2
      exact .inr ⟨b, 0, rfl, by omega, hlt, hc⟩
theorem Res.cap {w : World} {base E n c : Nat} {A : Option Addr} {l : List UInt8} (h : Res w base E A n c l) : n ≤ c := by
  rcases h.2 with ⟨h', h0⟩ | ⟨b, cap, cur, h', hb, hcur, hnc, hcm, hcs, htake⟩
  · simp only [Value.slice.injEq] at h'; omega
  · simp only [Value.slice.injEq] at h'; omega
theorem step_load_row {P : Program} {ops : Array Oper} {o : Oper} {a : Act} {w : World} {K : Act → World → Prop} {Q : Exit → Act → World → Prop} {E : Prop} (hgd : o.guard = none) (ty : TypeId) (x : Operand) (ho : o.op = .load ty x)
    (g : Nat) (hx : a.eval x = .pointer (some ⟨g, 0, none⟩)) (t : TypeId) (cs : Array Value) (d : TypeDesc) (hg : w.heap[g]? = some (.cells cs t (0, 0)))
    (hu : P.underlying ty = some d) (hd : (match d with | .struct _ | .array _ _ => true | _ => false) = true) (hi : (P.info? ty).map (·.size) = some cs.size)
    (h : K (a.put o.dst (.agg cs)) w) : if Region.wanted o (yielded ops a.tmps) = true then Oper.wp P o a w K Q else E := by
  have hw : Region.wanted o (yielded ops a.tmps) = true := by simp [Region.wanted, hgd]
  rw [if_pos hw]
  exact wp_load_row ty x ho g hx t cs (0, 0) d hg hu hd hi h
theorem step_store_row {P : Program} {ops : Array Oper} {o : Oper} {a : Act} {w : World} {K : Act → World → Prop} {Q : Exit → Act → World → Prop} {E : Prop} (hgd : o.guard = none) (ty : TypeId) (x y : Operand) (ho : o.op = .store ty x y)
    (g : Nat) (cells : Array Value) (hx : a.eval x = .pointer (some ⟨g, 0, none⟩)) (hy : a.eval y = .agg cells) (t : TypeId) (old : Array Value) (hg : w.heap[g]? = some (.cells old t (0, 0)))
    (hi : (P.info? ty).map (·.size) = some cells.size) (hold : old.size = cells.size) (h1 : cells.all (·.oneCell') = true)
    (h : K (a.put o.dst undef) (w.setRow g cells)) : if Region.wanted o (yielded ops a.tmps) = true then Oper.wp P o a w K Q else E := by
  have hw : Region.wanted o (yielded ops a.tmps) = true := by simp [Region.wanted, hgd]
  rw [if_pos hw]
  exact wp_store_row ty x y ho g cells hx hy t old hg hi hold h1 h

theorem byt_row {w : World} {g : Nat} {l : List UInt8} {t : TypeId} (hg : w.heap[g]? = some (.cells (bv l).toArray t (0, 0))) : Byt w w.heap.size (some ⟨g, 0, none⟩) l := by
  refine .inr ⟨g, 0, rfl, (Array.getElem?_eq_some_iff.1 hg).1, fun j b hj => ?_⟩
  rw [Nat.zero_add, cell_of_row _ _ _ _ _ _ hg]
  simp only [List.getElem?_toArray, bv_at, hj]; rfl
theorem src_row {w : World} {g b : Nat} {l : List UInt8} {t : TypeId} (hg : w.heap[g]? = some (.cells (bv l).toArray t (0, 0))) (hne : g ≠ b) : Src w b (some ⟨g, 0, none⟩) l := by
  rcases byt_row hg with h | ⟨g', o', h1, h2, h3⟩
  · exact .inl h
  · injection h1 with h1
    injection h1 with h1 h1'
    subst h1 h1'
    exact .inr ⟨g, 0, rfl, hne, h2, h3⟩

end Go.Proofs.YtehkalbiomagjaaDoor
namespace Go.Proofs.YtehkalbiomagjaaDoor
open Go.RowKit

/-- A fact that no tactic looks into, an equation of things that can be reckoned ('contradiction' would reckon them). -/
def Vlt (p : Prop) : Prop := Unit → p
theorem Vlt.out {p : Prop} (h : Vlt p) : p := h ()
theorem vlt {p : Prop} (h : p) : Vlt p := fun _ => h
theorem Byt.take {w : World} {B : Nat} {A : Option Addr} {l : List UInt8} (h : Byt w B A l) (k : Nat) : Byt w B A (l.take k) := by
  rcases h with h | ⟨g, o, hA, hg, hc⟩
  · subst h; exact .inl (by simp)
  · refine .inr ⟨g, o, hA, hg, fun j b hj => hc j b ?_⟩
    have hjk : j < k := by
      have := (List.getElem?_eq_some_iff.1 hj).1
      simp at this; omega
    rwa [List.getElem?_take_of_lt hjk] at hj
theorem run_cut_h {P : Program} {T E : TypeId} (hT : P.underlying T = some (.slice E)) (hs : (P.info? E).map (·.size) = some 1) (A : Option Addr) (n c t : Nat) (L : Int) (hL : L = (t : Int)) (ht : t ≤ c) (w : World) :
    (Instr.slice T (.slice A n c) none (some (.int .i64 L)) none).run P w = .ok (.slice A t c) w := by
  subst hL
  obtain ⟨i, hi', hi2⟩ := Option.map_eq_some_iff.1 hs
  have he : P.elem T = E := by simp [Program.elem, hT]
  rw [run_slice_h w T A n c (by rw [he]; exact hT) .i64 _ (by omega) (by omega), he]
  cases A <;> simp [sizeOf, typeInfo, hi', hi2, sliced, Addr.add]

theorem Byt.lit_cold (w : World) (E : TypeId) (cs : Array Value) (fr : Nat × Nat) (l : List UInt8) (h : cs.toList = bv l) : Byt (w.alloc (.cells cs E fr)) (w.alloc (.cells cs E fr)).heap.size (some ⟨w.heap.size, 0, none⟩) l := by
  refine .inr ⟨w.heap.size, 0, rfl, by simp, fun j b hj => ?_⟩
  rw [Nat.zero_add, cell_of_row _ _ _ _ _ _ (heap_alloc_new w _)]
  have h1 := bv_at l j
  rw [hj, ← h] at h1
  simpa using h1
theorem run_cut_lh {P : Program} {T E : TypeId} (hT : P.underlying T = some (.slice E)) (hs : (P.info? E).map (·.size) = some 1) (A : Option Addr) (n c s t : Nat) (L H : Int) (hL : L = (s : Int)) (hH : H = (t : Int)) (hst : s ≤ t) (ht : t ≤ c) (w : World) :
    (Instr.slice T (.slice A n c) (some (.int .i64 L)) (some (.int .i64 H)) none).run P w = .ok (.slice (if c = s then A else A.map (·.add s)) (t - s) (c - s)) w := by
  subst hL hH
  obtain ⟨i, hi', hi2⟩ := Option.map_eq_some_iff.1 hs
  have he : P.elem T = E := by simp [Program.elem, hT]
  rw [run_slice_lh w T A n c (by rw [he]; exact hT) .i64 .i64 _ _ (by omega) (by omega) (by omega), he]
  simp [sizeOf, typeInfo, hi', hi2, sliced]
/-- A piece of a slice. -/
theorem Byt.cut {w : World} {B : Nat} {A : Option Addr} {l : List UInt8} (h : Byt w B A l) (s c : Nat) (hc : l.length ≤ c) : Byt w B (if c = s then A else A.map (·.add s)) (l.drop s) := by
  rcases h with h | ⟨b, o, rfl, hlt, hcell⟩
  · subst h; exact .inl (by simp)
  · by_cases ht : c = s
    · exact .inl (List.drop_eq_nil_of_le (by omega))
    · rw [if_neg ht]
      refine .inr ⟨b, o + s, by rw [Option.map_some, addr_add], hlt, fun j x hj => ?_⟩
      rw [List.getElem?_drop] at hj
      rw [Nat.add_assoc]; exact hcell _ x hj
/-- append onto bytes that have no room left: a new row. -/
theorem wp_append_grow {P : Program} (w : World) {ops : Array Oper} {rest : List Oper} {o : Oper} {a : Act} {Q : Exit → Act → World → Prop} (hgd : o.guard = none) (s x : Operand) (T : TypeId)
    (ho : o.op = .call { callee := .builtin .append, args := #[s, x], argTypes := #[T, T] }) (E : TypeId) (hT : P.underlying T = some (.slice E))
    (hI : (P.info? E).map (fun i => (i.zero, i.size, i.bytes)) = some (some (.int .u8 0), 1, 1)) (bo : Addr) (n c : Nat) (l : List UInt8) (hs : a.eval s = .slice (some bo) n c) (hl0 : l.length = n) (hb : ∀ j u, (bv l)[j]? = some u → w.cell? (bo.add j) = some u)
    (ad : Addr) (m c2 : Nat) (hx : a.eval x = .slice (some ad) m c2) (news : List UInt8) (hl : news.length = m) (hnews : ∀ j u, (bv news)[j]? = some u → w.cell? (ad.add j) = some u) (hfull : c < n + m) (hsz : n + m ≤ 140737488355328)
    (h : ∀ A' c' w', Res w' w.heap.size E A' (n + m) c' (l ++ news) → Below w.heap.size w w' → wpList P ops Q rest (a.put o.dst (.slice A' (n + m) c')) w') : wpList P ops Q (o :: rest) a w := by
  obtain ⟨i, hi, hz, h1, h2⟩ := info_parts hI
  refine wpList_append_grows w hgd s x T ho E i (.int .u8 0) 1 1 hT hi hz h1 h2 rfl (by decide) (some bo) n c (bv l) hs (fun e => by cases e) (by rw [bv_len]; omega) (fun b e j u hj => by injection e with e; subst e; exact hb j u hj) ad m c2 (bv news) hx (by rw [bv_len]; omega) hnews (bv_one _) hfull (by unfold maxLen; omega) (by omega) ?_
  intro v' w' hown hgr
  rw [← bv_app] at hown
  obtain ⟨A', c', rfl, hres⟩ := Res.of v' hown
  exact h A' c' w' hres ⟨hgr.os, hgr.tape, hgr.output, hgr.size, fun k hk => hgr.block k hk (by simp)⟩
theorem cells_at {w : World} {B : Nat} {b : Addr} {l : List UInt8} (h : Byt w B (some b) l) : ∀ j u, (bv l)[j]? = some u → w.cell? (b.add j) = some u := by
  intro j u hj
  obtain ⟨_, ad, he, hc⟩ := h.src (some b) b rfl (Nat.lt_of_le_of_lt (Nat.zero_le _) (List.getElem?_eq_some_iff.1 hj).1)
  injection he with he
  subst he
  exact hc j u hj
/-- Three new blocks. -/
theorem three_new (w : World) (a b c : Array Value) (s t u : TypeId) :
    ∃ W, ((w.alloc (.cells a s)).alloc (.cells b t)).alloc (.cells c u) = W ∧ Hid (W.heap[w.heap.size]? = some (.cells a s (0, 0))) ∧ Hid (W.heap[w.heap.size + 1]? = some (.cells b t (0, 0))) ∧ Hid (W.heap[w.heap.size + 2]? = some (.cells c u (0, 0))) ∧ Below w.heap.size w W ∧ Hid (W.heap.size = w.heap.size + 3) := by
  refine ⟨_, rfl, show _ = _ from ?_, show _ = _ from ?_, show _ = _ from ?_, (((Below.refl _ _).alloc (Nat.le_refl _) _).alloc (by simp) _).alloc (by simp; omega) _, show _ = _ by simp⟩
  · rw [Below.heap_alloc _ _ _ (by simp; omega)]; exact heap_alloc2_old _ _ _
  · rw [Below.heap_alloc _ _ _ (by simp)]; exact heap_alloc2_new _ _ _
  · have h := heap_alloc_new ((w.alloc (.cells a s)).alloc (.cells b t)) (.cells c u)
    have e : ((w.alloc (.cells a s)).alloc (.cells b t)).heap.size = w.heap.size + 2 := by simp
    rw [e] at h; exact h
/-- Words, and noughts up to n; bytes likewise. -/
def uptoW (n : Nat) (l : List Nat) : List Nat := l ++ List.replicate (n - l.length) 0
theorem uptoW_len (n : Nat) (l : List Nat) (h : l.length ≤ n) : (uptoW n l).length = n := by simp [uptoW]; omega
theorem uptoW_all (n : Nat) (l : List Nat) (h : l.length = n) : uptoW n l = l := by simp [uptoW, h]
theorem uptoW_set (n : Nat) (l : List Nat) (x : Nat) (h : l.length < n) : (uptoW n l).set l.length x = uptoW n (l ++ [x]) := by
  obtain ⟨m, hm⟩ : ∃ m, n - l.length = m + 1 := ⟨n - l.length - 1, by omega⟩
  rw [uptoW, uptoW, List.set_append_right _ _ (Nat.le_refl _), Nat.sub_self, hm, List.replicate_succ, List.set_cons_zero, List.length_append, List.append_assoc]
  congr 3
  simp; omega
theorem uptoW_at (n : Nat) (l : List Nat) (h : l.length < n) : (uptoW n l)[l.length]? = some 0 := by
  rw [uptoW, List.getElem?_append_right (Nat.le_refl _), List.getElem?_replicate, if_pos (by omega)]
def uptoB (n : Nat) (l : List UInt8) : List UInt8 := l ++ List.replicate (n - l.length) 0
theorem uptoB_all (n : Nat) (l : List UInt8) (h : l.length = n) : uptoB n l = l := by simp [uptoB, h]
theorem uptoB_len (n : Nat) (l : List UInt8) (h : l.length ≤ n) : (uptoB n l).length = n := by simp [uptoB]; omega
theorem uptoB_splice (n : Nat) (l x : List UInt8) (h : l.length + x.length ≤ n) : splice (bv (uptoB n l)) l.length (bv x) = bv (uptoB n (l ++ x)) := by
  have e : List.drop (l.length + x.length) (uptoB n l) = List.replicate (n - (l.length + x.length)) 0 := by
    rw [uptoB, List.drop_append, List.drop_of_length_le (by omega), List.nil_append, List.drop_replicate]
    congr 1; omega
  rw [splice, bv_take, bv_len]
  have e2 : List.drop (l.length + x.length) (bv (uptoB n l)) = bv (List.drop (l.length + x.length) (uptoB n l)) := by simp [bv, List.map_drop]
  have e3 : List.take l.length (uptoB n l) = l := by rw [uptoB, List.take_append_of_le_length (Nat.le_refl _), List.take_length]
  rw [e2, e, e3, uptoB, bv_app, bv_app, List.length_append, List.append_assoc]
end Go.Proofs.YtehkalbiomagjaaDoor
namespace Go.Proofs.YtehkalbiomagjaaDoor
open Go.RowKit

/-- One new block. -/
theorem one_new (w : World) (a : Array Value) (s : TypeId) :
    ∃ W, w.alloc (.cells a s) = W ∧ Hid (W.heap[w.heap.size]? = some (.cells a s (0, 0))) ∧ Below w.heap.size w W ∧ Hid (W.heap.size = w.heap.size + 1) :=
  ⟨_, rfl, heap_alloc_new _ _, (Below.refl _ _).alloc (Nat.le_refl _) _, show _ = _ by simp⟩
/-- Two new blocks. -/
theorem pair_new (w : World) (a b : Array Value) (s t : TypeId) :
    ∃ W, (w.alloc (.cells a s)).alloc (.cells b t) = W ∧ Hid (W.heap[w.heap.size]? = some (.cells a s (0, 0))) ∧ Hid (W.heap[w.heap.size + 1]? = some (.cells b t (0, 0))) ∧ Below w.heap.size w W ∧ Hid (W.heap.size = w.heap.size + 2) :=
  ⟨_, rfl, heap_alloc2_old _ _ _, heap_alloc2_new _ _ _, ((Below.refl _ _).alloc (Nat.le_refl _) _).alloc (by simp) _, show _ = _ by simp⟩
def slen : Value → Nat | .slice _ n _ => n | _ => 0
theorem Res.some_ {w : World} {base E n c : Nat} {A : Option Addr} {l : List UInt8} (h : Res w base E A n c l) (hn : 0 < n) : ∃ g, A = some ⟨g, 0, none⟩ := by
  rcases h.2 with ⟨_, h0⟩ | ⟨g, cap, cur, hv, _⟩
  · omega
  · injection hv with hv; exact ⟨g, hv⟩
theorem below_undrew {B : Nat} {w w' : World} (h : Below B w.drew w') : Below B w w' := ⟨h.os, h.tape, h.output, h.size, h.block⟩
theorem wpList_build_as {P : Program} {ops : Array Oper} {rest : List Oper} {o : Oper} {a : Act} {w : World} {Q : Exit → Act → World → Prop} (hg : o.guard = none) (t : TypeId) (ho : o.op = .build t #[]) (cs : Array Value) (hf : P.built t [] = some cs)
    (h : wpList P ops Q rest (a.put o.dst (.agg cs)) w) : wpList P ops Q (o :: rest) a w :=
  wpList_build hg t #[] ho (by simp [hf]) (by simpa [hf] using h)
theorem byte_cell {w : World} {g k : Nat} {l : List UInt8} {t : TypeId} {b : UInt8} (hg : w.heap[g]? = some (.cells (bv l).toArray t (0, 0))) (hb : l[k]? = some b) : w.cell? ⟨g, k, none⟩ = some (.int .u8 (b.toNat : Int)) := by
  rw [cell_of_row _ _ _ _ _ _ hg]
  simp [bv_at, hb]
theorem word_at {w : World} {g : Nat} {l : List Nat} {t : TypeId} (hg : w.heap[g]? = some (.cells (u32v l).toArray t (0, 0))) (k : Nat) (hk : k < l.length) : w.cell? ⟨g, k, none⟩ = some (.int .u32 ((natAt l k : Nat) : Int)) := by
  rw [cell_of_row _ _ _ _ _ _ hg]
  have := natAt_at (l := l) rfl hk
  simpa using this
/-- Numbers of 64 bits as the cells of a row. -/
def u64v (l : List Nat) : List Value := l.map fun (x : Nat) => Value.int .u64 (x : Int)
theorem u64v_len (l : List Nat) : (u64v l).length = l.length := by simp [u64v]
theorem u64v_at (l : List Nat) (k : Nat) : (u64v l)[k]? = l[k]?.map fun (x : Nat) => Value.int .u64 (x : Int) := by simp [u64v]
theorem u64v_set (l : List Nat) (k x : Nat) : (u64v l).set k (.int .u64 (x : Int)) = u64v (l.set k x) := by simp [u64v, List.map_set]
theorem u64v_one (l : List Nat) : ∀ u ∈ u64v l, u.oneCell' = true := by
  intro u hu
  obtain ⟨b, _, rfl⟩ := List.mem_map.1 hu
  rfl
theorem long_at {w : World} {g : Nat} {l : List Nat} {t : TypeId} (hg : w.heap[g]? = some (.cells (u64v l).toArray t (0, 0))) (k : Nat) (hk : k < l.length) : w.cell? ⟨g, k, none⟩ = some (.int .u64 ((natAt l k : Nat) : Int)) := by
  rw [cell_of_row _ _ _ _ _ _ hg]
  simp [u64v_at, natAt, List.getElem?_eq_getElem hk]
theorem world_set_cell {w : World} {g : Nat} {cs : List Value} {t : TypeId} (hg : w.heap[g]? = some (.cells cs.toArray t (0, 0))) (k : Nat) (u : Value) :
    Hid ((w.setCell ⟨g, k, none⟩ u).heap[g]? = some (.cells (cs.set k u).toArray t (0, 0))) := by
  show _ = _
  rw [heap_setCell_same w g k _ _ u hg]; simp
/-- A piece of a row of bytes. -/
theorem byt_mid {w : World} {g : Nat} {l : List UInt8} {t : TypeId} (hg : w.heap[g]? = some (.cells (bv l).toArray t (0, 0))) (k m : Nat) : Byt w w.heap.size (some ⟨g, k, none⟩) ((l.drop k).take m) := by
  refine .inr ⟨g, k, rfl, (Array.getElem?_eq_some_iff.1 hg).1, fun j b hj => ?_⟩
  have hjm : j < m := by
    have := (List.getElem?_eq_some_iff.1 hj).1
    simp at this; omega
  rw [List.getElem?_take_of_lt hjm, List.getElem?_drop] at hj
  exact byte_cell hg hj
theorem wpList_build_to {P : Program} {ops : Array Oper} {rest : List Oper} {o : Oper} {a : Act} {w : World} {Q : Exit → Act → World → Prop} (hg : o.guard = none) (t : TypeId) (parts : Array (Nat × Operand)) (ho : o.op = .build t parts) (lst : List (Nat × Value)) (hp : (parts.map fun (i, x) => (i, a.eval x)).toList = lst) (cs : Array Value) (hf : P.built t lst = some cs)
    (h : wpList P ops Q rest (a.put o.dst (.agg cs)) w) : wpList P ops Q (o :: rest) a w :=
  wpList_build hg t parts ho (by rw [hp, hf]; rfl) (by rw [hp, hf]; exact h)
theorem and26 (x : Nat) (hx : x < 18446744073709551616) : bits .and .u64 (x : Int) 67108863 = ((x % 67108864 : Nat) : Int) := by
  have h := u64_and_nat x 67108863 hx (by decide)
  rw [show ((67108863 : Nat) : Int) = 67108863 from rfl] at h
  rw [h, show (67108863 : Nat) = 2 ^ 26 - 1 by decide, Nat.and_two_pow_sub_one_eq_mod, show (2 : Nat) ^ 26 = 67108864 by decide]
theorem wrap64 (x : Nat) : IntKind.u64.wrap (x : Int) = ((x % 18446744073709551616 : Nat) : Int) := by
  simp [IntKind.wrap, IntKind.bits, IntKind.signed]
theorem range_byt {w : World} {B g o : Nat} {l : List UInt8} (h : Byt w B (some ⟨g, o, none⟩) l) : w.rangeAt g o (bv l) := by
  intro j v hj
  have := cells_at h j v hj
  rwa [addr_add] at this
theorem wd_8 : wd 8 = 8 := by decide
theorem splice_all (l m : List UInt8) (h : l.length = m.length) : splice (bv m) 0 (bv l) = bv l := by
  rw [splice, List.take_zero, List.nil_append, Nat.zero_add, List.drop_eq_nil_of_le (by rw [bv_len, bv_len, h]; exact Nat.le_refl _), List.append_nil]
theorem splice_bv (m : List UInt8) (k : Nat) (x : List UInt8) : splice (bv m) k (bv x) = bv (m.take k ++ (x ++ m.drop (k + x.length))) := by
  simp [splice, bv, List.map_take, List.map_drop]
end Go.Proofs.YtehkalbiomagjaaDoor
namespace Go.Proofs.YtehkalbiomagjaaDoor
open Go.RowKit

/-- The prime; 2^64; 2^256. -/
def FP : Nat := 57896044618658097711785492504343953926634992332820282019728792003956564819949
theorem fp_eq : FP = 57896044618658097711785492504343953926634992332820282019728792003956564819949 := rfl
/-- A number in four pieces. -/
def n4 (a b c d : Nat) : Nat := a + 18446744073709551616 * b + 340282366920938463463374607431768211456 * c + 6277101735386680763835789423207666416102355444464034512896 * d
abbrev B64 : Nat := 18446744073709551616
theorem n4_lt (a b c d : Nat) (ha : a < B64) (hb : b < B64) (hc : c < B64) (hd : d < B64) : n4 a b c d < 115792089237316195423570985008687907853269984665640564039457584007913129639936 := by
  simp only [n4, B64] at *; omega
/-- The pieces of a number. -/
theorem n4_split (N : Nat) (h : N < 115792089237316195423570985008687907853269984665640564039457584007913129639936) :
    ∃ a b c d, n4 a b c d = N ∧ a < B64 ∧ b < B64 ∧ c < B64 ∧ d < B64 :=
  ⟨N % B64, N / B64 % B64, N / B64 / B64 % B64, N / B64 / B64 / B64, by simp only [n4, B64]; omega, by simp only [B64]; omega, by simp only [B64]; omega, by simp only [B64]; omega, by simp only [B64]; omega⟩
theorem n4_inj {a b c d a' b' c' d' : Nat} (ha : a < B64) (hb : b < B64) (hc : c < B64) (ha' : a' < B64) (hb' : b' < B64) (hc' : c' < B64)
    (h : n4 a b c d = n4 a' b' c' d') : a = a' ∧ b = b' ∧ c = c' ∧ d = d' := by
  simp only [n4, B64] at *; omega
/-- A new number's variable. -/
def z4 : List Nat := List.replicate 4 0
theorem sum4 (a0 a1 a2 a3 b0 b1 b2 b3 c0 c1 c2 c3 o0 o1 o2 o3 : Nat) (h0 : a0 + b0 + 0 = c0 + 18446744073709551616 * o0) (h1 : a1 + b1 + o0 = c1 + 18446744073709551616 * o1) (h2 : a2 + b2 + o1 = c2 + 18446744073709551616 * o2) (h3 : a3 + b3 + o2 = c3 + 18446744073709551616 * o3) :
    n4 c0 c1 c2 c3 + 115792089237316195423570985008687907853269984665640564039457584007913129639936 * o3 = n4 a0 a1 a2 a3 + n4 b0 b1 b2 b3 := by
  simp only [n4]; omega
theorem row4 (v a0 a1 a2 a3 b0 b1 b2 b3 c0 c1 c2 c3 o0 o1 o2 o3 : Nat) (h0 : c0 + 18446744073709551616 * o0 = v * a0 + b0 + 0) (h1 : c1 + 18446744073709551616 * o1 = v * a1 + b1 + o0) (h2 : c2 + 18446744073709551616 * o2 = v * a2 + b2 + o1) (h3 : c3 + 18446744073709551616 * o3 = v * a3 + b3 + o2) :
    n4 c0 c1 c2 c3 + 115792089237316195423570985008687907853269984665640564039457584007913129639936 * o3 = v * n4 a0 a1 a2 a3 + n4 b0 b1 b2 b3 := by
  simp only [n4]; grind
/-- Four cells written. -/
theorem set_four {W : World} {g : Nat} {t : TypeId} {l : List Nat} (hl : l.length = 4) (hg : W.heap[g]? = some (.cells (u64v l).toArray t (0, 0))) (a b c d : Nat) :
    ∃ w3, ((((W.setCell ⟨g, 0, none⟩ (.int .u64 (a : Int))).setCell ⟨g, 1, none⟩ (.int .u64 (b : Int))).setCell ⟨g, 2, none⟩ (.int .u64 (c : Int))).setCell ⟨g, 3, none⟩ (.int .u64 (d : Int))) = w3 ∧
      Hid (w3.heap[g]? = some (.cells (u64v [a, b, c, d]).toArray t (0, 0))) ∧ But g W w3 := by
  refine ⟨_, rfl, ?_, ((((But.refl g W).set _).set _).set _).set _⟩
  have h1 := (world_set_cell (world_set_cell (world_set_cell (world_set_cell hg 0 (.int .u64 (a : Int))).out 1 (.int .u64 (b : Int))).out 2 (.int .u64 (c : Int))).out 3 (.int .u64 (d : Int))).out
  rw [u64v_set, u64v_set, u64v_set, u64v_set] at h1
  match l, hl with
  | [_, _, _, _], _ => exact h1
theorem results_row_tmp {P : Program} {fn : Func} {p u : Tmp} {ty : TypeId} (h : fn.results = #[.cell p ty, .tmp u]) (tmps : Array Value) (w : World) (g : Nat) (t : TypeId) (cs : Array Value) (fr : Nat × Nat) (d : TypeDesc)
    (hp : tmps.getD p undef = .pointer (some ⟨g, 0, none⟩)) (hg : w.heap[g]? = some (.cells cs t fr))
    (hu : P.underlying ty = some d) (hd : (match d with | .struct _ | .array _ _ => true | _ => false) = true) (hi : (P.info? ty).map (·.size) = some cs.size) (v : Value) (hv : tmps.getD u undef = v) :
    (results fn tmps).run P w = .ok (.tuple #[.agg cs, v]) w := by
  rw [results_cell_tmp h, hp, hv]
  simp [asAddr, run_loadVar_row w g t ty cs fr d hg hu hd hi, Result.andThen]
section
variable {P : Program}
theorem add64_ex {f : Nat} (hf : ∀ args w, (callFunc f args).run P w = ((add64Entry args).run P w).andThen fun v w1 => .ok (.value v) w1) (x y c : Nat) (hx : x < B64) (hy : y < B64) (hc : c ≤ 1) :
    ∃ s o : Nat, (∀ w, (callFunc f #[.int .u64 (x : Int), .int .u64 (y : Int), .int .u64 (c : Int)]).run P w = .ok (.value (.tuple #[.int .u64 (s : Int), .int .u64 (o : Int)])) w) ∧ Vlt (x + y + c = s + 18446744073709551616 * o) ∧ s < B64 ∧ o ≤ 1 := by
  refine ⟨(x + y + c) % 18446744073709551616, (x + y + c) / 18446744073709551616, fun w => ?_, vlt (by omega), by simp only [B64] at *; omega, by simp only [B64] at *; omega⟩
  rw [hf, run_add64 x y c (by omega) (by omega) (by omega) (by omega)]
  simp only [Result.andThen]
  congr 5
theorem add64_ex0 {f : Nat} (hf : ∀ args w, (callFunc f args).run P w = ((add64Entry args).run P w).andThen fun v w1 => .ok (.value v) w1) (x y : Nat) (hx : x < B64) (hy : y < B64) :
    ∃ s o : Nat, (∀ w, (callFunc f #[.int .u64 (x : Int), .int .u64 (y : Int), .int .u64 0]).run P w = .ok (.value (.tuple #[.int .u64 (s : Int), .int .u64 (o : Int)])) w) ∧ Vlt (x + y + 0 = s + 18446744073709551616 * o) ∧ s < B64 ∧ o ≤ 1 :=
  add64_ex hf x y 0 hx hy (by decide)
end
end Go.Proofs.YtehkalbiomagjaaDoor
namespace Go.Proofs.YtehkalbiomagjaaDoor
open Go.RowKit

theorem held_more {P : Program} {ops : Array Oper} {Q : Exit → Act → World → Prop} {md : Region.Mode} {S S' : World → Prop} (h : ∀ w, S' w → S w) :
    ∀ (fuel : Nat) (listed : Array Bool) (a : Act) (w : World), wpAnyH P md ops Q S' fuel listed a w → wpAnyH P md ops Q S fuel listed a w
  | 0, _, _, _, H => H
  | fuel + 1, _, _, _, H => ⟨H.1, fun i hi => wpOp_mono (fun a' w' h' => ⟨h _ h'.1, held_more h fuel _ a' w' h'.2⟩) (H.2 i hi)⟩
end Go.Proofs.YtehkalbiomagjaaDoor
namespace Go.Proofs.YtehkalbiomagjaaDoor
open Go.RowKit

theorem add_run (args : Array Value) (w : World) : (callFunc 88 args).run Tryd.prog w = ((add64Entry args).run Tryd.prog w).andThen fun v w1 => .ok (.value v) w1 :=
  run_callFunc_extern Tryd.func88 (by kernel_rfl) (by kernel_rfl) (by kernel_rfl) (by kernel_rfl) args w

theorem zero_word (w : World) : (zeroValue 23).run Tryd.prog w = .ok (.agg (bv z32).toArray) w := by kernel_rfl
theorem row_next {w w' : World} {g : Nat} {cs : Array Value} {t : TypeId} (h : Hid (w.heap[g]? = some (.cells cs t (0, 0)))) (hb : Below w.heap.size w w') : Hid (w'.heap[g]? = some (.cells cs t (0, 0))) :=
  (hb.block _ (Array.getElem?_eq_some_iff.1 h.out).1).trans h.out
theorem not64 (b : Nat) (hb : b < 18446744073709551616) : 18446744073709551615 ^^^ b = 18446744073709551615 - b := by
  have h : (BitVec.allOnes 64 ^^^ BitVec.ofNat 64 b).toNat = (~~~ BitVec.ofNat 64 b).toNat := by rw [BitVec.allOnes_xor]
  rw [BitVec.toNat_xor, BitVec.toNat_not, BitVec.toNat_ofNat, BitVec.toNat_allOnes, Nat.mod_eq_of_lt (by omega)] at h
  simpa using h
theorem turn64 (b : Nat) (hb : b < B64) : bits .xor .u64 IntKind.u64.max (b : Int) = ((18446744073709551615 - b : Nat) : Int) := by
  have h := u64_xor 18446744073709551615 (b : Int) (by decide) (by decide) (by omega) (by simp only [B64] at hb; omega)
  rw [show IntKind.u64.max = 18446744073709551615 from rfl, h, show (18446744073709551615 : Int).toNat = 18446744073709551615 from rfl, Int.toNat_natCast, not64 b hb]
theorem ln_split (l : List UInt8) (k : Nat) (h : k ≤ l.length) : ln (l.take k) + 256 ^ k * ln (l.drop k) = ln l := by
  induction k generalizing l with
  | zero => simp [ln]
  | succ k ih =>
    cases l with
    | nil => simp at h
    | cons b r =>
      rw [List.take_succ_cons, List.drop_succ_cons, ln, ln, ← ih r (by simpa using h), Nat.pow_succ]
      grind
theorem ln_le (v : Nat) : ∀ n, ln (le v n) = v % 256 ^ n
  | 0 => by simp [ln, le, Nat.mod_one]
  | n + 1 => by
    rw [le, ln_snoc, ln_le v n, le_len, Nat.pow_succ, Nat.mod_mul, Nat.pow_mul, show (2 : Nat) ^ 8 = 256 by decide, UInt8.toNat_ofNat', show (2 : Nat) ^ 8 = 256 by decide, Nat.mul_comm (256 ^ n)]
theorem ln_inj : ∀ (l m : List UInt8), l.length = m.length → ln l = ln m → l = m
  | [], [], _, _ => rfl
  | a :: l, b :: m, h, e => by
    have h1 := a.toNat_lt
    have h2 := b.toNat_lt
    simp only [ln] at e
    have e1 : a.toNat = b.toNat := by omega
    have e2 : ln l = ln m := by omega
    rw [UInt8.toNat_inj.1 e1, ln_inj l m (by simpa using h) e2]
theorem lowN (a : Nat) (ha : a < 18446744073709551616) : bits .and .u64 (a : Int) 4294967295 = ((a % 4294967296 : Nat) : Int) := by
  have h := u64_and_nat a 4294967295 ha (by decide)
  rw [show ((4294967295 : Nat) : Int) = 4294967295 from rfl] at h
  rw [h, show (4294967295 : Nat) = 2 ^ 32 - 1 by decide, Nat.and_two_pow_sub_one_eq_mod, show (2 : Nat) ^ 32 = 4294967296 by decide]
theorem divN (a : Nat) : (a : Int) / 4294967296 = ((a / 4294967296 : Nat) : Int) := by omega
theorem mulN (a b : Nat) : (a : Int) * (b : Int) = ((a * b : Nat) : Int) := (Int.natCast_mul a b).symm
theorem addN (a b : Nat) : (a : Int) + (b : Int) = ((a + b : Nat) : Int) := (Int.natCast_add a b).symm
theorem wrapN (a : Nat) (ha : a < 18446744073709551616) : IntKind.u64.wrap (a : Int) = (a : Int) := by rw [wrap64, Nat.mod_eq_of_lt ha]
set_option maxRecDepth 100000 in
set_option maxHeartbeats 1000000 in
theorem mul64_any (w : World) (x y : Nat) (hx : x < B64) (hy : y < B64) :
    Calls Tryd.prog 87 #[.int .u64 (x : Int), .int .u64 (y : Int)] w fun e w' => ∃ h l : Nat, e = .returned (.tuple #[.int .u64 (h : Int), .int .u64 (l : Int)]) ∧ Vlt (l + 18446744073709551616 * h = x * y) ∧ h < B64 ∧ l < B64 ∧ w = w' := by
  obtain ⟨bd, bt, bw, hhi⟩ := Lib.mul64_hi x y hx hy
  have hxy : x * y / 18446744073709551616 < 18446744073709551616 := by
    have h1 : x * y ≤ 18446744073709551615 * 18446744073709551615 := Nat.mul_le_mul (by simp only [B64] at *; omega) (by simp only [B64] at *; omega)
    omega
  have HF := vlt (show x * y % 18446744073709551616 + 18446744073709551616 * (x * y / 18446744073709551616) = x * y by omega)
  have ba := Lib.half_mul_le (a := x / 4294967296) (b := y / 4294967296) (by simp only [B64] at *; omega) (by simp only [B64] at *; omega)
  have bb := Lib.half_mul_le (a := x / 4294967296) (b := y % 4294967296) (by simp only [B64] at *; omega) (by omega)
  have bc := Lib.half_mul_le (a := x % 4294967296) (b := y / 4294967296) (by omega) (by simp only [B64] at *; omega)
  have hhi2 := hhi
  rw [← hhi2] at hxy
  have hlm : x * y % 18446744073709551616 < B64 := Nat.mod_lt _ (by decide)
  have HH := vlt hhi
  clear hhi hhi2
  go_enter Tryd.func87, Tryd.ntmps87
  go_wp2
  simp only [lowN x hx, lowN y hy, divN, mulN, addN, wrapN _ bd, wrapN _ (Nat.lt_of_le_of_lt bb (by decide)), wrapN _ bt, lowN _ bt, wrapN _ (Nat.lt_of_le_of_lt bc (by decide)), wrapN _ bw, wrapN _ (Nat.lt_of_le_of_lt ba (by decide)), wrapN _ (Nat.lt_of_le_of_lt (Nat.le_add_right _ _) hxy), wrapN _ hxy, wrap64 (x * y)]
  go_ret2
  exact ⟨_, _, rfl, vlt (by rw [HH.out]; exact HF.out), by simp only [B64]; omega, hlm, rfl⟩

end Go.Proofs.YtehkalbiomagjaaDoor
namespace Go.Proofs.YtehkalbiomagjaaDoor
open Go.RowKit

theorem le_add (v n m : Nat) : le v (n + m) = le v n ++ le (v / 2 ^ (8 * n)) m := by
  induction m with
  | zero => simp [le]
  | succ m ih => rw [← Nat.add_assoc, le, le, ih, List.append_assoc, Nat.div_div_eq_div_mul, ← Nat.pow_add, Nat.mul_add]
/-- A small number's word. -/
def wk (n : Nat) : List UInt8 := le n 32
theorem wk_len (n : Nat) : (wk n).length = 32 := le_len n 32
theorem set_w1 : (bv z32).set 0 (.int .u8 1) = bv (wk 1) := by kernel_rfl
theorem set_w2 : (bv z32).set 0 (.int .u8 2) = bv (wk 2) := by kernel_rfl
theorem ln_z32 : ln z32 = 0 := by decide +kernel
theorem bv_z32_ne : ¬ bv z32 = [] := fun h => by have h1 := congrArg List.length h; rw [bv_len, z32_len] at h1; exact absurd h1 (by decide)
theorem le_zero (m : Nat) : le 0 m = List.replicate m 0 := by
  induction m with
  | zero => rfl
  | succ m ih => rw [le, ih, Nat.zero_div, List.replicate_succ']; rfl
theorem wk_four (u : Nat) (h : u < 4294967296) : wk u = [UInt8.ofNat u, UInt8.ofNat (u / 256), UInt8.ofNat (u / 65536), UInt8.ofNat (u / 16777216)] ++ List.replicate 28 0 := by
  rw [wk, show (32 : Nat) = 4 + 28 from rfl, le_add, show (2 : Nat) ^ (8 * 4) = 4294967296 by decide, Nat.div_eq_of_lt h, le_zero]
  simp [le]
theorem wk_five (u : Nat) (h : u < 1099511627776) : wk u = [UInt8.ofNat u, UInt8.ofNat (u / 256), UInt8.ofNat (u / 65536), UInt8.ofNat (u / 16777216), UInt8.ofNat (u / 4294967296)] ++ List.replicate 27 0 := by
  rw [wk, show (32 : Nat) = 5 + 27 from rfl, le_add, show (2 : Nat) ^ (8 * 5) = 1099511627776 by decide, Nat.div_eq_of_lt h, le_zero]
  simp [le]
theorem set_four_w (n : Nat) (hn : n < 4294967296) : ((((bv z32).set 0 (.int .u8 ((n : Int) % 256))).set 1 (.int .u8 ((n : Int) / 256 % 256))).set 2 (.int .u8 ((n : Int) / 65536 % 256))).set 3 (.int .u8 ((n : Int) / 16777216)) = bv (wk n) := by
  rw [wk_four n hn]
  have h3 : (n : Int) / 16777216 = (n : Int) / 16777216 % 256 := by omega
  rw [h3]
  simp [bv, z32, List.replicate]
theorem set_five_w (n : Nat) (hn : n < 1099511627776) : (((((bv z32).set 0 (.int .u8 ((n : Int) % 256))).set 1 (.int .u8 ((n : Int) / 256 % 256))).set 2 (.int .u8 ((n : Int) / 65536 % 256))).set 3 (.int .u8 ((n : Int) / 16777216 % 256))).set 4 (.int .u8 ((n : Int) / 4294967296)) = bv (wk n) := by
  rw [wk_five n hn]
  have h3 : (n : Int) / 4294967296 = (n : Int) / 4294967296 % 256 := by omega
  rw [h3]
  simp [bv, z32, List.replicate]
end Go.Proofs.YtehkalbiomagjaaDoor
namespace Go.Proofs.YtehkalbiomagjaaDoor
open Go.RowKit

/-- The first k bytes of each piece. -/
def quart (a b c d k : Nat) : List UInt8 := uptoB 8 (le a k) ++ (uptoB 8 (le b k) ++ (uptoB 8 (le c k) ++ uptoB 8 (le d k)))
theorem uptoB_put (n : Nat) (l : List UInt8) (x : UInt8) (h : l.length < n) : (uptoB n l).set l.length x = uptoB n (l ++ [x]) := by
  obtain ⟨m, hm⟩ : ∃ m, n - l.length = m + 1 := ⟨n - l.length - 1, by omega⟩
  rw [uptoB, uptoB, List.set_append_right _ _ (Nat.le_refl _), Nat.sub_self, hm, List.replicate_succ, List.set_cons_zero, List.length_append, List.append_assoc]
  congr 3
  simp; omega
theorem le_put (a k : Nat) (h : k < 8) : (uptoB 8 (le a k)).set k (UInt8.ofNat (a / 2 ^ (8 * k))) = uptoB 8 (le a (k + 1)) := by
  have h1 := uptoB_put 8 (le a k) (UInt8.ofNat (a / 2 ^ (8 * k))) (by rw [le_len]; exact h)
  rw [le_len] at h1
  exact h1
theorem set_r8 (A B : List UInt8) (j : Nat) (x : UInt8) (h : A.length = 8) : (A ++ B).set (j + 8) x = A ++ B.set j x := by
  rw [List.set_append_right _ _ (by omega), h, Nat.add_sub_cancel]
theorem set_l8 (A B : List UInt8) (j : Nat) (x : UInt8) (h : A.length = 8) (hj : j < 8) : (A ++ B).set j x = A.set j x ++ B := List.set_append_left _ _ (by omega)
theorem quart_set (a b c d k : Nat) (h : k < 8) : ((((quart a b c d k).set k (UInt8.ofNat (a / 2 ^ (8 * k)))).set (k + 8) (UInt8.ofNat (b / 2 ^ (8 * k)))).set (k + 16) (UInt8.ofNat (c / 2 ^ (8 * k)))).set (k + 24) (UInt8.ofNat (d / 2 ^ (8 * k))) = quart a b c d (k + 1) := by
  have hl : ∀ v j, j ≤ 8 → (uptoB 8 (le v j)).length = 8 := fun v j hj => uptoB_len 8 _ (by rw [le_len]; exact hj)
  have l0 := hl a k (by omega)
  have l1 := hl b k (by omega)
  have l2 := hl c k (by omega)
  have l0' := hl a (k + 1) (by omega)
  have l1' := hl b (k + 1) (by omega)
  have l2' := hl c (k + 1) (by omega)
  simp only [quart]
  rw [set_l8 _ _ _ _ l0 h, le_put a k h, set_r8 _ _ _ _ l0', set_l8 _ _ _ _ l1 h, le_put b k h, show k + 16 = k + 8 + 8 from rfl, set_r8 _ _ _ _ l0', set_r8 _ _ _ _ l1', set_l8 _ _ _ _ l2 h, le_put c k h,
    show k + 24 = k + 8 + 8 + 8 from rfl, set_r8 _ _ _ _ l0', set_r8 _ _ _ _ l1', set_r8 _ _ _ _ l2', le_put d k h]
theorem byte_low (a r n k : Nat) (h : k < n) : UInt8.ofNat ((a + 2 ^ (8 * n) * r) / 2 ^ (8 * k)) = UInt8.ofNat (a / 2 ^ (8 * k)) := by
  obtain ⟨m, rfl⟩ : ∃ m, n = k + 1 + m := ⟨n - (k + 1), by omega⟩
  have e : 2 ^ (8 * (k + 1 + m)) * r = 2 ^ (8 * k) * (256 * (2 ^ (8 * m) * r)) := by
    rw [show 8 * (k + 1 + m) = 8 * k + (8 + 8 * m) by omega, Nat.pow_add, Nat.pow_add, show (2 : Nat) ^ 8 = 256 by decide]
    grind
  rw [e, Nat.add_mul_div_left _ _ (Nat.two_pow_pos _)]
  apply UInt8.toNat_inj.1
  simp [UInt8.toNat_ofNat']
theorem le_low (a r n : Nat) : ∀ k, k ≤ n → le (a + 2 ^ (8 * n) * r) k = le a k
  | 0, _ => rfl
  | k + 1, h => by rw [le, le, le_low a r n k (by omega), byte_low a r n k (by omega)]
theorem le_join (a r m : Nat) (ha : a < 18446744073709551616) : le (a + 18446744073709551616 * r) (8 + m) = le a 8 ++ le r m := by
  have h := le_low a r 8 8 (Nat.le_refl _)
  rw [show (2 : Nat) ^ (8 * 8) = 18446744073709551616 by decide] at h
  rw [le_add, h, show (2 : Nat) ^ (8 * 8) = 18446744073709551616 by decide, Nat.add_mul_div_left _ _ (by decide), Nat.div_eq_of_lt ha, Nat.zero_add]
theorem quart_all (a b c d : Nat) (ha : a < 18446744073709551616) (hb : b < 18446744073709551616) (hc : c < 18446744073709551616) : quart a b c d 8 = le (n4 a b c d) 32 := by
  rw [quart, uptoB_all _ _ (le_len _ _), uptoB_all _ _ (le_len _ _), uptoB_all _ _ (le_len _ _), uptoB_all _ _ (le_len _ _)]
  rw [show n4 a b c d = a + 18446744073709551616 * (b + 18446744073709551616 * (c + 18446744073709551616 * d)) by simp only [n4]; omega, show (32 : Nat) = 8 + (8 + (8 + 8)) from rfl, le_join _ _ _ ha, le_join _ _ _ hb, le_join _ _ _ hc]
end Go.Proofs.YtehkalbiomagjaaDoor
namespace Go.Proofs.YtehkalbiomagjaaDoor
open Go.RowKit

/-- The word of a number. -/
def wo (N : Nat) : List UInt8 := le (N % FP) 32
theorem wo_len (N : Nat) : (wo N).length = 32 := le_len _ _
theorem fp_pos : 0 < FP := by decide
theorem ln_wo (N : Nat) : ln (wo N) = N % FP := by
  rw [wo, ln_le, Nat.mod_eq_of_lt (Nat.lt_trans (Nat.mod_lt _ fp_pos) (by decide))]
theorem wo_of {N M : Nat} (h : N % FP = M % FP) : wo N = wo M := by rw [wo, wo, h]
theorem wo_ln (l : List UInt8) (h : l.length = 32) (h2 : ln l < FP) : wo (ln l) = l := ln_inj _ _ (by rw [wo_len, h]) (by rw [ln_wo, Nat.mod_eq_of_lt h2])
theorem wo_inj {N M : Nat} (h : wo N = wo M) : N % FP = M % FP := by rw [← ln_wo, ← ln_wo, h]
/-- Less, modulo the prime; a whole number, modulo the prime. -/
def subF (x y : Nat) : Nat := x + (FP - y % FP)
theorem subF_of {c b a : Nat} (h : (c + b) % FP = a % FP) : c % FP = subF a b % FP := by
  have hb : b % FP < FP := Nat.mod_lt _ fp_pos
  have h1 : (c + b + (FP - b % FP)) % FP = subF a b % FP := by rw [subF, Nat.add_mod, h, ← Nat.add_mod]
  rw [← h1]
  have h2 : c + b + (FP - b % FP) = c + FP * (b / FP + 1) := by
    have := Nat.div_add_mod b FP
    rw [Nat.mul_add, Nat.mul_one]
    omega
  rw [h2, Nat.add_mul_mod_self_left]
theorem subF_add (a b : Nat) : (subF a b + b) % FP = a % FP := by
  have hb : b % FP < FP := Nat.mod_lt _ fp_pos
  have h2 : subF a b + b = a + FP * (b / FP + 1) := by
    have := Nat.div_add_mod b FP
    rw [subF, Nat.mul_add, Nat.mul_one]
    omega
  rw [h2, Nat.add_mul_mod_self_left]
theorem subF_mod (a b : Nat) : subF (a % FP) (b % FP) % FP = subF a b % FP := by
  simp only [subF, Nat.mod_mod, Nat.mod_add_mod]
def ofF (n : Int) : Nat := (n % (FP : Int)).toNat
theorem ofF_nat (n : Nat) : ofF (n : Int) = n % FP := by
  rw [ofF]; omega
theorem ofF_neg (n : Nat) : ofF (-(n : Int)) % FP = subF 0 n % FP := by
  have h : (ofF (-(n : Int)) + n) % FP = 0 % FP := by
    have hp : (0 : Int) < (FP : Int) := by decide
    have h1 := Int.emod_nonneg (-(n : Int)) (Int.ne_of_gt hp)
    have h2 : ((ofF (-(n : Int)) : Nat) : Int) = -(n : Int) % (FP : Int) := Int.toNat_of_nonneg h1
    have h3 : (((ofF (-(n : Int)) + n) % FP : Nat) : Int) = 0 := by
      rw [Int.natCast_emod, Int.natCast_add, h2, Int.emod_add_emod, Int.add_left_neg, Int.zero_emod]
    rw [Nat.zero_mod]
    omega
  exact subF_of h
theorem ofF_int (n : Int) : ((ofF n : Nat) : Int) = n % (FP : Int) := Int.toNat_of_nonneg (Int.emod_nonneg _ (by decide))
theorem ofF_lt (n : Int) : ofF n < FP := by
  have h1 := Int.emod_lt_of_pos n (show (0 : Int) < (FP : Int) by decide)
  have h2 := ofF_int n
  omega
theorem ofF_add (a b : Int) : (ofF a + ofF b) % FP = ofF (a + b) % FP := by
  have h : (((ofF a + ofF b) % FP : Nat) : Int) = ((ofF (a + b) % FP : Nat) : Int) := by
    rw [Int.natCast_emod, Int.natCast_emod, Int.natCast_add, ofF_int, ofF_int, ofF_int, ← Int.add_emod, Int.emod_emod]
  exact Int.ofNat.inj h
theorem ofF_mul (a b : Int) : (ofF a * ofF b) % FP = ofF (a * b) % FP := by
  have h : (((ofF a * ofF b) % FP : Nat) : Int) = ((ofF (a * b) % FP : Nat) : Int) := by
    rw [Int.natCast_emod, Int.natCast_emod, Int.natCast_mul, ofF_int, ofF_int, ofF_int, ← Int.mul_emod, Int.emod_emod]
  exact Int.ofNat.inj h
theorem ofF_sub (a b : Int) : subF (ofF a) (ofF b) % FP = ofF (a - b) % FP := by
  refine (subF_of ?_).symm
  rw [ofF_add, Int.sub_add_cancel]
theorem ofF_inj (a b : Int) (ha : -4294967296 < a) (ha2 : a < 4294967296) (hb : -4294967296 < b) (hb2 : b < 4294967296) (h : ofF a = ofF b) : a = b := by
  have h1 : a % (FP : Int) = b % (FP : Int) := by rw [← ofF_int, ← ofF_int, h]
  rw [show (FP : Int) = 57896044618658097711785492504343953926634992332820282019728792003956564819949 from rfl] at h1
  omega
theorem prod32 (a b : Int) (ha : -2147483648 ≤ a) (ha2 : a ≤ 2147483647) (hb : -2147483648 ≤ b) (hb2 : b ≤ 2147483647) : -4611686018427387904 ≤ a * b ∧ a * b ≤ 4611686018427387904 := by
  have h : (a * b).natAbs ≤ 2147483648 * 2147483648 := by
    rw [Int.natAbs_mul]
    exact Nat.mul_le_mul (by omega) (by omega)
  omega
end Go.Proofs.YtehkalbiomagjaaDoor
namespace Go.Proofs.YtehkalbiomagjaaDoor
open Go.RowKit

theorem zero_n4 (w : World) : (zeroValue 77).run Tryd.prog w = .ok (.agg (u64v z4).toArray) w := by kernel_rfl
set_option maxRecDepth 100000 in
set_option maxHeartbeats 1000000 in
theorem step_any (w : World) (v x y z : Nat) (hv : v < B64) (hx : x < B64) (hy : y < B64) (hz : z < B64) :
    Calls Tryd.prog 89 #[.int .u64 (v : Int), .int .u64 (x : Int), .int .u64 (y : Int), .int .u64 (z : Int)] w fun e w' => ∃ h l : Nat, e = .returned (.tuple #[.int .u64 (h : Int), .int .u64 (l : Int)]) ∧ Vlt (l + 18446744073709551616 * h = v * x + y + z) ∧ h < B64 ∧ l < B64 ∧ w = w' := by
  go_enter Tryd.func89, Tryd.ntmps89
  go_wp2_with fail
  refine (mul64_any w v x hv hx).mono ?_
  rintro e w' ⟨h, l, rfl, he, lh, ll, rfl⟩
  obtain ⟨s1, o1, r1, e1, ls1, lo1⟩ := add64_ex0 add_run l y ll hy
  obtain ⟨s2, o2, r2, e2, ls2, lo2⟩ := add64_ex0 add_run s1 z ls1 hz
  have hb : h + o1 + o2 < 18446744073709551616 := by
    have h1 : v * x ≤ 18446744073709551615 * 18446744073709551615 := Nat.mul_le_mul (by simp only [B64] at *; omega) (by simp only [B64] at *; omega)
    have h2 := he.out
    have h3 := e1.out
    have h4 := e2.out
    simp only [B64] at *
    generalize v * x = p at *
    omega
  have HE := vlt (show s2 + 18446744073709551616 * (h + o1 + o2) = v * x + y + z by have h2 := he.out; have h3 := e1.out; have h4 := e2.out; generalize v * x = p at *; omega)
  have hb1 : h + o1 < 18446744073709551616 := by omega
  clear he e1 e2
  go_wp2
  rw [show (h : Int) + (o1 : Int) + (o2 : Int) = ((h + o1 + o2 : Nat) : Int) by omega]
  go_ret2
  exact ⟨_, s2, rfl, HE, hb, ls2, rfl⟩

set_option maxRecDepth 100000 in
set_option maxHeartbeats 2000000 in
theorem sum_any (w : World) (a0 a1 a2 a3 b0 b1 b2 b3 : Nat) (ha0 : a0 < B64) (ha1 : a1 < B64) (ha2 : a2 < B64) (ha3 : a3 < B64) (hb0 : b0 < B64) (hb1 : b1 < B64) (hb2 : b2 < B64) (hb3 : b3 < B64) :
    Calls Tryd.prog 78 #[.agg (u64v [a0, a1, a2, a3]).toArray, .agg (u64v [b0, b1, b2, b3]).toArray] w fun e w' => ∃ c0 c1 c2 c3 o : Nat, e = .returned (.tuple #[.agg (u64v [c0, c1, c2, c3]).toArray, .int .u64 (o : Int)]) ∧
      Vlt (n4 c0 c1 c2 c3 + 115792089237316195423570985008687907853269984665640564039457584007913129639936 * o = n4 a0 a1 a2 a3 + n4 b0 b1 b2 b3) ∧ (c0 < B64 ∧ c1 < B64 ∧ c2 < B64 ∧ c3 < B64) ∧ o ≤ 1 ∧ Below w.heap.size w w' := by
  have hzn := zero_n4
  obtain ⟨W, hW, hgA, hgB, hgZ, hbW, hsW⟩ := three_new w (u64v [a0, a1, a2, a3]).toArray (u64v [b0, b1, b2, b3]).toArray (u64v z4).toArray 77 77 77
  have HW := Lib.hid hW
  have hs1 : w.heap.size + 2 < W.heap.size := by have := hsW.out; omega
  clear hW
  obtain ⟨c0, o0, r0, e0, lc0, lo0⟩ := add64_ex0 add_run a0 b0 ha0 hb0
  obtain ⟨c1, o1, r1, e1, lc1, lo1⟩ := add64_ex add_run a1 b1 o0 ha1 hb1 lo0
  obtain ⟨c2, o2, r2, e2, lc2, lo2⟩ := add64_ex add_run a2 b2 o1 ha2 hb2 lo1
  obtain ⟨c3, o3, r3, e3, lc3, lo3⟩ := add64_ex add_run a3 b3 o2 ha3 hb3 lo2
  have HE := vlt (sum4 a0 a1 a2 a3 b0 b1 b2 b3 c0 c1 c2 c3 o0 o1 o2 o3 e0.out e1.out e2.out e3.out)
  clear e0 e1 e2 e3
  go_enter Tryd.func78, Tryd.ntmps78
  go_upto_region 1 with fail
  rw [HW.out]
  have ca0 : W.cell? ⟨w.heap.size, 0, none⟩ = some (.int .u64 (a0 : Int)) := long_at hgA.out 0 (by simp)
  have ca1 : W.cell? ⟨w.heap.size, 1, none⟩ = some (.int .u64 (a1 : Int)) := long_at hgA.out 1 (by simp)
  have ca2 : W.cell? ⟨w.heap.size, 2, none⟩ = some (.int .u64 (a2 : Int)) := long_at hgA.out 2 (by simp)
  have ca3 : W.cell? ⟨w.heap.size, 3, none⟩ = some (.int .u64 (a3 : Int)) := long_at hgA.out 3 (by simp)
  have cb0 : W.cell? ⟨w.heap.size + 1, 0, none⟩ = some (.int .u64 (b0 : Int)) := long_at hgB.out 0 (by simp)
  have cb1 : W.cell? ⟨w.heap.size + 1, 1, none⟩ = some (.int .u64 (b1 : Int)) := long_at hgB.out 1 (by simp)
  have cb2 : W.cell? ⟨w.heap.size + 1, 2, none⟩ = some (.int .u64 (b2 : Int)) := long_at hgB.out 2 (by simp)
  have cb3 : W.cell? ⟨w.heap.size + 1, 3, none⟩ = some (.int .u64 (b3 : Int)) := long_at hgB.out 3 (by simp)
  have f0 : W.frozen? ⟨w.heap.size, 0, none⟩ = false := frozen_of_row _ _ _ _ _ hgA.out
  have f1 : W.frozen? ⟨w.heap.size, 1, none⟩ = false := frozen_of_row _ _ _ _ _ hgA.out
  have f2 : W.frozen? ⟨w.heap.size, 2, none⟩ = false := frozen_of_row _ _ _ _ _ hgA.out
  have f3 : W.frozen? ⟨w.heap.size, 3, none⟩ = false := frozen_of_row _ _ _ _ _ hgA.out
  go_upto_region 6 with fail
  obtain ⟨w3, hw3, hg3, hb3⟩ := set_four rfl hgA.out c0 c1 c2 c3
  rw [hw3]
  have hz3 : Hid (w3.heap[w.heap.size + 1 + 1]? = some (.cells (u64v z4).toArray 77 (0, 0))) := (hb3.block _ (by omega) (by intro e; injection e; omega)).trans hgZ.out
  have hbw : Below w.heap.size w w3 := But.below hbW hb3 (by omega) (by omega)
  clear hw3 ca0 ca1 ca2 ca3 cb0 cb1 cb2 cb3 f0 f1 f2 f3
  go_wp2_with (first
    | (with_reducible refine wpList_load_row rfl 77 (.tmp 2) rfl w.heap.size rfl 77 (u64v [c0, c1, c2, c3]).toArray (0, 0) _ hg3.out Tryd.underlying77 rfl (by kernel_rfl) ?_)
    | (with_reducible refine wpList_store_row rfl 77 (.tmp 4) (.tmp 46) rfl (w.heap.size + 1 + 1) (u64v [c0, c1, c2, c3]).toArray rfl rfl 77 _ hz3.out (by kernel_rfl) (by kernel_rfl) (all_oneCell_toArray (u64v_one _)) ?_))
  refine bodyPost_ret (v := .tuple #[.agg (u64v [c0, c1, c2, c3]).toArray, .int .u64 (o3 : Int)]) (results_row_tmp Tryd.results78 _ _ (w.heap.size + 1 + 1) 77 _ (0, 0) _ rfl (setRow_heap _ _ _ _ _ _ hz3.out) Tryd.underlying77 rfl (by kernel_rfl) _ rfl) rfl ⟨c0, c1, c2, c3, o3, rfl, HE, ⟨lc0, lc1, lc2, lc3⟩, lo3, below_setRow hbw (by omega) _⟩

set_option maxRecDepth 100000 in
set_option maxHeartbeats 2000000 in
theorem row_any (w : World) (v a0 a1 a2 a3 b0 b1 b2 b3 : Nat) (hv : v < B64) (ha0 : a0 < B64) (ha1 : a1 < B64) (ha2 : a2 < B64) (ha3 : a3 < B64) (hb0 : b0 < B64) (hb1 : b1 < B64) (hb2 : b2 < B64) (hb3 : b3 < B64) :
    Calls Tryd.prog 76 #[.agg (u64v [a0, a1, a2, a3]).toArray, .int .u64 (v : Int), .agg (u64v [b0, b1, b2, b3]).toArray] w fun e w' => ∃ c0 c1 c2 c3 o : Nat, e = .returned (.tuple #[.agg (u64v [c0, c1, c2, c3]).toArray, .int .u64 (o : Int)]) ∧
      Vlt (n4 c0 c1 c2 c3 + 115792089237316195423570985008687907853269984665640564039457584007913129639936 * o = v * n4 a0 a1 a2 a3 + n4 b0 b1 b2 b3) ∧ (c0 < B64 ∧ c1 < B64 ∧ c2 < B64 ∧ c3 < B64) ∧ o < B64 ∧ Below w.heap.size w w' := by
  have hzn := zero_n4
  obtain ⟨W, hW, hgA, hgB, hgZ, hbW, hsW⟩ := three_new w (u64v [a0, a1, a2, a3]).toArray (u64v [b0, b1, b2, b3]).toArray (u64v z4).toArray 77 77 77
  have HW := Lib.hid hW
  have hs1 : w.heap.size + 2 < W.heap.size := by have := hsW.out; omega
  clear hW
  have ca0 : W.cell? ⟨w.heap.size, 0, none⟩ = some (.int .u64 (a0 : Int)) := long_at hgA.out 0 (by simp)
  have ca1 : W.cell? ⟨w.heap.size, 1, none⟩ = some (.int .u64 (a1 : Int)) := long_at hgA.out 1 (by simp)
  have ca2 : W.cell? ⟨w.heap.size, 2, none⟩ = some (.int .u64 (a2 : Int)) := long_at hgA.out 2 (by simp)
  have ca3 : W.cell? ⟨w.heap.size, 3, none⟩ = some (.int .u64 (a3 : Int)) := long_at hgA.out 3 (by simp)
  have cb0 : W.cell? ⟨w.heap.size + 1, 0, none⟩ = some (.int .u64 (b0 : Int)) := long_at hgB.out 0 (by simp)
  have cb1 : W.cell? ⟨w.heap.size + 1, 1, none⟩ = some (.int .u64 (b1 : Int)) := long_at hgB.out 1 (by simp)
  have cb2 : W.cell? ⟨w.heap.size + 1, 2, none⟩ = some (.int .u64 (b2 : Int)) := long_at hgB.out 2 (by simp)
  have cb3 : W.cell? ⟨w.heap.size + 1, 3, none⟩ = some (.int .u64 (b3 : Int)) := long_at hgB.out 3 (by simp)
  have f0 : W.frozen? ⟨w.heap.size, 0, none⟩ = false := frozen_of_row _ _ _ _ _ hgA.out
  have f1 : W.frozen? ⟨w.heap.size, 1, none⟩ = false := frozen_of_row _ _ _ _ _ hgA.out
  have f2 : W.frozen? ⟨w.heap.size, 2, none⟩ = false := frozen_of_row _ _ _ _ _ hgA.out
  have f3 : W.frozen? ⟨w.heap.size, 3, none⟩ = false := frozen_of_row _ _ _ _ _ hgA.out
  go_enter Tryd.func76, Tryd.ntmps76
  go_upto_region 1 with fail
  rw [HW.out]
  go_wp2_with fail
  refine (step_any _ v a0 b0 0 hv ha0 hb0 (by decide)).mono ?_
  rintro e w' ⟨o0, c0, rfl, e0, lo0, lc0, rfl⟩
  go_wp2_with fail
  refine (step_any _ v a1 b1 o0 hv ha1 hb1 lo0).mono ?_
  rintro e w' ⟨o1, c1, rfl, e1, lo1, lc1, rfl⟩
  go_wp2_with fail
  refine (step_any _ v a2 b2 o1 hv ha2 hb2 lo1).mono ?_
  rintro e w' ⟨o2, c2, rfl, e2, lo2, lc2, rfl⟩
  go_wp2_with fail
  refine (step_any _ v a3 b3 o2 hv ha3 hb3 lo2).mono ?_
  rintro e w' ⟨o3, c3, rfl, e3, lo3, lc3, rfl⟩
  have HE := vlt (row4 v a0 a1 a2 a3 b0 b1 b2 b3 c0 c1 c2 c3 o0 o1 o2 o3 e0.out e1.out e2.out e3.out)
  clear e0 e1 e2 e3
  go_upto_region 6 with fail
  obtain ⟨w3, hw3, hg3, hb3⟩ := set_four rfl hgA.out c0 c1 c2 c3
  rw [hw3]
  have hz3 : Hid (w3.heap[w.heap.size + 1 + 1]? = some (.cells (u64v z4).toArray 77 (0, 0))) := (hb3.block _ (by omega) (by intro e; injection e; omega)).trans hgZ.out
  have hbw : Below w.heap.size w w3 := But.below hbW hb3 (by omega) (by omega)
  clear hw3 ca0 ca1 ca2 ca3 cb0 cb1 cb2 cb3 f0 f1 f2 f3
  go_wp2_with (first
    | (with_reducible refine wpList_load_row rfl 77 (.tmp 3) rfl w.heap.size rfl 77 (u64v [c0, c1, c2, c3]).toArray (0, 0) _ hg3.out Tryd.underlying77 rfl (by kernel_rfl) ?_)
    | (with_reducible refine wpList_store_row rfl 77 (.tmp 6) (.tmp 52) rfl (w.heap.size + 1 + 1) (u64v [c0, c1, c2, c3]).toArray rfl rfl 77 _ hz3.out (by kernel_rfl) (by kernel_rfl) (all_oneCell_toArray (u64v_one _)) ?_))
  refine bodyPost_ret (v := .tuple #[.agg (u64v [c0, c1, c2, c3]).toArray, .int .u64 (o3 : Int)]) (results_row_tmp Tryd.results76 _ _ (w.heap.size + 1 + 1) 77 _ (0, 0) _ rfl (setRow_heap _ _ _ _ _ _ hz3.out) Tryd.underlying77 rfl (by kernel_rfl) _ rfl) rfl ⟨c0, c1, c2, c3, o3, rfl, HE, ⟨lc0, lc1, lc2, lc3⟩, lo3, below_setRow hbw (by omega) _⟩
end Go.Proofs.YtehkalbiomagjaaDoor
namespace Go.Proofs.YtehkalbiomagjaaDoor
open Go.RowKit

theorem fp_mod {x y q : Nat} (h : x = y + FP * q) : x % FP = y % FP := by rw [h, Nat.add_mul_mod_self_left]
theorem fold_sum (N v B o C o2 : Nat) (hv : v ≤ 38) (h1 : B + 115792089237316195423570985008687907853269984665640564039457584007913129639936 * o = N + n4 (38 * v) 0 0 0) (h2 : C + 115792089237316195423570985008687907853269984665640564039457584007913129639936 * o2 = B + n4 (38 * o) 0 0 0)
    (hN : N < 115792089237316195423570985008687907853269984665640564039457584007913129639936) (hB : B < 115792089237316195423570985008687907853269984665640564039457584007913129639936) :
    C % FP = (N + 115792089237316195423570985008687907853269984665640564039457584007913129639936 * v) % FP := by
  refine (fp_mod (q := 2 * v + 2 * o) ?_).symm
  rw [fp_eq]
  simp only [n4] at *
  omega
theorem built_one (a : Nat) : Tryd.prog.built 77 [(0, .int .u64 (a : Int))] = some (u64v [a, 0, 0, 0]).toArray := by kernel_rfl
theorem built_n4 (a b c d : Nat) : Tryd.prog.built 77 [(0, .int .u64 (a : Int)), (1, .int .u64 (b : Int)), (2, .int .u64 (c : Int)), (3, .int .u64 (d : Int))] = some (u64v [a, b, c, d]).toArray := by kernel_rfl
theorem built_z4 : Tryd.prog.built 77 [] = some (u64v [0, 0, 0, 0]).toArray := by kernel_rfl

set_option maxRecDepth 100000 in
set_option maxHeartbeats 1000000 in
theorem folded_any (w : World) (a0 a1 a2 a3 v : Nat) (ha0 : a0 < B64) (ha1 : a1 < B64) (ha2 : a2 < B64) (ha3 : a3 < B64) (hv : v ≤ 38) :
    Calls Tryd.prog 77 #[.agg (u64v [a0, a1, a2, a3]).toArray, .int .u64 (v : Int)] w fun e w' => ∃ c0 c1 c2 c3 : Nat, e = .returned (.agg (u64v [c0, c1, c2, c3]).toArray) ∧
      Vlt (n4 c0 c1 c2 c3 % FP = (n4 a0 a1 a2 a3 + 115792089237316195423570985008687907853269984665640564039457584007913129639936 * v) % FP) ∧ (c0 < B64 ∧ c1 < B64 ∧ c2 < B64 ∧ c3 < B64) ∧ Below w.heap.size w w' := by
  have hzn := zero_n4
  obtain ⟨W, hW, hgA, hgZ, hbW, hsW⟩ := pair_new w (u64v [a0, a1, a2, a3]).toArray (u64v z4).toArray 77 77
  have HW := Lib.hid hW
  have hs1 : w.heap.size + 1 < W.heap.size := by have := hsW.out; omega
  clear hW
  have hv64 : 38 * v < B64 := by simp only [B64]; omega
  have ev : (38 : Int) * (v : Int) = ((38 * v : Nat) : Int) := by omega
  have hcall := sum_any W a0 a1 a2 a3 (38 * v) 0 0 0 ha0 ha1 ha2 ha3 hv64 (by decide) (by decide) (by decide)
  have hbt := built_one (38 * v)
  have hN := n4_lt a0 a1 a2 a3 ha0 ha1 ha2 ha3
  have hFS := fold_sum (n4 a0 a1 a2 a3) v
  generalize 38 * v = u at *
  go_enter Tryd.func77, Tryd.ntmps77
  go_upto_region 1 with fail
  rw [HW.out]
  go_wp2_with (first
    | (with_reducible refine wpList_load_row rfl 77 (.tmp 2) rfl w.heap.size rfl 77 (u64v [a0, a1, a2, a3]).toArray (0, 0) _ hgA.out Tryd.underlying77 rfl (by kernel_rfl) ?_)
    | (with_reducible refine wpList_build_to rfl 77 _ rfl [(0, .int .u64 (u : Int))] (by rw [← ev]; rfl) _ hbt ?_))
  refine hcall.mono ?_
  rintro e w1 ⟨b0, b1, b2, b3, o, rfl, e1, ⟨lb0, lb1, lb2, lb3⟩, lo, hb1⟩
  have hg1 : Hid (w1.heap[w.heap.size]? = some (.cells (u64v [a0, a1, a2, a3]).toArray 77 (0, 0))) := (hb1.block _ (by omega)).trans hgA.out
  have hz1 : Hid (w1.heap[w.heap.size + 1]? = some (.cells (u64v z4).toArray 77 (0, 0))) := (hb1.block _ (by omega)).trans hgZ.out
  have hbw := below_next hbW hbW.size hb1
  have hs2 : w.heap.size + 1 < w1.heap.size := by have := hb1.size; omega
  go_upto_region 2 with (with_reducible refine wpList_store_row rfl 77 (.tmp 2) (.tmp 11) rfl w.heap.size (u64v [b0, b1, b2, b3]).toArray rfl rfl 77 _ hg1.out (by kernel_rfl) (by kernel_rfl) (all_oneCell_toArray (u64v_one _)) ?_)
  obtain ⟨w2, hw2⟩ : ∃ w2, w2 = w1.setRow w.heap.size (u64v [b0, b1, b2, b3]).toArray := ⟨_, rfl⟩
  rw [← hw2]
  have hg2 : Hid (w2.heap[w.heap.size]? = some (.cells (u64v [b0, b1, b2, b3]).toArray 77 (0, 0))) := by rw [hw2]; exact setRow_heap _ _ _ _ _ _ hg1.out
  have hb2 : Below w.heap.size w w2 := by rw [hw2]; exact below_setRow hbw (by omega) _
  have hz2 : Hid (w2.heap[w.heap.size + 1]? = some (.cells (u64v z4).toArray 77 (0, 0))) := by rw [hw2]; exact (setRow_other _ _ _ _ (by omega)).trans hz1.out
  have hs3 : w.heap.size + 1 < w2.heap.size := by rw [hw2]; simpa [World.setRow] using hs2
  clear hw2 hg1 hz1 hbw hs2
  have ho64 : 38 * o < B64 := by simp only [B64]; omega
  have eo : (38 : Int) * (o : Int) = ((38 * o : Nat) : Int) := by omega
  have hcall2 := sum_any w2 b0 b1 b2 b3 (38 * o) 0 0 0 lb0 lb1 lb2 lb3 ho64 (by decide) (by decide) (by decide)
  have hFS2 := hFS (n4 b0 b1 b2 b3) o
  have hB := n4_lt b0 b1 b2 b3 lb0 lb1 lb2 lb3
  generalize 38 * o = u2 at *
  go_wp2_with (first
    | (with_reducible refine wpList_load_row rfl 77 (.tmp 2) rfl w.heap.size rfl 77 (u64v [b0, b1, b2, b3]).toArray (0, 0) _ hg2.out Tryd.underlying77 rfl (by kernel_rfl) ?_))
  refine hcall2.mono ?_
  rintro e w3 ⟨c0, c1, c2, c3, o2, rfl, e2, ⟨lc0, lc1, lc2, lc3⟩, _, hb3⟩
  have HE := vlt (hFS2 (n4 c0 c1 c2 c3) o2 hv e1.out e2.out hN hB)
  clear e1 e2 hFS hFS2
  have hg3 : Hid (w3.heap[w.heap.size]? = some (.cells (u64v [b0, b1, b2, b3]).toArray 77 (0, 0))) := (hb3.block _ (by omega)).trans hg2.out
  have hz3 : Hid (w3.heap[w.heap.size + 1]? = some (.cells (u64v z4).toArray 77 (0, 0))) := (hb3.block _ (by omega)).trans hz2.out
  have hbw3 := below_next hb2 (by omega) hb3
  have hs4 : w.heap.size + 1 < w3.heap.size := by have := hb3.size; omega
  go_upto_region 3 with (with_reducible refine wpList_store_row rfl 77 (.tmp 2) (.tmp 19) rfl w.heap.size (u64v [c0, c1, c2, c3]).toArray rfl rfl 77 _ hg3.out (by kernel_rfl) (by kernel_rfl) (all_oneCell_toArray (u64v_one _)) ?_)
  obtain ⟨w4, hw4⟩ : ∃ w4, w4 = w3.setRow w.heap.size (u64v [c0, c1, c2, c3]).toArray := ⟨_, rfl⟩
  rw [← hw4]
  have hg4 : Hid (w4.heap[w.heap.size]? = some (.cells (u64v [c0, c1, c2, c3]).toArray 77 (0, 0))) := by rw [hw4]; exact setRow_heap _ _ _ _ _ _ hg3.out
  have hb4 : Below w.heap.size w w4 := by rw [hw4]; exact below_setRow hbw3 (by omega) _
  have hz4 : Hid (w4.heap[w.heap.size + 1]? = some (.cells (u64v z4).toArray 77 (0, 0))) := by rw [hw4]; exact (setRow_other _ _ _ _ (by omega)).trans hz3.out
  clear hw4 hg3 hz3
  go_wp2_with (first
    | (with_reducible refine wpList_load_row rfl 77 (.tmp 2) rfl w.heap.size rfl 77 (u64v [c0, c1, c2, c3]).toArray (0, 0) _ hg4.out Tryd.underlying77 rfl (by kernel_rfl) ?_)
    | (with_reducible refine wpList_store_row rfl 77 (.tmp 4) (.tmp 21) rfl (w.heap.size + 1) (u64v [c0, c1, c2, c3]).toArray rfl rfl 77 _ hz4.out (by kernel_rfl) (by kernel_rfl) (all_oneCell_toArray (u64v_one _)) ?_))
  refine bodyPost_ret (v := .agg (u64v [c0, c1, c2, c3]).toArray) (results_cell_row Tryd.results77 _ _ (w.heap.size + 1) 77 _ (0, 0) _ rfl (setRow_heap _ _ _ _ _ _ hz4.out) Tryd.underlying77 rfl (by kernel_rfl)) rfl ⟨c0, c1, c2, c3, rfl, HE, ⟨lc0, lc1, lc2, lc3⟩, below_setRow hb4 (by omega) _⟩

set_option maxRecDepth 100000 in
set_option maxHeartbeats 1000000 in
theorem plus_any (w : World) (a0 a1 a2 a3 b0 b1 b2 b3 : Nat) (ha0 : a0 < B64) (ha1 : a1 < B64) (ha2 : a2 < B64) (ha3 : a3 < B64) (hb0 : b0 < B64) (hb1 : b1 < B64) (hb2 : b2 < B64) (hb3 : b3 < B64) :
    Calls Tryd.prog 55 #[.agg (u64v [a0, a1, a2, a3]).toArray, .agg (u64v [b0, b1, b2, b3]).toArray] w fun e w' => ∃ c0 c1 c2 c3 : Nat, e = .returned (.agg (u64v [c0, c1, c2, c3]).toArray) ∧
      Vlt (n4 c0 c1 c2 c3 % FP = (n4 a0 a1 a2 a3 + n4 b0 b1 b2 b3) % FP) ∧ (c0 < B64 ∧ c1 < B64 ∧ c2 < B64 ∧ c3 < B64) ∧ Below w.heap.size w w' := by
  have hzn := zero_n4
  obtain ⟨W, hW, hgA, hgB, hgZ, hbW, hsW⟩ := three_new w (u64v [a0, a1, a2, a3]).toArray (u64v [b0, b1, b2, b3]).toArray (u64v z4).toArray 77 77 77
  have HW := Lib.hid hW
  have hs1 : w.heap.size + 2 < W.heap.size := by have := hsW.out; omega
  clear hW
  go_enter Tryd.func55, Tryd.ntmps55
  go_upto_region 1 with fail
  rw [HW.out]
  go_wp2_with (first
    | (with_reducible refine wpList_load_row rfl 77 (.tmp 2) rfl w.heap.size rfl 77 (u64v [a0, a1, a2, a3]).toArray (0, 0) _ hgA.out Tryd.underlying77 rfl (by kernel_rfl) ?_)
    | (with_reducible refine wpList_load_row rfl 77 (.tmp 3) rfl (w.heap.size + 1) rfl 77 (u64v [b0, b1, b2, b3]).toArray (0, 0) _ hgB.out Tryd.underlying77 rfl (by kernel_rfl) ?_))
  refine (sum_any W a0 a1 a2 a3 b0 b1 b2 b3 ha0 ha1 ha2 ha3 hb0 hb1 hb2 hb3).mono ?_
  rintro e w1 ⟨s0, s1, s2, s3, o, rfl, e1, ⟨ls0, ls1, ls2, ls3⟩, lo, hb1'⟩
  have hz1 : Hid (w1.heap[w.heap.size + 1 + 1]? = some (.cells (u64v z4).toArray 77 (0, 0))) := (hb1'.block _ (by omega)).trans hgZ.out
  have hbw := below_next hbW hbW.size hb1'
  have hs2 : w.heap.size + 2 < w1.heap.size := by have := hb1'.size; omega
  go_wp2_with fail
  refine (folded_any w1 s0 s1 s2 s3 o ls0 ls1 ls2 ls3 (by omega)).mono ?_
  rintro e w2 ⟨c0, c1, c2, c3, rfl, e2, lc, hb2'⟩
  have HE := vlt (show n4 c0 c1 c2 c3 % FP = (n4 a0 a1 a2 a3 + n4 b0 b1 b2 b3) % FP by rw [e2.out, e1.out])
  clear e1 e2
  have hz2 : Hid (w2.heap[w.heap.size + 1 + 1]? = some (.cells (u64v z4).toArray 77 (0, 0))) := (hb2'.block _ (by omega)).trans hz1.out
  have hbw2 := below_next hbw hbw.size hb2'
  go_wp2_with (with_reducible refine wpList_store_row rfl 77 (.tmp 4) (.tmp 10) rfl (w.heap.size + 1 + 1) (u64v [c0, c1, c2, c3]).toArray rfl rfl 77 _ hz2.out (by kernel_rfl) (by kernel_rfl) (all_oneCell_toArray (u64v_one _)) ?_)
  refine bodyPost_ret (v := .agg (u64v [c0, c1, c2, c3]).toArray) (results_cell_row Tryd.results55 _ _ (w.heap.size + 1 + 1) 77 _ (0, 0) _ rfl (setRow_heap _ _ _ _ _ _ hz2.out) Tryd.underlying77 rfl (by kernel_rfl)) rfl ⟨c0, c1, c2, c3, rfl, HE, lc, below_setRow hbw2 (by omega) _⟩

end Go.Proofs.YtehkalbiomagjaaDoor
namespace Go.Proofs.YtehkalbiomagjaaDoor
open Go.RowKit

set_option maxRecDepth 100000 in
theorem fromLittle_ok (A : Option Addr) (l : List UInt8) (n c : Nat) (w : World) (ha : Byt w w.heap.size A l) (hl : l.length = n) (h8 : n ≤ 8) :
    Calls Tryd.prog 72 #[.slice A n c] w fun e w' => e = .returned (.tuple #[.int .u64 (ln l : Int), .int .i64 0]) ∧ w = w' := by
  have HL := Lib.hid hl
  clear hl
  go_enter Tryd.func72, Tryd.ntmps72
  go_wp2
  go_loop [4, 5, 6, 12] (fun t _ _ i => ∃ k V : Nat, k ≤ n ∧ i = .int .i64 (k : Int) ∧ t = .int .u64 (V : Int) ∧ V = ln (l.take k)) (fun _ _ _ i => n - (intOf i).toNat)
  case atStart => exact ⟨0, 0, Nat.zero_le _, rfl, rfl, by simp [ln]⟩
  case round =>
    obtain ⟨k, V, hk, rfl, rfl, hV⟩ := hrel
    have HV := Lib.hid hV
    by_cases hlt : k < n
    · have hb := Lib.hid (ln_lt k (l.take k) (by rw [List.length_take, HL.out]; omega))
      clear hV
      obtain ⟨g, o, x, rfl, hg, hx, hcell, hget⟩ := ha.at_ (k := k) (by rw [HL.out]; exact hlt)
      go_wp2
      have hlen : (l.take k).length = k := by rw [List.length_take, HL.out]; omega
      exact ⟨⟨k + 1, V + x * 256 ^ k, by omega, by go_num, by rw [or_high k V x (by omega) (by rw [HV.out]; exact hb.out) hx], by rw [take_at hget.out, ln_snoc, ← HV.out, hlen]; simp [Nat.mod_eq_of_lt hx]⟩, by simp [intOf]; omega⟩
    · obtain rfl : k = n := by omega
      clear hV
      go_wp2
      go_ret2
      have e : V = ln l := by rw [HV.out, List.take_of_length_le (by rw [HL.out]; exact Nat.le_refl _)]
      rw [e]
      exact ⟨rfl, rfl⟩

set_option maxRecDepth 100000 in
theorem fromLittle_no (A : Option Addr) (n c : Nat) (w : World) (h8 : 8 < n) :
    Calls Tryd.prog 72 #[.slice A n c] w fun e w' => e = .returned (.tuple #[.int .u64 0, .int .i64 1]) ∧ w = w' := by
  go_enter Tryd.func72, Tryd.ntmps72
  go_wp2
  go_ret2
  exact ⟨rfl, rfl⟩
end Go.Proofs.YtehkalbiomagjaaDoor
namespace Go.Proofs.YtehkalbiomagjaaDoor
open Go.RowKit

theorem cut_h {P : Program} {t e n : Nat} (hu : P.underlying t = some (.array n e)) (hs : (P.info? e).map (·.size) = some 1) (g o : Nat) (hi : Nat) (H : Int) (hH : H = (hi : Int)) (h2 : hi ≤ n) (h3 : 0 < n) (w : World) :
    (Instr.sliceAt t (.pointer (some ⟨g, o, none⟩)) none (some (.int .i64 H)) none).run P w = .ok (.slice (some ⟨g, o, none⟩) hi n) w := by
  subst hH
  obtain ⟨i, hi', hi2⟩ := Option.map_eq_some_iff.1 hs
  have ht : P.underlying t = some (.array (P.arrayLen t) (P.elem t)) := by simp [Program.arrayLen, Program.elem, hu]
  have hn : P.arrayLen t = n := by simp [Program.arrayLen, hu]
  have he : P.elem t = e := by simp [Program.elem, hu]
  rw [run_sliceAt_array_h w t _ ht .i64 _ (by omega) (by omega), hn, he]
  simp [sizeOf, typeInfo, hi', hi2, slicedAt, addr_add, show ¬ n = 0 by omega]
end Go.Proofs.YtehkalbiomagjaaDoor
namespace Go.Proofs.YtehkalbiomagjaaDoor
open Go.RowKit

set_option maxRecDepth 100000 in
theorem beneath_256 (w : World) :
    Calls Tryd.prog 54 #[.int .i64 256, .int .u64 75] w fun e w' => e = .returned (.agg (u64v [18446744073709551541, 18446744073709551615, 18446744073709551615, 18446744073709551615]).toArray) ∧ Below w.heap.size w w' := by
  have hzn := zero_n4
  obtain ⟨W, hW, hgZ, hbW, hsW⟩ := one_new w (u64v z4).toArray 77
  have HW := Lib.hid hW
  have hs1 : w.heap.size < W.heap.size := by have := hsW.out; omega
  clear hW
  go_enter Tryd.func54, Tryd.ntmps54
  go_upto_region 1 with fail
  rw [HW.out]
  go_wp2_with (with_reducible refine wpList_store_row rfl 77 (.tmp 4) (.tmp 10) rfl w.heap.size (u64v [18446744073709551541, 18446744073709551615, 18446744073709551615, 18446744073709551615]).toArray rfl rfl 77 _ hgZ.out (by kernel_rfl) (by kernel_rfl) (all_oneCell_toArray (u64v_one _)) ?_)
  refine bodyPost_ret (v := .agg (u64v [18446744073709551541, 18446744073709551615, 18446744073709551615, 18446744073709551615]).toArray) (results_cell_row Tryd.results54 _ _ w.heap.size 77 _ (0, 0) _ rfl (setRow_heap _ _ _ _ _ _ hgZ.out) Tryd.underlying77 rfl (by kernel_rfl)) rfl ⟨rfl, below_setRow hbW (by omega) _⟩
set_option maxRecDepth 100000 in
theorem beneath_255 (w : World) :
    Calls Tryd.prog 54 #[.int .i64 255, .int .u64 21] w fun e w' => e = .returned (.agg (u64v [18446744073709551595, 18446744073709551615, 18446744073709551615, 9223372036854775807]).toArray) ∧ Below w.heap.size w w' := by
  have hzn := zero_n4
  obtain ⟨W, hW, hgZ, hbW, hsW⟩ := one_new w (u64v z4).toArray 77
  have HW := Lib.hid hW
  have hs1 : w.heap.size < W.heap.size := by have := hsW.out; omega
  clear hW
  go_enter Tryd.func54, Tryd.ntmps54
  go_upto_region 1 with fail
  rw [HW.out]
  go_wp2_with (with_reducible refine wpList_store_row rfl 77 (.tmp 4) (.tmp 10) rfl w.heap.size (u64v [18446744073709551595, 18446744073709551615, 18446744073709551615, 9223372036854775807]).toArray rfl rfl 77 _ hgZ.out (by kernel_rfl) (by kernel_rfl) (all_oneCell_toArray (u64v_one _)) ?_)
  refine bodyPost_ret (v := .agg (u64v [18446744073709551595, 18446744073709551615, 18446744073709551615, 9223372036854775807]).toArray) (results_cell_row Tryd.results54 _ _ w.heap.size 77 _ (0, 0) _ rfl (setRow_heap _ _ _ _ _ _ hgZ.out) Tryd.underlying77 rfl (by kernel_rfl)) rfl ⟨rfl, below_setRow hbW (by omega) _⟩
set_option maxRecDepth 100000 in
theorem beneath_252 (w : World) :
    Calls Tryd.prog 54 #[.int .i64 252, .int .u64 2] w fun e w' => e = .returned (.agg (u64v [18446744073709551614, 18446744073709551615, 18446744073709551615, 1152921504606846975]).toArray) ∧ Below w.heap.size w w' := by
  have hzn := zero_n4
  obtain ⟨W, hW, hgZ, hbW, hsW⟩ := one_new w (u64v z4).toArray 77
  have HW := Lib.hid hW
  have hs1 : w.heap.size < W.heap.size := by have := hsW.out; omega
  clear hW
  go_enter Tryd.func54, Tryd.ntmps54
  go_upto_region 1 with fail
  rw [HW.out]
  go_wp2_with (with_reducible refine wpList_store_row rfl 77 (.tmp 4) (.tmp 10) rfl w.heap.size (u64v [18446744073709551614, 18446744073709551615, 18446744073709551615, 1152921504606846975]).toArray rfl rfl 77 _ hgZ.out (by kernel_rfl) (by kernel_rfl) (all_oneCell_toArray (u64v_one _)) ?_)
  refine bodyPost_ret (v := .agg (u64v [18446744073709551614, 18446744073709551615, 18446744073709551615, 1152921504606846975]).toArray) (results_cell_row Tryd.results54 _ _ w.heap.size 77 _ (0, 0) _ rfl (setRow_heap _ _ _ _ _ _ hgZ.out) Tryd.underlying77 rfl (by kernel_rfl)) rfl ⟨rfl, below_setRow hbW (by omega) _⟩

theorem minus_sum (a b0 b1 b2 b3 T C : Nat) (hb0 : b0 < B64) (hb1 : b1 < B64) (hb2 : b2 < B64) (hb3 : b3 < B64) (h1 : T % FP = (a + n4 (18446744073709551615 - b0) (18446744073709551615 - b1) (18446744073709551615 - b2) (18446744073709551615 - b3)) % FP)
    (h2 : C % FP = (T + n4 18446744073709551541 18446744073709551615 18446744073709551615 18446744073709551615) % FP) : (C + n4 b0 b1 b2 b3) % FP = a % FP := by
  rw [fp_eq] at *
  simp only [n4, B64] at *
  omega
set_option maxRecDepth 100000 in
set_option maxHeartbeats 1000000 in
theorem minus_any (w : World) (a0 a1 a2 a3 b0 b1 b2 b3 : Nat) (ha0 : a0 < B64) (ha1 : a1 < B64) (ha2 : a2 < B64) (ha3 : a3 < B64) (hb0 : b0 < B64) (hb1 : b1 < B64) (hb2 : b2 < B64) (hb3 : b3 < B64) :
    Calls Tryd.prog 52 #[.agg (u64v [a0, a1, a2, a3]).toArray, .agg (u64v [b0, b1, b2, b3]).toArray] w fun e w' => ∃ c0 c1 c2 c3 : Nat, e = .returned (.agg (u64v [c0, c1, c2, c3]).toArray) ∧
      Vlt ((n4 c0 c1 c2 c3 + n4 b0 b1 b2 b3) % FP = n4 a0 a1 a2 a3 % FP) ∧ (c0 < B64 ∧ c1 < B64 ∧ c2 < B64 ∧ c3 < B64) ∧ Below w.heap.size w w' := by
  have hzn := zero_n4
  obtain ⟨W, hW, hgA, hgB, hgZ, hbW, hsW⟩ := three_new w (u64v [a0, a1, a2, a3]).toArray (u64v [b0, b1, b2, b3]).toArray (u64v z4).toArray 77 77 77
  have HW := Lib.hid hW
  have hs1 : w.heap.size + 2 < W.heap.size := by have := hsW.out; omega
  clear hW
  have cb0 : W.cell? ⟨w.heap.size + 1, 0, none⟩ = some (.int .u64 (b0 : Int)) := long_at hgB.out 0 (by simp)
  have cb1 : W.cell? ⟨w.heap.size + 1, 1, none⟩ = some (.int .u64 (b1 : Int)) := long_at hgB.out 1 (by simp)
  have cb2 : W.cell? ⟨w.heap.size + 1, 2, none⟩ = some (.int .u64 (b2 : Int)) := long_at hgB.out 2 (by simp)
  have cb3 : W.cell? ⟨w.heap.size + 1, 3, none⟩ = some (.int .u64 (b3 : Int)) := long_at hgB.out 3 (by simp)
  go_enter Tryd.func52, Tryd.ntmps52
  go_upto_region 1 with fail
  rw [HW.out]
  go_wp2_with (first
    | (with_reducible refine wpList_load_row rfl 77 (.tmp 2) rfl w.heap.size rfl 77 (u64v [a0, a1, a2, a3]).toArray (0, 0) _ hgA.out Tryd.underlying77 rfl (by kernel_rfl) ?_))
  rw [turn64 b0 hb0, turn64 b1 hb1, turn64 b2 hb2, turn64 b3 hb3]
  have HM := fun T C => minus_sum (n4 a0 a1 a2 a3) b0 b1 b2 b3 T C hb0 hb1 hb2 hb3
  have l0 : 18446744073709551615 - b0 < B64 := by simp only [B64]; omega
  have l1 : 18446744073709551615 - b1 < B64 := by simp only [B64]; omega
  have l2 : 18446744073709551615 - b2 < B64 := by simp only [B64]; omega
  have l3 : 18446744073709551615 - b3 < B64 := by simp only [B64]; omega
  generalize 18446744073709551615 - b0 = d0 at *
  generalize 18446744073709551615 - b1 = d1 at *
  generalize 18446744073709551615 - b2 = d2 at *
  generalize 18446744073709551615 - b3 = d3 at *
  refine (plus_any W a0 a1 a2 a3 d0 d1 d2 d3 ha0 ha1 ha2 ha3 l0 l1 l2 l3).mono ?_
  rintro e w1 ⟨t0, t1, t2, t3, rfl, e1, ⟨lt0, lt1, lt2, lt3⟩, hb1'⟩
  have hz1 : Hid (w1.heap[w.heap.size + 1 + 1]? = some (.cells (u64v z4).toArray 77 (0, 0))) := (hb1'.block _ (by omega)).trans hgZ.out
  have hbw := below_next hbW hbW.size hb1'
  have hs2 : w.heap.size + 2 < w1.heap.size := by have := hb1'.size; omega
  go_wp2_with fail
  refine (beneath_256 w1).mono ?_
  rintro e w2 ⟨rfl, hb2'⟩
  have hz2 : Hid (w2.heap[w.heap.size + 1 + 1]? = some (.cells (u64v z4).toArray 77 (0, 0))) := (hb2'.block _ (by omega)).trans hz1.out
  have hbw2 := below_next hbw hbw.size hb2'
  have hs3 : w.heap.size + 2 < w2.heap.size := by have := hb2'.size; omega
  go_wp2_with fail
  refine (plus_any w2 t0 t1 t2 t3 18446744073709551541 18446744073709551615 18446744073709551615 18446744073709551615 lt0 lt1 lt2 lt3 (by decide) (by decide) (by decide) (by decide)).mono ?_
  rintro e w3 ⟨c0, c1, c2, c3, rfl, e2, lc, hb3'⟩
  have HE := vlt (HM _ _ e1.out e2.out)
  clear e1 e2 HM
  have hz3 : Hid (w3.heap[w.heap.size + 1 + 1]? = some (.cells (u64v z4).toArray 77 (0, 0))) := (hb3'.block _ (by omega)).trans hz2.out
  have hbw3 := below_next hbw2 hbw2.size hb3'
  go_wp2_with (with_reducible refine wpList_store_row rfl 77 (.tmp 4) (.tmp 21) rfl (w.heap.size + 1 + 1) (u64v [c0, c1, c2, c3]).toArray rfl rfl 77 _ hz3.out (by kernel_rfl) (by kernel_rfl) (all_oneCell_toArray (u64v_one _)) ?_)
  refine bodyPost_ret (v := .agg (u64v [c0, c1, c2, c3]).toArray) (results_cell_row Tryd.results52 _ _ (w.heap.size + 1 + 1) 77 _ (0, 0) _ rfl (setRow_heap _ _ _ _ _ _ hz3.out) Tryd.underlying77 rfl (by kernel_rfl)) rfl ⟨c0, c1, c2, c3, rfl, HE, lc, below_setRow hbw3 (by omega) _⟩

theorem ln_four (b : List UInt8) (h : b.length = 32) : n4 (ln ((b.drop 0).take 8)) (ln ((b.drop 8).take 8)) (ln ((b.drop 16).take 8)) (ln ((b.drop 24).take 8)) = ln b := by
  have h1 := ln_split b 8 (by omega)
  have h2 : ln ((b.drop 8).take 8) + 256 ^ 8 * ln (b.drop 16) = ln (b.drop 8) := by have := ln_split (b.drop 8) 8 (by simp; omega); rw [List.drop_drop] at this; exact this
  have h3 : ln ((b.drop 16).take 8) + 256 ^ 8 * ln (b.drop 24) = ln (b.drop 16) := by have := ln_split (b.drop 16) 8 (by simp; omega); rw [List.drop_drop] at this; exact this
  have h4 : (b.drop 24).take 8 = b.drop 24 := List.take_of_length_le (by simp; omega)
  rw [h4, List.drop_zero, ← h1, ← h2, ← h3]
  simp only [n4]
  omega
set_option maxRecDepth 100000 in
set_option maxHeartbeats 1000000 in
theorem numberOf_any (w : World) (b : List UInt8) (hb : b.length = 32) :
    Calls Tryd.prog 49 #[.agg (bv b).toArray] w fun e w' => ∃ a0 a1 a2 a3, e = .returned (.agg (u64v [a0, a1, a2, a3]).toArray) ∧ Vlt (n4 a0 a1 a2 a3 = ln b) ∧ (a0 < B64 ∧ a1 < B64 ∧ a2 < B64 ∧ a3 < B64) ∧ Below w.heap.size w w' := by
  have hzn := zero_n4
  obtain ⟨W, hW, hgA, hgZ, hbW, hsW⟩ := pair_new w (bv b).toArray (u64v z4).toArray 23 77
  have HW := Lib.hid hW
  have HB := Lib.hid hb
  have hs1 : w.heap.size + 1 < W.heap.size := by have := hsW.out; omega
  clear hW hb
  have hc1 := cut_h Tryd.underlying23 Tryd.sizeByte w.heap.size 0 8 8 rfl (by decide) (by decide)
  have hc2 := cut_lh Tryd.underlying23 Tryd.sizeByte w.heap.size 0 8 16 8 16 rfl rfl (by decide) (by decide) (by decide)
  have hc3 := cut_lh Tryd.underlying23 Tryd.sizeByte w.heap.size 0 16 24 16 24 rfl rfl (by decide) (by decide) (by decide)
  have hc4 := cut_l Tryd.underlying23 Tryd.sizeByte w.heap.size 0 24 24 rfl (by decide)
  go_enter Tryd.func49, Tryd.ntmps49
  go_upto_region 1 with fail
  rw [HW.out]
  have hb1 := byt_mid hgA.out 0 8
  have hb2 := byt_mid hgA.out 8 8
  have hb3 := byt_mid hgA.out 16 8
  have hb4 := byt_mid hgA.out 24 8
  have hl1 : ((b.drop 0).take 8).length = 8 := by simp [HB.out]
  have hl2 : ((b.drop 8).take 8).length = 8 := by simp [HB.out]
  have hl3 : ((b.drop 16).take 8).length = 8 := by simp [HB.out]
  have hl4 : ((b.drop 24).take 8).length = 8 := by simp [HB.out]
  have q1 := ln_lt 8 _ hl1
  have q2 := ln_lt 8 _ hl2
  have q3 := ln_lt 8 _ hl3
  have q4 := ln_lt 8 _ hl4
  have hsum := vlt (ln_four b HB.out)
  generalize (b.drop 0).take 8 = b1 at *
  generalize (b.drop 8).take 8 = b2 at *
  generalize (b.drop 16).take 8 = b3 at *
  generalize (b.drop 24).take 8 = b4 at *
  go_wp2_with fail
  refine (fromLittle_ok _ b1 8 32 W hb1 hl1 (by decide)).mono ?_
  rintro e w' ⟨rfl, rfl⟩
  go_wp2_with fail
  refine (fromLittle_ok _ b2 8 24 W hb2 hl2 (by decide)).mono ?_
  rintro e w' ⟨rfl, rfl⟩
  go_wp2_with fail
  refine (fromLittle_ok _ b3 8 16 W hb3 hl3 (by decide)).mono ?_
  rintro e w' ⟨rfl, rfl⟩
  go_wp2_with fail
  refine (fromLittle_ok _ b4 8 8 W hb4 hl4 (by decide)).mono ?_
  rintro e w' ⟨rfl, rfl⟩
  generalize ln b1 = x0 at *
  generalize ln b2 = x1 at *
  generalize ln b3 = x2 at *
  generalize ln b4 = x3 at *
  go_wp2_with (with_reducible refine wpList_store_row rfl 77 (.tmp 2) (.tmp 35) rfl (w.heap.size + 1) (u64v [x0, x1, x2, x3]).toArray rfl rfl 77 _ hgZ.out (by kernel_rfl) (by kernel_rfl) (all_oneCell_toArray (u64v_one _)) ?_)
  refine bodyPost_ret (v := .agg (u64v [x0, x1, x2, x3]).toArray) (results_cell_row Tryd.results49 _ _ (w.heap.size + 1) 77 _ (0, 0) _ rfl (setRow_heap _ _ _ _ _ _ hgZ.out) Tryd.underlying77 rfl (by kernel_rfl)) rfl ⟨x0, x1, x2, x3, rfl, hsum, ⟨q1, q2, q3, q4⟩, below_setRow hbW (by omega) _⟩
end Go.Proofs.YtehkalbiomagjaaDoor
namespace Go.Proofs.YtehkalbiomagjaaDoor
open Go.RowKit

/-- A cell of a result, free to be written; what stands there behind a store. -/
theorem Res.cell {w : World} {base E g n c : Nat} {l : List UInt8} (h : Res w base E (some ⟨g, 0, none⟩) n c l) {j : Nat} (hj : j < n) : ∃ u, w.cell? ⟨g, j, none⟩ = some u := by
  have h1 := World.ownsRow.cellAt h j (by omega)
  have h2 : j < (bv l).length := by rw [bv_len, h.len]; exact hj
  exact ⟨_, h1.trans (List.getElem?_eq_getElem h2)⟩
theorem Res.free {w : World} {base E g n c : Nat} {l : List UInt8} (h : Res w base E (some ⟨g, 0, none⟩) n c l) (j : Nat) : w.frozen? ⟨g, j, none⟩ = false := World.ownsRow.frozenAt h j
theorem Res.put {w : World} {base E g n c : Nat} {l : List UInt8} (h : Res w base E (some ⟨g, 0, none⟩) n c l) (j : Nat) (b : UInt8) (x : Int) (hx : x = (b.toNat : Int)) :
    Res (w.setCell ⟨g, j, none⟩ (.int .u8 x)) base E (some ⟨g, 0, none⟩) n c (l.set j b) := by
  subst hx
  have h1 := (World.ownsRow.stored h j (.int .u8 (b.toNat : Int))).1
  rw [bv_set] at h1
  exact h1
theorem Res.made {w1 : World} {base E g n : Nat} (hg : w1.heap[g]? = some (.cells (bv (List.replicate n 0)).toArray E (0, 0))) (hb : base ≤ g) (hn : n ≤ 281474976710656) :
    Res w1 base E (some ⟨g, 0, none⟩) n n (List.replicate n 0) :=
  Res.row hb hg (Nat.le_refl _) hn (by simp [bv]) (by simp) (by simp [bv_take])

end Go.Proofs.YtehkalbiomagjaaDoor
namespace Go.Proofs.YtehkalbiomagjaaDoor
open Go.RowKit

theorem low63 (a : Nat) (ha : a < B64) : bits .and .u64 (a : Int) 9223372036854775807 = ((a % 9223372036854775808 : Nat) : Int) := by
  have h := u64_and_nat a 9223372036854775807 ha (by decide)
  rw [show ((9223372036854775807 : Nat) : Int) = 9223372036854775807 from rfl] at h
  rw [h, show (9223372036854775807 : Nat) = 2 ^ 63 - 1 by decide, Nat.and_two_pow_sub_one_eq_mod, show (2 : Nat) ^ 63 = 9223372036854775808 by decide]
/-- The number, brought below the prime. -/
theorem fp_mod' {x r q : Nat} (h : x = r + FP * q) (hr : r < FP) : r = x % FP := by rw [h, Nat.add_mul_mod_self_left, Nat.mod_eq_of_lt hr]
theorem told_num (a0 a1 a2 a3 M o1 p0 p1 p2 p3 o2 x0 x1 x2 x3 o3 : Nat) (ha0 : a0 < B64) (ha1 : a1 < B64) (ha2 : a2 < B64) (ha3 : a3 < B64) (hp0 : p0 < B64) (hp1 : p1 < B64) (hp2 : p2 < B64) (hp3 : p3 < B64) (hx0 : x0 < B64) (hx1 : x1 < B64) (hx2 : x2 < B64) (hx3 : x3 < B64)
    (h1 : M + 115792089237316195423570985008687907853269984665640564039457584007913129639936 * o1 = n4 a0 a1 a2 (a3 % 9223372036854775808) + n4 (19 * (a3 / 9223372036854775808)) 0 0 0)
    (h2 : n4 p0 p1 p2 p3 + 115792089237316195423570985008687907853269984665640564039457584007913129639936 * o2 = M + n4 19 0 0 0)
    (h3 : n4 x0 x1 x2 x3 + 115792089237316195423570985008687907853269984665640564039457584007913129639936 * o3 = M + n4 (19 * (p3 / 9223372036854775808)) 0 0 0) :
    n4 x0 x1 x2 (x3 % 9223372036854775808) = n4 a0 a1 a2 a3 % FP := by
  obtain ⟨t, ht⟩ : ∃ t, t = a3 / 9223372036854775808 := ⟨_, rfl⟩
  obtain ⟨l, hl⟩ : ∃ l, l = a3 % 9223372036854775808 := ⟨_, rfl⟩
  obtain ⟨s, hs⟩ : ∃ s, s = p3 / 9223372036854775808 := ⟨_, rfl⟩
  obtain ⟨y, hy⟩ : ∃ y, y = x3 % 9223372036854775808 := ⟨_, rfl⟩
  rw [← ht, ← hl] at h1
  rw [← hs] at h3
  rw [← hy]
  have t1 : t ≤ 1 := by simp only [B64] at *; omega
  have s1 : s ≤ 1 := by simp only [B64] at *; omega
  simp only [n4, B64] at *
  have q1 : o1 = 0 := by omega
  subst q1
  have hM : M < 57896044618658097711785492504343953926634992332820282019728792003956564819988 := by omega
  have q2 : o2 = 0 := by omega
  subst q2
  have q3 : o3 = 0 := by omega
  subst q3

  obtain ⟨m, hm⟩ : ∃ m, m = x3 / 9223372036854775808 := ⟨_, rfl⟩
  have hx : x3 = 9223372036854775808 * m + y := by omega
  have hp : p3 = 9223372036854775808 * s + p3 % 9223372036854775808 := by omega
  have ha : a3 = 9223372036854775808 * t + l := by omega
  have ly : y < 9223372036854775808 := by omega
  have lp : p3 % 9223372036854775808 < 9223372036854775808 := by omega
  generalize p3 % 9223372036854775808 = r at *
  clear ht hl hs hy hm
  subst hx hp ha
  have s01 : s = 0 ∨ s = 1 := by omega
  refine fp_mod' (q := t + s) ?_ ?_
  · rw [fp_eq]
    rcases s01 with rfl | rfl
    · have hm0 : m = 0 := by omega
      subst hm0
      omega
    · have hm0 : m = 1 := by omega
      subst hm0
      omega
  · rw [fp_eq]
    rcases s01 with rfl | rfl
    · have hm0 : m = 0 := by omega
      subst hm0
      omega
    · have hm0 : m = 1 := by omega
      subst hm0
      omega

theorem quart_len (a b c d k : Nat) (h : k ≤ 8) : (quart a b c d k).length = 32 := by
  simp only [quart, List.length_append]
  rw [uptoB_len _ _ (by rw [le_len]; exact h), uptoB_len _ _ (by rw [le_len]; exact h), uptoB_len _ _ (by rw [le_len]; exact h), uptoB_len _ _ (by rw [le_len]; exact h)]
theorem quart_cells {w : World} {g : Nat} {t : TypeId} {a b c d k : Nat} (hg : w.heap[g]? = some (.cells (bv (quart a b c d k)).toArray t (0, 0))) (hk : k < 8) :
    (∃ u, w.cell? ⟨g, k, none⟩ = some u) ∧ (∃ u, w.cell? ⟨g, k + 8, none⟩ = some u) ∧ (∃ u, w.cell? ⟨g, k + 16, none⟩ = some u) ∧ (∃ u, w.cell? ⟨g, k + 24, none⟩ = some u) := by
  have hl := quart_len a b c d k (by omega)
  have h : ∀ j, j < 32 → ∃ u, w.cell? ⟨g, j, none⟩ = some u := by
    intro j hj
    rw [cell_of_row _ _ _ _ _ _ hg]
    exact ⟨_, List.getElem?_toArray .. ▸ List.getElem?_eq_getElem (by rw [bv_len, hl]; exact hj)⟩
  exact ⟨h _ (by omega), h _ (by omega), h _ (by omega), h _ (by omega)⟩
set_option maxRecDepth 100000 in
set_option maxHeartbeats 2000000 in
theorem told_any (w : World) (a0 a1 a2 a3 : Nat) (ha0 : a0 < B64) (ha1 : a1 < B64) (ha2 : a2 < B64) (ha3 : a3 < B64) :
    Calls Tryd.prog 51 #[.agg (u64v [a0, a1, a2, a3]).toArray] w fun e w' => ∃ l : List UInt8, e = .returned (.agg (bv l).toArray) ∧ Vlt (l = le (n4 a0 a1 a2 a3 % FP) 32) ∧ Hid (l.length = 32) ∧ Below w.heap.size w w' := by
  have hzn := zero_n4
  have hzw := zero_word
  obtain ⟨W, hW, hgA, hgZ, hbW, hsW⟩ := pair_new w (u64v [a0, a1, a2, a3]).toArray (bv z32).toArray 77 23
  have HW := Lib.hid hW
  have hs1 : w.heap.size + 1 < W.heap.size := by have := hsW.out; omega
  clear hW
  have ca3 : W.cell? ⟨w.heap.size, 3, none⟩ = some (.int .u64 (a3 : Int)) := long_at hgA.out 3 (by simp)
  have f3 : W.frozen? ⟨w.heap.size, 3, none⟩ = false := frozen_of_row _ _ _ _ _ hgA.out
  have HT := fun M o1 p0 p1 p2 p3 o2 x0 x1 x2 x3 o3 => told_num a0 a1 a2 a3 M o1 p0 p1 p2 p3 o2 x0 x1 x2 x3 o3 ha0 ha1 ha2 ha3
  have em := low63 a3 ha3
  have et : (a3 : Int) / 9223372036854775808 = ((a3 / 9223372036854775808 : Nat) : Int) := by omega
  have hr : Hid ((W.setCell ⟨w.heap.size, 3, none⟩ (.int .u64 ((a3 % 9223372036854775808 : Nat) : Int))).heap[w.heap.size]? = some (.cells (u64v [a0, a1, a2, a3 % 9223372036854775808]).toArray 77 (0, 0))) := by
    have h1 := (world_set_cell hgA.out 3 (.int .u64 ((a3 % 9223372036854775808 : Nat) : Int))).out
    rw [u64v_set] at h1
    exact h1
  have hr2 : Below w.heap.size w (W.setCell ⟨w.heap.size, 3, none⟩ (.int .u64 ((a3 % 9223372036854775808 : Nat) : Int))) := But.below hbW ((But.refl _ W).set _) (by omega) (by omega)
  have hr3 : Hid ((W.setCell ⟨w.heap.size, 3, none⟩ (.int .u64 ((a3 % 9223372036854775808 : Nat) : Int))).heap[w.heap.size + 1]? = some (.cells (bv z32).toArray 23 (0, 0))) := (((But.refl w.heap.size W).set _).block _ (by omega) (by intro e; injection e; omega)).trans hgZ.out
  have lt : a3 / 9223372036854775808 ≤ 1 := by simp only [B64] at *; omega
  have lm : a3 % 9223372036854775808 < B64 := by simp only [B64] at *; omega
  generalize a3 % 9223372036854775808 = m at *
  generalize a3 / 9223372036854775808 = t at *
  go_enter Tryd.func51, Tryd.ntmps51
  go_upto_region 1 with fail
  rw [HW.out]
  go_upto_region 3 with fail
  generalize W.setCell ⟨w.heap.size, 3, none⟩ (.int .u64 (m : Int)) = W1 at *
  have hs2 : w.heap.size + 1 < W1.heap.size := (Array.getElem?_eq_some_iff.1 hr3.out).1
  clear ca3 f3 hgA hgZ hbW hsW hs1 em et
  have et : (19 : Int) * (t : Int) = ((19 * t : Nat) : Int) := by omega
  have lt19 : 19 * t < B64 := by simp only [B64]; omega
  have hcall := sum_any W1 a0 a1 a2 m (19 * t) 0 0 0 ha0 ha1 ha2 lm lt19 (by decide) (by decide) (by decide)
  generalize 19 * t = t19 at *
  go_wp2_with (with_reducible refine wpList_load_row rfl 77 (.tmp 1) rfl w.heap.size rfl 77 (u64v [a0, a1, a2, m]).toArray (0, 0) _ hr.out Tryd.underlying77 rfl (by kernel_rfl) ?_)
  refine hcall.mono ?_
  rintro e w1 ⟨b0, b1, b2, b3, o1, rfl, e1, ⟨lb0, lb1, lb2, lb3⟩, _, hb1⟩
  clear hcall
  have hg1 : Hid (w1.heap[w.heap.size]? = some (.cells (u64v [a0, a1, a2, m]).toArray 77 (0, 0))) := (hb1.block _ (by omega)).trans hr.out
  have hz1 : Hid (w1.heap[w.heap.size + 1]? = some (.cells (bv z32).toArray 23 (0, 0))) := (hb1.block _ (by omega)).trans hr3.out
  have hbw := below_next hr2 (by omega) hb1
  have hs3 : w.heap.size + 1 < w1.heap.size := by have := hb1.size; omega
  clear hr hr2 hr3
  go_upto_region 4 with (with_reducible refine wpList_store_row rfl 77 (.tmp 1) (.tmp 21) rfl w.heap.size (u64v [b0, b1, b2, b3]).toArray rfl rfl 77 _ hg1.out (by kernel_rfl) (by kernel_rfl) (all_oneCell_toArray (u64v_one _)) ?_)
  obtain ⟨w2, hw2⟩ : ∃ w2, w2 = w1.setRow w.heap.size (u64v [b0, b1, b2, b3]).toArray := ⟨_, rfl⟩
  rw [← hw2]
  have hg2 : Hid (w2.heap[w.heap.size]? = some (.cells (u64v [b0, b1, b2, b3]).toArray 77 (0, 0))) := by rw [hw2]; exact setRow_heap _ _ _ _ _ _ hg1.out
  have hb2 : Below w.heap.size w w2 := by rw [hw2]; exact below_setRow hbw (by omega) _
  have hz2 : Hid (w2.heap[w.heap.size + 1]? = some (.cells (bv z32).toArray 23 (0, 0))) := by rw [hw2]; exact (setRow_other _ _ _ _ (by omega)).trans hz1.out
  have hs4 : w.heap.size + 1 < w2.heap.size := (Array.getElem?_eq_some_iff.1 hz2.out).1
  clear hw2 hg1 hz1 hbw hb1 hs3 hs2
  go_wp2_with (with_reducible refine wpList_load_row rfl 77 (.tmp 1) rfl w.heap.size rfl 77 (u64v [b0, b1, b2, b3]).toArray (0, 0) _ hg2.out Tryd.underlying77 rfl (by kernel_rfl) ?_)
  refine (sum_any w2 b0 b1 b2 b3 19 0 0 0 lb0 lb1 lb2 lb3 (by decide) (by decide) (by decide) (by decide)).mono ?_
  rintro e w3 ⟨p0, p1, p2, p3, o2, rfl, e2, ⟨lp0, lp1, lp2, lp3⟩, _, hb3⟩
  have hg3 : Hid (w3.heap[w.heap.size]? = some (.cells (u64v [b0, b1, b2, b3]).toArray 77 (0, 0))) := (hb3.block _ (by omega)).trans hg2.out
  have hz3 : Hid (w3.heap[w.heap.size + 1]? = some (.cells (bv z32).toArray 23 (0, 0))) := (hb3.block _ (by omega)).trans hz2.out
  have hbw3 := below_next hb2 (by omega) hb3
  have hs5 : w.heap.size + 1 < w3.heap.size := (Array.getElem?_eq_some_iff.1 hz3.out).1
  clear hg2 hz2 hb2 hb3 hs4
  go_upto_region 5 with ((with_reducible refine wpList_store_row rfl 77 (.tmp 4) (.tmp 27) rfl w3.heap.size (u64v [p0, p1, p2, p3]).toArray rfl rfl 77 _ (heap_alloc_new _ _) (by kernel_rfl) (by kernel_rfl) (all_oneCell_toArray (u64v_one _)) ?_); rw [World.setRow_alloc_new])
  obtain ⟨w4, hw4⟩ : ∃ w4, w4 = w3.alloc (.cells (u64v [p0, p1, p2, p3]).toArray 77) := ⟨_, rfl⟩
  rw [← hw4]
  have hg4 : Hid (w4.heap[w.heap.size]? = some (.cells (u64v [b0, b1, b2, b3]).toArray 77 (0, 0))) := by rw [hw4]; exact (Below.heap_alloc _ _ _ (by omega)).trans hg3.out
  have hz4 : Hid (w4.heap[w.heap.size + 1]? = some (.cells (bv z32).toArray 23 (0, 0))) := by rw [hw4]; exact (Below.heap_alloc _ _ _ (by omega)).trans hz3.out
  have hp4 : Hid (w4.heap[w3.heap.size]? = some (.cells (u64v [p0, p1, p2, p3]).toArray 77 (0, 0))) := by rw [hw4]; exact heap_alloc_new _ _
  have hb4 : Below w.heap.size w w4 := by rw [hw4]; exact hbw3.alloc hbw3.size _
  have hs6 : w.heap.size + 1 < w4.heap.size := (Array.getElem?_eq_some_iff.1 hz4.out).1
  obtain ⟨G, hG⟩ : ∃ G, G = w3.heap.size := ⟨_, rfl⟩
  rw [← hG] at hp4 ⊢
  clear hG hw4 hg3 hz3 hbw3 hs5
  have cp3 : w4.cell? ⟨G, 3, none⟩ = some (.int .u64 (p3 : Int)) := long_at hp4.out 3 (by simp)
  have ep : (p3 : Int) / 9223372036854775808 = ((p3 / 9223372036854775808 : Nat) : Int) := by omega
  have ls : p3 / 9223372036854775808 ≤ 1 := by simp only [B64] at *; omega
  have HT2 := fun o1 o2 x0 x1 x2 x3 o3 => HT (n4 b0 b1 b2 b3) o1 p0 p1 p2 p3 o2 x0 x1 x2 x3 o3
  clear HT
  generalize p3 / 9223372036854775808 = s at *
  have es : (19 : Int) * (s : Int) = ((19 * s : Nat) : Int) := by omega
  have ls19 : 19 * s < B64 := by simp only [B64]; omega
  have hcall := sum_any w4 b0 b1 b2 b3 (19 * s) 0 0 0 lb0 lb1 lb2 lb3 ls19 (by decide) (by decide) (by decide)
  generalize 19 * s = s19 at *
  go_wp2_with (with_reducible refine wpList_load_row rfl 77 (.tmp 1) rfl w.heap.size rfl 77 (u64v [b0, b1, b2, b3]).toArray (0, 0) _ hg4.out Tryd.underlying77 rfl (by kernel_rfl) ?_)
  refine hcall.mono ?_
  rintro e w5 ⟨x0, x1, x2, x3, o3, rfl, e3, ⟨lx0, lx1, lx2, lx3⟩, _, hb5⟩
  clear hcall
  have HR := vlt (HT2 o1 o2 x0 x1 x2 x3 o3 lp0 lp1 lp2 lp3 lx0 lx1 lx2 lx3 e1.out e2.out e3.out)
  clear e1 e2 e3 HT2
  have hg5 : Hid (w5.heap[w.heap.size]? = some (.cells (u64v [b0, b1, b2, b3]).toArray 77 (0, 0))) := (hb5.block _ (by omega)).trans hg4.out
  have hz5 : Hid (w5.heap[w.heap.size + 1]? = some (.cells (bv z32).toArray 23 (0, 0))) := (hb5.block _ (by omega)).trans hz4.out
  have hbw5 := below_next hb4 (by omega) hb5
  have hs7 : w.heap.size + 1 < w5.heap.size := (Array.getElem?_eq_some_iff.1 hz5.out).1
  clear hg4 hz4 hb4 hb5 hs6 hp4 cp3
  go_upto_region 6 with (with_reducible refine wpList_store_row rfl 77 (.tmp 1) (.tmp 37) rfl w.heap.size (u64v [x0, x1, x2, x3]).toArray rfl rfl 77 _ hg5.out (by kernel_rfl) (by kernel_rfl) (all_oneCell_toArray (u64v_one _)) ?_)
  obtain ⟨w6, hw6⟩ : ∃ w6, w6 = w5.setRow w.heap.size (u64v [x0, x1, x2, x3]).toArray := ⟨_, rfl⟩
  rw [← hw6]
  have hg6 : Hid (w6.heap[w.heap.size]? = some (.cells (u64v [x0, x1, x2, x3]).toArray 77 (0, 0))) := by rw [hw6]; exact setRow_heap _ _ _ _ _ _ hg5.out
  have hb6 : Below w.heap.size w w6 := by rw [hw6]; exact below_setRow hbw5 (by omega) _
  have hz6 : Hid (w6.heap[w.heap.size + 1]? = some (.cells (bv z32).toArray 23 (0, 0))) := by rw [hw6]; exact (setRow_other _ _ _ _ (by omega)).trans hz5.out
  have hs8 : w.heap.size + 1 < w6.heap.size := (Array.getElem?_eq_some_iff.1 hz6.out).1
  clear hw6 hg5 hz5 hbw5 hs7
  have cx3 : w6.cell? ⟨w.heap.size, 3, none⟩ = some (.int .u64 (x3 : Int)) := long_at hg6.out 3 (by simp)
  have fx3 : w6.frozen? ⟨w.heap.size, 3, none⟩ = false := frozen_of_row _ _ _ _ _ hg6.out
  have em := low63 x3 lx3
  have ln3 : x3 % 9223372036854775808 < B64 := by simp only [B64] at *; omega
  generalize x3 % 9223372036854775808 = n at *
  go_upto_region 7 with fail
  have hg7 : Hid ((w6.setCell ⟨w.heap.size, 3, none⟩ (.int .u64 (n : Int))).heap[w.heap.size]? = some (.cells (u64v [x0, x1, x2, n]).toArray 77 (0, 0))) := by
    have h1 := (world_set_cell hg6.out 3 (.int .u64 (n : Int))).out
    rw [u64v_set] at h1
    exact h1
  have hb7 : Below w.heap.size w (w6.setCell ⟨w.heap.size, 3, none⟩ (.int .u64 (n : Int))) := But.below hb6 ((But.refl _ w6).set _) (by omega) (by omega)
  have hz7 : Hid ((w6.setCell ⟨w.heap.size, 3, none⟩ (.int .u64 (n : Int))).heap[w.heap.size + 1]? = some (.cells (bv z32).toArray 23 (0, 0))) := (((But.refl w.heap.size w6).set _).block _ (by omega) (by intro e; injection e; omega)).trans hz6.out
  generalize w6.setCell ⟨w.heap.size, 3, none⟩ (.int .u64 (n : Int)) = w7 at *
  clear hg6 hb6 hz6 cx3 fx3 em hs8 lx3
  have hs9 : w.heap.size + 1 < w7.heap.size := (Array.getElem?_eq_some_iff.1 hz7.out).1
  go_upto_region 8 with fail
  obtain ⟨V, hV⟩ : ∃ V, V = w7.alloc (.cells (bv z32).toArray 23) := ⟨_, rfl⟩
  rw [← hV]
  obtain ⟨Gz, hGz⟩ : ∃ Gz, Gz = w7.heap.size := ⟨_, rfl⟩
  have hgV : Hid (V.heap[w.heap.size]? = some (.cells (u64v [x0, x1, x2, n]).toArray 77 (0, 0))) := by rw [hV]; exact (Below.heap_alloc _ _ _ (by omega)).trans hg7.out
  have hzV : Hid (V.heap[w.heap.size + 1]? = some (.cells (bv z32).toArray 23 (0, 0))) := by rw [hV]; exact (Below.heap_alloc _ _ _ (by omega)).trans hz7.out
  have hoV : Hid (V.heap[Gz]? = some (.cells (bv z32).toArray 23 (0, 0))) := by rw [hV, hGz]; exact heap_alloc_new _ _
  have hbV : Below w.heap.size w V := by rw [hV]; exact hb7.alloc hb7.size _
  have hGz2 : w.heap.size + 1 < Gz := by rw [hGz]; exact hs9
  have hsV : w.heap.size + 1 < V.heap.size := (Array.getElem?_eq_some_iff.1 hzV.out).1
  rw [← hGz]
  clear hGz hV hg7 hz7 hb7 hs9
  go_wp2_with fail
  go_loopw [43] (fun i wr => ∃ k : Nat, k ≤ 8 ∧ i = .int .i64 (k : Int) ∧ Hid (wr.heap[Gz]? = some (.cells (bv (quart x0 x1 x2 n k)).toArray 23 (0, 0))) ∧ But Gz V wr) (fun i _ => 8 - (intOf i).toNat)
  case atStart => exact ⟨0, by omega, rfl, hoV, But.refl _ _⟩
  case round =>
    obtain ⟨k, hk, rfl, hg, hbt⟩ := hrel
    have hgn : Hid (wr.heap[w.heap.size]? = some (.cells (u64v [x0, x1, x2, n]).toArray 77 (0, 0))) := (hbt.block _ (by omega) (by intro e; injection e; omega)).trans hgV.out
    by_cases hlt : k < 8
    · have c0 : wr.cell? ⟨w.heap.size, 0, none⟩ = some (.int .u64 (x0 : Int)) := long_at hgn.out 0 (by simp)
      have c1 : wr.cell? ⟨w.heap.size, 1, none⟩ = some (.int .u64 (x1 : Int)) := long_at hgn.out 1 (by simp)
      have c2 : wr.cell? ⟨w.heap.size, 2, none⟩ = some (.int .u64 (x2 : Int)) := long_at hgn.out 2 (by simp)
      have c3 : wr.cell? ⟨w.heap.size, 3, none⟩ = some (.int .u64 (n : Int)) := long_at hgn.out 3 (by simp)
      have f0 : wr.frozen? ⟨Gz, k, none⟩ = false := frozen_of_row _ _ _ _ _ hg.out
      have f1 : wr.frozen? ⟨Gz, k + 8, none⟩ = false := frozen_of_row _ _ _ _ _ hg.out
      have f2 : wr.frozen? ⟨Gz, k + 16, none⟩ = false := frozen_of_row _ _ _ _ _ hg.out
      have f3 : wr.frozen? ⟨Gz, k + 24, none⟩ = false := frozen_of_row _ _ _ _ _ hg.out
      obtain ⟨⟨u0, hu0⟩, ⟨u1, hu1⟩, ⟨u2, hu2⟩, ⟨u3, hu3⟩⟩ := quart_cells hg.out hlt
      have hset := (world_set_cell (world_set_cell (world_set_cell (world_set_cell hg.out k (.int .u8 ((x0 : Int) / 2 ^ (8 * k) % 256))).out (k + 8) (.int .u8 ((x1 : Int) / 2 ^ (8 * k) % 256))).out (k + 16) (.int .u8 ((x2 : Int) / 2 ^ (8 * k) % 256))).out (k + 24) (.int .u8 ((n : Int) / 2 ^ (8 * k) % 256))).out
      rw [byte_of x0 (8 * k), byte_of x1 (8 * k), byte_of x2 (8 * k), byte_of n (8 * k), bv_set, bv_set, bv_set, bv_set, quart_set _ _ _ _ _ hlt, ← byte_of x0 (8 * k), ← byte_of x1 (8 * k), ← byte_of x2 (8 * k), ← byte_of n (8 * k)] at hset
      have HSET := Lib.hid hset
      clear hset
      go_wp2_with fail
      go_region
      go_wp2
      go_roundw
      case rel => exact ⟨k + 1, by omega, by go_num, HSET.out, ((((hbt.set _).set _).set _).set _).drew⟩
      case measure => simp [intOf]; omega
    · obtain ⟨T, hT⟩ : ∃ T, T = quart x0 x1 x2 n k := ⟨_, rfl⟩
      have hk8 : k = 8 := by omega
      rw [← hT] at hg
      have HTL := Lib.hid (show T.length = 32 by rw [hT, quart_len _ _ _ _ _ hk])
      have HTE := vlt (show T = le (n4 a0 a1 a2 a3 % FP) 32 by rw [hT, hk8, quart_all _ _ _ _ lx0 lx1 lx2, HR.out])
      clear hT hk8
      have hsz := Lib.hid (show (bv T).toArray.size = 32 by simp [bv_len, HTL.out])
      have hz : Hid (wr.heap[w.heap.size + 1]? = some (.cells (bv z32).toArray 23 (0, 0))) := (hbt.block _ (by omega) (by intro e; injection e; omega)).trans hzV.out
      have hbw : Below w.heap.size w wr := But.below hbV hbt (by omega) (by omega)
      go_wp2_with (first
        | (with_reducible refine wpList_load_row rfl 23 (.tmp 6) rfl Gz rfl 23 (bv T).toArray (0, 0) _ hg.out Tryd.underlying23 rfl (by rw [hsz.out]; kernel_rfl) ?_)
        | (with_reducible refine wpList_store_row rfl 23 (.tmp 2) (.tmp 82) rfl (w.heap.size + 1) (bv T).toArray rfl rfl 23 _ hz.out (by rw [hsz.out]; kernel_rfl) (by rw [hsz.out]; kernel_rfl) (all_oneCell_toArray (bv_one _)) ?_))
      refine bodyPost_ret (v := .agg (bv T).toArray) (results_cell_row Tryd.results51 _ _ (w.heap.size + 1) 23 _ (0, 0) _ rfl (setRow_heap _ _ _ _ _ _ hz.out) Tryd.underlying23 rfl (by rw [hsz.out]; kernel_rfl)) rfl ⟨T, rfl, HTE, HTL, below_setRow hbw (by omega) _⟩
end Go.Proofs.YtehkalbiomagjaaDoor
namespace Go.Proofs.YtehkalbiomagjaaDoor
open Go.RowKit

section
variable {ops : Array Oper} {o : Oper} {a : Act} {w : World} {K : Act → World → Prop} {Q : Exit → Act → World → Prop} {E : Prop}
/-- A new number's variable, as a step of a region that draws its order. -/
theorem step_new (hw : Region.wanted o (yielded ops a.tmps) = true) (ho : o.op = .alloc 77)
    (h : ∀ p w', Hid (p = w.heap.size) → Hid (w'.heap[p]? = some (.cells (u64v z4).toArray 77 (0, 0))) → Below w.heap.size w w' → p < w'.heap.size → K (a.put o.dst (.pointer (some ⟨p, 0, none⟩))) w') : if Region.wanted o (yielded ops a.tmps) = true then Oper.wp Tryd.prog o a w K Q else E := by
  rw [if_pos hw]
  have hzn := zero_n4
  have h1 := h w.heap.size _ rfl (heap_alloc_new w (.cells (u64v z4).toArray 77)) ((Below.refl _ _).alloc (Nat.le_refl _) _) (by simp)
  unfold Oper.wp
  simp only [execOp, ho]
  clear h
  go_simp
  exact h1
end

theorem prod_rows (A a0 a1 a2 a3 : Nat) : A * n4 a0 a1 a2 a3 = a0 * A + 18446744073709551616 * (a1 * A) + 340282366920938463463374607431768211456 * (a2 * A) + 6277101735386680763835789423207666416102355444464034512896 * (a3 * A) := by
  simp only [n4]; grind
theorem times_sum (A b0 b1 b2 b3 r00 r01 r02 r03 o0 r10 r11 r12 r13 o1 r20 r21 r22 r23 o2 r30 r31 r32 r33 o3 F o4 C : Nat)
    (h0 : n4 r00 r01 r02 r03 + 115792089237316195423570985008687907853269984665640564039457584007913129639936 * o0 = b0 * A + n4 0 0 0 0)
    (h1 : n4 r10 r11 r12 r13 + 115792089237316195423570985008687907853269984665640564039457584007913129639936 * o1 = b1 * A + n4 r01 r02 r03 o0)
    (h2 : n4 r20 r21 r22 r23 + 115792089237316195423570985008687907853269984665640564039457584007913129639936 * o2 = b2 * A + n4 r11 r12 r13 o1)
    (h3 : n4 r30 r31 r32 r33 + 115792089237316195423570985008687907853269984665640564039457584007913129639936 * o3 = b3 * A + n4 r21 r22 r23 o2)
    (h4 : F + 115792089237316195423570985008687907853269984665640564039457584007913129639936 * o4 = 38 * n4 r31 r32 r33 o3 + n4 r00 r10 r20 r30)
    (h5 : C % FP = (F + 115792089237316195423570985008687907853269984665640564039457584007913129639936 * o4) % FP) :
    C % FP = (A * n4 b0 b1 b2 b3) % FP := by
  rw [h5, h4]
  refine (fp_mod (q := 2 * n4 r31 r32 r33 o3) ?_).symm
  rw [prod_rows, fp_eq]
  generalize b0 * A = p0 at *
  generalize b1 * A = p1 at *
  generalize b2 * A = p2 at *
  generalize b3 * A = p3 at *
  clear h5 h4
  simp only [n4] at *
  omega
theorem times_over (F o4 a b c d e f g h : Nat) (ha : a < B64) (hb : b < B64) (hc : c < B64) (hd : d < B64) (he : e < B64) (hf : f < B64) (hg : g < B64) (hh : h < B64)
    (h4 : F + 115792089237316195423570985008687907853269984665640564039457584007913129639936 * o4 = 38 * n4 a b c d + n4 e f g h) : o4 ≤ 38 := by
  simp only [n4, B64] at *
  omega

set_option maxRecDepth 100000 in
set_option maxHeartbeats 2000000 in
theorem times_any (w : World) (a0 a1 a2 a3 b0 b1 b2 b3 : Nat) (ha0 : a0 < B64) (ha1 : a1 < B64) (ha2 : a2 < B64) (ha3 : a3 < B64) (hb0 : b0 < B64) (hb1 : b1 < B64) (hb2 : b2 < B64) (hb3 : b3 < B64) :
    Calls Tryd.prog 50 #[.agg (u64v [a0, a1, a2, a3]).toArray, .agg (u64v [b0, b1, b2, b3]).toArray] w fun e w' => ∃ c0 c1 c2 c3 : Nat, e = .returned (.agg (u64v [c0, c1, c2, c3]).toArray) ∧
      Vlt (n4 c0 c1 c2 c3 % FP = (n4 a0 a1 a2 a3 * n4 b0 b1 b2 b3) % FP) ∧ (c0 < B64 ∧ c1 < B64 ∧ c2 < B64 ∧ c3 < B64) ∧ Below w.heap.size w w' := by
  have hzn := zero_n4
  obtain ⟨W, hW, hgA, hgB, hgZ, hbW, hsW⟩ := three_new w (u64v [a0, a1, a2, a3]).toArray (u64v [b0, b1, b2, b3]).toArray (u64v z4).toArray 77 77 77
  have HW := Lib.hid hW
  have hs0 : w.heap.size + 2 < W.heap.size := by have := hsW.out; omega
  clear hW hsW
  have cb : W.cell? ⟨w.heap.size + 1, 0, none⟩ = some (.int .u64 (b0 : Int)) := long_at hgB.out 0 (by simp)
  go_enter Tryd.func50, Tryd.ntmps50
  go_upto_region 1 with fail
  rw [HW.out]
  go_wp2_with (with_reducible refine wpList_load_row rfl 77 (.tmp 2) rfl w.heap.size rfl 77 (u64v [a0, a1, a2, a3]).toArray (0, 0) _ hgA.out Tryd.underlying77 rfl (by kernel_rfl) ?_)
  refine (row_any W b0 a0 a1 a2 a3 0 0 0 0 hb0 ha0 ha1 ha2 ha3 (by decide) (by decide) (by decide) (by decide)).mono ?_
  rintro e v0 ⟨r00, r01, r02, r03, o0, rfl, e0, ⟨l00, l01, l02, l03⟩, lo0, hv0⟩
  have hgAv0 : Hid (v0.heap[w.heap.size]? = some (.cells (u64v [a0, a1, a2, a3]).toArray 77 (0, 0))) := (hv0.block _ (by omega)).trans hgA.out
  have hgBv0 : Hid (v0.heap[w.heap.size + 1]? = some (.cells (u64v [b0, b1, b2, b3]).toArray 77 (0, 0))) := (hv0.block _ (by omega)).trans hgB.out
  have hgZv0 : Hid (v0.heap[w.heap.size + 2]? = some (.cells (u64v z4).toArray 77 (0, 0))) := (hv0.block _ (by omega)).trans hgZ.out
  have hbv0 := below_next hbW (by omega) hv0
  have hsv0 : w.heap.size + 2 < v0.heap.size := (Array.getElem?_eq_some_iff.1 hgZv0.out).1
  clear hgA hgB hgZ hbW hs0 cb hv0
  go_upto_region 2 with ((with_reducible refine wpList_store_row rfl 77 (.tmp 5) (.tmp 18) rfl v0.heap.size (u64v [r00, r01, r02, r03]).toArray rfl rfl 77 _ (heap_alloc_new _ _) (by kernel_rfl) (by kernel_rfl) (all_oneCell_toArray (u64v_one _)) ?_); rw [World.setRow_alloc_new])
  obtain ⟨u0, hu0⟩ : ∃ u0, u0 = v0.alloc (.cells (u64v [r00, r01, r02, r03]).toArray 77) := ⟨_, rfl⟩
  rw [← hu0]
  have hgAu0 : Hid (u0.heap[w.heap.size]? = some (.cells (u64v [a0, a1, a2, a3]).toArray 77 (0, 0))) := by rw [hu0]; exact (Below.heap_alloc _ _ _ (by omega)).trans hgAv0.out
  have hgBu0 : Hid (u0.heap[w.heap.size + 1]? = some (.cells (u64v [b0, b1, b2, b3]).toArray 77 (0, 0))) := by rw [hu0]; exact (Below.heap_alloc _ _ _ (by omega)).trans hgBv0.out
  have hgZu0 : Hid (u0.heap[w.heap.size + 2]? = some (.cells (u64v z4).toArray 77 (0, 0))) := by rw [hu0]; exact (Below.heap_alloc _ _ _ (by omega)).trans hgZv0.out
  have hgR0 : Hid (u0.heap[v0.heap.size]? = some (.cells (u64v [r00, r01, r02, r03]).toArray 77 (0, 0))) := by rw [hu0]; exact heap_alloc_new _ _
  have hbu0 : Below w.heap.size w u0 := by rw [hu0]; exact hbv0.alloc hbv0.size _
  obtain ⟨R, hR⟩ : ∃ R, R = v0.heap.size := ⟨_, rfl⟩
  rw [← hR] at hgR0 hsv0 ⊢
  have hsu0 : R < u0.heap.size := (Array.getElem?_eq_some_iff.1 hgR0.out).1
  clear hR hu0 hgAv0 hgBv0 hgZv0 hbv0
  have cr0 : u0.cell? ⟨R, 0, none⟩ = some (.int .u64 (r00 : Int)) := long_at hgR0.out 0 (by simp)
  go_upto_region 3 with fail
  clear cr0
  have cb : u0.cell? ⟨w.heap.size + 1, 1, none⟩ = some (.int .u64 (b1 : Int)) := long_at hgBu0.out 1 (by simp)
  have cr0 : u0.cell? ⟨R, 0, none⟩ = some (.int .u64 (r00 : Int)) := long_at hgR0.out 0 (by simp)
  have cr1 : u0.cell? ⟨R, 1, none⟩ = some (.int .u64 (r01 : Int)) := long_at hgR0.out 1 (by simp)
  have cr2 : u0.cell? ⟨R, 2, none⟩ = some (.int .u64 (r02 : Int)) := long_at hgR0.out 2 (by simp)
  have cr3 : u0.cell? ⟨R, 3, none⟩ = some (.int .u64 (r03 : Int)) := long_at hgR0.out 3 (by simp)
  go_wp2_with (with_reducible refine wpList_load_row rfl 77 (.tmp 2) rfl w.heap.size rfl 77 (u64v [a0, a1, a2, a3]).toArray (0, 0) _ hgAu0.out Tryd.underlying77 rfl (by kernel_rfl) ?_)
  refine (row_any u0 b1 a0 a1 a2 a3 r01 r02 r03 o0 hb1 ha0 ha1 ha2 ha3 l01 l02 l03 lo0).mono ?_
  rintro e v1 ⟨r10, r11, r12, r13, o1, rfl, e1, ⟨l10, l11, l12, l13⟩, lo1, hv1⟩
  have hgAv1 : Hid (v1.heap[w.heap.size]? = some (.cells (u64v [a0, a1, a2, a3]).toArray 77 (0, 0))) := (hv1.block _ (by omega)).trans hgAu0.out
  have hgBv1 : Hid (v1.heap[w.heap.size + 1]? = some (.cells (u64v [b0, b1, b2, b3]).toArray 77 (0, 0))) := (hv1.block _ (by omega)).trans hgBu0.out
  have hgZv1 : Hid (v1.heap[w.heap.size + 2]? = some (.cells (u64v z4).toArray 77 (0, 0))) := (hv1.block _ (by omega)).trans hgZu0.out
  have hgRv : Hid (v1.heap[R]? = some (.cells (u64v [r00, r01, r02, r03]).toArray 77 (0, 0))) := (hv1.block _ (by omega)).trans hgR0.out
  have hbv1 := below_next hbu0 (by omega) hv1
  clear hgAu0 hgBu0 hgZu0 hgR0 hbu0 cb cr0 cr1 cr2 cr3 hv1
  go_upto_region 4 with (with_reducible refine wpList_store_row rfl 77 (.tmp 5) (.tmp 35) rfl R (u64v [r10, r11, r12, r13]).toArray rfl rfl 77 _ hgRv.out (by kernel_rfl) (by kernel_rfl) (all_oneCell_toArray (u64v_one _)) ?_)
  obtain ⟨u1, hu1⟩ : ∃ u1, u1 = v1.setRow R (u64v [r10, r11, r12, r13]).toArray := ⟨_, rfl⟩
  rw [← hu1]
  have hgAu1 : Hid (u1.heap[w.heap.size]? = some (.cells (u64v [a0, a1, a2, a3]).toArray 77 (0, 0))) := by rw [hu1]; exact (setRow_other _ _ _ _ (by omega)).trans hgAv1.out
  have hgBu1 : Hid (u1.heap[w.heap.size + 1]? = some (.cells (u64v [b0, b1, b2, b3]).toArray 77 (0, 0))) := by rw [hu1]; exact (setRow_other _ _ _ _ (by omega)).trans hgBv1.out
  have hgZu1 : Hid (u1.heap[w.heap.size + 2]? = some (.cells (u64v z4).toArray 77 (0, 0))) := by rw [hu1]; exact (setRow_other _ _ _ _ (by omega)).trans hgZv1.out
  have hgR1 : Hid (u1.heap[R]? = some (.cells (u64v [r10, r11, r12, r13]).toArray 77 (0, 0))) := by rw [hu1]; exact setRow_heap _ _ _ _ _ _ hgRv.out
  have hbu1 : Below w.heap.size w u1 := by rw [hu1]; exact below_setRow hbv1 (by omega) _
  have hsu1 : R < u1.heap.size := (Array.getElem?_eq_some_iff.1 hgR1.out).1
  clear hu1 hgAv1 hgBv1 hgZv1 hgRv hbv1 hsu0
  have cr0 : u1.cell? ⟨R, 0, none⟩ = some (.int .u64 (r10 : Int)) := long_at hgR1.out 0 (by simp)
  go_upto_region 5 with fail
  clear cr0
  have cb : u1.cell? ⟨w.heap.size + 1, 2, none⟩ = some (.int .u64 (b2 : Int)) := long_at hgBu1.out 2 (by simp)
  have cr0 : u1.cell? ⟨R, 0, none⟩ = some (.int .u64 (r10 : Int)) := long_at hgR1.out 0 (by simp)
  have cr1 : u1.cell? ⟨R, 1, none⟩ = some (.int .u64 (r11 : Int)) := long_at hgR1.out 1 (by simp)
  have cr2 : u1.cell? ⟨R, 2, none⟩ = some (.int .u64 (r12 : Int)) := long_at hgR1.out 2 (by simp)
  have cr3 : u1.cell? ⟨R, 3, none⟩ = some (.int .u64 (r13 : Int)) := long_at hgR1.out 3 (by simp)
  go_wp2_with (with_reducible refine wpList_load_row rfl 77 (.tmp 2) rfl w.heap.size rfl 77 (u64v [a0, a1, a2, a3]).toArray (0, 0) _ hgAu1.out Tryd.underlying77 rfl (by kernel_rfl) ?_)
  refine (row_any u1 b2 a0 a1 a2 a3 r11 r12 r13 o1 hb2 ha0 ha1 ha2 ha3 l11 l12 l13 lo1).mono ?_
  rintro e v2 ⟨r20, r21, r22, r23, o2, rfl, e2, ⟨l20, l21, l22, l23⟩, lo2, hv2⟩
  have hgAv2 : Hid (v2.heap[w.heap.size]? = some (.cells (u64v [a0, a1, a2, a3]).toArray 77 (0, 0))) := (hv2.block _ (by omega)).trans hgAu1.out
  have hgBv2 : Hid (v2.heap[w.heap.size + 1]? = some (.cells (u64v [b0, b1, b2, b3]).toArray 77 (0, 0))) := (hv2.block _ (by omega)).trans hgBu1.out
  have hgZv2 : Hid (v2.heap[w.heap.size + 2]? = some (.cells (u64v z4).toArray 77 (0, 0))) := (hv2.block _ (by omega)).trans hgZu1.out
  have hgRv : Hid (v2.heap[R]? = some (.cells (u64v [r10, r11, r12, r13]).toArray 77 (0, 0))) := (hv2.block _ (by omega)).trans hgR1.out
  have hbv2 := below_next hbu1 (by omega) hv2
  clear hgAu1 hgBu1 hgZu1 hgR1 hbu1 cb cr0 cr1 cr2 cr3 hv2
  go_upto_region 6 with (with_reducible refine wpList_store_row rfl 77 (.tmp 5) (.tmp 52) rfl R (u64v [r20, r21, r22, r23]).toArray rfl rfl 77 _ hgRv.out (by kernel_rfl) (by kernel_rfl) (all_oneCell_toArray (u64v_one _)) ?_)
  obtain ⟨u2, hu2⟩ : ∃ u2, u2 = v2.setRow R (u64v [r20, r21, r22, r23]).toArray := ⟨_, rfl⟩
  rw [← hu2]
  have hgAu2 : Hid (u2.heap[w.heap.size]? = some (.cells (u64v [a0, a1, a2, a3]).toArray 77 (0, 0))) := by rw [hu2]; exact (setRow_other _ _ _ _ (by omega)).trans hgAv2.out
  have hgBu2 : Hid (u2.heap[w.heap.size + 1]? = some (.cells (u64v [b0, b1, b2, b3]).toArray 77 (0, 0))) := by rw [hu2]; exact (setRow_other _ _ _ _ (by omega)).trans hgBv2.out
  have hgZu2 : Hid (u2.heap[w.heap.size + 2]? = some (.cells (u64v z4).toArray 77 (0, 0))) := by rw [hu2]; exact (setRow_other _ _ _ _ (by omega)).trans hgZv2.out
  have hgR2 : Hid (u2.heap[R]? = some (.cells (u64v [r20, r21, r22, r23]).toArray 77 (0, 0))) := by rw [hu2]; exact setRow_heap _ _ _ _ _ _ hgRv.out
  have hbu2 : Below w.heap.size w u2 := by rw [hu2]; exact below_setRow hbv2 (by omega) _
  have hsu2 : R < u2.heap.size := (Array.getElem?_eq_some_iff.1 hgR2.out).1
  clear hu2 hgAv2 hgBv2 hgZv2 hgRv hbv2 hsu1
  have cr0 : u2.cell? ⟨R, 0, none⟩ = some (.int .u64 (r20 : Int)) := long_at hgR2.out 0 (by simp)
  go_upto_region 7 with fail
  clear cr0
  have cb : u2.cell? ⟨w.heap.size + 1, 3, none⟩ = some (.int .u64 (b3 : Int)) := long_at hgBu2.out 3 (by simp)
  have cr0 : u2.cell? ⟨R, 0, none⟩ = some (.int .u64 (r20 : Int)) := long_at hgR2.out 0 (by simp)
  have cr1 : u2.cell? ⟨R, 1, none⟩ = some (.int .u64 (r21 : Int)) := long_at hgR2.out 1 (by simp)
  have cr2 : u2.cell? ⟨R, 2, none⟩ = some (.int .u64 (r22 : Int)) := long_at hgR2.out 2 (by simp)
  have cr3 : u2.cell? ⟨R, 3, none⟩ = some (.int .u64 (r23 : Int)) := long_at hgR2.out 3 (by simp)
  go_wp2_with (with_reducible refine wpList_load_row rfl 77 (.tmp 2) rfl w.heap.size rfl 77 (u64v [a0, a1, a2, a3]).toArray (0, 0) _ hgAu2.out Tryd.underlying77 rfl (by kernel_rfl) ?_)
  refine (row_any u2 b3 a0 a1 a2 a3 r21 r22 r23 o2 hb3 ha0 ha1 ha2 ha3 l21 l22 l23 lo2).mono ?_
  rintro e v3 ⟨r30, r31, r32, r33, o3, rfl, e3, ⟨l30, l31, l32, l33⟩, lo3, hv3⟩
  have hgAv3 : Hid (v3.heap[w.heap.size]? = some (.cells (u64v [a0, a1, a2, a3]).toArray 77 (0, 0))) := (hv3.block _ (by omega)).trans hgAu2.out
  have hgBv3 : Hid (v3.heap[w.heap.size + 1]? = some (.cells (u64v [b0, b1, b2, b3]).toArray 77 (0, 0))) := (hv3.block _ (by omega)).trans hgBu2.out
  have hgZv3 : Hid (v3.heap[w.heap.size + 2]? = some (.cells (u64v z4).toArray 77 (0, 0))) := (hv3.block _ (by omega)).trans hgZu2.out
  have hgRv : Hid (v3.heap[R]? = some (.cells (u64v [r20, r21, r22, r23]).toArray 77 (0, 0))) := (hv3.block _ (by omega)).trans hgR2.out
  have hbv3 := below_next hbu2 (by omega) hv3
  clear hgAu2 hgBu2 hgZu2 hgR2 hbu2 cb cr0 cr1 cr2 cr3 hv3
  go_upto_region 8 with (with_reducible refine wpList_store_row rfl 77 (.tmp 5) (.tmp 69) rfl R (u64v [r30, r31, r32, r33]).toArray rfl rfl 77 _ hgRv.out (by kernel_rfl) (by kernel_rfl) (all_oneCell_toArray (u64v_one _)) ?_)
  obtain ⟨u3, hu3⟩ : ∃ u3, u3 = v3.setRow R (u64v [r30, r31, r32, r33]).toArray := ⟨_, rfl⟩
  rw [← hu3]
  have hgAu3 : Hid (u3.heap[w.heap.size]? = some (.cells (u64v [a0, a1, a2, a3]).toArray 77 (0, 0))) := by rw [hu3]; exact (setRow_other _ _ _ _ (by omega)).trans hgAv3.out
  have hgBu3 : Hid (u3.heap[w.heap.size + 1]? = some (.cells (u64v [b0, b1, b2, b3]).toArray 77 (0, 0))) := by rw [hu3]; exact (setRow_other _ _ _ _ (by omega)).trans hgBv3.out
  have hgZu3 : Hid (u3.heap[w.heap.size + 2]? = some (.cells (u64v z4).toArray 77 (0, 0))) := by rw [hu3]; exact (setRow_other _ _ _ _ (by omega)).trans hgZv3.out
  have hgR3 : Hid (u3.heap[R]? = some (.cells (u64v [r30, r31, r32, r33]).toArray 77 (0, 0))) := by rw [hu3]; exact setRow_heap _ _ _ _ _ _ hgRv.out
  have hbu3 : Below w.heap.size w u3 := by rw [hu3]; exact below_setRow hbv3 (by omega) _
  have hsu3 : R < u3.heap.size := (Array.getElem?_eq_some_iff.1 hgR3.out).1
  clear hu3 hgAv3 hgBv3 hgZv3 hgRv hbv3 hsu2
  have cr0 : u3.cell? ⟨R, 0, none⟩ = some (.int .u64 (r30 : Int)) := long_at hgR3.out 0 (by simp)
  have cr1 : u3.cell? ⟨R, 1, none⟩ = some (.int .u64 (r31 : Int)) := long_at hgR3.out 1 (by simp)
  have cr2 : u3.cell? ⟨R, 2, none⟩ = some (.int .u64 (r32 : Int)) := long_at hgR3.out 2 (by simp)
  have cr3 : u3.cell? ⟨R, 3, none⟩ = some (.int .u64 (r33 : Int)) := long_at hgR3.out 3 (by simp)
  have hold : ∀ W, Below u3.heap.size u3 W → (W.cell? ⟨R, 0, none⟩ = some (.int .u64 (r30 : Int)) ∧ W.cell? ⟨R, 1, none⟩ = some (.int .u64 (r31 : Int)) ∧ W.cell? ⟨R, 2, none⟩ = some (.int .u64 (r32 : Int)) ∧ W.cell? ⟨R, 3, none⟩ = some (.int .u64 (r33 : Int)) ∧ Below u3.heap.size u3 W) :=
    fun W h => ⟨(h.cell hsu3).trans cr0, (h.cell hsu3).trans cr1, (h.cell hsu3).trans cr2, (h.cell hsu3).trans cr3, h⟩
  refine wp_region_held_drew (S := (fun W => W.cell? ⟨R, 0, none⟩ = some (.int .u64 (r30 : Int)) ∧ W.cell? ⟨R, 1, none⟩ = some (.int .u64 (r31 : Int)) ∧ W.cell? ⟨R, 2, none⟩ = some (.int .u64 (r32 : Int)) ∧ W.cell? ⟨R, 3, none⟩ = some (.int .u64 (r33 : Int)) ∧ Below u3.heap.size u3 W)) (by kernel_rfl) (hold _ (Below.refl _ _).drew) (fun hHeld => ?_)
  refine wpAnyH_take (i := 0) (oi := ⟨(some 71), _, _, _, _, _⟩) (v := ?vq1_0) rfl (by kernel_rfl) (by kernel_rfl) (by kernel_rfl) (fun _ _ _ h => h) (Or.inl ⟨by rfl, ?yq1_0⟩) hHeld ?_
  case yq1_0 => (intro W0 hSw; go_simp; try with_reducible rfl)
  try simp only [Act.put, List.setIfInBounds_toArray, List.set_cons_zero, List.set_cons_succ]
  refine wpAnyH_take (i := 1) (oi := ⟨(some 72), _, _, _, _, _⟩) (v := ?vq1_1) rfl (by kernel_rfl) (by kernel_rfl) (by kernel_rfl) (fun _ _ _ h => h) (Or.inl ⟨by rfl, ?yq1_1⟩) hHeld ?_
  case yq1_1 => (intro W0 hSw; go_simp; try with_reducible rfl)
  try simp only [Act.put, List.setIfInBounds_toArray, List.set_cons_zero, List.set_cons_succ]
  refine wpAnyH_take (i := 2) (oi := ⟨(some 73), _, _, _, _, _⟩) (v := ?vq1_2) rfl (by kernel_rfl) (by kernel_rfl) (by kernel_rfl) (fun _ _ _ h => h) (Or.inl ⟨by rfl, ?yq1_2⟩) hHeld ?_
  case yq1_2 => (intro W0 hSw; go_simp; try with_reducible rfl)
  try simp only [Act.put, List.setIfInBounds_toArray, List.set_cons_zero, List.set_cons_succ]
  refine wpAnyH_take (i := 3) (oi := ⟨(some 74), _, _, _, _, _⟩) (v := ?vq1_3) rfl (by kernel_rfl) (by kernel_rfl) (by kernel_rfl) (fun _ _ _ h => h) (Or.inl ⟨by rfl, ?yq1_3⟩) hHeld ?_
  case yq1_3 => (intro W0 hSw; go_simp; try with_reducible rfl)
  try simp only [Act.put, List.setIfInBounds_toArray, List.set_cons_zero, List.set_cons_succ]
  refine wpAnyH_take (i := 4) (oi := ⟨(some 75), _, _, _, _, _⟩) (v := ?vq1_4) rfl (by kernel_rfl) (by kernel_rfl) (by kernel_rfl) (fun _ _ _ h => h) (Or.inl ⟨by rfl, ?yq1_4⟩) hHeld ?_
  case yq1_4 => (intro W0 hSw; go_simp; try with_reducible rfl)
  try simp only [Act.put, List.setIfInBounds_toArray, List.set_cons_zero, List.set_cons_succ]
  refine wpAnyH_take (i := 5) (oi := ⟨(some 76), _, _, _, _, _⟩) (v := ?vq1_5) rfl (by kernel_rfl) (by kernel_rfl) (by kernel_rfl) (fun _ _ _ h => h) (Or.inl ⟨by rfl, ?yq1_5⟩) hHeld ?_
  case yq1_5 => (intro W0 hSw; go_simp; try with_reducible rfl)
  try simp only [Act.put, List.setIfInBounds_toArray, List.set_cons_zero, List.set_cons_succ]
  refine wpAnyH_take (i := 6) (oi := ⟨(some 77), _, _, _, _, _⟩) (v := ?vq1_6) rfl (by kernel_rfl) (by kernel_rfl) (by kernel_rfl) (fun _ _ _ h => h) (Or.inl ⟨by rfl, ?yq1_6⟩) hHeld ?_
  case yq1_6 => (intro W0 hSw; go_simp; try with_reducible rfl)
  try simp only [Act.put, List.setIfInBounds_toArray, List.set_cons_zero, List.set_cons_succ]
  refine wpAnyH_take (i := 7) (oi := ⟨(some 78), _, _, _, _, _⟩) (v := ?vq1_7) rfl (by kernel_rfl) (by kernel_rfl) (by kernel_rfl) (fun _ _ _ h => h) (Or.inl ⟨by rfl, ?yq1_7⟩) hHeld ?_
  case yq1_7 => (intro W0 hSw; go_simp; try with_reducible rfl)
  try simp only [Act.put, List.setIfInBounds_toArray, List.set_cons_zero, List.set_cons_succ]
  refine wpAnyH_take (i := 8) (oi := ⟨(some 79), _, _, _, _, _⟩) (v := ?vq1_8) rfl (by kernel_rfl) (by kernel_rfl) (by kernel_rfl) (fun _ _ _ h => h) (Or.inl ⟨by rfl, ?yq1_8⟩) hHeld ?_
  case yq1_8 => (intro W0 hSw; go_simp; try with_reducible rfl)
  try simp only [Act.put, List.setIfInBounds_toArray, List.set_cons_zero, List.set_cons_succ]
  refine wpAnyH_take (i := 9) (oi := ⟨(some 80), _, _, _, _, _⟩) (v := ?vq1_9) rfl (by kernel_rfl) (by kernel_rfl) (by kernel_rfl) (fun _ _ _ h => h) (Or.inl ⟨by rfl, ?yq1_9⟩) hHeld ?_
  case yq1_9 => (intro W0 hSw; go_simp; try with_reducible rfl)
  try simp only [Act.put, List.setIfInBounds_toArray, List.set_cons_zero, List.set_cons_succ]
  refine wpAnyH_take (i := 10) (oi := ⟨(some 81), _, _, _, _, _⟩) (v := ?vq1_10) rfl (by kernel_rfl) (by kernel_rfl) (by kernel_rfl) (fun _ _ _ h => h) (Or.inl ⟨by rfl, ?yq1_10⟩) hHeld ?_
  case yq1_10 => (intro W0 hSw; go_simp; try with_reducible rfl)
  try simp only [Act.put, List.setIfInBounds_toArray, List.set_cons_zero, List.set_cons_succ]
  refine wpAnyH_take (i := 11) (oi := ⟨(some 82), _, _, _, _, _⟩) (v := ?vq1_11) rfl (by kernel_rfl) (by kernel_rfl) (by kernel_rfl) (fun _ _ _ h => h) (Or.inl ⟨by rfl, ?yq1_11⟩) hHeld ?_
  case yq1_11 => (intro W0 hSw; go_simp; try with_reducible rfl)
  try simp only [Act.put, List.setIfInBounds_toArray, List.set_cons_zero, List.set_cons_succ]
  refine wpAnyH_take (i := 12) (oi := ⟨(some 83), _, _, _, _, _⟩) (v := ?vq1_12) rfl (by kernel_rfl) (by kernel_rfl) (by kernel_rfl) (fun _ _ _ h => h) (Or.inl ⟨by rfl, ?yq1_12⟩) hHeld ?_
  case yq1_12 => (intro W0 hSw; go_simp; try with_reducible rfl)
  try simp only [Act.put, List.setIfInBounds_toArray, List.set_cons_zero, List.set_cons_succ]
  refine wpAnyH_take (i := 13) (oi := ⟨(some 84), _, _, _, _, _⟩) (v := ?vq1_13) rfl (by kernel_rfl) (by kernel_rfl) (by kernel_rfl) (fun _ _ _ h => h) (Or.inl ⟨by rfl, ?yq1_13⟩) hHeld ?_
  case yq1_13 => (intro W0 hSw; go_simp; try with_reducible rfl)
  try simp only [Act.put, List.setIfInBounds_toArray, List.set_cons_zero, List.set_cons_succ]
  refine wpAnyH_ready (rs := [14, 15]) (by kernel_rfl) (by simp) ?_
  refine AllReadyH.cons (i := 14) (o := ⟨(some 10), _, _, _, _, _⟩) rfl (fun K hK => ?_) (AllReadyH.cons (i := 15) (o := ⟨(some 11), _, _, _, _, _⟩) rfl (fun K hK => ?_) AllReadyH.nil)
  · refine step_new (by rfl) rfl ?_
    intro P14 W1 hP14 z14 g1 l14
    have lP14 : u3.heap.size ≤ P14 := by have := hHeld.2.2.2.2.size; have := hP14.out; omega
    have hB1 := below_next hHeld.2.2.2.2 hHeld.2.2.2.2.size g1
    refine hK.out _ _ (hold _ hB1) (fun hHeld => ?_)
    clear hK K
    try simp only [Act.put, List.setIfInBounds_toArray, List.set_cons_zero, List.set_cons_succ]
    refine wpAnyH_ready (rs := [15]) (by kernel_rfl) (by simp) ?_
    refine AllReadyH.cons (i := 15) (o := ⟨(some 11), _, _, _, _, _⟩) rfl (fun K hK => ?_) AllReadyH.nil
    refine step_new (by rfl) rfl ?_
    intro P15 W2 hP15 z15 g2 l15
    have lP15 : u3.heap.size ≤ P15 := by have := hHeld.2.2.2.2.size; have := hP15.out; omega
    have hB2 := below_next hHeld.2.2.2.2 hHeld.2.2.2.2.size g2
    refine hK.out _ _ (hold _ hB2) (fun hHeld => ?_)
    clear hK K
    try simp only [Act.put, List.setIfInBounds_toArray, List.set_cons_zero, List.set_cons_succ]
    refine wpAnyH_ready (rs := [16]) (by kernel_rfl) (by simp) ?_
    refine AllReadyH.cons (i := 16) (o := ⟨none, _, _, _, _, _⟩) rfl (fun K hK => ?_) AllReadyH.nil
    have hne : P14 ≠ P15 := by have := hP15.out; omega
    refine step_store_row rfl 77 (.tmp 10) (.tmp 76) rfl P14 (u64v [r00, r10, r20, r30]).toArray rfl rfl 77 _ ((row_next z14 g2)).out (by kernel_rfl) (by kernel_rfl) (all_oneCell_toArray (u64v_one _)) ?_
    have y14 : Hid ((W2.setRow P14 (u64v [r00, r10, r20, r30]).toArray).heap[P14]? = some (.cells (u64v [r00, r10, r20, r30]).toArray 77 (0, 0))) := setRow_heap _ _ _ _ _ _ ((row_next z14 g2)).out
    have y15 : Hid ((W2.setRow P14 (u64v [r00, r10, r20, r30]).toArray).heap[P15]? = some (.cells (u64v z4).toArray 77 (0, 0))) := (setRow_other _ _ _ _ (Ne.symm hne)).trans (z15).out
    have hB3 := below_setRow hHeld.2.2.2.2 lP14 (u64v [r00, r10, r20, r30]).toArray
    generalize W2.setRow P14 (u64v [r00, r10, r20, r30]).toArray = W3 at *
    refine hK.out _ _ (hold _ hB3) (fun hHeld => ?_)
    clear hK K
    try simp only [Act.put]
    refine wpAnyH_ready (rs := [17]) (by kernel_rfl) (by simp) ?_
    refine AllReadyH.cons (i := 17) (o := ⟨none, _, _, _, _, _⟩) rfl (fun K hK => ?_) AllReadyH.nil
    refine step_store_row rfl 77 (.tmp 11) (.tmp 84) rfl P15 (u64v [r31, r32, r33, o3]).toArray rfl rfl 77 _ y15.out (by kernel_rfl) (by kernel_rfl) (all_oneCell_toArray (u64v_one _)) ?_
    have x15 : Hid ((W3.setRow P15 (u64v [r31, r32, r33, o3]).toArray).heap[P15]? = some (.cells (u64v [r31, r32, r33, o3]).toArray 77 (0, 0))) := setRow_heap _ _ _ _ _ _ y15.out
    have x14 : Hid ((W3.setRow P15 (u64v [r31, r32, r33, o3]).toArray).heap[P14]? = some (.cells (u64v [r00, r10, r20, r30]).toArray 77 (0, 0))) := (setRow_other _ _ _ _ hne).trans y14.out
    have hB4 := below_setRow hHeld.2.2.2.2 lP15 (u64v [r31, r32, r33, o3]).toArray
    generalize W3.setRow P15 (u64v [r31, r32, r33, o3]).toArray = W4 at *
    refine hK.out _ _ (hold _ hB4) (fun hHeld => ?_)
    clear hK K
    try simp only [Act.put]
    refine wpAnyH_done (by kernel_rfl) ?_ _
    have hbW4 := below_next hbu3 hbu3.size hB4
    have hZ4 : Hid (W4.heap[w.heap.size + 2]? = some (.cells (u64v z4).toArray 77 (0, 0))) := (hB4.block _ (by omega)).trans hgZu3.out
    have hs4 : w.heap.size + 2 < W4.heap.size := (Array.getElem?_eq_some_iff.1 hZ4.out).1
    go_wp2_with (first
      | (with_reducible refine wpList_load_row rfl 77 (.tmp 11) rfl P15 rfl 77 (u64v [r31, r32, r33, o3]).toArray (0, 0) _ x15.out Tryd.underlying77 rfl (by kernel_rfl) ?_)
      | (with_reducible refine wpList_load_row rfl 77 (.tmp 10) rfl P14 rfl 77 (u64v [r00, r10, r20, r30]).toArray (0, 0) _ x14.out Tryd.underlying77 rfl (by kernel_rfl) ?_))
    refine (row_any W4 38 r31 r32 r33 o3 r00 r10 r20 r30 (by decide) l31 l32 l33 lo3 l00 l10 l20 l30).mono ?_
    rintro e W5 ⟨f0, f1, f2, f3, o4, rfl, e4, ⟨lf0, lf1, lf2, lf3⟩, lo4, hv4⟩
    have ho4 := times_over _ _ _ _ _ _ _ _ _ _ l31 l32 l33 lo3 l00 l10 l20 l30 e4.out
    have hbW5 := below_next hbW4 hbW4.size hv4
    have hZ5 : Hid (W5.heap[w.heap.size + 2]? = some (.cells (u64v z4).toArray 77 (0, 0))) := (hv4.block _ (by omega)).trans hZ4.out
    have hs5 : w.heap.size + 2 < W5.heap.size := (Array.getElem?_eq_some_iff.1 hZ5.out).1
    go_wp2_with fail
    refine (folded_any W5 f0 f1 f2 f3 o4 lf0 lf1 lf2 lf3 ho4).mono ?_
    rintro e W6 ⟨c0, c1, c2, c3, rfl, e5, lc, hv5⟩
    have HE := vlt (times_sum _ b0 b1 b2 b3 r00 r01 r02 r03 o0 r10 r11 r12 r13 o1 r20 r21 r22 r23 o2 r30 r31 r32 r33 o3 _ o4 _ e0.out e1.out e2.out e3.out e4.out e5.out)
    clear e0 e1 e2 e3 e4 e5
    have hbW6 := below_next hbW5 hbW5.size hv5
    have hZ6 : Hid (W6.heap[w.heap.size + 1 + 1]? = some (.cells (u64v z4).toArray 77 (0, 0))) := (hv5.block _ (by omega)).trans hZ5.out
    go_wp2_with (with_reducible refine wpList_store_row rfl 77 (.tmp 4) (.tmp 90) rfl (w.heap.size + 1 + 1) (u64v [c0, c1, c2, c3]).toArray rfl rfl 77 _ hZ6.out (by kernel_rfl) (by kernel_rfl) (all_oneCell_toArray (u64v_one _)) ?_)
    refine bodyPost_ret (v := .agg (u64v [c0, c1, c2, c3]).toArray) (results_cell_row Tryd.results50 _ _ (w.heap.size + 1 + 1) 77 _ (0, 0) _ rfl (setRow_heap _ _ _ _ _ _ hZ6.out) Tryd.underlying77 rfl (by kernel_rfl)) rfl ⟨c0, c1, c2, c3, rfl, HE, lc, below_setRow hbW6 (by omega) _⟩
  · refine step_new (by rfl) rfl ?_
    intro P15 W1 hP15 z15 g1 l15
    have lP15 : u3.heap.size ≤ P15 := by have := hHeld.2.2.2.2.size; have := hP15.out; omega
    have hB1 := below_next hHeld.2.2.2.2 hHeld.2.2.2.2.size g1
    refine hK.out _ _ (hold _ hB1) (fun hHeld => ?_)
    clear hK K
    try simp only [Act.put, List.setIfInBounds_toArray, List.set_cons_zero, List.set_cons_succ]
    refine wpAnyH_ready (rs := [14]) (by kernel_rfl) (by simp) ?_
    refine AllReadyH.cons (i := 14) (o := ⟨(some 10), _, _, _, _, _⟩) rfl (fun K hK => ?_) AllReadyH.nil
    refine step_new (by rfl) rfl ?_
    intro P14 W2 hP14 z14 g2 l14
    have lP14 : u3.heap.size ≤ P14 := by have := hHeld.2.2.2.2.size; have := hP14.out; omega
    have hB2 := below_next hHeld.2.2.2.2 hHeld.2.2.2.2.size g2
    refine hK.out _ _ (hold _ hB2) (fun hHeld => ?_)
    clear hK K
    try simp only [Act.put, List.setIfInBounds_toArray, List.set_cons_zero, List.set_cons_succ]
    refine wpAnyH_ready (rs := [16]) (by kernel_rfl) (by simp) ?_
    refine AllReadyH.cons (i := 16) (o := ⟨none, _, _, _, _, _⟩) rfl (fun K hK => ?_) AllReadyH.nil
    have hne : P14 ≠ P15 := by have := hP14.out; omega
    refine step_store_row rfl 77 (.tmp 10) (.tmp 76) rfl P14 (u64v [r00, r10, r20, r30]).toArray rfl rfl 77 _ (z14).out (by kernel_rfl) (by kernel_rfl) (all_oneCell_toArray (u64v_one _)) ?_
    have y14 : Hid ((W2.setRow P14 (u64v [r00, r10, r20, r30]).toArray).heap[P14]? = some (.cells (u64v [r00, r10, r20, r30]).toArray 77 (0, 0))) := setRow_heap _ _ _ _ _ _ (z14).out
    have y15 : Hid ((W2.setRow P14 (u64v [r00, r10, r20, r30]).toArray).heap[P15]? = some (.cells (u64v z4).toArray 77 (0, 0))) := (setRow_other _ _ _ _ (Ne.symm hne)).trans ((row_next z15 g2)).out
    have hB3 := below_setRow hHeld.2.2.2.2 lP14 (u64v [r00, r10, r20, r30]).toArray
    generalize W2.setRow P14 (u64v [r00, r10, r20, r30]).toArray = W3 at *
    refine hK.out _ _ (hold _ hB3) (fun hHeld => ?_)
    clear hK K
    try simp only [Act.put]
    refine wpAnyH_ready (rs := [17]) (by kernel_rfl) (by simp) ?_
    refine AllReadyH.cons (i := 17) (o := ⟨none, _, _, _, _, _⟩) rfl (fun K hK => ?_) AllReadyH.nil
    refine step_store_row rfl 77 (.tmp 11) (.tmp 84) rfl P15 (u64v [r31, r32, r33, o3]).toArray rfl rfl 77 _ y15.out (by kernel_rfl) (by kernel_rfl) (all_oneCell_toArray (u64v_one _)) ?_
    have x15 : Hid ((W3.setRow P15 (u64v [r31, r32, r33, o3]).toArray).heap[P15]? = some (.cells (u64v [r31, r32, r33, o3]).toArray 77 (0, 0))) := setRow_heap _ _ _ _ _ _ y15.out
    have x14 : Hid ((W3.setRow P15 (u64v [r31, r32, r33, o3]).toArray).heap[P14]? = some (.cells (u64v [r00, r10, r20, r30]).toArray 77 (0, 0))) := (setRow_other _ _ _ _ hne).trans y14.out
    have hB4 := below_setRow hHeld.2.2.2.2 lP15 (u64v [r31, r32, r33, o3]).toArray
    generalize W3.setRow P15 (u64v [r31, r32, r33, o3]).toArray = W4 at *
    refine hK.out _ _ (hold _ hB4) (fun hHeld => ?_)
    clear hK K
    try simp only [Act.put]
    refine wpAnyH_done (by kernel_rfl) ?_ _
    have hbW4 := below_next hbu3 hbu3.size hB4
    have hZ4 : Hid (W4.heap[w.heap.size + 2]? = some (.cells (u64v z4).toArray 77 (0, 0))) := (hB4.block _ (by omega)).trans hgZu3.out
    have hs4 : w.heap.size + 2 < W4.heap.size := (Array.getElem?_eq_some_iff.1 hZ4.out).1
    go_wp2_with (first
      | (with_reducible refine wpList_load_row rfl 77 (.tmp 11) rfl P15 rfl 77 (u64v [r31, r32, r33, o3]).toArray (0, 0) _ x15.out Tryd.underlying77 rfl (by kernel_rfl) ?_)
      | (with_reducible refine wpList_load_row rfl 77 (.tmp 10) rfl P14 rfl 77 (u64v [r00, r10, r20, r30]).toArray (0, 0) _ x14.out Tryd.underlying77 rfl (by kernel_rfl) ?_))
    refine (row_any W4 38 r31 r32 r33 o3 r00 r10 r20 r30 (by decide) l31 l32 l33 lo3 l00 l10 l20 l30).mono ?_
    rintro e W5 ⟨f0, f1, f2, f3, o4, rfl, e4, ⟨lf0, lf1, lf2, lf3⟩, lo4, hv4⟩
    have ho4 := times_over _ _ _ _ _ _ _ _ _ _ l31 l32 l33 lo3 l00 l10 l20 l30 e4.out
    have hbW5 := below_next hbW4 hbW4.size hv4
    have hZ5 : Hid (W5.heap[w.heap.size + 2]? = some (.cells (u64v z4).toArray 77 (0, 0))) := (hv4.block _ (by omega)).trans hZ4.out
    have hs5 : w.heap.size + 2 < W5.heap.size := (Array.getElem?_eq_some_iff.1 hZ5.out).1
    go_wp2_with fail
    refine (folded_any W5 f0 f1 f2 f3 o4 lf0 lf1 lf2 lf3 ho4).mono ?_
    rintro e W6 ⟨c0, c1, c2, c3, rfl, e5, lc, hv5⟩
    have HE := vlt (times_sum _ b0 b1 b2 b3 r00 r01 r02 r03 o0 r10 r11 r12 r13 o1 r20 r21 r22 r23 o2 r30 r31 r32 r33 o3 _ o4 _ e0.out e1.out e2.out e3.out e4.out e5.out)
    clear e0 e1 e2 e3 e4 e5
    have hbW6 := below_next hbW5 hbW5.size hv5
    have hZ6 : Hid (W6.heap[w.heap.size + 1 + 1]? = some (.cells (u64v z4).toArray 77 (0, 0))) := (hv5.block _ (by omega)).trans hZ5.out
    go_wp2_with (with_reducible refine wpList_store_row rfl 77 (.tmp 4) (.tmp 90) rfl (w.heap.size + 1 + 1) (u64v [c0, c1, c2, c3]).toArray rfl rfl 77 _ hZ6.out (by kernel_rfl) (by kernel_rfl) (all_oneCell_toArray (u64v_one _)) ?_)
    refine bodyPost_ret (v := .agg (u64v [c0, c1, c2, c3]).toArray) (results_cell_row Tryd.results50 _ _ (w.heap.size + 1 + 1) 77 _ (0, 0) _ rfl (setRow_heap _ _ _ _ _ _ hZ6.out) Tryd.underlying77 rfl (by kernel_rfl)) rfl ⟨c0, c1, c2, c3, rfl, HE, lc, below_setRow hbW6 (by omega) _⟩
end Go.Proofs.YtehkalbiomagjaaDoor
namespace Go.Proofs.YtehkalbiomagjaaDoor
open Go.RowKit

def topE (l : List Nat) : Nat → Nat
  | 0 => 0
  | j + 1 => topE l j * 18446744073709551616 + natAt l j
theorem topE_all (n0 n1 n2 n3 : Nat) : topE [n3, n2, n1, n0] 4 = n4 n0 n1 n2 n3 := by
  simp only [topE, natAt, n4, List.getD_cons_zero, List.getD_cons_succ]
  omega
/-- The exponent's first bits: d of a piece's bits are still to come. -/
def partE (T p d : Nat) : Nat := T * 2 ^ (64 - d) + p / 2 ^ d
theorem partE_start (T p : Nat) (hp : p < 18446744073709551616) : partE T p 64 = T := by
  rw [partE, Nat.sub_self, Nat.pow_zero, Nat.mul_one, Nat.div_eq_of_lt (by rw [show (2 : Nat) ^ 64 = 18446744073709551616 by decide]; exact hp), Nat.add_zero]
theorem partE_end (T p : Nat) : partE T p 0 = T * 18446744073709551616 + p := by
  rw [partE, Nat.pow_zero, Nat.div_one, show (2 : Nat) ^ (64 - 0) = 18446744073709551616 by decide]
theorem partE_next (T p i : Nat) (hi : i < 64) : partE T p i = partE T p (i + 1) + partE T p (i + 1) + p / 2 ^ i % 2 := by
  have h1 : (2 : Nat) ^ (64 - i) = 2 * 2 ^ (64 - (i + 1)) := by rw [show 64 - i = (64 - (i + 1)) + 1 by omega, Nat.pow_succ]; omega
  have h2 : p / 2 ^ (i + 1) = p / 2 ^ i / 2 := by rw [Nat.pow_succ, Nat.div_div_eq_div_mul]
  rw [partE, partE, h1, h2]
  generalize 2 ^ (64 - (i + 1)) = q
  generalize p / 2 ^ i = r
  have h3 : T * (2 * q) = T * q + T * q := by rw [Nat.mul_left_comm, Nat.two_mul]
  rw [h3]
  omega
theorem pow_sq {C D X e P : Nat} (h : D % P = (C * C) % P) (hc : C % P = X ^ e % P) : D % P = X ^ (e + e) % P := by
  rw [h, Nat.mul_mod, hc, ← Nat.mul_mod, ← Nat.pow_add]
theorem pow_one {C D X e P : Nat} (h : D % P = (C * X) % P) (hc : C % P = X ^ e % P) : D % P = X ^ (e + 1) % P := by
  rw [h, Nat.mul_mod, hc, ← Nat.mul_mod, ← Nat.pow_succ]
theorem long_agg {P : Program} {t e n : Nat} (hu : P.underlying t = some (.array n e)) (hs : (P.info? e).map (·.size) = some 1) (he : P.underlying e = some (.int .u64)) (l : List Nat) (hl : l.length = n) (j : Nat) (hj : j < n) (w : World) :
    (Instr.index t (.agg (u64v l).toArray) (.int .i64 (j : Int))).run P w = .ok (.int .u64 ((natAt l j : Nat) : Int)) w :=
  at_agg hu hs he (u64v l) j _ (j : Int) rfl hj (by rw [u64v_at, natAt, List.getD_eq_getElem?_getD, List.getElem?_eq_getElem (by omega)]; rfl) w
theorem low1 (a : Nat) (ha : a < 18446744073709551616) : bits .and .u64 (a : Int) 1 = ((a % 2 : Nat) : Int) := by
  have h := u64_and_nat a 1 ha (by decide)
  rw [show ((1 : Nat) : Int) = 1 from rfl] at h
  rw [h, show (1 : Nat) = 2 ^ 1 - 1 by decide, Nat.and_two_pow_sub_one_eq_mod, show (2 : Nat) ^ 1 = 2 by decide]
theorem Tryd.sizeU64 : (Tryd.prog.info? 45).map (·.size) = some 1 := by kernel_rfl

set_option maxRecDepth 100000 in
set_option maxHeartbeats 2000000 in
theorem power_any (w : World) (a0 a1 a2 a3 n0 n1 n2 n3 : Nat) (ha0 : a0 < B64) (ha1 : a1 < B64) (ha2 : a2 < B64) (ha3 : a3 < B64) (hn0 : n0 < B64) (hn1 : n1 < B64) (hn2 : n2 < B64) (hn3 : n3 < B64) :
    Calls Tryd.prog 53 #[.agg (u64v [a0, a1, a2, a3]).toArray, .agg (u64v [n0, n1, n2, n3]).toArray] w fun e w' => ∃ c0 c1 c2 c3 : Nat, e = .returned (.agg (u64v [c0, c1, c2, c3]).toArray) ∧
      Vlt (n4 c0 c1 c2 c3 % FP = n4 a0 a1 a2 a3 ^ n4 n0 n1 n2 n3 % FP) ∧ (c0 < B64 ∧ c1 < B64 ∧ c2 < B64 ∧ c3 < B64) ∧ Below w.heap.size w w' := by
  have hzn := zero_n4
  obtain ⟨W, hW, hgA, hgB, hgZ, hbW, hsW⟩ := three_new w (u64v [a0, a1, a2, a3]).toArray (u64v [n0, n1, n2, n3]).toArray (u64v z4).toArray 77 77 77
  have HW := Lib.hid hW
  have hs0 : w.heap.size + 2 < W.heap.size := by have := hsW.out; omega
  clear hW hsW
  go_enter Tryd.func53, Tryd.ntmps53
  go_upto_region 1 with fail
  rw [HW.out]
  go_upto_region 2 with ((with_reducible refine wpList_store_row rfl 77 (.tmp 5) (.tmp 9) rfl W.heap.size (u64v [1, 0, 0, 0]).toArray rfl rfl 77 _ (heap_alloc_new _ _) (by kernel_rfl) (by kernel_rfl) (all_oneCell_toArray (u64v_one _)) ?_); rw [World.setRow_alloc_new])
  obtain ⟨V, hV⟩ : ∃ V, V = W.alloc (.cells (u64v [1, 0, 0, 0]).toArray 77) := ⟨_, rfl⟩
  rw [← hV]
  have hA : Hid (V.heap[w.heap.size]? = some (.cells (u64v [a0, a1, a2, a3]).toArray 77 (0, 0))) := by rw [hV]; exact (Below.heap_alloc _ _ _ (by omega)).trans hgA.out
  have hB : Hid (V.heap[w.heap.size + 1]? = some (.cells (u64v [n0, n1, n2, n3]).toArray 77 (0, 0))) := by rw [hV]; exact (Below.heap_alloc _ _ _ (by omega)).trans hgB.out
  have hZ : Hid (V.heap[w.heap.size + 2]? = some (.cells (u64v z4).toArray 77 (0, 0))) := by rw [hV]; exact (Below.heap_alloc _ _ _ (by omega)).trans hgZ.out
  have hR : Hid (V.heap[W.heap.size]? = some (.cells (u64v [1, 0, 0, 0]).toArray 77 (0, 0))) := by rw [hV]; exact heap_alloc_new _ _
  have hbV : Below w.heap.size w V := by rw [hV]; exact hbW.alloc hbW.size _
  obtain ⟨R, hRe⟩ : ∃ R, R = W.heap.size := ⟨_, rfl⟩
  rw [← hRe] at hR hs0 ⊢
  clear hRe hV hgA hgB hgZ hbW
  have hsV : R < V.heap.size := (Array.getElem?_eq_some_iff.1 hR.out).1
  have cb0 : V.cell? ⟨w.heap.size + 1, 0, none⟩ = some (.int .u64 (n0 : Int)) := long_at hB.out 0 (by simp)
  have cb1 : V.cell? ⟨w.heap.size + 1, 1, none⟩ = some (.int .u64 (n1 : Int)) := long_at hB.out 1 (by simp)
  have cb2 : V.cell? ⟨w.heap.size + 1, 2, none⟩ = some (.int .u64 (n2 : Int)) := long_at hB.out 2 (by simp)
  have cb3 : V.cell? ⟨w.heap.size + 1, 3, none⟩ = some (.int .u64 (n3 : Int)) := long_at hB.out 3 (by simp)
  go_upto_region 3 with fail
  clear cb0 cb1 cb2 cb3 hB
  obtain ⟨PL, hPL⟩ : ∃ PL, PL = [n3, n2, n1, n0] := ⟨_, rfl⟩
  rw [show (#[Value.int .u64 (n3 : Int), Value.int .u64 (n2 : Int), Value.int .u64 (n1 : Int), Value.int .u64 (n0 : Int)] : Array Value) = (u64v PL).toArray by rw [hPL]; rfl]
  have HPL := Lib.hid (show PL.length = 4 by rw [hPL]; rfl)
  have HTE := vlt (show topE PL 4 = n4 n0 n1 n2 n3 by rw [hPL]; exact topE_all n0 n1 n2 n3)
  have HPB := Lib.hid (show ∀ j, natAt PL j < B64 from fun j => getD_lt (by rw [hPL]; intro x hx; simp only [List.mem_cons, List.not_mem_nil, or_false] at hx; rcases hx with rfl | rfl | rfl | rfl <;> assumption) (by decide) j)
  obtain ⟨X, hX⟩ : ∃ X, X = n4 a0 a1 a2 a3 := ⟨_, rfl⟩
  have HX := vlt hX
  clear hPL hX
  go_loopw [19] (fun s wr => ∃ j c0 c1 c2 c3 : Nat, j ≤ 4 ∧ s = .int .i64 (j : Int) ∧ Hid (wr.heap[R]? = some (.cells (u64v [c0, c1, c2, c3]).toArray 77 (0, 0))) ∧ (c0 < B64 ∧ c1 < B64 ∧ c2 < B64 ∧ c3 < B64) ∧ Vlt (n4 c0 c1 c2 c3 % FP = X ^ topE PL j % FP) ∧ But R V wr) (fun s _ => 4 - (intOf s).toNat)
  case atStart => exact ⟨0, 1, 0, 0, 0, by omega, rfl, hR, by decide, vlt (by rw [topE, Nat.pow_zero]; rfl), But.refl _ _⟩
  case round =>
    obtain ⟨j, d0, d1, d2, d3, hj, rfl, hRr, ld, hval, hbt⟩ := hrel
    by_cases hlt : j < 4
    · have hix := long_agg Tryd.underlying67 Tryd.sizeU64 Tryd.underlying45 PL HPL.out j hlt
      have HT1 := vlt (show topE PL (j + 1) = topE PL j * 18446744073709551616 + natAt PL j from rfl)
      obtain ⟨p, hp⟩ : ∃ p, p = natAt PL j := ⟨_, rfl⟩
      rw [← hp] at hix HT1
      have lp : p < B64 := by rw [hp]; exact HPB.out j
      obtain ⟨T, hT⟩ : ∃ T, T = topE PL j := ⟨_, rfl⟩
      rw [← hT] at hval HT1
      clear hp hT
      have hbj : decide ((j : Int) < 4) = true := by simp; omega
      go_upto_region 6 with fail
      obtain ⟨Y0, hY0⟩ : ∃ Y0, Y0 = wr := ⟨_, rfl⟩
      subst hY0
      clear hbj
      go_loopw [8] (fun s wi => ∃ d c0 c1 c2 c3 : Nat, d ≤ 64 ∧ s = .int .i64 ((d : Int) - 1) ∧ Hid (wi.heap[R]? = some (.cells (u64v [c0, c1, c2, c3]).toArray 77 (0, 0))) ∧ (c0 < B64 ∧ c1 < B64 ∧ c2 < B64 ∧ c3 < B64) ∧ Vlt (n4 c0 c1 c2 c3 % FP = X ^ partE T p d % FP) ∧ But R V wi) (fun s _ => (intOf s + 1).toNat)
      case atStart => exact ⟨64, d0, d1, d2, d3, by omega, rfl, hRr, ld, vlt (by rw [partE_start T p lp]; exact hval.out), hbt⟩
      case round =>
        obtain ⟨d, c0, c1, c2, c3, hd, rfl, hRi, ⟨lc0, lc1, lc2, lc3⟩, hvi, hbi⟩ := hrel
        by_cases hd0 : 0 < d
        · obtain ⟨i, rfl⟩ : ∃ i, d = i + 1 := ⟨d - 1, by omega⟩
          have ei : ((i + 1 : Nat) : Int) - 1 = (i : Int) := by omega
          rw [ei]
          clear ei
          have hsi : R < wr.heap.size := (Array.getElem?_eq_some_iff.1 hRi.out).1
          have hAi : Hid (wr.heap[w.heap.size]? = some (.cells (u64v [a0, a1, a2, a3]).toArray 77 (0, 0))) := (hbi.block _ (by omega) (by intro e; injection e; omega)).trans hA.out
          have hE1 := partE_next T p i (by omega)
          have hsh : (p : Int) / 2 ^ i = ((p / 2 ^ i : Nat) : Int) := by simp
          have lsh : p / 2 ^ i < 18446744073709551616 := Nat.lt_of_le_of_lt (Nat.div_le_self _ _) (by simp only [B64] at lp; exact lp)
          have hlow := low1 _ lsh
          rw [← hsh] at hlow
          clear hsh
          obtain ⟨bt, hbt1⟩ : ∃ bt, bt = p / 2 ^ i % 2 := ⟨_, rfl⟩
          rw [← hbt1] at hE1 hlow
          have hb2 : bt < 2 := by omega
          have HE1 := vlt hE1
          clear hE1 hbt1 lsh
          go_wp2_with (with_reducible refine wpList_load_row rfl 77 (.tmp 5) rfl R rfl 77 (u64v [c0, c1, c2, c3]).toArray (0, 0) _ hRi.out Tryd.underlying77 rfl (by kernel_rfl) ?_)
          refine (times_any _ c0 c1 c2 c3 c0 c1 c2 c3 lc0 lc1 lc2 lc3 lc0 lc1 lc2 lc3).mono ?_
          rintro e w3 ⟨q0, q1, q2, q3, rfl, e1, ⟨lq0, lq1, lq2, lq3⟩, hb3⟩
          have hv1 := vlt (pow_sq e1.out hvi.out)
          have hR3 : Hid (w3.heap[R]? = some (.cells (u64v [c0, c1, c2, c3]).toArray 77 (0, 0))) := (hb3.block _ (by omega)).trans hRi.out
          have hA3 : Hid (w3.heap[w.heap.size]? = some (.cells (u64v [a0, a1, a2, a3]).toArray 77 (0, 0))) := (hb3.block _ (by omega)).trans hAi.out
          have hbt3 := hbi.below_to hb3 (Nat.le_refl _)
          clear hRi hAi hbi e1 hvi
          go_upto_region 9 with (with_reducible refine wpList_store_row rfl 77 (.tmp 5) (.tmp 28) rfl R (u64v [q0, q1, q2, q3]).toArray rfl rfl 77 _ hR3.out (by kernel_rfl) (by kernel_rfl) (all_oneCell_toArray (u64v_one _)) ?_)
          obtain ⟨w4, hw4⟩ : ∃ w4, w4 = w3.setRow R (u64v [q0, q1, q2, q3]).toArray := ⟨_, rfl⟩
          rw [← hw4]
          have hR4 : Hid (w4.heap[R]? = some (.cells (u64v [q0, q1, q2, q3]).toArray 77 (0, 0))) := by rw [hw4]; exact setRow_heap _ _ _ _ _ _ hR3.out
          have hA4 : Hid (w4.heap[w.heap.size]? = some (.cells (u64v [a0, a1, a2, a3]).toArray 77 (0, 0))) := by rw [hw4]; exact (setRow_other _ _ _ _ (by omega)).trans hA3.out
          have hbt4 : But R V w4 := by rw [hw4]; exact hbt3.row _
          have hs4 : R < w4.heap.size := (Array.getElem?_eq_some_iff.1 hR4.out).1
          clear hw4 hR3 hA3 hbt3 hb3
          by_cases hone : bt = 1
          · subst hone
            go_wp2_with (first
              | (with_reducible refine wpList_load_row rfl 77 (.tmp 5) rfl R rfl 77 (u64v [q0, q1, q2, q3]).toArray (0, 0) _ hR4.out Tryd.underlying77 rfl (by kernel_rfl) ?_)
              | (with_reducible refine wpList_load_row rfl 77 (.tmp 2) rfl w.heap.size rfl 77 (u64v [a0, a1, a2, a3]).toArray (0, 0) _ hA4.out Tryd.underlying77 rfl (by kernel_rfl) ?_))
            refine (times_any w4 q0 q1 q2 q3 a0 a1 a2 a3 lq0 lq1 lq2 lq3 ha0 ha1 ha2 ha3).mono ?_
            rintro e w5 ⟨r0, r1, r2, r3, rfl, e2, ⟨lr0, lr1, lr2, lr3⟩, hb5⟩
            have hv2 := vlt (show n4 r0 r1 r2 r3 % FP = X ^ partE T p i % FP by have h2 := e2.out; rw [← HX.out] at h2; rw [HE1.out]; exact pow_one h2 hv1.out)
            have hR5 : Hid (w5.heap[R]? = some (.cells (u64v [q0, q1, q2, q3]).toArray 77 (0, 0))) := (hb5.block _ (by omega)).trans hR4.out
            have hbt5 := hbt4.below_to hb5 (Nat.le_refl _)
            go_upto_region 7 with (with_reducible refine wpList_store_row rfl 77 (.tmp 5) (.tmp 36) rfl R (u64v [r0, r1, r2, r3]).toArray rfl rfl 77 _ hR5.out (by kernel_rfl) (by kernel_rfl) (all_oneCell_toArray (u64v_one _)) ?_)
            have hR6 : Hid ((w5.setRow R (u64v [r0, r1, r2, r3]).toArray).heap[R]? = some (.cells (u64v [r0, r1, r2, r3]).toArray 77 (0, 0))) := setRow_heap _ _ _ _ _ _ hR5.out
            have hbt6 := hbt5.row (u64v [r0, r1, r2, r3]).toArray
            generalize w5.setRow R (u64v [r0, r1, r2, r3]).toArray = w6 at *
            go_wp2
            go_roundw
            case rel => exact ⟨i, r0, r1, r2, r3, by omega, rfl, hR6, ⟨lr0, lr1, lr2, lr3⟩, hv2, hbt6⟩
            case measure => simp [intOf]
          · obtain rfl : bt = 0 := by omega
            have hv2 := vlt (show n4 q0 q1 q2 q3 % FP = X ^ partE T p i % FP by rw [HE1.out, Nat.add_zero]; exact hv1.out)
            go_wp2
            go_roundw
            case rel => exact ⟨i, q0, q1, q2, q3, by omega, rfl, hR4, ⟨lq0, lq1, lq2, lq3⟩, hv2, hbt4⟩
            case measure => simp [intOf]
        · obtain rfl : d = 0 := by omega
          have hvE := vlt (show n4 c0 c1 c2 c3 % FP = X ^ topE PL (j + 1) % FP by rw [HT1.out, ← partE_end]; exact hvi.out)
          go_wp2
          go_roundw
          case rel => exact ⟨j + 1, c0, c1, c2, c3, by omega, by go_num, hRi, ⟨lc0, lc1, lc2, lc3⟩, hvE, hbi⟩
          case measure => simp [intOf]; omega
    · obtain rfl : j = 4 := by omega
      have hz : Hid (wr.heap[w.heap.size + 1 + 1]? = some (.cells (u64v z4).toArray 77 (0, 0))) := (hbt.block _ (by omega) (by intro e; injection e; omega)).trans hZ.out
      have hbw : Below w.heap.size w wr := But.below hbV hbt (by omega) (by omega)
      have HE := vlt (show n4 d0 d1 d2 d3 % FP = n4 a0 a1 a2 a3 ^ n4 n0 n1 n2 n3 % FP by rw [hval.out, HTE.out, HX.out])
      go_wp2_with (first
        | (with_reducible refine wpList_load_row rfl 77 (.tmp 5) rfl R rfl 77 (u64v [d0, d1, d2, d3]).toArray (0, 0) _ hRr.out Tryd.underlying77 rfl (by kernel_rfl) ?_)
        | (with_reducible refine wpList_store_row rfl 77 (.tmp 4) (.tmp 38) rfl (w.heap.size + 1 + 1) (u64v [d0, d1, d2, d3]).toArray rfl rfl 77 _ hz.out (by kernel_rfl) (by kernel_rfl) (all_oneCell_toArray (u64v_one _)) ?_))
      refine bodyPost_ret (v := .agg (u64v [d0, d1, d2, d3]).toArray) (results_cell_row Tryd.results53 _ _ (w.heap.size + 1 + 1) 77 _ (0, 0) _ rfl (setRow_heap _ _ _ _ _ _ hz.out) Tryd.underlying77 rfl (by kernel_rfl)) rfl ⟨d0, d1, d2, d3, rfl, HE, ld, below_setRow hbw (by omega) _⟩
end Go.Proofs.YtehkalbiomagjaaDoor
namespace Go.Proofs.YtehkalbiomagjaaDoor
open Go.RowKit

section
variable {P : Program} {t e n : Nat} (ht : P.underlying t = some (.array n e)) (he : P.underlying e = some (.int .u8)) (hs : (P.info? e).map (·.size) = some 1)
include ht he hs
theorem part_bytes (l : List UInt8) (k : Nat) (b : UInt8) (hb : l[k]? = some b) (w : World) : (part e (bv l).toArray (k * 1)).run P w = .ok (.int .u8 (b.toNat : Int)) w := by
  obtain ⟨i, hi', hi2⟩ := Option.map_eq_some_iff.1 hs
  have h1 : (bv l)[k]? = some (.int .u8 (b.toNat : Int)) := by rw [bv_at, hb]; rfl
  have _ := ht
  simp [part, isAgg, run_underlying he, h1]
theorem eq_bytes_same (l : List UInt8) (hl : l.length = n) (d : Nat) (w : World) : (Op.equalIn (d + 2) t (.agg (bv l).toArray) (.agg (bv l).toArray)).run P w = .ok true w := by
  obtain ⟨i, hi', hi2⟩ := Option.map_eq_some_iff.1 hs
  have hp := part_bytes ht he hs l
  have hfor : ∀ (is : List Nat), (∀ k ∈ is, k < l.length) → (forIn (m := Sem) is ((none : Option Bool), ()) fun i _ => do
      let a ← part e (bv l).toArray (i * 1)
      let b ← part e (bv l).toArray (i * 1)
      let r ← Op.equalIn (d + 1) e a b
      if (!r) = true then pure (ForInStep.done (some false, ())) else pure (ForInStep.yield (none, ()))).run P w = .ok (none, ()) w := by
    intro is
    induction is with
    | nil => intro _; simp
    | cons k ks ih =>
      intro hk
      have hk1 : k < l.length := hk k (by simp)
      have h1 := hp k l[k] (List.getElem?_eq_getElem hk1)
      have h2 := ih (fun j hj => hk j (by simp [hj]))
      rw [List.forIn_cons]
      simp only [Sem.run_bind, h1, Result.andThen_ok, run_equalIn_int w d e .u8 .u8 _ _ he]
      simpa using h2
  rw [Op.equalIn]
  have hsz : (sizeOf e).run P w = .ok 1 w := by simp [sizeOf, typeInfo, hi', hi2]
  simp only [Sem.run_bind, run_underlying ht, Result.andThen_ok, hsz]
  have hr := hfor (List.range' 0 n) (fun k hk => by rw [hl]; simpa using hk)
  simp only [Std.Legacy.Range.forIn_eq_forIn_range', Std.Legacy.Range.size, Nat.sub_zero, Nat.add_one_sub_one, Nat.div_one, hr]
  simp
theorem eql_bytes_same (l : List UInt8) (hl : l.length = n) (w : World) : (binOp .eql t (.agg (bv l).toArray) (.agg (bv l).toArray)).run P w = .ok (.bool true) w := by
  rw [run_eql_struct, eq_bytes_same ht he hs l hl 9998 w]
  rfl
end
/-- Operations with a guard that says yes: a whole row is read, an array is built, two arrays are held against each other. -/
theorem wpList_wanted {P : Program} {ops : Array Oper} {rest : List Oper} {o : Oper} {a : Act} {w : World} {Q : Exit → Act → World → Prop} (hw : Region.wanted o (yielded ops a.tmps) = true)
    (h : ∀ K : Act → World → Prop, (∀ a w, wpList P ops Q rest a w → K a w) → o.wp P a w K Q) : wpList P ops Q (o :: rest) a w :=
  wpList_step fun K hK => by rw [if_pos hw]; exact h K hK
theorem wpList_load_row_w {P : Program} {ops : Array Oper} {rest : List Oper} {o : Oper} {a : Act} {w : World} {Q : Exit → Act → World → Prop} (hw : Region.wanted o (yielded ops a.tmps) = true) (ty : TypeId) (x : Operand) (ho : o.op = .load ty x)
    (g : Nat) (hx : a.eval x = .pointer (some ⟨g, 0, none⟩)) (t : TypeId) (cs : Array Value) (fr : Nat × Nat) (d : TypeDesc) (hg : w.heap[g]? = some (.cells cs t fr))
    (hu : P.underlying ty = some d) (hd : (match d with | .struct _ | .array _ _ => true | _ => false) = true) (hi : (P.info? ty).map (·.size) = some cs.size)
    (h : wpList P ops Q rest (a.put o.dst (.agg cs)) w) : wpList P ops Q (o :: rest) a w :=
  wpList_wanted hw fun _ hK => wp_load_row ty x ho g hx t cs fr d hg hu hd hi (hK _ _ h)
theorem wpList_build_w {P : Program} {ops : Array Oper} {rest : List Oper} {o : Oper} {a : Act} {w : World} {Q : Exit → Act → World → Prop} (hw : Region.wanted o (yielded ops a.tmps) = true) (t : TypeId) (parts : Array (Nat × Operand)) (ho : o.op = .build t parts) (lst : List (Nat × Value)) (hp : (parts.map fun (i, x) => (i, a.eval x)).toList = lst) (cs : Array Value) (hf : P.built t lst = some cs)
    (h : wpList P ops Q rest (a.put o.dst (.agg cs)) w) : wpList P ops Q (o :: rest) a w :=
  wpList_wanted hw fun _ hK => wp_build t parts ho (by rw [hp, hf]; rfl) (by rw [hp, hf]; exact hK _ _ h)
theorem wpList_eql_w {P : Program} {ops : Array Oper} {rest : List Oper} {o : Oper} {a : Act} {w : World} {Q : Exit → Act → World → Prop} (hw : Region.wanted o (yielded ops a.tmps) = true) (t s : TypeId) (x y : Operand) (ho : o.op = .binOp .eql t x y s)
    (hm : P.eqGuardType P.depth t = false) (xs ys : Array Value) (hx : a.eval x = .agg xs) (hy : a.eval y = .agg ys) (b : Bool) (hr : (binOp .eql t (.agg xs) (.agg ys)).run P w = .ok (.bool b) w) (h : wpList P ops Q rest (a.put o.dst (.bool b)) w) : wpList P ops Q (o :: rest) a w :=
  wpList_wanted hw fun K hK => by
    have hg := run_eqGuard_agg (P := P) (w := w) .eql t x y xs ys hm
    unfold Oper.wp
    simp only [execOp, ho, hx, hy, Sem.run_bind, hg, hr, Result.andThen_ok]
    exact hK _ _ h
end Go.Proofs.YtehkalbiomagjaaDoor
namespace Go.Proofs.YtehkalbiomagjaaDoor
open Go.RowKit

theorem range_row {w : World} {g : Nat} {l : List Value} {t : TypeId} (hg : w.heap[g]? = some (.cells l.toArray t (0, 0))) : w.rangeAt g 0 l := by
  intro j v hj
  rw [Nat.zero_add, cell_of_row _ _ _ _ _ _ hg]
  simpa using hj
theorem bv_size (l : List UInt8) (h : l.length = 32) : (bv l).toArray.size = 32 := by simp [bv_len, h]
/-- An array built out of known parts, in a region that draws its order. -/
theorem yields_build {P : Program} {ops : Array Oper} {S : World → Prop} {op : Oper} {a : Act} (hw : Region.wanted op (yielded ops a.tmps) = true) (ty : TypeId) (parts : Array (Nat × Operand)) (ho : op.op = .build ty parts)
    (lst : List (Nat × Value)) (hp : (parts.toList.map fun (i, x) => (i, a.eval x)) = lst) (cs : Array Value) (hf : P.built ty lst = some cs) : YieldsIf P ops S op (.agg cs) a :=
  .inl ⟨hw, fun w _ => by
    have h := run_build (P := P) w ty (parts.map fun (i, x) => (i, a.eval x)) cs (by rw [Array.toList_map, hp]; exact hf)
    unfold execOp
    simp [ho, h, Result.andThen]⟩
end Go.Proofs.YtehkalbiomagjaaDoor
namespace Go.Proofs.YtehkalbiomagjaaDoor
open Go.RowKit

set_option maxRecDepth 100000 in
set_option maxHeartbeats 1000000 in
theorem norm_any (w : World) (a : List UInt8) (ha : a.length = 32) :
    Calls Tryd.prog 84 #[.agg (bv a).toArray] w fun e w' => ∃ l, e = .returned (.agg (bv l).toArray) ∧ Vlt (l = wo (ln a)) ∧ Hid (l.length = 32) ∧ Below w.heap.size w w' := by
  have hzw := zero_word
  obtain ⟨W, hW, hgA, hgZ, hbW, hsW⟩ := pair_new w (bv a).toArray (bv z32).toArray 23 23
  have HW := Lib.hid hW
  have HA := Lib.hid ha
  have HS := Lib.hid (bv_size a ha)
  have hs : w.heap.size + 1 < W.heap.size := by have := hsW.out; omega
  clear hW ha hsW
  go_enter Tryd.func84, Tryd.ntmps84
  go_upto_region 1 with fail
  rw [HW.out]
  go_wp2_with (with_reducible refine wpList_load_row rfl 23 (.tmp 1) rfl w.heap.size rfl 23 (bv a).toArray (0, 0) _ hgA.out Tryd.underlying23 rfl (by rw [HS.out]; kernel_rfl) ?_)
  refine (numberOf_any W a HA.out).mono ?_
  rintro e w1 ⟨a0, a1, a2, a3, rfl, e1, ⟨la0, la1, la2, la3⟩, hb1⟩
  have hbw1 := below_next hbW hbW.size hb1
  have hz1 : Hid (w1.heap[w.heap.size + 1]? = some (.cells (bv z32).toArray 23 (0, 0))) := (hb1.block _ (by omega)).trans hgZ.out
  have hs1 : w.heap.size + 1 < w1.heap.size := (Array.getElem?_eq_some_iff.1 hz1.out).1
  go_wp2_with fail
  refine (told_any w1 a0 a1 a2 a3 la0 la1 la2 la3).mono ?_
  rintro e w2 ⟨l, rfl, e2, HL, hb2⟩
  have HE := vlt (show l = wo (ln a) by rw [e2.out, e1.out, wo])
  clear e1 e2
  have hbw2 := below_next hbw1 hbw1.size hb2
  have hz2 : Hid (w2.heap[w.heap.size + 1]? = some (.cells (bv z32).toArray 23 (0, 0))) := (hb2.block _ (by omega)).trans hz1.out
  have HLS := Lib.hid (bv_size l HL.out)
  go_wp2_with (with_reducible refine wpList_store_row rfl 23 (.tmp 2) (.tmp 5) rfl (w.heap.size + 1) (bv l).toArray rfl rfl 23 _ hz2.out (by rw [HLS.out]; kernel_rfl) (by rw [HLS.out]; kernel_rfl) (all_oneCell_toArray (bv_one _)) ?_)
  refine bodyPost_ret (v := .agg (bv l).toArray) (results_cell_row Tryd.results84 _ _ (w.heap.size + 1) 23 _ (0, 0) _ rfl (setRow_heap _ _ _ _ _ _ hz2.out) Tryd.underlying23 rfl (by rw [HLS.out]; kernel_rfl)) rfl ⟨l, rfl, HE, HL, below_setRow hbw2 (by omega) _⟩

set_option maxRecDepth 100000 in
set_option maxHeartbeats 1000000 in
theorem add_any (w : World) (a b : List UInt8) (ha : a.length = 32) (hb : b.length = 32) :
    Calls Tryd.prog 28 #[.agg (bv a).toArray, .agg (bv b).toArray] w fun e w' => ∃ l, e = .returned (.agg (bv l).toArray) ∧ Vlt (l = wo (ln a + ln b)) ∧ Hid (l.length = 32) ∧ Below w.heap.size w w' := by
  have hzw := zero_word
  obtain ⟨W, hW, hgA, hgB, hgZ, hbW, hsW⟩ := three_new w (bv a).toArray (bv b).toArray (bv z32).toArray 23 23 23
  have HW := Lib.hid hW
  have HA := Lib.hid ha
  have HB := Lib.hid hb
  have HAS := Lib.hid (show (bv a).length = 32 by rw [bv_len, ha])
  have HBS := Lib.hid (show (bv b).length = 32 by rw [bv_len, hb])
  have hs : w.heap.size + 2 < W.heap.size := by have := hsW.out; omega
  clear hW ha hb hsW
  go_enter Tryd.func28, Tryd.ntmps28
  go_upto_region 1 with fail
  rw [HW.out]
  refine wp_region_held_drew (S := (fun W' => W'.heap[w.heap.size]? = some (.cells (bv a).toArray 23 (0, 0)) ∧ W'.heap[w.heap.size + 1]? = some (.cells (bv b).toArray 23 (0, 0)))) (by kernel_rfl) (⟨hgA.out, hgB.out⟩) (fun hHeld => ?_)
  refine wpAnyH_take (i := 0) (oi := ⟨(some 5), _, _, _, _, _⟩) (v := _) rfl (by kernel_rfl) (by kernel_rfl) (by kernel_rfl) (fun _ _ _ h => h) (yieldsIf_load_mid (by rfl) _ _ rfl w.heap.size 0 rfl (bv a) _ (fun W' hW' => range_row hW'.1) (Tryd.underlying23) (rfl) (by rw [HAS.out]; kernel_rfl)) hHeld ?_
  try simp only [Act.put, List.setIfInBounds_toArray, List.set_cons_zero, List.set_cons_succ]
  refine wpAnyH_take (i := 2) (oi := ⟨(some 7), _, _, _, _, _⟩) (v := _) rfl (by kernel_rfl) (by kernel_rfl) (by kernel_rfl) (fun _ _ _ h => h) (yieldsIf_load_mid (by rfl) _ _ rfl (w.heap.size + 1) 0 rfl (bv b) _ (fun W' hW' => range_row hW'.2) (Tryd.underlying23) (rfl) (by rw [HBS.out]; kernel_rfl)) hHeld ?_
  try simp only [Act.put, List.setIfInBounds_toArray, List.set_cons_zero, List.set_cons_succ]
  refine wpAnyH_ready (rs := [1]) (by kernel_rfl) (by simp) ?_
  refine AllReadyH.cons (i := 1) (o := ⟨(some 6), _, _, _, _, _⟩) rfl (fun K hK => ?_) AllReadyH.nil
  go_simp
  refine (numberOf_any _ a HA.out).mono ?_
  rintro e w1 ⟨a0, a1, a2, a3, rfl, e1, ⟨la0, la1, la2, la3⟩, hb1d⟩
  have hb1 : Below W.heap.size W w1 := below_undrew hb1d
  refine hK.out _ _ (⟨(hb1.block _ (by omega)).trans hHeld.1, (hb1.block _ (by omega)).trans hHeld.2⟩) (fun hHeld => ?_)
  clear hK K
  try simp only [Act.put, List.setIfInBounds_toArray, List.set_cons_zero, List.set_cons_succ]
  have hbw1 := below_next hbW hbW.size hb1
  have hz1 : Hid (w1.heap[w.heap.size + 2]? = some (.cells (bv z32).toArray 23 (0, 0))) := (hb1.block _ (by omega)).trans hgZ.out
  have hs1 : w.heap.size + 2 < w1.heap.size := (Array.getElem?_eq_some_iff.1 hz1.out).1
  refine wpAnyH_ready (rs := [3]) (by kernel_rfl) (by simp) ?_
  refine AllReadyH.cons (i := 3) (o := ⟨(some 8), _, _, _, _, _⟩) rfl (fun K hK => ?_) AllReadyH.nil
  go_simp
  refine (numberOf_any w1 b HB.out).mono ?_
  rintro e w2 ⟨b0, b1, b2, b3, rfl, e2, ⟨lb0, lb1, lb2, lb3⟩, hb2⟩
  refine hK.out _ _ (⟨(hb2.block _ (by omega)).trans hHeld.1, (hb2.block _ (by omega)).trans hHeld.2⟩) (fun hHeld => ?_)
  clear hK K
  try simp only [Act.put, List.setIfInBounds_toArray, List.set_cons_zero, List.set_cons_succ]
  have hbw2 := below_next hbw1 hbw1.size hb2
  have hz2 : Hid (w2.heap[w.heap.size + 2]? = some (.cells (bv z32).toArray 23 (0, 0))) := (hb2.block _ (by omega)).trans hz1.out
  have hs2 : w.heap.size + 2 < w2.heap.size := (Array.getElem?_eq_some_iff.1 hz2.out).1
  refine wpAnyH_ready (rs := [4]) (by kernel_rfl) (by simp) ?_
  refine AllReadyH.cons (i := 4) (o := ⟨(some 9), _, _, _, _, _⟩) rfl (fun K hK => ?_) AllReadyH.nil
  go_simp
  refine (plus_any w2 a0 a1 a2 a3 b0 b1 b2 b3 la0 la1 la2 la3 lb0 lb1 lb2 lb3).mono ?_
  rintro e w3 ⟨c0, c1, c2, c3, rfl, e3, ⟨lc0, lc1, lc2, lc3⟩, hb3⟩
  refine hK.out _ _ (⟨(hb3.block _ (by omega)).trans hHeld.1, (hb3.block _ (by omega)).trans hHeld.2⟩) (fun hHeld => ?_)
  clear hK K
  try simp only [Act.put, List.setIfInBounds_toArray, List.set_cons_zero, List.set_cons_succ]
  have hbw3 := below_next hbw2 hbw2.size hb3
  have hz3 : Hid (w3.heap[w.heap.size + 2]? = some (.cells (bv z32).toArray 23 (0, 0))) := (hb3.block _ (by omega)).trans hz2.out
  have hs3 : w.heap.size + 2 < w3.heap.size := (Array.getElem?_eq_some_iff.1 hz3.out).1
  refine wpAnyH_ready (rs := [5]) (by kernel_rfl) (by simp) ?_
  refine AllReadyH.cons (i := 5) (o := ⟨(some 10), _, _, _, _, _⟩) rfl (fun K hK => ?_) AllReadyH.nil
  go_simp
  refine (told_any w3 c0 c1 c2 c3 lc0 lc1 lc2 lc3).mono ?_
  rintro e w4 ⟨l, rfl, e4, HL, hb4⟩
  refine hK.out _ _ (⟨(hb4.block _ (by omega)).trans hHeld.1, (hb4.block _ (by omega)).trans hHeld.2⟩) (fun hHeld => ?_)
  clear hK K
  try simp only [Act.put, List.setIfInBounds_toArray, List.set_cons_zero, List.set_cons_succ]
  have hbw4 := below_next hbw3 hbw3.size hb4
  have hz4 : Hid (w4.heap[w.heap.size + 1 + 1]? = some (.cells (bv z32).toArray 23 (0, 0))) := (hb4.block _ (by omega)).trans hz3.out
  have HE := vlt (show l = wo (ln a + ln b) by rw [e4.out, wo, e3.out, e1.out, e2.out])
  clear e1 e2 e3 e4
  have HLS := Lib.hid (bv_size l HL.out)
  refine wpAnyH_ready (rs := [6]) (by kernel_rfl) (by simp) ?_
  refine AllReadyH.cons (i := 6) (o := ⟨none, _, _, _, _, _⟩) rfl (fun K hK => ?_) AllReadyH.nil
  refine step_store_row rfl 23 (.tmp 4) (.tmp 10) rfl (w.heap.size + 1 + 1) (bv l).toArray rfl rfl 23 _ hz4.out (by rw [HLS.out]; kernel_rfl) (by rw [HLS.out]; kernel_rfl) (all_oneCell_toArray (bv_one _)) ?_
  refine hK.out _ _ (⟨(setRow_other _ _ _ _ (by omega)).trans hHeld.1, (setRow_other _ _ _ _ (by omega)).trans hHeld.2⟩) (fun hHeld => ?_)
  clear hK K
  try simp only [Act.put]
  refine wpAnyH_done (by kernel_rfl) ?_ _
  go_wp2_with fail
  refine bodyPost_ret (v := .agg (bv l).toArray) (results_cell_row Tryd.results28 _ _ (w.heap.size + 1 + 1) 23 _ (0, 0) _ rfl (setRow_heap _ _ _ _ _ _ hz4.out) Tryd.underlying23 rfl (by rw [HLS.out]; kernel_rfl)) rfl ⟨l, rfl, HE, HL, below_setRow hbw4 (by omega) _⟩

set_option maxRecDepth 100000 in
set_option maxHeartbeats 1000000 in
theorem mul_any (w : World) (a b : List UInt8) (ha : a.length = 32) (hb : b.length = 32) :
    Calls Tryd.prog 24 #[.agg (bv a).toArray, .agg (bv b).toArray] w fun e w' => ∃ l, e = .returned (.agg (bv l).toArray) ∧ Vlt (l = wo (ln a * ln b)) ∧ Hid (l.length = 32) ∧ Below w.heap.size w w' := by
  have hzw := zero_word
  obtain ⟨W, hW, hgA, hgB, hgZ, hbW, hsW⟩ := three_new w (bv a).toArray (bv b).toArray (bv z32).toArray 23 23 23
  have HW := Lib.hid hW
  have HA := Lib.hid ha
  have HB := Lib.hid hb
  have HAS := Lib.hid (show (bv a).length = 32 by rw [bv_len, ha])
  have HBS := Lib.hid (show (bv b).length = 32 by rw [bv_len, hb])
  have hs : w.heap.size + 2 < W.heap.size := by have := hsW.out; omega
  clear hW ha hb hsW
  go_enter Tryd.func24, Tryd.ntmps24
  go_upto_region 1 with fail
  rw [HW.out]
  refine wp_region_held_drew (S := (fun W' => W'.heap[w.heap.size]? = some (.cells (bv a).toArray 23 (0, 0)) ∧ W'.heap[w.heap.size + 1]? = some (.cells (bv b).toArray 23 (0, 0)))) (by kernel_rfl) (⟨hgA.out, hgB.out⟩) (fun hHeld => ?_)
  refine wpAnyH_take (i := 0) (oi := ⟨(some 5), _, _, _, _, _⟩) (v := _) rfl (by kernel_rfl) (by kernel_rfl) (by kernel_rfl) (fun _ _ _ h => h) (yieldsIf_load_mid (by rfl) _ _ rfl w.heap.size 0 rfl (bv a) _ (fun W' hW' => range_row hW'.1) (Tryd.underlying23) (rfl) (by rw [HAS.out]; kernel_rfl)) hHeld ?_
  try simp only [Act.put, List.setIfInBounds_toArray, List.set_cons_zero, List.set_cons_succ]
  refine wpAnyH_take (i := 2) (oi := ⟨(some 7), _, _, _, _, _⟩) (v := _) rfl (by kernel_rfl) (by kernel_rfl) (by kernel_rfl) (fun _ _ _ h => h) (yieldsIf_load_mid (by rfl) _ _ rfl (w.heap.size + 1) 0 rfl (bv b) _ (fun W' hW' => range_row hW'.2) (Tryd.underlying23) (rfl) (by rw [HBS.out]; kernel_rfl)) hHeld ?_
  try simp only [Act.put, List.setIfInBounds_toArray, List.set_cons_zero, List.set_cons_succ]
  refine wpAnyH_ready (rs := [1]) (by kernel_rfl) (by simp) ?_
  refine AllReadyH.cons (i := 1) (o := ⟨(some 6), _, _, _, _, _⟩) rfl (fun K hK => ?_) AllReadyH.nil
  go_simp
  refine (numberOf_any _ a HA.out).mono ?_
  rintro e w1 ⟨a0, a1, a2, a3, rfl, e1, ⟨la0, la1, la2, la3⟩, hb1d⟩
  have hb1 : Below W.heap.size W w1 := below_undrew hb1d
  refine hK.out _ _ (⟨(hb1.block _ (by omega)).trans hHeld.1, (hb1.block _ (by omega)).trans hHeld.2⟩) (fun hHeld => ?_)
  clear hK K
  try simp only [Act.put, List.setIfInBounds_toArray, List.set_cons_zero, List.set_cons_succ]
  have hbw1 := below_next hbW hbW.size hb1
  have hz1 : Hid (w1.heap[w.heap.size + 2]? = some (.cells (bv z32).toArray 23 (0, 0))) := (hb1.block _ (by omega)).trans hgZ.out
  have hs1 : w.heap.size + 2 < w1.heap.size := (Array.getElem?_eq_some_iff.1 hz1.out).1
  refine wpAnyH_ready (rs := [3]) (by kernel_rfl) (by simp) ?_
  refine AllReadyH.cons (i := 3) (o := ⟨(some 8), _, _, _, _, _⟩) rfl (fun K hK => ?_) AllReadyH.nil
  go_simp
  refine (numberOf_any w1 b HB.out).mono ?_
  rintro e w2 ⟨b0, b1, b2, b3, rfl, e2, ⟨lb0, lb1, lb2, lb3⟩, hb2⟩
  refine hK.out _ _ (⟨(hb2.block _ (by omega)).trans hHeld.1, (hb2.block _ (by omega)).trans hHeld.2⟩) (fun hHeld => ?_)
  clear hK K
  try simp only [Act.put, List.setIfInBounds_toArray, List.set_cons_zero, List.set_cons_succ]
  have hbw2 := below_next hbw1 hbw1.size hb2
  have hz2 : Hid (w2.heap[w.heap.size + 2]? = some (.cells (bv z32).toArray 23 (0, 0))) := (hb2.block _ (by omega)).trans hz1.out
  have hs2 : w.heap.size + 2 < w2.heap.size := (Array.getElem?_eq_some_iff.1 hz2.out).1
  refine wpAnyH_ready (rs := [4]) (by kernel_rfl) (by simp) ?_
  refine AllReadyH.cons (i := 4) (o := ⟨(some 9), _, _, _, _, _⟩) rfl (fun K hK => ?_) AllReadyH.nil
  go_simp
  refine (times_any w2 a0 a1 a2 a3 b0 b1 b2 b3 la0 la1 la2 la3 lb0 lb1 lb2 lb3).mono ?_
  rintro e w3 ⟨c0, c1, c2, c3, rfl, e3, ⟨lc0, lc1, lc2, lc3⟩, hb3⟩
  refine hK.out _ _ (⟨(hb3.block _ (by omega)).trans hHeld.1, (hb3.block _ (by omega)).trans hHeld.2⟩) (fun hHeld => ?_)
  clear hK K
  try simp only [Act.put, List.setIfInBounds_toArray, List.set_cons_zero, List.set_cons_succ]
  have hbw3 := below_next hbw2 hbw2.size hb3
  have hz3 : Hid (w3.heap[w.heap.size + 2]? = some (.cells (bv z32).toArray 23 (0, 0))) := (hb3.block _ (by omega)).trans hz2.out
  have hs3 : w.heap.size + 2 < w3.heap.size := (Array.getElem?_eq_some_iff.1 hz3.out).1
  refine wpAnyH_ready (rs := [5]) (by kernel_rfl) (by simp) ?_
  refine AllReadyH.cons (i := 5) (o := ⟨(some 10), _, _, _, _, _⟩) rfl (fun K hK => ?_) AllReadyH.nil
  go_simp
  refine (told_any w3 c0 c1 c2 c3 lc0 lc1 lc2 lc3).mono ?_
  rintro e w4 ⟨l, rfl, e4, HL, hb4⟩
  refine hK.out _ _ (⟨(hb4.block _ (by omega)).trans hHeld.1, (hb4.block _ (by omega)).trans hHeld.2⟩) (fun hHeld => ?_)
  clear hK K
  try simp only [Act.put, List.setIfInBounds_toArray, List.set_cons_zero, List.set_cons_succ]
  have hbw4 := below_next hbw3 hbw3.size hb4
  have hz4 : Hid (w4.heap[w.heap.size + 1 + 1]? = some (.cells (bv z32).toArray 23 (0, 0))) := (hb4.block _ (by omega)).trans hz3.out
  have HE := vlt (show l = wo (ln a * ln b) by rw [e4.out, wo, e3.out, e1.out, e2.out])
  clear e1 e2 e3 e4
  have HLS := Lib.hid (bv_size l HL.out)
  refine wpAnyH_ready (rs := [6]) (by kernel_rfl) (by simp) ?_
  refine AllReadyH.cons (i := 6) (o := ⟨none, _, _, _, _, _⟩) rfl (fun K hK => ?_) AllReadyH.nil
  refine step_store_row rfl 23 (.tmp 4) (.tmp 10) rfl (w.heap.size + 1 + 1) (bv l).toArray rfl rfl 23 _ hz4.out (by rw [HLS.out]; kernel_rfl) (by rw [HLS.out]; kernel_rfl) (all_oneCell_toArray (bv_one _)) ?_
  refine hK.out _ _ (⟨(setRow_other _ _ _ _ (by omega)).trans hHeld.1, (setRow_other _ _ _ _ (by omega)).trans hHeld.2⟩) (fun hHeld => ?_)
  clear hK K
  try simp only [Act.put]
  refine wpAnyH_done (by kernel_rfl) ?_ _
  go_wp2_with fail
  refine bodyPost_ret (v := .agg (bv l).toArray) (results_cell_row Tryd.results24 _ _ (w.heap.size + 1 + 1) 23 _ (0, 0) _ rfl (setRow_heap _ _ _ _ _ _ hz4.out) Tryd.underlying23 rfl (by rw [HLS.out]; kernel_rfl)) rfl ⟨l, rfl, HE, HL, below_setRow hbw4 (by omega) _⟩

set_option maxRecDepth 100000 in
set_option maxHeartbeats 1000000 in
theorem sub_any (w : World) (a b : List UInt8) (ha : a.length = 32) (hb : b.length = 32) :
    Calls Tryd.prog 27 #[.agg (bv a).toArray, .agg (bv b).toArray] w fun e w' => ∃ l, e = .returned (.agg (bv l).toArray) ∧ Vlt (l = wo (subF (ln a) (ln b))) ∧ Hid (l.length = 32) ∧ Below w.heap.size w w' := by
  have hzw := zero_word
  obtain ⟨W, hW, hgA, hgB, hgZ, hbW, hsW⟩ := three_new w (bv a).toArray (bv b).toArray (bv z32).toArray 23 23 23
  have HW := Lib.hid hW
  have HA := Lib.hid ha
  have HB := Lib.hid hb
  have HAS := Lib.hid (show (bv a).length = 32 by rw [bv_len, ha])
  have HBS := Lib.hid (show (bv b).length = 32 by rw [bv_len, hb])
  have hs : w.heap.size + 2 < W.heap.size := by have := hsW.out; omega
  clear hW ha hb hsW
  go_enter Tryd.func27, Tryd.ntmps27
  go_upto_region 1 with fail
  rw [HW.out]
  refine wp_region_held_drew (S := (fun W' => W'.heap[w.heap.size]? = some (.cells (bv a).toArray 23 (0, 0)) ∧ W'.heap[w.heap.size + 1]? = some (.cells (bv b).toArray 23 (0, 0)))) (by kernel_rfl) (⟨hgA.out, hgB.out⟩) (fun hHeld => ?_)
  refine wpAnyH_take (i := 0) (oi := ⟨(some 5), _, _, _, _, _⟩) (v := _) rfl (by kernel_rfl) (by kernel_rfl) (by kernel_rfl) (fun _ _ _ h => h) (yieldsIf_load_mid (by rfl) _ _ rfl w.heap.size 0 rfl (bv a) _ (fun W' hW' => range_row hW'.1) (Tryd.underlying23) (rfl) (by rw [HAS.out]; kernel_rfl)) hHeld ?_
  try simp only [Act.put, List.setIfInBounds_toArray, List.set_cons_zero, List.set_cons_succ]
  refine wpAnyH_take (i := 2) (oi := ⟨(some 7), _, _, _, _, _⟩) (v := _) rfl (by kernel_rfl) (by kernel_rfl) (by kernel_rfl) (fun _ _ _ h => h) (yieldsIf_load_mid (by rfl) _ _ rfl (w.heap.size + 1) 0 rfl (bv b) _ (fun W' hW' => range_row hW'.2) (Tryd.underlying23) (rfl) (by rw [HBS.out]; kernel_rfl)) hHeld ?_
  try simp only [Act.put, List.setIfInBounds_toArray, List.set_cons_zero, List.set_cons_succ]
  refine wpAnyH_ready (rs := [1]) (by kernel_rfl) (by simp) ?_
  refine AllReadyH.cons (i := 1) (o := ⟨(some 6), _, _, _, _, _⟩) rfl (fun K hK => ?_) AllReadyH.nil
  go_simp
  refine (numberOf_any _ a HA.out).mono ?_
  rintro e w1 ⟨a0, a1, a2, a3, rfl, e1, ⟨la0, la1, la2, la3⟩, hb1d⟩
  have hb1 : Below W.heap.size W w1 := below_undrew hb1d
  refine hK.out _ _ (⟨(hb1.block _ (by omega)).trans hHeld.1, (hb1.block _ (by omega)).trans hHeld.2⟩) (fun hHeld => ?_)
  clear hK K
  try simp only [Act.put, List.setIfInBounds_toArray, List.set_cons_zero, List.set_cons_succ]
  have hbw1 := below_next hbW hbW.size hb1
  have hz1 : Hid (w1.heap[w.heap.size + 2]? = some (.cells (bv z32).toArray 23 (0, 0))) := (hb1.block _ (by omega)).trans hgZ.out
  have hs1 : w.heap.size + 2 < w1.heap.size := (Array.getElem?_eq_some_iff.1 hz1.out).1
  refine wpAnyH_ready (rs := [3]) (by kernel_rfl) (by simp) ?_
  refine AllReadyH.cons (i := 3) (o := ⟨(some 8), _, _, _, _, _⟩) rfl (fun K hK => ?_) AllReadyH.nil
  go_simp
  refine (numberOf_any w1 b HB.out).mono ?_
  rintro e w2 ⟨b0, b1, b2, b3, rfl, e2, ⟨lb0, lb1, lb2, lb3⟩, hb2⟩
  refine hK.out _ _ (⟨(hb2.block _ (by omega)).trans hHeld.1, (hb2.block _ (by omega)).trans hHeld.2⟩) (fun hHeld => ?_)
  clear hK K
  try simp only [Act.put, List.setIfInBounds_toArray, List.set_cons_zero, List.set_cons_succ]
  have hbw2 := below_next hbw1 hbw1.size hb2
  have hz2 : Hid (w2.heap[w.heap.size + 2]? = some (.cells (bv z32).toArray 23 (0, 0))) := (hb2.block _ (by omega)).trans hz1.out
  have hs2 : w.heap.size + 2 < w2.heap.size := (Array.getElem?_eq_some_iff.1 hz2.out).1
  refine wpAnyH_ready (rs := [4]) (by kernel_rfl) (by simp) ?_
  refine AllReadyH.cons (i := 4) (o := ⟨(some 9), _, _, _, _, _⟩) rfl (fun K hK => ?_) AllReadyH.nil
  go_simp
  refine (minus_any w2 a0 a1 a2 a3 b0 b1 b2 b3 la0 la1 la2 la3 lb0 lb1 lb2 lb3).mono ?_
  rintro e w3 ⟨c0, c1, c2, c3, rfl, e3, ⟨lc0, lc1, lc2, lc3⟩, hb3⟩
  refine hK.out _ _ (⟨(hb3.block _ (by omega)).trans hHeld.1, (hb3.block _ (by omega)).trans hHeld.2⟩) (fun hHeld => ?_)
  clear hK K
  try simp only [Act.put, List.setIfInBounds_toArray, List.set_cons_zero, List.set_cons_succ]
  have hbw3 := below_next hbw2 hbw2.size hb3
  have hz3 : Hid (w3.heap[w.heap.size + 2]? = some (.cells (bv z32).toArray 23 (0, 0))) := (hb3.block _ (by omega)).trans hz2.out
  have hs3 : w.heap.size + 2 < w3.heap.size := (Array.getElem?_eq_some_iff.1 hz3.out).1
  refine wpAnyH_ready (rs := [5]) (by kernel_rfl) (by simp) ?_
  refine AllReadyH.cons (i := 5) (o := ⟨(some 10), _, _, _, _, _⟩) rfl (fun K hK => ?_) AllReadyH.nil
  go_simp
  refine (told_any w3 c0 c1 c2 c3 lc0 lc1 lc2 lc3).mono ?_
  rintro e w4 ⟨l, rfl, e4, HL, hb4⟩
  refine hK.out _ _ (⟨(hb4.block _ (by omega)).trans hHeld.1, (hb4.block _ (by omega)).trans hHeld.2⟩) (fun hHeld => ?_)
  clear hK K
  try simp only [Act.put, List.setIfInBounds_toArray, List.set_cons_zero, List.set_cons_succ]
  have hbw4 := below_next hbw3 hbw3.size hb4
  have hz4 : Hid (w4.heap[w.heap.size + 1 + 1]? = some (.cells (bv z32).toArray 23 (0, 0))) := (hb4.block _ (by omega)).trans hz3.out
  have HE := vlt (show l = wo (subF (ln a) (ln b)) by rw [e4.out, wo, ← subF_of (show (n4 c0 c1 c2 c3 + ln b) % FP = ln a % FP by rw [← e1.out, ← e2.out]; exact e3.out)])
  clear e1 e2 e3 e4
  have HLS := Lib.hid (bv_size l HL.out)
  refine wpAnyH_ready (rs := [6]) (by kernel_rfl) (by simp) ?_
  refine AllReadyH.cons (i := 6) (o := ⟨none, _, _, _, _, _⟩) rfl (fun K hK => ?_) AllReadyH.nil
  refine step_store_row rfl 23 (.tmp 4) (.tmp 10) rfl (w.heap.size + 1 + 1) (bv l).toArray rfl rfl 23 _ hz4.out (by rw [HLS.out]; kernel_rfl) (by rw [HLS.out]; kernel_rfl) (all_oneCell_toArray (bv_one _)) ?_
  refine hK.out _ _ (⟨(setRow_other _ _ _ _ (by omega)).trans hHeld.1, (setRow_other _ _ _ _ (by omega)).trans hHeld.2⟩) (fun hHeld => ?_)
  clear hK K
  try simp only [Act.put]
  refine wpAnyH_done (by kernel_rfl) ?_ _
  go_wp2_with fail
  refine bodyPost_ret (v := .agg (bv l).toArray) (results_cell_row Tryd.results27 _ _ (w.heap.size + 1 + 1) 23 _ (0, 0) _ rfl (setRow_heap _ _ _ _ _ _ hz4.out) Tryd.underlying23 rfl (by rw [HLS.out]; kernel_rfl)) rfl ⟨l, rfl, HE, HL, below_setRow hbw4 (by omega) _⟩

end Go.Proofs.YtehkalbiomagjaaDoor
namespace Go.Proofs.YtehkalbiomagjaaDoor
open Go.RowKit

def byteAt (l : List UInt8) (k : Nat) : Nat := (l.getD k 0).toNat
section
variable {P : Program} {t e n : Nat} (ht : P.underlying t = some (.array n e)) (he : P.underlying e = some (.int .u8)) (hs : (P.info? e).map (·.size) = some 1)
include ht he hs
theorem part_byte (l : List UInt8) (k : Nat) (hk : k < l.length) (w : World) : (part e (bv l).toArray (k * 1)).run P w = .ok (.int .u8 ((byteAt l k : Nat) : Int)) w := by
  obtain ⟨i, hi', hi2⟩ := Option.map_eq_some_iff.1 hs
  have h1 : (bv l)[k]? = some (.int .u8 ((byteAt l k : Nat) : Int)) := by rw [bv_at, List.getElem?_eq_getElem hk]; simp [byteAt, List.getElem?_eq_getElem hk]
  have _ := ht
  simp [part, isAgg, run_underlying he, h1]
theorem eq_bytes (l m : List UInt8) (hl : l.length = n) (hm : m.length = n) (d : Nat) (w : World) : (Op.equalIn (d + 2) t (.agg (bv l).toArray) (.agg (bv m).toArray)).run P w = .ok (decide (l = m)) w := by
  obtain ⟨i, hi', hi2⟩ := Option.map_eq_some_iff.1 hs
  have hfor : ∀ (is : List Nat), (∀ k ∈ is, k < n) → (forIn (m := Sem) is ((none : Option Bool), ()) fun i _ => do
      let a ← part e (bv l).toArray (i * 1)
      let b ← part e (bv m).toArray (i * 1)
      let r ← Op.equalIn (d + 1) e a b
      if (!r) = true then pure (ForInStep.done (some false, ())) else pure (ForInStep.yield (none, ()))).run P w = .ok (if (∀ k ∈ is, byteAt l k = byteAt m k) then none else some false, ()) w := by
    intro is
    induction is with
    | nil => intro _; simp
    | cons k ks ih =>
      intro hk
      have hk1 : k < n := hk k (by simp)
      have h1 := part_byte ht he hs l k (by omega) w
      have h1' := part_byte ht he hs m k (by omega) w
      have h2 := ih (fun j hj => hk j (by simp [hj]))
      rw [List.forIn_cons]
      simp only [Sem.run_bind, h1, h1', Result.andThen_ok, run_equalIn_int w d e .u8 .u8 _ _ he]
      by_cases hkk : byteAt l k = byteAt m k
      · simp only [List.mem_cons, forall_eq_or_imp, hkk, true_and]
        simpa using h2
      · simp [hkk]
        intro h
        exact absurd (by omega : byteAt l k = byteAt m k) hkk
  rw [Op.equalIn]
  have hsz : (sizeOf e).run P w = .ok 1 w := by simp [sizeOf, typeInfo, hi', hi2]
  simp only [Sem.run_bind, run_underlying ht, Result.andThen_ok, hsz]
  have hr := hfor (List.range' 0 n) (fun k hk => by simpa using hk)
  simp only [Std.Legacy.Range.forIn_eq_forIn_range', Std.Legacy.Range.size, Nat.sub_zero, Nat.add_one_sub_one, Nat.div_one, hr]
  have hiff : (∀ k ∈ List.range' 0 n, byteAt l k = byteAt m k) ↔ l = m := by
    constructor
    · intro h
      apply List.ext_getElem (by omega)
      intro k h1 h2
      have := h k (by simp; omega)
      have h3 : (l[k].toNat : Nat) = m[k].toNat := by simpa [byteAt, h1, h2] using this
      exact UInt8.toNat_inj.1 h3
    · rintro rfl _ _; rfl
  by_cases hlm : l = m
  · simp [hlm]
  · rw [if_neg (fun h => hlm (hiff.1 h))]
    simp [hlm]
theorem eql_bytes (l m : List UInt8) (hl : l.length = n) (hm : m.length = n) (w : World) : (binOp .eql t (.agg (bv l).toArray) (.agg (bv m).toArray)).run P w = .ok (.bool (decide (l = m))) w := by
  rw [run_eql_struct, eq_bytes ht he hs l m hl hm 9998 w]
  rfl
theorem neq_bytes (l m : List UInt8) (hl : l.length = n) (hm : m.length = n) (w : World) : (binOp .neq t (.agg (bv l).toArray) (.agg (bv m).toArray)).run P w = .ok (.bool (!decide (l = m))) w := by
  rw [run_neq_struct, eq_bytes ht he hs l m hl hm 9998 w]
  rfl
theorem neq_bytes_same (l : List UInt8) (hl : l.length = n) (w : World) : (binOp .neq t (.agg (bv l).toArray) (.agg (bv l).toArray)).run P w = .ok (.bool false) w := by
  rw [neq_bytes ht he hs l l hl hl w]
  simp
end
end Go.Proofs.YtehkalbiomagjaaDoor
namespace Go.Proofs.YtehkalbiomagjaaDoor
open Go.RowKit

/-- The prime, less two. -/
def FP2 : Nat := 57896044618658097711785492504343953926634992332820282019728792003956564819947
theorem fp2_n4 : n4 18446744073709551595 18446744073709551615 18446744073709551615 9223372036854775807 = FP2 := by decide
set_option maxRecDepth 100000 in
set_option maxHeartbeats 1000000 in
theorem inv_any (w : World) (a : List UInt8) (ha : a.length = 32) :
    Calls Tryd.prog 26 #[.agg (bv a).toArray] w fun e w' => ∃ l, e = .returned (.agg (bv l).toArray) ∧ Vlt (l = wo (ln a ^ FP2)) ∧ Hid (l.length = 32) ∧ Below w.heap.size w w' := by
  have hzw := zero_word
  obtain ⟨W, hW, hgA, hgZ, hbW, hsW⟩ := pair_new w (bv a).toArray (bv z32).toArray 23 23
  have HW := Lib.hid hW
  have HA := Lib.hid ha
  have HS := Lib.hid (bv_size a ha)
  have hs : w.heap.size + 1 < W.heap.size := by have := hsW.out; omega
  clear hW ha hsW
  go_enter Tryd.func26, Tryd.ntmps26
  go_upto_region 1 with fail
  rw [HW.out]
  go_wp2_with (with_reducible refine wpList_load_row rfl 23 (.tmp 1) rfl w.heap.size rfl 23 (bv a).toArray (0, 0) _ hgA.out Tryd.underlying23 rfl (by rw [HS.out]; kernel_rfl) ?_)
  refine (numberOf_any W a HA.out).mono ?_
  rintro e w1 ⟨a0, a1, a2, a3, rfl, e1, ⟨la0, la1, la2, la3⟩, hb1⟩
  have hbw1 := below_next hbW hbW.size hb1
  have hz1 : Hid (w1.heap[w.heap.size + 1]? = some (.cells (bv z32).toArray 23 (0, 0))) := (hb1.block _ (by omega)).trans hgZ.out
  have hs1 : w.heap.size + 1 < w1.heap.size := (Array.getElem?_eq_some_iff.1 hz1.out).1
  go_wp2_with fail
  refine (beneath_255 w1).mono ?_
  rintro e w2 ⟨rfl, hb2⟩
  have hbw2 := below_next hbw1 hbw1.size hb2
  have hz2 : Hid (w2.heap[w.heap.size + 1]? = some (.cells (bv z32).toArray 23 (0, 0))) := (hb2.block _ (by omega)).trans hz1.out
  have hs2 : w.heap.size + 1 < w2.heap.size := (Array.getElem?_eq_some_iff.1 hz2.out).1
  go_wp2_with fail
  refine (power_any w2 a0 a1 a2 a3 18446744073709551595 18446744073709551615 18446744073709551615 9223372036854775807 la0 la1 la2 la3 (by decide) (by decide) (by decide) (by decide)).mono ?_
  rintro e w3 ⟨c0, c1, c2, c3, rfl, e2, ⟨lc0, lc1, lc2, lc3⟩, hb3⟩
  have hbw3 := below_next hbw2 hbw2.size hb3
  have hz3 : Hid (w3.heap[w.heap.size + 1]? = some (.cells (bv z32).toArray 23 (0, 0))) := (hb3.block _ (by omega)).trans hz2.out
  have hs3 : w.heap.size + 1 < w3.heap.size := (Array.getElem?_eq_some_iff.1 hz3.out).1
  go_wp2_with fail
  refine (told_any w3 c0 c1 c2 c3 lc0 lc1 lc2 lc3).mono ?_
  rintro e w4 ⟨l, rfl, e3, HL, hb4⟩
  have HE := vlt (show l = wo (ln a ^ FP2) by rw [e3.out, wo, e2.out, e1.out, fp2_n4])
  clear e1 e2 e3
  have hbw4 := below_next hbw3 hbw3.size hb4
  have hz4 : Hid (w4.heap[w.heap.size + 1]? = some (.cells (bv z32).toArray 23 (0, 0))) := (hb4.block _ (by omega)).trans hz3.out
  have HLS := Lib.hid (bv_size l HL.out)
  go_wp2_with (with_reducible refine wpList_store_row rfl 23 (.tmp 2) (.tmp 7) rfl (w.heap.size + 1) (bv l).toArray rfl rfl 23 _ hz4.out (by rw [HLS.out]; kernel_rfl) (by rw [HLS.out]; kernel_rfl) (all_oneCell_toArray (bv_one _)) ?_)
  refine bodyPost_ret (v := .agg (bv l).toArray) (results_cell_row Tryd.results26 _ _ (w.heap.size + 1) 23 _ (0, 0) _ rfl (setRow_heap _ _ _ _ _ _ hz4.out) Tryd.underlying23 rfl (by rw [HLS.out]; kernel_rfl)) rfl ⟨l, rfl, HE, HL, below_setRow hbw4 (by omega) _⟩

theorem neg64 (m : Nat) (hm : m < 18446744073709551616) : IntKind.u64.wrap (-IntKind.u64.wrap (-(m : Int))) = (m : Int) := by
  simp [IntKind.wrap, IntKind.bits, IntKind.signed]
  omega
theorem zero_n4v : n4 0 0 0 0 = 0 := by decide
theorem one_n4v (m : Nat) : n4 m 0 0 0 = m := by simp only [n4]; omega
set_option maxRecDepth 100000 in
set_option maxHeartbeats 1000000 in
theorem of_any (w : World) (n : Int) (hlo : -9223372036854775808 ≤ n) (hhi : n ≤ 9223372036854775807) :
    Calls Tryd.prog 25 #[.int .i64 n] w fun e w' => ∃ l, e = .returned (.agg (bv l).toArray) ∧ Vlt (l = wo (ofF n)) ∧ Hid (l.length = 32) ∧ Below w.heap.size w w' := by
  have hzw := zero_word
  have hzn := zero_n4
  obtain ⟨W, hW, hgZ, hbW, hsW⟩ := one_new w (bv z32).toArray 23
  have HW := Lib.hid hW
  have hs : w.heap.size < W.heap.size := by have := hsW.out; omega
  clear hW hsW
  by_cases hn : n < 0
  · obtain ⟨m, hm⟩ : ∃ m : Nat, n = -(m : Int) := ⟨n.natAbs, by omega⟩
    subst hm
    go_enter Tryd.func25, Tryd.ntmps25
    go_upto_region 1 with fail
    rw [HW.out]
    go_wp2_with fail
    rw [neg64 m (by omega)]
    refine (minus_any W 0 0 0 0 m 0 0 0 (by decide) (by decide) (by decide) (by decide) (by simp only [B64]; omega) (by decide) (by decide) (by decide)).mono ?_
    rintro e w1 ⟨c0, c1, c2, c3, rfl, e1, ⟨lc0, lc1, lc2, lc3⟩, hb1⟩
    have hbw1 := below_next hbW hbW.size hb1
    have hz1 : Hid (w1.heap[w.heap.size]? = some (.cells (bv z32).toArray 23 (0, 0))) := (hb1.block _ hs).trans hgZ.out
    have hs1 : w.heap.size < w1.heap.size := (Array.getElem?_eq_some_iff.1 hz1.out).1
    go_wp2_with fail
    refine (told_any w1 c0 c1 c2 c3 lc0 lc1 lc2 lc3).mono ?_
    rintro e w2 ⟨l, rfl, e2, HL, hb2⟩
    have HE := vlt (show l = wo (ofF (-(m : Int))) by
      have h1 := e1.out
      rw [one_n4v, zero_n4v] at h1
      rw [e2.out, wo, ofF_neg, ← subF_of h1])
    clear e1 e2
    have hbw2 := below_next hbw1 hbw1.size hb2
    have hz2 : Hid (w2.heap[w.heap.size]? = some (.cells (bv z32).toArray 23 (0, 0))) := (hb2.block _ hs1).trans hz1.out
    have HLS := Lib.hid (bv_size l HL.out)
    go_wp2_with (with_reducible refine wpList_store_row rfl 23 (.tmp 2) (.tmp 11) rfl w.heap.size (bv l).toArray rfl rfl 23 _ hz2.out (by rw [HLS.out]; kernel_rfl) (by rw [HLS.out]; kernel_rfl) (all_oneCell_toArray (bv_one _)) ?_)
    refine bodyPost_ret (v := .agg (bv l).toArray) (results_cell_row Tryd.results25 _ _ w.heap.size 23 _ (0, 0) _ rfl (setRow_heap _ _ _ _ _ _ hz2.out) Tryd.underlying23 rfl (by rw [HLS.out]; kernel_rfl)) rfl ⟨l, rfl, HE, HL, below_setRow hbw2 (by omega) _⟩
  · obtain ⟨m, hm⟩ : ∃ m : Nat, n = (m : Int) := ⟨n.natAbs, by omega⟩
    subst hm
    go_enter Tryd.func25, Tryd.ntmps25
    go_upto_region 1 with fail
    rw [HW.out]
    go_wp2_with fail
    refine (told_any W m 0 0 0 (by simp only [B64]; omega) (by decide) (by decide) (by decide)).mono ?_
    rintro e w2 ⟨l, rfl, e2, HL, hb2⟩
    have HE := vlt (show l = wo (ofF (m : Int)) by rw [e2.out, wo, one_n4v, ofF_nat, Nat.mod_mod])
    clear e2
    have hbw2 := below_next hbW hbW.size hb2
    have hz2 : Hid (w2.heap[w.heap.size]? = some (.cells (bv z32).toArray 23 (0, 0))) := (hb2.block _ hs).trans hgZ.out
    have HLS := Lib.hid (bv_size l HL.out)
    go_wp2_with (with_reducible refine wpList_store_row rfl 23 (.tmp 2) (.tmp 15) rfl w.heap.size (bv l).toArray rfl rfl 23 _ hz2.out (by rw [HLS.out]; kernel_rfl) (by rw [HLS.out]; kernel_rfl) (all_oneCell_toArray (bv_one _)) ?_)
    refine bodyPost_ret (v := .agg (bv l).toArray) (results_cell_row Tryd.results25 _ _ w.heap.size 23 _ (0, 0) _ rfl (setRow_heap _ _ _ _ _ _ hz2.out) Tryd.underlying23 rfl (by rw [HLS.out]; kernel_rfl)) rfl ⟨l, rfl, HE, HL, below_setRow hbw2 (by omega) _⟩

set_option maxRecDepth 100000 in
set_option maxHeartbeats 1000000 in
theorem good_any (w : World) (a : List UInt8) (ha : a.length = 32) :
    Calls Tryd.prog 65 #[.agg (bv a).toArray] w fun e w' => ∃ b, e = .returned (.bool b) ∧ Vlt (b = decide (wo (ln a) = a)) ∧ Below w.heap.size w w' := by
  obtain ⟨W, hW, hgA, hbW, hsW⟩ := one_new w (bv a).toArray 23
  have HW := Lib.hid hW
  have HA := Lib.hid ha
  have HAS := Lib.hid (show (bv a).length = 32 by rw [bv_len, ha])
  have hs : w.heap.size < W.heap.size := by have := hsW.out; omega
  clear hW ha hsW
  go_enter Tryd.func65, Tryd.ntmps65
  go_upto_region 1 with fail
  rw [HW.out]
  refine wp_region_held_drew (S := (fun W' => W'.heap[w.heap.size]? = some (.cells (bv a).toArray 23 (0, 0)))) (by kernel_rfl) (hgA.out) (fun hHeld => ?_)
  refine wpAnyH_take (i := 0) (oi := ⟨(some 3), _, _, _, _, _⟩) (v := _) rfl (by kernel_rfl) (by kernel_rfl) (by kernel_rfl) (fun _ _ _ h => h) (yieldsIf_load_mid (by rfl) _ _ rfl w.heap.size 0 rfl (bv a) _ (fun W' hW' => range_row hW') (Tryd.underlying23) (rfl) (by rw [HAS.out]; kernel_rfl)) hHeld ?_
  try simp only [Act.put, List.setIfInBounds_toArray, List.set_cons_zero, List.set_cons_succ]
  refine wpAnyH_take (i := 2) (oi := ⟨(some 5), _, _, _, _, _⟩) (v := _) rfl (by kernel_rfl) (by kernel_rfl) (by kernel_rfl) (fun _ _ _ h => h) (yieldsIf_load_mid (by rfl) _ _ rfl w.heap.size 0 rfl (bv a) _ (fun W' hW' => range_row hW') (Tryd.underlying23) (rfl) (by rw [HAS.out]; kernel_rfl)) hHeld ?_
  try simp only [Act.put, List.setIfInBounds_toArray, List.set_cons_zero, List.set_cons_succ]
  refine wpAnyH_ready (rs := [1]) (by kernel_rfl) (by simp) ?_
  refine AllReadyH.cons (i := 1) (o := ⟨(some 4), _, _, _, _, _⟩) rfl (fun K hK => ?_) AllReadyH.nil
  go_simp
  refine (norm_any _ a HA.out).mono ?_
  rintro e w1 ⟨l, rfl, e1, HL, hb1d⟩
  have hb1 : Below W.heap.size W w1 := below_undrew hb1d
  refine hK.out _ _ ((hb1.block _ hs).trans hHeld) (fun hHeld => ?_)
  clear hK K
  try simp only [Act.put, List.setIfInBounds_toArray, List.set_cons_zero, List.set_cons_succ]
  have heq := eql_bytes (P := Tryd.prog) Tryd.underlying23 Tryd.underlying5 Tryd.sizeByte l a HL.out HA.out
  have HE := vlt (show decide (l = a) = decide (wo (ln a) = a) by rw [e1.out])
  generalize decide (l = a) = b at *
  refine wpAnyH_take (i := 3) (oi := ⟨(some 6), _, _, _, _, _⟩) (v := ?vq1_0) rfl (by kernel_rfl) (by kernel_rfl) (by kernel_rfl) (fun _ _ _ h => h) (Or.inl ⟨by rfl, ?yq1_0⟩) hHeld ?_
  case yq1_0 => (intro W0 hSw; go_simp; try with_reducible rfl)
  try simp only [Act.put, List.setIfInBounds_toArray, List.set_cons_zero, List.set_cons_succ]
  refine wpAnyH_take (i := 4) (oi := ⟨(some 2), _, _, _, _, _⟩) (v := ?vq1_1) rfl (by kernel_rfl) (by kernel_rfl) (by kernel_rfl) (fun _ _ _ h => h) (Or.inl ⟨by rfl, ?yq1_1⟩) hHeld ?_
  case yq1_1 => (intro W0 hSw; go_simp; try with_reducible rfl)
  try simp only [Act.put, List.setIfInBounds_toArray, List.set_cons_zero, List.set_cons_succ]
  refine wpAnyH_done (by kernel_rfl) ?_ _
  go_wp2
  go_ret
  exact ⟨b, rfl, HE, below_next hbW hbW.size hb1⟩
end Go.Proofs.YtehkalbiomagjaaDoor
namespace Go.Proofs.YtehkalbiomagjaaDoor
open Go.RowKit

theorem ln_wk (n : Nat) (h : n < FP) : ln (wk n) = n := by rw [wk, ln_le, Nat.mod_eq_of_lt (Nat.lt_trans h (by decide))]
theorem wk_wo (n : Nat) (h : n < FP) : wk n = wo n := by rw [wk, wo, Nat.mod_eq_of_lt h]
theorem const_word (n : Nat) (h : n < FP) : ∃ T, T = wk n ∧ Hid (T.length = 32) ∧ Vlt (ln T = n) ∧ Vlt (T = wo n) := ⟨_, rfl, wk_len n, vlt (ln_wk n h), vlt (wk_wo n h)⟩
/-- Powers modulo, by squaring. -/
def pmod (p x : Nat) : Nat → Nat → Nat
  | 0, _ => 1 % p
  | f + 1, e => if e % 2 = 1 then pmod p (x * x % p) f (e / 2) * x % p else pmod p (x * x % p) f (e / 2)
theorem pmod_ok (p : Nat) : ∀ (f x e : Nat), e < 2 ^ f → pmod p x f e = x ^ e % p
  | 0, x, e, h => by
    obtain rfl : e = 0 := by simpa using h
    rfl
  | f + 1, x, e, h => by
    have ih := pmod_ok p f (x * x % p) (e / 2) (by rw [Nat.pow_succ] at h; omega)
    have hs : (x * x % p) ^ (e / 2) % p = x ^ (2 * (e / 2)) % p := by rw [← Nat.pow_mod, Nat.pow_mul, Nat.pow_two]
    rw [pmod, ih, hs]
    by_cases h1 : e % 2 = 1
    · rw [if_pos h1, Nat.mod_mul_mod, ← Nat.pow_succ]
      congr 2
      omega
    · rw [if_neg h1]
      congr 2
      omega
theorem two_inv : (2 * (2 ^ FP2 % FP)) % FP = 1 % FP := by
  have h := pmod_ok FP 256 2 FP2 (by decide)
  rw [← h]
  decide +kernel
theorem z32_wo : z32 = wo 0 := by decide +kernel
theorem good_wo (N : Nat) : decide (wo (ln (wo N)) = wo N) = true := by rw [ln_wo, wo_of (Nat.mod_mod N FP)]; simp
theorem of_neg1 : (ofF (-1) + 1) % FP = 0 % FP := by decide +kernel
end Go.Proofs.YtehkalbiomagjaaDoor
