/-
  Words and contracts that other texts share, several in one text. No statement of the seat is proved here. Conditions: as each contract says.
  Words for bytes in memory that the other texts of this seat share: no statement is proved here. Conditions: none.
  append(own, src...) where src came in, nil or not: a law for the walks of this seat. Conditions: the sum of the lengths is at most 2^47.
  Contracts of package octet's inner functions width and roomier: what each returns, for every input that fits. Conditions: lengths up to 2^47.
  Arrays and rows in memory: words that the contracts of other texts share. No statement is proved here. Conditions: none.
  Pieces of slices, literals, growth, new blocks: words that the contracts of other texts share. No statement is proved here. Conditions: none.
  Objects with memory of their own, said by the blocks that are theirs ('F'): what turns beside them, and what does not. No statement is proved here. Conditions: none.
  append onto a row that an object owns: where the new row lies. No statement is proved here. Conditions: lengths up to 2^47.
  A disk's files as lists: what is written, what stays behind a crash. No statement is proved here. Conditions: none.
  New blocks, whole rows, small words: what the contracts of other texts share. No statement is proved here. Conditions: none.
  A disk's file in memory, and the contracts of its calls end and write. Conditions: at most 2^40 bytes.
  A map from names to pointers, as a function: what a look, a store, a deletion, a range over it do. No statement is proved here. Conditions: fewer than 2^47 entries.
  Names, and the contracts of isName and ready. No statement is proved here. Conditions: none.
  Lists of named things: what a look, a change, a deletion do. No statement is proved here. Conditions: none.
  A disk in memory: its own blocks, painted by the file that each belongs to; how it turns. No statement is proved here. Conditions: as each says.
  clear of a piece of a row of bytes that an object owns; one bit of a number of 64. No statement is proved here. Conditions: as each says.
  An empty literal of bytes: a word that other texts share. No statement is proved here. Conditions: none.
  Contract of bytes.Clone. Conditions: fewer than 2^46 bytes.
  The contract of a disk's file's crash. Conditions: at most 2^40 bytes; torn is not below 0.
-/
import Derived.WalkKit
import Derived.Below
import Derived.Lib.Hide
import Derived.Laws.CopyOwn
import Derived.Laws.BytesArg
import Derived.Laws.BytesString
import Derived.Laws.OwnMore
import Derived.Deep.Draws
import Derived.OpenShut
import Derived.Test.YtaklbgikoeedbaaDoorChecked
import Derived.WalkLawsBesides
import Derived.WalkSpells
import Derived.Outline
import Derived.Laws.Rows
import Derived.Laws.Tables
import Derived.Deep.MidRow
import Derived.Deep.WholeRow
import Derived.Deep.RegionLaw
import Derived.Lib.SlBytesConst
import Derived.ArgAppend
import Derived.Deep.Cut
import Derived.IntWalk
import Derived.BigRegion
import Derived.BigQuiet
import Derived.RegionTactic
import Derived.Deep.QuietTactic
import Derived.LoopTactic
import Derived.Laws.Cover3
import Derived.Laws.Shifts
import Derived.Laws.BitsAllLaws
import Derived.Maps.RangeWalk
import Derived.Maps.OwnSet
import Derived.Maps.Views
import Derived.StringKeys
import Derived.Lib.SliceRun
namespace Go.Proofs.YtaklbgikoeedbaaDoor
open Go.RowKit

/-- Bytes as the cells of a row. -/
def bv (l : List UInt8) : List Value := l.map fun b => Value.int .u8 (b.toNat : Int)
theorem bv_len (l : List UInt8) : (bv l).length = l.length := by simp [bv]
theorem bv_app (l m : List UInt8) : bv (l ++ m) = bv l ++ bv m := by simp [bv]
theorem bv_nil : bv [] = [] := rfl
theorem bv_at (l : List UInt8) (k : Nat) : (bv l)[k]? = l[k]?.map fun b => Value.int .u8 (b.toNat : Int) := by simp [bv]
theorem bv_one (l : List UInt8) : ∀ u ∈ bv l, u.oneCell' = true := by
  intro u hu
  obtain ⟨b, _, rfl⟩ := List.mem_map.1 hu
  rfl
theorem bv_set (l : List UInt8) (k : Nat) (b : UInt8) : (bv l).set k (.int .u8 (b.toNat : Int)) = bv (l.set k b) := by simp [bv, List.map_set]
theorem bv_take (l : List UInt8) (k : Nat) : (bv l).take k = bv (l.take k) := by simp [bv, List.map_take]
theorem bv_rep (n : Nat) : List.replicate n (Value.int .u8 0) = bv (List.replicate n 0) := by simp [bv]
/-- One byte out of a number below 256. -/
theorem bv_single (c : Nat) (hc : c < 256) : [Value.int .u8 (c : Int)] = bv [UInt8.ofNat c] := by
  simp [bv, Nat.mod_eq_of_lt hc]

theorem ofNat_toNat (b : UInt8) : UInt8.ofNat b.toNat = b := by simp

/-- What a slice at A holds: the bytes l, in a block below B. Of an empty one nothing is asked. -/
def Byt (w : World) (B : Nat) (A : Option Addr) (l : List UInt8) : Prop :=
  l = [] ∨ ∃ g o, A = some ⟨g, o, none⟩ ∧ g < B ∧ ∀ j b, l[j]? = some b → w.cell? ⟨g, o + j, none⟩ = some (.int .u8 (b.toNat : Int))

section
variable {w w' : World} {B B' : Nat} {A : Option Addr} {l : List UInt8}
theorem Byt.none_ : Byt w B A [] := .inl rfl
theorem Byt.keep (h : Byt w B A l) (hk : ∀ p : Addr, p.block < B → w'.cell? p = w.cell? p) : Byt w' B A l := by
  rcases h with h | ⟨g, o, hA, hg, hc⟩
  · exact .inl h
  · exact .inr ⟨g, o, hA, hg, fun j b hb => (hk ⟨g, o + j, none⟩ hg).trans (hc j b hb)⟩
theorem Byt.below (h : Byt w B A l) (hb : Below B w w') : Byt w' B A l := h.keep fun _ hp => hb.cell hp
theorem Byt.up (h : Byt w B A l) (hB : B ≤ B') : Byt w B' A l := by
  rcases h with h | ⟨g, o, hA, hg, hc⟩
  · exact .inl h
  · exact .inr ⟨g, o, hA, by omega, hc⟩
theorem Byt.drewN (h : Byt w B A l) (k : Nat) : Byt (w.drewN k) B A l := h
theorem Byt.drew (h : Byt w B A l) : Byt w.drew B A l := h
theorem Byt.alloc (h : Byt w B A l) (hB : B ≤ w.heap.size) (o : Obj) : Byt (w.alloc o) B A l := h.below ((Below.refl _ _).alloc hB o)
/-- The byte at k, as a number. -/
theorem Byt.at_ (h : Byt w B A l) {k : Nat} (hk : k < l.length) :
    ∃ g o c : Nat, A = some ⟨g, o, none⟩ ∧ g < B ∧ c < 256 ∧ w.cell? ⟨g, o + k, none⟩ = some (.int .u8 (c : Int)) ∧ Hid (l[k]? = some (UInt8.ofNat c)) := by
  rcases h with h | ⟨g, o, hA, hg, hc⟩
  · subst h; simp at hk
  · exact ⟨g, o, l[k].toNat, hA, hg, UInt8.toNat_lt _, hc k _ (List.getElem?_eq_getElem hk), show _ = _ by rw [ofNat_toNat]; exact List.getElem?_eq_getElem hk⟩
theorem Byt.of_own {base E n c : Nat} (h : w.ownsRow base E 1 (.slice A n c) n (bv l)) : Byt w w.heap.size A l := by
  rcases h.2 with ⟨h', h0⟩ | ⟨g, cap, cur, h', hb, hg, hnc, hcm, hcs, htake⟩
  · refine .inl (List.eq_nil_of_length_eq_zero ?_)
    have := h.1; rw [bv_len] at this; omega
  · simp only [Value.slice.injEq] at h'
    obtain ⟨rfl, _, rfl⟩ := h'
    refine .inr ⟨g, 0, rfl, (Array.getElem?_eq_some_iff.1 hg).1, fun j b hj => ?_⟩
    have hl := h.1; rw [bv_len] at hl
    have hjl : j < l.length := (List.getElem?_eq_some_iff.1 hj).1
    have h2 := World.ownsRow.cellAt h j (by omega)
    rw [Nat.zero_add, h2, bv_at, hj]; rfl
end

/-- string(b). -/
theorem conv_bytes {P : Program} {w : World} {T E S : TypeId} (hT : P.underlying T = some (.slice E)) (hE : P.underlying E = some (.int .u8)) (hS : P.underlying S = some .string)
    {B : Nat} {A : Option Addr} {l : List UInt8} (h : Byt w B A l) (n c : Nat) (hn : l.length = n) : (convert T S (.slice A n c)).run P w = .ok (.string ⟨l.toArray⟩) w := by
  subst hn
  cases A with
  | none =>
    rcases h with rfl | ⟨g, o, hA, _⟩
    · exact run_convert_bytes_nil w T E hT hE _ c S hS
    · cases hA
  | some a =>
    have hl : (loadCells a l.length).run P w = .ok ((l.map fun b => (b.toNat : Int)).map (Value.int .u8)).toArray w := by
      have h1 := run_loadCells_list (P := P) w a (bv l) (fun j v hj => by
        rcases h with rfl | ⟨g, o, hA, _, hc⟩
        · simp [bv] at hj
        · cases hA
          rw [bv_at] at hj
          obtain ⟨b, hb, rfl⟩ := Option.map_eq_some_iff.1 hj
          have hp : (⟨g, o, none⟩ : Addr).add j = ⟨g, o + j, none⟩ := by unfold Addr.add; split <;> simp_all
          rw [hp]; exact hc j b hb)
      rw [bv_len] at h1
      simpa [bv, Function.comp_def] using h1
    rw [run_convert_bytes_string w T S E _ l.length c hT hE hS, run_bytesToString w _ l.length c _ hl, foldl_push_bytes]
    have e : (l.map fun b => (b.toNat : Int)).map (fun n => UInt8.ofNat n.toNat) = l := by
      rw [List.map_map]
      conv => rhs; rw [← List.map_id l]
      exact List.map_congr_left fun b _ => by simp
    rw [e]
    simp [ByteArray.empty, ByteArray.emptyWithCapacity]
    rfl

/-- A result: a new slice of the bytes l, in blocks from 'base' on. -/
def Res (w : World) (base : Nat) (E : TypeId) (A : Option Addr) (n c : Nat) (l : List UInt8) : Prop := w.ownsRow base E 1 (.slice A n c) n (bv l)
section
variable {w w' : World} {base B n c : Nat} {E : TypeId} {A : Option Addr} {l : List UInt8}
theorem Res.len (h : Res w base E A n c l) : l.length = n := by have := h.1; rw [bv_len] at this; omega
theorem Res.byt (h : Res w base E A n c l) : Byt w w.heap.size A l := Byt.of_own h
theorem Res.keep (h : Res w base E A n c l) (hb : Below w.heap.size w w') : Res w' base E A n c l := by
  refine ⟨h.1, ?_⟩
  rcases h.2 with hn | ⟨g, cap, cur, hv, hB, hg, r⟩
  · exact .inl hn
  · exact .inr ⟨g, cap, cur, hv, hB, (hb.block g (Array.getElem?_eq_some_iff.1 hg).1).trans hg, r⟩
theorem Res.base_le (h : Res w base E A n c l) (hB : B ≤ base) : Res w B E A n c l := by
  refine ⟨h.1, ?_⟩
  rcases h.2 with hn | ⟨g, cap, cur, hv, hB', hg, r⟩
  · exact .inl hn
  · exact .inr ⟨g, cap, cur, hv, by omega, hg, r⟩
theorem Res.of (v : Value) (h : w.ownsRow base E 1 v n (bv l)) : ∃ A c, v = .slice A n c ∧ Res w base E A n c l := by
  rcases h.2 with ⟨rfl, rfl⟩ | ⟨g, cap, cur, rfl, _⟩
  · exact ⟨_, _, rfl, h⟩
  · exact ⟨_, _, rfl, h⟩
end

/-- make([]byte, n, c): a row of c noughts. -/
theorem make_bytes {P : Program} {T E : TypeId} {i : TypeInfo} (hT : P.underlying T = some (.slice E)) (hi : P.info? E = some i) (hz : i.zero = some (.int .u8 0)) (h1 : i.size = 1) (h2 : i.bytes = 1)
    (n c : Nat) (L C : Int) (hL : L = (n : Int)) (hC : C = (c : Int)) (hnc : n ≤ c) (hc : c ≤ 281474976710656) (w : World) :
    ∃ w1, (Instr.makeSlice T (.int .i64 L) (.int .i64 C)).run P w = .ok (.slice (some ⟨w.heap.size, 0, none⟩) n c) w1 ∧ Hid (w1.heap[w.heap.size]? = some (.cells (bv (List.replicate c 0)).toArray E (0, 0))) ∧
      Hid (Below w.heap.size w w1) ∧ Hid (w1.heap.size = w.heap.size + 1) := by
  subst hL hC
  have hr := run_make (P := P) w T E i (.int .u8 0) hT hi hz .i64 .i64 n c (by omega) (by omega) (by rw [h2]; omega) (by omega)
  simp only [Int.toNat_natCast] at hr
  refine ⟨_, hr, ?_, (Below.refl _ _).alloc (Nat.le_refl _) _, show _ = _ by simp⟩
  show _ = _
  rw [heap_alloc_new]
  have e : madeCells (Value.int .u8 0).cells (c * i.size) = (bv (List.replicate c 0)).toArray := by
    rw [h1, Nat.mul_one, ← bv_rep]
    apply Array.ext'
    show (madeCells #[Value.int .u8 0] c).toList = _
    rw [toList_madeCells_one]
  rw [e]

/-- A row whose first cells are the bytes l. -/
theorem Res.row {w : World} {base E g n c : Nat} {l : List UInt8} {cur : Array Value} (hb : base ≤ g) (hg : w.heap[g]? = some (.cells cur E (0, 0))) (hn : n ≤ c) (hc : c ≤ 281474976710656) (hs : cur.size = c)
    (hl : l.length = n) (ht : cur.toList.take n = bv l) : Res w base E (some ⟨g, 0, none⟩) n c l :=
  ⟨by rw [bv_len]; omega, .inr ⟨g, c, cur, rfl, hb, hg, hn, by unfold maxLen; omega, by omega, by rw [Nat.mul_one]; exact ht⟩⟩

theorem addr_add (g o j : Nat) : (⟨g, o, none⟩ : Addr).add j = ⟨g, o + j, none⟩ := by unfold Addr.add; split <;> simp_all
/-- What a copy out of the bytes asks. -/
theorem Byt.src {w : World} {B : Nat} {A : Option Addr} {l : List UInt8} (h : Byt w B A l) (x : Option Addr) (y : Addr) (hx : x = some y) :
    0 < (bv l).length → x = some y ∧ ∃ ad, A = some ad ∧ ∀ j v, (bv l)[j]? = some v → w.cell? (ad.add j) = some v := by
  intro hp
  rcases h with h0 | ⟨g, o, rfl, hg, hc⟩
  · subst h0; simp [bv] at hp
  · refine ⟨hx, _, rfl, fun j v hj => ?_⟩
    rw [bv_at] at hj
    obtain ⟨b, hb, rfl⟩ := Option.map_eq_some_iff.1 hj
    rw [addr_add]; exact hc j b hb

/-- append(s, x..) onto bytes of the call's own. -/
theorem wp_append_bytes {P : Program} (w : World) {ops : Array Oper} {rest : List Oper} {o : Oper} {a : Act} {Q : Exit → Act → World → Prop} (hgd : o.guard = none) (s x : Operand) (T : TypeId)
    (ho : o.op = .call { callee := .builtin .append, args := #[s, x], argTypes := #[T, T] }) (E : TypeId) (hT : P.underlying T = some (.slice E))
    (hI : (P.info? E).map (fun i => (i.zero, i.size, i.bytes)) = some (some (.int .u8 0), 1, 1)) (base : Nat) (A : Option Addr) (n c : Nat) (l : List UInt8) (hs : a.eval s = .slice A n c) (hr : Res w base E A n c l)
    (ad : Addr) (m c2 : Nat) (hx : a.eval x = .slice (some ad) m c2) (news : List UInt8) (hl : news.length = m) (hnews : ∀ j u, (bv news)[j]? = some u → w.cell? (ad.add j) = some u) (hsz : n + m ≤ 140737488355328) (hbase : base ≤ w.heap.size)
    (h : ∀ A' c' w', Res w' base E A' (n + m) c' (l ++ news) → (∀ B w0, B ≤ base → Below B w0 w → Below B w0 w') → wpList P ops Q rest (a.put o.dst (.slice A' (n + m) c')) w') : wpList P ops Q (o :: rest) a w := by
  obtain ⟨i, hi, hz, h1, h2⟩ := info_parts hI
  refine wpList_append_own w hgd s x T ho base E i (.int .u8 0) 1 1 hT hi hz h1 h2 rfl (by decide) _ n (bv l) hs hr ad m c2 (bv news) hx (by rw [bv_len]; omega) hnews (bv_one _) (by unfold maxLen; omega) (by omega) hbase ?_
  intro v' w' hown hgr _
  rw [← bv_app] at hown
  obtain ⟨A', c', rfl, hres⟩ := Res.of v' hown
  exact h A' c' w' hres fun B w0 hB hb => hb.grown hgr (by omega) fun k hk => by have := World.ownsRow.lt hr k hk; omega

/-- The same as one step of a region that draws its order. -/
theorem step_append_bytes {P : Program} (w : World) {ops : Array Oper} {o : Oper} {a : Act} {K : Act → World → Prop} {Q : Exit → Act → World → Prop} {E' : Prop} (hgd : o.guard = none) (s x : Operand) (T : TypeId)
    (ho : o.op = .call { callee := .builtin .append, args := #[s, x], argTypes := #[T, T] }) (E : TypeId) (hT : P.underlying T = some (.slice E))
    (hI : (P.info? E).map (fun i => (i.zero, i.size, i.bytes)) = some (some (.int .u8 0), 1, 1)) (base : Nat) (A : Option Addr) (n c : Nat) (l : List UInt8) (hs : a.eval s = .slice A n c) (hr : Res w base E A n c l)
    (ad : Addr) (m c2 : Nat) (hx : a.eval x = .slice (some ad) m c2) (news : List UInt8) (hl : news.length = m) (hnews : ∀ j u, (bv news)[j]? = some u → w.cell? (ad.add j) = some u) (hsz : n + m ≤ 140737488355328) (hbase : base ≤ w.heap.size)
    (h : ∀ A' c' w', Res w' base E A' (n + m) c' (l ++ news) → (∀ B w0, B ≤ base → Below B w0 w → Below B w0 w') → K (a.put o.dst (.slice A' (n + m) c')) w') :
    if Region.wanted o (yielded ops a.tmps) = true then Oper.wp P o a w K Q else E' := by
  have hw : Region.wanted o (yielded ops a.tmps) = true := by simp [Region.wanted, hgd]
  rw [if_pos hw]
  obtain ⟨i, hi, hz, h1, h2⟩ := info_parts hI
  refine wp_append_own w s x T ho base E i (.int .u8 0) 1 1 hT hi hz h1 h2 rfl (by decide) _ n (bv l) hs hr ad m c2 (bv news) hx (by rw [bv_len]; omega) hnews (bv_one _) (by unfold maxLen; omega) (by omega) hbase ?_
  intro v' w' hown hgr _
  rw [← bv_app] at hown
  obtain ⟨A', c', rfl, hres⟩ := Res.of v' hown
  exact h A' c' w' hres fun B w0 hB hb => hb.grown hgr (by omega) fun k hk => by have := World.ownsRow.lt hr k hk; omega

theorem Res.drew {w : World} {base E n c : Nat} {A : Option Addr} {l : List UInt8} (h : Res w base E A n c l) : Res w.drew base E A n c l := h
/-- A literal of bytes, in the newest block. -/
theorem Byt.lit (w : World) (E : TypeId) (cs : Array Value) (l : List UInt8) (h : cs.toList = bv l) : Byt (w.alloc (.cells cs E)) (w.alloc (.cells cs E)).heap.size (some ⟨w.heap.size, 0, none⟩) l := by
  refine .inr ⟨w.heap.size, 0, rfl, by simp, fun j b hj => ?_⟩
  rw [Nat.zero_add, World.cell?_alloc_new]
  have h1 := bv_at l j
  rw [hj, ← h] at h1
  simpa using h1
/-- Below through a new block of the caller's own. -/
theorem below_lit {B : Nat} {a w w' : World} {o : Obj} (h : Below B a w) (hB : B ≤ w.heap.size) (h2 : Below (w.alloc o).heap.size (w.alloc o) w') : Below B a w' :=
  (h.alloc hB o).trans (h2.mono (by simp; omega))
theorem below_next {B : Nat} {a w w' : World} (h : Below B a w) (hB : B ≤ w.heap.size) (h2 : Below w.heap.size w w') : Below B a w' := h.trans (h2.mono hB)
/-- A []byte that came in, as the row's reading tells it. -/
theorem bytes_of_row {w : World} {a : Option Addr} {len cap : Nat} {zs : List Int}
    (h : (a = none ∧ len = 0 ∧ cap = 0 ∧ zs = []) ∨ ∃ x, a = some x ∧ len ≤ cap ∧ cap ≤ maxLen ∧ zs.length = cap ∧ (∀ i, i < zs.length → w.cell? (x.add i) = some (.int .u8 (zs.getD i 0))) ∧ ∀ n ∈ zs, (Lit.int .u8 n).wf = true) :
    ∃ l : List UInt8, Byt w w.heap.size a l ∧ l.length = len := by
  rcases h with ⟨rfl, rfl, _, _⟩ | ⟨x, rfl, hl, _, hz, hc, hw⟩
  · exact ⟨[], Byt.none_, rfl⟩
  · rcases Nat.eq_zero_or_pos len with h0 | h0
    · exact ⟨[], Byt.none_, h0.symm⟩
    · obtain ⟨b, off, rfl, hcell⟩ := ints_at hc (by omega)
      refine ⟨(zs.take len).map fun z => UInt8.ofNat z.toNat, .inr ⟨b, off, rfl, ?_, ?_⟩, by simp; omega⟩
      · exact World.block_lt_of_cell? w ⟨b, off + 0, none⟩ (hcell 0 (by omega))
      · intro j c hj
        have hjl : j < len := by
          have := (List.getElem?_eq_some_iff.1 hj).1
          simp at this; omega
        have hjz : j < zs.length := by omega
        rw [hcell j hjz]
        simp [hjl, List.getElem?_eq_getElem hjz] at hj
        subst hj
        have h1 := hw zs[j] (List.getElem_mem hjz)
        have h2 : 0 ≤ zs[j] ∧ zs[j] ≤ 255 := by simpa [Lit.wf, IntKind.min, IntKind.max, IntKind.signed, IntKind.bits] using h1
        congr 2
        simp [List.getElem?_eq_getElem hjz]
        omega
theorem u64_of_wf {a : Int} (h : (Lit.int .u64 a).wf = true) : ∃ v : Nat, a = (v : Int) ∧ v < 18446744073709551616 := by
  have h2 : 0 ≤ a ∧ a ≤ 18446744073709551615 := by simpa [Lit.wf, IntKind.min, IntKind.max, IntKind.signed, IntKind.bits] using h
  exact ⟨a.toNat, by omega, by omega⟩
theorem ret_bool {a b : Bool} (h : a = b) : Ending.returned (.bool a) = .returned (.bool b) := by rw [h]
theorem ret_str {a b : ByteArray} (h : a = b) : Ending.returned (.string a) = .returned (.string b) := by rw [h]

theorem Res.alloc {w : World} {base E n c : Nat} {A : Option Addr} {l : List UInt8} (h : Res w base E A n c l) (o : Obj) : Res (w.alloc o) base E A n c l := World.ownsRow.alloc h o

/-- The one new cell of append(s, x). -/
theorem new_byte (w : World) (E : TypeId) (x : Int) (b : UInt8) (hx : x = (b.toNat : Int)) :
    ∀ j u, (bv [b])[j]? = some u → (w.alloc (.cells #[.int .u8 x] E)).cell? ((⟨w.heap.size, 0, none⟩ : Addr).add j) = some u := by
  intro j u hj
  match j, hj with
  | 0, hj =>
    simp [bv] at hj
    subst hj hx
    rw [addr_add]
    simp
theorem new_bytes2 (w : World) (E : TypeId) (x y : Int) (b d : UInt8) (hx : x = (b.toNat : Int)) (hy : y = (d.toNat : Int)) :
    ∀ j u, (bv [b, d])[j]? = some u → (w.alloc (.cells #[.int .u8 x, .int .u8 y] E)).cell? ((⟨w.heap.size, 0, none⟩ : Addr).add j) = some u := by
  intro j u hj
  match j, hj with
  | 0, hj =>
    simp [bv] at hj
    subst hj hx
    rw [addr_add]
    simp
  | 1, hj =>
    simp [bv] at hj
    subst hj hy
    rw [addr_add]
    simp
theorem new_bytes2d (w : World) (E : TypeId) (x y : Int) (b d : UInt8) (hx : x = (b.toNat : Int)) (hy : y = (d.toNat : Int)) :
    ∀ j u, (bv [b, d])[j]? = some u → (w.alloc (.cells #[.int .u8 x, .int .u8 y] E)).drew.cell? ((⟨w.heap.size, 0, none⟩ : Addr).add j) = some u := new_bytes2 w E x y b d hx hy
theorem byte_of (v s : Nat) : (v : Int) / 2 ^ s % 256 = ((UInt8.ofNat (v / 2 ^ s)).toNat : Int) := by
  rw [UInt8.toNat_ofNat']
  simp

/-- Same heap and streams, draws aside. -/
theorem below_drewN {B : Nat} {a w : World} (h : Below B a w) (k : Nat) : Below B a (w.drewN k) := ⟨h.os, h.tape, h.output, h.size, h.block⟩
end Go.Proofs.YtaklbgikoeedbaaDoor
namespace Go.Proofs.YtaklbgikoeedbaaDoor
open Go.RowKit

theorem new_byted (w : World) (E : TypeId) (x : Int) (b : UInt8) (hx : x = (b.toNat : Int)) :
    ∀ j u, (bv [b])[j]? = some u → (w.alloc (.cells #[.int .u8 x] E)).drew.cell? ((⟨w.heap.size, 0, none⟩ : Addr).add j) = some u := new_byte w E x b hx

theorem append_nothing {P : Program} (w : World) {base t ty e size n c : Nat} {i : TypeInfo} {v : Value} {xs : List Value} (ht : P.underlying t = some (.slice e)) (hi : P.info? e = some i) (hown : w.ownsRow base e size v n xs) :
    (Builtin.append_ #[t, t] ty #[v, .slice none 0 c]).run P w = .ok v w := by
  rcases hown.2 with ⟨rfl, _⟩ | ⟨g, cap, cur, rfl, _, _, hle, _⟩
  · simp [Builtin.append_, run_underlying ht, typeInfo, sizeOf, hi, Builtin.lenOf, Builtin.firstCells]
  · simp [Builtin.append_, run_underlying ht, typeInfo, sizeOf, hi, Builtin.lenOf, Builtin.firstCells, storeCells, hle]

theorem wp_append_src {P : Program} (w : World) {ops : Array Oper} {rest : List Oper} {o : Oper} {a : Act} {Q : Exit → Act → World → Prop} (hgd : o.guard = none) (s x : Operand) (T : TypeId)
    (ho : o.op = .call { callee := .builtin .append, args := #[s, x], argTypes := #[T, T] }) (E : TypeId) (hT : P.underlying T = some (.slice E))
    (hI : (P.info? E).map (fun i => (i.zero, i.size, i.bytes)) = some (some (.int .u8 0), 1, 1)) (base : Nat) (A : Option Addr) (n c : Nat) (l : List UInt8) (hs : a.eval s = .slice A n c) (hr : Res w base E A n c l)
    (D : Option Addr) (m c2 : Nat) (hx : a.eval x = .slice D m c2) (B : Nat) (news : List UInt8) (hb : Byt w B D news) (hl : news.length = m) (hsz : n + m ≤ 140737488355328) (hbase : base ≤ w.heap.size)
    (h : ∀ A' c' w', Res w' base E A' (n + m) c' (l ++ news) → (∀ B w0, B ≤ base → Below B w0 w → Below B w0 w') → wpList P ops Q rest (a.put o.dst (.slice A' (n + m) c')) w') : wpList P ops Q (o :: rest) a w := by
  cases D with
  | some ad =>
    refine wp_append_bytes w hgd s x T ho E hT hI base A n c l hs hr ad m c2 hx news hl (fun j u hj => ?_) hsz hbase h
    have h0 : 0 < (bv news).length := Nat.lt_of_le_of_lt (Nat.zero_le _) (List.getElem?_eq_some_iff.1 hj).1
    obtain ⟨_, ad', he, hc⟩ := hb.src (some ⟨0, 0, none⟩) _ rfl h0
    injection he with he
    subst he
    exact hc j u hj
  | none =>
    have hn : news = [] := by
      rcases hb with h | ⟨_, _, h, _⟩
      · exact h
      · cases h
    subst hn
    subst hl
    obtain ⟨i, hi, _⟩ := info_parts hI
    refine wpList_plain hgd fun K hK => ?_
    have hrun := append_nothing (P := P) (ty := o.type) (c := c2) w hT hi hr
    unfold Oper.wp
    simp only [execOp, ho, resolve, invoke, builtin, Sem.run_bind, Sem.run_pure, Result.andThen_ok, List.map_toArray, List.map_cons, List.map_nil, hs, hx, List.length_nil, hrun]
    refine hK _ _ ?_
    have h2 := h A c w (by simpa using hr) (fun _ _ _ hb => hb)
    simpa using h2
end Go.Proofs.YtaklbgikoeedbaaDoor
namespace Go.Proofs.YtaklbgikoeedbaaDoor
open Go.RowKit

theorem Tryd.infoByte : (Tryd.prog.info? 5).map (fun i => (i.zero, i.size, i.bytes)) = some (some (.int .u8 0), 1, 1) := by kernel_rfl

/-- How many bytes of a number are written. -/
def wd (n : Int) : Nat := (min (max n 0) 8).toNat
theorem wd_le (n : Int) : wd n ≤ 8 := by unfold wd; omega

theorem width_any (n : Int) (w : World) :
    Calls Tryd.prog 48 #[.int .i64 n] w fun e w' => e = .returned (.int .i64 (wd n)) ∧ w = w' := by
  go_enter Tryd.func48, Tryd.ntmps48
  go_wp2
  all_goals go_ret
  all_goals exact ⟨by unfold wd; first | go_num | (congr 2; omega), rfl⟩

theorem roomier_any (A : Option Addr) (l : List UInt8) (n c k : Nat) (w : World) (ha : Byt w w.heap.size A l) (hl : l.length = n) (hn : n ≤ 140737488355328) (hk : k ≤ 8) :
    Calls Tryd.prog 49 #[.slice A n c, .int .i64 (k : Int)] w fun e w' => ∃ A' c', e = .returned (.slice A' n c') ∧ Res w' w.heap.size 5 A' n c' l ∧ Below w.heap.size w w' := by
  obtain ⟨i0, hi, hz0, hz1, hz2⟩ := info_parts Tryd.infoByte
  obtain ⟨w1, hrun, hg1, hb1, hs1⟩ := make_bytes (P := Tryd.prog) Tryd.underlying31 hi hz0 hz1 hz2 n (n + k) (n : Int) ((n : Int) + (k : Int)) rfl (by omega) (by omega) (by omega) w
  have HL := Lib.hid hl
  clear hl hi hz0 hz1 hz2
  go_enter Tryd.func49, Tryd.ntmps49
  go_wp2_with (with_reducible refine wpList_copy_splice rfl (.tmp 13) (.tmp 14) 31 31 rfl 5 Tryd.underlying31 (by kernel_rfl) (some ⟨w.heap.size, 0, none⟩) A n (n + k) n c rfl rfl w.heap.size 0 (bv (List.replicate (n + k) 0)) 5 hg1.out (bv l) (by rw [bv_len, HL.out]; exact (Nat.min_self n).symm) ((ha.below hb1.out).src _ _ rfl) (by simp [bv, HL.out]) (bv_one _) w.heap.size w hb1.out (Nat.le_refl _) ?_)
  intro w2 hg2 hb2
  go_wp2
  go_ret
  refine ⟨_, _, rfl, Res.row (Nat.le_refl _) hg2.out (by omega) (by omega) ?_ HL.out ?_, hb2⟩
  · simp [length_splice, bv, HL.out]
  · have := HL.out
    simp [splice, bv, ← this]
end Go.Proofs.YtaklbgikoeedbaaDoor
namespace Go.Proofs.YtaklbgikoeedbaaDoor
open Go.RowKit

section
variable {P : Program} {t e n : Nat} (hu : P.underlying t = some (.array n e)) (hs : (P.info? e).map (·.size) = some 1) (g o : Nat)
include hu hs
theorem cut_lh (lo hi : Nat) (L H : Int) (hL : L = (lo : Int)) (hH : H = (hi : Int)) (h1 : lo ≤ hi) (h2 : hi ≤ n) (h3 : lo < n) (w : World) :
    (Instr.sliceAt t (.pointer (some ⟨g, o, none⟩)) (some (.int .i64 L)) (some (.int .i64 H)) none).run P w = .ok (.slice (some ⟨g, o + lo, none⟩) (hi - lo) (n - lo)) w := by
  subst hL hH
  obtain ⟨i, hi', hi2⟩ := Option.map_eq_some_iff.1 hs
  have ht : P.underlying t = some (.array (P.arrayLen t) (P.elem t)) := by simp [Program.arrayLen, Program.elem, hu]
  have hn : P.arrayLen t = n := by simp [Program.arrayLen, hu]
  have he : P.elem t = e := by simp [Program.elem, hu]
  rw [run_sliceAt_array_lh w t _ ht .i64 .i64 _ _ (by omega) (by omega) (by omega), hn, he]
  simp [sizeOf, typeInfo, hi', hi2, slicedAt, addr_add, show ¬ n = lo by omega]
theorem cut_l (lo : Nat) (L : Int) (hL : L = (lo : Int)) (h3 : lo < n) (w : World) :
    (Instr.sliceAt t (.pointer (some ⟨g, o, none⟩)) (some (.int .i64 L)) none none).run P w = .ok (.slice (some ⟨g, o + lo, none⟩) (n - lo) (n - lo)) w := by
  subst hL
  obtain ⟨i, hi', hi2⟩ := Option.map_eq_some_iff.1 hs
  have ht : P.underlying t = some (.array (P.arrayLen t) (P.elem t)) := by simp [Program.arrayLen, Program.elem, hu]
  have hn : P.arrayLen t = n := by simp [Program.arrayLen, hu]
  have he : P.elem t = e := by simp [Program.elem, hu]
  rw [run_sliceAt_array_l w t _ ht .i64 _ (by omega) (by omega), hn, he]
  simp [sizeOf, typeInfo, hi', hi2, slicedAt, addr_add, show ¬ n = lo by omega]
theorem cut_all (h3 : 0 < n) (w : World) :
    (Instr.sliceAt t (.pointer (some ⟨g, o, none⟩)) none none none).run P w = .ok (.slice (some ⟨g, o, none⟩) n n) w := by
  obtain ⟨i, hi', hi2⟩ := Option.map_eq_some_iff.1 hs
  have ht : P.underlying t = some (.array (P.arrayLen t) (P.elem t)) := by simp [Program.arrayLen, Program.elem, hu]
  have hn : P.arrayLen t = n := by simp [Program.arrayLen, hu]
  have he : P.elem t = e := by simp [Program.elem, hu]
  rw [run_sliceAt_array_all w t _ ht, hn, he]
  simp [sizeOf, typeInfo, hi', hi2, slicedAt, addr_add, show ¬ n = 0 by omega]
end
theorem Tryd.sizeByte : (Tryd.prog.info? 5).map (·.size) = some 1 := by kernel_rfl
theorem Tryd.sizeU32 : (Tryd.prog.info? 103).map (·.size) = some 1 := by kernel_rfl
/-- The element of an array's value. -/
theorem at_agg {P : Program} {t e n : Nat} {k : IntKind} (hu : P.underlying t = some (.array n e)) (hs : (P.info? e).map (·.size) = some 1) (he : P.underlying e = some (.int k)) (cs : List Value) (j : Nat) (v : Value) (I : Int) (hI : I = (j : Int)) (hj : j < n) (hv : cs[j]? = some v) (w : World) :
    (Instr.index t (.agg cs.toArray) (.int .i64 I)).run P w = .ok v w := by
  subst hI
  obtain ⟨i, hi', hi2⟩ := Option.map_eq_some_iff.1 hs
  simp [Instr.index, asIntOf, run_underlying hu, sizeOf, typeInfo, hi', hi2, part, isAgg, run_underlying he, hv, hj]
theorem getD_lt {l : List Nat} {B : Nat} (h : ∀ x ∈ l, x < B) (h0 : 0 < B) (k : Nat) : l.getD k 0 < B := by
  rw [List.getD_eq_getElem?_getD]
  by_cases hk : k < l.length
  · rw [List.getElem?_eq_getElem hk]; exact h _ (List.getElem_mem hk)
  · rw [List.getElem?_eq_none (by omega)]; exact h0
/-- Words as the cells of a row. -/
def u32v (l : List Nat) : List Value := l.map fun (x : Nat) => Value.int .u32 (x : Int)
/-- What a new variable holds. -/
def z32 : List UInt8 := List.replicate 32 0
def z64 : List UInt8 := List.replicate 64 0
theorem z32_len : z32.length = 32 := rfl
theorem z64_len : z64.length = 64 := rfl
/-- Of what was there nothing but block g has turned. -/
def But (g : Nat) (w w' : World) : Prop := w.grownBy w' (some g)
theorem But.refl (g : Nat) (w : World) : But g w w := ⟨rfl, rfl, rfl, Nat.le_refl _, fun _ _ _ => rfl⟩
theorem But.trans {g : Nat} {a b c : World} (h : But g a b) (k : But g b c) : But g a c :=
  ⟨k.os.trans h.os, k.tape.trans h.tape, k.output.trans h.output, Nat.le_trans h.size k.size, fun i hi hn => (k.block i (Nat.lt_of_lt_of_le hi h.size) hn).trans (h.block i hi hn)⟩
theorem But.of_below {g B : Nat} {w w' : World} (h : Below B w w') (hB : w.heap.size ≤ B) : But g w w' := ⟨h.os, h.tape, h.output, h.size, fun i hi _ => h.block i (by omega)⟩
theorem But.below {g B : Nat} {a w w' : World} (h : Below B a w) (k : But g w w') (hB : B ≤ g) (hs : B ≤ w.heap.size) : Below B a w' :=
  h.trans ⟨k.os, k.tape, k.output, k.size, fun i hi => k.block i (by omega) (fun e => by injection e; omega)⟩
theorem But.below_to {g B : Nat} {a b c : World} (h : But g a b) (k : Below B b c) (hB : b.heap.size ≤ B) : But g a c := h.trans (But.of_below k hB)
theorem But.set {g i : Nat} {a w : World} (h : But g a w) (u : Value) : But g a (w.setCell ⟨g, i, none⟩ u) :=
  h.trans ⟨rfl, rfl, rfl, by simp [World.setCell], fun k _ hn => heap_setCell_other w _ k u (fun e => hn (by rw [e]))⟩
theorem But.alloc {g : Nat} {a w : World} (h : But g a w) (o : Obj) : But g a (w.alloc o) := h.trans (World.grownBy_alloc w o _)
theorem But.drew {g : Nat} {a w : World} (h : But g a w) : But g a w.drew := ⟨h.os, h.tape, h.output, h.size, h.block⟩
theorem But.row {g : Nat} {a w : World} (h : But g a w) (cs : Array Value) : But g a (w.setRow g cs) :=
  h.trans ⟨rfl, rfl, rfl, by simp [World.setRow], fun k _ hn => setRow_other w g k cs (fun e => hn (by rw [e]))⟩
theorem Byt.but {w w' : World} {g B : Nat} {A : Option Addr} {l : List UInt8} (h : Byt w B A l) (hb : But g w w') (hB : B ≤ w.heap.size) (hg : B ≤ g) : Byt w' B A l :=
  h.keep fun p hp => World.cell?_of_block (hb.block p.block (by omega) (fun e => by injection e; omega))
theorem u32v_len (l : List Nat) : (u32v l).length = l.length := by simp [u32v]
theorem u32v_at (l : List Nat) (k : Nat) : (u32v l)[k]? = l[k]?.map fun (x : Nat) => Value.int .u32 (x : Int) := by simp [u32v]
theorem u32v_set (l : List Nat) (k x : Nat) : (u32v l).set k (.int .u32 (x : Int)) = u32v (l.set k x) := by simp [u32v, List.map_set]
theorem u32v_one (l : List Nat) : ∀ u ∈ u32v l, u.oneCell' = true := by
  intro u hu
  obtain ⟨b, _, rfl⟩ := List.mem_map.1 hu
  rfl
def natAt (l : List Nat) (k : Nat) : Nat := l.getD k 0
theorem natAt_lt {l : List Nat} (h : ∀ x ∈ l, x < 4294967296) (k : Nat) : natAt l k < 4294967296 := getD_lt h (by decide) k
theorem natAt_at {l : List Nat} {n k : Nat} (h : l.length = n) (hk : k < n) : (u32v l)[k]? = some (.int .u32 ((natAt l k : Nat) : Int)) := by
  have hl : k < l.length := by omega
  simp [u32v_at, natAt, List.getElem?_eq_getElem hl]
/-- Bytes that lie outside block g. -/
def Src (w : World) (g : Nat) (A : Option Addr) (m : List UInt8) : Prop :=
  m = [] ∨ ∃ b o, A = some ⟨b, o, none⟩ ∧ b ≠ g ∧ b < w.heap.size ∧ ∀ j x, m[j]? = some x → w.cell? ⟨b, o + j, none⟩ = some (.int .u8 (x.toNat : Int))
section
variable {w w' : World} {g B : Nat} {A : Option Addr} {m : List UInt8}
theorem Src.but (h : Src w g A m) (hb : But g w w') : Src w' g A m := by
  rcases h with h | ⟨b, o, hA, hne, hlt, hc⟩
  · exact .inl h
  · exact .inr ⟨b, o, hA, hne, Nat.lt_of_lt_of_le hlt hb.size, fun j x hj => (World.cell?_of_block (w := w) (hb.block b hlt (fun e => hne (by injection e)))).trans (hc j x hj)⟩
theorem Src.byt (h : Src w g A m) : Byt w w.heap.size A m := by
  rcases h with h | ⟨b, o, hA, hne, hlt, hc⟩
  · exact .inl h
  · exact .inr ⟨b, o, hA, hlt, hc⟩
theorem Byt.toSrc (h : Byt w B A m) (hB : B ≤ w.heap.size) (hg : B ≤ g) : Src w g A m := by
  rcases h with h | ⟨b, o, hA, hlt, hc⟩
  · exact .inl h
  · exact .inr ⟨b, o, hA, by omega, by omega, hc⟩
/-- The rest of a slice. -/
theorem Src.cut (h : Src w g A m) (t c : Nat) (hc : m.length ≤ c) : Src w g (if c = t then A else A.map (·.add t)) (m.drop t) := by
  rcases h with h | ⟨b, o, rfl, hne, hlt, hcell⟩
  · subst h; exact .inl (by simp)
  · by_cases ht : c = t
    · exact .inl (List.drop_eq_nil_of_le (by omega))
    · rw [if_neg ht]
      refine .inr ⟨b, o + t, by rw [Option.map_some, addr_add], hne, hlt, fun j x hj => ?_⟩
      rw [List.getElem?_drop] at hj
      rw [Nat.add_assoc]; exact hcell _ x hj
end
theorem run_cut_l {P : Program} {T E : TypeId} (hT : P.underlying T = some (.slice E)) (hs : (P.info? E).map (·.size) = some 1) (A : Option Addr) (n c t : Nat) (L : Int) (hL : L = (t : Int)) (ht : t ≤ n) (w : World) :
    (Instr.slice T (.slice A n c) (some (.int .i64 L)) none none).run P w = .ok (.slice (if c = t then A else A.map (·.add t)) (n - t) (c - t)) w := by
  subst hL
  obtain ⟨i, hi', hi2⟩ := Option.map_eq_some_iff.1 hs
  have he : P.elem T = E := by simp [Program.elem, hT]
  rw [run_slice_l w T A n c (by rw [he]; exact hT) .i64 _ (by omega) (by omega), he]
  simp [sizeOf, typeInfo, hi', hi2, sliced]

/-- copy into a block that is known whole, as one step of a region that draws its order. -/
theorem step_copy_but {P : Program} {ops : Array Oper} {o : Oper} {a : Act} {w : World} {K : Act → World → Prop} {Q : Exit → Act → World → Prop} {E : Prop} (hgd : o.guard = none) (d s : Operand) (T : TypeId)
    (ho : o.op = .call { callee := .builtin .copy, args := #[d, s], argTypes := #[T, T] }) (elem : TypeId) (hu : P.underlying T = some (.slice elem)) (hsz : (P.info? elem).map (·.size) = some 1)
    (g off dLen dCap sLen sCap : Nat) (A : Option Addr) (hd : a.eval d = .slice (some ⟨g, off, none⟩) dLen dCap) (hs : a.eval s = .slice A sLen sCap)
    (cur : List Value) (t : TypeId) (hg : w.heap[g]? = some (.cells cur.toArray t (0, 0))) (m : List UInt8) (B : Nat) (hA : Byt w B A m) (hm : m.length = sLen) (hs0 : 0 < sLen)
    (hfit : off + dLen ≤ cur.length) (w0 : World) (hb : But g w0 w)
    (h : ∀ w', Hid (w'.heap[g]? = some (.cells (splice cur off (bv (m.take dLen))).toArray t (0, 0))) → But g w0 w' → K (a.put o.dst (.int .i64 ((min sLen dLen : Nat) : Int))) w') :
    if Region.wanted o (yielded ops a.tmps) = true then Oper.wp P o a w K Q else E := by
  have hw : Region.wanted o (yielded ops a.tmps) = true := by simp [Region.wanted, hgd]
  rw [if_pos hw]
  rcases hA with h0 | ⟨b, o', rfl, hlt, hc⟩
  · subst h0; simp at hm; omega
  · have hlen : (bv (m.take dLen)).length = Nat.min sLen dLen := by rw [bv_len, List.length_take, hm]; exact Nat.min_comm _ _
    have hsrc : ∀ j v, (bv (m.take dLen))[j]? = some v → w.cell? ((⟨b, o', none⟩ : Addr).add j) = some v := by
      intro j v hj
      rw [bv_at] at hj
      obtain ⟨x, hx, rfl⟩ := Option.map_eq_some_iff.1 hj
      rw [addr_add]
      refine hc j x ?_
      have hjl : j < dLen := by
        have := (List.getElem?_eq_some_iff.1 hx).1
        simp at this; omega
      rwa [List.getElem?_take_of_lt hjl] at hx
    have hl2 : (bv (m.take dLen)).length = min sLen dLen := hlen
    have hrun := run_copy_row (P := P) w T T o.type elem g off dLen dCap ⟨b, o', none⟩ sLen sCap cur.toArray t (bv (m.take dLen)) hu hsz hg hlen hsrc (by simp only [List.size_toArray]; omega) (bv_one _)
    unfold Oper.wp
    simp [execOp, ho, resolve, invoke, builtin, hd, hs, hrun, Result.andThen]
    have h3 := h _ (show _ = _ by simpa [splice] using setRow_heap w g _ _ t _ hg) (hb.row _)
    rw [hl2] at h3 ⊢
    exact h3
theorem Res.toSrc {w : World} {base E n c g : Nat} {A : Option Addr} {l : List UInt8} (h : Res w base E A n c l) (hg : g < base) : Src w g A l := by
  rcases h.2 with ⟨h', h0⟩ | ⟨b, cap, cur, h', hb, hcur, hnc, hcm, hcs, htake⟩
  · refine .inl (List.eq_nil_of_length_eq_zero ?_)
    have := h.len; omega
  · rcases h.byt with h1 | ⟨b', o', hA, hlt, hc⟩
    · exact .inl h1
    · simp only [Value.slice.injEq] at h'
      obtain ⟨rfl, _, _⟩ := h'
      injection hA with hA
      injection hA with hA1 hA2
      subst hA1 hA2
      exact .inr ⟨b, 0, rfl, by omega, hlt, hc⟩
theorem Res.cap {w : World} {base E n c : Nat} {A : Option Addr} {l : List UInt8} (h : Res w base E A n c l) : n ≤ c := by
  rcases h.2 with ⟨h', h0⟩ | ⟨b, cap, cur, h', hb, hcur, hnc, hcm, hcs, htake⟩
  · simp only [Value.slice.injEq] at h'; omega
  · simp only [Value.slice.injEq] at h'; omega
theorem step_load_row {P : Program} {ops : Array Oper} {o : Oper} {a : Act} {w : World} {K : Act → World → Prop} {Q : Exit → Act → World → Prop} {E : Prop} (hgd : o.guard = none) (ty : TypeId) (x : Operand) (ho : o.op = .load ty x)
    (g : Nat) (hx : a.eval x = .pointer (some ⟨g, 0, none⟩)) (t : TypeId) (cs : Array Value) (d : TypeDesc) (hg : w.heap[g]? = some (.cells cs t (0, 0)))
    (hu : P.underlying ty = some d) (hd : (match d with | .struct _ | .array _ _ => true | _ => false) = true) (hi : (P.info? ty).map (·.size) = some cs.size)
    (h : K (a.put o.dst (.agg cs)) w) : if Region.wanted o (yielded ops a.tmps) = true then Oper.wp P o a w K Q else E := by
  have hw : Region.wanted o (yielded ops a.tmps) = true := by simp [Region.wanted, hgd]
  rw [if_pos hw]
  exact wp_load_row ty x ho g hx t cs (0, 0) d hg hu hd hi h
theorem step_store_row {P : Program} {ops : Array Oper} {o : Oper} {a : Act} {w : World} {K : Act → World → Prop} {Q : Exit → Act → World → Prop} {E : Prop} (hgd : o.guard = none) (ty : TypeId) (x y : Operand) (ho : o.op = .store ty x y)
    (g : Nat) (cells : Array Value) (hx : a.eval x = .pointer (some ⟨g, 0, none⟩)) (hy : a.eval y = .agg cells) (t : TypeId) (old : Array Value) (hg : w.heap[g]? = some (.cells old t (0, 0)))
    (hi : (P.info? ty).map (·.size) = some cells.size) (hold : old.size = cells.size) (h1 : cells.all (·.oneCell') = true)
    (h : K (a.put o.dst undef) (w.setRow g cells)) : if Region.wanted o (yielded ops a.tmps) = true then Oper.wp P o a w K Q else E := by
  have hw : Region.wanted o (yielded ops a.tmps) = true := by simp [Region.wanted, hgd]
  rw [if_pos hw]
  exact wp_store_row ty x y ho g cells hx hy t old hg hi hold h1 h

theorem byt_row {w : World} {g : Nat} {l : List UInt8} {t : TypeId} (hg : w.heap[g]? = some (.cells (bv l).toArray t (0, 0))) : Byt w w.heap.size (some ⟨g, 0, none⟩) l := by
  refine .inr ⟨g, 0, rfl, (Array.getElem?_eq_some_iff.1 hg).1, fun j b hj => ?_⟩
  rw [Nat.zero_add, cell_of_row _ _ _ _ _ _ hg]
  simp only [List.getElem?_toArray, bv_at, hj]; rfl
theorem src_row {w : World} {g b : Nat} {l : List UInt8} {t : TypeId} (hg : w.heap[g]? = some (.cells (bv l).toArray t (0, 0))) (hne : g ≠ b) : Src w b (some ⟨g, 0, none⟩) l := by
  rcases byt_row hg with h | ⟨g', o', h1, h2, h3⟩
  · exact .inl h
  · injection h1 with h1
    injection h1 with h1 h1'
    subst h1 h1'
    exact .inr ⟨g, 0, rfl, hne, h2, h3⟩

end Go.Proofs.YtaklbgikoeedbaaDoor
namespace Go.Proofs.YtaklbgikoeedbaaDoor
open Go.RowKit

/-- A fact that no tactic looks into, an equation of things that can be reckoned ('contradiction' would reckon them). -/
def Vlt (p : Prop) : Prop := Unit → p
theorem Vlt.out {p : Prop} (h : Vlt p) : p := h ()
theorem vlt {p : Prop} (h : p) : Vlt p := fun _ => h
theorem Byt.take {w : World} {B : Nat} {A : Option Addr} {l : List UInt8} (h : Byt w B A l) (k : Nat) : Byt w B A (l.take k) := by
  rcases h with h | ⟨g, o, hA, hg, hc⟩
  · subst h; exact .inl (by simp)
  · refine .inr ⟨g, o, hA, hg, fun j b hj => hc j b ?_⟩
    have hjk : j < k := by
      have := (List.getElem?_eq_some_iff.1 hj).1
      simp at this; omega
    rwa [List.getElem?_take_of_lt hjk] at hj
theorem run_cut_h {P : Program} {T E : TypeId} (hT : P.underlying T = some (.slice E)) (hs : (P.info? E).map (·.size) = some 1) (A : Option Addr) (n c t : Nat) (L : Int) (hL : L = (t : Int)) (ht : t ≤ c) (w : World) :
    (Instr.slice T (.slice A n c) none (some (.int .i64 L)) none).run P w = .ok (.slice A t c) w := by
  subst hL
  obtain ⟨i, hi', hi2⟩ := Option.map_eq_some_iff.1 hs
  have he : P.elem T = E := by simp [Program.elem, hT]
  rw [run_slice_h w T A n c (by rw [he]; exact hT) .i64 _ (by omega) (by omega), he]
  cases A <;> simp [sizeOf, typeInfo, hi', hi2, sliced, Addr.add]

theorem Byt.lit_cold (w : World) (E : TypeId) (cs : Array Value) (fr : Nat × Nat) (l : List UInt8) (h : cs.toList = bv l) : Byt (w.alloc (.cells cs E fr)) (w.alloc (.cells cs E fr)).heap.size (some ⟨w.heap.size, 0, none⟩) l := by
  refine .inr ⟨w.heap.size, 0, rfl, by simp, fun j b hj => ?_⟩
  rw [Nat.zero_add, cell_of_row _ _ _ _ _ _ (heap_alloc_new w _)]
  have h1 := bv_at l j
  rw [hj, ← h] at h1
  simpa using h1
theorem run_cut_lh {P : Program} {T E : TypeId} (hT : P.underlying T = some (.slice E)) (hs : (P.info? E).map (·.size) = some 1) (A : Option Addr) (n c s t : Nat) (L H : Int) (hL : L = (s : Int)) (hH : H = (t : Int)) (hst : s ≤ t) (ht : t ≤ c) (w : World) :
    (Instr.slice T (.slice A n c) (some (.int .i64 L)) (some (.int .i64 H)) none).run P w = .ok (.slice (if c = s then A else A.map (·.add s)) (t - s) (c - s)) w := by
  subst hL hH
  obtain ⟨i, hi', hi2⟩ := Option.map_eq_some_iff.1 hs
  have he : P.elem T = E := by simp [Program.elem, hT]
  rw [run_slice_lh w T A n c (by rw [he]; exact hT) .i64 .i64 _ _ (by omega) (by omega) (by omega), he]
  simp [sizeOf, typeInfo, hi', hi2, sliced]
/-- A piece of a slice. -/
theorem Byt.cut {w : World} {B : Nat} {A : Option Addr} {l : List UInt8} (h : Byt w B A l) (s c : Nat) (hc : l.length ≤ c) : Byt w B (if c = s then A else A.map (·.add s)) (l.drop s) := by
  rcases h with h | ⟨b, o, rfl, hlt, hcell⟩
  · subst h; exact .inl (by simp)
  · by_cases ht : c = s
    · exact .inl (List.drop_eq_nil_of_le (by omega))
    · rw [if_neg ht]
      refine .inr ⟨b, o + s, by rw [Option.map_some, addr_add], hlt, fun j x hj => ?_⟩
      rw [List.getElem?_drop] at hj
      rw [Nat.add_assoc]; exact hcell _ x hj
/-- append onto bytes that have no room left: a new row. -/
theorem wp_append_grow {P : Program} (w : World) {ops : Array Oper} {rest : List Oper} {o : Oper} {a : Act} {Q : Exit → Act → World → Prop} (hgd : o.guard = none) (s x : Operand) (T : TypeId)
    (ho : o.op = .call { callee := .builtin .append, args := #[s, x], argTypes := #[T, T] }) (E : TypeId) (hT : P.underlying T = some (.slice E))
    (hI : (P.info? E).map (fun i => (i.zero, i.size, i.bytes)) = some (some (.int .u8 0), 1, 1)) (bo : Addr) (n c : Nat) (l : List UInt8) (hs : a.eval s = .slice (some bo) n c) (hl0 : l.length = n) (hb : ∀ j u, (bv l)[j]? = some u → w.cell? (bo.add j) = some u)
    (ad : Addr) (m c2 : Nat) (hx : a.eval x = .slice (some ad) m c2) (news : List UInt8) (hl : news.length = m) (hnews : ∀ j u, (bv news)[j]? = some u → w.cell? (ad.add j) = some u) (hfull : c < n + m) (hsz : n + m ≤ 140737488355328)
    (h : ∀ A' c' w', Res w' w.heap.size E A' (n + m) c' (l ++ news) → Below w.heap.size w w' → wpList P ops Q rest (a.put o.dst (.slice A' (n + m) c')) w') : wpList P ops Q (o :: rest) a w := by
  obtain ⟨i, hi, hz, h1, h2⟩ := info_parts hI
  refine wpList_append_grows w hgd s x T ho E i (.int .u8 0) 1 1 hT hi hz h1 h2 rfl (by decide) (some bo) n c (bv l) hs (fun e => by cases e) (by rw [bv_len]; omega) (fun b e j u hj => by injection e with e; subst e; exact hb j u hj) ad m c2 (bv news) hx (by rw [bv_len]; omega) hnews (bv_one _) hfull (by unfold maxLen; omega) (by omega) ?_
  intro v' w' hown hgr
  rw [← bv_app] at hown
  obtain ⟨A', c', rfl, hres⟩ := Res.of v' hown
  exact h A' c' w' hres ⟨hgr.os, hgr.tape, hgr.output, hgr.size, fun k hk => hgr.block k hk (by simp)⟩
theorem cells_at {w : World} {B : Nat} {b : Addr} {l : List UInt8} (h : Byt w B (some b) l) : ∀ j u, (bv l)[j]? = some u → w.cell? (b.add j) = some u := by
  intro j u hj
  obtain ⟨_, ad, he, hc⟩ := h.src (some b) b rfl (Nat.lt_of_le_of_lt (Nat.zero_le _) (List.getElem?_eq_some_iff.1 hj).1)
  injection he with he
  subst he
  exact hc j u hj
/-- Three new blocks. -/
theorem three_new (w : World) (a b c : Array Value) (s t u : TypeId) :
    ∃ W, ((w.alloc (.cells a s)).alloc (.cells b t)).alloc (.cells c u) = W ∧ Hid (W.heap[w.heap.size]? = some (.cells a s (0, 0))) ∧ Hid (W.heap[w.heap.size + 1]? = some (.cells b t (0, 0))) ∧ Hid (W.heap[w.heap.size + 2]? = some (.cells c u (0, 0))) ∧ Below w.heap.size w W ∧ Hid (W.heap.size = w.heap.size + 3) := by
  refine ⟨_, rfl, show _ = _ from ?_, show _ = _ from ?_, show _ = _ from ?_, (((Below.refl _ _).alloc (Nat.le_refl _) _).alloc (by simp) _).alloc (by simp; omega) _, show _ = _ by simp⟩
  · rw [Below.heap_alloc _ _ _ (by simp; omega)]; exact heap_alloc2_old _ _ _
  · rw [Below.heap_alloc _ _ _ (by simp)]; exact heap_alloc2_new _ _ _
  · have h := heap_alloc_new ((w.alloc (.cells a s)).alloc (.cells b t)) (.cells c u)
    have e : ((w.alloc (.cells a s)).alloc (.cells b t)).heap.size = w.heap.size + 2 := by simp
    rw [e] at h; exact h
/-- Words, and noughts up to n; bytes likewise. -/
def uptoW (n : Nat) (l : List Nat) : List Nat := l ++ List.replicate (n - l.length) 0
theorem uptoW_len (n : Nat) (l : List Nat) (h : l.length ≤ n) : (uptoW n l).length = n := by simp [uptoW]; omega
theorem uptoW_all (n : Nat) (l : List Nat) (h : l.length = n) : uptoW n l = l := by simp [uptoW, h]
theorem uptoW_set (n : Nat) (l : List Nat) (x : Nat) (h : l.length < n) : (uptoW n l).set l.length x = uptoW n (l ++ [x]) := by
  obtain ⟨m, hm⟩ : ∃ m, n - l.length = m + 1 := ⟨n - l.length - 1, by omega⟩
  rw [uptoW, uptoW, List.set_append_right _ _ (Nat.le_refl _), Nat.sub_self, hm, List.replicate_succ, List.set_cons_zero, List.length_append, List.append_assoc]
  congr 3
  simp; omega
theorem uptoW_at (n : Nat) (l : List Nat) (h : l.length < n) : (uptoW n l)[l.length]? = some 0 := by
  rw [uptoW, List.getElem?_append_right (Nat.le_refl _), List.getElem?_replicate, if_pos (by omega)]
def uptoB (n : Nat) (l : List UInt8) : List UInt8 := l ++ List.replicate (n - l.length) 0
theorem uptoB_all (n : Nat) (l : List UInt8) (h : l.length = n) : uptoB n l = l := by simp [uptoB, h]
theorem uptoB_len (n : Nat) (l : List UInt8) (h : l.length ≤ n) : (uptoB n l).length = n := by simp [uptoB]; omega
theorem uptoB_splice (n : Nat) (l x : List UInt8) (h : l.length + x.length ≤ n) : splice (bv (uptoB n l)) l.length (bv x) = bv (uptoB n (l ++ x)) := by
  have e : List.drop (l.length + x.length) (uptoB n l) = List.replicate (n - (l.length + x.length)) 0 := by
    rw [uptoB, List.drop_append, List.drop_of_length_le (by omega), List.nil_append, List.drop_replicate]
    congr 1; omega
  rw [splice, bv_take, bv_len]
  have e2 : List.drop (l.length + x.length) (bv (uptoB n l)) = bv (List.drop (l.length + x.length) (uptoB n l)) := by simp [bv, List.map_drop]
  have e3 : List.take l.length (uptoB n l) = l := by rw [uptoB, List.take_append_of_le_length (Nat.le_refl _), List.take_length]
  rw [e2, e, e3, uptoB, bv_app, bv_app, List.length_append, List.append_assoc]
end Go.Proofs.YtaklbgikoeedbaaDoor
namespace Go.Proofs.YtaklbgikoeedbaaDoor
open Go.RowKit

/-- Of what was there nothing has turned outside F. -/
structure Off (F : Nat → Prop) (w w' : World) : Prop where
  os : w'.os = w.os
  tape : w'.tape = w.tape
  output : w'.output = w.output
  size : w.heap.size ≤ w'.heap.size
  block : ∀ k, k < w.heap.size → ¬ F k → w'.heap[k]? = w.heap[k]?
section
variable {F G : Nat → Prop} {a w w' : World} {B g : Nat}
theorem Off.refl (F : Nat → Prop) (w : World) : Off F w w := ⟨rfl, rfl, rfl, Nat.le_refl _, fun _ _ _ => rfl⟩
/-- Two steps; what the second one calls its own was the first one's, or is new. -/
theorem Off.trans (h : Off F a w) (k : Off G w w') (hG : ∀ i, G i → F i ∨ a.heap.size ≤ i) : Off F a w' :=
  ⟨k.os.trans h.os, k.tape.trans h.tape, k.output.trans h.output, Nat.le_trans h.size k.size, fun i hi hn =>
    (k.block i (Nat.lt_of_lt_of_le hi h.size) (fun hg => by rcases hG i hg with h | h; exact hn h; omega)).trans (h.block i hi hn)⟩
theorem Off.mono (h : Off F a w) (hG : ∀ i, i < a.heap.size → F i → G i) : Off G a w := ⟨h.os, h.tape, h.output, h.size, fun i hi hn => h.block i hi fun hf => hn (hG i hi hf)⟩
theorem Off.of_below (h : Below B w w') (hF : ∀ i, i < w.heap.size → B ≤ i → F i) : Off F w w' := ⟨h.os, h.tape, h.output, h.size, fun i hi hn => h.block i (by
  rcases Nat.lt_or_ge i B with h | h
  · exact h
  · exact absurd (hF i hi h) hn)⟩
theorem Off.of_but (h : But g w w') (hF : F g) : Off F w w' := ⟨h.os, h.tape, h.output, h.size, fun i hi hn => h.block i hi fun e => by injection e with e; subst e; exact hn hF⟩
theorem Off.next (h : Off F a w) (k : Below w.heap.size w w') : Off F a w' := h.trans (G := fun _ => False) (Off.of_below k fun i hi hB => by omega) fun _ h => h.elim
theorem Off.drew (h : Off F a w) : Off F a w.drew := ⟨h.os, h.tape, h.output, h.size, h.block⟩
theorem Off.alloc (h : Off F a w) (o : Obj) : Off F a (w.alloc o) := h.next ((Below.refl _ _).alloc (Nat.le_refl _) o)
theorem Off.set (h : Off F a w) {i : Nat} (hg : F g ∨ a.heap.size ≤ g) (u : Value) : Off F a (w.setCell ⟨g, i, none⟩ u) :=
  h.trans (G := fun k => k = g) (Off.of_but ((But.refl g w).set u) rfl) fun k hk => by rw [hk]; exact hg
theorem Off.row (h : Off F a w) (hg : F g ∨ a.heap.size ≤ g) (cs : Array Value) : Off F a (w.setRow g cs) :=
  h.trans (G := fun k => k = g) (Off.of_but ((But.refl g w).row cs) rfl) fun k hk => by rw [hk]; exact hg
/-- Below B, if all of F lies from B on. -/
theorem Off.below (k : Off F w w') (h : Below B a w) (hF : ∀ i, F i → B ≤ i) (hs : B ≤ w.heap.size) : Below B a w' :=
  h.trans ⟨k.os, k.tape, k.output, k.size, fun i hi => k.block i (by omega) fun hf => by have := hF i hf; omega⟩
theorem Off.cell (h : Off F w w') {p : Addr} (hp : p.block < w.heap.size) (hF : ¬ F p.block) : w'.cell? p = w.cell? p := World.cell?_of_block (h.block p.block hp hF)
end
theorem Byt.off {F : Nat → Prop} {w w' : World} {B : Nat} {A : Option Addr} {l : List UInt8} (h : Byt w B A l) (hb : Off F w w') (hB : B ≤ w.heap.size) (hF : ∀ i, i < B → ¬ F i) : Byt w' B A l :=
  h.keep fun p hp => hb.cell (by omega) (hF _ hp)

/-- Bytes in a block of F. -/
def BytF (w : World) (F : Nat → Prop) (A : Option Addr) (l : List UInt8) : Prop :=
  l = [] ∨ ∃ g o, A = some ⟨g, o, none⟩ ∧ F g ∧ g < w.heap.size ∧ ∀ j b, l[j]? = some b → w.cell? ⟨g, o + j, none⟩ = some (.int .u8 (b.toNat : Int))
section
variable {F G : Nat → Prop} {w w' : World} {A : Option Addr} {l : List UInt8} {ps : List (List UInt8)} {base n c : Nat} {E : TypeId}
theorem BytF.none_ : BytF w F A [] := .inl rfl
theorem BytF.byt (h : BytF w F A l) : Byt w w.heap.size A l := by
  rcases h with h | ⟨g, o, hA, _, hg, hc⟩
  · exact .inl h
  · exact .inr ⟨g, o, hA, hg, hc⟩
theorem BytF.mono (h : BytF w F A l) (hG : ∀ i, i < w.heap.size → F i → G i) : BytF w G A l := by
  rcases h with h | ⟨g, o, hA, hF, hg, hc⟩
  · exact .inl h
  · exact .inr ⟨g, o, hA, hG g hg hF, hg, hc⟩
/-- What turns lies elsewhere. -/
theorem BytF.off (h : BytF w F A l) (hb : Off G w w') (hd : ∀ i, i < w.heap.size → F i → ¬ G i) : BytF w' F A l := by
  rcases h with h | ⟨g, o, hA, hF, hg, hc⟩
  · exact .inl h
  · exact .inr ⟨g, o, hA, hF, Nat.lt_of_lt_of_le hg hb.size, fun j b hj => (hb.cell (p := ⟨g, o + j, none⟩) hg (hd g hg hF)).trans (hc j b hj)⟩
theorem BytF.take (h : BytF w F A l) (k : Nat) : BytF w F A (l.take k) := by
  rcases h with h | ⟨g, o, hA, hF, hg, hc⟩
  · subst h; exact .inl (by simp)
  · refine .inr ⟨g, o, hA, hF, hg, fun j b hj => hc j b ?_⟩
    have hjk : j < k := by
      have := (List.getElem?_eq_some_iff.1 hj).1
      simp at this; omega
    rwa [List.getElem?_take_of_lt hjk] at hj
/-- A result of a call. -/
theorem Res.inF (h : Res w base E A n c l) (hF : ∀ i, base ≤ i → F i) : BytF w F A l := by
  rcases h.byt with h0 | ⟨g, o, hA, hg, hc⟩
  · exact .inl h0
  · rcases h.2 with ⟨h', h0⟩ | ⟨b, cap, cur, h', hb, _⟩
    · simp only [Value.slice.injEq] at h'
      rw [hA] at h'; exact absurd h'.1 (by simp)
    · simp only [Value.slice.injEq] at h'
      obtain ⟨h1, _, _⟩ := h'
      rw [hA] at h1
      injection h1 with h1
      injection h1 with h1 _
      subst h1
      exact .inr ⟨g, o, hA, hF g hb, hg, hc⟩
/-- Lists of bytes, each in blocks of F. -/
def PrtF (w : World) (F : Nat → Prop) (A : Option Addr) (ps : List (List UInt8)) : Prop :=
  ps = [] ∨ ∃ g o, A = some ⟨g, o, none⟩ ∧ F g ∧ g < w.heap.size ∧ ∀ j p, ps[j]? = some p → ∃ Aj nj cj, w.cell? ⟨g, o + j, none⟩ = some (.slice Aj nj cj) ∧ p.length = nj ∧ nj ≤ cj ∧ BytF w F Aj p
theorem PrtF.mono (h : PrtF w F A ps) (hG : ∀ i, i < w.heap.size → F i → G i) : PrtF w G A ps := by
  rcases h with h | ⟨g, o, hA, hF, hg, hc⟩
  · exact .inl h
  · refine .inr ⟨g, o, hA, hG g hg hF, hg, fun j p hj => ?_⟩
    obtain ⟨Aj, nj, cj, h1, h2, h3, h4⟩ := hc j p hj
    exact ⟨Aj, nj, cj, h1, h2, h3, h4.mono hG⟩
theorem PrtF.off (h : PrtF w F A ps) (hb : Off G w w') (hd : ∀ i, i < w.heap.size → F i → ¬ G i) : PrtF w' F A ps := by
  rcases h with h | ⟨g, o, hA, hF, hg, hc⟩
  · exact .inl h
  · refine .inr ⟨g, o, hA, hF, Nat.lt_of_lt_of_le hg hb.size, fun j p hj => ?_⟩
    obtain ⟨Aj, nj, cj, h1, h2, h3, h4⟩ := hc j p hj
    exact ⟨Aj, nj, cj, (hb.cell (p := ⟨g, o + j, none⟩) hg (hd g hg hF)).trans h1, h2, h3, h4.off hb hd⟩
end
end Go.Proofs.YtaklbgikoeedbaaDoor
namespace Go.Proofs.YtaklbgikoeedbaaDoor
open Go.RowKit

/-- Numbers of type int as the cells of a row. -/
def iv (l : List Nat) : List Value := l.map fun (x : Nat) => Value.int .i64 (x : Int)
theorem iv_len (l : List Nat) : (iv l).length = l.length := by simp [iv]
theorem iv_app (l m : List Nat) : iv (l ++ m) = iv l ++ iv m := by simp [iv]
theorem iv_at (l : List Nat) (k : Nat) : (iv l)[k]? = l[k]?.map fun (x : Nat) => Value.int .i64 (x : Int) := by simp [iv]
theorem iv_set (l : List Nat) (k x : Nat) : (iv l).set k (.int .i64 (x : Int)) = iv (l.set k x) := by simp [iv, List.map_set]
theorem iv_one (l : List Nat) : ∀ u ∈ iv l, u.oneCell' = true := by
  intro u hu
  obtain ⟨b, _, rfl⟩ := List.mem_map.1 hu
  rfl

/-- The row of a slice lies in K. -/
def AtF (K : Nat → Prop) (A : Option Addr) : Prop := ∀ a, A = some a → K a.block
theorem AtF.none_ (K : Nat → Prop) : AtF K none := fun _ h => by cases h
theorem AtF.mono {K G : Nat → Prop} {A : Option Addr} (h : AtF K A) (hG : ∀ i, K i → G i) : AtF G A := fun a ha => hG _ (h a ha)

/-- append(own, news..): the row is the old one or a new one. -/
theorem append_at {P : Program} (w : World) {t ty e : TypeId} {z : Value} {bytes : Nat} (ht : P.underlying t = some (.slice e)) (hI : (P.info? e).map (fun i => (i.zero, i.size, i.bytes)) = some (some z, 1, bytes)) (hz : z.cells.size = 1)
    {A : Option Addr} {n c : Nat} {xs : List Value} (hown : w.ownsRow 0 e 1 (.slice A n c) n xs) (a : Addr) (m c2 : Nat) (news : List Value) (hl : news.length = m) (hnews : ∀ j u, news[j]? = some u → w.cell? (a.add j) = some u) (h1 : ∀ u ∈ news, u.oneCell' = true)
    (hsz : (n + m) * 8 ≤ 140737488355328) (hby : bytes ≤ 8) :
    ∃ A' c' w', (Builtin.append_ #[t, t] ty #[.slice A n c, .slice (some a) m c2]).run P w = .ok (.slice A' (n + m) c') w' ∧ w'.ownsRow 0 e 1 (.slice A' (n + m) c') (n + m) (xs ++ news) ∧ w.grownBy w' ((A.map (·.block))) ∧
      (∀ p, A' = some p → (∃ q, A = some q ∧ p.block = q.block) ∨ w.heap.size ≤ p.block) := by
  obtain ⟨i, hi, hz1, hz2, hz3⟩ := info_parts hI
  have hmx : n + m ≤ maxLen := by unfold maxLen; omega
  have hby2 : (n + m) * bytes ≤ 140737488355328 := Nat.le_trans (Nat.mul_le_mul_left _ hby) hsz
  obtain ⟨v', w', hrun, hown', hgr, _⟩ := run_append_own (P := P) w 0 t ty e i z 1 bytes ht hi hz1 hz2 hz3 hz (by decide) _ n xs hown a m c2 news (by omega) hnews h1 hmx hby2 (Nat.zero_le _)
  have hv : ∃ A' c', v' = .slice A' (n + m) c' := by
    rcases hown'.2 with ⟨rfl, h0⟩ | ⟨g, cap, cur, rfl, _⟩
    · exact ⟨none, 0, by rw [h0]⟩
    · exact ⟨_, _, rfl⟩
  obtain ⟨A', c', rfl⟩ := hv
  have hgr2 : w.grownBy w' (A.map (·.block)) := by cases A <;> exact hgr
  refine ⟨A', c', w', hrun, hown', hgr2, fun p hp => ?_⟩
  subst hp
  rcases hown.2 with ⟨hv, h0⟩ | ⟨g, cap, cur, hv, _, hg, hle, hcm, hcs, htk⟩
  · obtain ⟨v2, w2, hrun2, hown2, _, _⟩ := run_append_own (P := P) w w.heap.size t ty e i z 1 bytes ht hi hz1 hz2 hz3 hz (by decide) _ n xs (⟨hown.1, .inl ⟨hv, h0⟩⟩ : w.ownsRow w.heap.size e 1 (.slice A n c) n xs) a m c2 news (by omega) hnews h1 hmx hby2 (Nat.le_refl _)
    rw [hrun] at hrun2
    injection hrun2 with e1 e2
    subst e1 e2
    rcases hown2.2 with ⟨h, _⟩ | ⟨g, _, _, h, hb, _⟩
    · simp at h
    · simp only [Value.slice.injEq, Option.some.injEq] at h
      right; rw [h.1]; exact hb
  · simp only [Value.slice.injEq] at hv
    obtain ⟨rfl, _, rfl⟩ := hv
    by_cases hroom : n + m ≤ c
    · have hr := run_append_room (P := P) w t ty e i ht hi g n c cur hg a m c2 news (by rw [hz2]; omega) hnews h1 hroom (by rw [hz2]; omega)
      rw [hrun] at hr
      injection hr with e1 _
      simp only [Value.slice.injEq, Option.some.injEq] at e1
      left; exact ⟨_, rfl, by rw [e1.1]⟩
    · have hr := run_append_grow (P := P) w t ty e i z ht hi hz1 ⟨g, 0, none⟩ n c xs (by rw [hz2]; exact hown.1) (hown.cells (g := g) rfl) a m c2 news (by rw [hz2]; omega) hnews (by omega) (by omega) (growslice_fits (by omega) (by rw [hz3]; exact hby2))
      rw [hrun] at hr
      injection hr with e1 _
      simp only [Value.slice.injEq, Option.some.injEq] at e1
      right; rw [e1.1]; exact Nat.le_refl _

theorem wp_append_at {P : Program} (w : World) {ops : Array Oper} {rest : List Oper} {o : Oper} {a : Act} {Q : Exit → Act → World → Prop} (hgd : o.guard = none) (s x : Operand) (T : TypeId)
    (ho : o.op = .call { callee := .builtin .append, args := #[s, x], argTypes := #[T, T] }) (E : TypeId) (hT : P.underlying T = some (.slice E)) (z : Value) (bytes : Nat)
    (hI : (P.info? E).map (fun i => (i.zero, i.size, i.bytes)) = some (some z, 1, bytes)) (hz : z.cells.size = 1) (hby : bytes ≤ 8) (A : Option Addr) (n c : Nat) (xs : List Value) (hs : a.eval s = .slice A n c) (hown : w.ownsRow 0 E 1 (.slice A n c) n xs)
    (D : Option Addr) (m c2 : Nat) (hx : a.eval x = .slice D m c2) (news : List Value) (hsrc : news ≠ [] → ∃ d, D = some d ∧ ∀ j u, news[j]? = some u → w.cell? (d.add j) = some u) (h1 : ∀ u ∈ news, u.oneCell' = true) (hl : news.length = m) (hsz : (n + m) * 8 ≤ 140737488355328)
    (h : ∀ A' c' w', w'.ownsRow 0 E 1 (.slice A' (n + m) c') (n + m) (xs ++ news) → w.grownBy w' (A.map (·.block)) → (∀ p, A' = some p → (∃ q, A = some q ∧ p.block = q.block) ∨ w.heap.size ≤ p.block) → wpList P ops Q rest (a.put o.dst (.slice A' (n + m) c')) w') : wpList P ops Q (o :: rest) a w := by
  refine wpList_plain hgd fun K hK => ?_
  cases D with
  | some d =>
    have hnews : ∀ j u, news[j]? = some u → w.cell? (d.add j) = some u := fun j u hj => by
      obtain ⟨d', hd, hc⟩ := hsrc (by intro e; subst e; simp at hj)
      injection hd with hd
      subst hd
      exact hc j u hj
    obtain ⟨A', c', w', hrun, h2, h3, h4⟩ := append_at (P := P) (ty := o.type) w hT hI hz hown d m c2 news hl hnews h1 hsz hby
    unfold Oper.wp
    simp only [execOp, ho, resolve, invoke, builtin, Sem.run_bind, Sem.run_pure, Result.andThen_ok, List.map_toArray, List.map_cons, List.map_nil, hs, hx, hrun]
    exact hK _ _ (h A' c' w' h2 h3 h4)
  | none =>
    have hn : news = [] := by
      rcases Classical.em (news = []) with h | h
      · exact h
      · obtain ⟨_, h, _⟩ := hsrc h; cases h
    subst hn
    subst hl
    obtain ⟨i, hi, _⟩ := info_parts hI
    have hrun := append_nothing (P := P) (ty := o.type) (c := c2) w hT hi hown
    unfold Oper.wp
    simp only [execOp, ho, resolve, invoke, builtin, Sem.run_bind, Sem.run_pure, Result.andThen_ok, List.map_toArray, List.map_cons, List.map_nil, hs, hx, List.length_nil, hrun]
    refine hK _ _ ?_
    have h2 := h A c w (by simpa using hown) ⟨rfl, rfl, rfl, Nat.le_refl _, fun _ _ _ => rfl⟩ (fun p hp => .inl ⟨p, hp, rfl⟩)
    simpa using h2
end Go.Proofs.YtaklbgikoeedbaaDoor
namespace Go.Proofs.YtaklbgikoeedbaaDoor

/-- A file: its safe bytes, the writes behind them (those from number 63 on may be joined, but for the last: wr). -/
structure Fl where
  safe : List UInt8
  gs : List (List UInt8)
def Fl.all (f : Fl) : List UInt8 := f.safe ++ f.gs.flatten
/-- Where each piece begins, the first at a. -/
def offs : Nat → List (List UInt8) → List Nat
  | _, [] => []
  | a, g :: r => a :: offs (a + g.length) r
def Fl.st (f : Fl) : List Nat := offs f.safe.length f.gs
def wr (gs : List (List UInt8)) (b : List UInt8) : List (List UInt8) := if 64 < gs.length then gs.take 63 ++ [(gs.drop 63).flatten, b] else gs ++ [b]
def stays (keep k : Nat) : Bool := keep / 2 ^ min k 63 % 2 == 1
/-- What is lost turns into noughts. -/
def zs (keep : Nat) : Nat → List (List UInt8) → List (List UInt8)
  | _, [] => []
  | k, g :: r => (if stays keep k then g else List.replicate g.length 0) :: zs keep (k + 1) r
/-- How much is left of the bytes. -/
def lefts (keep torn : Nat) : Nat → Nat → Nat → List (List UInt8) → Nat
  | _, _, c, [] => c
  | k, a, c, g :: r => lefts keep torn (k + 1) (a + g.length) (if stays keep k then a + g.length - min torn g.length else c) r
def fallen (keep torn : Nat) (f : Fl) : List UInt8 := (f.safe ++ (zs keep 0 f.gs).flatten).take (lefts keep torn 0 f.safe.length f.safe.length f.gs)
def Fl.fall (keep torn : Nat) (f : Fl) : Fl := ⟨fallen keep torn f, []⟩
def Fl.sync (f : Fl) : Fl := ⟨f.all, []⟩
def Fl.write (f : Fl) (b : List UInt8) : Fl := ⟨f.safe, wr f.gs b⟩

theorem offs_len : ∀ (a : Nat) (l : List (List UInt8)), (offs a l).length = l.length
  | _, [] => rfl
  | a, g :: r => by simp [offs, offs_len (a + g.length) r]
theorem offs_app : ∀ (a : Nat) (l m : List (List UInt8)), offs a (l ++ m) = offs a l ++ offs (a + l.flatten.length) m
  | _, [], _ => by simp [offs]
  | a, g :: r, m => by simp [offs, offs_app (a + g.length) r m, Nat.add_assoc]
theorem offs_at (a : Nat) (l : List (List UInt8)) (i : Nat) (h : i < l.length) : (offs a l)[i]? = some (a + (l.take i).flatten.length) := by
  have e : l = l.take i ++ l.drop i := (List.take_append_drop i l).symm
  have h2 : (offs a (l.take i ++ l.drop i))[i]? = some (a + (l.take i).flatten.length) := by
    rw [offs_app, List.getElem?_append_right (by rw [offs_len, List.length_take]; omega), offs_len, List.length_take, Nat.min_eq_left (by omega), Nat.sub_self]
    cases hd : l.drop i with
    | nil => have := congrArg List.length hd; simp at this; omega
    | cons x r => simp [offs]
  rw [← e] at h2; exact h2
theorem zs_len : ∀ (keep k : Nat) (l : List (List UInt8)), (zs keep k l).length = l.length
  | _, _, [] => rfl
  | keep, k, g :: r => by simp [zs, zs_len keep (k + 1) r]
theorem zs_flat_len : ∀ (keep k : Nat) (l : List (List UInt8)), (zs keep k l).flatten.length = l.flatten.length
  | _, _, [] => rfl
  | keep, k, g :: r => by
    have h := zs_flat_len keep (k + 1) r
    by_cases hs : stays keep k = true <;> simp [zs, hs] <;> simp at h <;> omega
theorem zs_app : ∀ (keep k : Nat) (l m : List (List UInt8)), zs keep k (l ++ m) = zs keep k l ++ zs keep (k + l.length) m
  | _, _, [], _ => by simp [zs]
  | keep, k, g :: r, m => by simp [zs, zs_app keep (k + 1) r m, Nat.add_assoc, Nat.add_comm 1]
theorem lefts_app : ∀ (keep torn k a c : Nat) (l m : List (List UInt8)), lefts keep torn k a c (l ++ m) = lefts keep torn (k + l.length) (a + l.flatten.length) (lefts keep torn k a c l) m
  | _, _, _, _, _, [], _ => by simp [lefts]
  | keep, torn, k, a, c, g :: r, m => by simp [lefts, lefts_app keep torn (k + 1) (a + g.length) _ r m, Nat.add_assoc, Nat.add_comm 1]
/-- What is left lies between what was safe and what is there. -/
theorem lefts_le : ∀ (keep torn k a c b : Nat) (l : List (List UInt8)), b ≤ c → c ≤ a → b ≤ a → b ≤ lefts keep torn k a c l ∧ lefts keep torn k a c l ≤ a + l.flatten.length
  | _, _, _, _, _, _, [], h1, h2, _ => by simp [lefts]; exact ⟨h1, h2⟩
  | keep, torn, k, a, c, b, g :: r, h1, h2, h3 => by
    by_cases hs : stays keep k = true
    · have h := lefts_le keep torn (k + 1) (a + g.length) (a + g.length - min torn g.length) b r (by omega) (by omega) (by omega)
      simp only [lefts, hs, if_true, List.flatten_cons, List.length_append]
      omega
    · have h := lefts_le keep torn (k + 1) (a + g.length) c b r (by omega) (by omega) (by omega)
      simp only [lefts, hs, List.flatten_cons, List.length_append]
      simp only [Bool.false_eq_true, if_false]
      omega
theorem wr_flat (gs : List (List UInt8)) (b : List UInt8) : (wr gs b).flatten = gs.flatten ++ b := by
  unfold wr
  split
  · have e : gs.flatten = (gs.take 63).flatten ++ (gs.drop 63).flatten := by rw [← List.flatten_append, List.take_append_drop]
    rw [e]; simp
  · simp
theorem wr_len (gs : List (List UInt8)) (b : List UInt8) (h : gs.length ≤ 65) : (wr gs b).length ≤ 65 := by
  unfold wr
  split
  · simp; omega
  · simp; omega
theorem write_all (f : Fl) (b : List UInt8) : (f.write b).all = f.all ++ b := by simp [Fl.write, Fl.all, wr_flat]
theorem write_st_few (f : Fl) (b : List UInt8) (h : f.gs.length ≤ 64) : (f.write b).st = f.st ++ [f.all.length] := by
  have hn : ¬ 64 < f.gs.length := by omega
  simp [Fl.write, Fl.st, wr, hn, offs_app, offs, Fl.all]
theorem write_st_many (f : Fl) (b : List UInt8) (h : f.gs.length = 65) : (f.write b).st = f.st.set 64 f.all.length := by
  have hn : 64 < f.gs.length := by omega
  have e : f.gs = f.gs.take 63 ++ f.gs.drop 63 := (List.take_append_drop 63 f.gs).symm
  have hd : (f.gs.drop 63).length = 2 := by simp; omega
  obtain ⟨x, y, hxy⟩ : ∃ x y, f.gs.drop 63 = [x, y] := by
    match hm : f.gs.drop 63, hd with
    | [x, y], _ => exact ⟨x, y, rfl⟩
  have ht : (f.gs.take 63).length = 63 := by simp; omega
  have e1 : f.st = offs f.safe.length (f.gs.take 63 ++ [x, y]) := by rw [← hxy, ← e]; rfl
  have e2 : f.all = f.safe ++ (f.gs.take 63 ++ [x, y]).flatten := by rw [← hxy, ← e]; rfl
  have e3 : (f.write b).st = offs f.safe.length (f.gs.take 63 ++ [x ++ y, b]) := by simp [Fl.write, Fl.st, wr, hn, hxy]
  rw [e1, e2, e3, offs_app, offs_app, List.set_append_right _ _ (by rw [offs_len, ht]; decide), offs_len, ht]
  simp [offs, Nat.add_assoc]
theorem st_len (f : Fl) : f.st.length = f.gs.length := offs_len _ _
theorem st_at (f : Fl) (i : Nat) (h : i < f.gs.length) : f.st[i]? = some (f.safe.length + (f.gs.take i).flatten.length) := offs_at _ _ i h
theorem all_len (f : Fl) : f.all.length = f.safe.length + f.gs.flatten.length := by simp [Fl.all]
theorem sync_st (f : Fl) : f.sync.st = [] := rfl
theorem sync_all (f : Fl) : f.sync.all = f.all := by simp [Fl.sync, Fl.all]
theorem fall_st (keep torn : Nat) (f : Fl) : (f.fall keep torn).st = [] := rfl
theorem fall_all (keep torn : Nat) (f : Fl) : (f.fall keep torn).all = fallen keep torn f := by simp [Fl.fall, Fl.all]
theorem fallen_none (keep torn : Nat) (f : Fl) (h : f.gs = []) : fallen keep torn f = f.all := by simp [fallen, Fl.all, h, zs, lefts]
/-- After i pieces: the bytes, and what is left of them. -/
def zsBytes (keep : Nat) (f : Fl) (i : Nat) : List UInt8 := f.safe ++ (zs keep 0 (f.gs.take i)).flatten ++ (f.gs.drop i).flatten
def leftAt (keep torn : Nat) (f : Fl) (i : Nat) : Nat := lefts keep torn 0 f.safe.length f.safe.length (f.gs.take i)
theorem zsBytes_zero (keep : Nat) (f : Fl) : zsBytes keep f 0 = f.all := by simp [zsBytes, zs, Fl.all]
theorem leftAt_zero (keep torn : Nat) (f : Fl) : leftAt keep torn f 0 = f.safe.length := by simp [leftAt, lefts]
theorem fallen_is (keep torn : Nat) (f : Fl) : fallen keep torn f = (zsBytes keep f f.gs.length).take (leftAt keep torn f f.gs.length) := by simp [fallen, zsBytes, leftAt]
theorem zsBytes_len (keep : Nat) (f : Fl) (i : Nat) : (zsBytes keep f i).length = f.all.length := by
  have h := zs_flat_len keep 0 (f.gs.take i)
  have e : f.gs.flatten.length = (f.gs.take i).flatten.length + (f.gs.drop i).flatten.length := by rw [← List.length_append, ← List.flatten_append, List.take_append_drop]
  unfold zsBytes
  rw [List.length_append, List.length_append, h, all_len]
  omega
theorem leftAt_le (keep torn : Nat) (f : Fl) (i : Nat) : f.safe.length ≤ leftAt keep torn f i ∧ leftAt keep torn f i ≤ f.safe.length + (f.gs.take i).flatten.length :=
  lefts_le keep torn 0 f.safe.length f.safe.length f.safe.length (f.gs.take i) (Nat.le_refl _) (Nat.le_refl _) (Nat.le_refl _)
theorem flat_take_le (l : List (List UInt8)) (i : Nat) : (l.take i).flatten.length ≤ l.flatten.length := by
  have e : l.flatten.length = (l.take i).flatten.length + (l.drop i).flatten.length := by rw [← List.length_append, ← List.flatten_append, List.take_append_drop]
  omega
theorem take_next (l : List (List UInt8)) (i : Nat) (h : i < l.length) : l.take (i + 1) = l.take i ++ [l[i]] := by rw [List.take_add_one, List.getElem?_eq_getElem h]; rfl
theorem drop_flat (l : List (List UInt8)) (i : Nat) (h : i < l.length) : (l.drop i).flatten = l[i] ++ (l.drop (i + 1)).flatten := by rw [List.drop_eq_getElem_cons h]; rfl
theorem take_len (l : List (List UInt8)) (i : Nat) (h : i < l.length) : (l.take i).length = i := by simp; omega
theorem zs_next (keep : Nat) (l : List (List UInt8)) (i : Nat) (h : i < l.length) : (zs keep 0 (l.take (i + 1))).flatten = (zs keep 0 (l.take i)).flatten ++ (if stays keep i then l[i] else List.replicate l[i].length 0) := by
  rw [take_next l i h, zs_app, take_len l i h, Nat.zero_add]
  simp [zs]
theorem lefts_next (keep torn a : Nat) (l : List (List UInt8)) (i : Nat) (h : i < l.length) : lefts keep torn 0 a a (l.take (i + 1)) = if stays keep i then a + (l.take i).flatten.length + l[i].length - min torn l[i].length else lefts keep torn 0 a a (l.take i) := by
  rw [take_next l i h, lefts_app, take_len l i h, Nat.zero_add]
  simp only [lefts]
theorem cut_mid (X m z r : List UInt8) : X ++ z ++ r = (X ++ (m ++ r)).take X.length ++ z ++ (X ++ (m ++ r)).drop (X.length + m.length) := by
  rw [List.take_left, ← List.append_assoc X m r, ← List.length_append, List.drop_left]
theorem zsBytes_yes (keep : Nat) (f : Fl) (i : Nat) (h : i < f.gs.length) (hs : stays keep i = true) : zsBytes keep f (i + 1) = zsBytes keep f i := by
  unfold zsBytes
  rw [zs_next keep f.gs i h, drop_flat f.gs i h, hs, if_pos rfl, List.append_assoc, List.append_assoc, List.append_assoc]
theorem zsBytes_no (keep : Nat) (f : Fl) (i : Nat) (h : i < f.gs.length) (hs : stays keep i = false) :
    zsBytes keep f (i + 1) = (zsBytes keep f i).take (f.safe.length + (f.gs.take i).flatten.length) ++ List.replicate f.gs[i].length 0 ++ (zsBytes keep f i).drop (f.safe.length + (f.gs.take i).flatten.length + f.gs[i].length) := by
  have hl : (f.safe ++ (zs keep 0 (f.gs.take i)).flatten).length = f.safe.length + (f.gs.take i).flatten.length := by rw [List.length_append, zs_flat_len]
  unfold zsBytes
  rw [zs_next keep f.gs i h, drop_flat f.gs i h, hs, ← hl, if_neg (by decide), ← List.append_assoc f.safe]
  exact cut_mid _ _ _ _
theorem leftAt_yes (keep torn : Nat) (f : Fl) (i : Nat) (h : i < f.gs.length) (hs : stays keep i = true) :
    leftAt keep torn f (i + 1) = f.safe.length + (f.gs.take i).flatten.length + f.gs[i].length - min torn f.gs[i].length := by
  unfold leftAt
  rw [lefts_next keep torn _ f.gs i h, hs, if_pos rfl]
theorem leftAt_no (keep torn : Nat) (f : Fl) (i : Nat) (h : i < f.gs.length) (hs : stays keep i = false) : leftAt keep torn f (i + 1) = leftAt keep torn f i := by
  unfold leftAt
  rw [lefts_next keep torn _ f.gs i h, hs]
  rfl
theorem flat_at (l : List (List UInt8)) (i : Nat) (h : i < l.length) : (l.take (i + 1)).flatten.length = (l.take i).flatten.length + l[i].length := by
  rw [take_next l i h, List.flatten_append, List.length_append]
  simp
end Go.Proofs.YtaklbgikoeedbaaDoor
namespace Go.Proofs.YtaklbgikoeedbaaDoor
open Go.RowKit

/-- One new block. -/
theorem one_new (w : World) (a : Array Value) (s : TypeId) :
    ∃ W, w.alloc (.cells a s) = W ∧ Hid (W.heap[w.heap.size]? = some (.cells a s (0, 0))) ∧ Below w.heap.size w W ∧ Hid (W.heap.size = w.heap.size + 1) :=
  ⟨_, rfl, heap_alloc_new _ _, (Below.refl _ _).alloc (Nat.le_refl _) _, show _ = _ by simp⟩
/-- Two new blocks. -/
theorem pair_new (w : World) (a b : Array Value) (s t : TypeId) :
    ∃ W, (w.alloc (.cells a s)).alloc (.cells b t) = W ∧ Hid (W.heap[w.heap.size]? = some (.cells a s (0, 0))) ∧ Hid (W.heap[w.heap.size + 1]? = some (.cells b t (0, 0))) ∧ Below w.heap.size w W ∧ Hid (W.heap.size = w.heap.size + 2) :=
  ⟨_, rfl, heap_alloc2_old _ _ _, heap_alloc2_new _ _ _, ((Below.refl _ _).alloc (Nat.le_refl _) _).alloc (by simp) _, show _ = _ by simp⟩
def slen : Value → Nat | .slice _ n _ => n | _ => 0
theorem Res.some_ {w : World} {base E n c : Nat} {A : Option Addr} {l : List UInt8} (h : Res w base E A n c l) (hn : 0 < n) : ∃ g, A = some ⟨g, 0, none⟩ := by
  rcases h.2 with ⟨_, h0⟩ | ⟨g, cap, cur, hv, _⟩
  · omega
  · injection hv with hv; exact ⟨g, hv⟩
theorem below_undrew {B : Nat} {w w' : World} (h : Below B w.drew w') : Below B w w' := ⟨h.os, h.tape, h.output, h.size, h.block⟩
theorem wpList_build_as {P : Program} {ops : Array Oper} {rest : List Oper} {o : Oper} {a : Act} {w : World} {Q : Exit → Act → World → Prop} (hg : o.guard = none) (t : TypeId) (ho : o.op = .build t #[]) (cs : Array Value) (hf : P.built t [] = some cs)
    (h : wpList P ops Q rest (a.put o.dst (.agg cs)) w) : wpList P ops Q (o :: rest) a w :=
  wpList_build hg t #[] ho (by simp [hf]) (by simpa [hf] using h)
theorem byte_cell {w : World} {g k : Nat} {l : List UInt8} {t : TypeId} {b : UInt8} (hg : w.heap[g]? = some (.cells (bv l).toArray t (0, 0))) (hb : l[k]? = some b) : w.cell? ⟨g, k, none⟩ = some (.int .u8 (b.toNat : Int)) := by
  rw [cell_of_row _ _ _ _ _ _ hg]
  simp [bv_at, hb]
theorem word_at {w : World} {g : Nat} {l : List Nat} {t : TypeId} (hg : w.heap[g]? = some (.cells (u32v l).toArray t (0, 0))) (k : Nat) (hk : k < l.length) : w.cell? ⟨g, k, none⟩ = some (.int .u32 ((natAt l k : Nat) : Int)) := by
  rw [cell_of_row _ _ _ _ _ _ hg]
  have := natAt_at (l := l) rfl hk
  simpa using this
/-- Numbers of 64 bits as the cells of a row. -/
def u64v (l : List Nat) : List Value := l.map fun (x : Nat) => Value.int .u64 (x : Int)
theorem u64v_len (l : List Nat) : (u64v l).length = l.length := by simp [u64v]
theorem u64v_at (l : List Nat) (k : Nat) : (u64v l)[k]? = l[k]?.map fun (x : Nat) => Value.int .u64 (x : Int) := by simp [u64v]
theorem u64v_set (l : List Nat) (k x : Nat) : (u64v l).set k (.int .u64 (x : Int)) = u64v (l.set k x) := by simp [u64v, List.map_set]
theorem u64v_one (l : List Nat) : ∀ u ∈ u64v l, u.oneCell' = true := by
  intro u hu
  obtain ⟨b, _, rfl⟩ := List.mem_map.1 hu
  rfl
theorem long_at {w : World} {g : Nat} {l : List Nat} {t : TypeId} (hg : w.heap[g]? = some (.cells (u64v l).toArray t (0, 0))) (k : Nat) (hk : k < l.length) : w.cell? ⟨g, k, none⟩ = some (.int .u64 ((natAt l k : Nat) : Int)) := by
  rw [cell_of_row _ _ _ _ _ _ hg]
  simp [u64v_at, natAt, List.getElem?_eq_getElem hk]
theorem world_set_cell {w : World} {g : Nat} {cs : List Value} {t : TypeId} (hg : w.heap[g]? = some (.cells cs.toArray t (0, 0))) (k : Nat) (u : Value) :
    Hid ((w.setCell ⟨g, k, none⟩ u).heap[g]? = some (.cells (cs.set k u).toArray t (0, 0))) := by
  show _ = _
  rw [heap_setCell_same w g k _ _ u hg]; simp
/-- A piece of a row of bytes. -/
theorem byt_mid {w : World} {g : Nat} {l : List UInt8} {t : TypeId} (hg : w.heap[g]? = some (.cells (bv l).toArray t (0, 0))) (k m : Nat) : Byt w w.heap.size (some ⟨g, k, none⟩) ((l.drop k).take m) := by
  refine .inr ⟨g, k, rfl, (Array.getElem?_eq_some_iff.1 hg).1, fun j b hj => ?_⟩
  have hjm : j < m := by
    have := (List.getElem?_eq_some_iff.1 hj).1
    simp at this; omega
  rw [List.getElem?_take_of_lt hjm, List.getElem?_drop] at hj
  exact byte_cell hg hj
theorem wpList_build_to {P : Program} {ops : Array Oper} {rest : List Oper} {o : Oper} {a : Act} {w : World} {Q : Exit → Act → World → Prop} (hg : o.guard = none) (t : TypeId) (parts : Array (Nat × Operand)) (ho : o.op = .build t parts) (lst : List (Nat × Value)) (hp : (parts.map fun (i, x) => (i, a.eval x)).toList = lst) (cs : Array Value) (hf : P.built t lst = some cs)
    (h : wpList P ops Q rest (a.put o.dst (.agg cs)) w) : wpList P ops Q (o :: rest) a w :=
  wpList_build hg t parts ho (by rw [hp, hf]; rfl) (by rw [hp, hf]; exact h)
theorem and26 (x : Nat) (hx : x < 18446744073709551616) : bits .and .u64 (x : Int) 67108863 = ((x % 67108864 : Nat) : Int) := by
  have h := u64_and_nat x 67108863 hx (by decide)
  rw [show ((67108863 : Nat) : Int) = 67108863 from rfl] at h
  rw [h, show (67108863 : Nat) = 2 ^ 26 - 1 by decide, Nat.and_two_pow_sub_one_eq_mod, show (2 : Nat) ^ 26 = 67108864 by decide]
theorem wrap64 (x : Nat) : IntKind.u64.wrap (x : Int) = ((x % 18446744073709551616 : Nat) : Int) := by
  simp [IntKind.wrap, IntKind.bits, IntKind.signed]
theorem range_byt {w : World} {B g o : Nat} {l : List UInt8} (h : Byt w B (some ⟨g, o, none⟩) l) : w.rangeAt g o (bv l) := by
  intro j v hj
  have := cells_at h j v hj
  rwa [addr_add] at this
theorem wd_8 : wd 8 = 8 := by decide
theorem splice_all (l m : List UInt8) (h : l.length = m.length) : splice (bv m) 0 (bv l) = bv l := by
  rw [splice, List.take_zero, List.nil_append, Nat.zero_add, List.drop_eq_nil_of_le (by rw [bv_len, bv_len, h]; exact Nat.le_refl _), List.append_nil]
theorem splice_bv (m : List UInt8) (k : Nat) (x : List UInt8) : splice (bv m) k (bv x) = bv (m.take k ++ (x ++ m.drop (k + x.length))) := by
  simp [splice, bv, List.map_take, List.map_drop]
end Go.Proofs.YtaklbgikoeedbaaDoor
namespace Go.Proofs.YtaklbgikoeedbaaDoor
open Go.RowKit

/-- A file at g: its bytes x, where its writes begin s; all of it in blocks of K. -/
def FileR (w : World) (K : Nat → Prop) (g : Nat) (x : List UInt8) (s : List Nat) : Prop :=
  K g ∧ ∃ A n c A2 n2 c2, w.heap[g]? = some (.cells #[.slice A n c, .slice A2 n2 c2] 65 (0, 0)) ∧ w.ownsRow 0 5 1 (.slice A n c) n (bv x) ∧ w.ownsRow 0 3 1 (.slice A2 n2 c2) n2 (iv s) ∧ AtF K A ∧ AtF K A2
def FileIs (w : World) (K : Nat → Prop) (g : Nat) (f : Fl) : Prop := f.gs.length ≤ 65 ∧ FileR w K g f.all f.st
section
variable {w w' : World} {K G : Nat → Prop} {g : Nat} {x : List UInt8} {s : List Nat} {f : Fl}
theorem owns_keep {e n : Nat} {v : Value} {xs : List Value} (h : w.ownsRow 0 e 1 v n xs) (hb : ∀ k, k < w.heap.size → v.ownBlock = some k → w'.heap[k]? = w.heap[k]?) : w'.ownsRow 0 e 1 v n xs := by
  refine ⟨h.1, ?_⟩
  rcases h.2 with hn | ⟨g, cap, cur, rfl, hB, hg, r⟩
  · exact .inl hn
  · exact .inr ⟨g, cap, cur, rfl, hB, (hb g (Array.getElem?_eq_some_iff.1 hg).1 rfl).trans hg, r⟩
theorem owns_lt {e n c m : Nat} {A : Option Addr} {xs : List Value} (h : w.ownsRow 0 e 1 (.slice A n c) m xs) : AtF (fun i => i < w.heap.size) A := fun a ha => by subst ha; exact (h.lt a.block rfl).2
/-- A row of another type is another block. -/
theorem owns_ne {e n c m t : Nat} {A : Option Addr} {xs : List Value} {cs : Array Value} (h : w.ownsRow 0 e 1 (.slice A n c) m xs) (hg : w.heap[g]? = some (.cells cs t (0, 0))) (ht : e ≠ t) : AtF (fun i => i ≠ g) A := fun a ha e1 => by
  subst ha
  rcases h.2 with ⟨h1, _⟩ | ⟨g', cap, cur, h1, _, h2, _⟩
  · simp at h1
  · simp only [Value.slice.injEq, Option.some.injEq] at h1
    rw [h1.1] at e1
    rw [show g' = g from e1, hg] at h2
    injection h2 with h2
    injection h2 with _ h2 _
    exact ht h2.symm
theorem FileR.lt (h : FileR w K g x s) : g < w.heap.size := by
  obtain ⟨_, A, n, c, A2, n2, c2, hg, _⟩ := h
  exact (Array.getElem?_eq_some_iff.1 hg).1
theorem FileR.keep (h : FileR w K g x s) (hb : ∀ k, k < w.heap.size → K k → w'.heap[k]? = w.heap[k]?) : FileR w' K g x s := by
  have hlt := h.lt
  obtain ⟨hK, A, n, c, A2, n2, c2, hg, h1, h2, h3, h4⟩ := h
  refine ⟨hK, A, n, c, A2, n2, c2, (hb g hlt hK).trans hg, owns_keep h1 ?_, owns_keep h2 ?_, h3, h4⟩
  · intro k hk e; cases A with
    | none => simp [Value.ownBlock] at e
    | some a => simp [Value.ownBlock] at e; subst e; exact hb _ hk (h3 a rfl)
  · intro k hk e; cases A2 with
    | none => simp [Value.ownBlock] at e
    | some a => simp [Value.ownBlock] at e; subst e; exact hb _ hk (h4 a rfl)
theorem FileR.off (h : FileR w K g x s) (hb : Off G w w') (hd : ∀ i, i < w.heap.size → K i → ¬ G i) : FileR w' K g x s := h.keep fun k hk hK => hb.block k hk (hd k hk hK)
theorem FileR.mono (h : FileR w K g x s) (hG : ∀ i, i < w.heap.size → K i → G i) : FileR w G g x s := by
  have hlt := h.lt
  obtain ⟨hK, A, n, c, A2, n2, c2, hg, h1, h2, h3, h4⟩ := h
  exact ⟨hG g hlt hK, A, n, c, A2, n2, c2, hg, h1, h2, fun a ha => hG _ (owns_lt h1 a ha) (h3 a ha), fun a ha => hG _ (owns_lt h2 a ha) (h4 a ha)⟩
theorem FileIs.off (h : FileIs w K g f) (hb : Off G w w') (hd : ∀ i, i < w.heap.size → K i → ¬ G i) : FileIs w' K g f := ⟨h.1, h.2.off hb hd⟩
theorem FileIs.mono (h : FileIs w K g f) (hG : ∀ i, i < w.heap.size → K i → G i) : FileIs w G g f := ⟨h.1, h.2.mono hG⟩
theorem owns_size {e n c m : Nat} {A : Option Addr} {xs : List Value} (h : w.ownsRow 0 e 1 (.slice A n c) m xs) : xs.length = m ∧ m = n ∧ n ≤ c := by
  have h1 := h.1
  rcases h.2 with ⟨h2, h3⟩ | ⟨g', cap, cur, h2, _, _, h5, _⟩
  · simp only [Value.slice.injEq] at h2; omega
  · simp only [Value.slice.injEq] at h2; omega
theorem own_ints {n c : Nat} {A : Option Addr} {s : List Nat} (h : w.ownsRow 0 3 1 (.slice A n c) n (iv s)) {k : Nat} (hk : k < s.length) : ∃ b v, A = some ⟨b, 0, none⟩ ∧ s[k]? = some v ∧ w.cell? ⟨b, k, none⟩ = some (.int .i64 (v : Int)) := by
  have hs := owns_size h
  rw [iv_len] at hs
  rcases h.2 with ⟨h2, h3⟩ | ⟨b, cap, cur, h2, hb, hg, h5, h6, h7, h8⟩
  · omega
  · have h9 := h2
    simp only [Value.slice.injEq] at h2
    obtain ⟨rfl, _, rfl⟩ := h2
    have h10 := World.ownsRow.cellAt h k (by omega)
    refine ⟨b, s[k], rfl, List.getElem?_eq_getElem hk, ?_⟩
    rw [h10, iv_at, List.getElem?_eq_getElem hk]; rfl
end
theorem Tryd.sizeInt : (Tryd.prog.info? 3).map (·.size) = some 1 := by kernel_rfl
theorem Tryd.infoInt : (Tryd.prog.info? 3).map (fun i => (i.zero, i.size, i.bytes)) = some (some (.int .i64 0), 1, 8) := by kernel_rfl

set_option maxRecDepth 100000 in
theorem end_any (w : World) (K : Nat → Prop) (g : Nat) (x : List UInt8) (s : List Nat) (hf : FileR w K g x s) (i : Nat) (hi : i < s.length) (hi2 : s.length ≤ 65) :
    Calls Tryd.prog 43 #[.pointer (some ⟨g, 0, none⟩), .int .i64 (i : Int)] w fun e w' => ∃ v : Nat, e = .returned (.int .i64 (v : Int)) ∧ Hid ((s ++ [x.length])[i + 1]? = some v) ∧ w' = w := by
  obtain ⟨hK, A, n, c, A2, n2, c2, hg, h1, h2, _, _⟩ := hf
  have hs1 := owns_size h1
  have hs2 := owns_size h2
  rw [bv_len] at hs1
  rw [iv_len] at hs2
  have c0 : w.cell? ⟨g, 0, none⟩ = some (.slice A n c) := by rw [cell_of_row _ _ _ _ _ _ hg]; rfl
  have c1 : w.cell? ⟨g, 1, none⟩ = some (.slice A2 n2 c2) := by rw [cell_of_row _ _ _ _ _ _ hg]; rfl
  by_cases hlt : i + 1 < s.length
  · obtain ⟨b, v, rfl, hv, hc⟩ := own_ints h2 hlt
    have HV := Lib.hid (show (s ++ [x.length])[i + 1]? = some v by rw [List.getElem?_append_left hlt]; exact hv)
    have hn2 : i + 1 < n2 := by omega
    have hi3 : i < 65 := by omega
    clear hg h1 h2 hs1 hs2 hlt hi hi2 hv
    go_enter Tryd.func43, Tryd.ntmps43
    go_wp2
    go_ret
    exact ⟨v, rfl, HV, rfl⟩
  · have HV := Lib.hid (show (s ++ [x.length])[i + 1]? = some x.length by
      have e : i + 1 = s.length := by omega
      rw [e, List.getElem?_append_right (Nat.le_refl _), Nat.sub_self]; rfl)
    have hn2 : ¬ i + 1 < n2 := by omega
    have hi3 : i < 65 := by omega
    obtain ⟨m, hm⟩ : ∃ m, m = x.length := ⟨_, rfl⟩
    rw [← hm] at HV
    obtain rfl : m = n := by omega
    clear hg h1 h2 hs1 hs2 hlt hi hi2
    have HM := Lib.hid hm
    clear hm
    go_enter Tryd.func43, Tryd.ntmps43
    go_wp2
    go_ret
    exact ⟨m, rfl, by rw [← HM.out]; exact HV, rfl⟩

theorem row2 {w : World} {g t : Nat} {a b : Value} (h : w.heap[g]? = some (.cells #[a, b] t (0, 0))) : w.cell? ⟨g, 0, none⟩ = some a ∧ w.cell? ⟨g, 1, none⟩ = some b ∧ w.frozen? ⟨g, 0, none⟩ = false ∧ w.frozen? ⟨g, 1, none⟩ = false :=
  ⟨by rw [cell_of_row _ _ _ _ _ _ h]; rfl, by rw [cell_of_row _ _ _ _ _ _ h]; rfl, frozen_of_row _ _ _ _ _ h, frozen_of_row _ _ _ _ _ h⟩
theorem AtF.atGrown {K : Nat → Prop} {A A' : Option Addr} {z : Nat} (h : AtF K A) (h2 : ∀ p, A' = some p → (∃ q, A = some q ∧ p.block = q.block) ∨ z ≤ p.block) : AtF (fun i => K i ∨ z ≤ i) A' := fun p hp => by
  rcases h2 p hp with ⟨q, hq, e⟩ | h3
  · left; rw [e]; exact h q hq
  · exact .inr h3
theorem grown_row {w w' : World} {A : Option Addr} {g t : Nat} {cs : Array Value} (hgr : w.grownBy w' (A.map (·.block))) (hA : AtF (fun i => i ≠ g) A) (hg : w.heap[g]? = some (.cells cs t (0, 0))) : w'.heap[g]? = some (.cells cs t (0, 0)) :=
  (hgr.block g (Array.getElem?_eq_some_iff.1 hg).1 (fun e => by
    cases A with
    | none => simp at e
    | some a => simp at e; exact hA a rfl e.symm)).trans hg
/-- A row of another type has turned. -/
theorem own_grown {w w' : World} {A A2 : Option Addr} {e1 e2 n c n2 c2 m m2 : Nat} {xs ys : List Value} (h1 : w.ownsRow 0 e1 1 (.slice A n c) m xs) (h2 : w.ownsRow 0 e2 1 (.slice A2 n2 c2) m2 ys) (he : e1 ≠ e2) (hgr : w.grownBy w' (A2.map (·.block))) : w'.ownsRow 0 e1 1 (.slice A n c) m xs := by
  refine owns_keep h1 fun k hk hv => hgr.block k hk fun e => ?_
  cases A2 with
  | none => simp at e
  | some a2 =>
    simp at e
    subst e
    rcases h2.2 with ⟨h3, _⟩ | ⟨b, cap, cur, h3, _, h4, _⟩
    · simp at h3
    · simp only [Value.slice.injEq, Option.some.injEq] at h3
      rw [h3.1] at hv
      cases A with
      | none => simp [Value.ownBlock] at hv
      | some a => 
        simp [Value.ownBlock] at hv
        exact owns_ne h1 h4 he a rfl hv
theorem own_set {w : World} {A : Option Addr} {e n c m g i : Nat} {xs : List Value} (h : w.ownsRow 0 e 1 (.slice A n c) m xs) (hA : AtF (fun i => i ≠ g) A) (u : Value) : (w.setCell ⟨g, i, none⟩ u).ownsRow 0 e 1 (.slice A n c) m xs :=
  owns_keep h fun k hk hv => ((But.refl g w).set (i := i) u).block k hk fun e => by
    cases A with
    | none => simp [Value.ownBlock] at hv
    | some a =>
      simp [Value.ownBlock] at hv
      injection e with e
      exact hA a rfl (by omega)
theorem off_set {K : Nat → Prop} {w : World} {g i : Nat} (v : Value) (hg : K g) : Off K w (w.setCell ⟨g, i, none⟩ v) := (Off.refl K w).set (.inl hg) v
theorem grown_off {K : Nat → Prop} {w w' : World} {A : Option Addr} (h : w.grownBy w' (A.map (·.block))) (hA : AtF K A) : Off K w w' :=
  ⟨h.os, h.tape, h.output, h.size, fun k hk hn => h.block k hk (fun e => by
    cases A with
    | none => simp at e
    | some a => simp at e; exact hn (by rw [e]; exact hA a rfl))⟩
theorem bytF_src {w : World} {F : Nat → Prop} {A : Option Addr} {l : List UInt8} (h : BytF w F A l) : bv l ≠ [] → ∃ d, A = some d ∧ ∀ j u, (bv l)[j]? = some u → w.cell? (d.add j) = some u := by
  intro hne
  rcases h with h | ⟨g, o, rfl, _, _, hc⟩
  · subst h; exact absurd rfl hne
  · refine ⟨_, rfl, fun j u hj => ?_⟩
    rw [bv_at] at hj
    obtain ⟨b, hb, rfl⟩ := Option.map_eq_some_iff.1 hj
    rw [addr_add]; exact hc j b hb

set_option maxRecDepth 100000 in
set_option maxHeartbeats 1000000 in
theorem write_any (w : World) (K : Nat → Prop) (g : Nat) (f : Fl) (hf : FileIs w K g f) (B : Option Addr) (l : List UInt8) (m cB : Nat) (hb : BytF w (fun i => ¬ K i) B l) (hl : l.length = m) (hsz : f.all.length + m ≤ 1099511627776) :
    Calls Tryd.prog 41 #[.pointer (some ⟨g, 0, none⟩), .slice B m cB] w fun e w' => e = .returned (.tuple #[]) ∧ FileIs w' (fun i => K i ∨ w.heap.size ≤ i) g (f.write l) ∧ Off K w w' := by
  obtain ⟨hlen, hK, A, n, c, A2, n2, c2, hg, h1, h2, h3, h4⟩ := hf
  have hs1 := owns_size h1
  have hs2 := owns_size h2
  rw [bv_len] at hs1
  rw [iv_len, st_len] at hs2
  have c0 : w.cell? ⟨g, 0, none⟩ = some (.slice A n c) := by rw [cell_of_row _ _ _ _ _ _ hg]; rfl
  have c1 : w.cell? ⟨g, 1, none⟩ = some (.slice A2 n2 c2) := by rw [cell_of_row _ _ _ _ _ _ hg]; rfl
  by_cases hmany : f.gs.length = 65
  · have HST := vlt (write_st_many f l hmany)
    have hn2 : 64 < n2 := by omega
    obtain ⟨b2, v0, rfl, _, hc64⟩ := own_ints h2 (k := 64) (by rw [st_len]; omega)
    have hfz := h2.frozenAt 64
    have hstored := h2.stored 64 (.int .i64 (n : Int))
    have hgl := (Array.getElem?_eq_some_iff.1 hg).1
    have H3 := Lib.hid h3
    have H4 := Lib.hid h4
    have HA1 := Lib.hid (owns_ne h1 hg (by decide))
    have HA2 := Lib.hid (owns_ne h2 hg (by decide))
    have HL := Lib.hid hl
    have HSZ := Lib.hid (show n + m ≤ 1099511627776 by omega)
    have HN := Lib.hid (show f.all.length = n by omega)
    have hn3 : n2 = 65 := by omega
    have hle2 : n2 ≤ c2 := by omega
    have HLEN := Lib.hid hlen
    have hrow1 : (w.setCell ⟨b2, 64, none⟩ (.int .i64 (n : Int))).heap[g]? = some (.cells #[.slice A n c, .slice (some ⟨b2, 0, none⟩) n2 c2] 65 (0, 0)) := grown_row (A := some ⟨b2, 0, none⟩) hstored.2 HA2.out hg
    have hoff2 : Off K w (w.setCell ⟨b2, 64, none⟩ (.int .i64 (n : Int))) := grown_off (A := some ⟨b2, 0, none⟩) hstored.2 H4.out
    have HO3 := Lib.hid hstored.1
    have HO1 := Lib.hid (own_grown h1 h2 (by decide) (hgr := hstored.2))
    have HAT3 : Hid (AtF (fun i => K i ∨ w.heap.size ≤ i) (some ⟨b2, 0, none⟩)) := Lib.hid (h4.mono fun i h => .inl h)
    clear hg h1 h2 h3 h4 hs1 hs2 hmany hl hsz hlen hstored
    subst hn3
    go_enter Tryd.func41, Tryd.ntmps41
    go_upto_region 4 with fail
    generalize hw2 : World.setCell w ⟨b2, 64, none⟩ (.int .i64 (n : Int)) = w2 at *
    have hrow2 := hrow1
    clear hw2 hrow1 c0 c1 hc64 hfz
    obtain ⟨d0, d1, e0, e1⟩ := row2 hrow2
    have hb2 := hb.off hoff2 (fun i _ h => h)
    go_wp2_with (at_builtin; refine wp_append_at _ rfl _ _ 31 rfl 5 Tryd.underlying31 (.int .u8 0) 1 Tryd.infoByte rfl (by decide) A n c (bv f.all) rfl HO1.out B m cB rfl (bv l) (bytF_src hb2) (bv_one _) (by rw [bv_len]; exact HL.out) (by have := HSZ.out; omega) ?_)
    intro A4 c4 w3 hown4 hgr4 hat4
    have hrow3 := grown_row hgr4 HA1.out hrow2
    have HO5 := Lib.hid (own_set (i := 0) (own_grown HO3.out HO1.out (by decide) hgr4) (owns_ne (own_grown HO3.out HO1.out (by decide) hgr4) hrow3 (by decide)) (.slice A4 (n + m) c4))
    have HO4 := Lib.hid (own_set (i := 0) hown4 (owns_ne hown4 hrow3 (by decide)) (.slice A4 (n + m) c4))
    have hoff3 := hoff2.trans (grown_off hgr4 H3.out) fun i h => .inl h
    have hoff4 := hoff3.trans (off_set (i := 0) (.slice A4 (n + m) c4) hK) fun i h => .inl h
    have HAT4 : Hid (AtF (fun i => K i ∨ w.heap.size ≤ i) A4) := Lib.hid ((H3.out.atGrown hat4).mono fun i h => h.imp id fun h => Nat.le_trans hoff2.size h)
    have hset := world_set_cell (cs := [.slice A n c, .slice (some ⟨b2, 0, none⟩) 65 c2]) hrow3 0 (.slice A4 (n + m) c4)
    clear d0 d1 e0 e1
    obtain ⟨d0, d1, e0, e1⟩ := row2 hrow3
    clear hown4 hgr4 hat4 hrow2 hrow3 HO1 HO3
    go_wp2
    go_end0
    have hst := HST.out
    refine ⟨rfl, ⟨wr_len _ _ HLEN.out, .inl hK, A4, n + m, c4, some ⟨b2, 0, none⟩, 65, c2, hset.out, ?_, ?_, HAT4.out, HAT3.out⟩, hoff4⟩
    · have h := HO4.out
      rw [write_all, bv_app]; exact h
    · have h := HO5.out
      rw [hst, HN.out, ← iv_set]; exact h
  · have HST := vlt (write_st_few f l (by omega))
    have hn2 : ¬ 64 < n2 := by omega
    have hgl := (Array.getElem?_eq_some_iff.1 hg).1
    have HG := Lib.hid hg
    have H1 := Lib.hid h1
    have H2 := Lib.hid h2
    have H3 := Lib.hid h3
    have H4 := Lib.hid h4
    have HA1 := Lib.hid (owns_ne h1 hg (by decide))
    have HA2 := Lib.hid (owns_ne h2 hg (by decide))
    have HL := Lib.hid hl
    have HSZ := Lib.hid (show n + m ≤ 1099511627776 by omega)
    have HN := Lib.hid (show f.all.length = n by omega)
    have hn3 : n2 ≤ 64 := by omega
    have HLEN := Lib.hid hlen
    clear hg h1 h2 h3 h4 hs1 hs2 hmany hl hsz hlen
    go_enter Tryd.func41, Tryd.ntmps41
    go_upto_region 3 with fail
    go_wp2_with (at_builtin; refine wp_append_at _ rfl _ _ 63 rfl 3 Tryd.underlying63 (.int .i64 0) 8 Tryd.infoInt rfl (by decide) A2 n2 c2 (iv f.st) rfl (H2.out.alloc _) (some ⟨w.heap.size, 0, none⟩) 1 1 rfl (iv [n]) (fun _ => ⟨_, rfl, fun j u hj => ?_⟩) (iv_one _) rfl (by omega) ?_)
    · rw [addr_add, Nat.zero_add, World.cell?_alloc_new]
      simpa [iv] using hj
    intro A3 c3 w1 hown3 hgr3 hat3
    obtain ⟨w0, hw0⟩ : ∃ w0, w0 = w.alloc (.cells #[.int .i64 (n : Int)] 3) := ⟨_, rfl⟩
    rw [← hw0] at hgr3
    have hoff0 : Off K w w0 := by rw [hw0]; exact (Off.refl K w).alloc _
    have hrow0 : w0.heap[g]? = some (.cells #[.slice A n c, .slice A2 n2 c2] 65 (0, 0)) := by rw [hw0]; exact (heap_alloc_old w _ hgl).trans HG.out
    have hrow1 := grown_row hgr3 HA2.out hrow0
    have hoff1 := hoff0.trans (grown_off hgr3 H4.out) fun i h => .inl h
    obtain ⟨d0, d1, e0, e1⟩ := row2 hrow1
    have hset := world_set_cell (cs := [.slice A n c, .slice A2 n2 c2]) hrow1 1 (.slice A3 (n2 + 1) c3)
    have hoff2 := hoff1.trans (off_set (i := 1) (.slice A3 (n2 + 1) c3) hK) fun i h => .inl h
    have HAT3 : Hid (AtF (fun i => K i ∨ w.heap.size ≤ i) A3) := Lib.hid ((H4.out.atGrown hat3).mono fun i h => h.imp id fun h => by omega)
    have HO3 := Lib.hid hown3
    have HO3 := Lib.hid (own_set (i := 1) hown3 (owns_ne hown3 hrow1 (by decide)) (.slice A3 (n2 + 1) c3))
    have H10 : w0.ownsRow 0 5 1 (.slice A n c) n (bv f.all) := by rw [hw0]; exact H1.out.alloc _
    have H20 : w0.ownsRow 0 3 1 (.slice A2 n2 c2) n2 (iv f.st) := by rw [hw0]; exact H2.out.alloc _
    have HO1 := Lib.hid (own_set (i := 1) (own_grown H10 H20 (by decide) hgr3) HA1.out (.slice A3 (n2 + 1) c3))
    clear hown3 hat3 hgr3 hrow0 hw0 hoff0 H10 H20 H1 H2 HG c0 c1
    go_upto_region 4 with fail
    generalize hw2 : World.setCell w1 ⟨g, 1, none⟩ (.slice A3 (n2 + 1) c3) = w2 at *
    have hrow2 : w2.heap[g]? = some (.cells #[.slice A n c, .slice A3 (n2 + 1) c3] 65 (0, 0)) := hset.out
    clear hw2 hset hrow1 d0 d1 e0 e1 hoff1
    obtain ⟨d0, d1, e0, e1⟩ := row2 hrow2
    have hb2 := hb.off hoff2 (fun i _ h => h)
    go_wp2_with (at_builtin; refine wp_append_at _ rfl _ _ 31 rfl 5 Tryd.underlying31 (.int .u8 0) 1 Tryd.infoByte rfl (by decide) A n c (bv f.all) rfl HO1.out B m cB rfl (bv l) (bytF_src hb2) (bv_one _) (by rw [bv_len]; exact HL.out) (by have := HSZ.out; omega) ?_)
    intro A4 c4 w3 hown4 hgr4 hat4
    have hrow3 := grown_row hgr4 HA1.out hrow2
    have HO5 := Lib.hid (own_set (i := 0) (own_grown HO3.out HO1.out (by decide) hgr4) (owns_ne (own_grown HO3.out HO1.out (by decide) hgr4) hrow3 (by decide)) (.slice A4 (n + m) c4))
    have HO4 := Lib.hid (own_set (i := 0) hown4 (owns_ne hown4 hrow3 (by decide)) (.slice A4 (n + m) c4))
    have hoff3 := hoff2.trans (grown_off hgr4 H3.out) fun i h => .inl h
    have hoff4 := hoff3.trans (off_set (i := 0) (.slice A4 (n + m) c4) hK) fun i h => .inl h
    have HAT4 : Hid (AtF (fun i => K i ∨ w.heap.size ≤ i) A4) := Lib.hid ((H3.out.atGrown hat4).mono fun i h => h.imp id fun h => Nat.le_trans hoff2.size h)
    have hset := world_set_cell (cs := [.slice A n c, .slice A3 (n2 + 1) c3]) hrow3 0 (.slice A4 (n + m) c4)
    clear d0 d1 e0 e1
    obtain ⟨d0, d1, e0, e1⟩ := row2 hrow3
    clear hown4 hgr4 hat4 hrow2 hrow3 HO1 HO3
    go_wp2
    go_end0
    have hst := HST.out
    refine ⟨rfl, ⟨wr_len _ _ HLEN.out, .inl hK, A4, n + m, c4, A3, n2 + 1, c3, hset.out, ?_, ?_, HAT4.out, HAT3.out⟩, hoff4⟩
    · have h := HO4.out
      rw [write_all, bv_app]; exact h
    · have h := HO5.out
      rw [hst, iv_app, HN.out]; exact h
end Go.Proofs.YtaklbgikoeedbaaDoor
namespace Go.Proofs.YtaklbgikoeedbaaDoor
open Go.RowKit
open Go.Maps (Keyed)
open Go.MapKept Go.ChangeMaps Go.WideMaps

/-- How a pointer to a whole block reads. -/
def ptrR : Value → Option (DataW Unit × List MemPlace)
  | .pointer none => some (.lit (.bool false), [])
  | .pointer (some ⟨g, 0, none⟩) => some (.lit (.int .i64 (g : Int)), [])
  | _ => none
def ptrD : Option Nat → DataW Unit
  | none => .lit (.bool false)
  | some g => .lit (.int .i64 (g : Int))
def ptrV : Option Nat → Value
  | none => .pointer none
  | some g => .pointer (some ⟨g, 0, none⟩)
theorem ptrR_V (o : Option Nat) : ptrR (ptrV o) = some (ptrD o, []) := by cases o <;> rfl
theorem ptrR_inv {v : Value} {o : Option Nat} {ps : List MemPlace} (h : ptrR v = some (ptrD o, ps)) : v = ptrV o := by
  unfold ptrR at h
  split at h
  · cases o with
    | none => rfl
    | some g => simp [ptrD] at h
  · cases o with
    | none => simp [ptrD] at h
    | some g =>
      simp [ptrD] at h
      have h2 := Int.ofNat.inj h.1
      subst h2
      rfl
  · cases h
theorem ptrR_some {v : Value} {y : DataW Unit × List MemPlace} (h : ptrR v = some y) : ∃ o, v = ptrV o ∧ y.1 = ptrD o := by
  unfold ptrR at h
  split at h
  · injection h with h; subst h; exact ⟨none, rfl, rfl⟩
  · injection h with h; subst h; exact ⟨some _, rfl, rfl⟩
  · cases h
theorem ptrD_inj {a b : Option Nat} (h : ptrD a = ptrD b) : a = b := by
  cases a <;> cases b <;> simp [ptrD] at h
  · rfl
  · congr 1; omega
def keyL (s : ByteArray) : Lit := .string s.data.toList
theorem keyL_inj {s t : ByteArray} (h : keyL s = keyL t) : s = t := by
  simp [keyL] at h
  exact ByteArray.ext h
theorem keyL_key (s : ByteArray) : WideAt.IsKeyLit (keyL s) := by simp [keyL, WideAt.IsKeyLit]
theorem keyL_same (s t : ByteArray) : (keyL s).sameKey (keyL t) = decide (s = t) := by
  by_cases h : s = t
  · subst h; rw [WideAt.sameKey_self (keyL_key s)]; simp
  · rw [Maps.sameKey_ne (fun e => h (keyL_inj e))]; simp [h]
theorem key_inv {P : Program} {k : TypeId} (hk : P.underlying k = some .string) {key : Value} {kl : Lit} (h : keyOf P k key = some kl) : ∃ s : ByteArray, key = .string s ∧ kl = keyL s ∧ s.size ≤ maxLen := by
  cases key <;> simp [keyOf, hk, mapKey] at h
  exact ⟨_, rfl, h.2.symm, h.1⟩
theorem key_mk {s : ByteArray} (hs : s.size ≤ maxLen) : keyOf Tryd.prog 9 (.string s) = some (keyL s) := keyOf_string_mk Tryd.underlying9 hs
theorem strKeyed : Keyed Tryd.prog 9 := Maps.string_keyed Tryd.underlying9
theorem Tryd.zeroPtr (w : World) : (zeroValue 62).run Tryd.prog w = .ok (.pointer none) w := by kernel_rfl

/-- The map in block m: at most n entries; at the name s the pointer F s. -/
def MapIs (w : World) (m n : Nat) (F : ByteArray → Option Nat) : Prop :=
  ∃ D, w.ownsMap Tryd.prog 9 ptrR m n D ∧ (∀ s, D.atKey (keyL s) (.lit (.bool false)) = ptrD (F s)) ∧ (∀ s, Maps.has D (keyL s) = (F s).isSome)
section
variable {w w' : World} {m n : Nat} {F : ByteArray → Option Nat}
theorem MapIs.lt (h : MapIs w m n F) : m < w.heap.size := by obtain ⟨D, h, _⟩ := h; exact h.lt
theorem MapIs.mono (h : MapIs w m n F) {n' : Nat} (hn : n ≤ n') : MapIs w m n' F := by obtain ⟨D, h, h2⟩ := h; exact ⟨D, h.mono hn, h2⟩
theorem MapIs.block (h : MapIs w m n F) (hb : w'.heap[m]? = w.heap[m]?) : MapIs w' m n F := by
  obtain ⟨D, ⟨es, clock, h1, h2⟩, h3⟩ := h
  exact ⟨D, ⟨es, clock, hb.trans h1, h2⟩, h3⟩
/-- No row of cells lies there. -/
theorem MapIs.ne (h : MapIs w m n F) {g t : Nat} {cs : Array Value} (hg : w.heap[g]? = some (.cells cs t (0, 0))) : g ≠ m := by
  obtain ⟨D, ⟨es, clock, h1, _⟩, _⟩ := h
  intro e; rw [e, h1] at hg; cases hg
theorem MapIs.made (w : World) : MapIs (w.alloc (.map #[] 0)) w.heap.size 0 fun _ => none :=
  ⟨.map [], World.ownsMap_made w _ _ _, fun _ => rfl, fun _ => rfl⟩
theorem MapIs.look (h : MapIs w m n F) {s : ByteArray} (hs : s.size ≤ maxLen) : (Instr.lookup 48 (.map (some m)) (.string s) false).run Tryd.prog w = .ok (ptrV (F s)) w := by
  obtain ⟨D, h1, h2, _⟩ := h
  obtain ⟨v, ps, hrun, hv⟩ := h1.lookup (z := .pointer none) (zd := .lit (.bool false)) (zp := []) strKeyed Tryd.underlying48 (Tryd.zeroPtr w) rfl (key_mk hs)
  rw [h2] at hv
  rw [ptrR_inv hv] at hrun
  exact hrun
theorem MapIs.store (h : MapIs w m n F) {s : ByteArray} (hs : s.size ≤ maxLen) (hn : n < maxLen) (g : Nat) :
    ∃ w', (Instr.mapUpdate 48 (.map (some m)) (.string s) (.pointer (some ⟨g, 0, none⟩))).run Tryd.prog w = .ok () w' ∧ MapIs w' m (n + 1) (fun t => if t = s then some g else F t) ∧ w.grownBy w' (some m) ∧ w'.heap.size = w.heap.size := by
  obtain ⟨D, h1, h2, h3⟩ := h
  have hm : Maps.IsMap D := by obtain ⟨es, clock, _, _, _, rfl⟩ := h1; exact ⟨_, rfl⟩
  obtain ⟨w', hrun, h4, h5⟩ := h1.store strKeyed Tryd.underlying48 hn (key_mk hs) (ptrR_V (some g))
  have hsz : w'.heap.size = w.heap.size := by obtain ⟨es, clock, es', clock', hb, rfl⟩ := h5; simp [setBlock]
  refine ⟨w', hrun, ⟨_, h4, fun t => ?_, fun t => ?_⟩, h5.grown, hsz⟩
  · show _ = ptrD (if t = s then some g else F t)
    by_cases ht : t = s
    · subst ht; rw [Maps.atKey_put_same hm (keyL_key t), if_pos rfl]
    · rw [Maps.atKey_put_other (fun e => ht (keyL_inj e)), if_neg ht, h2]
  · show _ = (if t = s then some g else F t).isSome
    by_cases ht : t = s
    · subst ht; rw [Maps.has_put_same hm (keyL_key t), if_pos rfl]; rfl
    · rw [Maps.has_put_other (fun e => ht (keyL_inj e)), if_neg ht, h3]
theorem MapIs.drop (h : MapIs w m n F) {s : ByteArray} (hs : s.size ≤ maxLen) (ty : TypeId) :
    ∃ w', (Builtin.delete_ #[48, 9] ty #[.map (some m), .string s]).run Tryd.prog w = .ok (.tuple #[]) w' ∧ MapIs w' m n (fun t => if t = s then none else F t) ∧ w.grownBy w' (some m) ∧ w'.heap.size = w.heap.size := by
  obtain ⟨D, h1, h2, h3⟩ := h
  obtain ⟨w', hrun, h4, h5⟩ := h1.drop strKeyed Tryd.underlying48 (key_mk hs) ty
  have hsz : w'.heap.size = w.heap.size := by obtain ⟨es, clock, es', clock', hb, rfl⟩ := h5; simp [setBlock]
  refine ⟨w', hrun, ⟨_, h4, fun t => ?_, fun t => ?_⟩, h5.grown, hsz⟩
  · show _ = ptrD (if t = s then none else F t)
    by_cases ht : t = s
    · subst ht; rw [Maps.atKey_del_same, if_pos rfl]; rfl
    · rw [Maps.atKey_del_other (fun e => ht (keyL_inj e)), if_neg ht, h2]
  · show _ = (if t = s then none else F t).isSome
    by_cases ht : t = s
    · subst ht; rw [Maps.has_del_same, if_pos rfl]; rfl
    · rw [Maps.has_del_other (fun e => ht (keyL_inj e)), if_neg ht, h3]
end

/-- A loop over the map: todo tells which names are still to come. -/
def RangeIs (w : World) (m r n : Nat) (F : ByteArray → Option Nat) (todo : ByteArray → Bool) (cnt : Nat) : Prop :=
  ∃ D left, w.ranges Tryd.prog 9 ptrR m r n D left cnt ∧ (∀ s, D.atKey (keyL s) (.lit (.bool false)) = ptrD (F s)) ∧ (∀ s, Maps.has D (keyL s) = (F s).isSome) ∧ ∀ s, left (keyL s) = todo s
section
variable {w w' : World} {m r n cnt : Nat} {F : ByteArray → Option Nat} {todo : ByteArray → Bool}
theorem RangeIs.map (h : RangeIs w m r n F todo cnt) : MapIs w m n F := by
  obtain ⟨D, left, h1, h2, h3, _⟩ := h
  exact ⟨D, h1.owns, h2, h3⟩
theorem RangeIs.lt (h : RangeIs w m r n F todo cnt) : r < w.heap.size := by obtain ⟨D, left, h1, _⟩ := h; exact h1.lt
theorem RangeIs.left_eq (h : RangeIs w m r n F todo cnt) : w.rangeLeft m r = cnt := by obtain ⟨D, left, h1, _⟩ := h; exact h1.left_eq
theorem RangeIs.blocks (h : RangeIs w m r n F todo cnt) (hm : w'.heap[m]? = w.heap[m]?) (hr : w'.heap[r]? = w.heap[r]?) : RangeIs w' m r n F todo cnt := by
  obtain ⟨D, left, h1, h2⟩ := h
  refine ⟨D, left, ?_, h2⟩
  obtain ⟨es, clock, since, seen, c0, a1, a2, a3, a4, a5, a6⟩ := h1
  exact ⟨es, clock, since, seen, c0, hm.trans a1, a2, a3, a4, hr.trans a5, a6⟩
theorem RangeIs.ne (h : RangeIs w m r n F todo cnt) {g t : Nat} {cs : Array Value} (hg : w.heap[g]? = some (.cells cs t (0, 0))) : g ≠ r := by
  obtain ⟨D, left, ⟨es, clock, since, seen, c0, _, _, _, _, h1, _⟩, _⟩ := h
  intro e; rw [e, h1] at hg; cases hg
end
theorem wp_range_map {P : Program} (w : World) {ops : Array Oper} {rest : List Oper} {o : Oper} {a : Act} {Q : Exit → Act → World → Prop} (hg : o.guard = none) (x : Operand) (hop : o.op = Op.range 48 x) (hP : P = Tryd.prog)
    (m n : Nat) (F : ByteArray → Option Nat) (hm : a.eval x = .map (some m)) (h : MapIs w m n F)
    (hK : ∀ w' cnt, RangeIs w' m w.heap.size n F (fun s => (F s).isSome) cnt → Hid (w.grownBy w' none) → Hid (w'.heap.size = w.heap.size + 1) → wpList P ops Q rest (a.put o.dst (.pointer (some ⟨w.heap.size, 0, none⟩))) w') : wpList P ops Q (o :: rest) a w := by
  subst hP
  obtain ⟨D, h1, h2, h3⟩ := h
  refine wpList_range_own w hg x _ hop 9 _ strKeyed Tryd.underlying48 ptrR m n D hm h1 ?_
  intro w' hr hg hs
  exact hK w' _ ⟨D, _, hr, h2, h3, h3⟩ hg hs
theorem wp_next_map {P : Program} (w : World) {ops : Array Oper} {rest : List Oper} {o : Oper} {a : Act} {Q : Exit → Act → World → Prop} (hg : o.guard = none) (it : Operand) (hop : o.op = Op.next it false) (hP : P = Tryd.prog)
    (m r n cnt : Nat) (F : ByteArray → Option Nat) (todo : ByteArray → Bool) (hit : a.eval it = .pointer (some ⟨r, 0, none⟩)) (h : RangeIs w m r n F todo cnt) (hT : ∀ s, todo s = true → (F s).isSome = true)
    (hDone : Hid (∀ s, todo s = false) → wpList P ops Q rest (a.put o.dst (.tuple #[.bool false])) w)
    (hMore : ∀ (s : ByteArray) (g : Nat) (w' : World) (cnt' : Nat), Hid (todo s = true) → Hid (F s = some g) → RangeIs w' m r n F (fun t => todo t && !decide (t = s)) cnt' → cnt' < cnt → Hid (w.grownBy w' (some r)) →
      (Instr.entry (.pointer (some ⟨r, 0, none⟩))).run P w' = .ok (.tuple #[.string s, .pointer (some ⟨g, 0, none⟩)]) w' → wpList P ops Q rest (a.put o.dst (.tuple #[.bool true, .string s, .pointer (some ⟨g, 0, none⟩)])) w') :
    wpList P ops Q (o :: rest) a w := by
  subst hP
  obtain ⟨D, left, h1, h2, h3, h4⟩ := h
  refine wpList_next_ranges w hg it hop 9 strKeyed ptrR (Value.string) ptrV (fun key kl hk => by obtain ⟨s, h, _⟩ := key_inv Tryd.underlying9 hk; exact ⟨s, h⟩) (fun v y hv => by obtain ⟨o, h, _⟩ := ptrR_some hv; exact ⟨o, h⟩) m r n D left cnt hit h1 (fun _ hl => hDone (Lib.hid fun s => by rw [← h4]; exact hl _)) ?_
  intro s o' kl y w' cnt' hkey hlk hv hat hrg hlt hgr hsz hen
  obtain ⟨s', e, rfl, _⟩ := key_inv Tryd.underlying9 hkey
  injection e with e
  subst e
  have ho : o' = F s := by
    have h5 := hat (.lit (.bool false))
    rw [h2, (Option.some.inj ((ptrR_V o').symm.trans hv)).symm] at h5
    exact (ptrD_inj h5).symm
  have hsome := hT s (by rw [← h4]; exact hlk)
  cases hF : F s with
  | none => rw [hF] at hsome; cases hsome
  | some g =>
    rw [hF] at ho
    subst ho
    exact hMore s g w' cnt' (Lib.hid (by rw [← h4]; exact hlk)) (Lib.hid hF) ⟨D, _, hrg, h2, h3, fun t => by rw [h4, keyL_same]⟩ hlt hgr hen
end Go.Proofs.YtaklbgikoeedbaaDoor
namespace Go.Proofs.YtaklbgikoeedbaaDoor
open Go.RowKit

def mayB (b : UInt8) : Bool := decide (33 ≤ b.toNat) && decide (b.toNat ≤ 126)
def may (s : ByteArray) : Bool := decide (1 ≤ s.size) && decide (s.size ≤ 20) && s.data.toList.all mayB
theorem may_size {s : ByteArray} (h : may s = true) : s.size ≤ 20 := by simp [may] at h; omega
theorem all_take {l : List UInt8} {p : UInt8 → Bool} {k : Nat} {b : UInt8} (h : (l.take k).all p = true) (hb : l[k]? = some b) (hp : p b = true) : (l.take (k + 1)).all p = true := by
  rw [List.take_add_one, hb, List.all_append, h]; simp [hp]
theorem all_no {l : List UInt8} {p : UInt8 → Bool} {k : Nat} {b : UInt8} (hb : l[k]? = some b) (hp : p b = false) : l.all p = false := by
  rw [List.all_eq_false]
  exact ⟨b, List.mem_of_getElem? hb, by simp [hp]⟩

set_option maxRecDepth 100000 in
theorem isName_any (s : ByteArray) (w : World) (hs : s.size ≤ 140737488355328) : Calls Tryd.prog 47 #[.string s] w fun e w' => e = .returned (.bool (may s)) ∧ w' = w := by
  go_enter Tryd.func47, Tryd.ntmps47
  go_wp2
  go_loopw [6] (fun i wr => ∃ k : Nat, i = .int .i64 (k : Int) ∧ k ≤ s.size ∧ Vlt ((s.data.toList.take k).all mayB = true) ∧ wr = w) (fun i _ => s.size - (intOf i).toNat)
  case atStart => exact ⟨0, rfl, Nat.zero_le _, vlt rfl, rfl⟩
  case round =>
    obtain ⟨k, rfl, hk, h0, rfl⟩ := hrel
    by_cases hlt : k < s.size
    · have hb : s.data.toList[k]? = some s[k] := by
        show _ = some s.data[k]
        rw [List.getElem?_eq_getElem (by simpa using hlt)]; simp
      by_cases h1 : s[k].toNat < 33
      · have HN := vlt (show may s = false by
          have h2 := all_no (p := mayB) hb (by simp [mayB]; omega)
          unfold may; rw [h2]; simp)
        have h1' : (s[k].toNat : Int) < 33 := by omega
        clear hb h0
        go_wp2
        go_ret
        exact ⟨by rw [HN.out]; rfl, rfl⟩
      · have h1' : ¬ (s[k].toNat : Int) < 33 := by omega
        by_cases h3 : 126 < s[k].toNat
        · have HN := vlt (show may s = false by
            have h2 := all_no (p := mayB) hb (by simp [mayB]; omega)
            unfold may; rw [h2]; simp)
          have h3' : (126 : Int) < (s[k].toNat : Int) := by omega
          clear hb h0
          go_wp2
          go_ret
          exact ⟨by rw [HN.out]; rfl, rfl⟩
        · have h3' : ¬ (126 : Int) < (s[k].toNat : Int) := by omega
          have HT := vlt (all_take h0.out hb (by simp [mayB]; omega))
          clear hb h0
          go_wp2
          go_roundw
          case rel => exact ⟨k + 1, by go_num, by omega, HT, trivial⟩
          case measure => simp [intOf]; omega
    · obtain rfl : k = s.size := by omega
      have HM := vlt (show may s = (decide (1 ≤ s.size) && decide (s.size ≤ 20)) by
        have h2 := h0.out
        rw [List.take_of_length_le (by simp)] at h2
        unfold may; rw [h2]; simp)
      clear h0 hlt
      by_cases h1 : 1 ≤ s.size
      · by_cases h2 : s.size ≤ 20
        · have h1' : (1 : Int) ≤ (s.size : Int) := by omega
          have h2' : (s.size : Int) ≤ 20 := by omega
          go_wp2
          go_ret
          exact ⟨by rw [HM.out]; simp [h1, h2], rfl⟩
        · have h1' : (1 : Int) ≤ (s.size : Int) := by omega
          have h2' : ¬ (s.size : Int) ≤ 20 := by omega
          go_wp2
          go_ret
          exact ⟨by rw [HM.out]; simp [h1, h2], rfl⟩
      · have h1' : ¬ (1 : Int) ≤ (s.size : Int) := by omega
        go_wp2
        go_ret
        exact ⟨by rw [HM.out]; simp [h1], rfl⟩

/-- The answer of a call ahead of all others: EOFF without power, EARG of a name that is none. -/
def readyE (on : Bool) (s : ByteArray) : Int := if on then (if may s then 0 else 1) else 7
set_option maxRecDepth 100000 in
theorem ready_any (w : World) (d : Nat) (on : Bool) (s : ByteArray) (c3 : w.cell? ⟨d, 3, none⟩ = some (.bool on)) (hs : s.size ≤ 140737488355328) :
    Calls Tryd.prog 40 #[.pointer (some ⟨d, 0, none⟩), .string s] w fun e w' => e = .returned (.int .i64 (readyE on s)) ∧ w' = w := by
  have hn := isName_any s w hs
  cases on with
  | false =>
    clear hn
    go_enter Tryd.func40, Tryd.ntmps40
    go_wp2
    go_ret
    exact ⟨rfl, rfl⟩
  | true =>
    cases hm : may s with
    | true =>
      rw [hm] at hn
      have HE := Lib.hid (show readyE true s = 0 by simp [readyE, hm])
      clear hm
      go_enter Tryd.func40, Tryd.ntmps40
      go_wp2_with fail
      refine hn.mono ?_
      rintro e w2 ⟨rfl, rfl⟩
      clear hn
      go_wp2
      go_ret
      exact ⟨by rw [HE.out]; rfl, rfl⟩
    | false =>
      rw [hm] at hn
      have HE := Lib.hid (show readyE true s = 1 by simp [readyE, hm])
      clear hm
      go_enter Tryd.func40, Tryd.ntmps40
      go_wp2_with fail
      refine hn.mono ?_
      rintro e w2 ⟨rfl, rfl⟩
      clear hn
      go_wp2
      go_ret
      exact ⟨by rw [HE.out]; rfl, rfl⟩

/-- .. and ENONE of a name that has no file. -/
def findE (on : Bool) (s : ByteArray) (o : Option Nat) : Int := if readyE on s = 0 then (if o.isSome then 0 else 4) else readyE on s
def findP (on : Bool) (s : ByteArray) (o : Option Nat) : Option Nat := if readyE on s = 0 then o else none
set_option maxRecDepth 100000 in
theorem find_any (w : World) (d m N : Nat) (on : Bool) (F : ByteArray → Option Nat) (s : ByteArray) (c2 : w.cell? ⟨d, 2, none⟩ = some (.map (some m))) (c3 : w.cell? ⟨d, 3, none⟩ = some (.bool on)) (hm : MapIs w m N F) (hs : s.size ≤ 140737488355328) :
    Calls Tryd.prog 37 #[.pointer (some ⟨d, 0, none⟩), .string s] w fun e w' => e = .returned (.tuple #[ptrV (findP on s (F s)), .int .i64 (findE on s (F s))]) ∧ w' = w := by
  have hr := ready_any w d on s c3 hs
  have hl := hm.look (s := s) (by unfold maxLen; omega)
  clear hm
  by_cases h0 : readyE on s = 0
  · rw [h0] at hr
    cases hF : F s with
    | none =>
      rw [hF] at hl
      have HE := Lib.hid (show findE on s none = 4 ∧ findP on s none = none by simp [findE, findP, h0])
      clear h0 hF
      go_enter Tryd.func37, Tryd.ntmps37
      go_wp2_with fail
      refine hr.mono ?_
      rintro e w2 ⟨rfl, rfl⟩
      clear hr
      simp only [ptrV] at hl
      go_wp2
      go_ret2
      exact ⟨by rw [HE.out.1, HE.out.2]; rfl, rfl⟩
    | some g =>
      rw [hF] at hl
      have HE := Lib.hid (show findE on s (some g) = 0 ∧ findP on s (some g) = some g by simp [findE, findP, h0])
      clear h0 hF
      go_enter Tryd.func37, Tryd.ntmps37
      go_wp2_with fail
      refine hr.mono ?_
      rintro e w2 ⟨rfl, rfl⟩
      clear hr
      simp only [ptrV] at hl
      go_wp2
      go_ret2
      exact ⟨by rw [HE.out.1, HE.out.2]; rfl, rfl⟩
  · have HE := Lib.hid (show findE on s (F s) = readyE on s ∧ findP on s (F s) = none by simp [findE, findP, h0])
    clear hl
    generalize readyE on s = v at *
    go_enter Tryd.func37, Tryd.ntmps37
    go_wp2_with fail
    refine hr.mono ?_
    rintro e w2 ⟨rfl, rfl⟩
    clear hr
    go_wp2
    go_ret2
    exact ⟨by rw [HE.out.1, HE.out.2]; rfl, rfl⟩
end Go.Proofs.YtaklbgikoeedbaaDoor
namespace Go.Proofs.YtaklbgikoeedbaaDoor

section
variable {α β : Type}
def getL (L : List (ByteArray × α)) (s : ByteArray) : Option α := (L.find? fun x => decide (x.1 = s)).map (·.2)
def upd (L : List (ByteArray × α)) (s : ByteArray) (h : α → α) : List (ByteArray × α) := L.map fun x => if x.1 = s then (x.1, h x.2) else x
def del (L : List (ByteArray × α)) (s : ByteArray) : List (ByteArray × α) := L.filter fun x => decide (¬ x.1 = s)
def onL (k : α → β) (L : List (ByteArray × α)) : List (ByteArray × β) := L.map fun x => (x.1, k x.2)
def sumL (f : α → Nat) (L : List (ByteArray × α)) : Nat := (L.map fun x => f x.2).sum
def One (L : List (ByteArray × α)) : Prop := L.Pairwise fun x y => x.1 ≠ y.1

theorem getL_nil (s : ByteArray) : getL ([] : List (ByteArray × α)) s = none := rfl
theorem getL_cons (x : ByteArray × α) (L : List (ByteArray × α)) (s : ByteArray) : getL (x :: L) s = if x.1 = s then some x.2 else getL L s := by
  unfold getL
  by_cases h : x.1 = s <;> simp [h]
theorem getL_app (L M : List (ByteArray × α)) (s : ByteArray) : getL (L ++ M) s = (getL L s).or (getL M s) := by
  induction L with
  | nil => simp [getL_nil]
  | cons x L ih => simp only [List.cons_append, getL_cons, ih]; split <;> simp
theorem getL_onL (k : α → β) (L : List (ByteArray × α)) (s : ByteArray) : getL (onL k L) s = (getL L s).map k := by
  induction L with
  | nil => rfl
  | cons x L ih =>
    have e : onL k (x :: L) = (x.1, k x.2) :: onL k L := rfl
    rw [e, getL_cons, getL_cons, ih]
    split <;> rfl
theorem getL_upd (L : List (ByteArray × α)) (s t : ByteArray) (h : α → α) : getL (upd L s h) t = if t = s then (getL L s).map h else getL L t := by
  induction L with
  | nil => by_cases e : t = s <;> simp [upd, getL_nil, e]
  | cons x L ih =>
    have e : upd (x :: L) s h = (if x.1 = s then (x.1, h x.2) else x) :: upd L s h := rfl
    rw [e, getL_cons, getL_cons, getL_cons, ih]
    by_cases h1 : x.1 = s
    · by_cases h2 : t = s
      · simp [h1, h2]
      · have h3 : ¬ s = t := fun e => h2 e.symm
        simp [h1, h2, h3]
    · by_cases h2 : t = s
      · subst h2; simp [h1]
      · simp [h1, h2]
theorem getL_del (L : List (ByteArray × α)) (s t : ByteArray) : getL (del L s) t = if t = s then none else getL L t := by
  induction L with
  | nil => by_cases e : t = s <;> simp [del, getL_nil, e]
  | cons x L ih =>
    by_cases h1 : x.1 = s
    · have e : del (x :: L) s = del L s := by simp [del, h1]
      rw [e, ih, getL_cons]
      by_cases h2 : t = s
      · simp [h2]
      · have h3 : ¬ x.1 = t := fun e => h2 (by rw [← e, h1])
        simp [h2, h3]
    · have e : del (x :: L) s = x :: del L s := by simp [del, h1]
      rw [e, getL_cons, ih, getL_cons]
      by_cases h2 : t = s
      · subst h2; simp [h1]
      · simp [h2]
theorem onL_upd (k : α → β) (L : List (ByteArray × α)) (s : ByteArray) (h : α → α) (h' : β → β) (hc : ∀ a, k (h a) = h' (k a)) : onL k (upd L s h) = upd (onL k L) s h' := by
  simp only [onL, upd, List.map_map]
  refine List.map_congr_left fun x _ => ?_
  by_cases e : x.1 = s <;> simp [e, hc]
theorem onL_upd_at (k : α → β) (L : List (ByteArray × α)) (s : ByteArray) (h : α → α) (h' : β → β) (hc : ∀ a, getL L s = some a → k (h a) = h' (k a)) (h1 : One L) : onL k (upd L s h) = upd (onL k L) s h' := by
  induction L with
  | nil => rfl
  | cons x L ih =>
    have h2 := List.pairwise_cons.1 h1
    have e1 : onL k (upd (x :: L) s h) = ((if x.1 = s then (x.1, h x.2) else x).1, k (if x.1 = s then (x.1, h x.2) else x).2) :: onL k (upd L s h) := rfl
    have e2 : upd (onL k (x :: L)) s h' = (if x.1 = s then (x.1, h' (k x.2)) else (x.1, k x.2)) :: upd (onL k L) s h' := rfl
    rw [e1, e2]
    by_cases e : x.1 = s
    · have hx := hc x.2 (by rw [getL_cons, if_pos e])
      have hrest : ∀ y ∈ L, ¬ y.1 = s := fun y hy he => h2.1 y hy (by rw [e, he])
      have e3 : upd L s h = L := by
        unfold upd
        conv => rhs; rw [← List.map_id L]
        exact List.map_congr_left fun y hy => by simp [hrest y hy]
      have e4 : upd (onL k L) s h' = onL k L := by
        unfold upd
        conv => rhs; rw [← List.map_id (onL k L)]
        refine List.map_congr_left fun y hy => ?_
        obtain ⟨z, hz, rfl⟩ := List.mem_map.1 hy
        simp [hrest z hz]
      rw [e3, e4]; simp [e, hx]
    · rw [ih (fun a ha => hc a (by rw [getL_cons, if_neg e]; exact ha)) h2.2]
      simp [e]
theorem onL_del (k : α → β) (L : List (ByteArray × α)) (s : ByteArray) : onL k (del L s) = del (onL k L) s := by
  induction L with
  | nil => rfl
  | cons x L ih =>
    by_cases h1 : x.1 = s
    · simp [del, onL, h1]; simpa [del, onL] using ih
    · simp [del, onL, h1]; simpa [del, onL] using ih
theorem onL_app (k : α → β) (L M : List (ByteArray × α)) : onL k (L ++ M) = onL k L ++ onL k M := by simp [onL]
theorem mem_getL {L : List (ByteArray × α)} {s : ByteArray} {a : α} (h : getL L s = some a) : (s, a) ∈ L := by
  induction L with
  | nil => cases h
  | cons x L ih =>
    rw [getL_cons] at h
    by_cases e : x.1 = s
    · rw [if_pos e] at h
      injection h with h
      subst e h
      exact List.mem_cons_self
    · rw [if_neg e] at h
      exact List.mem_cons_of_mem _ (ih h)
theorem getL_mem {L : List (ByteArray × α)} (h1 : One L) {x : ByteArray × α} (h : x ∈ L) : getL L x.1 = some x.2 := by
  induction L with
  | nil => cases h
  | cons y L ih =>
    have h2 := List.pairwise_cons.1 h1
    rw [getL_cons]
    rcases List.mem_cons.1 h with rfl | h
    · rw [if_pos rfl]
    · rw [if_neg (h2.1 x h), ih h2.2 h]
theorem One.onL {L : List (ByteArray × α)} (h : One L) (k : α → β) : One (onL k L) := by
  unfold One Go.Proofs.YtaklbgikoeedbaaDoor.onL
  rw [List.pairwise_map]; exact h
theorem One.upd {L : List (ByteArray × α)} (h : One L) (s : ByteArray) (k : α → α) : One (upd L s k) := by
  unfold One Go.Proofs.YtaklbgikoeedbaaDoor.upd
  rw [List.pairwise_map]
  have e : ∀ z : ByteArray × α, (if z.1 = s then (z.1, k z.2) else z).1 = z.1 := fun z => by split <;> rfl
  refine h.imp fun {x y} hne => ?_
  rw [e, e]; exact hne
theorem One.del {L : List (ByteArray × α)} (h : One L) (s : ByteArray) : One (del L s) := h.filter _
theorem One.snoc {L : List (ByteArray × α)} (h : One L) {s : ByteArray} (hs : getL L s = none) (a : α) : One (L ++ [(s, a)]) := by
  refine List.pairwise_append.2 ⟨h, by simp, fun x hx y hy e => ?_⟩
  rw [List.mem_singleton] at hy
  subst hy
  have h2 := getL_mem h hx
  rw [show x.1 = s from e, hs] at h2
  cases h2
theorem sumL_upd (f : α → Nat) {L : List (ByteArray × α)} (h1 : One L) {s : ByteArray} {a : α} (hg : getL L s = some a) (h : α → α) : sumL f (upd L s h) + f a = sumL f L + f (h a) := by
  induction L with
  | nil => cases hg
  | cons x L ih =>
    have h2 := List.pairwise_cons.1 h1
    rw [getL_cons] at hg
    have e1 : sumL f (Go.Proofs.YtaklbgikoeedbaaDoor.upd (x :: L) s h) = f (if x.1 = s then (x.1, h x.2) else x).2 + sumL f (Go.Proofs.YtaklbgikoeedbaaDoor.upd L s h) := by simp [sumL, Go.Proofs.YtaklbgikoeedbaaDoor.upd]
    have e2 : sumL f (x :: L) = f x.2 + sumL f L := by simp [sumL]
    rw [e1, e2]
    by_cases e : x.1 = s
    · rw [if_pos e] at hg
      injection hg with hg
      have e3 : Go.Proofs.YtaklbgikoeedbaaDoor.upd L s h = L := by
        unfold Go.Proofs.YtaklbgikoeedbaaDoor.upd
        conv => rhs; rw [← List.map_id L]
        exact List.map_congr_left fun y hy => by simp [show ¬ y.1 = s from fun he => h2.1 y hy (by rw [e, he])]
      rw [e3]; simp [e, hg]; omega
    · rw [if_neg e] at hg
      have := ih h2.2 hg
      simp [e]; omega
theorem del_none {L : List (ByteArray × α)} {s : ByteArray} (h : getL L s = none) : del L s = L := by
  induction L with
  | nil => rfl
  | cons x L ih =>
    rw [getL_cons] at h
    by_cases e : x.1 = s
    · rw [if_pos e] at h; cases h
    · rw [if_neg e] at h
      have := ih h
      simp [del, e]; simpa [del] using this
theorem sumL_del (f : α → Nat) {L : List (ByteArray × α)} (h1 : One L) {s : ByteArray} {a : α} (hg : getL L s = some a) : sumL f (del L s) + f a = sumL f L := by
  induction L with
  | nil => cases hg
  | cons x L ih =>
    have h2 := List.pairwise_cons.1 h1
    rw [getL_cons] at hg
    have e2 : sumL f (x :: L) = f x.2 + sumL f L := by simp [sumL]
    rw [e2]
    by_cases e : x.1 = s
    · rw [if_pos e] at hg
      injection hg with hg
      have hn : getL L s = none := by
        cases hq : getL L s with
        | none => rfl
        | some b => exact absurd e (h2.1 _ (mem_getL hq))
      have e3 : del (x :: L) s = del L s := by simp [del, e]
      rw [e3, del_none hn, hg]; omega
    · rw [if_neg e] at hg
      have e3 : del (x :: L) s = x :: del L s := by simp [del, e]
      have := ih h2.2 hg
      have e4 : sumL f (x :: del L s) = f x.2 + sumL f (del L s) := by simp [sumL]
      rw [e3, e4]; omega
theorem sumL_app (f : α → Nat) (L M : List (ByteArray × α)) : sumL f (L ++ M) = sumL f L + sumL f M := by simp [sumL]
theorem sumL_onL (f : β → Nat) (k : α → β) (L : List (ByteArray × α)) : sumL f (onL k L) = sumL (fun a => f (k a)) L := by simp [sumL, onL, Function.comp_def]
theorem sumL_get (f : α → Nat) {L : List (ByteArray × α)} {s : ByteArray} {a : α} (h : getL L s = some a) : f a ≤ sumL f L := by
  induction L with
  | nil => cases h
  | cons x L ih =>
    rw [getL_cons] at h
    have e2 : sumL f (x :: L) = f x.2 + sumL f L := by simp [sumL]
    by_cases e : x.1 = s
    · rw [if_pos e] at h; injection h with h; rw [e2, h]; omega
    · rw [if_neg e] at h; have := ih h; omega
/-- The sum over those that are done. -/
theorem sumL_some (f : α → Nat) {L : List (ByteArray × α)} (h1 : One L) (p q : ByteArray → Bool) {s : ByteArray} {a : α} (hg : getL L s = some a) (hp : p s = false) (hq : ∀ t, q t = (p t || decide (t = s))) :
    (L.map fun x => if q x.1 then f x.2 else 0).sum = (L.map fun x => if p x.1 then f x.2 else 0).sum + f a := by
  induction L with
  | nil => cases hg
  | cons x L ih =>
    have h2 := List.pairwise_cons.1 h1
    rw [getL_cons] at hg
    simp only [List.map_cons, List.sum_cons]
    by_cases e : x.1 = s
    · rw [if_pos e] at hg
      injection hg with hg
      have e3 : (L.map fun x => if q x.1 then f x.2 else 0) = L.map fun x => if p x.1 then f x.2 else 0 := by
        refine List.map_congr_left fun y hy => ?_
        have : ¬ y.1 = s := fun he => h2.1 y hy (by rw [e, he])
        rw [hq]; simp [this]
      rw [e3, hq, e, hp, hg]; simp; omega
    · rw [if_neg e] at hg
      rw [ih h2.2 hg, hq]
      simp [e]; omega
end
end Go.Proofs.YtaklbgikoeedbaaDoor
namespace Go.Proofs.YtaklbgikoeedbaaDoor
open Go.RowKit

/-- What was new lies in g's colour. -/
def paint (O : Nat → Option Nat) (a b g : Nat) : Nat → Option Nat := fun i => if a ≤ i ∧ i < b then some g else O i
def ptrs (L : List (ByteArray × Nat × Fl)) (s : ByteArray) : Option Nat := (getL L s).map (·.1)
/-- A disk at d: its files L (name, block, content), its number z. -/
structure DkAt (w : World) (O : Nat → Option Nat) (d m N room z : Nat) (on : Bool) (lives : Nat) (L : List (ByteArray × Nat × Fl)) : Prop where
  row : w.heap[d]? = some (.cells #[.int .i64 (room : Int), .int .i64 (z : Int), .map (some m), .bool on, .int .i64 (lives : Int)] 50 (0, 0))
  map : MapIs w m N (ptrs L)
  file : ∀ x ∈ L, FileIs w (fun i => O i = some x.2.1) x.2.1 x.2.2
  one : One L
  gds : ∀ x ∈ L, ∀ y ∈ L, x.2.1 = y.2.1 → x.1 = y.1
  od : O d = some d
  om : O m = some d
  low : ∀ i, O i ≠ none → i < w.heap.size
section
variable {w w' : World} {O : Nat → Option Nat} {d m N room z lives : Nat} {on : Bool} {L : List (ByteArray × Nat × Fl)}
theorem row5 {t : Nat} {a b c e f : Value} (h : w.heap[d]? = some (.cells #[a, b, c, e, f] t (0, 0))) : (w.cell? ⟨d, 0, none⟩ = some a ∧ w.cell? ⟨d, 1, none⟩ = some b ∧ w.cell? ⟨d, 2, none⟩ = some c ∧ w.cell? ⟨d, 3, none⟩ = some e ∧ w.cell? ⟨d, 4, none⟩ = some f) ∧ w.frozen? ⟨d, 1, none⟩ = false ∧ w.frozen? ⟨d, 3, none⟩ = false ∧ w.frozen? ⟨d, 4, none⟩ = false :=
  ⟨⟨by rw [cell_of_row _ _ _ _ _ _ h]; rfl, by rw [cell_of_row _ _ _ _ _ _ h]; rfl, by rw [cell_of_row _ _ _ _ _ _ h]; rfl, by rw [cell_of_row _ _ _ _ _ _ h]; rfl, by rw [cell_of_row _ _ _ _ _ _ h]; rfl⟩, frozen_of_row _ _ _ _ _ h, frozen_of_row _ _ _ _ _ h, frozen_of_row _ _ _ _ _ h⟩
theorem DkAt.ltd (h : DkAt w O d m N room z on lives L) : d < w.heap.size := (Array.getElem?_eq_some_iff.1 h.row).1
/-- A file's block is not the disk's. -/
theorem DkAt.ned (h : DkAt w O d m N room z on lives L) {x : ByteArray × Nat × Fl} (hx : x ∈ L) : x.2.1 ≠ d := by
  obtain ⟨_, _, A, n, c, A2, n2, c2, hg, _⟩ := h.file x hx
  intro e
  rw [e, h.row] at hg
  injection hg with hg
  injection hg with _ hg _
  exact absurd hg (by decide)
/-- All of it stays, whatever turns elsewhere. -/
theorem DkAt.off {G : Nat → Prop} (h : DkAt w O d m N room z on lives L) (hb : Off G w w') (hd : ∀ i, O i ≠ none → ¬ G i) : DkAt w' O d m N room z on lives L where
  row := (hb.block d h.ltd (hd d (by rw [h.od]; simp))).trans h.row
  map := h.map.block (hb.block m h.map.lt (hd m (by rw [h.om]; simp)))
  file := fun x hx => (h.file x hx).off hb fun i _ hi => hd i (by rw [hi]; simp)
  one := h.one
  gds := h.gds
  od := h.od
  om := h.om
  low := fun i hi => Nat.lt_of_lt_of_le (h.low i hi) hb.size
/-- One file has turned, in its own blocks and new ones. -/
theorem DkAt.turn (h : DkAt w O d m N room z on lives L) {s : ByteArray} {g : Nat} {f f' : Fl} (hs : getL L s = some (g, f)) (hb : Off (fun i => O i = some g) w w') (hf : FileIs w' (fun i => O i = some g ∨ w.heap.size ≤ i) g f') :
    DkAt w' (paint O w.heap.size w'.heap.size g) d m N room z on lives (upd L s fun _ => (g, f')) := by
  have hx := mem_getL hs
  have hgd : g ≠ d := h.ned hx
  have hO : ∀ i, i < w.heap.size → paint O w.heap.size w'.heap.size g i = O i := fun i hi => by
    unfold paint; rw [if_neg (by omega)]
  have hp : ptrs (upd L s fun _ => (g, f')) = ptrs L := by
    funext t
    unfold ptrs
    rw [getL_upd]
    by_cases e : t = s
    · subst e; rw [if_pos rfl, hs]; rfl
    · rw [if_neg e]
  refine ⟨(hb.block d h.ltd (by rw [h.od]; simp; exact hgd.symm)).trans h.row, by rw [hp]; exact h.map.block (hb.block m h.map.lt (by rw [h.om]; simp; exact hgd.symm)), fun y hy => ?_, h.one.upd s _, fun x hx' y hy' e => ?_, by rw [hO d h.ltd, h.od], by rw [hO m h.map.lt, h.om], fun i hi => ?_⟩
  · obtain ⟨x, hxL, rfl⟩ := List.mem_map.1 hy
    by_cases e : x.1 = s
    · simp only [e, if_true]
      refine hf.mono fun i hi hi2 => ?_
      rcases hi2 with h2 | h2
      · have := h.low i (by rw [h2]; simp)
        rw [hO i this]; exact h2
      · unfold paint; rw [if_pos ⟨h2, hi⟩]
    · simp only [e, if_false]
      have hne : x.2.1 ≠ g := fun e2 => e (h.gds x hxL (s, g, f) hx e2)
      refine ((h.file x hxL).off hb fun i _ h1 h2 => hne (by rw [h1] at h2; injection h2)).mono fun i _ h1 => ?_
      rw [hO i (h.low i (by rw [h1]; simp))]; exact h1
  · obtain ⟨x0, hx0, rfl⟩ := List.mem_map.1 hx'
    obtain ⟨y0, hy0, rfl⟩ := List.mem_map.1 hy'
    have key : ∀ u ∈ L, (if u.1 = s then (u.1, (g, f')) else u).1 = u.1 ∧ (if u.1 = s then (u.1, (g, f')) else u).2.1 = u.2.1 := fun u hu => by
      by_cases e1 : u.1 = s
      · simp only [e1, if_true]
        have h3 := getL_mem h.one hu
        rw [e1, hs] at h3
        injection h3 with h3
        exact ⟨trivial, by rw [← h3]⟩
      · simp only [e1, if_false]; exact ⟨trivial, trivial⟩
    rw [(key x0 hx0).1, (key y0 hy0).1]
    rw [(key x0 hx0).2, (key y0 hy0).2] at e
    exact h.gds x0 hx0 y0 hy0 e
  · unfold paint at hi
    by_cases h1 : w.heap.size ≤ i ∧ i < w'.heap.size
    · exact h1.2
    · rw [if_neg h1] at hi
      exact Nat.lt_of_lt_of_le (h.low i hi) hb.size
/-- The map has turned: it leads to files that were there. -/
theorem DkAt.remap (h : DkAt w O d m N room z on lives L) {N' : Nat} {L' : List (ByteArray × Nat × Fl)} (hb : w.grownBy w' (some m)) (hm : MapIs w' m N' (ptrs L')) (h1 : One L') (hL : ∀ x ∈ L', ∃ y ∈ L, y.2 = x.2) (hg : ∀ x ∈ L', ∀ y ∈ L', x.2.1 = y.2.1 → x.1 = y.1) : DkAt w' O d m N' room z on lives L' where
  row := (hb.block d h.ltd (fun e => h.map.ne h.row (by injection e))).trans h.row
  map := hm
  file := fun x hx => by
    obtain ⟨y, hy, e⟩ := hL x hx
    have h2 := h.file y hy
    rw [e] at h2
    exact h2.off (G := fun i => i = m) ⟨hb.os, hb.tape, hb.output, hb.size, fun k hk hn => hb.block k hk (fun e => hn (by injection e))⟩ fun i hi h3 e3 => by
      rw [e3, h.om] at h3
      have h4 := h.ned hy
      rw [e] at h4
      injection h3 with h3
      exact h4 h3.symm
  one := h1
  gds := hg
  od := h.od
  om := h.om
  low := fun i hi => Nat.lt_of_lt_of_le (h.low i hi) hb.size
/-- One of the disk's own cells has turned. -/
theorem DkAt.cells (h : DkAt w O d m N room z on lives L) {z' lives' : Nat} {on' : Bool} (hb : But d w w') (hr : w'.heap[d]? = some (.cells #[.int .i64 (room : Int), .int .i64 (z' : Int), .map (some m), .bool on', .int .i64 (lives' : Int)] 50 (0, 0))) : DkAt w' O d m N room z' on' lives' L where
  row := hr
  map := h.map.block (hb.block m h.map.lt (fun e => h.map.ne h.row (by injection e with e; exact e.symm)))
  file := fun x hx => (h.file x hx).off (Off.of_but (F := fun i => i = d) hb rfl) fun i _ h1 h2 => by
    rw [h2, h.od] at h1
    injection h1 with h1
    exact h.ned hx h1.symm
  one := h.one
  gds := h.gds
  od := h.od
  om := h.om
  low := fun i hi => Nat.lt_of_lt_of_le (h.low i hi) hb.size
/-- A new file, of nothing. -/
theorem DkAt.add (h : DkAt w O d m N room z on lives L) {s : ByteArray} (hs : getL L s = none) (hm : MapIs w' m (N + 1) fun t => if t = s then some w.heap.size else ptrs L t) (hb : (w.alloc (.cells #[.slice none 0 0, .slice none 0 0] 65)).grownBy w' (some m)) :
    DkAt w' (paint O w.heap.size w'.heap.size w.heap.size) d m (N + 1) room z on lives (L ++ [(s, w.heap.size, ⟨[], []⟩)]) := by
  have hoff : Off (fun i => i = m) w w' := ((Off.refl _ w).alloc _).trans (G := fun i => i = m) ⟨hb.os, hb.tape, hb.output, hb.size, fun k hk hn => hb.block k hk (fun e => hn (by injection e))⟩ fun i h => .inl h
  have hsz : w.heap.size < w'.heap.size := by have := hb.size; simp at this; omega
  have hml := h.map.lt
  have hO : ∀ i, i < w.heap.size → paint O w.heap.size w'.heap.size w.heap.size i = O i := fun i hi => by
    unfold paint; rw [if_neg (by omega)]
  have hnew : w'.heap[w.heap.size]? = some (.cells #[.slice none 0 0, .slice none 0 0] 65 (0, 0)) := by
    rw [hb.block w.heap.size (by simp) (fun e => by injection e; omega)]
    exact heap_alloc_new w _
  have hp : ptrs (L ++ [(s, w.heap.size, ⟨[], []⟩)]) = fun t => if t = s then some w.heap.size else ptrs L t := by
    funext t
    unfold ptrs
    rw [getL_app, getL_cons, getL_nil]
    by_cases e : t = s
    · subst e; rw [hs]; simp
    · have e2 : ¬ s = t := fun h => e h.symm
      simp [e, e2]
  refine ⟨(hoff.block d h.ltd (h.map.ne h.row)).trans h.row, by rw [hp]; exact hm, fun y hy => ?_, h.one.snoc hs _, fun x hx y hy e => ?_, by rw [hO d h.ltd, h.od], by rw [hO m h.map.lt, h.om], fun i hi => ?_⟩
  · rcases List.mem_append.1 hy with hy | hy
    · refine ((h.file y hy).off hoff fun i _ h1 h2 => ?_).mono fun i _ h1 => ?_
      · rw [h2, h.om] at h1
        injection h1 with h1
        exact h.ned hy h1.symm
      · rw [hO i (h.low i (by rw [h1]; simp))]; exact h1
    · rw [List.mem_singleton] at hy
      subst hy
      refine ⟨by simp, ?_, none, 0, 0, none, 0, 0, hnew, World.ownsRow_nil _ _ _ _, World.ownsRow_nil _ _ _ _, AtF.none_ _, AtF.none_ _⟩
      show paint O w.heap.size w'.heap.size w.heap.size w.heap.size = some w.heap.size
      unfold paint; rw [if_pos ⟨Nat.le_refl _, hsz⟩]
  · rcases List.mem_append.1 hx with hx | hx <;> rcases List.mem_append.1 hy with hy | hy
    · exact h.gds x hx y hy e
    · rw [List.mem_singleton] at hy
      subst hy
      have := (h.file x hx).2.lt
      rw [e] at this; simp at this
    · rw [List.mem_singleton] at hx
      subst hx
      have := (h.file y hy).2.lt
      rw [← e] at this; simp at this
    · rw [List.mem_singleton] at hx hy
      subst hx hy; rfl
  · unfold paint at hi
    by_cases h1 : w.heap.size ≤ i ∧ i < w'.heap.size
    · exact h1.2
    · rw [if_neg h1] at hi
      exact Nat.lt_of_lt_of_le (h.low i hi) hoff.size
end
/-- What is said of a disk: its room, whether the power is on, how often it came on, its files. -/
structure Dk where
  room : Nat
  on : Bool
  lives : Nat
  C : List (ByteArray × Fl)
def fsz (f : Fl) : Nat := f.all.length
def Dk.size (S : Dk) : Nat := sumL fsz S.C
structure DkIs (w : World) (O : Nat → Option Nat) (d N : Nat) (S : Dk) : Prop where
  at_ : ∃ m L, DkAt w O d m N S.room S.size S.on S.lives L ∧ onL (·.2) L = S.C
  full : S.size ≤ S.room
  few : S.room ≤ 1048576
/-- What is the disk's own behind a call: what was, and what is new. -/
def Own (O O' : Nat → Option Nat) (B : Nat) : Prop := ∀ i, O' i ≠ none → O i ≠ none ∨ B ≤ i
theorem Own.paint {O : Nat → Option Nat} {a b g : Nat} : Own O (paint O a b g) a := fun i hi => by
  unfold Go.Proofs.YtaklbgikoeedbaaDoor.paint at hi
  by_cases h : a ≤ i ∧ i < b
  · exact .inr h.1
  · rw [if_neg h] at hi; exact .inl hi
theorem Own.refl {O : Nat → Option Nat} {a : Nat} : Own O O a := fun _ hi => .inl hi
end Go.Proofs.YtaklbgikoeedbaaDoor
namespace Go.Proofs.YtaklbgikoeedbaaDoor
open Go.RowKit

theorem Tryd.zeroByte (w : World) : (zeroValue 5).run Tryd.prog w = .ok (.int .u8 0) w := by
  obtain ⟨i, hi, hz, _⟩ := info_parts Tryd.infoByte
  simp [zeroValue, typeInfo, hi, hz]

def setsL (xs : List Value) (o : Nat) : List Value → List Value
  | [] => xs
  | v :: r => setsL (xs.set o v) (o + 1) r
theorem setsL_eq : ∀ (vs xs : List Value) (o : Nat), o + vs.length ≤ xs.length → setsL xs o vs = xs.take o ++ vs ++ xs.drop (o + vs.length)
  | [], xs, o, _ => by simp [setsL]
  | v :: r, xs, o, h => by
    simp only [List.length_cons] at h
    unfold setsL
    rw [setsL_eq r (xs.set o v) (o + 1) (by simp; omega)]
    have e1 : (xs.set o v).take (o + 1) = xs.take o ++ [v] := by
      rw [List.take_add_one, List.take_set_of_le (Nat.le_refl _), List.getElem?_set_self (by omega)]; rfl
    have e2 : (xs.set o v).drop (o + 1 + r.length) = xs.drop (o + (v :: r).length) := by
      rw [List.drop_set_of_lt (by omega), List.length_cons, Nat.add_assoc, Nat.add_comm 1]
    rw [e1, e2]
    simp
theorem own_sets {e n c b : Nat} : ∀ (vs : List Value) (o : Nat) (w : World) (xs : List Value), w.ownsRow 0 e 1 (.slice (some ⟨b, 0, none⟩) n c) n xs → (w.setCells b o vs).ownsRow 0 e 1 (.slice (some ⟨b, 0, none⟩) n c) n (setsL xs o vs) ∧ w.grownBy (w.setCells b o vs) (some b)
  | [], o, w, xs, h => ⟨h, ⟨rfl, rfl, rfl, Nat.le_refl _, fun _ _ _ => rfl⟩⟩
  | v :: r, o, w, xs, h => by
    obtain ⟨h1, h2⟩ := h.stored o v
    obtain ⟨h3, h4⟩ := own_sets r (o + 1) (w.setCell ⟨b, o, none⟩ v) _ h1
    exact ⟨h3, But.trans (g := b) h2 h4⟩

/-- clear(b[s:s+d]). -/
theorem clear_own {P : Program} (w : World) {T E ty : TypeId} (hT : P.underlying T = some (.slice E)) (hz : ∀ w, (zeroValue E).run P w = .ok (.int .u8 0) w) {A : Option Addr} {n c s d c2 : Nat} {x : List UInt8} (h : w.ownsRow 0 E 1 (.slice A n c) n (bv x)) (hsd : s + d ≤ n) :
    ∃ w', (Builtin.clear_ #[T] ty #[.slice (if c = s then A else A.map (·.add s)) d c2]).run P w = .ok (.tuple #[]) w' ∧ w'.ownsRow 0 E 1 (.slice A n c) n (bv (x.take s ++ List.replicate d 0 ++ x.drop (s + d))) ∧ w.grownBy w' (A.map (·.block)) := by
  have hs := owns_size h
  rw [bv_len] at hs
  by_cases hd : d = 0
  · subst hd
    refine ⟨w, ?_, by simpa using h, ⟨rfl, rfl, rfl, Nat.le_refl _, fun _ _ _ => rfl⟩⟩
    generalize (if c = s then A else A.map (·.add s)) = A2
    cases A2 <;> simp [Builtin.clear_, run_underlying hT]
  · rcases h.2 with ⟨h2, h3⟩ | ⟨b, cap, cur, h2, hb, hg, h5, h6, h7, h8⟩
    · omega
    · simp only [Value.slice.injEq] at h2
      obtain ⟨rfl, _, rfl⟩ := h2
      have hne : ¬ c = s := by omega
      rw [if_neg hne, Option.map_some, addr_add, Nat.zero_add]
      have hr := Lib.run_clear_slice (P := P) w T E ty (.int .u8 0) hT hz rfl rfl b s d c2 (by omega) (fun j hj => by rw [h.cellAt (s + j) (by omega), bv_at, List.getElem?_eq_getElem (by omega)]; rfl) (fun j _ => h.frozenAt (s + j))
      obtain ⟨h9, h10⟩ := own_sets (List.replicate d (.int .u8 0)) s w _ h
      refine ⟨_, hr, ?_, h10⟩
      rw [setsL_eq _ _ _ (by rw [bv_len]; simp; omega), List.length_replicate, bv_take] at h9
      rw [bv_app, bv_app, ← bv_rep]
      have e : (bv x).drop (s + d) = bv (x.drop (s + d)) := by simp [bv]
      rw [e] at h9
      exact h9

theorem and_one (x : Nat) (hx : x < 18446744073709551616) : bits .and .u64 (x : Int) 1 = ((x % 2 : Nat) : Int) := by
  have h := u64_and_nat x 1 hx (by decide)
  rw [show ((1 : Nat) : Int) = 1 from rfl] at h
  rw [h, show (1 : Nat) = 2 ^ 1 - 1 by decide, Nat.and_two_pow_sub_one_eq_mod]
theorem bit_low {keep k : Nat} (hk : keep < 18446744073709551616) (h : k ≤ 63) : bits .and .u64 ((keep : Int) / 2 ^ k) 1 = if stays keep k then 1 else 0 := by
  have e : ((keep : Int) / 2 ^ k) = ((keep / 2 ^ k : Nat) : Int) := by simp
  rw [e, and_one _ (Nat.lt_of_le_of_lt (Nat.div_le_self _ _) hk), stays, Nat.min_eq_left h]
  rcases Nat.mod_two_eq_zero_or_one (keep / 2 ^ k) with h0 | h0 <;> simp [h0]
theorem bit_high {keep k : Nat} (hk : keep < 18446744073709551616) (h : 63 ≤ k) : bits .and .u64 ((keep : Int) / 9223372036854775808) 1 = if stays keep k then 1 else 0 := by
  have e : ((keep : Int) / 9223372036854775808) = ((keep / 2 ^ 63 : Nat) : Int) := by simp
  rw [e, and_one _ (Nat.lt_of_le_of_lt (Nat.div_le_self _ _) hk), stays, Nat.min_eq_right h]
  rcases Nat.mod_two_eq_zero_or_one (keep / 2 ^ 63) with h0 | h0 <;> simp [h0]
end Go.Proofs.YtaklbgikoeedbaaDoor
namespace Go.Proofs.YtaklbgikoeedbaaDoor
open Go.RowKit

theorem Res.none_lit (w : World) (E : TypeId) (base : Nat) (hb : base ≤ w.heap.size) : Res (w.alloc (.cells #[] E)) base E (some ⟨w.heap.size, 0, none⟩) 0 0 [] :=
  Res.row hb (heap_alloc_new w _) (Nat.le_refl _) (by omega) rfl rfl rfl
end Go.Proofs.YtaklbgikoeedbaaDoor
namespace Go.Proofs.YtaklbgikoeedbaaDoor
open Go.RowKit

set_option maxRecDepth 100000 in
theorem bclone_any (w : World) (A : Option Addr) (l : List UInt8) (n c : Nat) (ha : Byt w w.heap.size A l) (hl : l.length = n) (hn : n ≤ 70368744177664) :
    Calls Tryd.prog 32 #[.slice A n c] w fun e w' => ∃ A' c', e = .returned (.slice A' n c') ∧ Res w' w.heap.size 5 A' n c' l ∧ Below w.heap.size w w' := by
  have HL := Lib.hid hl
  cases A with
  | none =>
    have h0 : l = [] := by
      rcases ha with h | ⟨_, _, h, _⟩
      · exact h
      · cases h
    subst h0
    obtain rfl : n = 0 := hl.symm
    clear HL hl
    have hnil := fun w0 => Lib.run_eql_slice_nil (P := Tryd.prog) w0 31 5 none 0 c 0 0 Tryd.underlying31
    go_enter Tryd.func32, Tryd.ntmps32
    go_wp2
    go_ret
    exact ⟨none, 0, rfl, World.ownsRow_nil _ _ _ _, Below.refl _ _⟩
  | some ad =>
    clear hl
    have hnil := fun w0 => Lib.run_eql_slice_nil (P := Tryd.prog) w0 31 5 (some ad) n c 0 0 Tryd.underlying31
    go_enter Tryd.func32, Tryd.ntmps32
    go_wp2_with (at_builtin; refine wp_append_src _ rfl _ _ 31 rfl 5 Tryd.underlying31 Tryd.infoByte w.heap.size (some ⟨w.heap.size, 0, none⟩) 0 0 [] rfl (Res.none_lit w _ _ (Nat.le_refl _)) (some ad) n c rfl _ l (ha.alloc (Nat.le_refl _) _) HL.out (by omega) (by simp) ?_)
    intro A1 c1 w1 hr1 hb1
    have hb2 := hb1 w.heap.size w (Nat.le_refl _) ((Below.refl _ _).alloc (Nat.le_refl _) _)
    clear hb1
    have hr2 : Res w1 w.heap.size 5 A1 n c1 l := by
      have h := hr1
      simpa using h
    clear hr1
    go_wp2
    go_ret
    exact ⟨A1, c1, rfl, hr2, hb2⟩
end Go.Proofs.YtaklbgikoeedbaaDoor
namespace Go.Proofs.YtaklbgikoeedbaaDoor
open Go.RowKit

theorem own_base {w : World} {base e n : Nat} {v : Value} {xs : List Value} (h : w.ownsRow base e 1 v n xs) : w.ownsRow 0 e 1 v n xs := by
  refine ⟨h.1, ?_⟩
  rcases h.2 with hn | ⟨g, cap, cur, rfl, hB, r⟩
  · exact .inl hn
  · exact .inr ⟨g, cap, cur, rfl, Nat.zero_le _, r⟩
theorem zsBytes_no_d {keep : Nat} {f : Fl} {i a d : Nat} (h : i < f.gs.length) (hs : stays keep i = false) (ha : a = f.safe.length + (f.gs.take i).flatten.length) (hd : d = f.gs[i].length) :
    zsBytes keep f (i + 1) = (zsBytes keep f i).take a ++ List.replicate d 0 ++ (zsBytes keep f i).drop (a + d) := by
  subst ha hd; exact zsBytes_no keep f i h hs
theorem leftAt_yes_d {keep torn : Nat} {f : Fl} {i a d b v : Nat} (h : i < f.gs.length) (hs : stays keep i = true) (ha : a = f.safe.length + (f.gs.take i).flatten.length) (hd : d = f.gs[i].length) (hb : b = a + d) (hv : v = b - min torn d) : v = leftAt keep torn f (i + 1) := by
  subst ha hd hb hv; exact (leftAt_yes keep torn f i h hs).symm
theorem end_at {f : Fl} {m k a d v : Nat} (hk : k < f.gs.length) (hm : m = f.all.length) (ha : a = f.safe.length + (f.gs.take k).flatten.length) (hd : d = f.gs[k].length) (h : (f.st ++ [m])[k + 1]? = some v) : v = a + d ∧ v ≤ f.all.length := by
  have h0 := flat_at f.gs k hk
  have h3 := flat_take_le f.gs (k + 1)
  have h4 := all_len f
  have h2 : (f.st ++ [m])[k + 1]? = some (a + d) := by
    by_cases hl : k + 1 < f.gs.length
    · rw [List.getElem?_append_left (by rw [st_len]; omega), st_at f (k + 1) hl]
      congr 1; omega
    · have e : k + 1 = f.st.length := by rw [st_len]; omega
      have e2 : (f.gs.take (k + 1)).flatten.length = f.gs.flatten.length := by rw [List.take_of_length_le (by omega)]
      rw [e, List.getElem?_append_right (Nat.le_refl _), Nat.sub_self, List.getElem?_cons_zero]
      congr 1; omega
  rw [h2] at h
  injection h with h
  omega

set_option maxRecDepth 100000 in
set_option maxHeartbeats 1000000 in
theorem crash_any (w : World) (K : Nat → Prop) (g : Nat) (f : Fl) (hf : FileIs w K g f) (keep torn : Nat) (hk : keep < 18446744073709551616) (ht : torn < 9223372036854775808) (hsz : f.all.length ≤ 1099511627776) :
    Calls Tryd.prog 33 #[.pointer (some ⟨g, 0, none⟩), .int .u64 (keep : Int), .int .i64 (torn : Int)] w fun e w' => e = .returned (.tuple #[]) ∧ FileIs w' (fun i => K i ∨ w.heap.size ≤ i) g (f.fall keep torn) ∧ Off K w w' := by
  have hf0 := hf
  obtain ⟨hlen, hK, A, n, c, A2, n2, c2, hg, h1, h2, h3, h4⟩ := hf
  have hs1 := owns_size h1
  have hs2 := owns_size h2
  rw [bv_len] at hs1
  rw [iv_len, st_len] at hs2
  obtain ⟨c0, c1, f0, f1⟩ := row2 hg
  by_cases hnil : f.gs = []
  · have h0 : n2 = 0 := by rw [hnil] at hs2; simp at hs2; omega
    subst h0
    have HF : FileIs w (fun i => K i ∨ w.heap.size ≤ i) g (f.fall keep torn) := by
      refine ⟨by simp [Fl.fall], ?_⟩
      rw [fall_all, fall_st, fallen_none _ _ _ hnil]
      have h := hf0.2.mono (G := fun i => K i ∨ w.heap.size ≤ i) fun i _ h => .inl h
      have e : f.st = [] := by unfold Fl.st; rw [hnil]; rfl
      rw [e] at h
      exact h
    have HF := Lib.hid HF
    clear hf0 hg h1 h2 h3 h4 hs1 hs2 hlen hsz hnil
    go_enter Tryd.func33, Tryd.ntmps33
    go_wp2
    refine bodyPost_ret (results_none rfl _ _ _) rfl ?_
    exact ⟨rfl, HF.out, Off.refl _ _⟩
  · have hpos : 0 < f.gs.length := List.length_pos_iff.2 hnil
    obtain ⟨N, hN⟩ : ∃ N, N = f.gs.length := ⟨_, rfl⟩
    have hn2 : n2 = N := by omega
    subst hn2
    have hn0 : ¬ (n2 : Int) = 0 := by omega
    obtain ⟨b2, v0, rfl, hv0, hc2⟩ := own_ints h2 (k := 0) (by rw [st_len]; exact hpos)
    have hv0' : v0 = f.safe.length := by
      have := st_at f 0 hpos
      rw [hv0] at this
      simpa using this
    have H1 := Lib.hid h1
    have H2 := Lib.hid h2
    have H3 := Lib.hid h3
    have H4 := Lib.hid h4
    have HG := Lib.hid hg
    have HA1 := Lib.hid (owns_ne h1 hg (by decide))
    have HS1 := Lib.hid hs1
    have HN := Lib.hid hN
    have HLEN := Lib.hid hlen
    have HSZ := Lib.hid hsz
    have HV0 := Lib.hid hv0'
    have hn65 : n2 ≤ 65 := by omega
    have hnc2 : n2 ≤ c2 := by omega
    have hn1 : 0 < n2 := by omega
    clear hf0 hg h1 h2 h3 h4 hs1 hs2 hlen hsz hnil hpos hN hv0 hv0'
    go_enter Tryd.func33, Tryd.ntmps33
    go_wp2
    go_loopw [6, 27] (fun l i wr => ∃ k v : Nat, i = .int .i64 (k : Int) ∧ k ≤ n2 ∧ l = .int .i64 (v : Int) ∧ Vlt (v = leftAt keep torn f k) ∧ Hid (wr.ownsRow 0 5 1 (.slice A n c) n (bv (zsBytes keep f k))) ∧ Hid (w.grownBy wr (A.map (·.block)))) (fun _ i _ => n2 - (intOf i).toNat)
    case atStart => exact ⟨0, v0, rfl, Nat.zero_le _, rfl, vlt (by rw [leftAt_zero]; exact HV0.out), Lib.hid (by rw [zsBytes_zero]; exact H1.out), Lib.hid ⟨rfl, rfl, rfl, Nat.le_refl _, fun _ _ _ => rfl⟩⟩
    case round =>
      obtain ⟨k, v, rfl, hk2, rfl, hv, hown, hgr⟩ := hrel
      have hrowr := grown_row hgr.out HA1.out HG.out
      have H2r := own_grown H2.out H1.out (by decide) hgr.out
      have hFR : FileR wr K g (zsBytes keep f k) f.st := ⟨hK, A, n, c, _, n2, c2, hrowr, hown.out, H2r, H3.out, H4.out⟩
      obtain ⟨r0, r1, e0, e1⟩ := row2 hrowr
      have hne := HN.out
      by_cases hlt : k < n2
      · obtain ⟨b2', vk, hbb, hvk, hck⟩ := own_ints H2r (k := k) (by rw [st_len]; omega)
        obtain rfl : b2' = b2 := by simp at hbb; exact hbb.symm
        have hend := end_any wr K g _ f.st hFR k (by rw [st_len]; omega) (by rw [st_len]; omega)
        have hkl : k < f.gs.length := by omega
        have hvk3 : vk = f.safe.length + (f.gs.take k).flatten.length := by
          have h := st_at f k hkl
          rw [hvk] at h
          injection h
        obtain ⟨d, hd⟩ : ∃ d, d = f.gs[k].length := ⟨_, rfl⟩
        have HVK := Lib.hid hvk3
        have HD := Lib.hid hd
        have HKL := Lib.hid hkl
        clear hvk3 hd hne hvk hrowr hFR H2r hbb
        go_wp2_with fail
        refine hend.mono ?_
        rintro e w2 ⟨v2, rfl, hv2, rfl⟩
        obtain ⟨hv2', hv2n'⟩ := end_at HKL.out (zsBytes_len keep f k) HVK.out HD.out hv2.out
        have hk65 : k < 65 := by omega
        have hdi : (v2 : Int) - (vk : Int) = (d : Int) := by omega
        have hv2n : v2 ≤ n := by have := HS1.out.1; omega
        have hvk4 : vk ≤ v2 := by omega
        have HV2 := Lib.hid hv2'
        have hnc : n ≤ c := HS1.out.2.2
        have hn40 : n ≤ 1099511627776 := by have := HS1.out.1; have := HSZ.out; omega
        clear hv2 hv2' hend hv2n'
        by_cases hst : stays keep k = true
        · obtain ⟨v3, hv3⟩ : ∃ v3 : Nat, v3 = v2 - min torn d := ⟨_, rfl⟩
          have hmin : (v2 : Int) - (if d < torn then (d : Int) else (torn : Int)) = (v3 : Int) := by
            have := HV2.out
            have := HD.out
            split <;> omega
          have HL3 := vlt (show v3 = leftAt keep torn f (k + 1) by
            exact leftAt_yes_d HKL.out hst HVK.out HD.out HV2.out hv3)
          have HZ3 := Lib.hid (show w2.ownsRow 0 5 1 (.slice A n c) n (bv (zsBytes keep f (k + 1))) by
            rw [zsBytes_yes _ _ _ HKL.out hst]; exact hown.out)
          by_cases hk63 : k ≤ 63
          · have hk63' : (k : Int) ≤ 63 := by omega
            have hbit := bit_low (k := k) hk hk63
            rw [if_pos hst] at hbit
            clear hst hv hv3 hown
            go_wp2
            go_roundw
            case rel => exact ⟨k + 1, v3, by go_num, by omega, by go_num, HL3, HZ3, hgr⟩
            case measure => simp [intOf]; omega
          · have hk63' : ¬ (k : Int) ≤ 63 := by omega
            have hbit := bit_high (k := k) hk (by omega)
            rw [if_pos hst] at hbit
            clear hst hv hv3 hown
            go_wp2
            go_roundw
            case rel => exact ⟨k + 1, v3, by go_num, by omega, by go_num, HL3, HZ3, hgr⟩
            case measure => simp [intOf]; omega
        · have hst' : stays keep k = false := by simpa using hst
          have HL3 := vlt (show v = leftAt keep torn f (k + 1) by
            rw [leftAt_no _ _ _ _ HKL.out hst']; exact hv.out)
          have hcut := run_cut_lh (P := Tryd.prog) Tryd.underlying31 Tryd.sizeByte A n c vk v2 (vk : Int) (v2 : Int) rfl rfl hvk4 (by omega)
          have hclr := clear_own (P := Tryd.prog) (ty := 0) (s := vk) (d := v2 - vk) (c2 := c - vk) w2 Tryd.underlying31 Tryd.zeroByte hown.out (by omega)
          obtain ⟨w3, hrun, hown3, hgr3⟩ := hclr
          generalize hA2 : (if c = vk then A else A.map (·.add vk)) = A2 at hcut hrun
          have HZ3 := Lib.hid (show w3.ownsRow 0 5 1 (.slice A n c) n (bv (zsBytes keep f (k + 1))) by
            rw [zsBytes_no_d HKL.out hst' HVK.out HD.out]
            have e : v2 - vk = d := by have := HV2.out; omega
            rw [e] at hown3; exact hown3)
          have HG3 : Hid (w.grownBy w3 (A.map (·.block))) := Lib.hid ⟨hgr3.os.trans hgr.out.os, hgr3.tape.trans hgr.out.tape, hgr3.output.trans hgr.out.output, Nat.le_trans hgr.out.size hgr3.size, fun i hi hn => (hgr3.block i (Nat.lt_of_lt_of_le hi hgr.out.size) hn).trans (hgr.out.block i hi hn)⟩
          by_cases hk63 : k ≤ 63
          · have hk63' : (k : Int) ≤ 63 := by omega
            have hbit := bit_low (k := k) hk hk63
            rw [if_neg hst] at hbit
            clear hst hst' hv hown hown3 hgr3 hgr hA2
            go_wp2
            go_roundw
            case rel => exact ⟨k + 1, v, by go_num, by omega, by go_num, HL3, HZ3, HG3⟩
            case measure => simp [intOf]; omega
          · have hk63' : ¬ (k : Int) ≤ 63 := by omega
            have hbit := bit_high (k := k) hk (by omega)
            rw [if_neg hst] at hbit
            clear hst hst' hv hown hown3 hgr3 hgr hA2
            go_wp2
            go_roundw
            case rel => exact ⟨k + 1, v, by go_num, by omega, by go_num, HL3, HZ3, HG3⟩
            case measure => simp [intOf]; omega
      · obtain rfl : k = n2 := by omega
        have hvn : v ≤ n := by
          have h6 := leftAt_le keep torn f k
          have h7 := flat_take_le f.gs k
          have h8 := all_len f
          have h9 := HS1.out.1
          have h10 := hv.out
          omega
        have hnc : n ≤ c := HS1.out.2.2
        have hn40 : n ≤ 1099511627776 := by have := HS1.out.1; have := HSZ.out; omega
        have hcut := run_cut_h (P := Tryd.prog) Tryd.underlying31 Tryd.sizeByte A n c v (v : Int) rfl (by omega)
        have hl := hown.out
        have hcl := bclone_any wr A ((zsBytes keep f k).take v) v c (Byt.take (Byt.of_own (own_base hown.out)) v) (by rw [List.length_take, zsBytes_len, HS1.out.1, Nat.min_eq_left hvn]) (by omega)
        have HFA := vlt (show (zsBytes keep f k).take v = fallen keep torn f by rw [fallen_is, hv.out, hne])
        rw [HFA.out] at hcl
        clear hv hl hown hne H2r hFR
        go_wp2_with fail
        refine hcl.mono ?_
        rintro e w2 ⟨A4, c4, rfl, hr4, hb4⟩
        clear hcl hcut
        have hrow2 : w2.heap[g]? = some (.cells #[.slice A n c, .slice (some ⟨b2, 0, none⟩) k c2] 65 (0, 0)) := (hb4.block g (Array.getElem?_eq_some_iff.1 hrowr).1).trans hrowr
        clear r0 r1 e0 e1 hrowr
        obtain ⟨r0, r1, e0, e1⟩ := row2 hrow2
        have hset := world_set_cell (cs := [.slice A n c, .slice (some ⟨b2, 0, none⟩) k c2]) hrow2 0 (.slice A4 v c4)
        have hset2 := world_set_cell hset.out 1 (.slice none 0 0)
        have hoff : Off K w wr := grown_off hgr.out H3.out
        have hoff2 := hoff.next hb4
        have hoff3 := (hoff2.trans (off_set (i := 0) (.slice A4 v c4) hK) fun i h => .inl h).trans (off_set (i := 1) (.slice none 0 0) hK) fun i h => .inl h
        have h40 : w2.ownsRow 0 5 1 (.slice A4 v c4) v (bv (fallen keep torn f)) := own_base hr4
        have h41 := own_set (i := 1) (own_set (i := 0) h40 (owns_ne h40 hrow2 (by decide)) (.slice A4 v c4)) (owns_ne h40 hrow2 (by decide)) (.slice none 0 0)
        have HO := Lib.hid h41
        have HAT : Hid (AtF (fun i => K i ∨ w.heap.size ≤ i) A4) := Lib.hid fun a ha => .inr (by
          subst ha
          have h := (World.ownsRow.lt (show w2.ownsRow wr.heap.size 5 1 (.slice (some a) v c4) v (bv (fallen keep torn f)) from hr4) a.block rfl).1
          exact Nat.le_trans hoff.size h)
        have HGS := Lib.hid hgr.out
        clear hr4 hb4 hoff hoff2 h40 h41 hset
        go_wp2
        go_end0
        refine ⟨rfl, ⟨by simp [Fl.fall], .inl hK, A4, v, c4, none, 0, 0, hset2.out, ?_, ?_, HAT.out, AtF.none_ _⟩, hoff3⟩
        · rw [fall_all]; exact HO.out
        · rw [fall_st]; exact World.ownsRow_nil _ _ _ _
end Go.Proofs.YtaklbgikoeedbaaDoor
