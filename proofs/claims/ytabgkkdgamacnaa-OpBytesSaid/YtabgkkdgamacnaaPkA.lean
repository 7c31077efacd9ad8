/-
  Words and contracts that other texts share, several in one text. No statement of the seat is proved here. Conditions: as each contract says.
  Words for bytes in memory that the other texts of this seat share: no statement is proved here. Conditions: none.
  Contracts of package octet's inner functions width and roomier: what each returns, for every input that fits. Conditions: lengths up to 2^47.
  Arrays and rows in memory: words that the contracts of other texts share. No statement is proved here. Conditions: none.
  Numbers with a sign as the cells of a row: words that other texts share. No statement is proved here. Conditions: none.
  Numbers in groups of seven bits, as lists of bytes: words for the walks of wire and of the document's own. No statement is proved here. Conditions: none.
  What was seen of whom, as lists of numbers: the greater of each, none above, compared, summed, written. No statement is proved here. Conditions: none.
  Edits as numbers, lists and texts: which may be, what is written of one, which ends another, which is ahead. No statement is proved here. Conditions: none.
  Pieces of slices, literals, growth, new blocks: words that the contracts of other texts share. No statement is proved here. Conditions: none.
  New blocks, whole rows, small words: what the contracts of other texts share. No statement is proved here. Conditions: none.
  Known rows from world to world, whole rows stored, regions in the text's order met as drawn ones: words that other texts share. No statement is proved here. Conditions: none.
  Arrays of numbers with a sign, held against each other; the least and the greatest of a row. Conditions: the row lies in a block of its own.
  Stores into the midst of a block, and pieces of a row: words that the contracts of other texts share. No statement is proved here. Conditions: none.
  Regions that draw their order and make new variables beside a chain of calls, each at whatever moment: one walk for all the orders. No statement is proved here. Conditions: as each law says.
  A range of bytes that is known whole: a word for regions that draw their order. No statement is proved here. Conditions: none.
  Edits in memory: cells, pieces, two held equal. No statement is proved here. Conditions: the edit lies in a block of its own.
  Stores into an edit's fields. No statement is proved here. Conditions: the edit lies in a block of its own.
-/
import Derived.WalkKit
import Derived.Below
import Derived.Lib.Hide
import Derived.Laws.CopyOwn
import Derived.Laws.BytesArg
import Derived.Laws.BytesString
import Derived.Laws.OwnMore
import Derived.Deep.Draws
import Derived.OpenShut
import Derived.Test.YtabgkkdgamacnaaChecked
import Derived.WalkLawsBesides
import Derived.WalkSpells
import Derived.Outline
import Derived.Laws.Rows
import Derived.Laws.Tables
import Derived.Deep.MidRow
import Derived.Deep.WholeRow
import Derived.Deep.RegionLaw
import Derived.Lib.SlBytesConst
import Derived.ArgAppend
import Derived.Deep.Cut
import Derived.IntWalk
import Derived.BigRegion
import Derived.BigQuiet
import Derived.RegionTactic
import Derived.Deep.QuietTactic
import Derived.LoopTactic
import Derived.Laws.Cover3
import Derived.Laws.Shifts
import Derived.Laws.BitsAllLaws
import Derived.StillTail
import Derived.Deep.RegionHeld3
import Derived.Laws.StructEq
import Derived.Laws.IdiomCopy
import Derived.Laws.CopyRow
namespace Go.Proofs.Ytabgkkdgamacnaa
open Go.RowKit

/-- Bytes as the cells of a row. -/
def bv (l : List UInt8) : List Value := l.map fun b => Value.int .u8 (b.toNat : Int)
theorem bv_len (l : List UInt8) : (bv l).length = l.length := by simp [bv]
theorem bv_app (l m : List UInt8) : bv (l ++ m) = bv l ++ bv m := by simp [bv]
theorem bv_nil : bv [] = [] := rfl
theorem bv_at (l : List UInt8) (k : Nat) : (bv l)[k]? = l[k]?.map fun b => Value.int .u8 (b.toNat : Int) := by simp [bv]
theorem bv_one (l : List UInt8) : ∀ u ∈ bv l, u.oneCell' = true := by
  intro u hu
  obtain ⟨b, _, rfl⟩ := List.mem_map.1 hu
  rfl
theorem bv_set (l : List UInt8) (k : Nat) (b : UInt8) : (bv l).set k (.int .u8 (b.toNat : Int)) = bv (l.set k b) := by simp [bv, List.map_set]
theorem bv_take (l : List UInt8) (k : Nat) : (bv l).take k = bv (l.take k) := by simp [bv, List.map_take]
theorem bv_rep (n : Nat) : List.replicate n (Value.int .u8 0) = bv (List.replicate n 0) := by simp [bv]
/-- One byte out of a number below 256. -/
theorem bv_single (c : Nat) (hc : c < 256) : [Value.int .u8 (c : Int)] = bv [UInt8.ofNat c] := by
  simp [bv, Nat.mod_eq_of_lt hc]

theorem ofNat_toNat (b : UInt8) : UInt8.ofNat b.toNat = b := by simp

/-- What a slice at A holds: the bytes l, in a block below B. Of an empty one nothing is asked. -/
def Byt (w : World) (B : Nat) (A : Option Addr) (l : List UInt8) : Prop :=
  l = [] ∨ ∃ g o, A = some ⟨g, o, none⟩ ∧ g < B ∧ ∀ j b, l[j]? = some b → w.cell? ⟨g, o + j, none⟩ = some (.int .u8 (b.toNat : Int))

section
variable {w w' : World} {B B' : Nat} {A : Option Addr} {l : List UInt8}
theorem Byt.none_ : Byt w B A [] := .inl rfl
theorem Byt.keep (h : Byt w B A l) (hk : ∀ p : Addr, p.block < B → w'.cell? p = w.cell? p) : Byt w' B A l := by
  rcases h with h | ⟨g, o, hA, hg, hc⟩
  · exact .inl h
  · exact .inr ⟨g, o, hA, hg, fun j b hb => (hk ⟨g, o + j, none⟩ hg).trans (hc j b hb)⟩
theorem Byt.below (h : Byt w B A l) (hb : Below B w w') : Byt w' B A l := h.keep fun _ hp => hb.cell hp
theorem Byt.up (h : Byt w B A l) (hB : B ≤ B') : Byt w B' A l := by
  rcases h with h | ⟨g, o, hA, hg, hc⟩
  · exact .inl h
  · exact .inr ⟨g, o, hA, by omega, hc⟩
theorem Byt.drewN (h : Byt w B A l) (k : Nat) : Byt (w.drewN k) B A l := h
theorem Byt.drew (h : Byt w B A l) : Byt w.drew B A l := h
theorem Byt.alloc (h : Byt w B A l) (hB : B ≤ w.heap.size) (o : Obj) : Byt (w.alloc o) B A l := h.below ((Below.refl _ _).alloc hB o)
/-- The byte at k, as a number. -/
theorem Byt.at_ (h : Byt w B A l) {k : Nat} (hk : k < l.length) :
    ∃ g o c : Nat, A = some ⟨g, o, none⟩ ∧ g < B ∧ c < 256 ∧ w.cell? ⟨g, o + k, none⟩ = some (.int .u8 (c : Int)) ∧ Hid (l[k]? = some (UInt8.ofNat c)) := by
  rcases h with h | ⟨g, o, hA, hg, hc⟩
  · subst h; simp at hk
  · exact ⟨g, o, l[k].toNat, hA, hg, UInt8.toNat_lt _, hc k _ (List.getElem?_eq_getElem hk), show _ = _ by rw [ofNat_toNat]; exact List.getElem?_eq_getElem hk⟩
theorem Byt.of_own {base E n c : Nat} (h : w.ownsRow base E 1 (.slice A n c) n (bv l)) : Byt w w.heap.size A l := by
  rcases h.2 with ⟨h', h0⟩ | ⟨g, cap, cur, h', hb, hg, hnc, hcm, hcs, htake⟩
  · refine .inl (List.eq_nil_of_length_eq_zero ?_)
    have := h.1; rw [bv_len] at this; omega
  · simp only [Value.slice.injEq] at h'
    obtain ⟨rfl, _, rfl⟩ := h'
    refine .inr ⟨g, 0, rfl, (Array.getElem?_eq_some_iff.1 hg).1, fun j b hj => ?_⟩
    have hl := h.1; rw [bv_len] at hl
    have hjl : j < l.length := (List.getElem?_eq_some_iff.1 hj).1
    have h2 := World.ownsRow.cellAt h j (by omega)
    rw [Nat.zero_add, h2, bv_at, hj]; rfl
end

/-- string(b). -/
theorem conv_bytes {P : Program} {w : World} {T E S : TypeId} (hT : P.underlying T = some (.slice E)) (hE : P.underlying E = some (.int .u8)) (hS : P.underlying S = some .string)
    {B : Nat} {A : Option Addr} {l : List UInt8} (h : Byt w B A l) (n c : Nat) (hn : l.length = n) : (convert T S (.slice A n c)).run P w = .ok (.string ⟨l.toArray⟩) w := by
  subst hn
  cases A with
  | none =>
    rcases h with rfl | ⟨g, o, hA, _⟩
    · exact run_convert_bytes_nil w T E hT hE _ c S hS
    · cases hA
  | some a =>
    have hl : (loadCells a l.length).run P w = .ok ((l.map fun b => (b.toNat : Int)).map (Value.int .u8)).toArray w := by
      have h1 := run_loadCells_list (P := P) w a (bv l) (fun j v hj => by
        rcases h with rfl | ⟨g, o, hA, _, hc⟩
        · simp [bv] at hj
        · cases hA
          rw [bv_at] at hj
          obtain ⟨b, hb, rfl⟩ := Option.map_eq_some_iff.1 hj
          have hp : (⟨g, o, none⟩ : Addr).add j = ⟨g, o + j, none⟩ := by unfold Addr.add; split <;> simp_all
          rw [hp]; exact hc j b hb)
      rw [bv_len] at h1
      simpa [bv, Function.comp_def] using h1
    rw [run_convert_bytes_string w T S E _ l.length c hT hE hS, run_bytesToString w _ l.length c _ hl, foldl_push_bytes]
    have e : (l.map fun b => (b.toNat : Int)).map (fun n => UInt8.ofNat n.toNat) = l := by
      rw [List.map_map]
      conv => rhs; rw [← List.map_id l]
      exact List.map_congr_left fun b _ => by simp
    rw [e]
    simp [ByteArray.empty, ByteArray.emptyWithCapacity]
    rfl

/-- A result: a new slice of the bytes l, in blocks from 'base' on. -/
def Res (w : World) (base : Nat) (E : TypeId) (A : Option Addr) (n c : Nat) (l : List UInt8) : Prop := w.ownsRow base E 1 (.slice A n c) n (bv l)
section
variable {w w' : World} {base B n c : Nat} {E : TypeId} {A : Option Addr} {l : List UInt8}
theorem Res.len (h : Res w base E A n c l) : l.length = n := by have := h.1; rw [bv_len] at this; omega
theorem Res.byt (h : Res w base E A n c l) : Byt w w.heap.size A l := Byt.of_own h
theorem Res.keep (h : Res w base E A n c l) (hb : Below w.heap.size w w') : Res w' base E A n c l := by
  refine ⟨h.1, ?_⟩
  rcases h.2 with hn | ⟨g, cap, cur, hv, hB, hg, r⟩
  · exact .inl hn
  · exact .inr ⟨g, cap, cur, hv, hB, (hb.block g (Array.getElem?_eq_some_iff.1 hg).1).trans hg, r⟩
theorem Res.base_le (h : Res w base E A n c l) (hB : B ≤ base) : Res w B E A n c l := by
  refine ⟨h.1, ?_⟩
  rcases h.2 with hn | ⟨g, cap, cur, hv, hB', hg, r⟩
  · exact .inl hn
  · exact .inr ⟨g, cap, cur, hv, by omega, hg, r⟩
theorem Res.of (v : Value) (h : w.ownsRow base E 1 v n (bv l)) : ∃ A c, v = .slice A n c ∧ Res w base E A n c l := by
  rcases h.2 with ⟨rfl, rfl⟩ | ⟨g, cap, cur, rfl, _⟩
  · exact ⟨_, _, rfl, h⟩
  · exact ⟨_, _, rfl, h⟩
end

/-- make([]byte, n, c): a row of c noughts. -/
theorem make_bytes {P : Program} {T E : TypeId} {i : TypeInfo} (hT : P.underlying T = some (.slice E)) (hi : P.info? E = some i) (hz : i.zero = some (.int .u8 0)) (h1 : i.size = 1) (h2 : i.bytes = 1)
    (n c : Nat) (L C : Int) (hL : L = (n : Int)) (hC : C = (c : Int)) (hnc : n ≤ c) (hc : c ≤ 281474976710656) (w : World) :
    ∃ w1, (Instr.makeSlice T (.int .i64 L) (.int .i64 C)).run P w = .ok (.slice (some ⟨w.heap.size, 0, none⟩) n c) w1 ∧ Hid (w1.heap[w.heap.size]? = some (.cells (bv (List.replicate c 0)).toArray E (0, 0))) ∧
      Hid (Below w.heap.size w w1) ∧ Hid (w1.heap.size = w.heap.size + 1) := by
  subst hL hC
  have hr := run_make (P := P) w T E i (.int .u8 0) hT hi hz .i64 .i64 n c (by omega) (by omega) (by rw [h2]; omega) (by omega)
  simp only [Int.toNat_natCast] at hr
  refine ⟨_, hr, ?_, (Below.refl _ _).alloc (Nat.le_refl _) _, show _ = _ by simp⟩
  show _ = _
  rw [heap_alloc_new]
  have e : madeCells (Value.int .u8 0).cells (c * i.size) = (bv (List.replicate c 0)).toArray := by
    rw [h1, Nat.mul_one, ← bv_rep]
    apply Array.ext'
    show (madeCells #[Value.int .u8 0] c).toList = _
    rw [toList_madeCells_one]
  rw [e]

/-- A row whose first cells are the bytes l. -/
theorem Res.row {w : World} {base E g n c : Nat} {l : List UInt8} {cur : Array Value} (hb : base ≤ g) (hg : w.heap[g]? = some (.cells cur E (0, 0))) (hn : n ≤ c) (hc : c ≤ 281474976710656) (hs : cur.size = c)
    (hl : l.length = n) (ht : cur.toList.take n = bv l) : Res w base E (some ⟨g, 0, none⟩) n c l :=
  ⟨by rw [bv_len]; omega, .inr ⟨g, c, cur, rfl, hb, hg, hn, by unfold maxLen; omega, by omega, by rw [Nat.mul_one]; exact ht⟩⟩

theorem addr_add (g o j : Nat) : (⟨g, o, none⟩ : Addr).add j = ⟨g, o + j, none⟩ := by unfold Addr.add; split <;> simp_all
/-- What a copy out of the bytes asks. -/
theorem Byt.src {w : World} {B : Nat} {A : Option Addr} {l : List UInt8} (h : Byt w B A l) (x : Option Addr) (y : Addr) (hx : x = some y) :
    0 < (bv l).length → x = some y ∧ ∃ ad, A = some ad ∧ ∀ j v, (bv l)[j]? = some v → w.cell? (ad.add j) = some v := by
  intro hp
  rcases h with h0 | ⟨g, o, rfl, hg, hc⟩
  · subst h0; simp [bv] at hp
  · refine ⟨hx, _, rfl, fun j v hj => ?_⟩
    rw [bv_at] at hj
    obtain ⟨b, hb, rfl⟩ := Option.map_eq_some_iff.1 hj
    rw [addr_add]; exact hc j b hb

/-- append(s, x..) onto bytes of the call's own. -/
theorem wp_append_bytes {P : Program} (w : World) {ops : Array Oper} {rest : List Oper} {o : Oper} {a : Act} {Q : Exit → Act → World → Prop} (hgd : o.guard = none) (s x : Operand) (T : TypeId)
    (ho : o.op = .call { callee := .builtin .append, args := #[s, x], argTypes := #[T, T] }) (E : TypeId) (hT : P.underlying T = some (.slice E))
    (hI : (P.info? E).map (fun i => (i.zero, i.size, i.bytes)) = some (some (.int .u8 0), 1, 1)) (base : Nat) (A : Option Addr) (n c : Nat) (l : List UInt8) (hs : a.eval s = .slice A n c) (hr : Res w base E A n c l)
    (ad : Addr) (m c2 : Nat) (hx : a.eval x = .slice (some ad) m c2) (news : List UInt8) (hl : news.length = m) (hnews : ∀ j u, (bv news)[j]? = some u → w.cell? (ad.add j) = some u) (hsz : n + m ≤ 140737488355328) (hbase : base ≤ w.heap.size)
    (h : ∀ A' c' w', Res w' base E A' (n + m) c' (l ++ news) → (∀ B w0, B ≤ base → Below B w0 w → Below B w0 w') → wpList P ops Q rest (a.put o.dst (.slice A' (n + m) c')) w') : wpList P ops Q (o :: rest) a w := by
  obtain ⟨i, hi, hz, h1, h2⟩ := info_parts hI
  refine wpList_append_own w hgd s x T ho base E i (.int .u8 0) 1 1 hT hi hz h1 h2 rfl (by decide) _ n (bv l) hs hr ad m c2 (bv news) hx (by rw [bv_len]; omega) hnews (bv_one _) (by unfold maxLen; omega) (by omega) hbase ?_
  intro v' w' hown hgr _
  rw [← bv_app] at hown
  obtain ⟨A', c', rfl, hres⟩ := Res.of v' hown
  exact h A' c' w' hres fun B w0 hB hb => hb.grown hgr (by omega) fun k hk => by have := World.ownsRow.lt hr k hk; omega

/-- The same as one step of a region that draws its order. -/
theorem step_append_bytes {P : Program} (w : World) {ops : Array Oper} {o : Oper} {a : Act} {K : Act → World → Prop} {Q : Exit → Act → World → Prop} {E' : Prop} (hgd : o.guard = none) (s x : Operand) (T : TypeId)
    (ho : o.op = .call { callee := .builtin .append, args := #[s, x], argTypes := #[T, T] }) (E : TypeId) (hT : P.underlying T = some (.slice E))
    (hI : (P.info? E).map (fun i => (i.zero, i.size, i.bytes)) = some (some (.int .u8 0), 1, 1)) (base : Nat) (A : Option Addr) (n c : Nat) (l : List UInt8) (hs : a.eval s = .slice A n c) (hr : Res w base E A n c l)
    (ad : Addr) (m c2 : Nat) (hx : a.eval x = .slice (some ad) m c2) (news : List UInt8) (hl : news.length = m) (hnews : ∀ j u, (bv news)[j]? = some u → w.cell? (ad.add j) = some u) (hsz : n + m ≤ 140737488355328) (hbase : base ≤ w.heap.size)
    (h : ∀ A' c' w', Res w' base E A' (n + m) c' (l ++ news) → (∀ B w0, B ≤ base → Below B w0 w → Below B w0 w') → K (a.put o.dst (.slice A' (n + m) c')) w') :
    if Region.wanted o (yielded ops a.tmps) = true then Oper.wp P o a w K Q else E' := by
  have hw : Region.wanted o (yielded ops a.tmps) = true := by simp [Region.wanted, hgd]
  rw [if_pos hw]
  obtain ⟨i, hi, hz, h1, h2⟩ := info_parts hI
  refine wp_append_own w s x T ho base E i (.int .u8 0) 1 1 hT hi hz h1 h2 rfl (by decide) _ n (bv l) hs hr ad m c2 (bv news) hx (by rw [bv_len]; omega) hnews (bv_one _) (by unfold maxLen; omega) (by omega) hbase ?_
  intro v' w' hown hgr _
  rw [← bv_app] at hown
  obtain ⟨A', c', rfl, hres⟩ := Res.of v' hown
  exact h A' c' w' hres fun B w0 hB hb => hb.grown hgr (by omega) fun k hk => by have := World.ownsRow.lt hr k hk; omega

theorem Res.drew {w : World} {base E n c : Nat} {A : Option Addr} {l : List UInt8} (h : Res w base E A n c l) : Res w.drew base E A n c l := h
/-- A literal of bytes, in the newest block. -/
theorem Byt.lit (w : World) (E : TypeId) (cs : Array Value) (l : List UInt8) (h : cs.toList = bv l) : Byt (w.alloc (.cells cs E)) (w.alloc (.cells cs E)).heap.size (some ⟨w.heap.size, 0, none⟩) l := by
  refine .inr ⟨w.heap.size, 0, rfl, by simp, fun j b hj => ?_⟩
  rw [Nat.zero_add, World.cell?_alloc_new]
  have h1 := bv_at l j
  rw [hj, ← h] at h1
  simpa using h1
/-- Below through a new block of the caller's own. -/
theorem below_lit {B : Nat} {a w w' : World} {o : Obj} (h : Below B a w) (hB : B ≤ w.heap.size) (h2 : Below (w.alloc o).heap.size (w.alloc o) w') : Below B a w' :=
  (h.alloc hB o).trans (h2.mono (by simp; omega))
theorem below_next {B : Nat} {a w w' : World} (h : Below B a w) (hB : B ≤ w.heap.size) (h2 : Below w.heap.size w w') : Below B a w' := h.trans (h2.mono hB)
/-- A []byte that came in, as the row's reading tells it. -/
theorem bytes_of_row {w : World} {a : Option Addr} {len cap : Nat} {zs : List Int}
    (h : (a = none ∧ len = 0 ∧ cap = 0 ∧ zs = []) ∨ ∃ x, a = some x ∧ len ≤ cap ∧ cap ≤ maxLen ∧ zs.length = cap ∧ (∀ i, i < zs.length → w.cell? (x.add i) = some (.int .u8 (zs.getD i 0))) ∧ ∀ n ∈ zs, (Lit.int .u8 n).wf = true) :
    ∃ l : List UInt8, Byt w w.heap.size a l ∧ l.length = len := by
  rcases h with ⟨rfl, rfl, _, _⟩ | ⟨x, rfl, hl, _, hz, hc, hw⟩
  · exact ⟨[], Byt.none_, rfl⟩
  · rcases Nat.eq_zero_or_pos len with h0 | h0
    · exact ⟨[], Byt.none_, h0.symm⟩
    · obtain ⟨b, off, rfl, hcell⟩ := ints_at hc (by omega)
      refine ⟨(zs.take len).map fun z => UInt8.ofNat z.toNat, .inr ⟨b, off, rfl, ?_, ?_⟩, by simp; omega⟩
      · exact World.block_lt_of_cell? w ⟨b, off + 0, none⟩ (hcell 0 (by omega))
      · intro j c hj
        have hjl : j < len := by
          have := (List.getElem?_eq_some_iff.1 hj).1
          simp at this; omega
        have hjz : j < zs.length := by omega
        rw [hcell j hjz]
        simp [hjl, List.getElem?_eq_getElem hjz] at hj
        subst hj
        have h1 := hw zs[j] (List.getElem_mem hjz)
        have h2 : 0 ≤ zs[j] ∧ zs[j] ≤ 255 := by simpa [Lit.wf, IntKind.min, IntKind.max, IntKind.signed, IntKind.bits] using h1
        congr 2
        simp [List.getElem?_eq_getElem hjz]
        omega
theorem u64_of_wf {a : Int} (h : (Lit.int .u64 a).wf = true) : ∃ v : Nat, a = (v : Int) ∧ v < 18446744073709551616 := by
  have h2 : 0 ≤ a ∧ a ≤ 18446744073709551615 := by simpa [Lit.wf, IntKind.min, IntKind.max, IntKind.signed, IntKind.bits] using h
  exact ⟨a.toNat, by omega, by omega⟩
theorem ret_bool {a b : Bool} (h : a = b) : Ending.returned (.bool a) = .returned (.bool b) := by rw [h]
theorem ret_str {a b : ByteArray} (h : a = b) : Ending.returned (.string a) = .returned (.string b) := by rw [h]

theorem Res.alloc {w : World} {base E n c : Nat} {A : Option Addr} {l : List UInt8} (h : Res w base E A n c l) (o : Obj) : Res (w.alloc o) base E A n c l := World.ownsRow.alloc h o

/-- The one new cell of append(s, x). -/
theorem new_byte (w : World) (E : TypeId) (x : Int) (b : UInt8) (hx : x = (b.toNat : Int)) :
    ∀ j u, (bv [b])[j]? = some u → (w.alloc (.cells #[.int .u8 x] E)).cell? ((⟨w.heap.size, 0, none⟩ : Addr).add j) = some u := by
  intro j u hj
  match j, hj with
  | 0, hj =>
    simp [bv] at hj
    subst hj hx
    rw [addr_add]
    simp
theorem new_bytes2 (w : World) (E : TypeId) (x y : Int) (b d : UInt8) (hx : x = (b.toNat : Int)) (hy : y = (d.toNat : Int)) :
    ∀ j u, (bv [b, d])[j]? = some u → (w.alloc (.cells #[.int .u8 x, .int .u8 y] E)).cell? ((⟨w.heap.size, 0, none⟩ : Addr).add j) = some u := by
  intro j u hj
  match j, hj with
  | 0, hj =>
    simp [bv] at hj
    subst hj hx
    rw [addr_add]
    simp
  | 1, hj =>
    simp [bv] at hj
    subst hj hy
    rw [addr_add]
    simp
theorem new_bytes2d (w : World) (E : TypeId) (x y : Int) (b d : UInt8) (hx : x = (b.toNat : Int)) (hy : y = (d.toNat : Int)) :
    ∀ j u, (bv [b, d])[j]? = some u → (w.alloc (.cells #[.int .u8 x, .int .u8 y] E)).drew.cell? ((⟨w.heap.size, 0, none⟩ : Addr).add j) = some u := new_bytes2 w E x y b d hx hy
theorem byte_of (v s : Nat) : (v : Int) / 2 ^ s % 256 = ((UInt8.ofNat (v / 2 ^ s)).toNat : Int) := by
  rw [UInt8.toNat_ofNat']
  simp

/-- Same heap and streams, draws aside. -/
theorem below_drewN {B : Nat} {a w : World} (h : Below B a w) (k : Nat) : Below B a (w.drewN k) := ⟨h.os, h.tape, h.output, h.size, h.block⟩
end Go.Proofs.Ytabgkkdgamacnaa
namespace Go.Proofs.Ytabgkkdgamacnaa
open Go.RowKit

theorem Try.infoByte : (Try.prog.info? 5).map (fun i => (i.zero, i.size, i.bytes)) = some (some (.int .u8 0), 1, 1) := by kernel_rfl

/-- How many bytes of a number are written. -/
def wd (n : Int) : Nat := (min (max n 0) 8).toNat
theorem wd_le (n : Int) : wd n ≤ 8 := by unfold wd; omega


end Go.Proofs.Ytabgkkdgamacnaa
namespace Go.Proofs.Ytabgkkdgamacnaa
open Go.RowKit

section
variable {P : Program} {t e n : Nat} (hu : P.underlying t = some (.array n e)) (hs : (P.info? e).map (·.size) = some 1) (g o : Nat)
include hu hs
theorem cut_lh (lo hi : Nat) (L H : Int) (hL : L = (lo : Int)) (hH : H = (hi : Int)) (h1 : lo ≤ hi) (h2 : hi ≤ n) (h3 : lo < n) (w : World) :
    (Instr.sliceAt t (.pointer (some ⟨g, o, none⟩)) (some (.int .i64 L)) (some (.int .i64 H)) none).run P w = .ok (.slice (some ⟨g, o + lo, none⟩) (hi - lo) (n - lo)) w := by
  subst hL hH
  obtain ⟨i, hi', hi2⟩ := Option.map_eq_some_iff.1 hs
  have ht : P.underlying t = some (.array (P.arrayLen t) (P.elem t)) := by simp [Program.arrayLen, Program.elem, hu]
  have hn : P.arrayLen t = n := by simp [Program.arrayLen, hu]
  have he : P.elem t = e := by simp [Program.elem, hu]
  rw [run_sliceAt_array_lh w t _ ht .i64 .i64 _ _ (by omega) (by omega) (by omega), hn, he]
  simp [sizeOf, typeInfo, hi', hi2, slicedAt, addr_add, show ¬ n = lo by omega]
theorem cut_l (lo : Nat) (L : Int) (hL : L = (lo : Int)) (h3 : lo < n) (w : World) :
    (Instr.sliceAt t (.pointer (some ⟨g, o, none⟩)) (some (.int .i64 L)) none none).run P w = .ok (.slice (some ⟨g, o + lo, none⟩) (n - lo) (n - lo)) w := by
  subst hL
  obtain ⟨i, hi', hi2⟩ := Option.map_eq_some_iff.1 hs
  have ht : P.underlying t = some (.array (P.arrayLen t) (P.elem t)) := by simp [Program.arrayLen, Program.elem, hu]
  have hn : P.arrayLen t = n := by simp [Program.arrayLen, hu]
  have he : P.elem t = e := by simp [Program.elem, hu]
  rw [run_sliceAt_array_l w t _ ht .i64 _ (by omega) (by omega), hn, he]
  simp [sizeOf, typeInfo, hi', hi2, slicedAt, addr_add, show ¬ n = lo by omega]
theorem cut_all (h3 : 0 < n) (w : World) :
    (Instr.sliceAt t (.pointer (some ⟨g, o, none⟩)) none none none).run P w = .ok (.slice (some ⟨g, o, none⟩) n n) w := by
  obtain ⟨i, hi', hi2⟩ := Option.map_eq_some_iff.1 hs
  have ht : P.underlying t = some (.array (P.arrayLen t) (P.elem t)) := by simp [Program.arrayLen, Program.elem, hu]
  have hn : P.arrayLen t = n := by simp [Program.arrayLen, hu]
  have he : P.elem t = e := by simp [Program.elem, hu]
  rw [run_sliceAt_array_all w t _ ht, hn, he]
  simp [sizeOf, typeInfo, hi', hi2, slicedAt, addr_add, show ¬ n = 0 by omega]
end
theorem Try.sizeByte : (Try.prog.info? 5).map (·.size) = some 1 := by kernel_rfl
theorem Try.sizeU32 : (Try.prog.info? 88).map (·.size) = some 1 := by kernel_rfl
/-- The element of an array's value. -/
theorem at_agg {P : Program} {t e n : Nat} {k : IntKind} (hu : P.underlying t = some (.array n e)) (hs : (P.info? e).map (·.size) = some 1) (he : P.underlying e = some (.int k)) (cs : List Value) (j : Nat) (v : Value) (I : Int) (hI : I = (j : Int)) (hj : j < n) (hv : cs[j]? = some v) (w : World) :
    (Instr.index t (.agg cs.toArray) (.int .i64 I)).run P w = .ok v w := by
  subst hI
  obtain ⟨i, hi', hi2⟩ := Option.map_eq_some_iff.1 hs
  simp [Instr.index, asIntOf, run_underlying hu, sizeOf, typeInfo, hi', hi2, part, isAgg, run_underlying he, hv, hj]
theorem getD_lt {l : List Nat} {B : Nat} (h : ∀ x ∈ l, x < B) (h0 : 0 < B) (k : Nat) : l.getD k 0 < B := by
  rw [List.getD_eq_getElem?_getD]
  by_cases hk : k < l.length
  · rw [List.getElem?_eq_getElem hk]; exact h _ (List.getElem_mem hk)
  · rw [List.getElem?_eq_none (by omega)]; exact h0
/-- Words as the cells of a row. -/
def u32v (l : List Nat) : List Value := l.map fun (x : Nat) => Value.int .u32 (x : Int)
/-- What a new variable holds. -/
def z32 : List UInt8 := List.replicate 32 0
def z64 : List UInt8 := List.replicate 64 0
theorem z32_len : z32.length = 32 := rfl
theorem z64_len : z64.length = 64 := rfl
/-- Of what was there nothing but block g has turned. -/
def But (g : Nat) (w w' : World) : Prop := w.grownBy w' (some g)
theorem But.refl (g : Nat) (w : World) : But g w w := ⟨rfl, rfl, rfl, Nat.le_refl _, fun _ _ _ => rfl⟩
theorem But.trans {g : Nat} {a b c : World} (h : But g a b) (k : But g b c) : But g a c :=
  ⟨k.os.trans h.os, k.tape.trans h.tape, k.output.trans h.output, Nat.le_trans h.size k.size, fun i hi hn => (k.block i (Nat.lt_of_lt_of_le hi h.size) hn).trans (h.block i hi hn)⟩
theorem But.of_below {g B : Nat} {w w' : World} (h : Below B w w') (hB : w.heap.size ≤ B) : But g w w' := ⟨h.os, h.tape, h.output, h.size, fun i hi _ => h.block i (by omega)⟩
theorem But.below {g B : Nat} {a w w' : World} (h : Below B a w) (k : But g w w') (hB : B ≤ g) (hs : B ≤ w.heap.size) : Below B a w' :=
  h.trans ⟨k.os, k.tape, k.output, k.size, fun i hi => k.block i (by omega) (fun e => by injection e; omega)⟩
theorem But.below_to {g B : Nat} {a b c : World} (h : But g a b) (k : Below B b c) (hB : b.heap.size ≤ B) : But g a c := h.trans (But.of_below k hB)
theorem But.set {g i : Nat} {a w : World} (h : But g a w) (u : Value) : But g a (w.setCell ⟨g, i, none⟩ u) :=
  h.trans ⟨rfl, rfl, rfl, by simp [World.setCell], fun k _ hn => heap_setCell_other w _ k u (fun e => hn (by rw [e]))⟩
theorem But.alloc {g : Nat} {a w : World} (h : But g a w) (o : Obj) : But g a (w.alloc o) := h.trans (World.grownBy_alloc w o _)
theorem But.drew {g : Nat} {a w : World} (h : But g a w) : But g a w.drew := ⟨h.os, h.tape, h.output, h.size, h.block⟩
theorem But.row {g : Nat} {a w : World} (h : But g a w) (cs : Array Value) : But g a (w.setRow g cs) :=
  h.trans ⟨rfl, rfl, rfl, by simp [World.setRow], fun k _ hn => setRow_other w g k cs (fun e => hn (by rw [e]))⟩
theorem Byt.but {w w' : World} {g B : Nat} {A : Option Addr} {l : List UInt8} (h : Byt w B A l) (hb : But g w w') (hB : B ≤ w.heap.size) (hg : B ≤ g) : Byt w' B A l :=
  h.keep fun p hp => World.cell?_of_block (hb.block p.block (by omega) (fun e => by injection e; omega))
theorem u32v_len (l : List Nat) : (u32v l).length = l.length := by simp [u32v]
theorem u32v_at (l : List Nat) (k : Nat) : (u32v l)[k]? = l[k]?.map fun (x : Nat) => Value.int .u32 (x : Int) := by simp [u32v]
theorem u32v_set (l : List Nat) (k x : Nat) : (u32v l).set k (.int .u32 (x : Int)) = u32v (l.set k x) := by simp [u32v, List.map_set]
theorem u32v_one (l : List Nat) : ∀ u ∈ u32v l, u.oneCell' = true := by
  intro u hu
  obtain ⟨b, _, rfl⟩ := List.mem_map.1 hu
  rfl
def natAt (l : List Nat) (k : Nat) : Nat := l.getD k 0
theorem natAt_lt {l : List Nat} (h : ∀ x ∈ l, x < 4294967296) (k : Nat) : natAt l k < 4294967296 := getD_lt h (by decide) k
theorem natAt_at {l : List Nat} {n k : Nat} (h : l.length = n) (hk : k < n) : (u32v l)[k]? = some (.int .u32 ((natAt l k : Nat) : Int)) := by
  have hl : k < l.length := by omega
  simp [u32v_at, natAt, List.getElem?_eq_getElem hl]
/-- Bytes that lie outside block g. -/
def Src (w : World) (g : Nat) (A : Option Addr) (m : List UInt8) : Prop :=
  m = [] ∨ ∃ b o, A = some ⟨b, o, none⟩ ∧ b ≠ g ∧ b < w.heap.size ∧ ∀ j x, m[j]? = some x → w.cell? ⟨b, o + j, none⟩ = some (.int .u8 (x.toNat : Int))
section
variable {w w' : World} {g B : Nat} {A : Option Addr} {m : List UInt8}
theorem Src.but (h : Src w g A m) (hb : But g w w') : Src w' g A m := by
  rcases h with h | ⟨b, o, hA, hne, hlt, hc⟩
  · exact .inl h
  · exact .inr ⟨b, o, hA, hne, Nat.lt_of_lt_of_le hlt hb.size, fun j x hj => (World.cell?_of_block (w := w) (hb.block b hlt (fun e => hne (by injection e)))).trans (hc j x hj)⟩
theorem Src.byt (h : Src w g A m) : Byt w w.heap.size A m := by
  rcases h with h | ⟨b, o, hA, hne, hlt, hc⟩
  · exact .inl h
  · exact .inr ⟨b, o, hA, hlt, hc⟩
theorem Byt.toSrc (h : Byt w B A m) (hB : B ≤ w.heap.size) (hg : B ≤ g) : Src w g A m := by
  rcases h with h | ⟨b, o, hA, hlt, hc⟩
  · exact .inl h
  · exact .inr ⟨b, o, hA, by omega, by omega, hc⟩
/-- The rest of a slice. -/
theorem Src.cut (h : Src w g A m) (t c : Nat) (hc : m.length ≤ c) : Src w g (if c = t then A else A.map (·.add t)) (m.drop t) := by
  rcases h with h | ⟨b, o, rfl, hne, hlt, hcell⟩
  · subst h; exact .inl (by simp)
  · by_cases ht : c = t
    · exact .inl (List.drop_eq_nil_of_le (by omega))
    · rw [if_neg ht]
      refine .inr ⟨b, o + t, by rw [Option.map_some, addr_add], hne, hlt, fun j x hj => ?_⟩
      rw [List.getElem?_drop] at hj
      rw [Nat.add_assoc]; exact hcell _ x hj
end
theorem run_cut_l {P : Program} {T E : TypeId} (hT : P.underlying T = some (.slice E)) (hs : (P.info? E).map (·.size) = some 1) (A : Option Addr) (n c t : Nat) (L : Int) (hL : L = (t : Int)) (ht : t ≤ n) (w : World) :
    (Instr.slice T (.slice A n c) (some (.int .i64 L)) none none).run P w = .ok (.slice (if c = t then A else A.map (·.add t)) (n - t) (c - t)) w := by
  subst hL
  obtain ⟨i, hi', hi2⟩ := Option.map_eq_some_iff.1 hs
  have he : P.elem T = E := by simp [Program.elem, hT]
  rw [run_slice_l w T A n c (by rw [he]; exact hT) .i64 _ (by omega) (by omega), he]
  simp [sizeOf, typeInfo, hi', hi2, sliced]

/-- copy into a block that is known whole, as one step of a region that draws its order. -/
theorem step_copy_but {P : Program} {ops : Array Oper} {o : Oper} {a : Act} {w : World} {K : Act → World → Prop} {Q : Exit → Act → World → Prop} {E : Prop} (hgd : o.guard = none) (d s : Operand) (T : TypeId)
    (ho : o.op = .call { callee := .builtin .copy, args := #[d, s], argTypes := #[T, T] }) (elem : TypeId) (hu : P.underlying T = some (.slice elem)) (hsz : (P.info? elem).map (·.size) = some 1)
    (g off dLen dCap sLen sCap : Nat) (A : Option Addr) (hd : a.eval d = .slice (some ⟨g, off, none⟩) dLen dCap) (hs : a.eval s = .slice A sLen sCap)
    (cur : List Value) (t : TypeId) (hg : w.heap[g]? = some (.cells cur.toArray t (0, 0))) (m : List UInt8) (B : Nat) (hA : Byt w B A m) (hm : m.length = sLen) (hs0 : 0 < sLen)
    (hfit : off + dLen ≤ cur.length) (w0 : World) (hb : But g w0 w)
    (h : ∀ w', Hid (w'.heap[g]? = some (.cells (splice cur off (bv (m.take dLen))).toArray t (0, 0))) → But g w0 w' → K (a.put o.dst (.int .i64 ((min sLen dLen : Nat) : Int))) w') :
    if Region.wanted o (yielded ops a.tmps) = true then Oper.wp P o a w K Q else E := by
  have hw : Region.wanted o (yielded ops a.tmps) = true := by simp [Region.wanted, hgd]
  rw [if_pos hw]
  rcases hA with h0 | ⟨b, o', rfl, hlt, hc⟩
  · subst h0; simp at hm; omega
  · have hlen : (bv (m.take dLen)).length = Nat.min sLen dLen := by rw [bv_len, List.length_take, hm]; exact Nat.min_comm _ _
    have hsrc : ∀ j v, (bv (m.take dLen))[j]? = some v → w.cell? ((⟨b, o', none⟩ : Addr).add j) = some v := by
      intro j v hj
      rw [bv_at] at hj
      obtain ⟨x, hx, rfl⟩ := Option.map_eq_some_iff.1 hj
      rw [addr_add]
      refine hc j x ?_
      have hjl : j < dLen := by
        have := (List.getElem?_eq_some_iff.1 hx).1
        simp at this; omega
      rwa [List.getElem?_take_of_lt hjl] at hx
    have hl2 : (bv (m.take dLen)).length = min sLen dLen := hlen
    have hrun := run_copy_row (P := P) w T T o.type elem g off dLen dCap ⟨b, o', none⟩ sLen sCap cur.toArray t (bv (m.take dLen)) hu hsz hg hlen hsrc (by simp only [List.size_toArray]; omega) (bv_one _)
    unfold Oper.wp
    simp [execOp, ho, resolve, invoke, builtin, hd, hs, hrun, Result.andThen]
    have h3 := h _ (show _ = _ by simpa [splice] using setRow_heap w g _ _ t _ hg) (hb.row _)
    rw [hl2] at h3 ⊢
    exact h3
theorem Res.toSrc {w : World} {base E n c g : Nat} {A : Option Addr} {l : List UInt8} (h : Res w base E A n c l) (hg : g < base) : Src w g A l := by
  rcases h.2 with ⟨h', h0⟩ | ⟨b, cap, cur, h', hb, hcur, hnc, hcm, hcs, htake⟩
  · refine .inl (List.eq_nil_of_length_eq_zero ?_)
    have := h.len; omega
  · rcases h.byt with h1 | ⟨b', o', hA, hlt, hc⟩
    · exact .inl h1
    · simp only [Value.slice.injEq] at h'
      obtain ⟨rfl, _, _⟩ := h'
      injection hA with hA
      injection hA with hA1 hA2
      subst hA1 hA2
      exact .inr ⟨b, 0, rfl, by omega, hlt, hc⟩
theorem Res.cap {w : World} {base E n c : Nat} {A : Option Addr} {l : List UInt8} (h : Res w base E A n c l) : n ≤ c := by
  rcases h.2 with ⟨h', h0⟩ | ⟨b, cap, cur, h', hb, hcur, hnc, hcm, hcs, htake⟩
  · simp only [Value.slice.injEq] at h'; omega
  · simp only [Value.slice.injEq] at h'; omega
theorem step_load_row {P : Program} {ops : Array Oper} {o : Oper} {a : Act} {w : World} {K : Act → World → Prop} {Q : Exit → Act → World → Prop} {E : Prop} (hgd : o.guard = none) (ty : TypeId) (x : Operand) (ho : o.op = .load ty x)
    (g : Nat) (hx : a.eval x = .pointer (some ⟨g, 0, none⟩)) (t : TypeId) (cs : Array Value) (d : TypeDesc) (hg : w.heap[g]? = some (.cells cs t (0, 0)))
    (hu : P.underlying ty = some d) (hd : (match d with | .struct _ | .array _ _ => true | _ => false) = true) (hi : (P.info? ty).map (·.size) = some cs.size)
    (h : K (a.put o.dst (.agg cs)) w) : if Region.wanted o (yielded ops a.tmps) = true then Oper.wp P o a w K Q else E := by
  have hw : Region.wanted o (yielded ops a.tmps) = true := by simp [Region.wanted, hgd]
  rw [if_pos hw]
  exact wp_load_row ty x ho g hx t cs (0, 0) d hg hu hd hi h
theorem step_store_row {P : Program} {ops : Array Oper} {o : Oper} {a : Act} {w : World} {K : Act → World → Prop} {Q : Exit → Act → World → Prop} {E : Prop} (hgd : o.guard = none) (ty : TypeId) (x y : Operand) (ho : o.op = .store ty x y)
    (g : Nat) (cells : Array Value) (hx : a.eval x = .pointer (some ⟨g, 0, none⟩)) (hy : a.eval y = .agg cells) (t : TypeId) (old : Array Value) (hg : w.heap[g]? = some (.cells old t (0, 0)))
    (hi : (P.info? ty).map (·.size) = some cells.size) (hold : old.size = cells.size) (h1 : cells.all (·.oneCell') = true)
    (h : K (a.put o.dst undef) (w.setRow g cells)) : if Region.wanted o (yielded ops a.tmps) = true then Oper.wp P o a w K Q else E := by
  have hw : Region.wanted o (yielded ops a.tmps) = true := by simp [Region.wanted, hgd]
  rw [if_pos hw]
  exact wp_store_row ty x y ho g cells hx hy t old hg hi hold h1 h

theorem byt_row {w : World} {g : Nat} {l : List UInt8} {t : TypeId} (hg : w.heap[g]? = some (.cells (bv l).toArray t (0, 0))) : Byt w w.heap.size (some ⟨g, 0, none⟩) l := by
  refine .inr ⟨g, 0, rfl, (Array.getElem?_eq_some_iff.1 hg).1, fun j b hj => ?_⟩
  rw [Nat.zero_add, cell_of_row _ _ _ _ _ _ hg]
  simp only [List.getElem?_toArray, bv_at, hj]; rfl
theorem src_row {w : World} {g b : Nat} {l : List UInt8} {t : TypeId} (hg : w.heap[g]? = some (.cells (bv l).toArray t (0, 0))) (hne : g ≠ b) : Src w b (some ⟨g, 0, none⟩) l := by
  rcases byt_row hg with h | ⟨g', o', h1, h2, h3⟩
  · exact .inl h
  · injection h1 with h1
    injection h1 with h1 h1'
    subst h1 h1'
    exact .inr ⟨g, 0, rfl, hne, h2, h3⟩

end Go.Proofs.Ytabgkkdgamacnaa
namespace Go.Proofs.Ytabgkkdgamacnaa
open Go.RowKit

def iat (l : List Int) (k : Nat) : Int := l.getD k 0
theorem iat_at {l : List Int} {k : Nat} (h : k < l.length) : l[k]? = some (iat l k) := by simp [iat, List.getElem?_eq_getElem h]
theorem iat_set_other (l : List Int) (k j : Nat) (x : Int) (h : k ≠ j) : iat (l.set k x) j = iat l j := by
  rw [iat, iat, List.getD_eq_getElem?_getD, List.getD_eq_getElem?_getD, List.getElem?_set_ne h]
theorem Try.sizeI64 : (Try.prog.info? 2).map (·.size) = some 1 := by kernel_rfl
/-- Pieces as the cells of a row. -/
def i64v (l : List Int) : List Value := l.map fun x => Value.int .i64 x
theorem i64v_len (l : List Int) : (i64v l).length = l.length := by simp [i64v]
theorem i64v_at (l : List Int) (k : Nat) : (i64v l)[k]? = l[k]?.map fun x => Value.int .i64 x := by simp [i64v]
theorem i64v_set (l : List Int) (k : Nat) (x : Int) : (i64v l).set k (.int .i64 x) = i64v (l.set k x) := by simp [i64v, List.map_set]
theorem i64v_one (l : List Int) : ∀ u ∈ i64v l, u.oneCell' = true := by
  intro u hu
  obtain ⟨b, _, rfl⟩ := List.mem_map.1 hu
  rfl
theorem i64v_size (l : List Int) (h : l.length = 16) : (i64v l).toArray.size = 16 := by simp [i64v_len, h]
theorem int_at {w : World} {g : Nat} {l : List Int} {t : TypeId} (hg : w.heap[g]? = some (.cells (i64v l).toArray t (0, 0))) (k : Nat) (hk : k < l.length) : w.cell? ⟨g, k, none⟩ = some (.int .i64 (iat l k)) := by
  rw [cell_of_row _ _ _ _ _ _ hg]
  simp [i64v_at, iat, List.getElem?_eq_getElem hk]
theorem iat_set_same (l : List Int) (k : Nat) (x : Int) (h : k < l.length) : iat (l.set k x) k = x := by simp [iat, List.getD_eq_getElem?_getD, h]
end Go.Proofs.Ytabgkkdgamacnaa
namespace Go.Proofs.Ytabgkkdgamacnaa
open Go.RowKit

def grN : Nat → Nat → List UInt8
  | 0, v => [UInt8.ofNat v]
  | f + 1, v => if v < 128 then [UInt8.ofNat v] else UInt8.ofNat (v % 128 + 128) :: grN f (v / 128)
def gr (v : Nat) : List UInt8 := grN 8 v
theorem grN_small (f v : Nat) (h : v < 128) : grN f v = [UInt8.ofNat v] := by
  cases f with
  | zero => rfl
  | succ f => rw [grN, if_pos h]
theorem grN_more (f v : Nat) (h : ¬ v < 128) : grN (f + 1) v = UInt8.ofNat (v % 128 + 128) :: grN f (v / 128) := by rw [grN, if_neg h]
theorem grN_pos (f v : Nat) : 1 ≤ (grN f v).length := by
  cases f with
  | zero => exact Nat.le_refl _
  | succ f =>
    rw [grN]
    split
    · exact Nat.le_refl _
    · simp
theorem grN_le (f : Nat) : ∀ v, (grN f v).length ≤ f + 1 := by
  induction f with
  | zero => intro v; exact Nat.le_refl _
  | succ f ih =>
    intro v
    rw [grN]
    split
    · simp
    · have := ih (v / 128)
      rw [List.length_cons]; omega
theorem grN_mono (f : Nat) : ∀ a b, a ≤ b → (grN f a).length ≤ (grN f b).length := by
  induction f with
  | zero => intro a b _; exact Nat.le_refl _
  | succ f ih =>
    intro a b h
    rw [grN, grN]
    by_cases ha : a < 128
    · rw [if_pos ha]
      by_cases hb : b < 128
      · rw [if_pos hb]; exact Nat.le_refl _
      · rw [if_neg hb]; simp
    · rw [if_neg ha, if_neg (by omega), List.length_cons, List.length_cons]
      exact Nat.succ_le_succ (ih _ _ (Nat.div_le_div_right h))
theorem gr_pos (v : Nat) : 1 ≤ (gr v).length := grN_pos 8 v
theorem gr_le (v : Nat) : (gr v).length ≤ 9 := grN_le 8 v
theorem gr_mono (a b : Nat) (h : a ≤ b) : (gr a).length ≤ (gr b).length := grN_mono 8 a b h
/-- The number that bytes begin with, and how many bytes it takes: none, if they begin with none. -/
def frL : List UInt8 → Nat → Nat → Nat × Nat
  | [], _, _ => (0, 0)
  | c :: r, i, v => if 128 ≤ c.toNat then frL r (i + 1) (v + c.toNat % 128 * 2 ^ (7 * i)) else if c.toNat = 0 ∧ 0 < i then (0, 0) else (v + c.toNat * 2 ^ (7 * i), i + 1)
def frontOf (l : List UInt8) : Nat × Nat := frL (l.take 9) 0 0
theorem frL_gr (f : Nat) : ∀ (v : Nat) (rest : List UInt8) (i a : Nat), v < 2 ^ (7 * (f + 1)) → (v ≠ 0 ∨ i = 0) → frL (grN f v ++ rest) i a = (a + v * 2 ^ (7 * i), i + (grN f v).length) := by
  have small : ∀ (f v : Nat) (rest : List UInt8) (i a : Nat), v < 128 → (v ≠ 0 ∨ i = 0) → frL (grN f v ++ rest) i a = (a + v * 2 ^ (7 * i), i + (grN f v).length) := by
    intro f v rest i a h h0
    rw [grN_small f v h]
    have e : (UInt8.ofNat v).toNat = v := by simp; omega
    rw [List.singleton_append, frL, e, if_neg (by omega), if_neg (by omega)]
    rfl
  induction f with
  | zero => intro v rest i a h h0; exact small 0 v rest i a (by simpa using h) h0
  | succ f ih =>
    intro v rest i a h h0
    by_cases hv : v < 128
    · exact small _ v rest i a hv h0
    · rw [grN_more f v hv]
      have e : (UInt8.ofNat (v % 128 + 128)).toNat = v % 128 + 128 := by simp; omega
      have hd : v / 128 < 2 ^ (7 * (f + 1)) := by
        have : 2 ^ (7 * (f + 1 + 1)) = 2 ^ (7 * (f + 1)) * 128 := by rw [show 7 * (f + 1 + 1) = 7 * (f + 1) + 7 by omega, Nat.pow_add]
        rw [this] at h
        exact Nat.div_lt_of_lt_mul (by rw [Nat.mul_comm]; exact h)
      rw [List.cons_append, frL, e, if_pos (by omega), ih (v / 128) rest (i + 1) _ hd (.inl (by omega)), List.length_cons]
      have e2 : (v % 128 + 128) % 128 = v % 128 := by omega
      have e3 : 2 ^ (7 * (i + 1)) = 128 * 2 ^ (7 * i) := by rw [show 7 * (i + 1) = 7 * i + 7 by omega, Nat.pow_add, Nat.mul_comm]
      rw [e2, e3, Nat.add_assoc]
      refine Prod.ext ?_ (by show _ = _; simp only; omega)
      show a + (v % 128 * 2 ^ (7 * i) + v / 128 * (128 * 2 ^ (7 * i))) = a + v * 2 ^ (7 * i)
      rw [← Nat.mul_assoc, ← Nat.add_mul]
      congr 2; omega
theorem front_gr (v : Nat) (hv : v < 9223372036854775808) (rest : List UInt8) : frontOf (gr v ++ rest) = (v, (gr v).length) := by
  have hl := gr_le v
  rw [frontOf, List.take_append, List.take_of_length_le hl]
  have h := frL_gr 8 v (rest.take (9 - (gr v).length)) 0 0 (by simpa using hv) (.inr rfl)
  rw [show grN 8 v = gr v from rfl] at h
  rw [h]
  simp
theorem frL_bound : ∀ (l : List UInt8) (i a : Nat), a < 2 ^ (7 * i) → (frL l i a).1 < 2 ^ (7 * (i + l.length)) ∧ (frL l i a).2 ≤ i + l.length
  | [], i, a, h => ⟨Nat.two_pow_pos _, Nat.zero_le _⟩
  | c :: r, i, a, h => by
    have hp : 2 ^ (7 * (i + 1)) = 128 * 2 ^ (7 * i) := by rw [show 7 * (i + 1) = 7 * i + 7 by omega, Nat.pow_add, Nat.mul_comm]
    have hmore : ∀ x, x < 128 → a + x * 2 ^ (7 * i) < 2 ^ (7 * (i + 1)) := by
      intro x hx
      have : x * 2 ^ (7 * i) ≤ 127 * 2 ^ (7 * i) := Nat.mul_le_mul_right _ (by omega)
      omega
    rw [frL]
    split
    · have h2 := frL_bound r (i + 1) _ (hmore (c.toNat % 128) (Nat.mod_lt _ (by decide)))
      rw [List.length_cons, show i + (r.length + 1) = i + 1 + r.length by omega]
      exact h2
    · split
      · exact ⟨Nat.two_pow_pos _, Nat.zero_le _⟩
      · refine ⟨Nat.lt_of_lt_of_le (hmore c.toNat (by omega)) (Nat.pow_le_pow_right (by decide) ?_), ?_⟩
        · rw [List.length_cons]; omega
        · rw [List.length_cons]; show i + 1 ≤ _; omega
theorem front_lt (l : List UInt8) : (frontOf l).1 < 9223372036854775808 := by
  have h := (frL_bound (l.take 9) 0 0 (by decide)).1
  refine Nat.lt_of_lt_of_le h ?_
  have : (l.take 9).length ≤ 9 := by rw [List.length_take]; omega
  exact Nat.le_trans (Nat.pow_le_pow_right (by decide) (show 7 * (0 + (l.take 9).length) ≤ 63 by omega)) (by decide)
theorem front_len (l : List UInt8) : (frontOf l).2 ≤ l.length := by
  have h := (frL_bound (l.take 9) 0 0 (by decide)).2
  rw [List.length_take] at h
  rw [frontOf]; omega
theorem or_add (a x k : Nat) (h : a < 2 ^ k) : a ||| (x * 2 ^ k) = a + x * 2 ^ k := by
  rw [Nat.mul_comm x, Nat.or_comm, ← Nat.two_pow_add_eq_or_of_lt h, Nat.add_comm]
end Go.Proofs.Ytabgkkdgamacnaa
namespace Go.Proofs.Ytabgkkdgamacnaa
open Go.RowKit

def vmx (a b : List Int) : List Int := List.zipWith max a b
def vle (a b : List Int) : Bool := decide (vmx a b = b)
def vgood (a : List Int) : Bool := decide (∀ x ∈ a, 0 ≤ x ∧ x ≤ 1099511627776)
def vcmp (a b : List Int) : Int := if a = b then 0 else if vle a b = true then -1 else if vle b a = true then 1 else 2
def vtot (a : List Int) : Int := a.foldr (· + ·) 0
def vsum (a : List Int) : Int := if vgood a = true then vtot a else -1
def vhas (a : List Int) (d n : Int) : Bool := decide (0 ≤ d ∧ d < 8 ∧ 1 ≤ n ∧ n ≤ iat a d.toNat)
def vput (a : List Int) : List UInt8 := (a.map fun x => gr x.toNat).flatten

theorem list_iat {a b : List Int} (h : a.length = b.length) (e : ∀ k, k < a.length → iat a k = iat b k) : a = b := by
  apply List.ext_getElem h
  intro k h1 h2
  have := e k h1
  simpa [iat, h1, h2] using this
theorem vmx_len {a b : List Int} (ha : a.length = 8) (hb : b.length = 8) : (vmx a b).length = 8 := by simp [vmx, ha, hb]
theorem vmx_at {a b : List Int} {k : Nat} (h1 : k < a.length) (h2 : k < b.length) : iat (vmx a b) k = max (iat a k) (iat b k) := by
  have h3 : k < (List.zipWith max a b).length := by rw [List.length_zipWith]; omega
  have hg : ∀ (l : List Int) (h : k < l.length), iat l k = l[k] := fun l h => by simp [iat, h]
  rw [vmx, hg _ h3, hg _ h1, hg _ h2, List.getElem_zipWith]
theorem vle_iff {a b : List Int} (ha : a.length = 8) (hb : b.length = 8) : vle a b = true ↔ ∀ k, k < 8 → iat a k ≤ iat b k := by
  rw [vle, decide_eq_true_iff]
  constructor
  · intro h k hk
    have := vmx_at (a := a) (b := b) (k := k) (by omega) (by omega)
    rw [h] at this
    omega
  · intro h
    apply list_iat (by rw [vmx_len ha hb, hb])
    intro k hk
    rw [vmx_len ha hb] at hk
    have := h k hk
    rw [vmx_at (by omega) (by omega)]
    omega
theorem iat_mem {a : List Int} {x : Int} (h : x ∈ a) : ∃ k, k < a.length ∧ iat a k = x := by
  obtain ⟨k, hk, rfl⟩ := List.mem_iff_getElem.1 h
  exact ⟨k, hk, by simp [iat, hk]⟩
theorem mem_iat {a : List Int} {k : Nat} (h : k < a.length) : iat a k ∈ a := by
  rw [show iat a k = a[k] by simp [iat, h]]
  exact List.getElem_mem h
theorem vgood_iff (a : List Int) : vgood a = true ↔ ∀ k, k < a.length → 0 ≤ iat a k ∧ iat a k ≤ 1099511627776 := by
  rw [vgood, decide_eq_true_iff]
  constructor
  · intro h k hk
    exact h _ (mem_iat hk)
  · intro h x hx
    obtain ⟨k, hk, rfl⟩ := iat_mem hx
    exact h k hk

/-! What follows of these. -/
theorem vmx_comm (a b : List Int) : vmx a b = vmx b a := by
  rw [vmx, vmx, List.zipWith_comm]
  congr 1
  funext x y
  exact Int.max_comm ..
theorem vmx_self (a : List Int) : vmx a a = a := by
  rw [vmx, List.zipWith_self]
  simp
theorem vmx_assoc {a b c : List Int} (ha : a.length = 8) (hb : b.length = 8) (hc : c.length = 8) : vmx (vmx a b) c = vmx a (vmx b c) := by
  have h1 := vmx_len ha hb
  have h2 := vmx_len hb hc
  apply list_iat (by rw [vmx_len h1 hc, vmx_len ha h2])
  intro k hk
  rw [vmx_len h1 hc] at hk
  rw [vmx_at (by omega) (by omega), vmx_at (by omega) (by omega), vmx_at (by omega) (by omega), vmx_at (by omega) (by omega)]
  omega
theorem vle_left {a b : List Int} (ha : a.length = 8) (hb : b.length = 8) : vle a (vmx a b) = true := by
  rw [vle, decide_eq_true_iff, ← vmx_assoc ha ha hb, vmx_self]
theorem vle_right {a b : List Int} (ha : a.length = 8) (hb : b.length = 8) : vle b (vmx a b) = true := by
  rw [vmx_comm]; exact vle_left hb ha
theorem vle_least {a b c : List Int} (ha : a.length = 8) (hb : b.length = 8) (hc : c.length = 8) (h1 : vle a c = true) (h2 : vle b c = true) : vle (vmx a b) c = true := by
  rw [vle, decide_eq_true_iff] at h1 h2 ⊢
  rw [vmx_assoc ha hb hc, h2, h1]
theorem vle_anti {a b : List Int} (h1 : vle a b = true) (h2 : vle b a = true) : a = b := by
  rw [vle, decide_eq_true_iff] at h1 h2
  rw [← h1, vmx_comm, h2]
theorem vle_same (a : List Int) : vle a a = true := by
  rw [vle, decide_eq_true_iff, vmx_self]
theorem vcmp_zero (a b : List Int) : (vcmp a b == 0) = decide (a = b) := by
  rw [vcmp]
  by_cases h : a = b
  · simp [h]
  · rw [if_neg h]; split
    · simp [h]
    · split <;> simp [h]
theorem vcmp_turn (a b : List Int) : (vcmp a b == 1) = (vcmp b a == -1) := by
  rw [vcmp, vcmp]
  by_cases h : a = b
  · simp [h]
  · have h' : ¬ b = a := fun e => h e.symm
    rw [if_neg h, if_neg h']
    by_cases h1 : vle a b = true
    · by_cases h2 : vle b a = true
      · exact absurd (vle_anti h1 h2) h
      · simp [h1, h2]
    · by_cases h2 : vle b a = true <;> simp [h1, h2]
theorem vhas_mono {a b : List Int} (ha : a.length = 8) (hb : b.length = 8) (h : vle a b = true) (d n : Int) (h1 : vhas a d n = true) : vhas b d n = true := by
  rw [vle_iff ha hb] at h
  rw [vhas, decide_eq_true_iff] at h1 ⊢
  have := h d.toNat (by omega)
  omega
theorem vhas_max {a b : List Int} (ha : a.length = 8) (hb : b.length = 8) (d n : Int) : vhas (vmx a b) d n = (vhas a d n || vhas b d n) := by
  rw [vhas, vhas, vhas, ← Bool.decide_or]
  apply decide_eq_decide.2
  by_cases h : 0 ≤ d ∧ d < 8
  · have := vmx_at (a := a) (b := b) (k := d.toNat) (by omega) (by omega)
    omega
  · omega
theorem vtot_max : ∀ (a b : List Int), (∀ x ∈ a, 0 ≤ x) → (∀ x ∈ b, 0 ≤ x) → vtot (vmx a b) ≤ vtot a + vtot b
  | [], b, _, hb => by
    have : ∀ (b : List Int), (∀ x ∈ b, 0 ≤ x) → 0 ≤ vtot b := by
      intro b
      induction b with
      | nil => intro _; exact Int.le_refl _
      | cons y s ih => intro h; have h1 := ih (fun x hx => h x (by simp [hx])); have h2 := h y (by simp); simp only [vtot, List.foldr_cons] at h1 ⊢; omega
    have := this b hb
    simp only [vmx, List.zipWith_nil_left]
    simp only [vtot, List.foldr_nil] at this ⊢
    omega
  | x :: r, [], ha, hb => by
    have : ∀ (b : List Int), (∀ x ∈ b, 0 ≤ x) → 0 ≤ vtot b := by
      intro b
      induction b with
      | nil => intro _; exact Int.le_refl _
      | cons y s ih => intro h; have h1 := ih (fun x hx => h x (by simp [hx])); have h2 := h y (by simp); simp only [vtot, List.foldr_cons] at h1 ⊢; omega
    have := this _ ha
    simp only [vmx, List.zipWith_nil_right]
    simp only [vtot, List.foldr_nil] at this ⊢
    omega
  | x :: r, y :: s, ha, hb => by
    have h1 := vtot_max r s (fun z hz => ha z (by simp [hz])) (fun z hz => hb z (by simp [hz]))
    have h2 := ha x (by simp)
    have h3 := hb y (by simp)
    simp only [vmx, vtot, List.zipWith_cons_cons, List.foldr_cons] at h1 ⊢
    omega
theorem vgood_max {a b : List Int} (ha : a.length = 8) (hb : b.length = 8) (h1 : vgood a = true) (h2 : vgood b = true) : vgood (vmx a b) = true := by
  rw [vgood_iff] at h1 h2 ⊢
  intro k hk
  rw [vmx_len ha hb] at hk
  have := h1 k (by omega)
  have := h2 k (by omega)
  rw [vmx_at (by omega) (by omega)]
  omega
theorem vsum_max {a b : List Int} (ha : a.length = 8) (hb : b.length = 8) (h1 : vgood a = true) (h2 : vgood b = true) : vsum (vmx a b) ≤ vsum a + vsum b := by
  rw [vsum, vsum, vsum, if_pos h1, if_pos h2, if_pos (vgood_max ha hb h1 h2)]
  rw [vgood, decide_eq_true_iff] at h1 h2
  exact vtot_max a b (fun x hx => (h1 x hx).1) (fun x hx => (h2 x hx).1)
/-- The sum of the first k. -/
def vup (a : List Int) (k : Nat) : Int := vtot (a.take k)
theorem vtot_app (a b : List Int) : vtot (a ++ b) = vtot a + vtot b := by
  induction a with
  | nil => simp [vtot]
  | cons x r ih => simp only [vtot, List.cons_append, List.foldr_cons] at ih ⊢; omega
theorem vup_next {a : List Int} {k : Nat} (h : k < a.length) : vup a (k + 1) = vup a k + iat a k := by
  rw [vup, vup, List.take_succ_eq_append_getElem h, vtot_app, show iat a k = a[k] by simp [iat, h]]
  simp [vtot]
theorem vup_bound {a : List Int} (hg : ∀ x ∈ a, 0 ≤ x ∧ x ≤ 1099511627776) : ∀ k, k ≤ a.length → 0 ≤ vup a k ∧ vup a k ≤ 1099511627776 * (k : Int) := by
  intro k
  induction k with
  | zero => intro _; simp [vup, vtot]
  | succ k ih =>
    intro hk
    have h1 := ih (by omega)
    have h2 := hg _ (mem_iat (a := a) (k := k) (by omega))
    rw [vup_next (by omega)]
    omega
theorem vup_all {a : List Int} (h : a.length = 8) : vup a 8 = vtot a := by rw [vup, List.take_of_length_le (by omega)]
theorem vup_zero (a : List Int) : vup a 0 = 0 := rfl
/-- Written, number by number. -/
def vpt (a : List Int) (k : Nat) : List UInt8 := vput (a.take k)
theorem vpt_next {a : List Int} {k : Nat} (h : k < a.length) : vpt a (k + 1) = vpt a k ++ gr (iat a k).toNat := by
  rw [vpt, vpt, List.take_succ_eq_append_getElem h, show iat a k = a[k] by simp [iat, h], vput, vput, List.map_append, List.flatten_append]
  rw [List.map_cons, List.map_nil, List.flatten_cons, List.flatten_nil, List.append_nil]
theorem vpt_all {a : List Int} (h : a.length = 8) : vpt a 8 = vput a := by rw [vpt, List.take_of_length_le (by omega)]
theorem vpt_zero (a : List Int) : vpt a 0 = [] := rfl
theorem vpt_le (a : List Int) : ∀ k, k ≤ a.length → (vpt a k).length ≤ 9 * k := by
  intro k
  induction k with
  | zero => intro _; simp [vpt_zero]
  | succ k ih =>
    intro hk
    have h1 := ih (by omega)
    have h2 := gr_le (iat a k).toNat
    rw [vpt_next (by omega), List.length_append]
    omega
end Go.Proofs.Ytabgkkdgamacnaa
namespace Go.Proofs.Ytabgkkdgamacnaa
open Go.RowKit

structure Ed where
  dev : Int
  num : Int
  seen : List Int
  kind : Int
  con : ByteArray
  fld : ByteArray
  val : ByteArray
  time : Int
theorem Ed.same {a b : Ed} (h1 : a.dev = b.dev) (h2 : a.num = b.num) (h3 : a.seen = b.seen) (h4 : a.kind = b.kind) (h5 : a.con = b.con) (h6 : a.fld = b.fld) (h7 : a.val = b.val) (h8 : a.time = b.time) : a = b := by
  cases a; cases b; simp_all
instance : DecidableEq Ed := fun a b =>
  if h : a.dev = b.dev ∧ a.num = b.num ∧ a.seen = b.seen ∧ a.kind = b.kind ∧ a.con = b.con ∧ a.fld = b.fld ∧ a.val = b.val ∧ a.time = b.time then
    .isTrue (Ed.same h.1 h.2.1 h.2.2.1 h.2.2.2.1 h.2.2.2.2.1 h.2.2.2.2.2.1 h.2.2.2.2.2.2.1 h.2.2.2.2.2.2.2)
  else .isFalse fun e => h (by subst e; simp)
/-- Its cells in memory. -/
def Ed.cells (e : Ed) : List Value := [.int .i64 e.dev, .int .i64 e.num] ++ (i64v e.seen ++ [.int .i64 e.kind, .string e.con, .string e.fld, .string e.val, .int .i64 e.time])

def nmB (b : UInt8) : Bool := decide (33 ≤ b.toNat) && decide (b.toNat ≤ 126)
def nm (s : ByteArray) : Bool := decide (1 ≤ s.size) && decide (s.size ≤ 40) && s.data.toList.all nmB
def nxt (d n : Int) (s : List Int) : Bool := decide (0 ≤ d ∧ d < 8 ∧ 1 ≤ n ∧ n ≤ 1099511627776) && vgood s && decide (iat s d.toNat = n - 1)
def tsays (k : Int) (f v : ByteArray) : Bool := if k = 1 then nm f && decide (v.size ≤ 200) else if k = 2 then decide (f.size = 0) && decide (v.size = 0) else false
def Ed.good (e : Ed) : Bool := nxt e.dev e.num e.seen && decide (0 ≤ e.time ∧ e.time ≤ 1099511627776) && nm e.con && tsays e.kind e.fld e.val
def txt (s : ByteArray) : List UInt8 := gr s.size ++ s.data.toList
def Ed.raw (e : Ed) : List UInt8 := gr e.dev.toNat ++ (gr e.num.toNat ++ (vput e.seen ++ (gr e.kind.toNat ++ (gr e.time.toNat ++ (txt e.con ++ (txt e.fld ++ txt e.val))))))
def Ed.put (e : Ed) : List UInt8 := if e.good = true then e.raw else []
def eover (a b : Ed) : Bool := decide (b.kind = 1) && vhas a.seen b.dev b.num && decide (a.con = b.con) && (decide (a.kind = 2) || decide (a.kind = 1) && decide (a.fld = b.fld))
def eless (a b : Ed) : Bool := if a.time = b.time then (if a.dev = b.dev then decide (a.num < b.num) else decide (a.dev < b.dev)) else decide (a.time < b.time)
/-- More than the laws ask of. -/
def elong (e : Ed) : Bool := decide (60 < e.con.size) || decide (60 < e.fld.size) || decide (250 < e.val.size)

theorem nm_take {l : List UInt8} {k : Nat} {b : UInt8} (h : (l.take k).all nmB = true) (hb : l[k]? = some b) (hp : nmB b = true) : (l.take (k + 1)).all nmB = true := by
  rw [List.take_add_one, hb, List.all_append, h]; simp [hp]
theorem nm_no {l : List UInt8} {k : Nat} {b : UInt8} (hb : l[k]? = some b) (hp : nmB b = false) : l.all nmB = false := by
  rw [List.all_eq_false]
  exact ⟨b, List.mem_of_getElem? hb, by simp [hp]⟩
/-- What a good one has. -/
structure Fine (e : Ed) : Prop where
  dev : 0 ≤ e.dev ∧ e.dev < 8
  num : 1 ≤ e.num ∧ e.num ≤ 1099511627776
  seen : vgood e.seen = true
  prev : iat e.seen e.dev.toNat = e.num - 1
  time : 0 ≤ e.time ∧ e.time ≤ 1099511627776
  con : nm e.con = true
  kind : e.kind = 1 ∨ e.kind = 2
  fld : e.fld.size ≤ 40
  val : e.val.size ≤ 200
theorem nm_size {s : ByteArray} (h : nm s = true) : 1 ≤ s.size ∧ s.size ≤ 40 := by
  simp only [nm, Bool.and_eq_true, decide_eq_true_eq] at h
  exact h.1
theorem Ed.fine {e : Ed} (h : e.good = true) : Fine e := by
  simp only [Ed.good, nxt, Bool.and_eq_true, decide_eq_true_eq] at h
  obtain ⟨⟨⟨⟨⟨h1, h2⟩, h3⟩, h4⟩, h5⟩, h6⟩ := h
  have hk : e.kind = 1 ∨ e.kind = 2 := by
    unfold tsays at h6
    by_cases k1 : e.kind = 1
    · exact .inl k1
    · by_cases k2 : e.kind = 2
      · exact .inr k2
      · rw [if_neg k1, if_neg k2] at h6; exact absurd h6 Bool.false_ne_true
  have hf : e.fld.size ≤ 40 ∧ e.val.size ≤ 200 := by
    unfold tsays at h6
    rcases hk with k1 | k2
    · rw [if_pos k1] at h6
      simp only [Bool.and_eq_true, decide_eq_true_eq] at h6
      exact ⟨(nm_size h6.1).2, h6.2⟩
    · rw [if_neg (by omega), if_pos k2] at h6
      simp only [Bool.and_eq_true, decide_eq_true_eq] at h6
      omega
  exact ⟨⟨h1.1, h1.2.1⟩, ⟨h1.2.2.1, h1.2.2.2⟩, h2, h3, h4, h5, hk, hf.1, hf.2⟩
/-! What follows of these. -/
theorem over_own {a : Ed} (h : a.good = true) : eover a a = false := by
  have f := Ed.fine h
  have : vhas a.seen a.dev a.num = false := by
    rw [vhas, decide_eq_false_iff_not]
    have := f.prev
    omega
  simp [eover, this]
theorem less_own (a : Ed) : eless a a = false := by simp [eless]
theorem less_two (a b : Ed) : (eless a b && eless b a) = false := by
  rw [eless, eless]
  by_cases h1 : a.time = b.time
  · rw [if_pos h1, if_pos h1.symm]
    by_cases h2 : a.dev = b.dev
    · rw [if_pos h2, if_pos h2.symm, ← Bool.decide_and, decide_eq_false_iff_not]; omega
    · rw [if_neg h2, if_neg (fun e => h2 e.symm), ← Bool.decide_and, decide_eq_false_iff_not]; omega
  · rw [if_neg h1, if_neg (fun e => h1 e.symm), ← Bool.decide_and, decide_eq_false_iff_not]; omega
theorem less_iff (a b : Ed) : eless a b = true ↔ a.time < b.time ∨ a.time = b.time ∧ (a.dev < b.dev ∨ a.dev = b.dev ∧ a.num < b.num) := by
  rw [eless]
  split
  · split
    · rw [decide_eq_true_iff]; omega
    · rw [decide_eq_true_iff]; omega
  · rw [decide_eq_true_iff]; omega
theorem less_three {a b c : Ed} (h1 : eless a b = true) (h2 : eless b c = true) : eless a c = true := by
  rw [less_iff] at *; omega
theorem over_not {a b : Ed} (h : vhas a.seen b.dev b.num = false) : eover a b = false := by simp [eover, h]
theorem over_yes {a b : Ed} (ha : a.good = true) (hb : b.kind = 1) (h : vhas a.seen b.dev b.num = true) : eover a b = (decide (a.con = b.con) && (decide (a.kind = 2) || decide (a.fld = b.fld))) := by
  have f := Ed.fine ha
  rw [eover, h, hb]
  rcases f.kind with k | k <;> simp [k]
end Go.Proofs.Ytabgkkdgamacnaa
namespace Go.Proofs.Ytabgkkdgamacnaa
open Go.RowKit

/-- A fact that no tactic looks into, an equation of things that can be reckoned ('contradiction' would reckon them). -/
def Vlt (p : Prop) : Prop := Unit → p
theorem Vlt.out {p : Prop} (h : Vlt p) : p := h ()
theorem vlt {p : Prop} (h : p) : Vlt p := fun _ => h
theorem Byt.take {w : World} {B : Nat} {A : Option Addr} {l : List UInt8} (h : Byt w B A l) (k : Nat) : Byt w B A (l.take k) := by
  rcases h with h | ⟨g, o, hA, hg, hc⟩
  · subst h; exact .inl (by simp)
  · refine .inr ⟨g, o, hA, hg, fun j b hj => hc j b ?_⟩
    have hjk : j < k := by
      have := (List.getElem?_eq_some_iff.1 hj).1
      simp at this; omega
    rwa [List.getElem?_take_of_lt hjk] at hj
theorem run_cut_h {P : Program} {T E : TypeId} (hT : P.underlying T = some (.slice E)) (hs : (P.info? E).map (·.size) = some 1) (A : Option Addr) (n c t : Nat) (L : Int) (hL : L = (t : Int)) (ht : t ≤ c) (w : World) :
    (Instr.slice T (.slice A n c) none (some (.int .i64 L)) none).run P w = .ok (.slice A t c) w := by
  subst hL
  obtain ⟨i, hi', hi2⟩ := Option.map_eq_some_iff.1 hs
  have he : P.elem T = E := by simp [Program.elem, hT]
  rw [run_slice_h w T A n c (by rw [he]; exact hT) .i64 _ (by omega) (by omega), he]
  cases A <;> simp [sizeOf, typeInfo, hi', hi2, sliced, Addr.add]

theorem Byt.lit_cold (w : World) (E : TypeId) (cs : Array Value) (fr : Nat × Nat) (l : List UInt8) (h : cs.toList = bv l) : Byt (w.alloc (.cells cs E fr)) (w.alloc (.cells cs E fr)).heap.size (some ⟨w.heap.size, 0, none⟩) l := by
  refine .inr ⟨w.heap.size, 0, rfl, by simp, fun j b hj => ?_⟩
  rw [Nat.zero_add, cell_of_row _ _ _ _ _ _ (heap_alloc_new w _)]
  have h1 := bv_at l j
  rw [hj, ← h] at h1
  simpa using h1
theorem run_cut_lh {P : Program} {T E : TypeId} (hT : P.underlying T = some (.slice E)) (hs : (P.info? E).map (·.size) = some 1) (A : Option Addr) (n c s t : Nat) (L H : Int) (hL : L = (s : Int)) (hH : H = (t : Int)) (hst : s ≤ t) (ht : t ≤ c) (w : World) :
    (Instr.slice T (.slice A n c) (some (.int .i64 L)) (some (.int .i64 H)) none).run P w = .ok (.slice (if c = s then A else A.map (·.add s)) (t - s) (c - s)) w := by
  subst hL hH
  obtain ⟨i, hi', hi2⟩ := Option.map_eq_some_iff.1 hs
  have he : P.elem T = E := by simp [Program.elem, hT]
  rw [run_slice_lh w T A n c (by rw [he]; exact hT) .i64 .i64 _ _ (by omega) (by omega) (by omega), he]
  simp [sizeOf, typeInfo, hi', hi2, sliced]
/-- A piece of a slice. -/
theorem Byt.cut {w : World} {B : Nat} {A : Option Addr} {l : List UInt8} (h : Byt w B A l) (s c : Nat) (hc : l.length ≤ c) : Byt w B (if c = s then A else A.map (·.add s)) (l.drop s) := by
  rcases h with h | ⟨b, o, rfl, hlt, hcell⟩
  · subst h; exact .inl (by simp)
  · by_cases ht : c = s
    · exact .inl (List.drop_eq_nil_of_le (by omega))
    · rw [if_neg ht]
      refine .inr ⟨b, o + s, by rw [Option.map_some, addr_add], hlt, fun j x hj => ?_⟩
      rw [List.getElem?_drop] at hj
      rw [Nat.add_assoc]; exact hcell _ x hj
/-- append onto bytes that have no room left: a new row. -/
theorem wp_append_grow {P : Program} (w : World) {ops : Array Oper} {rest : List Oper} {o : Oper} {a : Act} {Q : Exit → Act → World → Prop} (hgd : o.guard = none) (s x : Operand) (T : TypeId)
    (ho : o.op = .call { callee := .builtin .append, args := #[s, x], argTypes := #[T, T] }) (E : TypeId) (hT : P.underlying T = some (.slice E))
    (hI : (P.info? E).map (fun i => (i.zero, i.size, i.bytes)) = some (some (.int .u8 0), 1, 1)) (bo : Addr) (n c : Nat) (l : List UInt8) (hs : a.eval s = .slice (some bo) n c) (hl0 : l.length = n) (hb : ∀ j u, (bv l)[j]? = some u → w.cell? (bo.add j) = some u)
    (ad : Addr) (m c2 : Nat) (hx : a.eval x = .slice (some ad) m c2) (news : List UInt8) (hl : news.length = m) (hnews : ∀ j u, (bv news)[j]? = some u → w.cell? (ad.add j) = some u) (hfull : c < n + m) (hsz : n + m ≤ 140737488355328)
    (h : ∀ A' c' w', Res w' w.heap.size E A' (n + m) c' (l ++ news) → Below w.heap.size w w' → wpList P ops Q rest (a.put o.dst (.slice A' (n + m) c')) w') : wpList P ops Q (o :: rest) a w := by
  obtain ⟨i, hi, hz, h1, h2⟩ := info_parts hI
  refine wpList_append_grows w hgd s x T ho E i (.int .u8 0) 1 1 hT hi hz h1 h2 rfl (by decide) (some bo) n c (bv l) hs (fun e => by cases e) (by rw [bv_len]; omega) (fun b e j u hj => by injection e with e; subst e; exact hb j u hj) ad m c2 (bv news) hx (by rw [bv_len]; omega) hnews (bv_one _) hfull (by unfold maxLen; omega) (by omega) ?_
  intro v' w' hown hgr
  rw [← bv_app] at hown
  obtain ⟨A', c', rfl, hres⟩ := Res.of v' hown
  exact h A' c' w' hres ⟨hgr.os, hgr.tape, hgr.output, hgr.size, fun k hk => hgr.block k hk (by simp)⟩
theorem cells_at {w : World} {B : Nat} {b : Addr} {l : List UInt8} (h : Byt w B (some b) l) : ∀ j u, (bv l)[j]? = some u → w.cell? (b.add j) = some u := by
  intro j u hj
  obtain ⟨_, ad, he, hc⟩ := h.src (some b) b rfl (Nat.lt_of_le_of_lt (Nat.zero_le _) (List.getElem?_eq_some_iff.1 hj).1)
  injection he with he
  subst he
  exact hc j u hj
/-- Three new blocks. -/
theorem three_new (w : World) (a b c : Array Value) (s t u : TypeId) :
    ∃ W, ((w.alloc (.cells a s)).alloc (.cells b t)).alloc (.cells c u) = W ∧ Hid (W.heap[w.heap.size]? = some (.cells a s (0, 0))) ∧ Hid (W.heap[w.heap.size + 1]? = some (.cells b t (0, 0))) ∧ Hid (W.heap[w.heap.size + 2]? = some (.cells c u (0, 0))) ∧ Below w.heap.size w W ∧ Hid (W.heap.size = w.heap.size + 3) := by
  refine ⟨_, rfl, show _ = _ from ?_, show _ = _ from ?_, show _ = _ from ?_, (((Below.refl _ _).alloc (Nat.le_refl _) _).alloc (by simp) _).alloc (by simp; omega) _, show _ = _ by simp⟩
  · rw [Below.heap_alloc _ _ _ (by simp; omega)]; exact heap_alloc2_old _ _ _
  · rw [Below.heap_alloc _ _ _ (by simp)]; exact heap_alloc2_new _ _ _
  · have h := heap_alloc_new ((w.alloc (.cells a s)).alloc (.cells b t)) (.cells c u)
    have e : ((w.alloc (.cells a s)).alloc (.cells b t)).heap.size = w.heap.size + 2 := by simp
    rw [e] at h; exact h
/-- Words, and noughts up to n; bytes likewise. -/
def uptoW (n : Nat) (l : List Nat) : List Nat := l ++ List.replicate (n - l.length) 0
theorem uptoW_len (n : Nat) (l : List Nat) (h : l.length ≤ n) : (uptoW n l).length = n := by simp [uptoW]; omega
theorem uptoW_all (n : Nat) (l : List Nat) (h : l.length = n) : uptoW n l = l := by simp [uptoW, h]
theorem uptoW_set (n : Nat) (l : List Nat) (x : Nat) (h : l.length < n) : (uptoW n l).set l.length x = uptoW n (l ++ [x]) := by
  obtain ⟨m, hm⟩ : ∃ m, n - l.length = m + 1 := ⟨n - l.length - 1, by omega⟩
  rw [uptoW, uptoW, List.set_append_right _ _ (Nat.le_refl _), Nat.sub_self, hm, List.replicate_succ, List.set_cons_zero, List.length_append, List.append_assoc]
  congr 3
  simp; omega
theorem uptoW_at (n : Nat) (l : List Nat) (h : l.length < n) : (uptoW n l)[l.length]? = some 0 := by
  rw [uptoW, List.getElem?_append_right (Nat.le_refl _), List.getElem?_replicate, if_pos (by omega)]
def uptoB (n : Nat) (l : List UInt8) : List UInt8 := l ++ List.replicate (n - l.length) 0
theorem uptoB_all (n : Nat) (l : List UInt8) (h : l.length = n) : uptoB n l = l := by simp [uptoB, h]
theorem uptoB_len (n : Nat) (l : List UInt8) (h : l.length ≤ n) : (uptoB n l).length = n := by simp [uptoB]; omega
theorem uptoB_splice (n : Nat) (l x : List UInt8) (h : l.length + x.length ≤ n) : splice (bv (uptoB n l)) l.length (bv x) = bv (uptoB n (l ++ x)) := by
  have e : List.drop (l.length + x.length) (uptoB n l) = List.replicate (n - (l.length + x.length)) 0 := by
    rw [uptoB, List.drop_append, List.drop_of_length_le (by omega), List.nil_append, List.drop_replicate]
    congr 1; omega
  rw [splice, bv_take, bv_len]
  have e2 : List.drop (l.length + x.length) (bv (uptoB n l)) = bv (List.drop (l.length + x.length) (uptoB n l)) := by simp [bv, List.map_drop]
  have e3 : List.take l.length (uptoB n l) = l := by rw [uptoB, List.take_append_of_le_length (Nat.le_refl _), List.take_length]
  rw [e2, e, e3, uptoB, bv_app, bv_app, List.length_append, List.append_assoc]
end Go.Proofs.Ytabgkkdgamacnaa
namespace Go.Proofs.Ytabgkkdgamacnaa
open Go.RowKit

/-- One new block. -/
theorem one_new (w : World) (a : Array Value) (s : TypeId) :
    ∃ W, w.alloc (.cells a s) = W ∧ Hid (W.heap[w.heap.size]? = some (.cells a s (0, 0))) ∧ Below w.heap.size w W ∧ Hid (W.heap.size = w.heap.size + 1) :=
  ⟨_, rfl, heap_alloc_new _ _, (Below.refl _ _).alloc (Nat.le_refl _) _, show _ = _ by simp⟩
/-- Two new blocks. -/
theorem pair_new (w : World) (a b : Array Value) (s t : TypeId) :
    ∃ W, (w.alloc (.cells a s)).alloc (.cells b t) = W ∧ Hid (W.heap[w.heap.size]? = some (.cells a s (0, 0))) ∧ Hid (W.heap[w.heap.size + 1]? = some (.cells b t (0, 0))) ∧ Below w.heap.size w W ∧ Hid (W.heap.size = w.heap.size + 2) :=
  ⟨_, rfl, heap_alloc2_old _ _ _, heap_alloc2_new _ _ _, ((Below.refl _ _).alloc (Nat.le_refl _) _).alloc (by simp) _, show _ = _ by simp⟩
def slen : Value → Nat | .slice _ n _ => n | _ => 0
theorem Res.some_ {w : World} {base E n c : Nat} {A : Option Addr} {l : List UInt8} (h : Res w base E A n c l) (hn : 0 < n) : ∃ g, A = some ⟨g, 0, none⟩ := by
  rcases h.2 with ⟨_, h0⟩ | ⟨g, cap, cur, hv, _⟩
  · omega
  · injection hv with hv; exact ⟨g, hv⟩
theorem below_undrew {B : Nat} {w w' : World} (h : Below B w.drew w') : Below B w w' := ⟨h.os, h.tape, h.output, h.size, h.block⟩
theorem wpList_build_as {P : Program} {ops : Array Oper} {rest : List Oper} {o : Oper} {a : Act} {w : World} {Q : Exit → Act → World → Prop} (hg : o.guard = none) (t : TypeId) (ho : o.op = .build t #[]) (cs : Array Value) (hf : P.built t [] = some cs)
    (h : wpList P ops Q rest (a.put o.dst (.agg cs)) w) : wpList P ops Q (o :: rest) a w :=
  wpList_build hg t #[] ho (by simp [hf]) (by simpa [hf] using h)
theorem byte_cell {w : World} {g k : Nat} {l : List UInt8} {t : TypeId} {b : UInt8} (hg : w.heap[g]? = some (.cells (bv l).toArray t (0, 0))) (hb : l[k]? = some b) : w.cell? ⟨g, k, none⟩ = some (.int .u8 (b.toNat : Int)) := by
  rw [cell_of_row _ _ _ _ _ _ hg]
  simp [bv_at, hb]
theorem word_at {w : World} {g : Nat} {l : List Nat} {t : TypeId} (hg : w.heap[g]? = some (.cells (u32v l).toArray t (0, 0))) (k : Nat) (hk : k < l.length) : w.cell? ⟨g, k, none⟩ = some (.int .u32 ((natAt l k : Nat) : Int)) := by
  rw [cell_of_row _ _ _ _ _ _ hg]
  have := natAt_at (l := l) rfl hk
  simpa using this
/-- Numbers of 64 bits as the cells of a row. -/
def u64v (l : List Nat) : List Value := l.map fun (x : Nat) => Value.int .u64 (x : Int)
theorem u64v_len (l : List Nat) : (u64v l).length = l.length := by simp [u64v]
theorem u64v_at (l : List Nat) (k : Nat) : (u64v l)[k]? = l[k]?.map fun (x : Nat) => Value.int .u64 (x : Int) := by simp [u64v]
theorem u64v_set (l : List Nat) (k x : Nat) : (u64v l).set k (.int .u64 (x : Int)) = u64v (l.set k x) := by simp [u64v, List.map_set]
theorem u64v_one (l : List Nat) : ∀ u ∈ u64v l, u.oneCell' = true := by
  intro u hu
  obtain ⟨b, _, rfl⟩ := List.mem_map.1 hu
  rfl
theorem long_at {w : World} {g : Nat} {l : List Nat} {t : TypeId} (hg : w.heap[g]? = some (.cells (u64v l).toArray t (0, 0))) (k : Nat) (hk : k < l.length) : w.cell? ⟨g, k, none⟩ = some (.int .u64 ((natAt l k : Nat) : Int)) := by
  rw [cell_of_row _ _ _ _ _ _ hg]
  simp [u64v_at, natAt, List.getElem?_eq_getElem hk]
theorem world_set_cell {w : World} {g : Nat} {cs : List Value} {t : TypeId} (hg : w.heap[g]? = some (.cells cs.toArray t (0, 0))) (k : Nat) (u : Value) :
    Hid ((w.setCell ⟨g, k, none⟩ u).heap[g]? = some (.cells (cs.set k u).toArray t (0, 0))) := by
  show _ = _
  rw [heap_setCell_same w g k _ _ u hg]; simp
/-- A piece of a row of bytes. -/
theorem byt_mid {w : World} {g : Nat} {l : List UInt8} {t : TypeId} (hg : w.heap[g]? = some (.cells (bv l).toArray t (0, 0))) (k m : Nat) : Byt w w.heap.size (some ⟨g, k, none⟩) ((l.drop k).take m) := by
  refine .inr ⟨g, k, rfl, (Array.getElem?_eq_some_iff.1 hg).1, fun j b hj => ?_⟩
  have hjm : j < m := by
    have := (List.getElem?_eq_some_iff.1 hj).1
    simp at this; omega
  rw [List.getElem?_take_of_lt hjm, List.getElem?_drop] at hj
  exact byte_cell hg hj
theorem wpList_build_to {P : Program} {ops : Array Oper} {rest : List Oper} {o : Oper} {a : Act} {w : World} {Q : Exit → Act → World → Prop} (hg : o.guard = none) (t : TypeId) (parts : Array (Nat × Operand)) (ho : o.op = .build t parts) (lst : List (Nat × Value)) (hp : (parts.map fun (i, x) => (i, a.eval x)).toList = lst) (cs : Array Value) (hf : P.built t lst = some cs)
    (h : wpList P ops Q rest (a.put o.dst (.agg cs)) w) : wpList P ops Q (o :: rest) a w :=
  wpList_build hg t parts ho (by rw [hp, hf]; rfl) (by rw [hp, hf]; exact h)
theorem and26 (x : Nat) (hx : x < 18446744073709551616) : bits .and .u64 (x : Int) 67108863 = ((x % 67108864 : Nat) : Int) := by
  have h := u64_and_nat x 67108863 hx (by decide)
  rw [show ((67108863 : Nat) : Int) = 67108863 from rfl] at h
  rw [h, show (67108863 : Nat) = 2 ^ 26 - 1 by decide, Nat.and_two_pow_sub_one_eq_mod, show (2 : Nat) ^ 26 = 67108864 by decide]
theorem wrap64 (x : Nat) : IntKind.u64.wrap (x : Int) = ((x % 18446744073709551616 : Nat) : Int) := by
  simp [IntKind.wrap, IntKind.bits, IntKind.signed]
theorem range_byt {w : World} {B g o : Nat} {l : List UInt8} (h : Byt w B (some ⟨g, o, none⟩) l) : w.rangeAt g o (bv l) := by
  intro j v hj
  have := cells_at h j v hj
  rwa [addr_add] at this
theorem wd_8 : wd 8 = 8 := by decide
theorem splice_all (l m : List UInt8) (h : l.length = m.length) : splice (bv m) 0 (bv l) = bv l := by
  rw [splice, List.take_zero, List.nil_append, Nat.zero_add, List.drop_eq_nil_of_le (by rw [bv_len, bv_len, h]; exact Nat.le_refl _), List.append_nil]
theorem splice_bv (m : List UInt8) (k : Nat) (x : List UInt8) : splice (bv m) k (bv x) = bv (m.take k ++ (x ++ m.drop (k + x.length))) := by
  simp [splice, bv, List.map_take, List.map_drop]
end Go.Proofs.Ytabgkkdgamacnaa
namespace Go.Proofs.Ytabgkkdgamacnaa
open Go.RowKit

theorem row_but {w w' : World} {g c : Nat} {X : Obj} (h : Hid (w.heap[c]? = some X)) (hb : But g w w') (hne : c ≠ g) : Hid (w'.heap[c]? = some X) :=
  (hb.block c (Array.getElem?_eq_some_iff.1 h.out).1 (fun e => hne (by injection e))).trans h.out
theorem row_size {w : World} {c : Nat} {X : Obj} (h : Hid (w.heap[c]? = some X)) : c < w.heap.size := (Array.getElem?_eq_some_iff.1 h.out).1
theorem row_next2 {w w' : World} {c : Nat} {X : Obj} (h : Hid (w.heap[c]? = some X)) (hb : Below w.heap.size w w') : Hid (w'.heap[c]? = some X) :=
  (hb.block c (Array.getElem?_eq_some_iff.1 h.out).1).trans h.out
/-- In a world that keeps S's blocks. -/
theorem row_S {w w' : World} {g c : Nat} {X : Obj} (h : Hid (w.heap[c]? = some X)) (hb : But g w w') (hne : c ≠ g) : w'.heap[c]? = some X := (row_but h hb hne).out
theorem But.on {g n : Nat} {a w w' : World} (h : But g a w) (k : But n w w') (hn : a.heap.size ≤ n) : But g a w' :=
  ⟨k.os.trans h.os, k.tape.trans h.tape, k.output.trans h.output, Nat.le_trans h.size k.size, fun i hi hne => (k.block i (Nat.lt_of_lt_of_le hi h.size) (fun e => by injection e; omega)).trans (h.block i hi hne)⟩
theorem But.go {g : Nat} {a b c : World} (h : But g a b) (k : Below b.heap.size b c) : But g a c := h.below_to k (Nat.le_refl _)
/-- A whole row is stored, as one step. -/
theorem step_row {P : Program} {ops : Array Oper} {o : Oper} {a : Act} {w : World} {K : Act → World → Prop} {Q : Exit → Act → World → Prop} {E : Prop} (hgd : o.guard = none) (ty : TypeId) (x y : Operand) (ho : o.op = .store ty x y)
    (g : Nat) (cells : List Value) (hx : a.eval x = .pointer (some ⟨g, 0, none⟩)) (hy : a.eval y = .agg cells.toArray) (t : TypeId) (old : Array Value) (hg : w.heap[g]? = some (.cells old t (0, 0)))
    (hi : (P.info? ty).map (·.size) = some cells.length) (hold : old.size = cells.length) (h1 : ∀ v ∈ cells, v.oneCell' = true)
    (h : ∀ w', Hid (w'.heap[g]? = some (.cells cells.toArray t (0, 0))) → But g w w' → K (a.put o.dst undef) w') : if Region.wanted o (yielded ops a.tmps) = true then Oper.wp P o a w K Q else E :=
  step_store_row hgd ty x y ho g cells.toArray hx hy t old hg (by simpa using hi) (by simpa using hold) (all_oneCell_toArray h1)
    (h _ (setRow_heap _ _ _ _ _ _ hg) ((But.refl _ _).row _))
/-- What lies there is stored there again. -/
theorem step_same {P : Program} {ops : Array Oper} {o : Oper} {a : Act} {w : World} {K : Act → World → Prop} {Q : Exit → Act → World → Prop} {E : Prop} (hgd : o.guard = none) (ty : TypeId) (x y : Operand) (ho : o.op = .store ty x y)
    (g : Nat) (cells : List Value) (hx : a.eval x = .pointer (some ⟨g, 0, none⟩)) (hy : a.eval y = .agg cells.toArray) (t : TypeId) (hg : w.heap[g]? = some (.cells cells.toArray t (0, 0)))
    (hi : (P.info? ty).map (·.size) = some cells.length) (h1 : ∀ v ∈ cells, v.oneCell' = true)
    (h : ∀ w', Below w.heap.size w w' → K (a.put o.dst undef) w') : if Region.wanted o (yielded ops a.tmps) = true then Oper.wp P o a w K Q else E :=
  step_row hgd ty x y ho g cells hx hy t _ hg hi (by simp) h1 fun w' hr hb => h w' ⟨hb.os, hb.tape, hb.output, hb.size, fun i hi => by
    by_cases hig : i = g
    · rw [hig, hr.out, hg]
    · exact hb.block i hi (fun e => hig (by injection e))⟩
/-- A region in the text's order, met as one whose order is open. -/
theorem plain_start {P : Program} {ops : Array Oper} {Q : Exit → Act → World → Prop} {S : World → Prop} {id : Nat} {a : Act} {w : World}
    (hl : Region.linearise.go .any ops ops.size 0 (Array.replicate ops.size false) [] = List.range ops.size) (hS : S w)
    (h : S w → wpAnyH P .any ops Q S ops.size (Array.replicate ops.size false) a w) : (Code.region id ops false).wp P Q a w :=
  wp_region (hl ▸ wpAny_sound ops.size 0 _ _ _ (wpAny_of_held _ _ _ _ (h hS)))
end Go.Proofs.Ytabgkkdgamacnaa
namespace Go.Proofs.Ytabgkkdgamacnaa
open Go.RowKit

section
variable {P : Program} {t e n : Nat} (ht : P.underlying t = some (.array n e)) (he : P.underlying e = some (.int .i64)) (hs : (P.info? e).map (·.size) = some 1)
include ht he hs
theorem part_int (l : List Int) (k : Nat) (hk : k < l.length) (w : World) : (part e (i64v l).toArray (k * 1)).run P w = .ok (.int .i64 (iat l k)) w := by
  obtain ⟨i, hi', hi2⟩ := Option.map_eq_some_iff.1 hs
  have h1 : (i64v l)[k]? = some (.int .i64 (iat l k)) := by rw [i64v_at, iat_at hk]; rfl
  have _ := ht
  simp [part, isAgg, run_underlying he, h1]
theorem eq_ints (l m : List Int) (hl : l.length = n) (hm : m.length = n) (d : Nat) (w : World) : (Op.equalIn (d + 2) t (.agg (i64v l).toArray) (.agg (i64v m).toArray)).run P w = .ok (decide (l = m)) w := by
  obtain ⟨i, hi', hi2⟩ := Option.map_eq_some_iff.1 hs
  have hfor : ∀ (is : List Nat), (∀ k ∈ is, k < n) → (forIn (m := Sem) is ((none : Option Bool), ()) fun i _ => do
      let a ← part e (i64v l).toArray (i * 1)
      let b ← part e (i64v m).toArray (i * 1)
      let r ← Op.equalIn (d + 1) e a b
      if (!r) = true then pure (ForInStep.done (some false, ())) else pure (ForInStep.yield (none, ()))).run P w = .ok (if (∀ k ∈ is, iat l k = iat m k) then none else some false, ()) w := by
    intro is
    induction is with
    | nil => intro _; simp
    | cons k ks ih =>
      intro hk
      have hk1 : k < n := hk k (by simp)
      have h1 := part_int ht he hs l k (by omega) w
      have h1' := part_int ht he hs m k (by omega) w
      have h2 := ih (fun j hj => hk j (by simp [hj]))
      rw [List.forIn_cons]
      simp only [Sem.run_bind, h1, h1', Result.andThen_ok, run_equalIn_int w d e .i64 .i64 _ _ he]
      by_cases hkk : iat l k = iat m k
      · simp only [List.mem_cons, forall_eq_or_imp, hkk, true_and]
        simpa using h2
      · simp [hkk]
  rw [Op.equalIn]
  have hsz : (sizeOf e).run P w = .ok 1 w := by simp [sizeOf, typeInfo, hi', hi2]
  simp only [Sem.run_bind, run_underlying ht, Result.andThen_ok, hsz]
  have hr := hfor (List.range' 0 n) (fun k hk => by simpa using hk)
  simp only [Std.Legacy.Range.forIn_eq_forIn_range', Std.Legacy.Range.size, Nat.sub_zero, Nat.add_one_sub_one, Nat.div_one, hr]
  have hiff : (∀ k ∈ List.range' 0 n, iat l k = iat m k) ↔ l = m := by
    constructor
    · intro h
      apply list_iat (by omega)
      intro k h1
      exact h k (by simp; omega)
    · rintro rfl _ _; rfl
  by_cases hlm : l = m
  · simp [hlm]
  · rw [if_neg (fun h => hlm (hiff.1 h))]
    simp [hlm]
theorem eql_ints (l m : List Int) (hl : l.length = n) (hm : m.length = n) (w : World) : (binOp .eql t (.agg (i64v l).toArray) (.agg (i64v m).toArray)).run P w = .ok (.bool (decide (l = m))) w := by
  rw [run_eql_struct, eq_ints ht he hs l m hl hm 9998 w]
  rfl
theorem neq_ints (l m : List Int) (hl : l.length = n) (hm : m.length = n) (w : World) : (binOp .neq t (.agg (i64v l).toArray) (.agg (i64v m).toArray)).run P w = .ok (.bool (!decide (l = m))) w := by
  rw [run_neq_struct, eq_ints ht he hs l m hl hm 9998 w]
  rfl
end
/-- A row of numbers, in a block of its own. -/
def Row8 (w : World) (g : Nat) (T : TypeId) (l : List Int) : Prop := w.heap[g]? = some (.cells (i64v l).toArray T (0, 0))

theorem min_step {l : List Int} {k : Nat} {x y : Int} (h : (∃ j, j < k ∧ x = iat l j) ∧ ∀ j, j < k → x ≤ iat l j) (hy : y = iat l k) : (∃ j, j < k + 1 ∧ (if y < x then y else x) = iat l j) ∧ ∀ j, j < k + 1 → (if y < x then y else x) ≤ iat l j := by
  obtain ⟨⟨i, hi, hx⟩, h2⟩ := h
  refine ⟨?_, fun j hj => ?_⟩
  · split
    · exact ⟨k, by omega, hy⟩
    · exact ⟨i, by omega, hx⟩
  · by_cases hjk : j = k
    · subst hjk; split <;> omega
    · have := h2 j (by omega)
      split <;> omega
theorem min_step_all {l : List Int} {x : Int} (hl : l.length = 8) (h : (∃ j, j < 8 ∧ x = iat l j) ∧ ∀ j, j < 8 → x ≤ iat l j) : x ∈ l ∧ ∀ y ∈ l, x ≤ y := by
  obtain ⟨⟨i, hi, hx⟩, h2⟩ := h
  refine ⟨by rw [hx]; exact mem_iat (by omega), fun y hy => ?_⟩
  obtain ⟨k, hk, rfl⟩ := iat_mem hy
  exact h2 k (by omega)
set_option maxRecDepth 100000 in
theorem smin_any (w : World) (g : Nat) (T : TypeId) (l : List Int) (hr : Hid (Row8 w g T l)) (hl : l.length = 8) :
    Calls Try.prog 55 #[.slice (some ⟨g, 0, none⟩) 8 8] w fun e w' => ∃ m, e = .returned (.int .i64 m) ∧ Vlt (m ∈ l ∧ ∀ x ∈ l, m ≤ x) ∧ w = w' := by
  have HL := Lib.hid hl
  have c0 := int_at hr.out 0 (by omega)
  have H0 := vlt (show (∃ j, j < 1 ∧ iat l 0 = iat l j) ∧ ∀ j, j < 1 → iat l 0 ≤ iat l j from ⟨⟨0, by omega, rfl⟩, fun j hj => by
    obtain rfl : j = 0 := by omega
    exact Int.le_refl _⟩)
  clear hl
  go_enter Try.func55, Try.ntmps55
  go_wp2
  go_loopw [3, 4] (fun m i wr => ∃ (k : Nat) (x : Int), k ≤ 8 ∧ 1 ≤ k ∧ i = .int .i64 (k : Int) ∧ m = .int .i64 x ∧ Vlt ((∃ j, j < k ∧ x = iat l j) ∧ ∀ j, j < k → x ≤ iat l j) ∧ wr = w) (fun _ i _ => 8 - (intOf i).toNat)
  case atStart => exact ⟨1, iat l 0, by omega, by omega, rfl, rfl, H0, rfl⟩
  case round =>
    obtain ⟨k, x, hk, hk1, rfl, rfl, HX, rfl⟩ := hrel
    by_cases hlt : k < 8
    · have ck := int_at hr.out k (by rw [HL.out]; exact hlt)
      obtain ⟨y, hy⟩ : ∃ y, y = iat l k := ⟨_, rfl⟩
      rw [← hy] at ck
      have HY := vlt (min_step HX.out hy)
      clear hy c0 H0
      go_wp2
      go_roundw
      case rel => exact ⟨k + 1, if y < x then y else x, by omega, by omega, by go_num, rfl, HY, trivial⟩
      case measure => simp [intOf]; omega
    · obtain rfl : k = 8 := by omega
      have HX2 := vlt (min_step_all HL.out HX.out)
      go_wp2
      go_ret
      exact ⟨x, rfl, HX2, rfl⟩
theorem max_step {l : List Int} {k : Nat} {x y : Int} (h : (∃ j, j < k ∧ x = iat l j) ∧ ∀ j, j < k → iat l j ≤ x) (hy : y = iat l k) : (∃ j, j < k + 1 ∧ (if x < y then y else x) = iat l j) ∧ ∀ j, j < k + 1 → iat l j ≤ (if x < y then y else x) := by
  obtain ⟨⟨i, hi, hx⟩, h2⟩ := h
  refine ⟨?_, fun j hj => ?_⟩
  · split
    · exact ⟨k, by omega, hy⟩
    · exact ⟨i, by omega, hx⟩
  · by_cases hjk : j = k
    · subst hjk; split <;> omega
    · have := h2 j (by omega)
      split <;> omega
theorem max_step_all {l : List Int} {x : Int} (hl : l.length = 8) (h : (∃ j, j < 8 ∧ x = iat l j) ∧ ∀ j, j < 8 → iat l j ≤ x) : x ∈ l ∧ ∀ y ∈ l, y ≤ x := by
  obtain ⟨⟨i, hi, hx⟩, h2⟩ := h
  refine ⟨by rw [hx]; exact mem_iat (by omega), fun y hy => ?_⟩
  obtain ⟨k, hk, rfl⟩ := iat_mem hy
  exact h2 k (by omega)
set_option maxRecDepth 100000 in
theorem smax_any (w : World) (g : Nat) (T : TypeId) (l : List Int) (hr : Hid (Row8 w g T l)) (hl : l.length = 8) :
    Calls Try.prog 56 #[.slice (some ⟨g, 0, none⟩) 8 8] w fun e w' => ∃ m, e = .returned (.int .i64 m) ∧ Vlt (m ∈ l ∧ ∀ x ∈ l, x ≤ m) ∧ w = w' := by
  have HL := Lib.hid hl
  have c0 := int_at hr.out 0 (by omega)
  have H0 := vlt (show (∃ j, j < 1 ∧ iat l 0 = iat l j) ∧ ∀ j, j < 1 → iat l j ≤ iat l 0 from ⟨⟨0, by omega, rfl⟩, fun j hj => by
    obtain rfl : j = 0 := by omega
    exact Int.le_refl _⟩)
  clear hl
  go_enter Try.func56, Try.ntmps56
  go_wp2
  go_loopw [3, 4] (fun m i wr => ∃ (k : Nat) (x : Int), k ≤ 8 ∧ 1 ≤ k ∧ i = .int .i64 (k : Int) ∧ m = .int .i64 x ∧ Vlt ((∃ j, j < k ∧ x = iat l j) ∧ ∀ j, j < k → iat l j ≤ x) ∧ wr = w) (fun _ i _ => 8 - (intOf i).toNat)
  case atStart => exact ⟨1, iat l 0, by omega, by omega, rfl, rfl, H0, rfl⟩
  case round =>
    obtain ⟨k, x, hk, hk1, rfl, rfl, HX, rfl⟩ := hrel
    by_cases hlt : k < 8
    · have ck := int_at hr.out k (by rw [HL.out]; exact hlt)
      obtain ⟨y, hy⟩ : ∃ y, y = iat l k := ⟨_, rfl⟩
      rw [← hy] at ck
      have HY := vlt (max_step HX.out hy)
      clear hy c0 H0
      go_wp2
      go_roundw
      case rel => exact ⟨k + 1, if x < y then y else x, by omega, by omega, by go_num, rfl, HY, trivial⟩
      case measure => simp [intOf]; omega
    · obtain rfl : k = 8 := by omega
      have HX2 := vlt (max_step_all HL.out HX.out)
      go_wp2
      go_ret
      exact ⟨x, rfl, HX2, rfl⟩
end Go.Proofs.Ytabgkkdgamacnaa
namespace Go.Proofs.Ytabgkkdgamacnaa
open Go.RowKit

theorem setCells_row {w : World} {g o : Nat} {cs : List Value} {t : TypeId} (hg : w.heap[g]? = some (.cells cs.toArray t (0, 0))) (vs : List Value) (hfit : o + vs.length ≤ cs.length) (h1 : ∀ v ∈ vs, v.oneCell' = true) :
    w.setCells g o vs = w.setRow g (splice cs o vs).toArray := by
  have a := run_storeCells_cells (P := Try.prog) g o vs 0 w (fun j hj => by rw [cell_of_row _ _ _ _ _ _ hg]; simp; omega) (fun j hj => frozen_of_row _ _ _ _ _ hg) h1
  have b := run_storeCells_at (P := Try.prog) g o t vs 0 cs.toArray w hg (by simp; omega) h1
  rw [a] at b
  injection b with _ b
  simpa [splice] using b
/-- A whole array is stored into the midst of a block that is known whole, as one step of a region that draws its order. -/
theorem step_store_mid {P : Program} {ops : Array Oper} {o : Oper} {a : Act} {w : World} {K : Act → World → Prop} {Q : Exit → Act → World → Prop} {E : Prop} (hgd : o.guard = none) (ty : TypeId) (x y : Operand) (ho : o.op = .store ty x y)
    (g off : Nat) (cells : List Value) (hx : a.eval x = .pointer (some ⟨g, off, none⟩)) (hy : a.eval y = .agg cells.toArray) (cur : List Value) (t : TypeId) (hg : w.heap[g]? = some (.cells cur.toArray t (0, 0)))
    (hfit : off + cells.length ≤ cur.length) (hi : (P.info? ty).map (·.size) = some cells.length) (h1 : ∀ v ∈ cells, v.oneCell' = true) (w0 : World) (hb : But g w0 w)
    (h : ∀ w', Hid (w'.heap[g]? = some (.cells (splice cur off cells).toArray t (0, 0))) → But g w0 w' → K (a.put o.dst undef) w') :
    if Region.wanted o (yielded ops a.tmps) = true then Oper.wp P o a w K Q else E := by
  have hw : Region.wanted o (yielded ops a.tmps) = true := by simp [Region.wanted, hgd]
  rw [if_pos hw]
  refine wp_store_mid ty x y ho g off cells.toArray hx hy (fun j hj => ⟨?_, frozen_of_row _ _ _ _ _ hg⟩) (by simpa using hi) (all_oneCell_toArray h1) ?_
  · rw [cell_of_row _ _ _ _ _ _ hg]
    simp at hj ⊢; omega
  · have e := setCells_row hg cells hfit h1
    show K _ (w.setCells g off cells)
    rw [e]
    exact h _ (setRow_heap _ _ _ _ _ _ hg) (hb.row _)
theorem splice_mid (A B C x : List Value) (a k : Nat) (ha : a = A.length + k) (h : k + x.length ≤ B.length) : splice (A ++ (B ++ C)) a x = A ++ (splice B k x ++ C) := by
  subst ha
  simp only [splice]
  have e1 : List.take (A.length + k) (A ++ (B ++ C)) = A ++ List.take k B := by
    rw [List.take_append, List.take_of_length_le (by omega), Nat.add_sub_cancel_left, List.take_append_of_le_length (by omega)]
  have e2 : List.drop (A.length + k + x.length) (A ++ (B ++ C)) = List.drop (k + x.length) B ++ C := by
    rw [List.drop_append, List.drop_of_length_le (by omega), List.nil_append, show A.length + k + x.length - A.length = k + x.length by omega, List.drop_append_of_le_length (by omega)]
  rw [e1, e2]
  simp
theorem range_part {w : World} {g : Nat} {t : TypeId} (A B C : List Value) (hg : w.heap[g]? = some (.cells (A ++ (B ++ C)).toArray t (0, 0))) (a : Nat) (ha : A.length = a) : w.rangeAt g a B := by
  intro j v hj
  have hjl := (List.getElem?_eq_some_iff.1 hj).1
  rw [cell_of_row _ _ _ _ _ _ hg]
  simp only [List.getElem?_toArray]
  rw [List.getElem?_append_right (by omega), ← ha, Nat.add_sub_cancel_left, List.getElem?_append_left hjl]
  exact hj
end Go.Proofs.Ytabgkkdgamacnaa
namespace Go.Proofs.Ytabgkkdgamacnaa
open Go.RowKit

/-- What a slot holds behind a put: one word for 'simp only'. -/
theorem pu : (∀ (a : Act) (d : Nat) (v : Value), a.put (some d) v = { a with tmps := a.tmps.setIfInBounds d v }) ∧ (∀ (a : Act) (v : Value), a.put none v = a) ∧
    (∀ (l : List Value) (i : Nat) (v : Value), l.toArray.setIfInBounds i v = (l.set i v).toArray) ∧ (∀ (x v : Value) (l : List Value), (x :: l).set 0 v = v :: l) ∧ (∀ (x v : Value) (l : List Value) (i : Nat), (x :: l).set (i + 1) v = x :: l.set i v) :=
  ⟨fun _ _ _ => rfl, fun _ _ => rfl, fun _ _ _ => by simp, fun _ _ _ => rfl, fun _ _ _ _ => rfl⟩
/-- A new variable of a region: its operation, its slot, its type, what it first holds. -/
structure NewV where
  i : Nat
  d : Nat
  ty : TypeId
  z : Array Value
/-- The new variables that are made: in the list of what came up, in the slots, in the world. -/
def markD (l : Array Bool) (D : List (NewV × Nat)) : Array Bool := D.foldr (fun x l => l.setIfInBounds x.1.i true) l
def markA (l : Array Bool) (A : List NewV) : Array Bool := A.foldr (fun x l => l.setIfInBounds x.i true) l
def putD (a : Act) (D : List (NewV × Nat)) : Act := D.foldr (fun x a => a.put (some x.1.d) (.pointer (some ⟨x.2, 0, none⟩))) a
structure HoldD (B : Nat) (w : World) (D : List (NewV × Nat)) : Prop where
  row : ∀ x ∈ D, w.heap[x.2]? = some (.cells x.1.z x.1.ty (0, 0))
  new : ∀ x ∈ D, B ≤ x.2
  nodup : (D.map (·.2)).Nodup
theorem HoldD.next {B : Nat} {w w' : World} {D : List (NewV × Nat)} (h : HoldD B w D) (hb : Below w.heap.size w w') : HoldD B w' D :=
  ⟨fun x hx => (hb.block _ (Array.getElem?_eq_some_iff.1 (h.row x hx)).1).trans (h.row x hx), h.new, h.nodup⟩
theorem HoldD.more {B : Nat} {w : World} {D : List (NewV × Nat)} (h : HoldD B w D) (hB : B ≤ w.heap.size) (x : NewV) : HoldD B (w.alloc (.cells x.z x.ty)) ((x, w.heap.size) :: D) := by
  refine ⟨fun y hy => ?_, fun y hy => ?_, ?_⟩
  · rcases List.mem_cons.1 hy with rfl | hy
    · exact heap_alloc_new _ _
    · exact (Below.heap_alloc _ _ _ (Array.getElem?_eq_some_iff.1 (h.row y hy)).1).trans (h.row y hy)
  · rcases List.mem_cons.1 hy with rfl | hy
    · exact hB
    · exact h.new y hy
  · rw [List.map_cons, List.nodup_cons]
    refine ⟨fun hm => ?_, h.nodup⟩
    obtain ⟨y, hy, he⟩ := List.mem_map.1 hm
    have h1 := (Array.getElem?_eq_some_iff.1 (h.row y hy)).1
    have h2 : y.2 = w.heap.size := he
    omega
theorem set_comm (l : Array Bool) (i j : Nat) : (l.setIfInBounds i true).setIfInBounds j true = (l.setIfInBounds j true).setIfInBounds i true := by
  by_cases h : i = j
  · rw [h]
  · rw [Array.setIfInBounds_comm _ _ h]
theorem markD_set (l : Array Bool) (i : Nat) : ∀ D : List (NewV × Nat), markD (l.setIfInBounds i true) D = (markD l D).setIfInBounds i true
  | [] => rfl
  | x :: D => by
    show (markD (l.setIfInBounds i true) D).setIfInBounds x.1.i true = ((markD l D).setIfInBounds x.1.i true).setIfInBounds i true
    rw [markD_set l i D, set_comm]
theorem markD_A (l : Array Bool) : ∀ D : List (NewV × Nat), markD l D = markA l (D.map (·.1))
  | [] => rfl
  | x :: D => by
    show (markD l D).setIfInBounds x.1.i true = (markA l (D.map (·.1))).setIfInBounds x.1.i true
    rw [markD_A l D]
theorem markA_un (l : Array Bool) (j : Nat) : ∀ A : List NewV, (∀ x ∈ A, x.i ≠ j) → ∀ b, (markA l A).getD j b = l.getD j b
  | [], _, _ => rfl
  | x :: A, h, b => by
    show ((markA l A).setIfInBounds x.i true).getD j b = l.getD j b
    rw [getD_set_ne b (h x (List.mem_cons_self ..)), markA_un l j A (fun y hy => h y (List.mem_cons_of_mem _ hy)) b]
theorem getD_two {l : Array Bool} {j : Nat} (h : l.getD j true = false) : l.getD j false = false := by
  rcases Nat.lt_or_ge j l.size with h' | h'
  · simp [h'] at h ⊢; exact h
  · simp [Array.getElem?_eq_none h'] at h
theorem set_size (l : Array Bool) (i : Nat) : (l.setIfInBounds i true).size = l.size := by simp
theorem markA_size (l : Array Bool) : ∀ A : List NewV, (markA l A).size = l.size
  | [] => rfl
  | x :: A => by
    show ((markA l A).setIfInBounds x.i true).size = l.size
    rw [set_size, markA_size l A]
theorem markA_in (l : Array Bool) {x : NewV} : ∀ A : List NewV, x ∈ A → (markA l A).getD x.i true = true
  | y :: A, h => by
    show ((markA l A).setIfInBounds y.i true).getD x.i true = true
    by_cases hi : y.i = x.i
    · rw [hi]
      rcases Nat.lt_or_ge x.i (markA l A).size with h' | h'
      · simp [h']
      · simp [h']
    · rw [getD_set_ne true hi]
      rcases List.mem_cons.1 h with rfl | h
      · exact absurd rfl hi
      · exact markA_in l A h
theorem markA_more (l : Array Bool) {j : Nat} {A C : List NewV} (hs : ∀ x ∈ A, x ∈ C) (h : (markA l A).getD j false = true) : (markA l C).getD j false = true := by
  have hlt : j < l.size := by
    rw [← markA_size l A]
    rcases Nat.lt_or_ge j (markA l A).size with h' | h'
    · exact h'
    · simp [Array.getElem?_eq_none h'] at h
  by_cases hm : ∃ x ∈ C, x.i = j
  · obtain ⟨x, hx, rfl⟩ := hm
    have h2 := markA_in l C hx
    have h3 : x.i < (markA l C).size := by rw [markA_size]; exact hlt
    simp [h3] at h2 ⊢
    exact h2
  · have hn : ∀ x ∈ C, x.i ≠ j := fun x hx e => hm ⟨x, hx, e⟩
    rw [markA_un l j C hn false]
    rwa [markA_un l j A (fun x hx => hn x (hs x hx)) false] at h

theorem putD_cons (a : Act) (x : NewV × Nat) (D : List (NewV × Nat)) : putD a (x :: D) = (putD a D).put (some x.1.d) (.pointer (some ⟨x.2, 0, none⟩)) := rfl
section
variable {P : Program} {ops : Array Oper} {Q : Exit → Act → World → Prop} {md : Region.Mode} {S : World → Prop}
theorem ready_markA {j : Nat} {l : Array Bool} (hj : j ∈ Region.ready md ops l) : ∀ A : List NewV, (∀ x ∈ A, x.i ≠ j) → j ∈ Region.ready md ops (markA l A)
  | [], _ => hj
  | x :: A, h => ready_mono (ready_markA hj A fun y hy => h y (List.mem_cons_of_mem _ hy)) (Ne.symm (h x (List.mem_cons_self ..)))
/-- What may come up is a new variable that is not made yet, or may come up when all are made. -/
theorem ready_sub {j : Nat} {l : Array Bool} {al pend : List NewV} {A : List NewV} (hp : (A ++ pend).Perm al) (hj : j ∈ Region.ready md ops (markA l A)) :
    (∃ x ∈ pend, x.i = j) ∨ j ∈ Region.ready md ops (markA l al) := by
  by_cases hm : ∃ x ∈ pend, x.i = j
  · exact .inl hm
  · right
    obtain ⟨h0, o, ho, hall⟩ := mem_ready.1 hj
    have hA : ∀ x ∈ A, x.i ≠ j := fun x hx e => by
      have h1 := markA_in l A hx
      rw [e, h0] at h1; cases h1
    have hal : ∀ x ∈ al, x.i ≠ j := fun x hx e => by
      rcases List.mem_append.1 (hp.symm.subset hx) with h | h
      · exact hA x h e
      · exact hm ⟨x, h, e⟩
    refine mem_ready.2 ⟨?_, o, ho, fun e he hb => markA_more l (fun x hx => hp.subset (List.mem_append_left _ hx)) (hall e he hb)⟩
    rw [markA_un l j al hal true, ← markA_un l j A hA true]
    exact h0
/-- Whatever new variables are made already, and wherever they lie. -/
def wpMix (P : Program) (md : Region.Mode) (ops : Array Oper) (Q : Exit → Act → World → Prop) (S : World → Prop) (B : Nat) (al : List NewV) (fuel : Nat) (listed : Array Bool) (a : Act) : Prop :=
  ∀ D pend, (D.map (·.1) ++ pend).Perm al → ∀ w, S w → B ≤ w.heap.size → HoldD B w D → wpAnyH P md ops Q S (fuel + pend.length) (markD listed D) (putD a D) w
theorem mix_start {B : Nat} {al : List NewV} {fuel n : Nat} {listed : Array Bool} {a : Act} {w : World} (hn : n = fuel + al.length) (hS : S w) (hB : B ≤ w.heap.size)
    (h : wpMix P md ops Q S B al fuel listed a) : wpAnyH P md ops Q S n listed a w := by
  subst hn
  exact h [] al (List.Perm.refl _) w hS hB ⟨fun _ h => (by cases h), fun _ h => (by cases h), List.nodup_nil⟩
/-- A new variable comes up. -/
def MakesV (P : Program) (ops : Array Oper) (x : NewV) : Prop :=
  ∀ (Q : Exit → Act → World → Prop) (K : Act → World → Prop) (a : Act) (w : World), K (a.put (some x.d) (.pointer (some ⟨w.heap.size, 0, none⟩))) (w.alloc (.cells x.z x.ty)) → wpOp P ops Q x.i K a w
theorem mix_new {B : Nat} {al pend : List NewV} {fuel n : Nat} {listed : Array Bool} {a : Act} {D : List (NewV × Nat)} {w : World} {x : NewV} (hm : MakesV P ops x) (hx : x ∈ pend) (hl : pend.length = n + 1)
    (hp : (D.map (·.1) ++ pend).Perm al) (hSa : S (w.alloc (.cells x.z x.ty))) (hB : B ≤ w.heap.size) (hh : HoldD B w D)
    (ih : ∀ (D : List (NewV × Nat)) (pend : List NewV) (w : World), pend.length = n → (D.map (·.1) ++ pend).Perm al → S w → B ≤ w.heap.size → HoldD B w D → wpAnyH P md ops Q S (fuel + n) (markD listed D) (putD a D) w) :
    wpOp P ops Q x.i (fun a' w' => S w' ∧ wpAnyH P md ops Q S (fuel + n) ((markD listed D).setIfInBounds x.i true) a' w') (putD a D) w := by
  obtain ⟨s, t, rfl⟩ := List.append_of_mem hx
  refine hm Q _ _ _ ⟨hSa, ?_⟩
  refine ih ((x, w.heap.size) :: D) (s ++ t) _ ?_ ?_ hSa ?_ (hh.more hB x)
  · simp only [List.length_append, List.length_cons] at hl ⊢; omega
  · refine List.Perm.trans ?_ hp
    show (x :: (D.map (·.1) ++ (s ++ t))).Perm _
    have h1 : (D.map (·.1) ++ (s ++ x :: t)).Perm (x :: (D.map (·.1) ++ (s ++ t))) := by
      rw [← List.append_assoc, ← List.append_assoc]
      exact List.perm_middle
    exact h1.symm
  · simp; omega
theorem wpH_next {fuel : Nat} {listed : Array Bool} {a : Act} {w : World} (hne : Region.ready md ops listed ≠ [])
    (h : ∀ i ∈ Region.ready md ops listed, wpOp P ops Q i (fun a' w' => S w' ∧ wpAnyH P md ops Q S fuel (listed.setIfInBounds i true) a' w') a w) : wpAnyH P md ops Q S (fuel + 1) listed a w :=
  ⟨fun h0 => absurd h0 hne, h⟩
theorem wp_put_one {o : Oper} {a : Act} {w : World} {d : Nat} {v : Value} {K K' : Act → World → Prop} (hl : d ∉ o.looksAt ops) (hsel : ∀ cs b, o.op ≠ .select cs b) (hd : o.dst ≠ some d)
    (hQ : ∀ x a w, Q (.panic x) a w → Q (.panic x) (a.put (some d) v) w) (hK : ∀ a1 w1, K a1 w1 → K' (a1.put (some d) v) w1)
    (h : if Region.wanted o (yielded ops a.tmps) = true then Oper.wp P o a w K Q else K (a.put o.dst undef) w) :
    if Region.wanted o (yielded ops (a.put (some d) v).tmps) = true then Oper.wp P o (a.put (some d) v) w K' Q else K' ((a.put (some d) v).put o.dst undef) w := by
  have h1 : ∀ e, some d = some e → e ∉ o.looksAt ops := fun e he => by injection he with he; exact he ▸ hl
  have h2 : ∀ e, (some d : Option Tmp) = some e → o.dst ≠ some e := fun e he => by injection he with he; exact he ▸ hd
  rw [wanted_put o a (some d) v h1]
  split
  · rename_i hw
    rw [if_pos hw] at h
    unfold Oper.wp at *
    rw [execOp_put o hsel a (some d) v h1]
    generalize (execOp a.eval o).run P w = r at *
    cases r with
    | ok n w' =>
      cases n <;> simp only [Oper.upon] at h ⊢
      case value u => rw [Act.put_comm a v u h2]; exact hK _ _ h
      case skip => rw [Act.put_comm a v undef h2]; exact hK _ _ h
      case defer e =>
        rw [Act.put_defers, Act.put_comm _ v undef h2]
        exact hK _ _ h
      case enter f args =>
        refine Calls.mono h fun e w'' he => ?_
        cases e with
        | returned u => show K' _ _; rw [Act.put_comm a v u h2]; exact hK _ _ he
        | panicked c => exact hQ _ _ _ he
        | outgrown => exact he
      case row row args => exact Rows.mono h fun u w'' he => by rw [Act.put_comm a v u h2]; exact hK _ _ he
    | halt x w' =>
      cases x <;> simp only [Oper.upon] at h ⊢
      case panic u => exact hQ _ _ _ h
  · rename_i hw
    rw [if_neg hw] at h
    rw [Act.put_comm a v undef h2]
    exact hK _ _ h
/-- An operation and the slots of the new variables do not touch. -/
def apartV (ops : Array Oper) (al : List NewV) (o : Oper) : Bool := al.all fun x => !(o.looksAt ops).contains x.d && o.dst != some x.d
theorem wp_put_all {o : Oper} {w : World} (hsel : ∀ cs b, o.op ≠ .select cs b) (hQ : ∀ d v x a w, Q (.panic x) a w → Q (.panic x) (a.put (some d) v) w) :
    ∀ (D : List (NewV × Nat)) (a : Act) (K K' : Act → World → Prop), (∀ x ∈ D, x.1.d ∉ o.looksAt ops ∧ o.dst ≠ some x.1.d) → (∀ a1 w1, K a1 w1 → K' (putD a1 D) w1) →
      (if Region.wanted o (yielded ops a.tmps) = true then Oper.wp P o a w K Q else K (a.put o.dst undef) w) →
      if Region.wanted o (yielded ops (putD a D).tmps) = true then Oper.wp P o (putD a D) w K' Q else K' ((putD a D).put o.dst undef) w
  | [], a, K, K', _, hK, h => by
    have e : K = K ∧ ∀ a1 w1, K a1 w1 → K' a1 w1 := ⟨rfl, hK⟩
    show if Region.wanted o (yielded ops a.tmps) = true then Oper.wp P o a w K' Q else K' (a.put o.dst undef) w
    split
    · rename_i hw; rw [if_pos hw] at h; exact Oper.wp_mono e.2 h
    · rename_i hw; rw [if_neg hw] at h; exact e.2 _ _ h
  | x :: D, a, K, K', hap, hK, h => by
    have h1 := hap x (List.mem_cons_self ..)
    exact wp_put_one (K := fun a1 w1 => ∃ a2, K a2 w1 ∧ a1 = putD a2 D) h1.1 hsel h1.2 (hQ x.1.d _) (fun a1 w1 ⟨a2, hk, e⟩ => by subst e; exact hK a2 w1 hk)
      (wp_put_all hsel hQ D a K _ (fun y hy => hap y (List.mem_cons_of_mem _ hy)) (fun a1 w1 hk => ⟨a1, hk, rfl⟩) h)
/-- The next call of the chain. -/
theorem mix_call {B : Nat} {al : List NewV} {fuel : Nat} {listed : Array Bool} {a : Act} {i : Nat} {o : Oper} (ho : ops[i]? = some o) (hs : Region.noSelect ops = true) (hap : apartV ops al o = true)
    (hr : Region.ready md ops (markA listed al) = [i]) (hin : (Region.ready md ops listed).contains i = true) (hm : ∀ x ∈ al, MakesV P ops x) (hSa : ∀ w, ∀ x ∈ al, S w → S (w.alloc (.cells x.z x.ty)))
    (hQ : ∀ d v x a w, Q (.panic x) a w → Q (.panic x) (a.put (some d) v) w)
    (h : ∀ w, S w → B ≤ w.heap.size → ∀ K : Act → World → Prop, Shut (∀ v w', S w' → Below w.heap.size w w' → wpMix P md ops Q S B al fuel (listed.setIfInBounds i true) (a.put o.dst v) → K (a.put o.dst v) w') →
      if Region.wanted o (yielded ops a.tmps) = true then Oper.wp P o a w K Q else K (a.put o.dst undef) w) : wpMix P md ops Q S B al (fuel + 1) listed a := by
  have hin' : i ∈ Region.ready md ops listed := by simpa using hin
  have hni : ∀ x ∈ al, x.i ≠ i := fun x hx e => by
    have h1 : i ∈ Region.ready md ops (markA listed al) := by rw [hr]; exact List.mem_singleton.2 rfl
    have h2 := (mem_ready.1 h1).1
    rw [← e, markA_in listed al hx] at h2
    cases h2
  suffices hall : ∀ (n : Nat) (D : List (NewV × Nat)) (pend : List NewV) (w : World), pend.length = n → (D.map (·.1) ++ pend).Perm al → S w → B ≤ w.heap.size → HoldD B w D → wpAnyH P md ops Q S (fuel + 1 + n) (markD listed D) (putD a D) w by
    intro D pend hp w hS hB hh
    exact hall pend.length D pend w rfl hp hS hB hh
  intro n
  induction n with
  | zero =>
    intro D pend w hl hp hS hB hh
    have hap' : ∀ x ∈ D, x.1.d ∉ o.looksAt ops ∧ o.dst ≠ some x.1.d := fun x hx => by
      have h1 := List.all_eq_true.1 hap x.1 (hp.subset (List.mem_append_left _ (List.mem_map.2 ⟨x, hx, rfl⟩)))
      simpa using h1
    have hDal : ∀ x ∈ D.map (·.1), x ∈ al := fun x hx => hp.subset (List.mem_append_left _ hx)
    refine wpH_next (fun h0 => ?_) fun j hj => ?_
    · have := ready_markA hin' (D.map (·.1)) (fun x hx => hni x (hDal x hx))
      rw [← markD_A, h0] at this; cases this
    · rw [markD_A] at hj
      rcases ready_sub hp hj with ⟨x, hx, _⟩ | hj2
      · rw [List.eq_nil_of_length_eq_zero hl] at hx; cases hx
      · rw [hr] at hj2
        obtain rfl := List.mem_singleton.1 hj2
        refine wpOp_step ho fun K' hK => ?_
        refine wp_put_all (K := fun a' w' => ∃ v, a' = a.put o.dst v ∧ S w' ∧ Below w.heap.size w w' ∧ wpMix P md ops Q S B al fuel (listed.setIfInBounds j true) (a.put o.dst v)) (Region.noSelect_spec hs j o · · ho) hQ D a _ hap' ?_ (h w hS hB _ fun v w' h1 h2 h3 => ⟨v, rfl, h1, h2, h3⟩)
        rintro a1 w1 ⟨v, rfl, hS1, hb1, hM⟩
        refine hK _ _ ⟨hS1, ?_⟩
        have := hM D pend hp w1 hS1 (Nat.le_trans hB hb1.size) (hh.next hb1)
        rwa [hl, markD_set] at this
  | succ n ih =>
    intro D pend w hl hp hS hB hh
    have hap' : ∀ x ∈ D, x.1.d ∉ o.looksAt ops ∧ o.dst ≠ some x.1.d := fun x hx => by
      have h1 := List.all_eq_true.1 hap x.1 (hp.subset (List.mem_append_left _ (List.mem_map.2 ⟨x, hx, rfl⟩)))
      simpa using h1
    have hDal : ∀ x ∈ D.map (·.1), x ∈ al := fun x hx => hp.subset (List.mem_append_left _ hx)
    refine wpH_next (fun h0 => ?_) fun j hj => ?_
    · have := ready_markA hin' (D.map (·.1)) (fun x hx => hni x (hDal x hx))
      rw [← markD_A, h0] at this; cases this
    · rw [markD_A] at hj
      rcases ready_sub hp hj with ⟨x, hx, rfl⟩ | hj2
      · have hxa : x ∈ al := hp.subset (List.mem_append_right _ hx)
        exact mix_new (fuel := fuel + 1) (hm x hxa) hx hl hp (hSa w x hxa hS) hB hh ih
      · rw [hr] at hj2
        obtain rfl := List.mem_singleton.1 hj2
        refine wpOp_step ho fun K' hK => ?_
        refine wp_put_all (K := fun a' w' => ∃ v, a' = a.put o.dst v ∧ S w' ∧ Below w.heap.size w w' ∧ wpMix P md ops Q S B al fuel (listed.setIfInBounds j true) (a.put o.dst v)) (Region.noSelect_spec hs j o · · ho) hQ D a _ hap' ?_ (h w hS hB _ fun v w' h1 h2 h3 => ⟨v, rfl, h1, h2, h3⟩)
        rintro a1 w1 ⟨v, rfl, hS1, hb1, hM⟩
        refine hK _ _ ⟨hS1, ?_⟩
        have := hM D pend hp w1 hS1 (Nat.le_trans hB hb1.size) (hh.next hb1)
        rw [hl, markD_set] at this
        have e : (fuel + 1).add n = fuel + (n + 1) := by show fuel + 1 + n = _; omega
        rw [e]
        exact this
/-- A list whose names are a turn of another: turned alike. -/
theorem turn_back {α β : Type} {f : α → β} {l1 l2 : List β} (hp : l1.Perm l2) : ∀ D : List α, D.map f = l1 → ∃ D' : List α, D'.Perm D ∧ D'.map f = l2 := by
  induction hp with
  | nil => exact fun D hD => ⟨D, List.Perm.refl _, hD⟩
  | cons x _ ih =>
    intro D hD
    match D, hD with
    | d :: D1, hD =>
      simp only [List.map_cons, List.cons.injEq] at hD
      obtain ⟨D2, h1, h2⟩ := ih D1 hD.2
      exact ⟨d :: D2, h1.cons d, by rw [List.map_cons, hD.1, h2]⟩
  | swap x y l =>
    intro D hD
    match D, hD with
    | d :: e :: D1, hD =>
      simp only [List.map_cons, List.cons.injEq] at hD
      exact ⟨e :: d :: D1, List.Perm.swap _ _ _, by rw [List.map_cons, List.map_cons, hD.1, hD.2.1, hD.2.2]⟩
  | trans _ _ ih1 ih2 =>
    intro D hD
    obtain ⟨D1, h1, h2⟩ := ih1 D hD
    obtain ⟨D2, h3, h4⟩ := ih2 D1 h2
    exact ⟨D2, h3.trans h1, h4⟩
theorem putD_perm {D D' : List (NewV × Nat)} (hp : D.Perm D') : ∀ a : Act, (D.map (·.1.d)).Nodup → putD a D = putD a D' := by
  induction hp with
  | nil => exact fun _ _ => rfl
  | cons x _ ih =>
    intro a hn
    rw [putD_cons, putD_cons, ih a (List.nodup_cons.1 hn).2]
  | swap x y l =>
    intro a hn
    rw [putD_cons, putD_cons, putD_cons, putD_cons]
    refine Act.put_comm _ _ _ fun d hd => ?_
    simp only [List.map_cons, List.nodup_cons, List.mem_cons] at hn
    injection hd with hd
    intro he
    injection he with he
    exact hn.1 (.inl (by omega))
  | trans h1 _ ih1 ih2 =>
    intro a hn
    rw [ih1 a hn, ih2 a ((h1.map _).nodup_iff.1 hn)]
theorem markD_perm {D D' : List (NewV × Nat)} (hp : D.Perm D') : ∀ l : Array Bool, markD l D = markD l D' := by
  induction hp with
  | nil => exact fun _ => rfl
  | cons x _ ih =>
    intro l
    show (markD l _).setIfInBounds _ _ = (markD l _).setIfInBounds _ _
    rw [ih l]
  | swap x y t => intro l; exact set_comm _ _ _
  | trans _ _ ih1 ih2 => intro l; rw [ih1 l, ih2 l]
/-- All are made: the stores wait for each of them. -/
theorem mix_end {B : Nat} {al : List NewV} {fuel : Nat} {listed : Array Bool} {a : Act} (hr : ((Region.ready md ops (markA listed al)).all fun j => al.all fun x => Region.waitsFor md ops j x.i) = true)
    (hin : (al.all fun x => (Region.ready md ops listed).contains x.i) = true) (hnd : (al.map (·.i)).Nodup) (hnd2 : (al.map (·.d)).Nodup) (hm : ∀ x ∈ al, MakesV P ops x) (hSa : ∀ w, ∀ x ∈ al, S w → S (w.alloc (.cells x.z x.ty)))
    (h : ∀ D : List (NewV × Nat), D.map (·.1) = al → ∀ w, S w → B ≤ w.heap.size → HoldD B w D → wpAnyH P md ops Q S fuel (markD listed D) (putD a D) w) : wpMix P md ops Q S B al fuel listed a := by
  have hin' : ∀ x ∈ al, x.i ∈ Region.ready md ops listed := fun x hx => by
    have := List.all_eq_true.1 hin x hx
    simpa using this
  suffices hall : ∀ (n : Nat) (D : List (NewV × Nat)) (pend : List NewV) (w : World), pend.length = n → (D.map (·.1) ++ pend).Perm al → S w → B ≤ w.heap.size → HoldD B w D → wpAnyH P md ops Q S (fuel + n) (markD listed D) (putD a D) w by
    intro D pend hp w hS hB hh
    exact hall pend.length D pend w rfl hp hS hB hh
  intro n
  induction n with
  | zero =>
    intro D pend w hl hp hS hB hh
    rw [List.eq_nil_of_length_eq_zero hl, List.append_nil] at hp
    obtain ⟨D', h1, h2⟩ := turn_back hp D rfl
    have h3 : (D'.map (·.1.d)).Nodup := by
      have : D'.map (·.1.d) = (D'.map (·.1)).map (·.d) := by rw [List.map_map]; rfl
      rw [this, h2]; exact hnd2
    rw [← markD_perm h1, ← putD_perm h1 a h3]
    refine h D' h2 w hS hB ⟨fun x hx => hh.row x (h1.subset hx), fun x hx => hh.new x (h1.subset hx), (h1.map _).nodup_iff.2 hh.nodup⟩
  | succ n ih =>
    intro D pend w hl hp hS hB hh
    have hnd3 : ((D.map (·.1) ++ pend).map (·.i)).Nodup := (hp.map _).nodup_iff.2 hnd
    have hapart : ∀ x ∈ pend, ∀ y ∈ D.map (·.1), y.i ≠ x.i := fun x hx y hy e => by
      rw [List.map_append, List.nodup_append] at hnd3
      exact hnd3.2.2 y.i (List.mem_map.2 ⟨y, hy, rfl⟩) x.i (List.mem_map.2 ⟨x, hx, rfl⟩) e
    obtain ⟨x0, hx0⟩ : ∃ x, x ∈ pend := by
      cases pend with
      | nil => simp at hl
      | cons x t => exact ⟨x, List.mem_cons_self ..⟩
    have hready : ∀ x ∈ pend, x.i ∈ Region.ready md ops (markD listed D) := fun x hx => by
      rw [markD_A]
      exact ready_markA (hin' x (hp.subset (List.mem_append_right _ hx))) _ (hapart x hx)
    refine wpH_next (fun h0 => ?_) fun j hj => ?_
    · have := hready x0 hx0
      rw [h0] at this; cases this
    · have hj' := hj
      rw [markD_A] at hj
      rcases ready_sub hp hj with ⟨x, hx, rfl⟩ | hj2
      · have hxa : x ∈ al := hp.subset (List.mem_append_right _ hx)
        exact mix_new (hm x hxa) hx hl hp (hSa w x hxa hS) hB hh ih
      · exfalso
        have h1 := List.all_eq_true.1 hr j hj2
        have h2 := List.all_eq_true.1 h1 x0 (hp.subset (List.mem_append_right _ hx0))
        obtain ⟨oj, hoj, e, he, hb, hon⟩ := Region.waitsFor_spec h2
        obtain ⟨_, o, ho, hall⟩ := mem_ready.1 hj'
        obtain rfl := Option.some.inj (hoj.symm.trans ho)
        have h3 := hall e he hb
        rw [hon, getD_two (mem_ready.1 (hready x0 hx0)).1] at h3
        cases h3
end
theorem markA_back (l : Array Bool) {j : Nat} : ∀ A : List NewV, (markA l A).getD j true = false → l.getD j true = false
  | [], h => h
  | x :: A, h => by
    have h1 : ((markA l A).setIfInBounds x.i true).getD j true = false := h
    by_cases hi : x.i = j
    · subst hi
      rcases Nat.lt_or_ge x.i (markA l A).size with h' | h'
      · simp [h'] at h1
      · simp [h'] at h1
    · rw [getD_set_ne true hi] at h1
      exact markA_back l A h1
section
variable {P : Program} {ops : Array Oper} {Q : Exit → Act → World → Prop} {md : Region.Mode} {S : World → Prop}
theorem yields_putD {o : Oper} {v : Value} (hsel : ∀ cs b, o.op ≠ .select cs b) : ∀ (D : List (NewV × Nat)) (a : Act), (∀ x ∈ D, x.1.d ∉ o.looksAt ops ∧ o.dst ≠ some x.1.d) → YieldsIf P ops S o v a → YieldsIf P ops S o v (putD a D)
  | [], _, _, h => h
  | x :: D, a, hap, h => by
    have h1 := (hap x (List.mem_cons_self ..)).1
    have h2 : ∀ e, some x.1.d = some e → e ∉ o.looksAt ops := fun e he => by injection he with he; exact he ▸ h1
    exact (yields_putD hsel D a (fun y hy => hap y (List.mem_cons_of_mem _ hy)) h).of_same (execOp_put o hsel _ _ _ h2) (wanted_put o _ _ _ h2)
theorem putD_put {o : Oper} {v : Value} : ∀ (D : List (NewV × Nat)) (a : Act), (∀ x ∈ D, x.1.d ∉ o.looksAt ops ∧ o.dst ≠ some x.1.d) → (putD a D).put o.dst v = putD (a.put o.dst v) D
  | [], _, _ => rfl
  | x :: D, a, hap => by
    have h1 := (hap x (List.mem_cons_self ..)).2
    rw [putD_cons, putD_cons, ← putD_put D a (fun y hy => hap y (List.mem_cons_of_mem _ hy))]
    exact Act.put_comm _ _ _ fun d hd => by injection hd with hd; exact hd ▸ h1
/-- An operation that yields in every world that meets S is taken first, new variables pending. -/
theorem mix_take {B : Nat} {al : List NewV} {fuel : Nat} {listed : Array Bool} {a : Act} {i : Nat} {o : Oper} {v : Value} (ho : ops[i]? = some o) (hs : Region.noSelect ops = true) (hap : apartV ops al o = true)
    (hf : Region.free md ops listed i = true) (hin : (Region.ready md ops listed).contains i = true) (hni : (al.all fun x => x.i != i) = true) (hQ : ∀ c a w, Q (.panic c) (a.put o.dst v) w → Q (.panic c) a w) (hy : YieldsIf P ops S o v a)
    (h : wpMix P md ops Q S B al fuel (listed.setIfInBounds i true) (a.put o.dst v)) : wpMix P md ops Q S B al (fuel + 1) listed a := by
  intro D pend hp w hS hB hh
  have hDal : ∀ x ∈ D.map (·.1), x ∈ al := fun x hx => hp.subset (List.mem_append_left _ hx)
  have hap' : ∀ x ∈ D, x.1.d ∉ o.looksAt ops ∧ o.dst ≠ some x.1.d := fun x hx => by
    have h1 := List.all_eq_true.1 hap x.1 (hDal _ (List.mem_map.2 ⟨x, hx, rfl⟩))
    simpa using h1
  have hni' : ∀ x ∈ D.map (·.1), x.i ≠ i := fun x hx => by
    have h1 := List.all_eq_true.1 hni x (hDal x hx)
    simpa using h1
  have hfree := Region.free_spec ho hf
  have e : fuel + 1 + pend.length = (fuel + pend.length) + 1 := by omega
  rw [e]
  refine wpAnyH_first ho (Region.noSelect_spec hs) hQ _ _ _ _ (fun j oj hj hji hun hno => hfree j oj hj hji ?_ hno) ?_ (yields_putD (fun cs b => Region.noSelect_spec hs i o cs b ho) D a hap' hy) hS ?_
  · rw [markD_A] at hun
    exact markA_back listed _ hun
  · rw [markD_A]
    exact ready_markA (by simpa using hin) _ hni'
  · rw [← markD_set, putD_put D a hap']
    exact h D pend hp w hS hB hh
end
theorem v_two {D : List (NewV × Nat)} {x y : NewV} (h : D.map (·.1) = [x, y]) : ∃ g1 g2, D = [(x, g1), (y, g2)] := by
  match D, h with
  | [(a, g1), (b, g2)], h =>
    simp only [List.map_cons, List.map_nil, List.cons.injEq, and_true] at h
    obtain ⟨rfl, rfl⟩ := h
    exact ⟨g1, g2, rfl⟩
theorem v_one {D : List (NewV × Nat)} {x : NewV} (h : D.map (·.1) = [x]) : ∃ g1, D = [(x, g1)] := by
  match D, h with
  | [(a, g1)], h =>
    simp only [List.map_cons, List.map_nil, List.cons.injEq, and_true] at h
    obtain rfl := h
    exact ⟨g1, rfl⟩
theorem v_three {D : List (NewV × Nat)} {x y z : NewV} (h : D.map (·.1) = [x, y, z]) : ∃ g1 g2 g3, D = [(x, g1), (y, g2), (z, g3)] := by
  match D, h with
  | [(a, g1), (b, g2), (c, g3)], h =>
    simp only [List.map_cons, List.map_nil, List.cons.injEq, and_true] at h
    obtain ⟨rfl, rfl, rfl⟩ := h
    exact ⟨g1, g2, g3, rfl⟩
theorem v_four {D : List (NewV × Nat)} {x y z u : NewV} (h : D.map (·.1) = [x, y, z, u]) : ∃ g1 g2 g3 g4, D = [(x, g1), (y, g2), (z, g3), (u, g4)] := by
  match D, h with
  | [(a, g1), (b, g2), (c, g3), (d, g4)], h =>
    simp only [List.map_cons, List.map_nil, List.cons.injEq, and_true] at h
    obtain ⟨rfl, rfl, rfl, rfl⟩ := h
    exact ⟨g1, g2, g3, g4, rfl⟩
/-- The operation that makes a new variable. -/
theorem makes_new {P : Program} {ops : Array Oper} {i d : Nat} {ty : TypeId} {z : List Value} {o : Oper} (ho : ops[i]? = some o) (hop : o.op = .alloc ty) (hd : o.dst = some d) (hg : o.guard = none)
    (hz : ∀ w, (zeroValue ty).run P w = .ok (.agg z.toArray) w) : MakesV P ops ⟨i, d, ty, z.toArray⟩ := by
  intro Q K a w h
  unfold wpOp
  simp only [ho]
  have hw : Region.wanted o (yielded ops a.tmps) = true := by simp [Region.wanted, hg]
  rw [if_pos hw]
  refine .inl ?_
  unfold Oper.wp
  simp [execOp, hop, Instr.alloc, hz, newVar, newRow, Value.cells]
  rw [Oper.upon_value, hd]
  exact h
end Go.Proofs.Ytabgkkdgamacnaa
namespace Go.Proofs.Ytabgkkdgamacnaa
open Go.RowKit

theorem range_row {w : World} {g : Nat} {l : List Value} {t : TypeId} (hg : w.heap[g]? = some (.cells l.toArray t (0, 0))) : w.rangeAt g 0 l := by
  intro j v hj
  rw [Nat.zero_add, cell_of_row _ _ _ _ _ _ hg]
  simpa using hj
theorem bv_size (l : List UInt8) (h : l.length = 32) : (bv l).toArray.size = 32 := by simp [bv_len, h]
/-- An array built out of known parts, in a region that draws its order. -/
theorem yields_build {P : Program} {ops : Array Oper} {S : World → Prop} {op : Oper} {a : Act} (hw : Region.wanted op (yielded ops a.tmps) = true) (ty : TypeId) (parts : Array (Nat × Operand)) (ho : op.op = .build ty parts)
    (lst : List (Nat × Value)) (hp : (parts.toList.map fun (i, x) => (i, a.eval x)) = lst) (cs : Array Value) (hf : P.built ty lst = some cs) : YieldsIf P ops S op (.agg cs) a :=
  .inl ⟨hw, fun w _ => by
    have h := run_build (P := P) w ty (parts.map fun (i, x) => (i, a.eval x)) cs (by rw [Array.toList_map, hp]; exact hf)
    unfold execOp
    simp [ho, h, Result.andThen]⟩
end Go.Proofs.Ytabgkkdgamacnaa
namespace Go.Proofs.Ytabgkkdgamacnaa
open Go.RowKit

theorem Ed.cells_len {e : Ed} (h : e.seen.length = 8) : e.cells.length = 15 := by simp [Ed.cells, i64v_len, h]
theorem Ed.cells_size {e : Ed} (h : e.seen.length = 8) : e.cells.toArray.size = 15 := by rw [List.size_toArray, Ed.cells_len h]
theorem Ed.cells_one (e : Ed) : ∀ v ∈ e.cells, v.oneCell' = true := by
  intro v hv
  simp only [Ed.cells, List.mem_append, List.mem_cons, List.not_mem_nil, or_false] at hv
  rcases hv with (rfl | rfl) | h | rfl | rfl | rfl | rfl | rfl
  any_goals rfl
  exact i64v_one _ v h
theorem Ed.cells_tail {e : Ed} (h : e.seen.length = 8) (k : Nat) : e.cells[10 + k]? = [Value.int .i64 e.kind, .string e.con, .string e.fld, .string e.val, .int .i64 e.time][k]? := by
  rw [Ed.cells, List.getElem?_append_right (by simp; omega), List.getElem?_append_right (by simp [i64v_len, h]; omega)]
  simp only [List.length_cons, List.length_nil, i64v_len, h]
  congr 1; omega
theorem Ed.cell_kind {e : Ed} (h : e.seen.length = 8) : e.cells.toArray[10]? = some (Value.int .i64 e.kind) := by rw [List.getElem?_toArray]; exact Ed.cells_tail h 0
theorem Ed.cell_con {e : Ed} (h : e.seen.length = 8) : e.cells.toArray[11]? = some (Value.string e.con) := by rw [List.getElem?_toArray]; exact Ed.cells_tail h 1
theorem Ed.cell_fld {e : Ed} (h : e.seen.length = 8) : e.cells.toArray[12]? = some (Value.string e.fld) := by rw [List.getElem?_toArray]; exact Ed.cells_tail h 2
theorem Ed.cell_val {e : Ed} (h : e.seen.length = 8) : e.cells.toArray[13]? = some (Value.string e.val) := by rw [List.getElem?_toArray]; exact Ed.cells_tail h 3
theorem Ed.cell_time {e : Ed} (h : e.seen.length = 8) : e.cells.toArray[14]? = some (Value.int .i64 e.time) := by rw [List.getElem?_toArray]; exact Ed.cells_tail h 4
section
variable {w : World} {g : Nat} {T : TypeId} {e : Ed}
theorem ed_dev (h : Hid (w.heap[g]? = some (.cells e.cells.toArray T (0, 0)))) : w.cell? ⟨g, 0, none⟩ = some (.int .i64 e.dev) := by rw [cell_of_row _ _ _ _ _ _ h.out]; rfl
theorem ed_num (h : Hid (w.heap[g]? = some (.cells e.cells.toArray T (0, 0)))) : w.cell? ⟨g, 1, none⟩ = some (.int .i64 e.num) := by rw [cell_of_row _ _ _ _ _ _ h.out]; rfl
theorem ed_seen (h : Hid (w.heap[g]? = some (.cells e.cells.toArray T (0, 0)))) (k : Nat) (hk : k < e.seen.length) : w.cell? ⟨g, 2 + k, none⟩ = some (.int .i64 (iat e.seen k)) := by
  rw [cell_of_row _ _ _ _ _ _ h.out, List.getElem?_toArray, Ed.cells, List.getElem?_append_right (by simp), List.getElem?_append_left (by simp [i64v_len]; omega)]
  simp only [List.length_cons, List.length_nil]
  rw [show 2 + k - (0 + 1 + 1) = k by omega, i64v_at, iat_at hk]; rfl
theorem ed_kind (h : Hid (w.heap[g]? = some (.cells e.cells.toArray T (0, 0)))) (hl : e.seen.length = 8) : w.cell? ⟨g, 10, none⟩ = some (.int .i64 e.kind) := by rw [cell_of_row _ _ _ _ _ _ h.out]; exact Ed.cell_kind hl
theorem ed_con (h : Hid (w.heap[g]? = some (.cells e.cells.toArray T (0, 0)))) (hl : e.seen.length = 8) : w.cell? ⟨g, 11, none⟩ = some (.string e.con) := by rw [cell_of_row _ _ _ _ _ _ h.out]; exact Ed.cell_con hl
theorem ed_fld (h : Hid (w.heap[g]? = some (.cells e.cells.toArray T (0, 0)))) (hl : e.seen.length = 8) : w.cell? ⟨g, 12, none⟩ = some (.string e.fld) := by rw [cell_of_row _ _ _ _ _ _ h.out]; exact Ed.cell_fld hl
theorem ed_val (h : Hid (w.heap[g]? = some (.cells e.cells.toArray T (0, 0)))) (hl : e.seen.length = 8) : w.cell? ⟨g, 13, none⟩ = some (.string e.val) := by rw [cell_of_row _ _ _ _ _ _ h.out]; exact Ed.cell_val hl
theorem ed_time (h : Hid (w.heap[g]? = some (.cells e.cells.toArray T (0, 0)))) (hl : e.seen.length = 8) : w.cell? ⟨g, 14, none⟩ = some (.int .i64 e.time) := by rw [cell_of_row _ _ _ _ _ _ h.out]; exact Ed.cell_time hl
/-- Its dot, its vector, whole, as pieces of the row. -/
theorem ed_dotR (h : Hid (w.heap[g]? = some (.cells e.cells.toArray T (0, 0)))) : w.rangeAt g 0 [.int .i64 e.dev, .int .i64 e.num] := range_part [] [.int .i64 e.dev, .int .i64 e.num] _ h.out 0 rfl
theorem ed_seenR (h : Hid (w.heap[g]? = some (.cells e.cells.toArray T (0, 0)))) : w.rangeAt g 2 (i64v e.seen) := range_part [.int .i64 e.dev, .int .i64 e.num] (i64v e.seen) _ h.out 2 rfl
theorem ed_allR (h : Hid (w.heap[g]? = some (.cells e.cells.toArray T (0, 0)))) : w.rangeAt g 0 e.cells := range_row h.out
end
/-! Two held equal. -/
theorem eqf_step {P : Program} (w : World) (d : Nat) (xs ys : Array Value) (T : TypeId) (off : Nat) {n1 n2 n3 : String} {em : Bool} {bo : Nat} (fs : List Field) (a b : Value) (r : Bool) (hn : n1 ≠ "_") (ha : (part T xs off).run P w = .ok a w) (hb : (part T ys off).run P w = .ok b w) (hr : (Op.equalIn d T a b).run P w = .ok r w) :
    (Op.eqFields d xs ys (⟨n1, T, off, em, n2, n3, bo⟩ :: fs)).run P w = if r = true then (Op.eqFields d xs ys fs).run P w else .ok false w := by
  simp only [Op.eqFields, if_pos hn, Sem.run_bind, ha, hb, hr, Result.andThen_ok]
  cases r <;> simp
theorem eqf_end {P : Program} (w : World) (d : Nat) (xs ys : Array Value) : (Op.eqFields d xs ys []).run P w = .ok true w := rfl
theorem part_one {P : Program} {t : TypeId} {D : TypeDesc} (ht : P.underlying t = some D) (hD : (match D with | .struct _ | .array _ _ => true | _ => false) = false) (cs : Array Value) (off : Nat) (v : Value) (h : cs[off]? = some v) (w : World) : (part t cs off).run P w = .ok v w := by
  cases D <;> simp_all [part, isAgg, run_underlying ht]
theorem part_all {P : Program} {t : TypeId} {D : TypeDesc} {n : Nat} (ht : P.underlying t = some D) (hD : (match D with | .struct _ | .array _ _ => true | _ => false) = true) (hs : (P.info? t).map (·.size) = some n) (A B C : List Value) (off : Nat) (hA : A.length = off) (hB : B.length = n) (w : World) :
    (part t (A ++ (B ++ C)).toArray off).run P w = .ok (.agg B.toArray) w := by
  obtain ⟨i, hi', hi2⟩ := Option.map_eq_some_iff.1 hs
  have hsz : (sizeOf t).run P w = .ok n w := by simp [sizeOf, typeInfo, hi', hi2]
  have e : (A ++ (B ++ C)).toArray.extract off (off + n) = B.toArray := by
    subst hA hB
    simp [List.extract_toArray, List.extract]
  have ha : (isAgg t).run P w = .ok true w := by
    cases D <;> simp_all [isAgg, run_underlying ht]
  simp only [part, Sem.run_bind, ha, Result.andThen_ok, if_true, hsz, Sem.run_pure, e]
theorem text_beq (a b : ByteArray) : (a.toList == b.toList) = decide (a = b) := by
  rw [ByteArray.toList_eq, ByteArray.toList_eq, Bool.eq_iff_iff, beq_iff_eq, decide_eq_true_iff]
  exact ⟨fun h => ByteArray.ext (Array.toList_inj.1 h), fun h => by rw [h]⟩
section
variable {P : Program} {td ti tn w0 : TypeId}
/-- Dots. -/
theorem eq_dot {w : World} {a b c d : Int} (n : Nat) : (Op.equalIn (n + 2) 24 (.agg #[.int .i64 a, .int .i64 b]) (.agg #[.int .i64 c, .int .i64 d])).run Try.prog w = .ok (decide (a = c ∧ b = d)) w := by
  rw [run_equalIn_struct w (n + 1) 24 _ _ (by kernel_rfl) (by kernel_rfl), Program.fieldsOf]
  simp only [Try.underlying24]
  rw [eqf_step w _ _ _ 3 0 _ (.int .i64 a) (.int .i64 c) (a == c) (by decide) (part_one Try.underlying3 rfl _ _ _ rfl w) (part_one Try.underlying3 rfl _ _ _ rfl w) (run_equalIn_int w n _ .i64 .i64 a c Try.underlying3),
    eqf_step w _ _ _ 2 1 _ (.int .i64 b) (.int .i64 d) (b == d) (by decide) (part_one Try.underlying2 rfl _ _ _ rfl w) (part_one Try.underlying2 rfl _ _ _ rfl w) (run_equalIn_int w n _ .i64 .i64 b d Try.underlying2), eqf_end]
  by_cases h1 : a = c <;> by_cases h2 : b = d <;> simp [h1, h2]
end
theorem res_if (r q : Bool) (w : World) : (if r = true then Result.ok q w else Result.ok false w) = Result.ok (r && q) w := by cases r <;> rfl
theorem same_iff (a b : Ed) : a = b ↔ (a.dev = b.dev ∧ a.num = b.num) ∧ a.seen = b.seen ∧ a.kind = b.kind ∧ a.con = b.con ∧ a.fld = b.fld ∧ a.val = b.val ∧ a.time = b.time :=
  ⟨fun e => by subst e; simp, fun h => Ed.same h.1.1 h.1.2 h.2.1 h.2.2.1 h.2.2.2.1 h.2.2.2.2.1 h.2.2.2.2.2.1 h.2.2.2.2.2.2⟩
theorem eq_edit (n0 : Nat) (a b : Ed) (ha : a.seen.length = 8) (hb : b.seen.length = 8) (w : World) : (Op.equalIn (n0 + 3) 28 (.agg a.cells.toArray) (.agg b.cells.toArray)).run Try.prog w = .ok (decide (a = b)) w := by
  have hd : ∀ (e : Ed), (part 24 e.cells.toArray 0).run Try.prog w = .ok (.agg #[.int .i64 e.dev, .int .i64 e.num]) w := fun e => part_all Try.underlying24 rfl (n := 2) (by kernel_rfl) [] [.int .i64 e.dev, .int .i64 e.num] _ 0 rfl rfl w
  have hv : ∀ (e : Ed), e.seen.length = 8 → (part 26 e.cells.toArray 2).run Try.prog w = .ok (.agg (i64v e.seen).toArray) w := fun e he => part_all Try.underlying26 rfl (n := 8) (by kernel_rfl) [.int .i64 e.dev, .int .i64 e.num] (i64v e.seen) _ 2 rfl (by rw [i64v_len, he]) w
  have hq := eq_ints (P := Try.prog) Try.underlying26 Try.underlying2 Try.sizeI64 a.seen b.seen ha hb n0 w
  rw [run_equalIn_struct w (n0 + 2) 28 _ _ (by kernel_rfl) (by kernel_rfl), Program.fieldsOf]
  simp only [Try.underlying28]
  rw [eqf_step w _ _ _ 24 0 _ _ _ _ (by decide) (hd a) (hd b) (eq_dot n0),
    eqf_step w _ _ _ 26 2 _ _ _ _ (by decide) (hv a ha) (hv b hb) hq,
    eqf_step w _ _ _ 3 10 _ _ _ _ (by decide) (part_one Try.underlying3 rfl a.cells.toArray 10 _ (Ed.cell_kind ha) w) (part_one Try.underlying3 rfl b.cells.toArray 10 _ (Ed.cell_kind hb) w) (run_equalIn_int w (n0 + 1) _ .i64 .i64 a.kind b.kind Try.underlying3),
    eqf_step w _ _ _ 9 11 _ _ _ _ (by decide) (part_one Try.underlying9 rfl a.cells.toArray 11 _ (Ed.cell_con ha) w) (part_one Try.underlying9 rfl b.cells.toArray 11 _ (Ed.cell_con hb) w) (run_equalIn_string w (n0 + 1) _ a.con b.con Try.underlying9),
    eqf_step w _ _ _ 9 12 _ _ _ _ (by decide) (part_one Try.underlying9 rfl a.cells.toArray 12 _ (Ed.cell_fld ha) w) (part_one Try.underlying9 rfl b.cells.toArray 12 _ (Ed.cell_fld hb) w) (run_equalIn_string w (n0 + 1) _ a.fld b.fld Try.underlying9),
    eqf_step w _ _ _ 9 13 _ _ _ _ (by decide) (part_one Try.underlying9 rfl a.cells.toArray 13 _ (Ed.cell_val ha) w) (part_one Try.underlying9 rfl b.cells.toArray 13 _ (Ed.cell_val hb) w) (run_equalIn_string w (n0 + 1) _ a.val b.val Try.underlying9),
    eqf_step w _ _ _ 2 14 _ _ _ _ (by decide) (part_one Try.underlying2 rfl a.cells.toArray 14 _ (Ed.cell_time ha) w) (part_one Try.underlying2 rfl b.cells.toArray 14 _ (Ed.cell_time hb) w) (run_equalIn_int w (n0 + 1) _ .i64 .i64 a.time b.time Try.underlying2),
    eqf_end, text_beq, text_beq, text_beq]
  simp only [res_if]
  congr 1
  rw [Bool.eq_iff_iff, decide_eq_true_iff, same_iff]
  simp only [Bool.and_eq_true, decide_eq_true_eq, beq_iff_eq, and_true]
theorem eql_edit (a b : Ed) (ha : a.seen.length = 8) (hb : b.seen.length = 8) (o : Bool) (ho : decide (a = b) = o) (w : World) : (binOp .eql 28 (.agg a.cells.toArray) (.agg b.cells.toArray)).run Try.prog w = .ok (.bool o) w := by
  rw [run_eql_struct, eq_edit 9997 a b ha hb, ← ho]; rfl
theorem neq_edit (a b : Ed) (ha : a.seen.length = 8) (hb : b.seen.length = 8) (o : Bool) (ho : decide (a = b) = o) (w : World) : (binOp .neq 28 (.agg a.cells.toArray) (.agg b.cells.toArray)).run Try.prog w = .ok (.bool (!o)) w := by
  rw [run_neq_struct, eq_edit 9997 a b ha hb, ← ho]; rfl
end Go.Proofs.Ytabgkkdgamacnaa
namespace Go.Proofs.Ytabgkkdgamacnaa
open Go.RowKit

theorem set_tail {e : Ed} (h : e.seen.length = 8) (k j : Nat) (hk : k = 10 + j) (u : Value) : e.cells.set k u = [.int .i64 e.dev, .int .i64 e.num] ++ (i64v e.seen ++ [.int .i64 e.kind, .string e.con, .string e.fld, .string e.val, .int .i64 e.time].set j u) := by
  subst hk
  rw [Ed.cells, List.set_append_right _ _ (by simp; omega), List.set_append_right _ _ (by simp [i64v_len, h]; omega)]
  simp only [List.length_cons, List.length_nil, i64v_len, h]
  congr 3; omega
section
variable {w : World} {g : Nat} {T : TypeId} {d n k t : Int} {s : List Int} {c f v : ByteArray}
theorem put_dev (h : Hid (w.heap[g]? = some (.cells (Ed.mk d n s k c f v t).cells.toArray T (0, 0)))) (x : Int) :
    Hid ((w.setCell ⟨g, 0, none⟩ (.int .i64 x)).heap[g]? = some (.cells (Ed.mk x n s k c f v t).cells.toArray T (0, 0))) := world_set_cell h.out 0 _
theorem put_num (h : Hid (w.heap[g]? = some (.cells (Ed.mk d n s k c f v t).cells.toArray T (0, 0)))) (x : Int) :
    Hid ((w.setCell ⟨g, 1, none⟩ (.int .i64 x)).heap[g]? = some (.cells (Ed.mk d x s k c f v t).cells.toArray T (0, 0))) := world_set_cell h.out 1 _
theorem put_kind (h : Hid (w.heap[g]? = some (.cells (Ed.mk d n s k c f v t).cells.toArray T (0, 0)))) (hs : s.length = 8) (x : Int) :
    Hid ((w.setCell ⟨g, 10, none⟩ (.int .i64 x)).heap[g]? = some (.cells (Ed.mk d n s x c f v t).cells.toArray T (0, 0))) := by
  have h2 := world_set_cell h.out 10 (.int .i64 x)
  rw [set_tail hs 10 0 rfl] at h2; exact h2
theorem put_con (h : Hid (w.heap[g]? = some (.cells (Ed.mk d n s k c f v t).cells.toArray T (0, 0)))) (hs : s.length = 8) (x : ByteArray) :
    Hid ((w.setCell ⟨g, 11, none⟩ (.string x)).heap[g]? = some (.cells (Ed.mk d n s k x f v t).cells.toArray T (0, 0))) := by
  have h2 := world_set_cell h.out 11 (.string x)
  rw [set_tail hs 11 1 rfl] at h2; exact h2
theorem put_fld (h : Hid (w.heap[g]? = some (.cells (Ed.mk d n s k c f v t).cells.toArray T (0, 0)))) (hs : s.length = 8) (x : ByteArray) :
    Hid ((w.setCell ⟨g, 12, none⟩ (.string x)).heap[g]? = some (.cells (Ed.mk d n s k c x v t).cells.toArray T (0, 0))) := by
  have h2 := world_set_cell h.out 12 (.string x)
  rw [set_tail hs 12 2 rfl] at h2; exact h2
theorem put_val (h : Hid (w.heap[g]? = some (.cells (Ed.mk d n s k c f v t).cells.toArray T (0, 0)))) (hs : s.length = 8) (x : ByteArray) :
    Hid ((w.setCell ⟨g, 13, none⟩ (.string x)).heap[g]? = some (.cells (Ed.mk d n s k c f x t).cells.toArray T (0, 0))) := by
  have h2 := world_set_cell h.out 13 (.string x)
  rw [set_tail hs 13 3 rfl] at h2; exact h2
theorem put_time (h : Hid (w.heap[g]? = some (.cells (Ed.mk d n s k c f v t).cells.toArray T (0, 0)))) (hs : s.length = 8) (x : Int) :
    Hid ((w.setCell ⟨g, 14, none⟩ (.int .i64 x)).heap[g]? = some (.cells (Ed.mk d n s k c f v x).cells.toArray T (0, 0))) := by
  have h2 := world_set_cell h.out 14 (.int .i64 x)
  rw [set_tail hs 14 4 rfl] at h2; exact h2
theorem put_seen (h : Hid (w.heap[g]? = some (.cells (Ed.mk d n s k c f v t).cells.toArray T (0, 0)))) (hs : s.length = 8) (x : List Int) (hx : x.length = 8) :
    Hid ((w.setCells g 2 (i64v x)).heap[g]? = some (.cells (Ed.mk d n x k c f v t).cells.toArray T (0, 0))) ∧ But g w (w.setCells g 2 (i64v x)) := by
  have e := setCells_row h.out (o := 2) (i64v x) (by rw [Ed.cells_len hs, i64v_len, hx]; decide) (i64v_one _)
  have e2 : splice (Ed.mk d n s k c f v t).cells 2 (i64v x) = (Ed.mk d n x k c f v t).cells := by
    rw [Ed.cells, splice_mid _ _ _ (i64v x) 2 0 rfl (by rw [i64v_len, i64v_len, hx, hs]; decide)]
    rw [show splice (i64v s) 0 (i64v x) = i64v x by
      simp only [splice, List.take_zero, List.nil_append]
      rw [List.drop_of_length_le (by rw [i64v_len, i64v_len, hx, hs]; decide), List.append_nil]]
    rfl
  rw [e2] at e
  rw [e]
  exact ⟨setRow_heap _ _ _ _ _ _ h.out, (But.refl _ _).row _⟩
theorem there_seen {e : Ed} (h : Hid (w.heap[g]? = some (.cells e.cells.toArray T (0, 0)))) (hs : e.seen.length = 8) (x : List Int) (hx : x.length = 8) : w.there g 2 (i64v x).toArray.size := by
  intro j hj
  rw [List.size_toArray, i64v_len, hx] at hj
  refine ⟨?_, frozen_of_row _ _ _ _ _ h.out⟩
  rw [ed_seen h j (by omega)]; rfl
end
def ed0 : Ed := ⟨0, 0, List.replicate 8 0, 0, ⟨#[]⟩, ⟨#[]⟩, ⟨#[]⟩, 0⟩
theorem ed0_len : ed0.seen.length = 8 := rfl
theorem zero_ed (w : World) : (zeroValue 28).run Try.prog w = .ok (.agg ed0.cells.toArray) w := by kernel_rfl
theorem built_ed0 : Try.prog.built 28 [] = some ed0.cells.toArray := by kernel_rfl
end Go.Proofs.Ytabgkkdgamacnaa
