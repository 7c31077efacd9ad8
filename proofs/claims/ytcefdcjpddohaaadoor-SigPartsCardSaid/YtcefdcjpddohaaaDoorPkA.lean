/-
  Words and contracts that other texts share, several in one text. No statement of the seat is proved here. Conditions: as each contract says.
  Words for bytes in memory that the other texts of this seat share: no statement is proved here. Conditions: none.
  Identities of a curve -x^2 + y^2 = 1 + d x^2 y^2: its sums lie on it, and go together in any order (polynomials, over any ring Fin n; the factors were found by a program). No statement is proved here. Conditions: none.
  The group of a curve -x^2 + y^2 = 1 + d x^2 y^2 whose sums never fail: sums are on it, go in any order and together. No statement is proved here. Conditions: FldE.
  Contracts of package octet's inner functions width and roomier: what each returns, for every input that fits. Conditions: lengths up to 2^47.
  The lowest bytes of a number, as lists: words that other texts share. No statement is proved here. Conditions: none.
  The number that bytes tell: words that other texts share. No statement is proved here. Conditions: none.
  Arrays and rows in memory: words that the contracts of other texts share. No statement is proved here. Conditions: none.
  Pieces of slices, literals, growth, new blocks: words that the contracts of other texts share. No statement is proved here. Conditions: none.
  New blocks, whole rows, small words: what the contracts of other texts share. No statement is proved here. Conditions: none.
  Numbers in four pieces of 64 bits: words that the contracts of field share. No statement is proved here. Conditions: none.
  One law on regions that draw their order, for the texts of this seat: the condition that is held may be made stronger on the way. Conditions: none.
  Words of 64 bits, words of 32 bytes as numbers, the contract of bits.Mul64: what field and scalar share. No statement is proved here. Conditions: none.
  The words of small numbers: what the laws of field and scalar share. No statement is proved here. Conditions: none.
-/
import Derived.WalkKit
import Derived.Below
import Derived.Lib.Hide
import Derived.Laws.CopyOwn
import Derived.Laws.BytesArg
import Derived.Laws.BytesString
import Derived.Laws.OwnMore
import Derived.Deep.Draws
import Derived.OpenShut
import Derived.Test.YtcefdcjpddohaaaDoorChecked
import Derived.WalkLawsBesides
import Derived.WalkSpells
import Derived.Outline
import Derived.LoopTactic
import Derived.Laws.Shifts
import Derived.Laws.ShiftsVar
import Derived.Laws.BitsAllLaws
import Derived.Laws.Rows
import Derived.Laws.Tables
import Derived.Deep.MidRow
import Derived.Deep.WholeRow
import Derived.Deep.RegionLaw
import Derived.Lib.SlBytesConst
import Derived.ArgAppend
import Derived.Deep.Cut
import Derived.IntWalk
import Derived.BigRegion
import Derived.BigQuiet
import Derived.RegionTactic
import Derived.Deep.QuietTactic
import Derived.Laws.Cover3
import Derived.Laws.Externs
import Derived.Laws.ResultCell
import Derived.Lib.Mul64
import Derived.Deep.RegionHeld3
namespace Go.Proofs.YtcefdcjpddohaaaDoor
open Go.RowKit

/-- Bytes as the cells of a row. -/
def bv (l : List UInt8) : List Value := l.map fun b => Value.int .u8 (b.toNat : Int)
theorem bv_len (l : List UInt8) : (bv l).length = l.length := by simp [bv]
theorem bv_app (l m : List UInt8) : bv (l ++ m) = bv l ++ bv m := by simp [bv]
theorem bv_nil : bv [] = [] := rfl
theorem bv_at (l : List UInt8) (k : Nat) : (bv l)[k]? = l[k]?.map fun b => Value.int .u8 (b.toNat : Int) := by simp [bv]
theorem bv_one (l : List UInt8) : ∀ u ∈ bv l, u.oneCell' = true := by
  intro u hu
  obtain ⟨b, _, rfl⟩ := List.mem_map.1 hu
  rfl
theorem bv_set (l : List UInt8) (k : Nat) (b : UInt8) : (bv l).set k (.int .u8 (b.toNat : Int)) = bv (l.set k b) := by simp [bv, List.map_set]
theorem bv_take (l : List UInt8) (k : Nat) : (bv l).take k = bv (l.take k) := by simp [bv, List.map_take]
theorem bv_rep (n : Nat) : List.replicate n (Value.int .u8 0) = bv (List.replicate n 0) := by simp [bv]
/-- One byte out of a number below 256. -/
theorem bv_single (c : Nat) (hc : c < 256) : [Value.int .u8 (c : Int)] = bv [UInt8.ofNat c] := by
  simp [bv, Nat.mod_eq_of_lt hc]

theorem ofNat_toNat (b : UInt8) : UInt8.ofNat b.toNat = b := by simp

/-- What a slice at A holds: the bytes l, in a block below B. Of an empty one nothing is asked. -/
def Byt (w : World) (B : Nat) (A : Option Addr) (l : List UInt8) : Prop :=
  l = [] ∨ ∃ g o, A = some ⟨g, o, none⟩ ∧ g < B ∧ ∀ j b, l[j]? = some b → w.cell? ⟨g, o + j, none⟩ = some (.int .u8 (b.toNat : Int))

section
variable {w w' : World} {B B' : Nat} {A : Option Addr} {l : List UInt8}
theorem Byt.none_ : Byt w B A [] := .inl rfl
theorem Byt.keep (h : Byt w B A l) (hk : ∀ p : Addr, p.block < B → w'.cell? p = w.cell? p) : Byt w' B A l := by
  rcases h with h | ⟨g, o, hA, hg, hc⟩
  · exact .inl h
  · exact .inr ⟨g, o, hA, hg, fun j b hb => (hk ⟨g, o + j, none⟩ hg).trans (hc j b hb)⟩
theorem Byt.below (h : Byt w B A l) (hb : Below B w w') : Byt w' B A l := h.keep fun _ hp => hb.cell hp
theorem Byt.up (h : Byt w B A l) (hB : B ≤ B') : Byt w B' A l := by
  rcases h with h | ⟨g, o, hA, hg, hc⟩
  · exact .inl h
  · exact .inr ⟨g, o, hA, by omega, hc⟩
theorem Byt.drewN (h : Byt w B A l) (k : Nat) : Byt (w.drewN k) B A l := h
theorem Byt.drew (h : Byt w B A l) : Byt w.drew B A l := h
theorem Byt.alloc (h : Byt w B A l) (hB : B ≤ w.heap.size) (o : Obj) : Byt (w.alloc o) B A l := h.below ((Below.refl _ _).alloc hB o)
/-- The byte at k, as a number. -/
theorem Byt.at_ (h : Byt w B A l) {k : Nat} (hk : k < l.length) :
    ∃ g o c : Nat, A = some ⟨g, o, none⟩ ∧ g < B ∧ c < 256 ∧ w.cell? ⟨g, o + k, none⟩ = some (.int .u8 (c : Int)) ∧ Hid (l[k]? = some (UInt8.ofNat c)) := by
  rcases h with h | ⟨g, o, hA, hg, hc⟩
  · subst h; simp at hk
  · exact ⟨g, o, l[k].toNat, hA, hg, UInt8.toNat_lt _, hc k _ (List.getElem?_eq_getElem hk), show _ = _ by rw [ofNat_toNat]; exact List.getElem?_eq_getElem hk⟩
theorem Byt.of_own {base E n c : Nat} (h : w.ownsRow base E 1 (.slice A n c) n (bv l)) : Byt w w.heap.size A l := by
  rcases h.2 with ⟨h', h0⟩ | ⟨g, cap, cur, h', hb, hg, hnc, hcm, hcs, htake⟩
  · refine .inl (List.eq_nil_of_length_eq_zero ?_)
    have := h.1; rw [bv_len] at this; omega
  · simp only [Value.slice.injEq] at h'
    obtain ⟨rfl, _, rfl⟩ := h'
    refine .inr ⟨g, 0, rfl, (Array.getElem?_eq_some_iff.1 hg).1, fun j b hj => ?_⟩
    have hl := h.1; rw [bv_len] at hl
    have hjl : j < l.length := (List.getElem?_eq_some_iff.1 hj).1
    have h2 := World.ownsRow.cellAt h j (by omega)
    rw [Nat.zero_add, h2, bv_at, hj]; rfl
end

/-- string(b). -/
theorem conv_bytes {P : Program} {w : World} {T E S : TypeId} (hT : P.underlying T = some (.slice E)) (hE : P.underlying E = some (.int .u8)) (hS : P.underlying S = some .string)
    {B : Nat} {A : Option Addr} {l : List UInt8} (h : Byt w B A l) (n c : Nat) (hn : l.length = n) : (convert T S (.slice A n c)).run P w = .ok (.string ⟨l.toArray⟩) w := by
  subst hn
  cases A with
  | none =>
    rcases h with rfl | ⟨g, o, hA, _⟩
    · exact run_convert_bytes_nil w T E hT hE _ c S hS
    · cases hA
  | some a =>
    have hl : (loadCells a l.length).run P w = .ok ((l.map fun b => (b.toNat : Int)).map (Value.int .u8)).toArray w := by
      have h1 := run_loadCells_list (P := P) w a (bv l) (fun j v hj => by
        rcases h with rfl | ⟨g, o, hA, _, hc⟩
        · simp [bv] at hj
        · cases hA
          rw [bv_at] at hj
          obtain ⟨b, hb, rfl⟩ := Option.map_eq_some_iff.1 hj
          have hp : (⟨g, o, none⟩ : Addr).add j = ⟨g, o + j, none⟩ := by unfold Addr.add; split <;> simp_all
          rw [hp]; exact hc j b hb)
      rw [bv_len] at h1
      simpa [bv, Function.comp_def] using h1
    rw [run_convert_bytes_string w T S E _ l.length c hT hE hS, run_bytesToString w _ l.length c _ hl, foldl_push_bytes]
    have e : (l.map fun b => (b.toNat : Int)).map (fun n => UInt8.ofNat n.toNat) = l := by
      rw [List.map_map]
      conv => rhs; rw [← List.map_id l]
      exact List.map_congr_left fun b _ => by simp
    rw [e]
    simp [ByteArray.empty, ByteArray.emptyWithCapacity]
    rfl

/-- A result: a new slice of the bytes l, in blocks from 'base' on. -/
def Res (w : World) (base : Nat) (E : TypeId) (A : Option Addr) (n c : Nat) (l : List UInt8) : Prop := w.ownsRow base E 1 (.slice A n c) n (bv l)
section
variable {w w' : World} {base B n c : Nat} {E : TypeId} {A : Option Addr} {l : List UInt8}
theorem Res.len (h : Res w base E A n c l) : l.length = n := by have := h.1; rw [bv_len] at this; omega
theorem Res.byt (h : Res w base E A n c l) : Byt w w.heap.size A l := Byt.of_own h
theorem Res.keep (h : Res w base E A n c l) (hb : Below w.heap.size w w') : Res w' base E A n c l := by
  refine ⟨h.1, ?_⟩
  rcases h.2 with hn | ⟨g, cap, cur, hv, hB, hg, r⟩
  · exact .inl hn
  · exact .inr ⟨g, cap, cur, hv, hB, (hb.block g (Array.getElem?_eq_some_iff.1 hg).1).trans hg, r⟩
theorem Res.base_le (h : Res w base E A n c l) (hB : B ≤ base) : Res w B E A n c l := by
  refine ⟨h.1, ?_⟩
  rcases h.2 with hn | ⟨g, cap, cur, hv, hB', hg, r⟩
  · exact .inl hn
  · exact .inr ⟨g, cap, cur, hv, by omega, hg, r⟩
theorem Res.of (v : Value) (h : w.ownsRow base E 1 v n (bv l)) : ∃ A c, v = .slice A n c ∧ Res w base E A n c l := by
  rcases h.2 with ⟨rfl, rfl⟩ | ⟨g, cap, cur, rfl, _⟩
  · exact ⟨_, _, rfl, h⟩
  · exact ⟨_, _, rfl, h⟩
end

/-- make([]byte, n, c): a row of c noughts. -/
theorem make_bytes {P : Program} {T E : TypeId} {i : TypeInfo} (hT : P.underlying T = some (.slice E)) (hi : P.info? E = some i) (hz : i.zero = some (.int .u8 0)) (h1 : i.size = 1) (h2 : i.bytes = 1)
    (n c : Nat) (L C : Int) (hL : L = (n : Int)) (hC : C = (c : Int)) (hnc : n ≤ c) (hc : c ≤ 281474976710656) (w : World) :
    ∃ w1, (Instr.makeSlice T (.int .i64 L) (.int .i64 C)).run P w = .ok (.slice (some ⟨w.heap.size, 0, none⟩) n c) w1 ∧ Hid (w1.heap[w.heap.size]? = some (.cells (bv (List.replicate c 0)).toArray E (0, 0))) ∧
      Hid (Below w.heap.size w w1) ∧ Hid (w1.heap.size = w.heap.size + 1) := by
  subst hL hC
  have hr := run_make (P := P) w T E i (.int .u8 0) hT hi hz .i64 .i64 n c (by omega) (by omega) (by rw [h2]; omega) (by omega)
  simp only [Int.toNat_natCast] at hr
  refine ⟨_, hr, ?_, (Below.refl _ _).alloc (Nat.le_refl _) _, show _ = _ by simp⟩
  show _ = _
  rw [heap_alloc_new]
  have e : madeCells (Value.int .u8 0).cells (c * i.size) = (bv (List.replicate c 0)).toArray := by
    rw [h1, Nat.mul_one, ← bv_rep]
    apply Array.ext'
    show (madeCells #[Value.int .u8 0] c).toList = _
    rw [toList_madeCells_one]
  rw [e]

/-- A row whose first cells are the bytes l. -/
theorem Res.row {w : World} {base E g n c : Nat} {l : List UInt8} {cur : Array Value} (hb : base ≤ g) (hg : w.heap[g]? = some (.cells cur E (0, 0))) (hn : n ≤ c) (hc : c ≤ 281474976710656) (hs : cur.size = c)
    (hl : l.length = n) (ht : cur.toList.take n = bv l) : Res w base E (some ⟨g, 0, none⟩) n c l :=
  ⟨by rw [bv_len]; omega, .inr ⟨g, c, cur, rfl, hb, hg, hn, by unfold maxLen; omega, by omega, by rw [Nat.mul_one]; exact ht⟩⟩

theorem addr_add (g o j : Nat) : (⟨g, o, none⟩ : Addr).add j = ⟨g, o + j, none⟩ := by unfold Addr.add; split <;> simp_all
/-- What a copy out of the bytes asks. -/
theorem Byt.src {w : World} {B : Nat} {A : Option Addr} {l : List UInt8} (h : Byt w B A l) (x : Option Addr) (y : Addr) (hx : x = some y) :
    0 < (bv l).length → x = some y ∧ ∃ ad, A = some ad ∧ ∀ j v, (bv l)[j]? = some v → w.cell? (ad.add j) = some v := by
  intro hp
  rcases h with h0 | ⟨g, o, rfl, hg, hc⟩
  · subst h0; simp [bv] at hp
  · refine ⟨hx, _, rfl, fun j v hj => ?_⟩
    rw [bv_at] at hj
    obtain ⟨b, hb, rfl⟩ := Option.map_eq_some_iff.1 hj
    rw [addr_add]; exact hc j b hb

/-- append(s, x..) onto bytes of the call's own. -/
theorem wp_append_bytes {P : Program} (w : World) {ops : Array Oper} {rest : List Oper} {o : Oper} {a : Act} {Q : Exit → Act → World → Prop} (hgd : o.guard = none) (s x : Operand) (T : TypeId)
    (ho : o.op = .call { callee := .builtin .append, args := #[s, x], argTypes := #[T, T] }) (E : TypeId) (hT : P.underlying T = some (.slice E))
    (hI : (P.info? E).map (fun i => (i.zero, i.size, i.bytes)) = some (some (.int .u8 0), 1, 1)) (base : Nat) (A : Option Addr) (n c : Nat) (l : List UInt8) (hs : a.eval s = .slice A n c) (hr : Res w base E A n c l)
    (ad : Addr) (m c2 : Nat) (hx : a.eval x = .slice (some ad) m c2) (news : List UInt8) (hl : news.length = m) (hnews : ∀ j u, (bv news)[j]? = some u → w.cell? (ad.add j) = some u) (hsz : n + m ≤ 140737488355328) (hbase : base ≤ w.heap.size)
    (h : ∀ A' c' w', Res w' base E A' (n + m) c' (l ++ news) → (∀ B w0, B ≤ base → Below B w0 w → Below B w0 w') → wpList P ops Q rest (a.put o.dst (.slice A' (n + m) c')) w') : wpList P ops Q (o :: rest) a w := by
  obtain ⟨i, hi, hz, h1, h2⟩ := info_parts hI
  refine wpList_append_own w hgd s x T ho base E i (.int .u8 0) 1 1 hT hi hz h1 h2 rfl (by decide) _ n (bv l) hs hr ad m c2 (bv news) hx (by rw [bv_len]; omega) hnews (bv_one _) (by unfold maxLen; omega) (by omega) hbase ?_
  intro v' w' hown hgr _
  rw [← bv_app] at hown
  obtain ⟨A', c', rfl, hres⟩ := Res.of v' hown
  exact h A' c' w' hres fun B w0 hB hb => hb.grown hgr (by omega) fun k hk => by have := World.ownsRow.lt hr k hk; omega

/-- The same as one step of a region that draws its order. -/
theorem step_append_bytes {P : Program} (w : World) {ops : Array Oper} {o : Oper} {a : Act} {K : Act → World → Prop} {Q : Exit → Act → World → Prop} {E' : Prop} (hgd : o.guard = none) (s x : Operand) (T : TypeId)
    (ho : o.op = .call { callee := .builtin .append, args := #[s, x], argTypes := #[T, T] }) (E : TypeId) (hT : P.underlying T = some (.slice E))
    (hI : (P.info? E).map (fun i => (i.zero, i.size, i.bytes)) = some (some (.int .u8 0), 1, 1)) (base : Nat) (A : Option Addr) (n c : Nat) (l : List UInt8) (hs : a.eval s = .slice A n c) (hr : Res w base E A n c l)
    (ad : Addr) (m c2 : Nat) (hx : a.eval x = .slice (some ad) m c2) (news : List UInt8) (hl : news.length = m) (hnews : ∀ j u, (bv news)[j]? = some u → w.cell? (ad.add j) = some u) (hsz : n + m ≤ 140737488355328) (hbase : base ≤ w.heap.size)
    (h : ∀ A' c' w', Res w' base E A' (n + m) c' (l ++ news) → (∀ B w0, B ≤ base → Below B w0 w → Below B w0 w') → K (a.put o.dst (.slice A' (n + m) c')) w') :
    if Region.wanted o (yielded ops a.tmps) = true then Oper.wp P o a w K Q else E' := by
  have hw : Region.wanted o (yielded ops a.tmps) = true := by simp [Region.wanted, hgd]
  rw [if_pos hw]
  obtain ⟨i, hi, hz, h1, h2⟩ := info_parts hI
  refine wp_append_own w s x T ho base E i (.int .u8 0) 1 1 hT hi hz h1 h2 rfl (by decide) _ n (bv l) hs hr ad m c2 (bv news) hx (by rw [bv_len]; omega) hnews (bv_one _) (by unfold maxLen; omega) (by omega) hbase ?_
  intro v' w' hown hgr _
  rw [← bv_app] at hown
  obtain ⟨A', c', rfl, hres⟩ := Res.of v' hown
  exact h A' c' w' hres fun B w0 hB hb => hb.grown hgr (by omega) fun k hk => by have := World.ownsRow.lt hr k hk; omega

theorem Res.drew {w : World} {base E n c : Nat} {A : Option Addr} {l : List UInt8} (h : Res w base E A n c l) : Res w.drew base E A n c l := h
/-- A literal of bytes, in the newest block. -/
theorem Byt.lit (w : World) (E : TypeId) (cs : Array Value) (l : List UInt8) (h : cs.toList = bv l) : Byt (w.alloc (.cells cs E)) (w.alloc (.cells cs E)).heap.size (some ⟨w.heap.size, 0, none⟩) l := by
  refine .inr ⟨w.heap.size, 0, rfl, by simp, fun j b hj => ?_⟩
  rw [Nat.zero_add, World.cell?_alloc_new]
  have h1 := bv_at l j
  rw [hj, ← h] at h1
  simpa using h1
/-- Below through a new block of the caller's own. -/
theorem below_lit {B : Nat} {a w w' : World} {o : Obj} (h : Below B a w) (hB : B ≤ w.heap.size) (h2 : Below (w.alloc o).heap.size (w.alloc o) w') : Below B a w' :=
  (h.alloc hB o).trans (h2.mono (by simp; omega))
theorem below_next {B : Nat} {a w w' : World} (h : Below B a w) (hB : B ≤ w.heap.size) (h2 : Below w.heap.size w w') : Below B a w' := h.trans (h2.mono hB)
/-- A []byte that came in, as the row's reading tells it. -/
theorem bytes_of_row {w : World} {a : Option Addr} {len cap : Nat} {zs : List Int}
    (h : (a = none ∧ len = 0 ∧ cap = 0 ∧ zs = []) ∨ ∃ x, a = some x ∧ len ≤ cap ∧ cap ≤ maxLen ∧ zs.length = cap ∧ (∀ i, i < zs.length → w.cell? (x.add i) = some (.int .u8 (zs.getD i 0))) ∧ ∀ n ∈ zs, (Lit.int .u8 n).wf = true) :
    ∃ l : List UInt8, Byt w w.heap.size a l ∧ l.length = len := by
  rcases h with ⟨rfl, rfl, _, _⟩ | ⟨x, rfl, hl, _, hz, hc, hw⟩
  · exact ⟨[], Byt.none_, rfl⟩
  · rcases Nat.eq_zero_or_pos len with h0 | h0
    · exact ⟨[], Byt.none_, h0.symm⟩
    · obtain ⟨b, off, rfl, hcell⟩ := ints_at hc (by omega)
      refine ⟨(zs.take len).map fun z => UInt8.ofNat z.toNat, .inr ⟨b, off, rfl, ?_, ?_⟩, by simp; omega⟩
      · exact World.block_lt_of_cell? w ⟨b, off + 0, none⟩ (hcell 0 (by omega))
      · intro j c hj
        have hjl : j < len := by
          have := (List.getElem?_eq_some_iff.1 hj).1
          simp at this; omega
        have hjz : j < zs.length := by omega
        rw [hcell j hjz]
        simp [hjl, List.getElem?_eq_getElem hjz] at hj
        subst hj
        have h1 := hw zs[j] (List.getElem_mem hjz)
        have h2 : 0 ≤ zs[j] ∧ zs[j] ≤ 255 := by simpa [Lit.wf, IntKind.min, IntKind.max, IntKind.signed, IntKind.bits] using h1
        congr 2
        simp [List.getElem?_eq_getElem hjz]
        omega
theorem u64_of_wf {a : Int} (h : (Lit.int .u64 a).wf = true) : ∃ v : Nat, a = (v : Int) ∧ v < 18446744073709551616 := by
  have h2 : 0 ≤ a ∧ a ≤ 18446744073709551615 := by simpa [Lit.wf, IntKind.min, IntKind.max, IntKind.signed, IntKind.bits] using h
  exact ⟨a.toNat, by omega, by omega⟩
theorem ret_bool {a b : Bool} (h : a = b) : Ending.returned (.bool a) = .returned (.bool b) := by rw [h]
theorem ret_str {a b : ByteArray} (h : a = b) : Ending.returned (.string a) = .returned (.string b) := by rw [h]

theorem Res.alloc {w : World} {base E n c : Nat} {A : Option Addr} {l : List UInt8} (h : Res w base E A n c l) (o : Obj) : Res (w.alloc o) base E A n c l := World.ownsRow.alloc h o

/-- The one new cell of append(s, x). -/
theorem new_byte (w : World) (E : TypeId) (x : Int) (b : UInt8) (hx : x = (b.toNat : Int)) :
    ∀ j u, (bv [b])[j]? = some u → (w.alloc (.cells #[.int .u8 x] E)).cell? ((⟨w.heap.size, 0, none⟩ : Addr).add j) = some u := by
  intro j u hj
  match j, hj with
  | 0, hj =>
    simp [bv] at hj
    subst hj hx
    rw [addr_add]
    simp
theorem new_bytes2 (w : World) (E : TypeId) (x y : Int) (b d : UInt8) (hx : x = (b.toNat : Int)) (hy : y = (d.toNat : Int)) :
    ∀ j u, (bv [b, d])[j]? = some u → (w.alloc (.cells #[.int .u8 x, .int .u8 y] E)).cell? ((⟨w.heap.size, 0, none⟩ : Addr).add j) = some u := by
  intro j u hj
  match j, hj with
  | 0, hj =>
    simp [bv] at hj
    subst hj hx
    rw [addr_add]
    simp
  | 1, hj =>
    simp [bv] at hj
    subst hj hy
    rw [addr_add]
    simp
theorem new_bytes2d (w : World) (E : TypeId) (x y : Int) (b d : UInt8) (hx : x = (b.toNat : Int)) (hy : y = (d.toNat : Int)) :
    ∀ j u, (bv [b, d])[j]? = some u → (w.alloc (.cells #[.int .u8 x, .int .u8 y] E)).drew.cell? ((⟨w.heap.size, 0, none⟩ : Addr).add j) = some u := new_bytes2 w E x y b d hx hy
theorem byte_of (v s : Nat) : (v : Int) / 2 ^ s % 256 = ((UInt8.ofNat (v / 2 ^ s)).toNat : Int) := by
  rw [UInt8.toNat_ofNat']
  simp

/-- Same heap and streams, draws aside. -/
theorem below_drewN {B : Nat} {a w : World} (h : Below B a w) (k : Nat) : Below B a (w.drewN k) := ⟨h.os, h.tape, h.output, h.size, h.block⟩
end Go.Proofs.YtcefdcjpddohaaaDoor
namespace Go.Proofs.YtcefdcjpddohaaaDoor

set_option maxHeartbeats 8000000 in
set_option maxRecDepth 20000 in
theorem assoc_x {n : Nat} [NeZero n] (x1 y1 x2 y2 x3 y3 d : Fin n) : ((x1 * y2 + y1 * x2) * (1 - d * (x1 * x2 * y1 * y2)) * y3 + (y1 * y2 + x1 * x2) * (1 + d * (x1 * x2 * y1 * y2)) * x3) * ((1 + d * (x2 * x3 * y2 * y3)) * (1 - d * (x2 * x3 * y2 * y3)) + d * (x1 * (x2 * y3 + y2 * x3) * (y1 * (y2 * y3 + x2 * x3)))) - (x1 * ((y2 * y3 + x2 * x3) * (1 + d * (x2 * x3 * y2 * y3))) + y1 * ((x2 * y3 + y2 * x3) * (1 - d * (x2 * x3 * y2 * y3)))) * ((1 + d * (x1 * x2 * y1 * y2)) * (1 - d * (x1 * x2 * y1 * y2)) + d * ((x1 * y2 + y1 * x2) * x3 * ((y1 * y2 + x1 * x2) * y3))) = (- x1 * x2^4 * y2^3 * x3^2 * y3 * d^2 - x1 * x2^4 * y2 * x3^2 * y3 * d - x1 * x2^3 * y2^4 * x3 * y3^2 * d^2 - x1 * x2^3 * y2^2 * x3^3 * d - x1 * x2^3 * y2^2 * x3 * d + x1 * x2^2 * y2^3 * y3^3 * d - x1 * x2^2 * y2^3 * y3 * d + x1 * x2 * y2^4 * x3 * y3^2 * d + y1 * x2^4 * y2^3 * x3 * y3^2 * d^2 + y1 * x2^4 * y2 * x3 * y3^2 * d + y1 * x2^3 * y2^4 * x3^2 * y3 * d^2 + y1 * x2^3 * y2^2 * y3^3 * d - y1 * x2^3 * y2^2 * y3 * d - y1 * x2^2 * y2^3 * x3^3 * d - y1 * x2^2 * y2^3 * x3 * d - y1 * x2 * y2^4 * x3^2 * y3 * d) * (y1 * y1 - (x1 * x1 + 1 + d * (x1 * x1 * (y1 * y1)))) + (x1^3 * x2^2 * y2 * x3^2 * y3 * d + x1^3 * x2 * y2^2 * x3 * y3^2 * d + x1^3 * x2 * x3^3 * y3^2 * d + x1^3 * x2 * x3^3 - x1^3 * x2 * x3 * y3^2 + x1^3 * x2 * x3 + x1^3 * y2 * x3^2 * y3^3 * d + x1^3 * y2 * x3^2 * y3 - x1^3 * y2 * y3^3 + x1^3 * y2 * y3 + x1^2 * y1 * x2^2 * y2 * x3^3 * y3^2 * d^2 - x1^2 * y1 * x2^2 * y2 * x3 * y3^2 * d - x1^2 * y1 * x2 * y2^2 * x3^2 * y3^3 * d^2 - x1^2 * y1 * x2 * y2^2 * x3^2 * y3 * d + x1^2 * y1 * x2 * x3^2 * y3^3 * d + x1^2 * y1 * x2 * x3^2 * y3 - x1^2 * y1 * x2 * y3^3 + x1^2 * y1 * x2 * y3 + x1^2 * y1 * y2 * x3^3 * y3^2 * d + x1^2 * y1 * y2 * x3^3 - x1^2 * y1 * y2 * x3 * y3^2 + x1^2 * y1 * y2 * x3 - x1 * y1^2 * x2^2 * y2 * x3^2 * y3^3 * d^2 - x1 * y1^2 * x2^2 * y2 * x3^2 * y3 * d + x1 * y1^2 * x2 * y2^2 * x3^3 * y3^2 * d^2 - x1 * y1^2 * x2 * y2^2 * x3 * y3^2 * d - x1 * y1^2 * x2 * x3^3 * y3^2 * d - x1 * y1^2 * x2 * x3^3 + x1 * y1^2 * x2 * x3 * y3^2 - x1 * y1^2 * x2 * x3 - x1 * y1^2 * y2 * x3^2 * y3^3 * d - x1 * y1^2 * y2 * x3^2 * y3 + x1 * y1^2 * y2 * y3^3 - x1 * y1^2 * y2 * y3 + x1 * x2^2 * y2 * x3^2 * y3 * d + x1 * x2 * y2^2 * x3 * y3^2 * d + x1 * x2 * x3^3 * y3^2 * d + x1 * x2 * x3^3 - x1 * x2 * x3 * y3^2 + x1 * x2 * x3 + x1 * y2 * x3^2 * y3^3 * d + x1 * y2 * x3^2 * y3 - x1 * y2 * y3^3 + x1 * y2 * y3 + y1^3 * x2^2 * y2 * x3 * y3^2 * d + y1^3 * x2 * y2^2 * x3^2 * y3 * d - y1^3 * x2 * x3^2 * y3^3 * d - y1^3 * x2 * x3^2 * y3 + y1^3 * x2 * y3^3 - y1^3 * x2 * y3 - y1^3 * y2 * x3^3 * y3^2 * d - y1^3 * y2 * x3^3 + y1^3 * y2 * x3 * y3^2 - y1^3 * y2 * x3 - y1 * x2^2 * y2 * x3 * y3^2 * d - y1 * x2 * y2^2 * x3^2 * y3 * d + y1 * x2 * x3^2 * y3^3 * d + y1 * x2 * x3^2 * y3 - y1 * x2 * y3^3 + y1 * x2 * y3 + y1 * y2 * x3^3 * y3^2 * d + y1 * y2 * x3^3 - y1 * y2 * x3 * y3^2 + y1 * y2 * x3) * (y2 * y2 - (x2 * x2 + 1 + d * (x2 * x2 * (y2 * y2)))) + (- x1^3 * x2^3 * x3 - x1^3 * x2^2 * y2 * y3 + x1^3 * x2 * y2^2 * x3 - x1^3 * x2 * x3 + x1^3 * y2^3 * y3 - x1^3 * y2 * y3 - x1^2 * y1 * x2^3 * y3 - x1^2 * y1 * x2^2 * y2 * x3 * d - x1^2 * y1 * x2^2 * y2 * x3 + x1^2 * y1 * x2 * y2^2 * y3 * d + x1^2 * y1 * x2 * y2^2 * y3 - x1^2 * y1 * x2 * y3 + x1^2 * y1 * y2^3 * x3 - x1^2 * y1 * y2 * x3 + x1 * y1^2 * x2^3 * x3 + x1 * y1^2 * x2^2 * y2 * y3 * d + x1 * y1^2 * x2^2 * y2 * y3 - x1 * y1^2 * x2 * y2^2 * x3 * d - x1 * y1^2 * x2 * y2^2 * x3 + x1 * y1^2 * x2 * x3 - x1 * y1^2 * y2^3 * y3 + x1 * y1^2 * y2 * y3 - x1 * x2^3 * x3 - x1 * x2^2 * y2 * y3 + x1 * x2 * y2^2 * x3 - x1 * x2 * x3 + x1 * y2^3 * y3 - x1 * y2 * y3 + y1^3 * x2^3 * y3 + y1^3 * x2^2 * y2 * x3 - y1^3 * x2 * y2^2 * y3 + y1^3 * x2 * y3 - y1^3 * y2^3 * x3 + y1^3 * y2 * x3 - y1 * x2^3 * y3 - y1 * x2^2 * y2 * x3 + y1 * x2 * y2^2 * y3 - y1 * x2 * y3 + y1 * y2^3 * x3 - y1 * y2 * x3) * (y3 * y3 - (x3 * x3 + 1 + d * (x3 * x3 * (y3 * y3)))) := by grind
set_option maxHeartbeats 8000000 in
set_option maxRecDepth 20000 in
theorem assoc_y {n : Nat} [NeZero n] (x1 y1 x2 y2 x3 y3 d : Fin n) : ((y1 * y2 + x1 * x2) * (1 + d * (x1 * x2 * y1 * y2)) * y3 + (x1 * y2 + y1 * x2) * (1 - d * (x1 * x2 * y1 * y2)) * x3) * ((1 + d * (x2 * x3 * y2 * y3)) * (1 - d * (x2 * x3 * y2 * y3)) - d * (x1 * (x2 * y3 + y2 * x3) * (y1 * (y2 * y3 + x2 * x3)))) - (y1 * ((y2 * y3 + x2 * x3) * (1 + d * (x2 * x3 * y2 * y3))) + x1 * ((x2 * y3 + y2 * x3) * (1 - d * (x2 * x3 * y2 * y3)))) * ((1 + d * (x1 * x2 * y1 * y2)) * (1 - d * (x1 * x2 * y1 * y2)) - d * ((x1 * y2 + y1 * x2) * x3 * ((y1 * y2 + x1 * x2) * y3))) = (x1 * x2^4 * y2^3 * x3 * y3^2 * d^2 + x1 * x2^4 * y2 * x3 * y3^2 * d + x1 * x2^3 * y2^4 * x3^2 * y3 * d^2 + x1 * x2^3 * y2^2 * y3^3 * d - x1 * x2^3 * y2^2 * y3 * d - x1 * x2^2 * y2^3 * x3^3 * d - x1 * x2^2 * y2^3 * x3 * d - x1 * x2 * y2^4 * x3^2 * y3 * d - y1 * x2^4 * y2^3 * x3^2 * y3 * d^2 - y1 * x2^4 * y2 * x3^2 * y3 * d - y1 * x2^3 * y2^4 * x3 * y3^2 * d^2 - y1 * x2^3 * y2^2 * x3^3 * d - y1 * x2^3 * y2^2 * x3 * d + y1 * x2^2 * y2^3 * y3^3 * d - y1 * x2^2 * y2^3 * y3 * d + y1 * x2 * y2^4 * x3 * y3^2 * d) * (y1 * y1 - (x1 * x1 + 1 + d * (x1 * x1 * (y1 * y1)))) + (- x1^3 * x2^2 * y2 * x3 * y3^2 * d - x1^3 * x2 * y2^2 * x3^2 * y3 * d + x1^3 * x2 * x3^2 * y3^3 * d + x1^3 * x2 * x3^2 * y3 - x1^3 * x2 * y3^3 + x1^3 * x2 * y3 + x1^3 * y2 * x3^3 * y3^2 * d + x1^3 * y2 * x3^3 - x1^3 * y2 * x3 * y3^2 + x1^3 * y2 * x3 + x1^2 * y1 * x2^2 * y2 * x3^2 * y3^3 * d^2 + x1^2 * y1 * x2^2 * y2 * x3^2 * y3 * d - x1^2 * y1 * x2 * y2^2 * x3^3 * y3^2 * d^2 + x1^2 * y1 * x2 * y2^2 * x3 * y3^2 * d + x1^2 * y1 * x2 * x3^3 * y3^2 * d + x1^2 * y1 * x2 * x3^3 - x1^2 * y1 * x2 * x3 * y3^2 + x1^2 * y1 * x2 * x3 + x1^2 * y1 * y2 * x3^2 * y3^3 * d + x1^2 * y1 * y2 * x3^2 * y3 - x1^2 * y1 * y2 * y3^3 + x1^2 * y1 * y2 * y3 - x1 * y1^2 * x2^2 * y2 * x3^3 * y3^2 * d^2 + x1 * y1^2 * x2^2 * y2 * x3 * y3^2 * d + x1 * y1^2 * x2 * y2^2 * x3^2 * y3^3 * d^2 + x1 * y1^2 * x2 * y2^2 * x3^2 * y3 * d - x1 * y1^2 * x2 * x3^2 * y3^3 * d - x1 * y1^2 * x2 * x3^2 * y3 + x1 * y1^2 * x2 * y3^3 - x1 * y1^2 * x2 * y3 - x1 * y1^2 * y2 * x3^3 * y3^2 * d - x1 * y1^2 * y2 * x3^3 + x1 * y1^2 * y2 * x3 * y3^2 - x1 * y1^2 * y2 * x3 - x1 * x2^2 * y2 * x3 * y3^2 * d - x1 * x2 * y2^2 * x3^2 * y3 * d + x1 * x2 * x3^2 * y3^3 * d + x1 * x2 * x3^2 * y3 - x1 * x2 * y3^3 + x1 * x2 * y3 + x1 * y2 * x3^3 * y3^2 * d + x1 * y2 * x3^3 - x1 * y2 * x3 * y3^2 + x1 * y2 * x3 - y1^3 * x2^2 * y2 * x3^2 * y3 * d - y1^3 * x2 * y2^2 * x3 * y3^2 * d - y1^3 * x2 * x3^3 * y3^2 * d - y1^3 * x2 * x3^3 + y1^3 * x2 * x3 * y3^2 - y1^3 * x2 * x3 - y1^3 * y2 * x3^2 * y3^3 * d - y1^3 * y2 * x3^2 * y3 + y1^3 * y2 * y3^3 - y1^3 * y2 * y3 + y1 * x2^2 * y2 * x3^2 * y3 * d + y1 * x2 * y2^2 * x3 * y3^2 * d + y1 * x2 * x3^3 * y3^2 * d + y1 * x2 * x3^3 - y1 * x2 * x3 * y3^2 + y1 * x2 * x3 + y1 * y2 * x3^2 * y3^3 * d + y1 * y2 * x3^2 * y3 - y1 * y2 * y3^3 + y1 * y2 * y3) * (y2 * y2 - (x2 * x2 + 1 + d * (x2 * x2 * (y2 * y2)))) + (- x1^3 * x2^3 * y3 - x1^3 * x2^2 * y2 * x3 + x1^3 * x2 * y2^2 * y3 - x1^3 * x2 * y3 + x1^3 * y2^3 * x3 - x1^3 * y2 * x3 - x1^2 * y1 * x2^3 * x3 - x1^2 * y1 * x2^2 * y2 * y3 * d - x1^2 * y1 * x2^2 * y2 * y3 + x1^2 * y1 * x2 * y2^2 * x3 * d + x1^2 * y1 * x2 * y2^2 * x3 - x1^2 * y1 * x2 * x3 + x1^2 * y1 * y2^3 * y3 - x1^2 * y1 * y2 * y3 + x1 * y1^2 * x2^3 * y3 + x1 * y1^2 * x2^2 * y2 * x3 * d + x1 * y1^2 * x2^2 * y2 * x3 - x1 * y1^2 * x2 * y2^2 * y3 * d - x1 * y1^2 * x2 * y2^2 * y3 + x1 * y1^2 * x2 * y3 - x1 * y1^2 * y2^3 * x3 + x1 * y1^2 * y2 * x3 - x1 * x2^3 * y3 - x1 * x2^2 * y2 * x3 + x1 * x2 * y2^2 * y3 - x1 * x2 * y3 + x1 * y2^3 * x3 - x1 * y2 * x3 + y1^3 * x2^3 * x3 + y1^3 * x2^2 * y2 * y3 - y1^3 * x2 * y2^2 * x3 + y1^3 * x2 * x3 - y1^3 * y2^3 * y3 + y1^3 * y2 * y3 - y1 * x2^3 * x3 - y1 * x2^2 * y2 * y3 + y1 * x2 * y2^2 * x3 - y1 * x2 * x3 + y1 * y2^3 * y3 - y1 * y2 * y3) * (y3 * y3 - (x3 * x3 + 1 + d * (x3 * x3 * (y3 * y3)))) := by grind
set_option maxHeartbeats 8000000 in
set_option maxRecDepth 20000 in
theorem closed {n : Nat} [NeZero n] (x1 y1 x2 y2 d : Fin n) : ((y1 * y2 + x1 * x2) * (1 + d * (x1 * x2 * y1 * y2))) * ((y1 * y2 + x1 * x2) * (1 + d * (x1 * x2 * y1 * y2))) - ((x1 * y2 + y1 * x2) * (1 - d * (x1 * x2 * y1 * y2))) * ((x1 * y2 + y1 * x2) * (1 - d * (x1 * x2 * y1 * y2))) - ((1 + d * (x1 * x2 * y1 * y2)) * (1 - d * (x1 * x2 * y1 * y2))) * ((1 + d * (x1 * x2 * y1 * y2)) * (1 - d * (x1 * x2 * y1 * y2))) - d * ((x1 * y2 + y1 * x2) * (x1 * y2 + y1 * x2) * ((y1 * y2 + x1 * x2) * (y1 * y2 + x1 * x2))) = (x1^2 * y1^2 * x2^4 * y2^4 * d^3 - x1^2 * x2^4 * y2^4 * d^2 - x1^2 * x2^4 * y2^2 * d + x1^2 * x2^2 * y2^4 * d + y1^2 * x2^4 * y2^4 * d^2 + y1^2 * x2^4 * y2^2 * d - y1^2 * x2^2 * y2^4 * d - x2^4 * y2^4 * d^2 - 2 * x2^4 * y2^4 * d - 2 * x2^4 * y2^2 + x2^4 + 2 * x2^2 * y2^4 - 2 * x2^2 * y2^2 * d - 4 * x2^2 * y2^2 + y2^4) * (y1 * y1 - (x1 * x1 + 1 + d * (x1 * x1 * (y1 * y1)))) + (x1^4 * x2^2 * y2^2 * d + 2 * x1^2 * x2^2 * y2^2 * d + 2 * x1^2 * x2^2 * y2^2 - x1^2 * x2^2 + x1^2 * y2^2 + y1^4 * x2^2 * y2^2 * d - 2 * y1^2 * x2^2 * y2^2 * d - 2 * y1^2 * x2^2 * y2^2 + y1^2 * x2^2 - y1^2 * y2^2 + x2^2 * y2^2 * d + 2 * x2^2 * y2^2 - x2^2 + y2^2 + 1) * (y2 * y2 - (x2 * x2 + 1 + d * (x2 * x2 * (y2 * y2)))) := by grind
end Go.Proofs.YtcefdcjpddohaaaDoor
namespace Go.Proofs.YtcefdcjpddohaaaDoor

section
variable {n : Nat} [NeZero n]
/-- On the curve; a sum. -/
def OnE (d x y : Fin n) : Prop := y * y = x * x + 1 + d * (x * x * (y * y))
structure SmE (d x1 y1 x2 y2 x3 y3 : Fin n) : Prop where
  x : x3 * (1 + d * (x1 * x2 * y1 * y2)) = x1 * y2 + y1 * x2
  y : y3 * (1 - d * (x1 * x2 * y1 * y2)) = y1 * y2 + x1 * x2
/-- What is asked of the numbers. -/
structure FldE (d I : Fin n) : Prop where
  dom : ∀ a b : Fin n, a * b = 0 → a = 0 ∨ b = 0
  one : (1 : Fin n) ≠ 0
  two : (1 + 1 : Fin n) ≠ 0
  root : I * I = -1
  nons : ∀ s t : Fin n, s * s = d * (t * t) → t = 0
theorem comp_sq (x1 y1 x2 y2 d e I : Fin n) (h1 : OnE d x1 y1) (h2 : OnE d x2 y2) (hI : I * I = -1) (he : e * e = 1) (hm : d * (x1 * x2 * y1 * y2) = e) :
    (I * x1 + e * y1) * (I * x1 + e * y1) = d * ((x1 * y1 * (I * x2 + y2)) * (x1 * y1 * (I * x2 + y2))) := by
  simp only [OnE] at *
  grind
theorem FldE.mul_ne {d I : Fin n} (F : FldE d I) {a b : Fin n} (ha : a ≠ 0) (hb : b ≠ 0) : a * b ≠ 0 := fun h => (F.dom a b h).elim ha hb
theorem comp_ne {d I : Fin n} (F : FldE d I) {x1 y1 x2 y2 e : Fin n} (h1 : OnE d x1 y1) (h2 : OnE d x2 y2) (he : e * e = 1) : d * (x1 * x2 * y1 * y2) ≠ e := by
  intro hm
  have he0 : e ≠ 0 := fun h => F.one (by rw [← he, h]; grind)
  have hx1 : x1 ≠ 0 := fun h => he0 (by rw [← hm, h]; grind)
  have hy1 : y1 ≠ 0 := fun h => he0 (by rw [← hm, h]; grind)
  have hy2 : y2 ≠ 0 := fun h => he0 (by rw [← hm, h]; grind)
  have h3 := F.nons _ _ (comp_sq x1 y1 x2 y2 d e I h1 h2 F.root he hm)
  have h2' : OnE d (-x2) y2 := by simp only [OnE] at *; grind
  have h4 := F.nons _ _ (comp_sq x1 y1 (-x2) y2 d (-e) I h1 h2' F.root (by grind) (by rw [← hm]; grind))
  have h5 : I * x2 + y2 = 0 := by
    rcases F.dom _ _ h3 with h | h
    · exact absurd h (F.mul_ne hx1 hy1)
    · exact h
  have h6 : I * (-x2) + y2 = 0 := by
    rcases F.dom _ _ h4 with h | h
    · exact absurd h (F.mul_ne hx1 hy1)
    · exact h
  have h7 : (1 + 1) * y2 = 0 := by
    have e1 : (1 + 1) * y2 = (I * x2 + y2) + (I * (-x2) + y2) := by grind
    rw [e1, h5, h6]; grind
  rcases F.dom _ _ h7 with h | h
  · exact F.two h
  · exact hy2 h
theorem comp_p {d I : Fin n} (F : FldE d I) {x1 y1 x2 y2 : Fin n} (h1 : OnE d x1 y1) (h2 : OnE d x2 y2) : 1 + d * (x1 * x2 * y1 * y2) ≠ 0 := fun h =>
  comp_ne F h1 h2 (e := -1) (by grind) (by grind)
theorem comp_m {d I : Fin n} (F : FldE d I) {x1 y1 x2 y2 : Fin n} (h1 : OnE d x1 y1) (h2 : OnE d x2 y2) : 1 - d * (x1 * x2 * y1 * y2) ≠ 0 := fun h =>
  comp_ne F h1 h2 (e := 1) (by grind) (by grind)
theorem FldE.cancel {d I : Fin n} (F : FldE d I) {a b c : Fin n} (hc : c ≠ 0) (h : a * c = b * c) : a = b := by
  have h1 : (a - b) * c = 0 := by grind
  rcases F.dom _ _ h1 with h2 | h2
  · grind
  · exact absurd h2 hc
theorem sm_only {d I : Fin n} (F : FldE d I) {x1 y1 x2 y2 x3 y3 x4 y4 : Fin n} (h1 : OnE d x1 y1) (h2 : OnE d x2 y2) (h : SmE d x1 y1 x2 y2 x3 y3) (k : SmE d x1 y1 x2 y2 x4 y4) : x3 = x4 ∧ y3 = y4 :=
  ⟨F.cancel (comp_p F h1 h2) (h.x.trans k.x.symm), F.cancel (comp_m F h1 h2) (h.y.trans k.y.symm)⟩
theorem sm_comm {d x1 y1 x2 y2 x3 y3 : Fin n} (h : SmE d x1 y1 x2 y2 x3 y3) : SmE d x2 y2 x1 y1 x3 y3 := by
  constructor
  · have := h.x; grind
  · have := h.y; grind
theorem sm_zero {d x y : Fin n} : SmE d x y 0 1 x y := by
  constructor <;> grind
theorem on_zero {d : Fin n} : OnE d 0 1 := by simp only [OnE]; grind
theorem sm_neg {d x y : Fin n} (h : OnE d x y) : SmE d x y (-x) y 0 1 := by
  simp only [OnE] at h
  constructor <;> grind
theorem on_neg {d x y : Fin n} (h : OnE d x y) : OnE d (-x) y := by
  simp only [OnE] at *; grind

theorem on_zero_iff {d x y : Fin n} : OnE d x y ↔ y * y - (x * x + 1 + d * (x * x * (y * y))) = 0 := by
  simp only [OnE]
  constructor <;> intro h <;> grind
theorem closed0 {x1 y1 x2 y2 d : Fin n} (h1 : OnE d x1 y1) (h2 : OnE d x2 y2) : ((y1 * y2 + x1 * x2) * (1 + d * (x1 * x2 * y1 * y2))) * ((y1 * y2 + x1 * x2) * (1 + d * (x1 * x2 * y1 * y2))) - ((x1 * y2 + y1 * x2) * (1 - d * (x1 * x2 * y1 * y2))) * ((x1 * y2 + y1 * x2) * (1 - d * (x1 * x2 * y1 * y2))) - ((1 + d * (x1 * x2 * y1 * y2)) * (1 - d * (x1 * x2 * y1 * y2))) * ((1 + d * (x1 * x2 * y1 * y2)) * (1 - d * (x1 * x2 * y1 * y2))) - d * ((x1 * y2 + y1 * x2) * (x1 * y2 + y1 * x2) * ((y1 * y2 + x1 * x2) * (y1 * y2 + x1 * x2))) = 0 := by
  rw [closed, on_zero_iff.1 h1, on_zero_iff.1 h2]; grind
theorem assoc_x0 {x1 y1 x2 y2 x3 y3 d : Fin n} (h1 : OnE d x1 y1) (h2 : OnE d x2 y2) (h3 : OnE d x3 y3) : ((x1 * y2 + y1 * x2) * (1 - d * (x1 * x2 * y1 * y2)) * y3 + (y1 * y2 + x1 * x2) * (1 + d * (x1 * x2 * y1 * y2)) * x3) * ((1 + d * (x2 * x3 * y2 * y3)) * (1 - d * (x2 * x3 * y2 * y3)) + d * (x1 * (x2 * y3 + y2 * x3) * (y1 * (y2 * y3 + x2 * x3)))) - (x1 * ((y2 * y3 + x2 * x3) * (1 + d * (x2 * x3 * y2 * y3))) + y1 * ((x2 * y3 + y2 * x3) * (1 - d * (x2 * x3 * y2 * y3)))) * ((1 + d * (x1 * x2 * y1 * y2)) * (1 - d * (x1 * x2 * y1 * y2)) + d * ((x1 * y2 + y1 * x2) * x3 * ((y1 * y2 + x1 * x2) * y3))) = 0 := by
  rw [assoc_x, on_zero_iff.1 h1, on_zero_iff.1 h2, on_zero_iff.1 h3]; grind
theorem assoc_y0 {x1 y1 x2 y2 x3 y3 d : Fin n} (h1 : OnE d x1 y1) (h2 : OnE d x2 y2) (h3 : OnE d x3 y3) : ((y1 * y2 + x1 * x2) * (1 + d * (x1 * x2 * y1 * y2)) * y3 + (x1 * y2 + y1 * x2) * (1 - d * (x1 * x2 * y1 * y2)) * x3) * ((1 + d * (x2 * x3 * y2 * y3)) * (1 - d * (x2 * x3 * y2 * y3)) - d * (x1 * (x2 * y3 + y2 * x3) * (y1 * (y2 * y3 + x2 * x3)))) - (y1 * ((y2 * y3 + x2 * x3) * (1 + d * (x2 * x3 * y2 * y3))) + x1 * ((x2 * y3 + y2 * x3) * (1 - d * (x2 * x3 * y2 * y3)))) * ((1 + d * (x1 * x2 * y1 * y2)) * (1 - d * (x1 * x2 * y1 * y2)) - d * ((x1 * y2 + y1 * x2) * x3 * ((y1 * y2 + x1 * x2) * y3))) = 0 := by
  rw [assoc_y, on_zero_iff.1 h1, on_zero_iff.1 h2, on_zero_iff.1 h3]; grind
theorem sm_on {d I : Fin n} (F : FldE d I) {x1 y1 x2 y2 rx ry : Fin n} (h1 : OnE d x1 y1) (h2 : OnE d x2 y2) (h : SmE d x1 y1 x2 y2 rx ry) : OnE d rx ry := by
  have hc := closed0 h1 h2
  have hp := comp_p F h1 h2
  have hm := comp_m F h1 h2
  have hx := h.x
  have hy := h.y
  generalize x1 * y2 + y1 * x2 = X at *
  generalize y1 * y2 + x1 * x2 = Y at *
  generalize 1 + d * (x1 * x2 * y1 * y2) = P at *
  generalize 1 - d * (x1 * x2 * y1 * y2) = M at *
  have e : (P * M) * (P * M) * (ry * ry - (rx * rx + 1 + d * (rx * rx * (ry * ry)))) = (ry * M * P) * (ry * M * P) - (rx * P * M) * (rx * P * M) - (P * M) * (P * M) - d * ((rx * P) * (rx * P) * ((ry * M) * (ry * M))) := by grind
  rw [hx, hy, hc] at e
  rcases F.dom _ _ e with h | h
  · exact absurd h (F.mul_ne (F.mul_ne hp hm) (F.mul_ne hp hm))
  · exact on_zero_iff.2 h
theorem cross_of {a b N O : Fin n} (h : a * N * O - b * O * N = 0) : a * (N * O) = b * (N * O) := by grind
theorem sm_assoc {d I : Fin n} (F : FldE d I) {x1 y1 x2 y2 x3 y3 sx sy ux uy tx ty vx vy : Fin n} (h1 : OnE d x1 y1) (h2 : OnE d x2 y2) (h3 : OnE d x3 y3)
    (hs : SmE d x1 y1 x2 y2 sx sy) (ht : SmE d sx sy x3 y3 tx ty) (hu : SmE d x2 y2 x3 y3 ux uy) (hv : SmE d x1 y1 ux uy vx vy) : tx = vx ∧ ty = vy := by
  have os := sm_on F h1 h2 hs
  have ou := sm_on F h2 h3 hu
  have p1 := comp_p F h1 h2
  have m1 := comp_m F h1 h2
  have p2 := comp_p F h2 h3
  have m2 := comp_m F h2 h3
  have p3 := comp_p F os h3
  have m3 := comp_m F os h3
  have p4 := comp_p F h1 ou
  have m4 := comp_m F h1 ou
  have ax := assoc_x0 h1 h2 h3
  have ay := assoc_y0 h1 h2 h3
  have sX := hs.x
  have sY := hs.y
  have uX := hu.x
  have uY := hu.y
  have tX := ht.x
  have tY := ht.y
  have vX := hv.x
  have vY := hv.y
  generalize x1 * y2 + y1 * x2 = X12 at *
  generalize y1 * y2 + x1 * x2 = Y12 at *
  generalize x2 * y3 + y2 * x3 = X23 at *
  generalize y2 * y3 + x2 * x3 = Y23 at *
  generalize 1 + d * (x1 * x2 * y1 * y2) = A at *
  generalize 1 - d * (x1 * x2 * y1 * y2) = B at *
  generalize 1 + d * (x2 * x3 * y2 * y3) = C at *
  generalize 1 - d * (x2 * x3 * y2 * y3) = D at *
  have eL : A * B * (1 + d * (sx * x3 * sy * y3)) = A * B + d * ((sx * A) * x3 * ((sy * B) * y3)) := by grind
  have eM : A * B * (1 - d * (sx * x3 * sy * y3)) = A * B - d * ((sx * A) * x3 * ((sy * B) * y3)) := by grind
  have fL : C * D * (1 + d * (x1 * ux * y1 * uy)) = C * D + d * (x1 * (ux * C) * (y1 * (uy * D))) := by grind
  have fM : C * D * (1 - d * (x1 * ux * y1 * uy)) = C * D - d * (x1 * (ux * C) * (y1 * (uy * D))) := by grind
  rw [sX, sY] at eL eM
  rw [uX, uY] at fL fM
  have gL : tx * (A * B * (1 + d * (sx * x3 * sy * y3))) = (sx * A) * B * y3 + (sy * B) * A * x3 := by
    have : tx * (A * B * (1 + d * (sx * x3 * sy * y3))) = A * B * (tx * (1 + d * (sx * x3 * sy * y3))) := by grind
    rw [this, tX]; grind
  have gM : ty * (A * B * (1 - d * (sx * x3 * sy * y3))) = (sy * B) * A * y3 + (sx * A) * B * x3 := by
    have : ty * (A * B * (1 - d * (sx * x3 * sy * y3))) = A * B * (ty * (1 - d * (sx * x3 * sy * y3))) := by grind
    rw [this, tY]; grind
  have kL : vx * (C * D * (1 + d * (x1 * ux * y1 * uy))) = x1 * ((uy * D) * C) + y1 * ((ux * C) * D) := by
    have : vx * (C * D * (1 + d * (x1 * ux * y1 * uy))) = C * D * (vx * (1 + d * (x1 * ux * y1 * uy))) := by grind
    rw [this, vX]; grind
  have kM : vy * (C * D * (1 - d * (x1 * ux * y1 * uy))) = y1 * ((uy * D) * C) + x1 * ((ux * C) * D) := by
    have : vy * (C * D * (1 - d * (x1 * ux * y1 * uy))) = C * D * (vy * (1 - d * (x1 * ux * y1 * uy))) := by grind
    rw [this, vY]; grind
  rw [sX, sY] at gL gM
  rw [uX, uY] at kL kM
  have nL := F.mul_ne (F.mul_ne p1 m1) p3
  have nM := F.mul_ne (F.mul_ne p1 m1) m3
  have oL := F.mul_ne (F.mul_ne p2 m2) p4
  have oM := F.mul_ne (F.mul_ne p2 m2) m4
  rw [eL] at gL nL
  rw [eM] at gM nM
  rw [fL] at kL oL
  rw [fM] at kM oM
  rw [← gL, ← kL] at ax
  rw [← gM, ← kM] at ay
  constructor
  · exact F.cancel (F.mul_ne nL oL) (cross_of ax)
  · exact F.cancel (F.mul_ne nM oM) (cross_of ay)
end
end Go.Proofs.YtcefdcjpddohaaaDoor
namespace Go.Proofs.YtcefdcjpddohaaaDoor
open Go.RowKit

theorem Tryd.infoByte : (Tryd.prog.info? 5).map (fun i => (i.zero, i.size, i.bytes)) = some (some (.int .u8 0), 1, 1) := by kernel_rfl

/-- How many bytes of a number are written. -/
def wd (n : Int) : Nat := (min (max n 0) 8).toNat
theorem wd_le (n : Int) : wd n ≤ 8 := by unfold wd; omega

theorem width_any (n : Int) (w : World) :
    Calls Tryd.prog 57 #[.int .i64 n] w fun e w' => e = .returned (.int .i64 (wd n)) ∧ w = w' := by
  go_enter Tryd.func57, Tryd.ntmps57
  go_wp2
  all_goals go_ret
  all_goals exact ⟨by unfold wd; first | go_num | (congr 2; omega), rfl⟩

theorem roomier_any (A : Option Addr) (l : List UInt8) (n c k : Nat) (w : World) (ha : Byt w w.heap.size A l) (hl : l.length = n) (hn : n ≤ 140737488355328) (hk : k ≤ 8) :
    Calls Tryd.prog 58 #[.slice A n c, .int .i64 (k : Int)] w fun e w' => ∃ A' c', e = .returned (.slice A' n c') ∧ Res w' w.heap.size 5 A' n c' l ∧ Below w.heap.size w w' := by
  obtain ⟨i0, hi, hz0, hz1, hz2⟩ := info_parts Tryd.infoByte
  obtain ⟨w1, hrun, hg1, hb1, hs1⟩ := make_bytes (P := Tryd.prog) Tryd.underlying24 hi hz0 hz1 hz2 n (n + k) (n : Int) ((n : Int) + (k : Int)) rfl (by omega) (by omega) (by omega) w
  have HL := Lib.hid hl
  clear hl hi hz0 hz1 hz2
  go_enter Tryd.func58, Tryd.ntmps58
  go_wp2_with (with_reducible refine wpList_copy_splice rfl (.tmp 13) (.tmp 14) 24 24 rfl 5 Tryd.underlying24 (by kernel_rfl) (some ⟨w.heap.size, 0, none⟩) A n (n + k) n c rfl rfl w.heap.size 0 (bv (List.replicate (n + k) 0)) 5 hg1.out (bv l) (by rw [bv_len, HL.out]; exact (Nat.min_self n).symm) ((ha.below hb1.out).src _ _ rfl) (by simp [bv, HL.out]) (bv_one _) w.heap.size w hb1.out (Nat.le_refl _) ?_)
  intro w2 hg2 hb2
  go_wp2
  go_ret
  refine ⟨_, _, rfl, Res.row (Nat.le_refl _) hg2.out (by omega) (by omega) ?_ HL.out ?_, hb2⟩
  · simp [length_splice, bv, HL.out]
  · have := HL.out
    simp [splice, bv, ← this]
end Go.Proofs.YtcefdcjpddohaaaDoor
namespace Go.Proofs.YtcefdcjpddohaaaDoor
open Go.RowKit

/-- The lowest n bytes of v, the lowest first; the highest first. -/
def le (v : Nat) : Nat → List UInt8
  | 0 => []
  | n + 1 => le v n ++ [UInt8.ofNat (v / 2 ^ (8 * n))]
def be (v : Nat) : Nat → List UInt8
  | 0 => []
  | n + 1 => UInt8.ofNat (v / 2 ^ (8 * n)) :: be v n
theorem le_len (v n : Nat) : (le v n).length = n := by induction n with | zero => rfl | succ n ih => simp [le, ih]
theorem be_len (v n : Nat) : (be v n).length = n := by induction n with | zero => rfl | succ n ih => simp [be, ih]
theorem be_rev (v n : Nat) : be v n = (le v n).reverse := by induction n with | zero => rfl | succ n ih => simp [be, le, ih]

end Go.Proofs.YtcefdcjpddohaaaDoor
namespace Go.Proofs.YtcefdcjpddohaaaDoor
open Go.RowKit

/-- The number that bytes tell, the highest first; the lowest first. -/
def bn (l : List UInt8) : Nat := l.foldl (fun a b => a * 256 + b.toNat) 0
theorem bn_snoc (l : List UInt8) (b : UInt8) : bn (l ++ [b]) = bn l * 256 + b.toNat := by simp [bn]
theorem bn_lt : ∀ (n : Nat) (l : List UInt8), l.length = n → bn l < 256 ^ n
  | 0, l, h => by
    obtain rfl := List.eq_nil_of_length_eq_zero h
    simp [bn]
  | n + 1, l, h => by
    have hl : l ≠ [] := by intro e; subst e; simp at h
    have e := List.dropLast_concat_getLast hl
    rw [← e, bn_snoc]
    have h1 := bn_lt n l.dropLast (by simp; omega)
    have h2 := (l.getLast hl).toNat_lt
    rw [Nat.pow_succ]; omega
def ln : List UInt8 → Nat
  | [] => 0
  | b :: r => b.toNat + 256 * ln r
theorem ln_rev (l : List UInt8) : ln l = bn l.reverse := by
  induction l with
  | nil => rfl
  | cons b r ih => rw [ln, ih, List.reverse_cons, bn_snoc]; omega
theorem ln_snoc (l : List UInt8) (b : UInt8) : ln (l ++ [b]) = ln l + b.toNat * 256 ^ l.length := by
  induction l with
  | nil => simp [ln]
  | cons a r ih =>
    simp only [List.cons_append, ln, ih, List.length_cons, Nat.pow_succ]
    rw [Nat.mul_add, Nat.add_assoc, Nat.mul_left_comm, Nat.mul_comm 256 (256 ^ r.length)]
theorem ln_lt (n : Nat) (l : List UInt8) (h : l.length = n) : ln l < 256 ^ n := by rw [ln_rev]; exact bn_lt n _ (by simpa using h)

theorem take_at {l : List UInt8} {k : Nat} {b : UInt8} (h : l[k]? = some b) : l.take (k + 1) = l.take k ++ [b] := by
  obtain ⟨hk, rfl⟩ := List.getElem?_eq_some_iff.1 h
  rw [List.take_succ_eq_append_getElem hk]

theorem pow_le8 (k : Nat) (hk : k < 8) : 256 ^ k ≤ 72057594037927936 := by
  have h1 : 256 ^ k ≤ 256 ^ 7 := Nat.pow_le_pow_right (by decide) (by omega)
  have h2 : (256 : Nat) ^ 7 = 72057594037927936 := by decide
  omega

theorem or_low (V x : Nat) (hV : V ≤ 72057594037927935) (hx : x < 256) : bits .or .u64 ((V : Int) * 256) (x : Int) = ((V * 256 + x : Nat) : Int) := by
  have e : ((V : Int) * 256) = ((V * 256 : Nat) : Int) := by omega
  rw [e, u64_or_nat _ _ (by omega) (by omega), nat_join 8 _ _ (by omega) (by omega)]
theorem or_high (k V x : Nat) (hk : k < 8) (hV : V < 256 ^ k) (hx : x < 256) : bits .or .u64 (V : Int) (IntKind.u64.wrap ((x : Int) * 2 ^ (8 * k))) = ((V + x * 256 ^ k : Nat) : Int) := by
  have e0 : (2 : Nat) ^ (8 * k) = 256 ^ k := by rw [Nat.pow_mul]
  have e : ((x : Int) * 2 ^ (8 * k)) = ((x * 2 ^ (8 * k) : Nat) : Int) := by simp
  have h1 := pow_le8 k hk
  have h2 : x * 256 ^ k ≤ 255 * 256 ^ k := Nat.mul_le_mul_right _ (by omega)
  have e2 : ∀ y : Nat, y < 18446744073709551616 → IntKind.u64.wrap (y : Int) = (y : Int) := by
    intro y hy; simp [IntKind.wrap, IntKind.bits, IntKind.signed]; omega
  rw [e, e0, e2 _ (by omega), u64_or_nat _ _ (by omega) (by omega), Nat.or_comm, nat_join (8 * k) _ _ (by rw [e0]; exact Nat.mul_mod_left _ _) (by rw [e0]; exact hV), Nat.add_comm]

end Go.Proofs.YtcefdcjpddohaaaDoor
namespace Go.Proofs.YtcefdcjpddohaaaDoor
open Go.RowKit

section
variable {P : Program} {t e n : Nat} (hu : P.underlying t = some (.array n e)) (hs : (P.info? e).map (·.size) = some 1) (g o : Nat)
include hu hs
theorem cut_lh (lo hi : Nat) (L H : Int) (hL : L = (lo : Int)) (hH : H = (hi : Int)) (h1 : lo ≤ hi) (h2 : hi ≤ n) (h3 : lo < n) (w : World) :
    (Instr.sliceAt t (.pointer (some ⟨g, o, none⟩)) (some (.int .i64 L)) (some (.int .i64 H)) none).run P w = .ok (.slice (some ⟨g, o + lo, none⟩) (hi - lo) (n - lo)) w := by
  subst hL hH
  obtain ⟨i, hi', hi2⟩ := Option.map_eq_some_iff.1 hs
  have ht : P.underlying t = some (.array (P.arrayLen t) (P.elem t)) := by simp [Program.arrayLen, Program.elem, hu]
  have hn : P.arrayLen t = n := by simp [Program.arrayLen, hu]
  have he : P.elem t = e := by simp [Program.elem, hu]
  rw [run_sliceAt_array_lh w t _ ht .i64 .i64 _ _ (by omega) (by omega) (by omega), hn, he]
  simp [sizeOf, typeInfo, hi', hi2, slicedAt, addr_add, show ¬ n = lo by omega]
theorem cut_l (lo : Nat) (L : Int) (hL : L = (lo : Int)) (h3 : lo < n) (w : World) :
    (Instr.sliceAt t (.pointer (some ⟨g, o, none⟩)) (some (.int .i64 L)) none none).run P w = .ok (.slice (some ⟨g, o + lo, none⟩) (n - lo) (n - lo)) w := by
  subst hL
  obtain ⟨i, hi', hi2⟩ := Option.map_eq_some_iff.1 hs
  have ht : P.underlying t = some (.array (P.arrayLen t) (P.elem t)) := by simp [Program.arrayLen, Program.elem, hu]
  have hn : P.arrayLen t = n := by simp [Program.arrayLen, hu]
  have he : P.elem t = e := by simp [Program.elem, hu]
  rw [run_sliceAt_array_l w t _ ht .i64 _ (by omega) (by omega), hn, he]
  simp [sizeOf, typeInfo, hi', hi2, slicedAt, addr_add, show ¬ n = lo by omega]
theorem cut_all (h3 : 0 < n) (w : World) :
    (Instr.sliceAt t (.pointer (some ⟨g, o, none⟩)) none none none).run P w = .ok (.slice (some ⟨g, o, none⟩) n n) w := by
  obtain ⟨i, hi', hi2⟩ := Option.map_eq_some_iff.1 hs
  have ht : P.underlying t = some (.array (P.arrayLen t) (P.elem t)) := by simp [Program.arrayLen, Program.elem, hu]
  have hn : P.arrayLen t = n := by simp [Program.arrayLen, hu]
  have he : P.elem t = e := by simp [Program.elem, hu]
  rw [run_sliceAt_array_all w t _ ht, hn, he]
  simp [sizeOf, typeInfo, hi', hi2, slicedAt, addr_add, show ¬ n = 0 by omega]
end
theorem Tryd.sizeByte : (Tryd.prog.info? 5).map (·.size) = some 1 := by kernel_rfl
theorem Tryd.sizeU32 : (Tryd.prog.info? 116).map (·.size) = some 1 := by kernel_rfl
/-- The element of an array's value. -/
theorem at_agg {P : Program} {t e n : Nat} {k : IntKind} (hu : P.underlying t = some (.array n e)) (hs : (P.info? e).map (·.size) = some 1) (he : P.underlying e = some (.int k)) (cs : List Value) (j : Nat) (v : Value) (I : Int) (hI : I = (j : Int)) (hj : j < n) (hv : cs[j]? = some v) (w : World) :
    (Instr.index t (.agg cs.toArray) (.int .i64 I)).run P w = .ok v w := by
  subst hI
  obtain ⟨i, hi', hi2⟩ := Option.map_eq_some_iff.1 hs
  simp [Instr.index, asIntOf, run_underlying hu, sizeOf, typeInfo, hi', hi2, part, isAgg, run_underlying he, hv, hj]
theorem getD_lt {l : List Nat} {B : Nat} (h : ∀ x ∈ l, x < B) (h0 : 0 < B) (k : Nat) : l.getD k 0 < B := by
  rw [List.getD_eq_getElem?_getD]
  by_cases hk : k < l.length
  · rw [List.getElem?_eq_getElem hk]; exact h _ (List.getElem_mem hk)
  · rw [List.getElem?_eq_none (by omega)]; exact h0
/-- Words as the cells of a row. -/
def u32v (l : List Nat) : List Value := l.map fun (x : Nat) => Value.int .u32 (x : Int)
/-- What a new variable holds. -/
def z32 : List UInt8 := List.replicate 32 0
def z64 : List UInt8 := List.replicate 64 0
theorem z32_len : z32.length = 32 := rfl
theorem z64_len : z64.length = 64 := rfl
/-- Of what was there nothing but block g has turned. -/
def But (g : Nat) (w w' : World) : Prop := w.grownBy w' (some g)
theorem But.refl (g : Nat) (w : World) : But g w w := ⟨rfl, rfl, rfl, Nat.le_refl _, fun _ _ _ => rfl⟩
theorem But.trans {g : Nat} {a b c : World} (h : But g a b) (k : But g b c) : But g a c :=
  ⟨k.os.trans h.os, k.tape.trans h.tape, k.output.trans h.output, Nat.le_trans h.size k.size, fun i hi hn => (k.block i (Nat.lt_of_lt_of_le hi h.size) hn).trans (h.block i hi hn)⟩
theorem But.of_below {g B : Nat} {w w' : World} (h : Below B w w') (hB : w.heap.size ≤ B) : But g w w' := ⟨h.os, h.tape, h.output, h.size, fun i hi _ => h.block i (by omega)⟩
theorem But.below {g B : Nat} {a w w' : World} (h : Below B a w) (k : But g w w') (hB : B ≤ g) (hs : B ≤ w.heap.size) : Below B a w' :=
  h.trans ⟨k.os, k.tape, k.output, k.size, fun i hi => k.block i (by omega) (fun e => by injection e; omega)⟩
theorem But.below_to {g B : Nat} {a b c : World} (h : But g a b) (k : Below B b c) (hB : b.heap.size ≤ B) : But g a c := h.trans (But.of_below k hB)
theorem But.set {g i : Nat} {a w : World} (h : But g a w) (u : Value) : But g a (w.setCell ⟨g, i, none⟩ u) :=
  h.trans ⟨rfl, rfl, rfl, by simp [World.setCell], fun k _ hn => heap_setCell_other w _ k u (fun e => hn (by rw [e]))⟩
theorem But.alloc {g : Nat} {a w : World} (h : But g a w) (o : Obj) : But g a (w.alloc o) := h.trans (World.grownBy_alloc w o _)
theorem But.drew {g : Nat} {a w : World} (h : But g a w) : But g a w.drew := ⟨h.os, h.tape, h.output, h.size, h.block⟩
theorem But.row {g : Nat} {a w : World} (h : But g a w) (cs : Array Value) : But g a (w.setRow g cs) :=
  h.trans ⟨rfl, rfl, rfl, by simp [World.setRow], fun k _ hn => setRow_other w g k cs (fun e => hn (by rw [e]))⟩
theorem Byt.but {w w' : World} {g B : Nat} {A : Option Addr} {l : List UInt8} (h : Byt w B A l) (hb : But g w w') (hB : B ≤ w.heap.size) (hg : B ≤ g) : Byt w' B A l :=
  h.keep fun p hp => World.cell?_of_block (hb.block p.block (by omega) (fun e => by injection e; omega))
theorem u32v_len (l : List Nat) : (u32v l).length = l.length := by simp [u32v]
theorem u32v_at (l : List Nat) (k : Nat) : (u32v l)[k]? = l[k]?.map fun (x : Nat) => Value.int .u32 (x : Int) := by simp [u32v]
theorem u32v_set (l : List Nat) (k x : Nat) : (u32v l).set k (.int .u32 (x : Int)) = u32v (l.set k x) := by simp [u32v, List.map_set]
theorem u32v_one (l : List Nat) : ∀ u ∈ u32v l, u.oneCell' = true := by
  intro u hu
  obtain ⟨b, _, rfl⟩ := List.mem_map.1 hu
  rfl
def natAt (l : List Nat) (k : Nat) : Nat := l.getD k 0
theorem natAt_lt {l : List Nat} (h : ∀ x ∈ l, x < 4294967296) (k : Nat) : natAt l k < 4294967296 := getD_lt h (by decide) k
theorem natAt_at {l : List Nat} {n k : Nat} (h : l.length = n) (hk : k < n) : (u32v l)[k]? = some (.int .u32 ((natAt l k : Nat) : Int)) := by
  have hl : k < l.length := by omega
  simp [u32v_at, natAt, List.getElem?_eq_getElem hl]
/-- Bytes that lie outside block g. -/
def Src (w : World) (g : Nat) (A : Option Addr) (m : List UInt8) : Prop :=
  m = [] ∨ ∃ b o, A = some ⟨b, o, none⟩ ∧ b ≠ g ∧ b < w.heap.size ∧ ∀ j x, m[j]? = some x → w.cell? ⟨b, o + j, none⟩ = some (.int .u8 (x.toNat : Int))
section
variable {w w' : World} {g B : Nat} {A : Option Addr} {m : List UInt8}
theorem Src.but (h : Src w g A m) (hb : But g w w') : Src w' g A m := by
  rcases h with h | ⟨b, o, hA, hne, hlt, hc⟩
  · exact .inl h
  · exact .inr ⟨b, o, hA, hne, Nat.lt_of_lt_of_le hlt hb.size, fun j x hj => (World.cell?_of_block (w := w) (hb.block b hlt (fun e => hne (by injection e)))).trans (hc j x hj)⟩
theorem Src.byt (h : Src w g A m) : Byt w w.heap.size A m := by
  rcases h with h | ⟨b, o, hA, hne, hlt, hc⟩
  · exact .inl h
  · exact .inr ⟨b, o, hA, hlt, hc⟩
theorem Byt.toSrc (h : Byt w B A m) (hB : B ≤ w.heap.size) (hg : B ≤ g) : Src w g A m := by
  rcases h with h | ⟨b, o, hA, hlt, hc⟩
  · exact .inl h
  · exact .inr ⟨b, o, hA, by omega, by omega, hc⟩
/-- The rest of a slice. -/
theorem Src.cut (h : Src w g A m) (t c : Nat) (hc : m.length ≤ c) : Src w g (if c = t then A else A.map (·.add t)) (m.drop t) := by
  rcases h with h | ⟨b, o, rfl, hne, hlt, hcell⟩
  · subst h; exact .inl (by simp)
  · by_cases ht : c = t
    · exact .inl (List.drop_eq_nil_of_le (by omega))
    · rw [if_neg ht]
      refine .inr ⟨b, o + t, by rw [Option.map_some, addr_add], hne, hlt, fun j x hj => ?_⟩
      rw [List.getElem?_drop] at hj
      rw [Nat.add_assoc]; exact hcell _ x hj
end
theorem run_cut_l {P : Program} {T E : TypeId} (hT : P.underlying T = some (.slice E)) (hs : (P.info? E).map (·.size) = some 1) (A : Option Addr) (n c t : Nat) (L : Int) (hL : L = (t : Int)) (ht : t ≤ n) (w : World) :
    (Instr.slice T (.slice A n c) (some (.int .i64 L)) none none).run P w = .ok (.slice (if c = t then A else A.map (·.add t)) (n - t) (c - t)) w := by
  subst hL
  obtain ⟨i, hi', hi2⟩ := Option.map_eq_some_iff.1 hs
  have he : P.elem T = E := by simp [Program.elem, hT]
  rw [run_slice_l w T A n c (by rw [he]; exact hT) .i64 _ (by omega) (by omega), he]
  simp [sizeOf, typeInfo, hi', hi2, sliced]

/-- copy into a block that is known whole, as one step of a region that draws its order. -/
theorem step_copy_but {P : Program} {ops : Array Oper} {o : Oper} {a : Act} {w : World} {K : Act → World → Prop} {Q : Exit → Act → World → Prop} {E : Prop} (hgd : o.guard = none) (d s : Operand) (T : TypeId)
    (ho : o.op = .call { callee := .builtin .copy, args := #[d, s], argTypes := #[T, T] }) (elem : TypeId) (hu : P.underlying T = some (.slice elem)) (hsz : (P.info? elem).map (·.size) = some 1)
    (g off dLen dCap sLen sCap : Nat) (A : Option Addr) (hd : a.eval d = .slice (some ⟨g, off, none⟩) dLen dCap) (hs : a.eval s = .slice A sLen sCap)
    (cur : List Value) (t : TypeId) (hg : w.heap[g]? = some (.cells cur.toArray t (0, 0))) (m : List UInt8) (B : Nat) (hA : Byt w B A m) (hm : m.length = sLen) (hs0 : 0 < sLen)
    (hfit : off + dLen ≤ cur.length) (w0 : World) (hb : But g w0 w)
    (h : ∀ w', Hid (w'.heap[g]? = some (.cells (splice cur off (bv (m.take dLen))).toArray t (0, 0))) → But g w0 w' → K (a.put o.dst (.int .i64 ((min sLen dLen : Nat) : Int))) w') :
    if Region.wanted o (yielded ops a.tmps) = true then Oper.wp P o a w K Q else E := by
  have hw : Region.wanted o (yielded ops a.tmps) = true := by simp [Region.wanted, hgd]
  rw [if_pos hw]
  rcases hA with h0 | ⟨b, o', rfl, hlt, hc⟩
  · subst h0; simp at hm; omega
  · have hlen : (bv (m.take dLen)).length = Nat.min sLen dLen := by rw [bv_len, List.length_take, hm]; exact Nat.min_comm _ _
    have hsrc : ∀ j v, (bv (m.take dLen))[j]? = some v → w.cell? ((⟨b, o', none⟩ : Addr).add j) = some v := by
      intro j v hj
      rw [bv_at] at hj
      obtain ⟨x, hx, rfl⟩ := Option.map_eq_some_iff.1 hj
      rw [addr_add]
      refine hc j x ?_
      have hjl : j < dLen := by
        have := (List.getElem?_eq_some_iff.1 hx).1
        simp at this; omega
      rwa [List.getElem?_take_of_lt hjl] at hx
    have hl2 : (bv (m.take dLen)).length = min sLen dLen := hlen
    have hrun := run_copy_row (P := P) w T T o.type elem g off dLen dCap ⟨b, o', none⟩ sLen sCap cur.toArray t (bv (m.take dLen)) hu hsz hg hlen hsrc (by simp only [List.size_toArray]; omega) (bv_one _)
    unfold Oper.wp
    simp [execOp, ho, resolve, invoke, builtin, hd, hs, hrun, Result.andThen]
    have h3 := h _ (show _ = _ by simpa [splice] using setRow_heap w g _ _ t _ hg) (hb.row _)
    rw [hl2] at h3 ⊢
    exact h3
theorem Res.toSrc {w : World} {base E n c g : Nat} {A : Option Addr} {l : List UInt8} (h : Res w base E A n c l) (hg : g < base) : Src w g A l := by
  rcases h.2 with ⟨h', h0⟩ | ⟨b, cap, cur, h', hb, hcur, hnc, hcm, hcs, htake⟩
  · refine .inl (List.eq_nil_of_length_eq_zero ?_)
    have := h.len; omega
  · rcases h.byt with h1 | ⟨b', o', hA, hlt, hc⟩
    · exact .inl h1
    · simp only [Value.slice.injEq] at h'
      obtain ⟨rfl, _, _⟩ := h'
      injection hA with hA
      injection hA with hA1 hA2
      subst hA1 hA2
      exact .inr ⟨b, 0, rfl, by omega, hlt, hc⟩
theorem Res.cap {w : World} {base E n c : Nat} {A : Option Addr} {l : List UInt8} (h : Res w base E A n c l) : n ≤ c := by
  rcases h.2 with ⟨h', h0⟩ | ⟨b, cap, cur, h', hb, hcur, hnc, hcm, hcs, htake⟩
  · simp only [Value.slice.injEq] at h'; omega
  · simp only [Value.slice.injEq] at h'; omega
theorem step_load_row {P : Program} {ops : Array Oper} {o : Oper} {a : Act} {w : World} {K : Act → World → Prop} {Q : Exit → Act → World → Prop} {E : Prop} (hgd : o.guard = none) (ty : TypeId) (x : Operand) (ho : o.op = .load ty x)
    (g : Nat) (hx : a.eval x = .pointer (some ⟨g, 0, none⟩)) (t : TypeId) (cs : Array Value) (d : TypeDesc) (hg : w.heap[g]? = some (.cells cs t (0, 0)))
    (hu : P.underlying ty = some d) (hd : (match d with | .struct _ | .array _ _ => true | _ => false) = true) (hi : (P.info? ty).map (·.size) = some cs.size)
    (h : K (a.put o.dst (.agg cs)) w) : if Region.wanted o (yielded ops a.tmps) = true then Oper.wp P o a w K Q else E := by
  have hw : Region.wanted o (yielded ops a.tmps) = true := by simp [Region.wanted, hgd]
  rw [if_pos hw]
  exact wp_load_row ty x ho g hx t cs (0, 0) d hg hu hd hi h
theorem step_store_row {P : Program} {ops : Array Oper} {o : Oper} {a : Act} {w : World} {K : Act → World → Prop} {Q : Exit → Act → World → Prop} {E : Prop} (hgd : o.guard = none) (ty : TypeId) (x y : Operand) (ho : o.op = .store ty x y)
    (g : Nat) (cells : Array Value) (hx : a.eval x = .pointer (some ⟨g, 0, none⟩)) (hy : a.eval y = .agg cells) (t : TypeId) (old : Array Value) (hg : w.heap[g]? = some (.cells old t (0, 0)))
    (hi : (P.info? ty).map (·.size) = some cells.size) (hold : old.size = cells.size) (h1 : cells.all (·.oneCell') = true)
    (h : K (a.put o.dst undef) (w.setRow g cells)) : if Region.wanted o (yielded ops a.tmps) = true then Oper.wp P o a w K Q else E := by
  have hw : Region.wanted o (yielded ops a.tmps) = true := by simp [Region.wanted, hgd]
  rw [if_pos hw]
  exact wp_store_row ty x y ho g cells hx hy t old hg hi hold h1 h

theorem byt_row {w : World} {g : Nat} {l : List UInt8} {t : TypeId} (hg : w.heap[g]? = some (.cells (bv l).toArray t (0, 0))) : Byt w w.heap.size (some ⟨g, 0, none⟩) l := by
  refine .inr ⟨g, 0, rfl, (Array.getElem?_eq_some_iff.1 hg).1, fun j b hj => ?_⟩
  rw [Nat.zero_add, cell_of_row _ _ _ _ _ _ hg]
  simp only [List.getElem?_toArray, bv_at, hj]; rfl
theorem src_row {w : World} {g b : Nat} {l : List UInt8} {t : TypeId} (hg : w.heap[g]? = some (.cells (bv l).toArray t (0, 0))) (hne : g ≠ b) : Src w b (some ⟨g, 0, none⟩) l := by
  rcases byt_row hg with h | ⟨g', o', h1, h2, h3⟩
  · exact .inl h
  · injection h1 with h1
    injection h1 with h1 h1'
    subst h1 h1'
    exact .inr ⟨g, 0, rfl, hne, h2, h3⟩

end Go.Proofs.YtcefdcjpddohaaaDoor
namespace Go.Proofs.YtcefdcjpddohaaaDoor
open Go.RowKit

/-- A fact that no tactic looks into, an equation of things that can be reckoned ('contradiction' would reckon them). -/
def Vlt (p : Prop) : Prop := Unit → p
theorem Vlt.out {p : Prop} (h : Vlt p) : p := h ()
theorem vlt {p : Prop} (h : p) : Vlt p := fun _ => h
theorem Byt.take {w : World} {B : Nat} {A : Option Addr} {l : List UInt8} (h : Byt w B A l) (k : Nat) : Byt w B A (l.take k) := by
  rcases h with h | ⟨g, o, hA, hg, hc⟩
  · subst h; exact .inl (by simp)
  · refine .inr ⟨g, o, hA, hg, fun j b hj => hc j b ?_⟩
    have hjk : j < k := by
      have := (List.getElem?_eq_some_iff.1 hj).1
      simp at this; omega
    rwa [List.getElem?_take_of_lt hjk] at hj
theorem run_cut_h {P : Program} {T E : TypeId} (hT : P.underlying T = some (.slice E)) (hs : (P.info? E).map (·.size) = some 1) (A : Option Addr) (n c t : Nat) (L : Int) (hL : L = (t : Int)) (ht : t ≤ c) (w : World) :
    (Instr.slice T (.slice A n c) none (some (.int .i64 L)) none).run P w = .ok (.slice A t c) w := by
  subst hL
  obtain ⟨i, hi', hi2⟩ := Option.map_eq_some_iff.1 hs
  have he : P.elem T = E := by simp [Program.elem, hT]
  rw [run_slice_h w T A n c (by rw [he]; exact hT) .i64 _ (by omega) (by omega), he]
  cases A <;> simp [sizeOf, typeInfo, hi', hi2, sliced, Addr.add]

theorem Byt.lit_cold (w : World) (E : TypeId) (cs : Array Value) (fr : Nat × Nat) (l : List UInt8) (h : cs.toList = bv l) : Byt (w.alloc (.cells cs E fr)) (w.alloc (.cells cs E fr)).heap.size (some ⟨w.heap.size, 0, none⟩) l := by
  refine .inr ⟨w.heap.size, 0, rfl, by simp, fun j b hj => ?_⟩
  rw [Nat.zero_add, cell_of_row _ _ _ _ _ _ (heap_alloc_new w _)]
  have h1 := bv_at l j
  rw [hj, ← h] at h1
  simpa using h1
theorem run_cut_lh {P : Program} {T E : TypeId} (hT : P.underlying T = some (.slice E)) (hs : (P.info? E).map (·.size) = some 1) (A : Option Addr) (n c s t : Nat) (L H : Int) (hL : L = (s : Int)) (hH : H = (t : Int)) (hst : s ≤ t) (ht : t ≤ c) (w : World) :
    (Instr.slice T (.slice A n c) (some (.int .i64 L)) (some (.int .i64 H)) none).run P w = .ok (.slice (if c = s then A else A.map (·.add s)) (t - s) (c - s)) w := by
  subst hL hH
  obtain ⟨i, hi', hi2⟩ := Option.map_eq_some_iff.1 hs
  have he : P.elem T = E := by simp [Program.elem, hT]
  rw [run_slice_lh w T A n c (by rw [he]; exact hT) .i64 .i64 _ _ (by omega) (by omega) (by omega), he]
  simp [sizeOf, typeInfo, hi', hi2, sliced]
/-- A piece of a slice. -/
theorem Byt.cut {w : World} {B : Nat} {A : Option Addr} {l : List UInt8} (h : Byt w B A l) (s c : Nat) (hc : l.length ≤ c) : Byt w B (if c = s then A else A.map (·.add s)) (l.drop s) := by
  rcases h with h | ⟨b, o, rfl, hlt, hcell⟩
  · subst h; exact .inl (by simp)
  · by_cases ht : c = s
    · exact .inl (List.drop_eq_nil_of_le (by omega))
    · rw [if_neg ht]
      refine .inr ⟨b, o + s, by rw [Option.map_some, addr_add], hlt, fun j x hj => ?_⟩
      rw [List.getElem?_drop] at hj
      rw [Nat.add_assoc]; exact hcell _ x hj
/-- append onto bytes that have no room left: a new row. -/
theorem wp_append_grow {P : Program} (w : World) {ops : Array Oper} {rest : List Oper} {o : Oper} {a : Act} {Q : Exit → Act → World → Prop} (hgd : o.guard = none) (s x : Operand) (T : TypeId)
    (ho : o.op = .call { callee := .builtin .append, args := #[s, x], argTypes := #[T, T] }) (E : TypeId) (hT : P.underlying T = some (.slice E))
    (hI : (P.info? E).map (fun i => (i.zero, i.size, i.bytes)) = some (some (.int .u8 0), 1, 1)) (bo : Addr) (n c : Nat) (l : List UInt8) (hs : a.eval s = .slice (some bo) n c) (hl0 : l.length = n) (hb : ∀ j u, (bv l)[j]? = some u → w.cell? (bo.add j) = some u)
    (ad : Addr) (m c2 : Nat) (hx : a.eval x = .slice (some ad) m c2) (news : List UInt8) (hl : news.length = m) (hnews : ∀ j u, (bv news)[j]? = some u → w.cell? (ad.add j) = some u) (hfull : c < n + m) (hsz : n + m ≤ 140737488355328)
    (h : ∀ A' c' w', Res w' w.heap.size E A' (n + m) c' (l ++ news) → Below w.heap.size w w' → wpList P ops Q rest (a.put o.dst (.slice A' (n + m) c')) w') : wpList P ops Q (o :: rest) a w := by
  obtain ⟨i, hi, hz, h1, h2⟩ := info_parts hI
  refine wpList_append_grows w hgd s x T ho E i (.int .u8 0) 1 1 hT hi hz h1 h2 rfl (by decide) (some bo) n c (bv l) hs (fun e => by cases e) (by rw [bv_len]; omega) (fun b e j u hj => by injection e with e; subst e; exact hb j u hj) ad m c2 (bv news) hx (by rw [bv_len]; omega) hnews (bv_one _) hfull (by unfold maxLen; omega) (by omega) ?_
  intro v' w' hown hgr
  rw [← bv_app] at hown
  obtain ⟨A', c', rfl, hres⟩ := Res.of v' hown
  exact h A' c' w' hres ⟨hgr.os, hgr.tape, hgr.output, hgr.size, fun k hk => hgr.block k hk (by simp)⟩
theorem cells_at {w : World} {B : Nat} {b : Addr} {l : List UInt8} (h : Byt w B (some b) l) : ∀ j u, (bv l)[j]? = some u → w.cell? (b.add j) = some u := by
  intro j u hj
  obtain ⟨_, ad, he, hc⟩ := h.src (some b) b rfl (Nat.lt_of_le_of_lt (Nat.zero_le _) (List.getElem?_eq_some_iff.1 hj).1)
  injection he with he
  subst he
  exact hc j u hj
/-- Three new blocks. -/
theorem three_new (w : World) (a b c : Array Value) (s t u : TypeId) :
    ∃ W, ((w.alloc (.cells a s)).alloc (.cells b t)).alloc (.cells c u) = W ∧ Hid (W.heap[w.heap.size]? = some (.cells a s (0, 0))) ∧ Hid (W.heap[w.heap.size + 1]? = some (.cells b t (0, 0))) ∧ Hid (W.heap[w.heap.size + 2]? = some (.cells c u (0, 0))) ∧ Below w.heap.size w W ∧ Hid (W.heap.size = w.heap.size + 3) := by
  refine ⟨_, rfl, show _ = _ from ?_, show _ = _ from ?_, show _ = _ from ?_, (((Below.refl _ _).alloc (Nat.le_refl _) _).alloc (by simp) _).alloc (by simp; omega) _, show _ = _ by simp⟩
  · rw [Below.heap_alloc _ _ _ (by simp; omega)]; exact heap_alloc2_old _ _ _
  · rw [Below.heap_alloc _ _ _ (by simp)]; exact heap_alloc2_new _ _ _
  · have h := heap_alloc_new ((w.alloc (.cells a s)).alloc (.cells b t)) (.cells c u)
    have e : ((w.alloc (.cells a s)).alloc (.cells b t)).heap.size = w.heap.size + 2 := by simp
    rw [e] at h; exact h
/-- Words, and noughts up to n; bytes likewise. -/
def uptoW (n : Nat) (l : List Nat) : List Nat := l ++ List.replicate (n - l.length) 0
theorem uptoW_len (n : Nat) (l : List Nat) (h : l.length ≤ n) : (uptoW n l).length = n := by simp [uptoW]; omega
theorem uptoW_all (n : Nat) (l : List Nat) (h : l.length = n) : uptoW n l = l := by simp [uptoW, h]
theorem uptoW_set (n : Nat) (l : List Nat) (x : Nat) (h : l.length < n) : (uptoW n l).set l.length x = uptoW n (l ++ [x]) := by
  obtain ⟨m, hm⟩ : ∃ m, n - l.length = m + 1 := ⟨n - l.length - 1, by omega⟩
  rw [uptoW, uptoW, List.set_append_right _ _ (Nat.le_refl _), Nat.sub_self, hm, List.replicate_succ, List.set_cons_zero, List.length_append, List.append_assoc]
  congr 3
  simp; omega
theorem uptoW_at (n : Nat) (l : List Nat) (h : l.length < n) : (uptoW n l)[l.length]? = some 0 := by
  rw [uptoW, List.getElem?_append_right (Nat.le_refl _), List.getElem?_replicate, if_pos (by omega)]
def uptoB (n : Nat) (l : List UInt8) : List UInt8 := l ++ List.replicate (n - l.length) 0
theorem uptoB_all (n : Nat) (l : List UInt8) (h : l.length = n) : uptoB n l = l := by simp [uptoB, h]
theorem uptoB_len (n : Nat) (l : List UInt8) (h : l.length ≤ n) : (uptoB n l).length = n := by simp [uptoB]; omega
theorem uptoB_splice (n : Nat) (l x : List UInt8) (h : l.length + x.length ≤ n) : splice (bv (uptoB n l)) l.length (bv x) = bv (uptoB n (l ++ x)) := by
  have e : List.drop (l.length + x.length) (uptoB n l) = List.replicate (n - (l.length + x.length)) 0 := by
    rw [uptoB, List.drop_append, List.drop_of_length_le (by omega), List.nil_append, List.drop_replicate]
    congr 1; omega
  rw [splice, bv_take, bv_len]
  have e2 : List.drop (l.length + x.length) (bv (uptoB n l)) = bv (List.drop (l.length + x.length) (uptoB n l)) := by simp [bv, List.map_drop]
  have e3 : List.take l.length (uptoB n l) = l := by rw [uptoB, List.take_append_of_le_length (Nat.le_refl _), List.take_length]
  rw [e2, e, e3, uptoB, bv_app, bv_app, List.length_append, List.append_assoc]
end Go.Proofs.YtcefdcjpddohaaaDoor
namespace Go.Proofs.YtcefdcjpddohaaaDoor
open Go.RowKit

/-- One new block. -/
theorem one_new (w : World) (a : Array Value) (s : TypeId) :
    ∃ W, w.alloc (.cells a s) = W ∧ Hid (W.heap[w.heap.size]? = some (.cells a s (0, 0))) ∧ Below w.heap.size w W ∧ Hid (W.heap.size = w.heap.size + 1) :=
  ⟨_, rfl, heap_alloc_new _ _, (Below.refl _ _).alloc (Nat.le_refl _) _, show _ = _ by simp⟩
/-- Two new blocks. -/
theorem pair_new (w : World) (a b : Array Value) (s t : TypeId) :
    ∃ W, (w.alloc (.cells a s)).alloc (.cells b t) = W ∧ Hid (W.heap[w.heap.size]? = some (.cells a s (0, 0))) ∧ Hid (W.heap[w.heap.size + 1]? = some (.cells b t (0, 0))) ∧ Below w.heap.size w W ∧ Hid (W.heap.size = w.heap.size + 2) :=
  ⟨_, rfl, heap_alloc2_old _ _ _, heap_alloc2_new _ _ _, ((Below.refl _ _).alloc (Nat.le_refl _) _).alloc (by simp) _, show _ = _ by simp⟩
def slen : Value → Nat | .slice _ n _ => n | _ => 0
theorem Res.some_ {w : World} {base E n c : Nat} {A : Option Addr} {l : List UInt8} (h : Res w base E A n c l) (hn : 0 < n) : ∃ g, A = some ⟨g, 0, none⟩ := by
  rcases h.2 with ⟨_, h0⟩ | ⟨g, cap, cur, hv, _⟩
  · omega
  · injection hv with hv; exact ⟨g, hv⟩
theorem below_undrew {B : Nat} {w w' : World} (h : Below B w.drew w') : Below B w w' := ⟨h.os, h.tape, h.output, h.size, h.block⟩
theorem wpList_build_as {P : Program} {ops : Array Oper} {rest : List Oper} {o : Oper} {a : Act} {w : World} {Q : Exit → Act → World → Prop} (hg : o.guard = none) (t : TypeId) (ho : o.op = .build t #[]) (cs : Array Value) (hf : P.built t [] = some cs)
    (h : wpList P ops Q rest (a.put o.dst (.agg cs)) w) : wpList P ops Q (o :: rest) a w :=
  wpList_build hg t #[] ho (by simp [hf]) (by simpa [hf] using h)
theorem byte_cell {w : World} {g k : Nat} {l : List UInt8} {t : TypeId} {b : UInt8} (hg : w.heap[g]? = some (.cells (bv l).toArray t (0, 0))) (hb : l[k]? = some b) : w.cell? ⟨g, k, none⟩ = some (.int .u8 (b.toNat : Int)) := by
  rw [cell_of_row _ _ _ _ _ _ hg]
  simp [bv_at, hb]
theorem word_at {w : World} {g : Nat} {l : List Nat} {t : TypeId} (hg : w.heap[g]? = some (.cells (u32v l).toArray t (0, 0))) (k : Nat) (hk : k < l.length) : w.cell? ⟨g, k, none⟩ = some (.int .u32 ((natAt l k : Nat) : Int)) := by
  rw [cell_of_row _ _ _ _ _ _ hg]
  have := natAt_at (l := l) rfl hk
  simpa using this
/-- Numbers of 64 bits as the cells of a row. -/
def u64v (l : List Nat) : List Value := l.map fun (x : Nat) => Value.int .u64 (x : Int)
theorem u64v_len (l : List Nat) : (u64v l).length = l.length := by simp [u64v]
theorem u64v_at (l : List Nat) (k : Nat) : (u64v l)[k]? = l[k]?.map fun (x : Nat) => Value.int .u64 (x : Int) := by simp [u64v]
theorem u64v_set (l : List Nat) (k x : Nat) : (u64v l).set k (.int .u64 (x : Int)) = u64v (l.set k x) := by simp [u64v, List.map_set]
theorem u64v_one (l : List Nat) : ∀ u ∈ u64v l, u.oneCell' = true := by
  intro u hu
  obtain ⟨b, _, rfl⟩ := List.mem_map.1 hu
  rfl
theorem long_at {w : World} {g : Nat} {l : List Nat} {t : TypeId} (hg : w.heap[g]? = some (.cells (u64v l).toArray t (0, 0))) (k : Nat) (hk : k < l.length) : w.cell? ⟨g, k, none⟩ = some (.int .u64 ((natAt l k : Nat) : Int)) := by
  rw [cell_of_row _ _ _ _ _ _ hg]
  simp [u64v_at, natAt, List.getElem?_eq_getElem hk]
theorem world_set_cell {w : World} {g : Nat} {cs : List Value} {t : TypeId} (hg : w.heap[g]? = some (.cells cs.toArray t (0, 0))) (k : Nat) (u : Value) :
    Hid ((w.setCell ⟨g, k, none⟩ u).heap[g]? = some (.cells (cs.set k u).toArray t (0, 0))) := by
  show _ = _
  rw [heap_setCell_same w g k _ _ u hg]; simp
/-- A piece of a row of bytes. -/
theorem byt_mid {w : World} {g : Nat} {l : List UInt8} {t : TypeId} (hg : w.heap[g]? = some (.cells (bv l).toArray t (0, 0))) (k m : Nat) : Byt w w.heap.size (some ⟨g, k, none⟩) ((l.drop k).take m) := by
  refine .inr ⟨g, k, rfl, (Array.getElem?_eq_some_iff.1 hg).1, fun j b hj => ?_⟩
  have hjm : j < m := by
    have := (List.getElem?_eq_some_iff.1 hj).1
    simp at this; omega
  rw [List.getElem?_take_of_lt hjm, List.getElem?_drop] at hj
  exact byte_cell hg hj
theorem wpList_build_to {P : Program} {ops : Array Oper} {rest : List Oper} {o : Oper} {a : Act} {w : World} {Q : Exit → Act → World → Prop} (hg : o.guard = none) (t : TypeId) (parts : Array (Nat × Operand)) (ho : o.op = .build t parts) (lst : List (Nat × Value)) (hp : (parts.map fun (i, x) => (i, a.eval x)).toList = lst) (cs : Array Value) (hf : P.built t lst = some cs)
    (h : wpList P ops Q rest (a.put o.dst (.agg cs)) w) : wpList P ops Q (o :: rest) a w :=
  wpList_build hg t parts ho (by rw [hp, hf]; rfl) (by rw [hp, hf]; exact h)
theorem and26 (x : Nat) (hx : x < 18446744073709551616) : bits .and .u64 (x : Int) 67108863 = ((x % 67108864 : Nat) : Int) := by
  have h := u64_and_nat x 67108863 hx (by decide)
  rw [show ((67108863 : Nat) : Int) = 67108863 from rfl] at h
  rw [h, show (67108863 : Nat) = 2 ^ 26 - 1 by decide, Nat.and_two_pow_sub_one_eq_mod, show (2 : Nat) ^ 26 = 67108864 by decide]
theorem wrap64 (x : Nat) : IntKind.u64.wrap (x : Int) = ((x % 18446744073709551616 : Nat) : Int) := by
  simp [IntKind.wrap, IntKind.bits, IntKind.signed]
theorem range_byt {w : World} {B g o : Nat} {l : List UInt8} (h : Byt w B (some ⟨g, o, none⟩) l) : w.rangeAt g o (bv l) := by
  intro j v hj
  have := cells_at h j v hj
  rwa [addr_add] at this
theorem wd_8 : wd 8 = 8 := by decide
theorem splice_all (l m : List UInt8) (h : l.length = m.length) : splice (bv m) 0 (bv l) = bv l := by
  rw [splice, List.take_zero, List.nil_append, Nat.zero_add, List.drop_eq_nil_of_le (by rw [bv_len, bv_len, h]; exact Nat.le_refl _), List.append_nil]
theorem splice_bv (m : List UInt8) (k : Nat) (x : List UInt8) : splice (bv m) k (bv x) = bv (m.take k ++ (x ++ m.drop (k + x.length))) := by
  simp [splice, bv, List.map_take, List.map_drop]
end Go.Proofs.YtcefdcjpddohaaaDoor
namespace Go.Proofs.YtcefdcjpddohaaaDoor
open Go.RowKit

/-- The prime; 2^64; 2^256. -/
def FP : Nat := 57896044618658097711785492504343953926634992332820282019728792003956564819949
theorem fp_eq : FP = 57896044618658097711785492504343953926634992332820282019728792003956564819949 := rfl
/-- A number in four pieces. -/
def n4 (a b c d : Nat) : Nat := a + 18446744073709551616 * b + 340282366920938463463374607431768211456 * c + 6277101735386680763835789423207666416102355444464034512896 * d
abbrev B64 : Nat := 18446744073709551616
theorem n4_lt (a b c d : Nat) (ha : a < B64) (hb : b < B64) (hc : c < B64) (hd : d < B64) : n4 a b c d < 115792089237316195423570985008687907853269984665640564039457584007913129639936 := by
  simp only [n4, B64] at *; omega
/-- The pieces of a number. -/
theorem n4_split (N : Nat) (h : N < 115792089237316195423570985008687907853269984665640564039457584007913129639936) :
    ∃ a b c d, n4 a b c d = N ∧ a < B64 ∧ b < B64 ∧ c < B64 ∧ d < B64 :=
  ⟨N % B64, N / B64 % B64, N / B64 / B64 % B64, N / B64 / B64 / B64, by simp only [n4, B64]; omega, by simp only [B64]; omega, by simp only [B64]; omega, by simp only [B64]; omega, by simp only [B64]; omega⟩
theorem n4_inj {a b c d a' b' c' d' : Nat} (ha : a < B64) (hb : b < B64) (hc : c < B64) (ha' : a' < B64) (hb' : b' < B64) (hc' : c' < B64)
    (h : n4 a b c d = n4 a' b' c' d') : a = a' ∧ b = b' ∧ c = c' ∧ d = d' := by
  simp only [n4, B64] at *; omega
/-- A new number's variable. -/
def z4 : List Nat := List.replicate 4 0
theorem sum4 (a0 a1 a2 a3 b0 b1 b2 b3 c0 c1 c2 c3 o0 o1 o2 o3 : Nat) (h0 : a0 + b0 + 0 = c0 + 18446744073709551616 * o0) (h1 : a1 + b1 + o0 = c1 + 18446744073709551616 * o1) (h2 : a2 + b2 + o1 = c2 + 18446744073709551616 * o2) (h3 : a3 + b3 + o2 = c3 + 18446744073709551616 * o3) :
    n4 c0 c1 c2 c3 + 115792089237316195423570985008687907853269984665640564039457584007913129639936 * o3 = n4 a0 a1 a2 a3 + n4 b0 b1 b2 b3 := by
  simp only [n4]; omega
theorem row4 (v a0 a1 a2 a3 b0 b1 b2 b3 c0 c1 c2 c3 o0 o1 o2 o3 : Nat) (h0 : c0 + 18446744073709551616 * o0 = v * a0 + b0 + 0) (h1 : c1 + 18446744073709551616 * o1 = v * a1 + b1 + o0) (h2 : c2 + 18446744073709551616 * o2 = v * a2 + b2 + o1) (h3 : c3 + 18446744073709551616 * o3 = v * a3 + b3 + o2) :
    n4 c0 c1 c2 c3 + 115792089237316195423570985008687907853269984665640564039457584007913129639936 * o3 = v * n4 a0 a1 a2 a3 + n4 b0 b1 b2 b3 := by
  simp only [n4]; grind
/-- Four cells written. -/
theorem set_four {W : World} {g : Nat} {t : TypeId} {l : List Nat} (hl : l.length = 4) (hg : W.heap[g]? = some (.cells (u64v l).toArray t (0, 0))) (a b c d : Nat) :
    ∃ w3, ((((W.setCell ⟨g, 0, none⟩ (.int .u64 (a : Int))).setCell ⟨g, 1, none⟩ (.int .u64 (b : Int))).setCell ⟨g, 2, none⟩ (.int .u64 (c : Int))).setCell ⟨g, 3, none⟩ (.int .u64 (d : Int))) = w3 ∧
      Hid (w3.heap[g]? = some (.cells (u64v [a, b, c, d]).toArray t (0, 0))) ∧ But g W w3 := by
  refine ⟨_, rfl, ?_, ((((But.refl g W).set _).set _).set _).set _⟩
  have h1 := (world_set_cell (world_set_cell (world_set_cell (world_set_cell hg 0 (.int .u64 (a : Int))).out 1 (.int .u64 (b : Int))).out 2 (.int .u64 (c : Int))).out 3 (.int .u64 (d : Int))).out
  rw [u64v_set, u64v_set, u64v_set, u64v_set] at h1
  match l, hl with
  | [_, _, _, _], _ => exact h1
theorem results_row_tmp {P : Program} {fn : Func} {p u : Tmp} {ty : TypeId} (h : fn.results = #[.cell p ty, .tmp u]) (tmps : Array Value) (w : World) (g : Nat) (t : TypeId) (cs : Array Value) (fr : Nat × Nat) (d : TypeDesc)
    (hp : tmps.getD p undef = .pointer (some ⟨g, 0, none⟩)) (hg : w.heap[g]? = some (.cells cs t fr))
    (hu : P.underlying ty = some d) (hd : (match d with | .struct _ | .array _ _ => true | _ => false) = true) (hi : (P.info? ty).map (·.size) = some cs.size) (v : Value) (hv : tmps.getD u undef = v) :
    (results fn tmps).run P w = .ok (.tuple #[.agg cs, v]) w := by
  rw [results_cell_tmp h, hp, hv]
  simp [asAddr, run_loadVar_row w g t ty cs fr d hg hu hd hi, Result.andThen]
section
variable {P : Program}
theorem add64_ex {f : Nat} (hf : ∀ args w, (callFunc f args).run P w = ((add64Entry args).run P w).andThen fun v w1 => .ok (.value v) w1) (x y c : Nat) (hx : x < B64) (hy : y < B64) (hc : c ≤ 1) :
    ∃ s o : Nat, (∀ w, (callFunc f #[.int .u64 (x : Int), .int .u64 (y : Int), .int .u64 (c : Int)]).run P w = .ok (.value (.tuple #[.int .u64 (s : Int), .int .u64 (o : Int)])) w) ∧ Vlt (x + y + c = s + 18446744073709551616 * o) ∧ s < B64 ∧ o ≤ 1 := by
  refine ⟨(x + y + c) % 18446744073709551616, (x + y + c) / 18446744073709551616, fun w => ?_, vlt (by omega), by simp only [B64] at *; omega, by simp only [B64] at *; omega⟩
  rw [hf, run_add64 x y c (by omega) (by omega) (by omega) (by omega)]
  simp only [Result.andThen]
  congr 5
theorem add64_ex0 {f : Nat} (hf : ∀ args w, (callFunc f args).run P w = ((add64Entry args).run P w).andThen fun v w1 => .ok (.value v) w1) (x y : Nat) (hx : x < B64) (hy : y < B64) :
    ∃ s o : Nat, (∀ w, (callFunc f #[.int .u64 (x : Int), .int .u64 (y : Int), .int .u64 0]).run P w = .ok (.value (.tuple #[.int .u64 (s : Int), .int .u64 (o : Int)])) w) ∧ Vlt (x + y + 0 = s + 18446744073709551616 * o) ∧ s < B64 ∧ o ≤ 1 :=
  add64_ex hf x y 0 hx hy (by decide)
end
end Go.Proofs.YtcefdcjpddohaaaDoor
namespace Go.Proofs.YtcefdcjpddohaaaDoor
open Go.RowKit

theorem held_more {P : Program} {ops : Array Oper} {Q : Exit → Act → World → Prop} {md : Region.Mode} {S S' : World → Prop} (h : ∀ w, S' w → S w) :
    ∀ (fuel : Nat) (listed : Array Bool) (a : Act) (w : World), wpAnyH P md ops Q S' fuel listed a w → wpAnyH P md ops Q S fuel listed a w
  | 0, _, _, _, H => H
  | fuel + 1, _, _, _, H => ⟨H.1, fun i hi => wpOp_mono (fun a' w' h' => ⟨h _ h'.1, held_more h fuel _ a' w' h'.2⟩) (H.2 i hi)⟩
end Go.Proofs.YtcefdcjpddohaaaDoor
namespace Go.Proofs.YtcefdcjpddohaaaDoor
open Go.RowKit

theorem add_run (args : Array Value) (w : World) : (callFunc 60 args).run Tryd.prog w = ((add64Entry args).run Tryd.prog w).andThen fun v w1 => .ok (.value v) w1 :=
  run_callFunc_extern Tryd.func60 (by kernel_rfl) (by kernel_rfl) (by kernel_rfl) (by kernel_rfl) args w

theorem zero_word (w : World) : (zeroValue 23).run Tryd.prog w = .ok (.agg (bv z32).toArray) w := by kernel_rfl
theorem row_next {w w' : World} {g : Nat} {cs : Array Value} {t : TypeId} (h : Hid (w.heap[g]? = some (.cells cs t (0, 0)))) (hb : Below w.heap.size w w') : Hid (w'.heap[g]? = some (.cells cs t (0, 0))) :=
  (hb.block _ (Array.getElem?_eq_some_iff.1 h.out).1).trans h.out
theorem not64 (b : Nat) (hb : b < 18446744073709551616) : 18446744073709551615 ^^^ b = 18446744073709551615 - b := by
  have h : (BitVec.allOnes 64 ^^^ BitVec.ofNat 64 b).toNat = (~~~ BitVec.ofNat 64 b).toNat := by rw [BitVec.allOnes_xor]
  rw [BitVec.toNat_xor, BitVec.toNat_not, BitVec.toNat_ofNat, BitVec.toNat_allOnes, Nat.mod_eq_of_lt (by omega)] at h
  simpa using h
theorem turn64 (b : Nat) (hb : b < B64) : bits .xor .u64 IntKind.u64.max (b : Int) = ((18446744073709551615 - b : Nat) : Int) := by
  have h := u64_xor 18446744073709551615 (b : Int) (by decide) (by decide) (by omega) (by simp only [B64] at hb; omega)
  rw [show IntKind.u64.max = 18446744073709551615 from rfl, h, show (18446744073709551615 : Int).toNat = 18446744073709551615 from rfl, Int.toNat_natCast, not64 b hb]
theorem ln_split (l : List UInt8) (k : Nat) (h : k ≤ l.length) : ln (l.take k) + 256 ^ k * ln (l.drop k) = ln l := by
  induction k generalizing l with
  | zero => simp [ln]
  | succ k ih =>
    cases l with
    | nil => simp at h
    | cons b r =>
      rw [List.take_succ_cons, List.drop_succ_cons, ln, ln, ← ih r (by simpa using h), Nat.pow_succ]
      grind
theorem ln_le (v : Nat) : ∀ n, ln (le v n) = v % 256 ^ n
  | 0 => by simp [ln, le, Nat.mod_one]
  | n + 1 => by
    rw [le, ln_snoc, ln_le v n, le_len, Nat.pow_succ, Nat.mod_mul, Nat.pow_mul, show (2 : Nat) ^ 8 = 256 by decide, UInt8.toNat_ofNat', show (2 : Nat) ^ 8 = 256 by decide, Nat.mul_comm (256 ^ n)]
theorem ln_inj : ∀ (l m : List UInt8), l.length = m.length → ln l = ln m → l = m
  | [], [], _, _ => rfl
  | a :: l, b :: m, h, e => by
    have h1 := a.toNat_lt
    have h2 := b.toNat_lt
    simp only [ln] at e
    have e1 : a.toNat = b.toNat := by omega
    have e2 : ln l = ln m := by omega
    rw [UInt8.toNat_inj.1 e1, ln_inj l m (by simpa using h) e2]
theorem lowN (a : Nat) (ha : a < 18446744073709551616) : bits .and .u64 (a : Int) 4294967295 = ((a % 4294967296 : Nat) : Int) := by
  have h := u64_and_nat a 4294967295 ha (by decide)
  rw [show ((4294967295 : Nat) : Int) = 4294967295 from rfl] at h
  rw [h, show (4294967295 : Nat) = 2 ^ 32 - 1 by decide, Nat.and_two_pow_sub_one_eq_mod, show (2 : Nat) ^ 32 = 4294967296 by decide]
theorem divN (a : Nat) : (a : Int) / 4294967296 = ((a / 4294967296 : Nat) : Int) := by omega
theorem mulN (a b : Nat) : (a : Int) * (b : Int) = ((a * b : Nat) : Int) := (Int.natCast_mul a b).symm
theorem addN (a b : Nat) : (a : Int) + (b : Int) = ((a + b : Nat) : Int) := (Int.natCast_add a b).symm
theorem wrapN (a : Nat) (ha : a < 18446744073709551616) : IntKind.u64.wrap (a : Int) = (a : Int) := by rw [wrap64, Nat.mod_eq_of_lt ha]
set_option maxRecDepth 100000 in
set_option maxHeartbeats 1000000 in
theorem mul64_any (w : World) (x y : Nat) (hx : x < B64) (hy : y < B64) :
    Calls Tryd.prog 59 #[.int .u64 (x : Int), .int .u64 (y : Int)] w fun e w' => ∃ h l : Nat, e = .returned (.tuple #[.int .u64 (h : Int), .int .u64 (l : Int)]) ∧ Vlt (l + 18446744073709551616 * h = x * y) ∧ h < B64 ∧ l < B64 ∧ w = w' := by
  obtain ⟨bd, bt, bw, hhi⟩ := Lib.mul64_hi x y hx hy
  have hxy : x * y / 18446744073709551616 < 18446744073709551616 := by
    have h1 : x * y ≤ 18446744073709551615 * 18446744073709551615 := Nat.mul_le_mul (by simp only [B64] at *; omega) (by simp only [B64] at *; omega)
    omega
  have HF := vlt (show x * y % 18446744073709551616 + 18446744073709551616 * (x * y / 18446744073709551616) = x * y by omega)
  have ba := Lib.half_mul_le (a := x / 4294967296) (b := y / 4294967296) (by simp only [B64] at *; omega) (by simp only [B64] at *; omega)
  have bb := Lib.half_mul_le (a := x / 4294967296) (b := y % 4294967296) (by simp only [B64] at *; omega) (by omega)
  have bc := Lib.half_mul_le (a := x % 4294967296) (b := y / 4294967296) (by omega) (by simp only [B64] at *; omega)
  have hhi2 := hhi
  rw [← hhi2] at hxy
  have hlm : x * y % 18446744073709551616 < B64 := Nat.mod_lt _ (by decide)
  have HH := vlt hhi
  clear hhi hhi2
  go_enter Tryd.func59, Tryd.ntmps59
  go_wp2
  simp only [lowN x hx, lowN y hy, divN, mulN, addN, wrapN _ bd, wrapN _ (Nat.lt_of_le_of_lt bb (by decide)), wrapN _ bt, lowN _ bt, wrapN _ (Nat.lt_of_le_of_lt bc (by decide)), wrapN _ bw, wrapN _ (Nat.lt_of_le_of_lt ba (by decide)), wrapN _ (Nat.lt_of_le_of_lt (Nat.le_add_right _ _) hxy), wrapN _ hxy, wrap64 (x * y)]
  go_ret2
  exact ⟨_, _, rfl, vlt (by rw [HH.out]; exact HF.out), by simp only [B64]; omega, hlm, rfl⟩

end Go.Proofs.YtcefdcjpddohaaaDoor
namespace Go.Proofs.YtcefdcjpddohaaaDoor
open Go.RowKit

theorem le_add (v n m : Nat) : le v (n + m) = le v n ++ le (v / 2 ^ (8 * n)) m := by
  induction m with
  | zero => simp [le]
  | succ m ih => rw [← Nat.add_assoc, le, le, ih, List.append_assoc, Nat.div_div_eq_div_mul, ← Nat.pow_add, Nat.mul_add]
/-- A small number's word. -/
def wk (n : Nat) : List UInt8 := le n 32
theorem wk_len (n : Nat) : (wk n).length = 32 := le_len n 32
theorem set_w1 : (bv z32).set 0 (.int .u8 1) = bv (wk 1) := by kernel_rfl
theorem set_w2 : (bv z32).set 0 (.int .u8 2) = bv (wk 2) := by kernel_rfl
theorem ln_z32 : ln z32 = 0 := by decide +kernel
theorem bv_z32_ne : ¬ bv z32 = [] := fun h => by have h1 := congrArg List.length h; rw [bv_len, z32_len] at h1; exact absurd h1 (by decide)
theorem le_zero (m : Nat) : le 0 m = List.replicate m 0 := by
  induction m with
  | zero => rfl
  | succ m ih => rw [le, ih, Nat.zero_div, List.replicate_succ']; rfl
theorem wk_four (u : Nat) (h : u < 4294967296) : wk u = [UInt8.ofNat u, UInt8.ofNat (u / 256), UInt8.ofNat (u / 65536), UInt8.ofNat (u / 16777216)] ++ List.replicate 28 0 := by
  rw [wk, show (32 : Nat) = 4 + 28 from rfl, le_add, show (2 : Nat) ^ (8 * 4) = 4294967296 by decide, Nat.div_eq_of_lt h, le_zero]
  simp [le]
theorem wk_five (u : Nat) (h : u < 1099511627776) : wk u = [UInt8.ofNat u, UInt8.ofNat (u / 256), UInt8.ofNat (u / 65536), UInt8.ofNat (u / 16777216), UInt8.ofNat (u / 4294967296)] ++ List.replicate 27 0 := by
  rw [wk, show (32 : Nat) = 5 + 27 from rfl, le_add, show (2 : Nat) ^ (8 * 5) = 1099511627776 by decide, Nat.div_eq_of_lt h, le_zero]
  simp [le]
theorem set_four_w (n : Nat) (hn : n < 4294967296) : ((((bv z32).set 0 (.int .u8 ((n : Int) % 256))).set 1 (.int .u8 ((n : Int) / 256 % 256))).set 2 (.int .u8 ((n : Int) / 65536 % 256))).set 3 (.int .u8 ((n : Int) / 16777216)) = bv (wk n) := by
  rw [wk_four n hn]
  have h3 : (n : Int) / 16777216 = (n : Int) / 16777216 % 256 := by omega
  rw [h3]
  simp [bv, z32, List.replicate]
theorem set_five_w (n : Nat) (hn : n < 1099511627776) : (((((bv z32).set 0 (.int .u8 ((n : Int) % 256))).set 1 (.int .u8 ((n : Int) / 256 % 256))).set 2 (.int .u8 ((n : Int) / 65536 % 256))).set 3 (.int .u8 ((n : Int) / 16777216 % 256))).set 4 (.int .u8 ((n : Int) / 4294967296)) = bv (wk n) := by
  rw [wk_five n hn]
  have h3 : (n : Int) / 4294967296 = (n : Int) / 4294967296 % 256 := by omega
  rw [h3]
  simp [bv, z32, List.replicate]
end Go.Proofs.YtcefdcjpddohaaaDoor
