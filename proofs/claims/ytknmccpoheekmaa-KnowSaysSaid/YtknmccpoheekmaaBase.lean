/-
  Words for bytes in memory that the other texts of this seat share: no statement is proved here. Conditions: none.
-/
import Derived.WalkKit
import Derived.Below
import Derived.Lib.Hide
import Derived.Laws.CopyOwn
import Derived.Laws.BytesArg
import Derived.Laws.BytesString
import Derived.Laws.OwnMore
import Derived.Deep.Draws
import Derived.OpenShut
namespace Go.Proofs.Ytknmccpoheekmaa
open Go.RowKit

/-- Bytes as the cells of a row. -/
def bv (l : List UInt8) : List Value := l.map fun b => Value.int .u8 (b.toNat : Int)
theorem bv_len (l : List UInt8) : (bv l).length = l.length := by simp [bv]
theorem bv_app (l m : List UInt8) : bv (l ++ m) = bv l ++ bv m := by simp [bv]
theorem bv_nil : bv [] = [] := rfl
theorem bv_at (l : List UInt8) (k : Nat) : (bv l)[k]? = l[k]?.map fun b => Value.int .u8 (b.toNat : Int) := by simp [bv]
theorem bv_one (l : List UInt8) : ∀ u ∈ bv l, u.oneCell' = true := by
  intro u hu
  obtain ⟨b, _, rfl⟩ := List.mem_map.1 hu
  rfl
theorem bv_set (l : List UInt8) (k : Nat) (b : UInt8) : (bv l).set k (.int .u8 (b.toNat : Int)) = bv (l.set k b) := by simp [bv, List.map_set]
theorem bv_take (l : List UInt8) (k : Nat) : (bv l).take k = bv (l.take k) := by simp [bv, List.map_take]
theorem bv_rep (n : Nat) : List.replicate n (Value.int .u8 0) = bv (List.replicate n 0) := by simp [bv]
/-- One byte out of a number below 256. -/
theorem bv_single (c : Nat) (hc : c < 256) : [Value.int .u8 (c : Int)] = bv [UInt8.ofNat c] := by
  simp [bv, Nat.mod_eq_of_lt hc]

theorem ofNat_toNat (b : UInt8) : UInt8.ofNat b.toNat = b := by simp

/-- What a slice at A holds: the bytes l, in a block below B. Of an empty one nothing is asked. -/
def Byt (w : World) (B : Nat) (A : Option Addr) (l : List UInt8) : Prop :=
  l = [] ∨ ∃ g o, A = some ⟨g, o, none⟩ ∧ g < B ∧ ∀ j b, l[j]? = some b → w.cell? ⟨g, o + j, none⟩ = some (.int .u8 (b.toNat : Int))

section
variable {w w' : World} {B B' : Nat} {A : Option Addr} {l : List UInt8}
theorem Byt.none_ : Byt w B A [] := .inl rfl
theorem Byt.keep (h : Byt w B A l) (hk : ∀ p : Addr, p.block < B → w'.cell? p = w.cell? p) : Byt w' B A l := by
  rcases h with h | ⟨g, o, hA, hg, hc⟩
  · exact .inl h
  · exact .inr ⟨g, o, hA, hg, fun j b hb => (hk ⟨g, o + j, none⟩ hg).trans (hc j b hb)⟩
theorem Byt.below (h : Byt w B A l) (hb : Below B w w') : Byt w' B A l := h.keep fun _ hp => hb.cell hp
theorem Byt.up (h : Byt w B A l) (hB : B ≤ B') : Byt w B' A l := by
  rcases h with h | ⟨g, o, hA, hg, hc⟩
  · exact .inl h
  · exact .inr ⟨g, o, hA, by omega, hc⟩
theorem Byt.drewN (h : Byt w B A l) (k : Nat) : Byt (w.drewN k) B A l := h
theorem Byt.drew (h : Byt w B A l) : Byt w.drew B A l := h
theorem Byt.alloc (h : Byt w B A l) (hB : B ≤ w.heap.size) (o : Obj) : Byt (w.alloc o) B A l := h.below ((Below.refl _ _).alloc hB o)
/-- The byte at k, as a number. -/
theorem Byt.at_ (h : Byt w B A l) {k : Nat} (hk : k < l.length) :
    ∃ g o c : Nat, A = some ⟨g, o, none⟩ ∧ g < B ∧ c < 256 ∧ w.cell? ⟨g, o + k, none⟩ = some (.int .u8 (c : Int)) ∧ Hid (l[k]? = some (UInt8.ofNat c)) := by
  rcases h with h | ⟨g, o, hA, hg, hc⟩
  · subst h; simp at hk
  · exact ⟨g, o, l[k].toNat, hA, hg, UInt8.toNat_lt _, hc k _ (List.getElem?_eq_getElem hk), show _ = _ by rw [ofNat_toNat]; exact List.getElem?_eq_getElem hk⟩
theorem Byt.of_own {base E n c : Nat} (h : w.ownsRow base E 1 (.slice A n c) n (bv l)) : Byt w w.heap.size A l := by
  rcases h.2 with ⟨h', h0⟩ | ⟨g, cap, cur, h', hb, hg, hnc, hcm, hcs, htake⟩
  · refine .inl (List.eq_nil_of_length_eq_zero ?_)
    have := h.1; rw [bv_len] at this; omega
  · simp only [Value.slice.injEq] at h'
    obtain ⟨rfl, _, rfl⟩ := h'
    refine .inr ⟨g, 0, rfl, (Array.getElem?_eq_some_iff.1 hg).1, fun j b hj => ?_⟩
    have hl := h.1; rw [bv_len] at hl
    have hjl : j < l.length := (List.getElem?_eq_some_iff.1 hj).1
    have h2 := World.ownsRow.cellAt h j (by omega)
    rw [Nat.zero_add, h2, bv_at, hj]; rfl
end

/-- string(b). -/
theorem conv_bytes {P : Program} {w : World} {T E S : TypeId} (hT : P.underlying T = some (.slice E)) (hE : P.underlying E = some (.int .u8)) (hS : P.underlying S = some .string)
    {B : Nat} {A : Option Addr} {l : List UInt8} (h : Byt w B A l) (n c : Nat) (hn : l.length = n) : (convert T S (.slice A n c)).run P w = .ok (.string ⟨l.toArray⟩) w := by
  subst hn
  cases A with
  | none =>
    rcases h with rfl | ⟨g, o, hA, _⟩
    · exact run_convert_bytes_nil w T E hT hE _ c S hS
    · cases hA
  | some a =>
    have hl : (loadCells a l.length).run P w = .ok ((l.map fun b => (b.toNat : Int)).map (Value.int .u8)).toArray w := by
      have h1 := run_loadCells_list (P := P) w a (bv l) (fun j v hj => by
        rcases h with rfl | ⟨g, o, hA, _, hc⟩
        · simp [bv] at hj
        · cases hA
          rw [bv_at] at hj
          obtain ⟨b, hb, rfl⟩ := Option.map_eq_some_iff.1 hj
          have hp : (⟨g, o, none⟩ : Addr).add j = ⟨g, o + j, none⟩ := by unfold Addr.add; split <;> simp_all
          rw [hp]; exact hc j b hb)
      rw [bv_len] at h1
      simpa [bv, Function.comp_def] using h1
    rw [run_convert_bytes_string w T S E _ l.length c hT hE hS, run_bytesToString w _ l.length c _ hl, foldl_push_bytes]
    have e : (l.map fun b => (b.toNat : Int)).map (fun n => UInt8.ofNat n.toNat) = l := by
      rw [List.map_map]
      conv => rhs; rw [← List.map_id l]
      exact List.map_congr_left fun b _ => by simp
    rw [e]
    simp [ByteArray.empty, ByteArray.emptyWithCapacity]
    rfl

/-- A result: a new slice of the bytes l, in blocks from 'base' on. -/
def Res (w : World) (base : Nat) (E : TypeId) (A : Option Addr) (n c : Nat) (l : List UInt8) : Prop := w.ownsRow base E 1 (.slice A n c) n (bv l)
section
variable {w w' : World} {base B n c : Nat} {E : TypeId} {A : Option Addr} {l : List UInt8}
theorem Res.len (h : Res w base E A n c l) : l.length = n := by have := h.1; rw [bv_len] at this; omega
theorem Res.byt (h : Res w base E A n c l) : Byt w w.heap.size A l := Byt.of_own h
theorem Res.keep (h : Res w base E A n c l) (hb : Below w.heap.size w w') : Res w' base E A n c l := by
  refine ⟨h.1, ?_⟩
  rcases h.2 with hn | ⟨g, cap, cur, hv, hB, hg, r⟩
  · exact .inl hn
  · exact .inr ⟨g, cap, cur, hv, hB, (hb.block g (Array.getElem?_eq_some_iff.1 hg).1).trans hg, r⟩
theorem Res.base_le (h : Res w base E A n c l) (hB : B ≤ base) : Res w B E A n c l := by
  refine ⟨h.1, ?_⟩
  rcases h.2 with hn | ⟨g, cap, cur, hv, hB', hg, r⟩
  · exact .inl hn
  · exact .inr ⟨g, cap, cur, hv, by omega, hg, r⟩
theorem Res.of (v : Value) (h : w.ownsRow base E 1 v n (bv l)) : ∃ A c, v = .slice A n c ∧ Res w base E A n c l := by
  rcases h.2 with ⟨rfl, rfl⟩ | ⟨g, cap, cur, rfl, _⟩
  · exact ⟨_, _, rfl, h⟩
  · exact ⟨_, _, rfl, h⟩
end

/-- make([]byte, n, c): a row of c noughts. -/
theorem make_bytes {P : Program} {T E : TypeId} {i : TypeInfo} (hT : P.underlying T = some (.slice E)) (hi : P.info? E = some i) (hz : i.zero = some (.int .u8 0)) (h1 : i.size = 1) (h2 : i.bytes = 1)
    (n c : Nat) (L C : Int) (hL : L = (n : Int)) (hC : C = (c : Int)) (hnc : n ≤ c) (hc : c ≤ 281474976710656) (w : World) :
    ∃ w1, (Instr.makeSlice T (.int .i64 L) (.int .i64 C)).run P w = .ok (.slice (some ⟨w.heap.size, 0, none⟩) n c) w1 ∧ Hid (w1.heap[w.heap.size]? = some (.cells (bv (List.replicate c 0)).toArray E (0, 0))) ∧
      Hid (Below w.heap.size w w1) ∧ Hid (w1.heap.size = w.heap.size + 1) := by
  subst hL hC
  have hr := run_make (P := P) w T E i (.int .u8 0) hT hi hz .i64 .i64 n c (by omega) (by omega) (by rw [h2]; omega) (by omega)
  simp only [Int.toNat_natCast] at hr
  refine ⟨_, hr, ?_, (Below.refl _ _).alloc (Nat.le_refl _) _, show _ = _ by simp⟩
  show _ = _
  rw [heap_alloc_new]
  have e : madeCells (Value.int .u8 0).cells (c * i.size) = (bv (List.replicate c 0)).toArray := by
    rw [h1, Nat.mul_one, ← bv_rep]
    apply Array.ext'
    show (madeCells #[Value.int .u8 0] c).toList = _
    rw [toList_madeCells_one]
  rw [e]

/-- A row whose first cells are the bytes l. -/
theorem Res.row {w : World} {base E g n c : Nat} {l : List UInt8} {cur : Array Value} (hb : base ≤ g) (hg : w.heap[g]? = some (.cells cur E (0, 0))) (hn : n ≤ c) (hc : c ≤ 281474976710656) (hs : cur.size = c)
    (hl : l.length = n) (ht : cur.toList.take n = bv l) : Res w base E (some ⟨g, 0, none⟩) n c l :=
  ⟨by rw [bv_len]; omega, .inr ⟨g, c, cur, rfl, hb, hg, hn, by unfold maxLen; omega, by omega, by rw [Nat.mul_one]; exact ht⟩⟩

theorem addr_add (g o j : Nat) : (⟨g, o, none⟩ : Addr).add j = ⟨g, o + j, none⟩ := by unfold Addr.add; split <;> simp_all
/-- What a copy out of the bytes asks. -/
theorem Byt.src {w : World} {B : Nat} {A : Option Addr} {l : List UInt8} (h : Byt w B A l) (x : Option Addr) (y : Addr) (hx : x = some y) :
    0 < (bv l).length → x = some y ∧ ∃ ad, A = some ad ∧ ∀ j v, (bv l)[j]? = some v → w.cell? (ad.add j) = some v := by
  intro hp
  rcases h with h0 | ⟨g, o, rfl, hg, hc⟩
  · subst h0; simp [bv] at hp
  · refine ⟨hx, _, rfl, fun j v hj => ?_⟩
    rw [bv_at] at hj
    obtain ⟨b, hb, rfl⟩ := Option.map_eq_some_iff.1 hj
    rw [addr_add]; exact hc j b hb

/-- append(s, x..) onto bytes of the call's own. -/
theorem wp_append_bytes {P : Program} (w : World) {ops : Array Oper} {rest : List Oper} {o : Oper} {a : Act} {Q : Exit → Act → World → Prop} (hgd : o.guard = none) (s x : Operand) (T : TypeId)
    (ho : o.op = .call { callee := .builtin .append, args := #[s, x], argTypes := #[T, T] }) (E : TypeId) (hT : P.underlying T = some (.slice E))
    (hI : (P.info? E).map (fun i => (i.zero, i.size, i.bytes)) = some (some (.int .u8 0), 1, 1)) (base : Nat) (A : Option Addr) (n c : Nat) (l : List UInt8) (hs : a.eval s = .slice A n c) (hr : Res w base E A n c l)
    (ad : Addr) (m c2 : Nat) (hx : a.eval x = .slice (some ad) m c2) (news : List UInt8) (hl : news.length = m) (hnews : ∀ j u, (bv news)[j]? = some u → w.cell? (ad.add j) = some u) (hsz : n + m ≤ 140737488355328) (hbase : base ≤ w.heap.size)
    (h : ∀ A' c' w', Res w' base E A' (n + m) c' (l ++ news) → (∀ B w0, B ≤ base → Below B w0 w → Below B w0 w') → wpList P ops Q rest (a.put o.dst (.slice A' (n + m) c')) w') : wpList P ops Q (o :: rest) a w := by
  obtain ⟨i, hi, hz, h1, h2⟩ := info_parts hI
  refine wpList_append_own w hgd s x T ho base E i (.int .u8 0) 1 1 hT hi hz h1 h2 rfl (by decide) _ n (bv l) hs hr ad m c2 (bv news) hx (by rw [bv_len]; omega) hnews (bv_one _) (by unfold maxLen; omega) (by omega) hbase ?_
  intro v' w' hown hgr _
  rw [← bv_app] at hown
  obtain ⟨A', c', rfl, hres⟩ := Res.of v' hown
  exact h A' c' w' hres fun B w0 hB hb => hb.grown hgr (by omega) fun k hk => by have := World.ownsRow.lt hr k hk; omega

/-- The same as one step of a region that draws its order. -/
theorem step_append_bytes {P : Program} (w : World) {ops : Array Oper} {o : Oper} {a : Act} {K : Act → World → Prop} {Q : Exit → Act → World → Prop} {E' : Prop} (hgd : o.guard = none) (s x : Operand) (T : TypeId)
    (ho : o.op = .call { callee := .builtin .append, args := #[s, x], argTypes := #[T, T] }) (E : TypeId) (hT : P.underlying T = some (.slice E))
    (hI : (P.info? E).map (fun i => (i.zero, i.size, i.bytes)) = some (some (.int .u8 0), 1, 1)) (base : Nat) (A : Option Addr) (n c : Nat) (l : List UInt8) (hs : a.eval s = .slice A n c) (hr : Res w base E A n c l)
    (ad : Addr) (m c2 : Nat) (hx : a.eval x = .slice (some ad) m c2) (news : List UInt8) (hl : news.length = m) (hnews : ∀ j u, (bv news)[j]? = some u → w.cell? (ad.add j) = some u) (hsz : n + m ≤ 140737488355328) (hbase : base ≤ w.heap.size)
    (h : ∀ A' c' w', Res w' base E A' (n + m) c' (l ++ news) → (∀ B w0, B ≤ base → Below B w0 w → Below B w0 w') → K (a.put o.dst (.slice A' (n + m) c')) w') :
    if Region.wanted o (yielded ops a.tmps) = true then Oper.wp P o a w K Q else E' := by
  have hw : Region.wanted o (yielded ops a.tmps) = true := by simp [Region.wanted, hgd]
  rw [if_pos hw]
  obtain ⟨i, hi, hz, h1, h2⟩ := info_parts hI
  refine wp_append_own w s x T ho base E i (.int .u8 0) 1 1 hT hi hz h1 h2 rfl (by decide) _ n (bv l) hs hr ad m c2 (bv news) hx (by rw [bv_len]; omega) hnews (bv_one _) (by unfold maxLen; omega) (by omega) hbase ?_
  intro v' w' hown hgr _
  rw [← bv_app] at hown
  obtain ⟨A', c', rfl, hres⟩ := Res.of v' hown
  exact h A' c' w' hres fun B w0 hB hb => hb.grown hgr (by omega) fun k hk => by have := World.ownsRow.lt hr k hk; omega

theorem Res.drew {w : World} {base E n c : Nat} {A : Option Addr} {l : List UInt8} (h : Res w base E A n c l) : Res w.drew base E A n c l := h
/-- A literal of bytes, in the newest block. -/
theorem Byt.lit (w : World) (E : TypeId) (cs : Array Value) (l : List UInt8) (h : cs.toList = bv l) : Byt (w.alloc (.cells cs E)) (w.alloc (.cells cs E)).heap.size (some ⟨w.heap.size, 0, none⟩) l := by
  refine .inr ⟨w.heap.size, 0, rfl, by simp, fun j b hj => ?_⟩
  rw [Nat.zero_add, World.cell?_alloc_new]
  have h1 := bv_at l j
  rw [hj, ← h] at h1
  simpa using h1
/-- Below through a new block of the caller's own. -/
theorem below_lit {B : Nat} {a w w' : World} {o : Obj} (h : Below B a w) (hB : B ≤ w.heap.size) (h2 : Below (w.alloc o).heap.size (w.alloc o) w') : Below B a w' :=
  (h.alloc hB o).trans (h2.mono (by simp; omega))
theorem below_next {B : Nat} {a w w' : World} (h : Below B a w) (hB : B ≤ w.heap.size) (h2 : Below w.heap.size w w') : Below B a w' := h.trans (h2.mono hB)
/-- A []byte that came in, as the row's reading tells it. -/
theorem bytes_of_row {w : World} {a : Option Addr} {len cap : Nat} {zs : List Int}
    (h : (a = none ∧ len = 0 ∧ cap = 0 ∧ zs = []) ∨ ∃ x, a = some x ∧ len ≤ cap ∧ cap ≤ maxLen ∧ zs.length = cap ∧ (∀ i, i < zs.length → w.cell? (x.add i) = some (.int .u8 (zs.getD i 0))) ∧ ∀ n ∈ zs, (Lit.int .u8 n).wf = true) :
    ∃ l : List UInt8, Byt w w.heap.size a l ∧ l.length = len := by
  rcases h with ⟨rfl, rfl, _, _⟩ | ⟨x, rfl, hl, _, hz, hc, hw⟩
  · exact ⟨[], Byt.none_, rfl⟩
  · rcases Nat.eq_zero_or_pos len with h0 | h0
    · exact ⟨[], Byt.none_, h0.symm⟩
    · obtain ⟨b, off, rfl, hcell⟩ := ints_at hc (by omega)
      refine ⟨(zs.take len).map fun z => UInt8.ofNat z.toNat, .inr ⟨b, off, rfl, ?_, ?_⟩, by simp; omega⟩
      · exact World.block_lt_of_cell? w ⟨b, off + 0, none⟩ (hcell 0 (by omega))
      · intro j c hj
        have hjl : j < len := by
          have := (List.getElem?_eq_some_iff.1 hj).1
          simp at this; omega
        have hjz : j < zs.length := by omega
        rw [hcell j hjz]
        simp [hjl, List.getElem?_eq_getElem hjz] at hj
        subst hj
        have h1 := hw zs[j] (List.getElem_mem hjz)
        have h2 : 0 ≤ zs[j] ∧ zs[j] ≤ 255 := by simpa [Lit.wf, IntKind.min, IntKind.max, IntKind.signed, IntKind.bits] using h1
        congr 2
        simp [List.getElem?_eq_getElem hjz]
        omega
theorem u64_of_wf {a : Int} (h : (Lit.int .u64 a).wf = true) : ∃ v : Nat, a = (v : Int) ∧ v < 18446744073709551616 := by
  have h2 : 0 ≤ a ∧ a ≤ 18446744073709551615 := by simpa [Lit.wf, IntKind.min, IntKind.max, IntKind.signed, IntKind.bits] using h
  exact ⟨a.toNat, by omega, by omega⟩
theorem ret_bool {a b : Bool} (h : a = b) : Ending.returned (.bool a) = .returned (.bool b) := by rw [h]
theorem ret_str {a b : ByteArray} (h : a = b) : Ending.returned (.string a) = .returned (.string b) := by rw [h]

theorem Res.alloc {w : World} {base E n c : Nat} {A : Option Addr} {l : List UInt8} (h : Res w base E A n c l) (o : Obj) : Res (w.alloc o) base E A n c l := World.ownsRow.alloc h o

/-- The one new cell of append(s, x). -/
theorem new_byte (w : World) (E : TypeId) (x : Int) (b : UInt8) (hx : x = (b.toNat : Int)) :
    ∀ j u, (bv [b])[j]? = some u → (w.alloc (.cells #[.int .u8 x] E)).cell? ((⟨w.heap.size, 0, none⟩ : Addr).add j) = some u := by
  intro j u hj
  match j, hj with
  | 0, hj =>
    simp [bv] at hj
    subst hj hx
    rw [addr_add]
    simp
theorem new_bytes2 (w : World) (E : TypeId) (x y : Int) (b d : UInt8) (hx : x = (b.toNat : Int)) (hy : y = (d.toNat : Int)) :
    ∀ j u, (bv [b, d])[j]? = some u → (w.alloc (.cells #[.int .u8 x, .int .u8 y] E)).cell? ((⟨w.heap.size, 0, none⟩ : Addr).add j) = some u := by
  intro j u hj
  match j, hj with
  | 0, hj =>
    simp [bv] at hj
    subst hj hx
    rw [addr_add]
    simp
  | 1, hj =>
    simp [bv] at hj
    subst hj hy
    rw [addr_add]
    simp
theorem new_bytes2d (w : World) (E : TypeId) (x y : Int) (b d : UInt8) (hx : x = (b.toNat : Int)) (hy : y = (d.toNat : Int)) :
    ∀ j u, (bv [b, d])[j]? = some u → (w.alloc (.cells #[.int .u8 x, .int .u8 y] E)).drew.cell? ((⟨w.heap.size, 0, none⟩ : Addr).add j) = some u := new_bytes2 w E x y b d hx hy
theorem byte_of (v s : Nat) : (v : Int) / 2 ^ s % 256 = ((UInt8.ofNat (v / 2 ^ s)).toNat : Int) := by
  rw [UInt8.toNat_ofNat']
  simp

/-- Same heap and streams, draws aside. -/
theorem below_drewN {B : Nat} {a w : World} (h : Below B a w) (k : Nat) : Below B a (w.drewN k) := ⟨h.os, h.tape, h.output, h.size, h.block⟩
end Go.Proofs.Ytknmccpoheekmaa
