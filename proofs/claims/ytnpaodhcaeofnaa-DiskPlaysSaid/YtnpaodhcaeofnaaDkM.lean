/-
  A map from names to pointers, as a function: what a look, a store, a deletion, a range over it do. No statement is proved here. Conditions: fewer than 2^47 entries.
-/
import Derived.Test.YtnpaodhcaeofnaaDkF
import Derived.Maps.RangeWalk
import Derived.Maps.OwnSet
import Derived.Maps.Views
import Derived.StringKeys
namespace Go.Proofs.Ytnpaodhcaeofnaa
open Go.RowKit
open Go.Maps (Keyed)
open Go.MapKept Go.ChangeMaps Go.WideMaps

/-- How a pointer to a whole block reads. -/
def ptrR : Value → Option (DataW Unit × List MemPlace)
  | .pointer none => some (.lit (.bool false), [])
  | .pointer (some ⟨g, 0, none⟩) => some (.lit (.int .i64 (g : Int)), [])
  | _ => none
def ptrD : Option Nat → DataW Unit
  | none => .lit (.bool false)
  | some g => .lit (.int .i64 (g : Int))
def ptrV : Option Nat → Value
  | none => .pointer none
  | some g => .pointer (some ⟨g, 0, none⟩)
theorem ptrR_V (o : Option Nat) : ptrR (ptrV o) = some (ptrD o, []) := by cases o <;> rfl
theorem ptrR_inv {v : Value} {o : Option Nat} {ps : List MemPlace} (h : ptrR v = some (ptrD o, ps)) : v = ptrV o := by
  unfold ptrR at h
  split at h
  · cases o with
    | none => rfl
    | some g => simp [ptrD] at h
  · cases o with
    | none => simp [ptrD] at h
    | some g =>
      simp [ptrD] at h
      have h2 := Int.ofNat.inj h.1
      subst h2
      rfl
  · cases h
theorem ptrR_some {v : Value} {y : DataW Unit × List MemPlace} (h : ptrR v = some y) : ∃ o, v = ptrV o ∧ y.1 = ptrD o := by
  unfold ptrR at h
  split at h
  · injection h with h; subst h; exact ⟨none, rfl, rfl⟩
  · injection h with h; subst h; exact ⟨some _, rfl, rfl⟩
  · cases h
theorem ptrD_inj {a b : Option Nat} (h : ptrD a = ptrD b) : a = b := by
  cases a <;> cases b <;> simp [ptrD] at h
  · rfl
  · congr 1; omega
def keyL (s : ByteArray) : Lit := .string s.data.toList
theorem keyL_inj {s t : ByteArray} (h : keyL s = keyL t) : s = t := by
  simp [keyL] at h
  exact ByteArray.ext h
theorem keyL_key (s : ByteArray) : WideAt.IsKeyLit (keyL s) := by simp [keyL, WideAt.IsKeyLit]
theorem keyL_same (s t : ByteArray) : (keyL s).sameKey (keyL t) = decide (s = t) := by
  by_cases h : s = t
  · subst h; rw [WideAt.sameKey_self (keyL_key s)]; simp
  · rw [Maps.sameKey_ne (fun e => h (keyL_inj e))]; simp [h]
theorem key_inv {P : Program} {k : TypeId} (hk : P.underlying k = some .string) {key : Value} {kl : Lit} (h : keyOf P k key = some kl) : ∃ s : ByteArray, key = .string s ∧ kl = keyL s ∧ s.size ≤ maxLen := by
  cases key <;> simp [keyOf, hk, mapKey] at h
  exact ⟨_, rfl, h.2.symm, h.1⟩
theorem key_mk {s : ByteArray} (hs : s.size ≤ maxLen) : keyOf Try.prog 9 (.string s) = some (keyL s) := keyOf_string_mk Try.underlying9 hs
theorem strKeyed : Keyed Try.prog 9 := Maps.string_keyed Try.underlying9
theorem Try.zeroPtr (w : World) : (zeroValue 47).run Try.prog w = .ok (.pointer none) w := by kernel_rfl

/-- The map in block m: at most n entries; at the name s the pointer F s. -/
def MapIs (w : World) (m n : Nat) (F : ByteArray → Option Nat) : Prop :=
  ∃ D, w.ownsMap Try.prog 9 ptrR m n D ∧ (∀ s, D.atKey (keyL s) (.lit (.bool false)) = ptrD (F s)) ∧ (∀ s, Maps.has D (keyL s) = (F s).isSome)
section
variable {w w' : World} {m n : Nat} {F : ByteArray → Option Nat}
theorem MapIs.lt (h : MapIs w m n F) : m < w.heap.size := by obtain ⟨D, h, _⟩ := h; exact h.lt
theorem MapIs.mono (h : MapIs w m n F) {n' : Nat} (hn : n ≤ n') : MapIs w m n' F := by obtain ⟨D, h, h2⟩ := h; exact ⟨D, h.mono hn, h2⟩
theorem MapIs.block (h : MapIs w m n F) (hb : w'.heap[m]? = w.heap[m]?) : MapIs w' m n F := by
  obtain ⟨D, ⟨es, clock, h1, h2⟩, h3⟩ := h
  exact ⟨D, ⟨es, clock, hb.trans h1, h2⟩, h3⟩
/-- No row of cells lies there. -/
theorem MapIs.ne (h : MapIs w m n F) {g t : Nat} {cs : Array Value} (hg : w.heap[g]? = some (.cells cs t (0, 0))) : g ≠ m := by
  obtain ⟨D, ⟨es, clock, h1, _⟩, _⟩ := h
  intro e; rw [e, h1] at hg; cases hg
theorem MapIs.made (w : World) : MapIs (w.alloc (.map #[] 0)) w.heap.size 0 fun _ => none :=
  ⟨.map [], World.ownsMap_made w _ _ _, fun _ => rfl, fun _ => rfl⟩
theorem MapIs.look (h : MapIs w m n F) {s : ByteArray} (hs : s.size ≤ maxLen) : (Instr.lookup 44 (.map (some m)) (.string s) false).run Try.prog w = .ok (ptrV (F s)) w := by
  obtain ⟨D, h1, h2, _⟩ := h
  obtain ⟨v, ps, hrun, hv⟩ := h1.lookup (z := .pointer none) (zd := .lit (.bool false)) (zp := []) strKeyed Try.underlying44 (Try.zeroPtr w) rfl (key_mk hs)
  rw [h2] at hv
  rw [ptrR_inv hv] at hrun
  exact hrun
theorem MapIs.store (h : MapIs w m n F) {s : ByteArray} (hs : s.size ≤ maxLen) (hn : n < maxLen) (g : Nat) :
    ∃ w', (Instr.mapUpdate 44 (.map (some m)) (.string s) (.pointer (some ⟨g, 0, none⟩))).run Try.prog w = .ok () w' ∧ MapIs w' m (n + 1) (fun t => if t = s then some g else F t) ∧ w.grownBy w' (some m) ∧ w'.heap.size = w.heap.size := by
  obtain ⟨D, h1, h2, h3⟩ := h
  have hm : Maps.IsMap D := by obtain ⟨es, clock, _, _, _, rfl⟩ := h1; exact ⟨_, rfl⟩
  obtain ⟨w', hrun, h4, h5⟩ := h1.store strKeyed Try.underlying44 hn (key_mk hs) (ptrR_V (some g))
  have hsz : w'.heap.size = w.heap.size := by obtain ⟨es, clock, es', clock', hb, rfl⟩ := h5; simp [setBlock]
  refine ⟨w', hrun, ⟨_, h4, fun t => ?_, fun t => ?_⟩, h5.grown, hsz⟩
  · show _ = ptrD (if t = s then some g else F t)
    by_cases ht : t = s
    · subst ht; rw [Maps.atKey_put_same hm (keyL_key t), if_pos rfl]
    · rw [Maps.atKey_put_other (fun e => ht (keyL_inj e)), if_neg ht, h2]
  · show _ = (if t = s then some g else F t).isSome
    by_cases ht : t = s
    · subst ht; rw [Maps.has_put_same hm (keyL_key t), if_pos rfl]; rfl
    · rw [Maps.has_put_other (fun e => ht (keyL_inj e)), if_neg ht, h3]
theorem MapIs.drop (h : MapIs w m n F) {s : ByteArray} (hs : s.size ≤ maxLen) (ty : TypeId) :
    ∃ w', (Builtin.delete_ #[44, 9] ty #[.map (some m), .string s]).run Try.prog w = .ok (.tuple #[]) w' ∧ MapIs w' m n (fun t => if t = s then none else F t) ∧ w.grownBy w' (some m) ∧ w'.heap.size = w.heap.size := by
  obtain ⟨D, h1, h2, h3⟩ := h
  obtain ⟨w', hrun, h4, h5⟩ := h1.drop strKeyed Try.underlying44 (key_mk hs) ty
  have hsz : w'.heap.size = w.heap.size := by obtain ⟨es, clock, es', clock', hb, rfl⟩ := h5; simp [setBlock]
  refine ⟨w', hrun, ⟨_, h4, fun t => ?_, fun t => ?_⟩, h5.grown, hsz⟩
  · show _ = ptrD (if t = s then none else F t)
    by_cases ht : t = s
    · subst ht; rw [Maps.atKey_del_same, if_pos rfl]; rfl
    · rw [Maps.atKey_del_other (fun e => ht (keyL_inj e)), if_neg ht, h2]
  · show _ = (if t = s then none else F t).isSome
    by_cases ht : t = s
    · subst ht; rw [Maps.has_del_same, if_pos rfl]; rfl
    · rw [Maps.has_del_other (fun e => ht (keyL_inj e)), if_neg ht, h3]
end

/-- A loop over the map: todo tells which names are still to come. -/
def RangeIs (w : World) (m r n : Nat) (F : ByteArray → Option Nat) (todo : ByteArray → Bool) (cnt : Nat) : Prop :=
  ∃ D left, w.ranges Try.prog 9 ptrR m r n D left cnt ∧ (∀ s, D.atKey (keyL s) (.lit (.bool false)) = ptrD (F s)) ∧ (∀ s, Maps.has D (keyL s) = (F s).isSome) ∧ ∀ s, left (keyL s) = todo s
section
variable {w w' : World} {m r n cnt : Nat} {F : ByteArray → Option Nat} {todo : ByteArray → Bool}
theorem RangeIs.map (h : RangeIs w m r n F todo cnt) : MapIs w m n F := by
  obtain ⟨D, left, h1, h2, h3, _⟩ := h
  exact ⟨D, h1.owns, h2, h3⟩
theorem RangeIs.lt (h : RangeIs w m r n F todo cnt) : r < w.heap.size := by obtain ⟨D, left, h1, _⟩ := h; exact h1.lt
theorem RangeIs.left_eq (h : RangeIs w m r n F todo cnt) : w.rangeLeft m r = cnt := by obtain ⟨D, left, h1, _⟩ := h; exact h1.left_eq
theorem RangeIs.blocks (h : RangeIs w m r n F todo cnt) (hm : w'.heap[m]? = w.heap[m]?) (hr : w'.heap[r]? = w.heap[r]?) : RangeIs w' m r n F todo cnt := by
  obtain ⟨D, left, h1, h2⟩ := h
  refine ⟨D, left, ?_, h2⟩
  obtain ⟨es, clock, since, seen, c0, a1, a2, a3, a4, a5, a6⟩ := h1
  exact ⟨es, clock, since, seen, c0, hm.trans a1, a2, a3, a4, hr.trans a5, a6⟩
theorem RangeIs.ne (h : RangeIs w m r n F todo cnt) {g t : Nat} {cs : Array Value} (hg : w.heap[g]? = some (.cells cs t (0, 0))) : g ≠ r := by
  obtain ⟨D, left, ⟨es, clock, since, seen, c0, _, _, _, _, h1, _⟩, _⟩ := h
  intro e; rw [e, h1] at hg; cases hg
end
theorem wp_range_map {P : Program} (w : World) {ops : Array Oper} {rest : List Oper} {o : Oper} {a : Act} {Q : Exit → Act → World → Prop} (hg : o.guard = none) (x : Operand) (hop : o.op = Op.range 44 x) (hP : P = Try.prog)
    (m n : Nat) (F : ByteArray → Option Nat) (hm : a.eval x = .map (some m)) (h : MapIs w m n F)
    (hK : ∀ w' cnt, RangeIs w' m w.heap.size n F (fun s => (F s).isSome) cnt → Hid (w.grownBy w' none) → Hid (w'.heap.size = w.heap.size + 1) → wpList P ops Q rest (a.put o.dst (.pointer (some ⟨w.heap.size, 0, none⟩))) w') : wpList P ops Q (o :: rest) a w := by
  subst hP
  obtain ⟨D, h1, h2, h3⟩ := h
  refine wpList_range_own w hg x _ hop 9 _ strKeyed Try.underlying44 ptrR m n D hm h1 ?_
  intro w' hr hg hs
  exact hK w' _ ⟨D, _, hr, h2, h3, h3⟩ hg hs
theorem wp_next_map {P : Program} (w : World) {ops : Array Oper} {rest : List Oper} {o : Oper} {a : Act} {Q : Exit → Act → World → Prop} (hg : o.guard = none) (it : Operand) (hop : o.op = Op.next it false) (hP : P = Try.prog)
    (m r n cnt : Nat) (F : ByteArray → Option Nat) (todo : ByteArray → Bool) (hit : a.eval it = .pointer (some ⟨r, 0, none⟩)) (h : RangeIs w m r n F todo cnt) (hT : ∀ s, todo s = true → (F s).isSome = true)
    (hDone : Hid (∀ s, todo s = false) → wpList P ops Q rest (a.put o.dst (.tuple #[.bool false])) w)
    (hMore : ∀ (s : ByteArray) (g : Nat) (w' : World) (cnt' : Nat), Hid (todo s = true) → Hid (F s = some g) → RangeIs w' m r n F (fun t => todo t && !decide (t = s)) cnt' → cnt' < cnt → Hid (w.grownBy w' (some r)) →
      (Instr.entry (.pointer (some ⟨r, 0, none⟩))).run P w' = .ok (.tuple #[.string s, .pointer (some ⟨g, 0, none⟩)]) w' → wpList P ops Q rest (a.put o.dst (.tuple #[.bool true, .string s, .pointer (some ⟨g, 0, none⟩)])) w') :
    wpList P ops Q (o :: rest) a w := by
  subst hP
  obtain ⟨D, left, h1, h2, h3, h4⟩ := h
  refine wpList_next_ranges w hg it hop 9 strKeyed ptrR (Value.string) ptrV (fun key kl hk => by obtain ⟨s, h, _⟩ := key_inv Try.underlying9 hk; exact ⟨s, h⟩) (fun v y hv => by obtain ⟨o, h, _⟩ := ptrR_some hv; exact ⟨o, h⟩) m r n D left cnt hit h1 (fun _ hl => hDone (Lib.hid fun s => by rw [← h4]; exact hl _)) ?_
  intro s o' kl y w' cnt' hkey hlk hv hat hrg hlt hgr hsz hen
  obtain ⟨s', e, rfl, _⟩ := key_inv Try.underlying9 hkey
  injection e with e
  subst e
  have ho : o' = F s := by
    have h5 := hat (.lit (.bool false))
    rw [h2, (Option.some.inj ((ptrR_V o').symm.trans hv)).symm] at h5
    exact (ptrD_inj h5).symm
  have hsome := hT s (by rw [← h4]; exact hlk)
  cases hF : F s with
  | none => rw [hF] at hsome; cases hsome
  | some g =>
    rw [hF] at ho
    subst ho
    exact hMore s g w' cnt' (Lib.hid (by rw [← h4]; exact hlk)) (Lib.hid hF) ⟨D, _, hrg, h2, h3, fun t => by rw [h4, keyL_same]⟩ hlt hgr hen
end Go.Proofs.Ytnpaodhcaeofnaa
