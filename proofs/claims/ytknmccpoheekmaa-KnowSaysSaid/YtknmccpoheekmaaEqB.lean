/-
  Two arrays of the same bytes are equal: a law for the walks of this seat. Conditions: none.
-/
import Derived.Test.YtknmccpoheekmaaMem
import Derived.Laws.StructEq
namespace Go.Proofs.Ytknmccpoheekmaa
open Go.RowKit

section
variable {P : Program} {t e n : Nat} (ht : P.underlying t = some (.array n e)) (he : P.underlying e = some (.int .u8)) (hs : (P.info? e).map (·.size) = some 1)
include ht he hs
theorem part_bytes (l : List UInt8) (k : Nat) (b : UInt8) (hb : l[k]? = some b) (w : World) : (part e (bv l).toArray (k * 1)).run P w = .ok (.int .u8 (b.toNat : Int)) w := by
  obtain ⟨i, hi', hi2⟩ := Option.map_eq_some_iff.1 hs
  have h1 : (bv l)[k]? = some (.int .u8 (b.toNat : Int)) := by rw [bv_at, hb]; rfl
  have _ := ht
  simp [part, isAgg, run_underlying he, h1]
theorem eq_bytes_same (l : List UInt8) (hl : l.length = n) (d : Nat) (w : World) : (Op.equalIn (d + 2) t (.agg (bv l).toArray) (.agg (bv l).toArray)).run P w = .ok true w := by
  obtain ⟨i, hi', hi2⟩ := Option.map_eq_some_iff.1 hs
  have hp := part_bytes ht he hs l
  have hfor : ∀ (is : List Nat), (∀ k ∈ is, k < l.length) → (forIn (m := Sem) is ((none : Option Bool), ()) fun i _ => do
      let a ← part e (bv l).toArray (i * 1)
      let b ← part e (bv l).toArray (i * 1)
      let r ← Op.equalIn (d + 1) e a b
      if (!r) = true then pure (ForInStep.done (some false, ())) else pure (ForInStep.yield (none, ()))).run P w = .ok (none, ()) w := by
    intro is
    induction is with
    | nil => intro _; simp
    | cons k ks ih =>
      intro hk
      have hk1 : k < l.length := hk k (by simp)
      have h1 := hp k l[k] (List.getElem?_eq_getElem hk1)
      have h2 := ih (fun j hj => hk j (by simp [hj]))
      rw [List.forIn_cons]
      simp only [Sem.run_bind, h1, Result.andThen_ok, run_equalIn_int w d e .u8 .u8 _ _ he]
      simpa using h2
  rw [Op.equalIn]
  have hsz : (sizeOf e).run P w = .ok 1 w := by simp [sizeOf, typeInfo, hi', hi2]
  simp only [Sem.run_bind, run_underlying ht, Result.andThen_ok, hsz]
  have hr := hfor (List.range' 0 n) (fun k hk => by rw [hl]; simpa using hk)
  simp only [Std.Legacy.Range.forIn_eq_forIn_range', Std.Legacy.Range.size, Nat.sub_zero, Nat.add_one_sub_one, Nat.div_one, hr]
  simp
theorem eql_bytes_same (l : List UInt8) (hl : l.length = n) (w : World) : (binOp .eql t (.agg (bv l).toArray) (.agg (bv l).toArray)).run P w = .ok (.bool true) w := by
  rw [run_eql_struct, eq_bytes_same ht he hs l hl 9998 w]
  rfl
end
/-- Operations with a guard that says yes: a whole row is read, an array is built, two arrays are held against each other. -/
theorem wpList_wanted {P : Program} {ops : Array Oper} {rest : List Oper} {o : Oper} {a : Act} {w : World} {Q : Exit → Act → World → Prop} (hw : Region.wanted o (yielded ops a.tmps) = true)
    (h : ∀ K : Act → World → Prop, (∀ a w, wpList P ops Q rest a w → K a w) → o.wp P a w K Q) : wpList P ops Q (o :: rest) a w :=
  wpList_step fun K hK => by rw [if_pos hw]; exact h K hK
theorem wpList_load_row_w {P : Program} {ops : Array Oper} {rest : List Oper} {o : Oper} {a : Act} {w : World} {Q : Exit → Act → World → Prop} (hw : Region.wanted o (yielded ops a.tmps) = true) (ty : TypeId) (x : Operand) (ho : o.op = .load ty x)
    (g : Nat) (hx : a.eval x = .pointer (some ⟨g, 0, none⟩)) (t : TypeId) (cs : Array Value) (fr : Nat × Nat) (d : TypeDesc) (hg : w.heap[g]? = some (.cells cs t fr))
    (hu : P.underlying ty = some d) (hd : (match d with | .struct _ | .array _ _ => true | _ => false) = true) (hi : (P.info? ty).map (·.size) = some cs.size)
    (h : wpList P ops Q rest (a.put o.dst (.agg cs)) w) : wpList P ops Q (o :: rest) a w :=
  wpList_wanted hw fun _ hK => wp_load_row ty x ho g hx t cs fr d hg hu hd hi (hK _ _ h)
theorem wpList_build_w {P : Program} {ops : Array Oper} {rest : List Oper} {o : Oper} {a : Act} {w : World} {Q : Exit → Act → World → Prop} (hw : Region.wanted o (yielded ops a.tmps) = true) (t : TypeId) (parts : Array (Nat × Operand)) (ho : o.op = .build t parts) (lst : List (Nat × Value)) (hp : (parts.map fun (i, x) => (i, a.eval x)).toList = lst) (cs : Array Value) (hf : P.built t lst = some cs)
    (h : wpList P ops Q rest (a.put o.dst (.agg cs)) w) : wpList P ops Q (o :: rest) a w :=
  wpList_wanted hw fun _ hK => wp_build t parts ho (by rw [hp, hf]; rfl) (by rw [hp, hf]; exact hK _ _ h)
theorem wpList_eql_w {P : Program} {ops : Array Oper} {rest : List Oper} {o : Oper} {a : Act} {w : World} {Q : Exit → Act → World → Prop} (hw : Region.wanted o (yielded ops a.tmps) = true) (t s : TypeId) (x y : Operand) (ho : o.op = .binOp .eql t x y s)
    (hm : P.eqGuardType P.depth t = false) (xs ys : Array Value) (hx : a.eval x = .agg xs) (hy : a.eval y = .agg ys) (b : Bool) (hr : (binOp .eql t (.agg xs) (.agg ys)).run P w = .ok (.bool b) w) (h : wpList P ops Q rest (a.put o.dst (.bool b)) w) : wpList P ops Q (o :: rest) a w :=
  wpList_wanted hw fun K hK => by
    have hg := run_eqGuard_agg (P := P) (w := w) .eql t x y xs ys hm
    unfold Oper.wp
    simp only [execOp, ho, hx, hy, Sem.run_bind, hg, hr, Result.andThen_ok]
    exact hK _ _ h
end Go.Proofs.Ytknmccpoheekmaa
