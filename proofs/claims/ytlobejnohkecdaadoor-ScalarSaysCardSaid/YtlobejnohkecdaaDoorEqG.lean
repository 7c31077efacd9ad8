/-
  Two arrays of bytes, held against each other: a law for the walks of this seat. Conditions: none.
-/
import Derived.Test.YtlobejnohkecdaaDoorMem
import Derived.Laws.StructEq
namespace Go.Proofs.YtlobejnohkecdaaDoor
open Go.RowKit

def byteAt (l : List UInt8) (k : Nat) : Nat := (l.getD k 0).toNat
section
variable {P : Program} {t e n : Nat} (ht : P.underlying t = some (.array n e)) (he : P.underlying e = some (.int .u8)) (hs : (P.info? e).map (·.size) = some 1)
include ht he hs
theorem part_byte (l : List UInt8) (k : Nat) (hk : k < l.length) (w : World) : (part e (bv l).toArray (k * 1)).run P w = .ok (.int .u8 ((byteAt l k : Nat) : Int)) w := by
  obtain ⟨i, hi', hi2⟩ := Option.map_eq_some_iff.1 hs
  have h1 : (bv l)[k]? = some (.int .u8 ((byteAt l k : Nat) : Int)) := by rw [bv_at, List.getElem?_eq_getElem hk]; simp [byteAt, List.getElem?_eq_getElem hk]
  have _ := ht
  simp [part, isAgg, run_underlying he, h1]
theorem eq_bytes (l m : List UInt8) (hl : l.length = n) (hm : m.length = n) (d : Nat) (w : World) : (Op.equalIn (d + 2) t (.agg (bv l).toArray) (.agg (bv m).toArray)).run P w = .ok (decide (l = m)) w := by
  obtain ⟨i, hi', hi2⟩ := Option.map_eq_some_iff.1 hs
  have hfor : ∀ (is : List Nat), (∀ k ∈ is, k < n) → (forIn (m := Sem) is ((none : Option Bool), ()) fun i _ => do
      let a ← part e (bv l).toArray (i * 1)
      let b ← part e (bv m).toArray (i * 1)
      let r ← Op.equalIn (d + 1) e a b
      if (!r) = true then pure (ForInStep.done (some false, ())) else pure (ForInStep.yield (none, ()))).run P w = .ok (if (∀ k ∈ is, byteAt l k = byteAt m k) then none else some false, ()) w := by
    intro is
    induction is with
    | nil => intro _; simp
    | cons k ks ih =>
      intro hk
      have hk1 : k < n := hk k (by simp)
      have h1 := part_byte ht he hs l k (by omega) w
      have h1' := part_byte ht he hs m k (by omega) w
      have h2 := ih (fun j hj => hk j (by simp [hj]))
      rw [List.forIn_cons]
      simp only [Sem.run_bind, h1, h1', Result.andThen_ok, run_equalIn_int w d e .u8 .u8 _ _ he]
      by_cases hkk : byteAt l k = byteAt m k
      · simp only [List.mem_cons, forall_eq_or_imp, hkk, true_and]
        simpa using h2
      · simp [hkk]
        intro h
        exact absurd (by omega : byteAt l k = byteAt m k) hkk
  rw [Op.equalIn]
  have hsz : (sizeOf e).run P w = .ok 1 w := by simp [sizeOf, typeInfo, hi', hi2]
  simp only [Sem.run_bind, run_underlying ht, Result.andThen_ok, hsz]
  have hr := hfor (List.range' 0 n) (fun k hk => by simpa using hk)
  simp only [Std.Legacy.Range.forIn_eq_forIn_range', Std.Legacy.Range.size, Nat.sub_zero, Nat.add_one_sub_one, Nat.div_one, hr]
  have hiff : (∀ k ∈ List.range' 0 n, byteAt l k = byteAt m k) ↔ l = m := by
    constructor
    · intro h
      apply List.ext_getElem (by omega)
      intro k h1 h2
      have := h k (by simp; omega)
      have h3 : (l[k].toNat : Nat) = m[k].toNat := by simpa [byteAt, h1, h2] using this
      exact UInt8.toNat_inj.1 h3
    · rintro rfl _ _; rfl
  by_cases hlm : l = m
  · simp [hlm]
  · rw [if_neg (fun h => hlm (hiff.1 h))]
    simp [hlm]
theorem eql_bytes (l m : List UInt8) (hl : l.length = n) (hm : m.length = n) (w : World) : (binOp .eql t (.agg (bv l).toArray) (.agg (bv m).toArray)).run P w = .ok (.bool (decide (l = m))) w := by
  rw [run_eql_struct, eq_bytes ht he hs l m hl hm 9998 w]
  rfl
theorem neq_bytes (l m : List UInt8) (hl : l.length = n) (hm : m.length = n) (w : World) : (binOp .neq t (.agg (bv l).toArray) (.agg (bv m).toArray)).run P w = .ok (.bool (!decide (l = m))) w := by
  rw [run_neq_struct, eq_bytes ht he hs l m hl hm 9998 w]
  rfl
theorem neq_bytes_same (l : List UInt8) (hl : l.length = n) (w : World) : (binOp .neq t (.agg (bv l).toArray) (.agg (bv l).toArray)).run P w = .ok (.bool false) w := by
  rw [neq_bytes ht he hs l l hl hl w]
  simp
end
end Go.Proofs.YtlobejnohkecdaaDoor
