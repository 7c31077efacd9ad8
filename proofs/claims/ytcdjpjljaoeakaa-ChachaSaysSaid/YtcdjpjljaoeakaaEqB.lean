/-
  Two arrays of the same bytes are equal: a law for the walks of this seat. Conditions: none.
-/
import Derived.Test.YtcdjpjljaoeakaaMem
import Derived.Laws.StructEq
namespace Go.Proofs.Ytcdjpjljaoeakaa
open Go.RowKit

section
variable {P : Program} {t e n : Nat} (ht : P.underlying t = some (.array n e)) (he : P.underlying e = some (.int .u8)) (hs : (P.info? e).map (·.size) = some 1)
include ht he hs
theorem part_bytes (l : List UInt8) (k : Nat) (b : UInt8) (hb : l[k]? = some b) (w : World) : (part e (bv l).toArray (k * 1)).run P w = .ok (.int .u8 (b.toNat : Int)) w := by
  obtain ⟨i, hi', hi2⟩ := Option.map_eq_some_iff.1 hs
  have h1 : (bv l)[k]? = some (.int .u8 (b.toNat : Int)) := by rw [bv_at, hb]; rfl
  have _ := ht
  simp [part, isAgg, run_underlying he, h1]
theorem eq_bytes_same (l : List UInt8) (hl : l.length = n) (d : Nat) (w : World) : (Op.equalIn (d + 2) t (.agg (bv l).toArray) (.agg (bv l).toArray)).run P w = .ok true w := by
  obtain ⟨i, hi', hi2⟩ := Option.map_eq_some_iff.1 hs
  have hp := part_bytes ht he hs l
  have hfor : ∀ (is : List Nat), (∀ k ∈ is, k < l.length) → (forIn (m := Sem) is ((none : Option Bool), ()) fun i _ => do
      let a ← part e (bv l).toArray (i * 1)
      let b ← part e (bv l).toArray (i * 1)
      let r ← Op.equalIn (d + 1) e a b
      if (!r) = true then pure (ForInStep.done (some false, ())) else pure (ForInStep.yield (none, ()))).run P w = .ok (none, ()) w := by
    intro is
    induction is with
    | nil => intro _; simp
    | cons k ks ih =>
      intro hk
      have hk1 : k < l.length := hk k (by simp)
      have h1 := hp k l[k] (List.getElem?_eq_getElem hk1)
      have h2 := ih (fun j hj => hk j (by simp [hj]))
      rw [List.forIn_cons]
      simp only [Sem.run_bind, h1, Result.andThen_ok, run_equalIn_int w d e .u8 .u8 _ _ he]
      simpa using h2
  rw [Op.equalIn]
  have hsz : (sizeOf e).run P w = .ok 1 w := by simp [sizeOf, typeInfo, hi', hi2]
  simp only [Sem.run_bind, run_underlying ht, Result.andThen_ok, hsz]
  have hr := hfor (List.range' 0 n) (fun k hk => by rw [hl]; simpa using hk)
  simp only [Std.Legacy.Range.forIn_eq_forIn_range', Std.Legacy.Range.size, Nat.sub_zero, Nat.add_one_sub_one, Nat.div_one, hr]
  simp
theorem eql_bytes_same (l : List UInt8) (hl : l.length = n) (w : World) : (binOp .eql t (.agg (bv l).toArray) (.agg (bv l).toArray)).run P w = .ok (.bool true) w := by
  rw [run_eql_struct, eq_bytes_same ht he hs l hl 9998 w]
  rfl
end
end Go.Proofs.Ytcdjpjljaoeakaa
