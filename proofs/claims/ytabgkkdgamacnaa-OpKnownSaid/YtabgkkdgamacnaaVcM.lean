/-
  Arrays of numbers with a sign, held against each other; the least and the greatest of a row. Conditions: the row lies in a block of its own.
-/
import Derived.Test.YtabgkkdgamacnaaVcS
import Derived.Test.YtabgkkdgamacnaaNew
import Derived.Test.YtabgkkdgamacnaaRow
import Derived.Laws.StructEq
namespace Go.Proofs.Ytabgkkdgamacnaa
open Go.RowKit

section
variable {P : Program} {t e n : Nat} (ht : P.underlying t = some (.array n e)) (he : P.underlying e = some (.int .i64)) (hs : (P.info? e).map (·.size) = some 1)
include ht he hs
theorem part_int (l : List Int) (k : Nat) (hk : k < l.length) (w : World) : (part e (i64v l).toArray (k * 1)).run P w = .ok (.int .i64 (iat l k)) w := by
  obtain ⟨i, hi', hi2⟩ := Option.map_eq_some_iff.1 hs
  have h1 : (i64v l)[k]? = some (.int .i64 (iat l k)) := by rw [i64v_at, iat_at hk]; rfl
  have _ := ht
  simp [part, isAgg, run_underlying he, h1]
theorem eq_ints (l m : List Int) (hl : l.length = n) (hm : m.length = n) (d : Nat) (w : World) : (Op.equalIn (d + 2) t (.agg (i64v l).toArray) (.agg (i64v m).toArray)).run P w = .ok (decide (l = m)) w := by
  obtain ⟨i, hi', hi2⟩ := Option.map_eq_some_iff.1 hs
  have hfor : ∀ (is : List Nat), (∀ k ∈ is, k < n) → (forIn (m := Sem) is ((none : Option Bool), ()) fun i _ => do
      let a ← part e (i64v l).toArray (i * 1)
      let b ← part e (i64v m).toArray (i * 1)
      let r ← Op.equalIn (d + 1) e a b
      if (!r) = true then pure (ForInStep.done (some false, ())) else pure (ForInStep.yield (none, ()))).run P w = .ok (if (∀ k ∈ is, iat l k = iat m k) then none else some false, ()) w := by
    intro is
    induction is with
    | nil => intro _; simp
    | cons k ks ih =>
      intro hk
      have hk1 : k < n := hk k (by simp)
      have h1 := part_int ht he hs l k (by omega) w
      have h1' := part_int ht he hs m k (by omega) w
      have h2 := ih (fun j hj => hk j (by simp [hj]))
      rw [List.forIn_cons]
      simp only [Sem.run_bind, h1, h1', Result.andThen_ok, run_equalIn_int w d e .i64 .i64 _ _ he]
      by_cases hkk : iat l k = iat m k
      · simp only [List.mem_cons, forall_eq_or_imp, hkk, true_and]
        simpa using h2
      · simp [hkk]
  rw [Op.equalIn]
  have hsz : (sizeOf e).run P w = .ok 1 w := by simp [sizeOf, typeInfo, hi', hi2]
  simp only [Sem.run_bind, run_underlying ht, Result.andThen_ok, hsz]
  have hr := hfor (List.range' 0 n) (fun k hk => by simpa using hk)
  simp only [Std.Legacy.Range.forIn_eq_forIn_range', Std.Legacy.Range.size, Nat.sub_zero, Nat.add_one_sub_one, Nat.div_one, hr]
  have hiff : (∀ k ∈ List.range' 0 n, iat l k = iat m k) ↔ l = m := by
    constructor
    · intro h
      apply list_iat (by omega)
      intro k h1
      exact h k (by simp; omega)
    · rintro rfl _ _; rfl
  by_cases hlm : l = m
  · simp [hlm]
  · rw [if_neg (fun h => hlm (hiff.1 h))]
    simp [hlm]
theorem eql_ints (l m : List Int) (hl : l.length = n) (hm : m.length = n) (w : World) : (binOp .eql t (.agg (i64v l).toArray) (.agg (i64v m).toArray)).run P w = .ok (.bool (decide (l = m))) w := by
  rw [run_eql_struct, eq_ints ht he hs l m hl hm 9998 w]
  rfl
theorem neq_ints (l m : List Int) (hl : l.length = n) (hm : m.length = n) (w : World) : (binOp .neq t (.agg (i64v l).toArray) (.agg (i64v m).toArray)).run P w = .ok (.bool (!decide (l = m))) w := by
  rw [run_neq_struct, eq_ints ht he hs l m hl hm 9998 w]
  rfl
end
/-- A row of numbers, in a block of its own. -/
def Row8 (w : World) (g : Nat) (T : TypeId) (l : List Int) : Prop := w.heap[g]? = some (.cells (i64v l).toArray T (0, 0))

theorem min_step {l : List Int} {k : Nat} {x y : Int} (h : (∃ j, j < k ∧ x = iat l j) ∧ ∀ j, j < k → x ≤ iat l j) (hy : y = iat l k) : (∃ j, j < k + 1 ∧ (if y < x then y else x) = iat l j) ∧ ∀ j, j < k + 1 → (if y < x then y else x) ≤ iat l j := by
  obtain ⟨⟨i, hi, hx⟩, h2⟩ := h
  refine ⟨?_, fun j hj => ?_⟩
  · split
    · exact ⟨k, by omega, hy⟩
    · exact ⟨i, by omega, hx⟩
  · by_cases hjk : j = k
    · subst hjk; split <;> omega
    · have := h2 j (by omega)
      split <;> omega
theorem min_step_all {l : List Int} {x : Int} (hl : l.length = 8) (h : (∃ j, j < 8 ∧ x = iat l j) ∧ ∀ j, j < 8 → x ≤ iat l j) : x ∈ l ∧ ∀ y ∈ l, x ≤ y := by
  obtain ⟨⟨i, hi, hx⟩, h2⟩ := h
  refine ⟨by rw [hx]; exact mem_iat (by omega), fun y hy => ?_⟩
  obtain ⟨k, hk, rfl⟩ := iat_mem hy
  exact h2 k (by omega)
set_option maxRecDepth 100000 in
theorem smin_any (w : World) (g : Nat) (T : TypeId) (l : List Int) (hr : Hid (Row8 w g T l)) (hl : l.length = 8) :
    Calls Try.prog 55 #[.slice (some ⟨g, 0, none⟩) 8 8] w fun e w' => ∃ m, e = .returned (.int .i64 m) ∧ Vlt (m ∈ l ∧ ∀ x ∈ l, m ≤ x) ∧ w = w' := by
  have HL := Lib.hid hl
  have c0 := int_at hr.out 0 (by omega)
  have H0 := vlt (show (∃ j, j < 1 ∧ iat l 0 = iat l j) ∧ ∀ j, j < 1 → iat l 0 ≤ iat l j from ⟨⟨0, by omega, rfl⟩, fun j hj => by
    obtain rfl : j = 0 := by omega
    exact Int.le_refl _⟩)
  clear hl
  go_enter Try.func55, Try.ntmps55
  go_wp2
  go_loopw [3, 4] (fun m i wr => ∃ (k : Nat) (x : Int), k ≤ 8 ∧ 1 ≤ k ∧ i = .int .i64 (k : Int) ∧ m = .int .i64 x ∧ Vlt ((∃ j, j < k ∧ x = iat l j) ∧ ∀ j, j < k → x ≤ iat l j) ∧ wr = w) (fun _ i _ => 8 - (intOf i).toNat)
  case atStart => exact ⟨1, iat l 0, by omega, by omega, rfl, rfl, H0, rfl⟩
  case round =>
    obtain ⟨k, x, hk, hk1, rfl, rfl, HX, rfl⟩ := hrel
    by_cases hlt : k < 8
    · have ck := int_at hr.out k (by rw [HL.out]; exact hlt)
      obtain ⟨y, hy⟩ : ∃ y, y = iat l k := ⟨_, rfl⟩
      rw [← hy] at ck
      have HY := vlt (min_step HX.out hy)
      clear hy c0 H0
      go_wp2
      go_roundw
      case rel => exact ⟨k + 1, if y < x then y else x, by omega, by omega, by go_num, rfl, HY, trivial⟩
      case measure => simp [intOf]; omega
    · obtain rfl : k = 8 := by omega
      have HX2 := vlt (min_step_all HL.out HX.out)
      go_wp2
      go_ret
      exact ⟨x, rfl, HX2, rfl⟩
theorem max_step {l : List Int} {k : Nat} {x y : Int} (h : (∃ j, j < k ∧ x = iat l j) ∧ ∀ j, j < k → iat l j ≤ x) (hy : y = iat l k) : (∃ j, j < k + 1 ∧ (if x < y then y else x) = iat l j) ∧ ∀ j, j < k + 1 → iat l j ≤ (if x < y then y else x) := by
  obtain ⟨⟨i, hi, hx⟩, h2⟩ := h
  refine ⟨?_, fun j hj => ?_⟩
  · split
    · exact ⟨k, by omega, hy⟩
    · exact ⟨i, by omega, hx⟩
  · by_cases hjk : j = k
    · subst hjk; split <;> omega
    · have := h2 j (by omega)
      split <;> omega
theorem max_step_all {l : List Int} {x : Int} (hl : l.length = 8) (h : (∃ j, j < 8 ∧ x = iat l j) ∧ ∀ j, j < 8 → iat l j ≤ x) : x ∈ l ∧ ∀ y ∈ l, y ≤ x := by
  obtain ⟨⟨i, hi, hx⟩, h2⟩ := h
  refine ⟨by rw [hx]; exact mem_iat (by omega), fun y hy => ?_⟩
  obtain ⟨k, hk, rfl⟩ := iat_mem hy
  exact h2 k (by omega)
set_option maxRecDepth 100000 in
theorem smax_any (w : World) (g : Nat) (T : TypeId) (l : List Int) (hr : Hid (Row8 w g T l)) (hl : l.length = 8) :
    Calls Try.prog 56 #[.slice (some ⟨g, 0, none⟩) 8 8] w fun e w' => ∃ m, e = .returned (.int .i64 m) ∧ Vlt (m ∈ l ∧ ∀ x ∈ l, x ≤ m) ∧ w = w' := by
  have HL := Lib.hid hl
  have c0 := int_at hr.out 0 (by omega)
  have H0 := vlt (show (∃ j, j < 1 ∧ iat l 0 = iat l j) ∧ ∀ j, j < 1 → iat l j ≤ iat l 0 from ⟨⟨0, by omega, rfl⟩, fun j hj => by
    obtain rfl : j = 0 := by omega
    exact Int.le_refl _⟩)
  clear hl
  go_enter Try.func56, Try.ntmps56
  go_wp2
  go_loopw [3, 4] (fun m i wr => ∃ (k : Nat) (x : Int), k ≤ 8 ∧ 1 ≤ k ∧ i = .int .i64 (k : Int) ∧ m = .int .i64 x ∧ Vlt ((∃ j, j < k ∧ x = iat l j) ∧ ∀ j, j < k → iat l j ≤ x) ∧ wr = w) (fun _ i _ => 8 - (intOf i).toNat)
  case atStart => exact ⟨1, iat l 0, by omega, by omega, rfl, rfl, H0, rfl⟩
  case round =>
    obtain ⟨k, x, hk, hk1, rfl, rfl, HX, rfl⟩ := hrel
    by_cases hlt : k < 8
    · have ck := int_at hr.out k (by rw [HL.out]; exact hlt)
      obtain ⟨y, hy⟩ : ∃ y, y = iat l k := ⟨_, rfl⟩
      rw [← hy] at ck
      have HY := vlt (max_step HX.out hy)
      clear hy c0 H0
      go_wp2
      go_roundw
      case rel => exact ⟨k + 1, if x < y then y else x, by omega, by omega, by go_num, rfl, HY, trivial⟩
      case measure => simp [intOf]; omega
    · obtain rfl : k = 8 := by omega
      have HX2 := vlt (max_step_all HL.out HX.out)
      go_wp2
      go_ret
      exact ⟨x, rfl, HX2, rfl⟩
end Go.Proofs.Ytabgkkdgamacnaa
