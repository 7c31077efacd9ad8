/-
  The contract of disk.New. Conditions: none.
-/
import Derived.Test.YtnpaodhcaeofnaaDkR
namespace Go.Proofs.Ytnpaodhcaeofnaa
open Go.RowKit

set_option maxRecDepth 100000 in
theorem dnew_no (w : World) (room : Int) (h : room < 64 ∨ 1048576 < room) :
    Calls Try.prog 5 #[.int .i64 room] w fun e w' => e = .returned (.tuple #[.pointer none, .int .i64 1]) ∧ w' = w := by
  by_cases h1 : room < 64
  · clear h
    go_enter Try.func5, Try.ntmps5
    go_wp2
    go_ret2
    exact ⟨rfl, rfl⟩
  · have h2 : 1048576 < room := by omega
    clear h
    go_enter Try.func5, Try.ntmps5
    go_wp2
    go_ret2
    exact ⟨rfl, rfl⟩

set_option maxRecDepth 100000 in
theorem dnew_ok (w : World) (room : Nat) (h1 : 64 ≤ room) (h2 : room ≤ 1048576) :
    Calls Try.prog 5 #[.int .i64 (room : Int)] w fun e w' => ∃ d O, e = .returned (.tuple #[.pointer (some ⟨d, 0, none⟩), .int .i64 0]) ∧ DkIs w' O d 0 ⟨room, true, 1, []⟩ ∧ Own (fun _ => none) O w.heap.size ∧ Below w.heap.size w w' := by
  have hmm := @run_makeMap Try.prog
  have h1' : ¬ (room : Int) < 64 := by omega
  have h2' : ¬ (1048576 : Int) < (room : Int) := by omega
  go_enter Try.func5, Try.ntmps5
  go_wp2
  go_ret2
  have hb : Below w.heap.size w ((w.alloc (.map #[] 0)).alloc (.cells #[.int .i64 (room : Int), .int .i64 0, .map (some w.heap.size), .bool true, .int .i64 1] 46)) := ((Below.refl _ _).alloc (Nat.le_refl _) _).alloc (by simp) _
  have hsz : (w.alloc (.map #[] 0)).heap.size = w.heap.size + 1 := by simp
  have hD : DkAt ((w.alloc (.map #[] 0)).alloc (.cells #[.int .i64 (room : Int), .int .i64 0, .map (some w.heap.size), .bool true, .int .i64 1] 46)) (fun i => if w.heap.size ≤ i ∧ i < w.heap.size + 2 then some (w.heap.size + 1) else none) (w.heap.size + 1) w.heap.size 0 room 0 true 1 [] := by
    refine ⟨?_, ?_, fun x hx => (List.not_mem_nil hx).elim, List.Pairwise.nil, fun x hx => (List.not_mem_nil hx).elim, ?_, ?_, fun i hi => ?_⟩
    · rw [← hsz]; exact heap_alloc_new _ _
    · exact (MapIs.made w).block (heap_alloc_old _ _ (by simp))
    · show (if _ then _ else _) = _
      rw [if_pos (by omega)]
    · show (if _ then _ else _) = _
      rw [if_pos (by omega)]
    · have : w.heap.size ≤ i ∧ i < w.heap.size + 2 := by
        by_cases h : w.heap.size ≤ i ∧ i < w.heap.size + 2
        · exact h
        · exact absurd (if_neg h) hi
      simp; omega
  exact ⟨w.heap.size + 1, rfl, _, ⟨⟨w.heap.size, [], hD, rfl⟩, Nat.zero_le _, h2⟩, fun i hi => by
    by_cases h : w.heap.size ≤ i ∧ i < w.heap.size + 2
    · exact .inr h.1
    · exact absurd (if_neg h) hi, hb⟩
end Go.Proofs.Ytnpaodhcaeofnaa
