/-
  Contracts of package octet's inner functions width and roomier: what each returns, for every input that fits. Conditions: lengths up to 2^47.
-/
import Derived.Test.YtioodeiloepaaaaBase
import Derived.Test.YtioodeiloepaaaaChecked
import Derived.WalkKit
import Derived.WalkLawsBesides
import Derived.WalkSpells
import Derived.Outline
namespace Go.Proofs.Ytioodeiloepaaaa
open Go.RowKit

theorem Try.infoByte : (Try.prog.info? 5).map (fun i => (i.zero, i.size, i.bytes)) = some (some (.int .u8 0), 1, 1) := by kernel_rfl

/-- How many bytes of a number are written. -/
def wd (n : Int) : Nat := (min (max n 0) 8).toNat
theorem wd_le (n : Int) : wd n ≤ 8 := by unfold wd; omega

theorem width_any (n : Int) (w : World) :
    Calls Try.prog 31 #[.int .i64 n] w fun e w' => e = .returned (.int .i64 (wd n)) ∧ w = w' := by
  go_enter Try.func31, Try.ntmps31
  go_wp2
  all_goals go_ret
  all_goals exact ⟨by unfold wd; first | go_num | (congr 2; omega), rfl⟩

theorem roomier_any (A : Option Addr) (l : List UInt8) (n c k : Nat) (w : World) (ha : Byt w w.heap.size A l) (hl : l.length = n) (hn : n ≤ 140737488355328) (hk : k ≤ 8) :
    Calls Try.prog 32 #[.slice A n c, .int .i64 (k : Int)] w fun e w' => ∃ A' c', e = .returned (.slice A' n c') ∧ Res w' w.heap.size 5 A' n c' l ∧ Below w.heap.size w w' := by
  obtain ⟨i0, hi, hz0, hz1, hz2⟩ := info_parts Try.infoByte
  obtain ⟨w1, hrun, hg1, hb1, hs1⟩ := make_bytes (P := Try.prog) Try.underlying27 hi hz0 hz1 hz2 n (n + k) (n : Int) ((n : Int) + (k : Int)) rfl (by omega) (by omega) (by omega) w
  have HL := Lib.hid hl
  clear hl hi hz0 hz1 hz2
  go_enter Try.func32, Try.ntmps32
  go_wp2_with (with_reducible refine wpList_copy_splice rfl (.tmp 13) (.tmp 14) 27 27 rfl 5 Try.underlying27 (by kernel_rfl) (some ⟨w.heap.size, 0, none⟩) A n (n + k) n c rfl rfl w.heap.size 0 (bv (List.replicate (n + k) 0)) 5 hg1.out (bv l) (by rw [bv_len, HL.out]; exact (Nat.min_self n).symm) ((ha.below hb1.out).src _ _ rfl) (by simp [bv, HL.out]) (bv_one _) w.heap.size w hb1.out (Nat.le_refl _) ?_)
  intro w2 hg2 hb2
  go_wp2
  go_ret
  refine ⟨_, _, rfl, Res.row (Nat.le_refl _) hg2.out (by omega) (by omega) ?_ HL.out ?_, hb2⟩
  · simp [length_splice, bv, HL.out]
  · have := HL.out
    simp [splice, bv, ← this]
end Go.Proofs.Ytioodeiloepaaaa
