/-
  The beginning of an array behind a pointer. No statement is proved here. Conditions: none.
-/
import Derived.Test.YtpnodegmegpooaaDoorMem
namespace Go.Proofs.YtpnodegmegpooaaDoor
open Go.RowKit

theorem cut_h {P : Program} {t e n : Nat} (hu : P.underlying t = some (.array n e)) (hs : (P.info? e).map (·.size) = some 1) (g o : Nat) (hi : Nat) (H : Int) (hH : H = (hi : Int)) (h2 : hi ≤ n) (h3 : 0 < n) (w : World) :
    (Instr.sliceAt t (.pointer (some ⟨g, o, none⟩)) none (some (.int .i64 H)) none).run P w = .ok (.slice (some ⟨g, o, none⟩) hi n) w := by
  subst hH
  obtain ⟨i, hi', hi2⟩ := Option.map_eq_some_iff.1 hs
  have ht : P.underlying t = some (.array (P.arrayLen t) (P.elem t)) := by simp [Program.arrayLen, Program.elem, hu]
  have hn : P.arrayLen t = n := by simp [Program.arrayLen, hu]
  have he : P.elem t = e := by simp [Program.elem, hu]
  rw [run_sliceAt_array_h w t _ ht .i64 _ (by omega) (by omega), hn, he]
  simp [sizeOf, typeInfo, hi', hi2, slicedAt, addr_add, show ¬ n = 0 by omega]
end Go.Proofs.YtpnodegmegpooaaDoor
