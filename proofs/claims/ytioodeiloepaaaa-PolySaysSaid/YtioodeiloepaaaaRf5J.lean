/-
  Contract of the document's own Join. Conditions: fewer than 2^46 bytes in all.
-/
import Derived.Test.YtioodeiloepaaaaPrt
import Derived.Test.YtioodeiloepaaaaNew
import Derived.Test.YtioodeiloepaaaaSrc
namespace Go.Proofs.Ytioodeiloepaaaa
open Go.RowKit

set_option maxRecDepth 100000 in
set_option maxHeartbeats 1000000 in
theorem rjoin_any (w : World) (A : Option Addr) (ps : List (List UInt8)) (n c : Nat) (hP : Prt w w.heap.size A ps) (hn : ps.length = n) (F : List UInt8) (hF : ps.flatten = F) (M : Nat) (hM : F.length = M) (hbig : M ≤ 70368744177664) (hn2 : n ≤ 140737488355328) :
    Calls Try.prog 13 #[.slice A n c] w fun e w' => ∃ A' c', e = .returned (.slice A' M c') ∧ Res w' w.heap.size 5 A' M c' F ∧ Below w.heap.size w w' := by
  have HN := Lib.hid hn
  have HF := vlt hF
  have HFM := Lib.hid hM
  clear hn hF hM
  go_enter Try.func13, Try.ntmps13
  go_wp2_with fail
  go_loopw [3, 4] (fun s i wr => ∃ (k m : Nat) (A' : Option Addr) (c' : Nat), k ≤ n ∧ i = .int .i64 (k : Int) ∧ s = .slice A' m c' ∧ Hid (m = (ps.take k).flatten.length) ∧ Res wr w.heap.size 5 A' m c' (ps.take k).flatten ∧ Below w.heap.size w wr) (fun _ i _ => n - (intOf i).toNat)
  case atStart => exact ⟨0, 0, none, 0, by omega, rfl, rfl, rfl, World.ownsRow_nil _ _ _ _, Below.refl _ _⟩
  case round =>
    obtain ⟨k, m, A', c', hk, rfl, rfl, hm, hres, hb⟩ := hrel
    by_cases hlt : k < n
    · obtain ⟨b, o, Aj, nj, cj, p, rfl, hbl, hcell, hget, hpl, hcj, hbt⟩ := (hP.below hb).at_ (k := k) (by rw [HN.out]; exact hlt)
      have hfl : m + nj ≤ 70368744177664 := by
        have h1 := flat_le ps (k + 1)
        rw [flat_take hget.out, List.length_append, hpl.out, ← hm.out, HF.out, HFM.out] at h1
        omega
      have hkn : (k : Int) < (n : Int) := by omega
      go_wp2_with (at_builtin; refine wp_append_src _ rfl (.tmp 11) (.tmp 15) 27 rfl 5 Try.underlying27 Try.infoByte w.heap.size A' m c' _ rfl hres Aj nj cj rfl w.heap.size p hbt hpl.out (by omega) hb.size ?_)
      intro A3 c3 w3 hr3 hb3
      have hb4 := hb3 w.heap.size w (Nat.le_refl _) hb
      have hr4 : Res w3 w.heap.size 5 A3 (m + nj) c3 (ps.take (k + 1)).flatten := by rw [flat_take hget.out]; exact hr3
      have HM := Lib.hid (show m + nj = (ps.take (k + 1)).flatten.length by rw [flat_take hget.out, List.length_append, hpl.out, ← hm.out])
      clear hb3 hr3 hcell hfl hres hm
      go_wp2
      exact ⟨⟨k + 1, m + nj, A3, c3, by omega, by go_num, rfl, HM, hr4, hb4⟩, by simp [intOf]; omega⟩
    · have hkn : ¬ (k : Int) < (n : Int) := by omega
      have e : ps.take k = ps := List.take_of_length_le (by rw [HN.out]; omega)
      rw [e, HF.out] at hm hres
      have HM := Lib.hid (show m = M by rw [hm.out, HFM.out])
      have hr4 := Lib.hid (show Res wr w.heap.size 5 A' M c' F by rw [← HM.out]; exact hres)
      clear hm hres e
      go_wp2
      go_ret
      refine ⟨A', c', ?_, hr4.out, hb⟩
      rw [HM.out]
      rfl
end Go.Proofs.Ytioodeiloepaaaa
