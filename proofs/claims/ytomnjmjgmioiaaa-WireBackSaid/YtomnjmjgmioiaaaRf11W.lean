/-
  Contract of the document's own answer for chapter 11: Word. Conditions: fewer than 2^45 bytes.
-/
import Derived.Test.YtomnjmjgmioiaaaRf11
import Derived.Test.YtomnjmjgmioiaaaStA
import Derived.Test.YtomnjmjgmioiaaaRegC
namespace Go.Proofs.Ytomnjmjgmioiaaa
open Go.RowKit

set_option maxRecDepth 100000 in
set_option maxHeartbeats 1000000 in
theorem rfword_any (w : World) (A : Option Addr) (l : List UInt8) (n c : Nat) (u : List UInt8) (hu : u.length = 32) (ha : Byt w w.heap.size A l) (hl : l.length = n) (hn : n ≤ 35184372088832) :
    Calls Try.prog 17 #[.slice A n c, .agg (bv u).toArray] w fun e w' => ∃ A' m' c', e = .returned (.slice A' m' c') ∧ Res w' w.heap.size 5 A' m' c' (l ++ u) ∧ Below w.heap.size w w' := by
  obtain ⟨W, hW, hgW, hbW, hsW⟩ := one_new w (bv u).toArray 30
  have HW := Lib.hid hW
  have hcut := fun w0 => cut_all (P := Try.prog) Try.underlying30 Try.sizeByte w.heap.size 0 (by decide) w0
  have haW := Lib.hid (ha.next hbW)
  have HL := Lib.hid hl
  have HU := Lib.hid hu
  clear hW hl hu ha
  go_enter Try.func17, Try.ntmps17
  go_upto_region 1 with fail
  rw [HW.out]
  refine wp_region_held_drew (S := (fun W' => Below W.heap.size W W')) (by kernel_rfl) ((Below.refl _ _).drew) (fun hHeld => ?_)
  refine wpAnyH_take (i := 1) (oi := ⟨(some 6), _, _, _, _, _⟩) (v := ?vq1_0) rfl (by kernel_rfl) (by kernel_rfl) (by kernel_rfl) (fun _ _ _ h => h) (Or.inl ⟨by rfl, ?yq1_0⟩) hHeld ?_
  case yq1_0 => (intro W0 hSw; go_simp; try with_reducible rfl)
  try simp only [Act.put, List.setIfInBounds_toArray, List.set_cons_zero, List.set_cons_succ]
  refine wpAnyH_take (i := 3) (oi := ⟨(some 8), _, _, _, _, _⟩) (v := ?vq1_1) rfl (by kernel_rfl) (by kernel_rfl) (by kernel_rfl) (fun _ _ _ h => h) (Or.inl ⟨by rfl, ?yq1_1⟩) hHeld ?_
  case yq1_1 => (intro W0 hSw; go_simp; try with_reducible rfl)
  try simp only [Act.put, List.setIfInBounds_toArray, List.set_cons_zero, List.set_cons_succ]
  refine wpAnyH_ready (rs := [0]) (by kernel_rfl) (by simp) ?_
  refine AllReadyH.cons (i := 0) (o := ⟨(some 5), _, _, _, _, _⟩) rfl (fun K hK => ?_) AllReadyH.nil
  go_simp
  refine hK.out _ _ ((hHeld.alloc hHeld.size _)) (fun hHeld => ?_)
  clear hK K
  try simp only [Act.put, List.setIfInBounds_toArray, List.set_cons_zero, List.set_cons_succ]
  have haW1 := haW.out.drew.alloc (Nat.le_refl _) (.cells #[] 5)
  have hgW1 : Hid ((W.drew.alloc (.cells #[] 5)).heap[w.heap.size]? = some (.cells (bv u).toArray 30 (0, 0))) := (((Below.refl W.drew.heap.size W.drew).alloc (Nat.le_refl _) _).block _ (Array.getElem?_eq_some_iff.1 hgW.out).1).trans hgW.out
  have hz0 := Res.none_lit W.drew 5 W.heap.size (Nat.le_refl _)
  refine wpAnyH_ready (rs := [2]) (by kernel_rfl) (by simp) ?_
  refine AllReadyH.cons (i := 2) (o := ⟨(some 7), _, _, _, _, _⟩) rfl (fun K hK => ?_) AllReadyH.nil
  refine step_append_src _ rfl (.tmp 5) (.tmp 6) 25 rfl 5 Try.underlying25 Try.infoByte W.heap.size (some ⟨W.heap.size, 0, none⟩) 0 0 [] rfl hz0 A n c rfl _ l haW1 HL.out (by omega) (by simp) ?_
  intro A2 c2 w2 hr2 hup2
  have hb2 := hup2 W.heap.size W (Nat.le_refl _) hHeld
  refine hK.out _ _ (hb2) (fun hHeld => ?_)
  clear hK K
  try simp only [Act.put, List.setIfInBounds_toArray, List.set_cons_zero, List.set_cons_succ]
  have hgW2 := byt_row (l := u) (t := 30) ((hb2.block _ (Array.getElem?_eq_some_iff.1 hgW.out).1).trans hgW.out)
  refine wpAnyH_ready (rs := [4]) (by kernel_rfl) (by simp) ?_
  refine AllReadyH.cons (i := 4) (o := ⟨(some 9), _, _, _, _, _⟩) rfl (fun K hK => ?_) AllReadyH.nil
  refine step_append_src _ rfl (.tmp 7) (.tmp 8) 25 rfl 5 Try.underlying25 Try.infoByte W.heap.size A2 (0 + n) c2 _ rfl hr2 (some ⟨w.heap.size, 0, none⟩) 32 32 rfl _ u hgW2 HU.out (by omega) hb2.size ?_
  intro A4 c4 w4 hr4 hup4
  have hb4 := hup4 W.heap.size W (Nat.le_refl _) hb2
  refine hK.out _ _ (hb4) (fun hHeld => ?_)
  clear hK K
  try simp only [Act.put, List.setIfInBounds_toArray, List.set_cons_zero, List.set_cons_succ]
  refine wpAnyH_take (i := 5) (oi := ⟨(some 4), _, _, _, _, _⟩) (v := ?vq1_2) rfl (by kernel_rfl) (by kernel_rfl) (by kernel_rfl) (fun _ _ _ h => h) (Or.inl ⟨by rfl, ?yq1_2⟩) hHeld ?_
  case yq1_2 => (intro W0 hSw; go_simp; try with_reducible rfl)
  try simp only [Act.put, List.setIfInBounds_toArray, List.set_cons_zero, List.set_cons_succ]
  refine wpAnyH_done (by kernel_rfl) ?_ _
  have hr5 : Res w4 w.heap.size 5 A4 (n + 32) c4 (l ++ u) := by
    have h := hr4.base_le hbW.size
    rw [Nat.zero_add] at h
    exact h
  have hb5 := below_next hbW hbW.size hb4
  clear hr4 hr2 hz0
  go_wp2
  go_ret
  exact ⟨A4, _, c4, rfl, hr5, hb5⟩
end Go.Proofs.Ytomnjmjgmioiaaa
