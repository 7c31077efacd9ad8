/-
  KdfBegins: the law's Go text returns true, whatever the key, the info and the two lengths. Conditions: the tables lie as the program lays them; the info's slice is as the row reads it.
-/
import Derived.Test.YtmgamjbifffchaaDoorKdfC
import Derived.Test.YtmgamjbifffchaaDoorKdfW
import Derived.Test.YtmgamjbifffchaaDoorReg
namespace Go.Proofs.YtmgamjbifffchaaDoor
open Go.RowKit

theorem Byt.take {w : World} {B : Nat} {A : Option Addr} {l : List UInt8} (h : Byt w B A l) (k : Nat) : Byt w B A (l.take k) := by
  rcases h with h | ⟨g, o, hA, hg, hc⟩
  · subst h; exact .inl (by simp)
  · refine .inr ⟨g, o, hA, hg, fun j b hj => hc j b ?_⟩
    have hjk : j < k := by
      have := (List.getElem?_eq_some_iff.1 hj).1
      simp at this; omega
    rwa [List.getElem?_take_of_lt hjk] at hj
theorem run_cut_h {P : Program} {T E : TypeId} (hT : P.underlying T = some (.slice E)) (hs : (P.info? E).map (·.size) = some 1) (A : Option Addr) (n c t : Nat) (L : Int) (hL : L = (t : Int)) (ht : t ≤ c) (w : World) :
    (Instr.slice T (.slice A n c) none (some (.int .i64 L)) none).run P w = .ok (.slice A t c) w := by
  subst hL
  obtain ⟨i, hi', hi2⟩ := Option.map_eq_some_iff.1 hs
  have he : P.elem T = E := by simp [Program.elem, hT]
  rw [run_slice_h w T A n c (by rw [he]; exact hT) .i64 _ (by omega) (by omega), he]
  cases A <;> simp [sizeOf, typeInfo, hi', hi2, sliced, Addr.add]

set_option maxRecDepth 100000 in
set_option maxHeartbeats 2000000 in
theorem walk_KdfBegins (w : World) (hla : Laid w) (key : List UInt8) (hkey : key.length = 32) (A : Option Addr) (l : List UInt8) (ni ci : Nat) (ha : Byt w w.heap.size A l) (hl : l.length = ni) (hci : ni ≤ ci) (n : Int) (_ : (Lit.int .i64 n).wf = true) (m : Int) (_ : (Lit.int .i64 m).wf = true) :
    Calls Tryd.prog 3 #[.agg (bv key).toArray, .slice A ni ci, .int .i64 n, .int .i64 m] w fun e w' => e = .returned (.bool true) ∧ Below w.heap.size w w' := by
  have HKL := Lib.hid hkey
  have HKS := Lib.hid (show (bv key).toArray.size = 32 by simp [bv_len, hkey])
  have HL := Lib.hid hl
  have hw1 : Below w.heap.size w (w.alloc (.cells (bv key).toArray 23)) := (Below.refl _ _).alloc (Nat.le_refl _) _
  have hawake := awake_any _ (hla.below hla.2.2 hw1)
  clear hl hkey
  go_enter Tryd.func3, Tryd.ntmps3
  go_wp2_with fail
  refine hawake.mono ?_
  rintro e w2 ⟨rfl, hb2⟩
  clear hawake
  have hb2' : Below w.heap.size w w2 := below_next hw1 (by simp) hb2
  have hk2 : Hid (w2.heap[w.heap.size]? = some (.cells (bv key).toArray 23 (0, 0))) := (hb2.block _ (by simp)).trans (heap_alloc_new _ _)
  clear hb2 hw1
  by_cases h1 : n < 0
  · go_wp2
    go_ret
    exact ⟨rfl, hb2'⟩
  by_cases h2 : m < n
  · go_wp2
    go_ret
    exact ⟨rfl, hb2'⟩
  by_cases h3 : 500 < m
  · go_wp2
    go_ret
    exact ⟨rfl, hb2'⟩
  by_cases h4 : 100 < ni
  · have h5 : (100 : Int) < (ni : Int) := by omega
    go_wp2
    go_ret
    exact ⟨rfl, hb2'⟩
  obtain ⟨n, rfl⟩ : ∃ k : Nat, n = (k : Int) := ⟨n.toNat, by omega⟩
  obtain ⟨m, rfl⟩ : ∃ k : Nat, m = (k : Int) := ⟨m.toNat, by omega⟩
  have hnm : n ≤ m := by omega
  have hm : m ≤ 500 := by omega
  have hni : ni ≤ 100 := by omega
  clear h1 h2 h3 h4
  have hex1 := expand_any w2 key A l ni ci n HKL.out ((ha.below hb2').up hb2'.size) HL.out hci (by omega) (by omega) (hla.below hla.2.2 hb2')
  go_wp2_with ((with_reducible refine wpList_load_row rfl 23 (.tmp 4) rfl w.heap.size rfl 23 (bv key).toArray (0, 0) _ hk2.out Tryd.underlying23 rfl (by rw [HKS.out]; kernel_rfl) ?_))
  refine hex1.mono ?_
  rintro e w3 ⟨A3, c3, rfl, hr3, hb3⟩
  clear hex1
  have hb3' : Below w.heap.size w w3 := below_next hb2' hb2'.size hb3
  have hk3 : Hid (w3.heap[w.heap.size]? = some (.cells (bv key).toArray 23 (0, 0))) := (hb3.block _ (Array.getElem?_eq_some_iff.1 hk2.out).1).trans hk2.out
  have hex2 := expand_any w3 key A l ni ci m HKL.out ((ha.below hb3').up hb3'.size) HL.out hci (by omega) (by omega) (hla.below hla.2.2 hb3')
  clear hb3 hk2 hb2'
  go_wp2_with ((with_reducible refine wpList_load_row rfl 23 (.tmp 4) rfl w.heap.size rfl 23 (bv key).toArray (0, 0) _ hk3.out Tryd.underlying23 rfl (by rw [HKS.out]; kernel_rfl) ?_))
  refine hex2.mono ?_
  rintro e w4 ⟨A4, c4, rfl, hr4, hb4⟩
  clear hex2
  have hb4' : Below w.heap.size w w4 := below_next hb3' hb3'.size hb4
  have hr3' := hr3.keep hb4
  obtain ⟨X, hX⟩ : ∃ X, X = expandOf key l n := ⟨_, rfl⟩
  have hy : (expandOf key l m).take n = X := by rw [hX]; exact expandOf_begins key l n m hnm
  rw [← hX] at hr3'
  have hXl : X.length = n := by rw [hX]; exact expandOf_len _ _ _
  have hc4 : m ≤ c4 := hr4.cap
  have hcx : ∀ W, Below w4.heap.size w4 W → (convert 24 9 (.slice A3 n c3)).run Tryd.prog W = .ok (.string ⟨X.toArray⟩) W := fun W h =>
    conv_bytes Tryd.underlying24 Tryd.underlying5 Tryd.underlying9 (hr3'.byt.below h) n c3 hXl
  have hcy : ∀ W, Below w4.heap.size w4 W → (convert 24 9 (.slice A4 n c4)).run Tryd.prog W = .ok (.string ⟨X.toArray⟩) W := fun W h =>
    conv_bytes Tryd.underlying24 Tryd.underlying5 Tryd.underlying9 (by rw [← hy]; exact (hr4.byt.take n).below h) n c4 hXl
  have hcut := run_cut_h Tryd.underlying24 Tryd.sizeByte A4 m c4 n (n : Int) rfl (by omega)
  clear hX hy hXl hr3 hr3' hr4 hk3 hb3' hb4
  have hW4 : Below w4.heap.size w4 w4 := Below.refl _ _
  go_wp2_with fail
  refine wp_region_held_drew (S := (fun W => Below w4.heap.size w4 W)) (by kernel_rfl) (hW4.drew) (fun hHeld => ?_)
  refine wpAnyH_take (i := 0) (oi := ⟨(some 45), _, _, _, _, _⟩) (v := ?vq1_0) rfl (by kernel_rfl) (by kernel_rfl) (by kernel_rfl) (fun _ _ _ h => h) (Or.inl ⟨by rfl, ?yq1_0⟩) hHeld ?_
  case yq1_0 => (intro W0 hSw; go_simp; try with_reducible rfl)
  try simp only [Act.put, List.setIfInBounds_toArray, List.set_cons_zero, List.set_cons_succ]
  refine wpAnyH_take (i := 1) (oi := ⟨(some 46), _, _, _, _, _⟩) (v := ?vq1_1) rfl (by kernel_rfl) (by kernel_rfl) (by kernel_rfl) (fun _ _ _ h => h) (Or.inl ⟨by rfl, ?yq1_1⟩) hHeld ?_
  case yq1_1 => (intro W0 hSw; go_simp; try with_reducible rfl)
  try simp only [Act.put, List.setIfInBounds_toArray, List.set_cons_zero, List.set_cons_succ]
  refine wpAnyH_take (i := 2) (oi := ⟨(some 47), _, _, _, _, _⟩) (v := ?vq1_2) rfl (by kernel_rfl) (by kernel_rfl) (by kernel_rfl) (fun _ _ _ h => h) (Or.inl ⟨by rfl, ?yq1_2⟩) hHeld ?_
  case yq1_2 => (intro W0 hSw; go_simp; try with_reducible rfl)
  try simp only [Act.put, List.setIfInBounds_toArray, List.set_cons_zero, List.set_cons_succ]
  refine wpAnyH_take (i := 3) (oi := ⟨(some 48), _, _, _, _, _⟩) (v := ?vq1_3) rfl (by kernel_rfl) (by kernel_rfl) (by kernel_rfl) (fun _ _ _ h => h) (Or.inl ⟨by rfl, ?yq1_3⟩) hHeld ?_
  case yq1_3 => (intro W0 hSw; go_simp; try with_reducible rfl)
  try simp only [Act.put, List.setIfInBounds_toArray, List.set_cons_zero, List.set_cons_succ]
  refine wpAnyH_take (i := 4) (oi := ⟨(some 49), _, _, _, _, _⟩) (v := ?vq1_4) rfl (by kernel_rfl) (by kernel_rfl) (by kernel_rfl) (fun _ _ _ h => h) (Or.inl ⟨by rfl, ?yq1_4⟩) hHeld ?_
  case yq1_4 => (intro W0 hSw; go_simp; try with_reducible rfl)
  try simp only [Act.put, List.setIfInBounds_toArray, List.set_cons_zero, List.set_cons_succ]
  refine wpAnyH_take (i := 5) (oi := ⟨(some 50), _, _, _, _, _⟩) (v := ?vq1_5) rfl (by kernel_rfl) (by kernel_rfl) (by kernel_rfl) (fun _ _ _ h => h) (Or.inl ⟨by rfl, ?yq1_5⟩) hHeld ?_
  case yq1_5 => (intro W0 hSw; go_simp; try with_reducible rfl)
  try simp only [Act.put, List.setIfInBounds_toArray, List.set_cons_zero, List.set_cons_succ]
  refine wpAnyH_take (i := 6) (oi := ⟨(some 51), _, _, _, _, _⟩) (v := ?vq1_6) rfl (by kernel_rfl) (by kernel_rfl) (by kernel_rfl) (fun _ _ _ h => h) (Or.inl ⟨by rfl, ?yq1_6⟩) hHeld ?_
  case yq1_6 => (intro W0 hSw; go_simp; try with_reducible rfl)
  try simp only [Act.put, List.setIfInBounds_toArray, List.set_cons_zero, List.set_cons_succ]
  refine wpAnyH_take (i := 7) (oi := ⟨(some 52), _, _, _, _, _⟩) (v := ?vq1_7) rfl (by kernel_rfl) (by kernel_rfl) (by kernel_rfl) (fun _ _ _ h => h) (Or.inl ⟨by rfl, ?yq1_7⟩) hHeld ?_
  case yq1_7 => (intro W0 hSw; go_simp; try with_reducible rfl)
  try simp only [Act.put, List.setIfInBounds_toArray, List.set_cons_zero, List.set_cons_succ]
  refine wpAnyH_take (i := 8) (oi := ⟨(some 53), _, _, _, _, _⟩) (v := ?vq1_8) rfl (by kernel_rfl) (by kernel_rfl) (by kernel_rfl) (fun _ _ _ h => h) (Or.inl ⟨by rfl, ?yq1_8⟩) hHeld ?_
  case yq1_8 => (intro W0 hSw; go_simp; try with_reducible rfl)
  try simp only [Act.put, List.setIfInBounds_toArray, List.set_cons_zero, List.set_cons_succ]
  refine wpAnyH_take (i := 9) (oi := ⟨(some 54), _, _, _, _, _⟩) (v := ?vq1_9) rfl (by kernel_rfl) (by kernel_rfl) (by kernel_rfl) (fun _ _ _ h => h) (Or.inl ⟨by rfl, ?yq1_9⟩) hHeld ?_
  case yq1_9 => (intro W0 hSw; go_simp; try with_reducible rfl)
  try simp only [Act.put, List.setIfInBounds_toArray, List.set_cons_zero, List.set_cons_succ]
  refine wpAnyH_take (i := 10) (oi := ⟨(some 55), _, _, _, _, _⟩) (v := ?vq1_10) rfl (by kernel_rfl) (by kernel_rfl) (by kernel_rfl) (fun _ _ _ h => h) (Or.inl ⟨by rfl, ?yq1_10⟩) hHeld ?_
  case yq1_10 => (intro W0 hSw; go_simp; try with_reducible rfl)
  try simp only [Act.put, List.setIfInBounds_toArray, List.set_cons_zero, List.set_cons_succ]
  refine wpAnyH_take (i := 11) (oi := ⟨(some 56), _, _, _, _, _⟩) (v := ?vq1_11) rfl (by kernel_rfl) (by kernel_rfl) (by kernel_rfl) (fun _ _ _ h => h) (Or.inl ⟨by rfl, ?yq1_11⟩) hHeld ?_
  case yq1_11 => (intro W0 hSw; go_simp; try with_reducible rfl)
  try simp only [Act.put, List.setIfInBounds_toArray, List.set_cons_zero, List.set_cons_succ]
  refine wpAnyH_take (i := 12) (oi := ⟨(some 57), _, _, _, _, _⟩) (v := ?vq1_12) rfl (by kernel_rfl) (by kernel_rfl) (by kernel_rfl) (fun _ _ _ h => h) (Or.inl ⟨by rfl, ?yq1_12⟩) hHeld ?_
  case yq1_12 => (intro W0 hSw; go_simp; try with_reducible rfl)
  try simp only [Act.put, List.setIfInBounds_toArray, List.set_cons_zero, List.set_cons_succ]
  refine wpAnyH_take (i := 13) (oi := ⟨(some 58), _, _, _, _, _⟩) (v := ?vq1_13) rfl (by kernel_rfl) (by kernel_rfl) (by kernel_rfl) (fun _ _ _ h => h) (Or.inl ⟨by rfl, ?yq1_13⟩) hHeld ?_
  case yq1_13 => (intro W0 hSw; go_simp; try with_reducible rfl)
  try simp only [Act.put, List.setIfInBounds_toArray, List.set_cons_zero, List.set_cons_succ]
  refine wpAnyH_take (i := 14) (oi := ⟨(some 59), _, _, _, _, _⟩) (v := ?vq1_14) rfl (by kernel_rfl) (by kernel_rfl) (by kernel_rfl) (fun _ _ _ h => h) (Or.inl ⟨by rfl, ?yq1_14⟩) hHeld ?_
  case yq1_14 => (intro W0 hSw; go_simp; try with_reducible rfl)
  try simp only [Act.put, List.setIfInBounds_toArray, List.set_cons_zero, List.set_cons_succ]
  refine wpAnyH_take (i := 15) (oi := ⟨(some 60), _, _, _, _, _⟩) (v := ?vq1_15) rfl (by kernel_rfl) (by kernel_rfl) (by kernel_rfl) (fun _ _ _ h => h) (Or.inl ⟨by rfl, ?yq1_15⟩) hHeld ?_
  case yq1_15 => (intro W0 hSw; go_simp; try with_reducible rfl)
  try simp only [Act.put, List.setIfInBounds_toArray, List.set_cons_zero, List.set_cons_succ]
  refine wpAnyH_take (i := 16) (oi := ⟨(some 61), _, _, _, _, _⟩) (v := ?vq1_16) rfl (by kernel_rfl) (by kernel_rfl) (by kernel_rfl) (fun _ _ _ h => h) (Or.inl ⟨by rfl, ?yq1_16⟩) hHeld ?_
  case yq1_16 => (intro W0 hSw; go_simp; try with_reducible rfl)
  try simp only [Act.put, List.setIfInBounds_toArray, List.set_cons_zero, List.set_cons_succ]
  refine wpAnyH_take (i := 17) (oi := ⟨(some 62), _, _, _, _, _⟩) (v := ?vq1_17) rfl (by kernel_rfl) (by kernel_rfl) (by kernel_rfl) (fun _ _ _ h => h) (Or.inl ⟨by rfl, ?yq1_17⟩) hHeld ?_
  case yq1_17 => (intro W0 hSw; go_simp; try with_reducible rfl)
  try simp only [Act.put, List.setIfInBounds_toArray, List.set_cons_zero, List.set_cons_succ]
  refine wpAnyH_take (i := 18) (oi := ⟨(some 63), _, _, _, _, _⟩) (v := ?vq1_18) rfl (by kernel_rfl) (by kernel_rfl) (by kernel_rfl) (fun _ _ _ h => h) (Or.inl ⟨by rfl, ?yq1_18⟩) hHeld ?_
  case yq1_18 => (intro W0 hSw; go_simp; try with_reducible rfl)
  try simp only [Act.put, List.setIfInBounds_toArray, List.set_cons_zero, List.set_cons_succ]
  refine wpAnyH_take (i := 19) (oi := ⟨(some 64), _, _, _, _, _⟩) (v := ?vq1_19) rfl (by kernel_rfl) (by kernel_rfl) (by kernel_rfl) (fun _ _ _ h => h) (Or.inl ⟨by rfl, ?yq1_19⟩) hHeld ?_
  case yq1_19 => (intro W0 hSw; go_simp; try with_reducible rfl)
  try simp only [Act.put, List.setIfInBounds_toArray, List.set_cons_zero, List.set_cons_succ]
  refine wpAnyH_take (i := 20) (oi := ⟨(some 65), _, _, _, _, _⟩) (v := ?vq1_20) rfl (by kernel_rfl) (by kernel_rfl) (by kernel_rfl) (fun _ _ _ h => h) (Or.inl ⟨by rfl, ?yq1_20⟩) hHeld ?_
  case yq1_20 => (intro W0 hSw; go_simp; try with_reducible rfl)
  try simp only [Act.put, List.setIfInBounds_toArray, List.set_cons_zero, List.set_cons_succ]
  refine wpAnyH_take (i := 21) (oi := ⟨(some 66), _, _, _, _, _⟩) (v := ?vq1_21) rfl (by kernel_rfl) (by kernel_rfl) (by kernel_rfl) (fun _ _ _ h => h) (Or.inl ⟨by rfl, ?yq1_21⟩) hHeld ?_
  case yq1_21 => (intro W0 hSw; go_simp; try with_reducible rfl)
  try simp only [Act.put, List.setIfInBounds_toArray, List.set_cons_zero, List.set_cons_succ]
  refine wpAnyH_take (i := 22) (oi := ⟨(some 67), _, _, _, _, _⟩) (v := ?vq1_22) rfl (by kernel_rfl) (by kernel_rfl) (by kernel_rfl) (fun _ _ _ h => h) (Or.inl ⟨by rfl, ?yq1_22⟩) hHeld ?_
  case yq1_22 => (intro W0 hSw; go_simp; try with_reducible rfl)
  try simp only [Act.put, List.setIfInBounds_toArray, List.set_cons_zero, List.set_cons_succ]
  refine wpAnyH_take (i := 23) (oi := ⟨(some 68), _, _, _, _, _⟩) (v := ?vq1_23) rfl (by kernel_rfl) (by kernel_rfl) (by kernel_rfl) (fun _ _ _ h => h) (Or.inl ⟨by rfl, ?yq1_23⟩) hHeld ?_
  case yq1_23 => (intro W0 hSw; go_simp; try with_reducible rfl)
  try simp only [Act.put, List.setIfInBounds_toArray, List.set_cons_zero, List.set_cons_succ]
  refine wpAnyH_take (i := 24) (oi := ⟨(some 69), _, _, _, _, _⟩) (v := ?vq1_24) rfl (by kernel_rfl) (by kernel_rfl) (by kernel_rfl) (fun _ _ _ h => h) (Or.inl ⟨by rfl, ?yq1_24⟩) hHeld ?_
  case yq1_24 => (intro W0 hSw; go_simp; try with_reducible rfl)
  try simp only [Act.put, List.setIfInBounds_toArray, List.set_cons_zero, List.set_cons_succ]
  refine wpAnyH_take (i := 25) (oi := ⟨(some 70), _, _, _, _, _⟩) (v := ?vq1_25) rfl (by kernel_rfl) (by kernel_rfl) (by kernel_rfl) (fun _ _ _ h => h) (Or.inl ⟨by rfl, ?yq1_25⟩) hHeld ?_
  case yq1_25 => (intro W0 hSw; go_simp; try with_reducible rfl)
  try simp only [Act.put, List.setIfInBounds_toArray, List.set_cons_zero, List.set_cons_succ]
  refine wpAnyH_take (i := 26) (oi := ⟨(some 71), _, _, _, _, _⟩) (v := ?vq1_26) rfl (by kernel_rfl) (by kernel_rfl) (by kernel_rfl) (fun _ _ _ h => h) (Or.inl ⟨by rfl, ?yq1_26⟩) hHeld ?_
  case yq1_26 => (intro W0 hSw; go_simp; try with_reducible rfl)
  try simp only [Act.put, List.setIfInBounds_toArray, List.set_cons_zero, List.set_cons_succ]
  refine wpAnyH_take (i := 27) (oi := ⟨(some 8), _, _, _, _, _⟩) (v := ?vq1_27) rfl (by kernel_rfl) (by kernel_rfl) (by kernel_rfl) (fun _ _ _ h => h) (Or.inl ⟨by rfl, ?yq1_27⟩) hHeld ?_
  case yq1_27 => (intro W0 hSw; go_simp; try with_reducible rfl)
  try simp only [Act.put, List.setIfInBounds_toArray, List.set_cons_zero, List.set_cons_succ]
  refine wpAnyH_done (by kernel_rfl) ?_ _
  go_wp2_with fail
  go_ret
  exact ⟨rfl, hb4'.drew⟩
end Go.Proofs.YtmgamjbifffchaaDoor
