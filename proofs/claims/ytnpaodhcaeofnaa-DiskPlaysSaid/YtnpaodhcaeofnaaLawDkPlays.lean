/-
  DiskPlays: for every input the law's Go text returns true. Conditions: none.
-/
import Derived.Test.YtnpaodhcaeofnaaRkR
import Derived.Test.YtnpaodhcaeofnaaArgA
import Derived.Test.YtnpaodhcaeofnaaDkV
namespace Go.Proofs.Ytnpaodhcaeofnaa
open Go.RowKit

def actRow (op nn : Int) (keep : Nat) (s t : ByteArray) (Aj : Option Addr) (nj cj : Nat) : Obj := .cells #[.int .i64 op, .int .i64 nn, .int .u64 (keep : Int), .string s, .string t, .slice Aj nj cj] 35 (0, 0)
theorem act_cells {W : World} {x : Nat} {op nn : Int} {keep : Nat} {s t : ByteArray} {Aj : Option Addr} {nj cj : Nat} (h : W.heap[x]? = some (actRow op nn keep s t Aj nj cj)) :
    W.cell? ⟨x, 2, none⟩ = some (.int .u64 (keep : Int)) ∧ W.cell? ⟨x, 1, none⟩ = some (.int .i64 nn) ∧ W.cell? ⟨x, 3, none⟩ = some (.string s) ∧ W.cell? ⟨x, 4, none⟩ = some (.string t) ∧ W.cell? ⟨x, 5, none⟩ = some (.slice Aj nj cj) := by
  unfold actRow at h
  refine ⟨?_, ?_, ?_, ?_, ?_⟩ <;> (rw [cell_of_row _ _ _ _ _ _ h]; rfl)
theorem mine_power2 {w0 W : World} {d N : Nat} {T : Rk} {P : World → (Nat → Prop) → Prop} {xs : List (Option Addr × List UInt8)} (h : Mine w0 W d N T.toD P xs) : Calls Try.prog 22 #[.pointer (some ⟨d, 0, none⟩)] W fun e w' => e = .returned (.bool (!T.pf)) ∧ w' = W := mine_power h
theorem mine_lives2 {w0 W : World} {d N : Nat} {T : Rk} {P : World → (Nat → Prop) → Prop} {xs : List (Option Addr × List UInt8)} (h : Mine w0 W d N T.toD P xs) : Calls Try.prog 23 #[.pointer (some ⟨d, 0, none⟩)] W fun e w' => e = .returned (.int .i64 (T.lives : Int)) ∧ w' = W := mine_lives h

set_option maxRecDepth 100000 in
set_option maxHeartbeats 4000000 in
theorem walk_DiskPlays (w : World) (room : Int) (hrw : (Lit.int .i64 room).wf = true) (A : Option Addr) (ks : List AcV) (m cA : Nat) (hks : ActsP w w.heap.size A ks) (hkl : ks.length = m) (_ : m ≤ cA) :
    Calls Try.prog 3 #[.int .i64 room, .slice A m cA] w fun e w' => e = .returned (.bool true) ∧ Below w.heap.size w w' := by
  have HKL := Lib.hid hkl
  clear hkl
  by_cases hlo : room < 64
  · go_enter Try.func3, Try.ntmps3
    go_wp2_with fail
    refine (awake13_any w).mono ?_
    rintro e w0 ⟨rfl, hb0⟩
    have hc := dnew_no w0 room (.inl hlo)
    go_wp2_with fail
    refine hc.mono ?_
    rintro e w1 ⟨rfl, rfl⟩
    clear hc
    go_wp2
    go_ret
    exact ⟨rfl, hb0⟩
  · by_cases hhi : 1048576 < room
    · go_enter Try.func3, Try.ntmps3
      go_wp2_with fail
      refine (awake13_any w).mono ?_
      rintro e w0 ⟨rfl, hb0⟩
      have hc := dnew_no w0 room (.inr hhi)
      go_wp2_with fail
      refine hc.mono ?_
      rintro e w1 ⟨rfl, rfl⟩
      clear hc
      go_wp2
      go_ret
      exact ⟨rfl, hb0⟩
    · obtain ⟨rm, rfl⟩ : ∃ rm : Nat, room = (rm : Int) := ⟨room.toNat, by omega⟩
      have hlo' : 64 ≤ rm := by omega
      have hhi' : rm ≤ 1048576 := by omega
      by_cases h80 : 80 < m
      · have h80' : (80 : Int) < (m : Int) := by omega
        go_enter Try.func3, Try.ntmps3
        go_wp2_with fail
        refine (awake13_any w).mono ?_
        rintro e w0 ⟨rfl, hb0⟩
        have hc := mine_new w0 rm hlo' hhi'
        go_wp2_with fail
        refine hc.mono ?_
        rintro e w1 ⟨d, rfl, hM0⟩
        clear hc
        have hbel := below_next hb0 hb0.size hM0.bel
        clear hM0
        go_wp2
        go_ret
        exact ⟨rfl, hbel⟩
      · have h80' : ¬ (80 : Int) < (m : Int) := by omega
        have hm80 : m ≤ 80 := by omega
        go_enter Try.func3, Try.ntmps3
        go_wp2_with fail
        refine (awake13_any w).mono ?_
        rintro e w0 ⟨rfl, hb0⟩
        have hc := mine_new w0 rm hlo' hhi'
        go_wp2_with fail
        refine hc.mono ?_
        rintro e w1 ⟨d, rfl, hM0⟩
        clear hc
        have HM0 := Lib.hid hM0
        have hks0 := (hks.below hb0).up hb0.size
        clear hM0 hks hrw hlo hhi
        go_wp2
        obtain ⟨W2, hW2⟩ : ∃ W2, W2 = w1.alloc (.cells #[.int .i64 (rm : Int), .slice none 0 0, .bool false, .int .i64 1] 31) := ⟨_, rfl⟩
        have hM1 := HM0.out.rnew (W' := W2) (r := w1.heap.size) rm (by rw [hW2]; exact (Below.refl _ _).alloc (Nat.le_refl _) _) (Nat.le_refl _) (by rw [hW2]; exact heap_alloc_new w1 _)
        rw [← hW2]
        obtain ⟨r, hr⟩ : ∃ r, r = w1.heap.size := ⟨_, rfl⟩
        rw [← hr] at hM1 ⊢
        clear hW2 HM0 hr
        have HM1 := Lib.hid hM1
        clear hM1
        go_loopw [8] (fun i wr => ∃ (k N : Nat) (T : Rk), i = .int .i64 (k : Int) ∧ k ≤ m ∧ Hid (N ≤ k) ∧ Hid (T.Few k) ∧ Hid (Mine w0 wr d N T.toD (RkObj r T) [])) (fun i _ => m - (intOf i).toNat)
        case atStart => exact ⟨0, 0, ⟨rm, false, 1, []⟩, rfl, Nat.zero_le _, Lib.hid (Nat.le_refl _), Lib.hid ⟨Nat.le_refl _, fun x hx => by simp at hx, Nat.le_refl _⟩, HM1⟩
        case round =>
          obtain ⟨k, N, T, rfl, hkm, hN, hF, hM⟩ := hrel
          clear HM1
          by_cases hlt : k < m
          · obtain ⟨g, o, Aj, nj, cj, ⟨op, nn, keep, s, t, b⟩, rfl, hg, hget, hrng0, hok, hbl, hbc, hbp⟩ := hks0.at_ (k := k) (by rw [HKL.out]; exact hlt)
            obtain ⟨hk1, hk2, hk3, hk4⟩ := hok
            simp only at hk1 hk2 hk3 hk4 hbl hbp
            have hrng : wr.rangeAt g (o + k * 6) [.int .i64 op, .int .i64 nn, .int .u64 (keep : Int), .string s, .string t, .slice Aj nj cj] := range_below hrng0 hM.out.bel hg
            have HMb := Lib.hid (hM.out.arg hbp)
            have HF := Lib.hid (hM.out.fits hF.out)
            have HB := vlt hbl
            have HW := Lib.hid hk1
            have hnn : -9223372036854775808 ≤ nn ∧ nn < 9223372036854775808 := by
              have h : -9223372036854775808 ≤ nn ∧ nn ≤ 9223372036854775807 := by simpa [Lit.wf, IntKind.min, IntKind.max, IntKind.signed, IntKind.bits] using hk1
              omega
            clear hrng0 hbp hget hM hbl hk1
            have hbelR := below_next hb0 hb0.size HMb.out.bel
            have hk81 : k + 1 ≤ 1000000 := by omega
            have hk80 : k ≤ 1000000 := by omega
            by_cases c1 : 300 < nj
            · have c1' : (300 : Int) < (nj : Int) := by omega
              go_wp2_with (with_reducible refine wpList_load_mid rfl 35 (.tmp 62) rfl g (o + k * 6) rfl [.int .i64 op, .int .i64 nn, .int .u64 (keep : Int), .string s, .string t, .slice Aj nj cj] _ hrng Try.underlying35 rfl (by kernel_rfl) ?_)
              go_ret
              exact ⟨rfl, hbelR.alloc hbelR.size _⟩
            · have c1' : ¬ (300 : Int) < (nj : Int) := by omega
              by_cases c2 : 30 < s.size
              · have c2' : (30 : Int) < (s.size : Int) := by omega
                go_wp2_with (with_reducible refine wpList_load_mid rfl 35 (.tmp 62) rfl g (o + k * 6) rfl [.int .i64 op, .int .i64 nn, .int .u64 (keep : Int), .string s, .string t, .slice Aj nj cj] _ hrng Try.underlying35 rfl (by kernel_rfl) ?_)
                go_ret
                exact ⟨rfl, hbelR.alloc hbelR.size _⟩
              · have c2' : ¬ (30 : Int) < (s.size : Int) := by omega
                by_cases c3 : 30 < t.size
                · have c3' : (30 : Int) < (t.size : Int) := by omega
                  go_wp2_with (with_reducible refine wpList_load_mid rfl 35 (.tmp 62) rfl g (o + k * 6) rfl [.int .i64 op, .int .i64 nn, .int .u64 (keep : Int), .string s, .string t, .slice Aj nj cj] _ hrng Try.underlying35 rfl (by kernel_rfl) ?_)
                  go_ret
                  exact ⟨rfl, hbelR.alloc hbelR.size _⟩
                · have c3' : ¬ (30 : Int) < (t.size : Int) := by omega
                  have hsz : s.size ≤ 140737488355328 := by omega
                  have htz : t.size ≤ 140737488355328 := by omega
                  have hnj : nj ≤ 1099511627776 := by omega
                  by_cases o0 : op = 0
                  · as_aux_lemma =>
                    subst o0
                    go_wp2_with (with_reducible refine wpList_load_mid rfl 35 (.tmp 62) rfl g (o + k * 6) rfl [.int .i64 0, .int .i64 nn, .int .u64 (keep : Int), .string s, .string t, .slice Aj nj cj] _ hrng Try.underlying35 rfl (by kernel_rfl) ?_)
                    obtain ⟨WF, hWF⟩ : ∃ WF, WF = wr.alloc (.cells #[.int .i64 0, .int .i64 nn, .int .u64 (keep : Int), .string s, .string t, .slice Aj nj cj] 35) := ⟨_, rfl⟩
                    have hMr : Mine w0 WF d N T.toD (RkRow r T wr.heap.size (actRow 0 nn keep s t Aj nj cj)) [(Aj, b)] := HMb.out.rowOn (by rw [hWF]; exact (Below.refl _ _).alloc (Nat.le_refl _) _) (Nat.le_refl _) (by rw [hWF]; exact heap_alloc_new wr _)
                    rw [← hWF]
                    obtain ⟨x, hx⟩ : ∃ x, x = wr.heap.size := ⟨_, rfl⟩
                    rw [← hx] at hMr ⊢
                    clear hWF hx HMb hrng hbelR
                    have hP := rkRow r T x (actRow 0 nn keep s t Aj nj cj)
                    have hc1 := mine_append hP (hMr.drew hP) s hsz Aj b nj cj List.mem_cons_self HB.out hnj (by have := hN.out; omega)
                    rw [toD_appE, toD_app] at hc1
                    have hc2 := fun W (h : Mine w0 W d (N + 1) (T.app s b).toD (RkRow r T x (actRow 0 nn keep s t Aj nj cj)) [(Aj, b)]) => mine_rappend h HF.out hk80 s hsz Aj b nj cj List.mem_cons_self HB.out hnj
                    have hF2 := hF.out.app s b
                    generalize rappE T s nj = ev at hc1 hc2
                    generalize T.app s b = T2 at hc1 hc2 hF2
                    have HF2 := Lib.hid hF2
                    have hcl := act_cells hMr.row
                    obtain ⟨e2, e1, e3, e4, e5⟩ := hcl
                    clear hF2 hF
                    refine wp_region_held_drew (S := (fun W' => W'.cell? ⟨x, 3, none⟩ = some (.string s) ∧ W'.cell? ⟨x, 4, none⟩ = some (.string t) ∧ W'.cell? ⟨x, 5, none⟩ = some (.slice Aj nj cj))) (by kernel_rfl) (⟨e3, e4, e5⟩) (fun hHeld => ?_)
                    refine wpAnyH_take (i := 0) (oi := ⟨(some 88), _, _, _, _, _⟩) (v := ?vq1_0) rfl (by kernel_rfl) (by kernel_rfl) (by kernel_rfl) (fun _ _ _ h => h) (Or.inl ⟨by rfl, ?yq1_0⟩) hHeld ?_
                    case yq1_0 => (intro W0 hSw; go_simp; try with_reducible rfl)
                    try simp only [Act.put, List.setIfInBounds_toArray, List.set_cons_zero, List.set_cons_succ]
                    refine wpAnyH_take (i := 1) (oi := ⟨(some 89), _, _, _, _, _⟩) (v := ?vq1_1) rfl (by kernel_rfl) (by kernel_rfl) (by kernel_rfl) (fun _ _ _ h => h) (Or.inl ⟨by rfl, ?yq1_1⟩) hHeld ?_
                    case yq1_1 => (intro W0 hSw; go_simp; try with_reducible rfl)
                    try simp only [Act.put, List.setIfInBounds_toArray, List.set_cons_zero, List.set_cons_succ]
                    refine wpAnyH_take (i := 2) (oi := ⟨(some 90), _, _, _, _, _⟩) (v := ?vq1_2) rfl (by kernel_rfl) (by kernel_rfl) (by kernel_rfl) (fun _ _ _ h => h) (Or.inl ⟨by rfl, ?yq1_2⟩) hHeld ?_
                    case yq1_2 => (intro W0 hSw; go_simp; try with_reducible rfl)
                    try simp only [Act.put, List.setIfInBounds_toArray, List.set_cons_zero, List.set_cons_succ]
                    refine wpAnyH_take (i := 3) (oi := ⟨(some 91), _, _, _, _, _⟩) (v := ?vq1_3) rfl (by kernel_rfl) (by kernel_rfl) (by kernel_rfl) (fun _ _ _ h => h) (Or.inl ⟨by rfl, ?yq1_3⟩) hHeld ?_
                    case yq1_3 => (intro W0 hSw; go_simp; try with_reducible rfl)
                    try simp only [Act.put, List.setIfInBounds_toArray, List.set_cons_zero, List.set_cons_succ]
                    refine wpAnyH_take (i := 4) (oi := ⟨(some 92), _, _, _, _, _⟩) (v := ?vq1_4) rfl (by kernel_rfl) (by kernel_rfl) (by kernel_rfl) (fun _ _ _ h => h) (Or.inl ⟨by rfl, ?yq1_4⟩) hHeld ?_
                    case yq1_4 => (intro W0 hSw; go_simp; try with_reducible rfl)
                    try simp only [Act.put, List.setIfInBounds_toArray, List.set_cons_zero, List.set_cons_succ]
                    refine wpAnyH_take (i := 6) (oi := ⟨(some 94), _, _, _, _, _⟩) (v := ?vq1_5) rfl (by kernel_rfl) (by kernel_rfl) (by kernel_rfl) (fun _ _ _ h => h) (Or.inl ⟨by rfl, ?yq1_5⟩) hHeld ?_
                    case yq1_5 => (intro W0 hSw; go_simp; try with_reducible rfl)
                    try simp only [Act.put, List.setIfInBounds_toArray, List.set_cons_zero, List.set_cons_succ]
                    refine wpAnyH_take (i := 7) (oi := ⟨(some 95), _, _, _, _, _⟩) (v := ?vq1_6) rfl (by kernel_rfl) (by kernel_rfl) (by kernel_rfl) (fun _ _ _ h => h) (Or.inl ⟨by rfl, ?yq1_6⟩) hHeld ?_
                    case yq1_6 => (intro W0 hSw; go_simp; try with_reducible rfl)
                    try simp only [Act.put, List.setIfInBounds_toArray, List.set_cons_zero, List.set_cons_succ]
                    refine wpAnyH_take (i := 8) (oi := ⟨(some 96), _, _, _, _, _⟩) (v := ?vq1_7) rfl (by kernel_rfl) (by kernel_rfl) (by kernel_rfl) (fun _ _ _ h => h) (Or.inl ⟨by rfl, ?yq1_7⟩) hHeld ?_
                    case yq1_7 => (intro W0 hSw; go_simp; try with_reducible rfl)
                    try simp only [Act.put, List.setIfInBounds_toArray, List.set_cons_zero, List.set_cons_succ]
                    refine wpAnyH_take (i := 9) (oi := ⟨(some 97), _, _, _, _, _⟩) (v := ?vq1_8) rfl (by kernel_rfl) (by kernel_rfl) (by kernel_rfl) (fun _ _ _ h => h) (Or.inl ⟨by rfl, ?yq1_8⟩) hHeld ?_
                    case yq1_8 => (intro W0 hSw; go_simp; try with_reducible rfl)
                    try simp only [Act.put, List.setIfInBounds_toArray, List.set_cons_zero, List.set_cons_succ]
                    refine wpAnyH_take (i := 10) (oi := ⟨(some 98), _, _, _, _, _⟩) (v := ?vq1_9) rfl (by kernel_rfl) (by kernel_rfl) (by kernel_rfl) (fun _ _ _ h => h) (Or.inl ⟨by rfl, ?yq1_9⟩) hHeld ?_
                    case yq1_9 => (intro W0 hSw; go_simp; try with_reducible rfl)
                    try simp only [Act.put, List.setIfInBounds_toArray, List.set_cons_zero, List.set_cons_succ]
                    refine wpAnyH_ready (rs := [5]) (by kernel_rfl) (by simp) ?_
                    refine AllReadyH.cons (i := 5) (o := ⟨(some 93), _, _, _, _, _⟩) rfl (fun K hK => ?_) AllReadyH.nil
                    go_simp
                    refine hc1.mono ?_
                    rintro e w5 ⟨rfl, hM5⟩
                    have hc6 := hc2 w5 hM5
                    obtain ⟨_, _, f3, f4, f5⟩ := act_cells hM5.row
                    refine hK.out _ _ (⟨f3, f4, f5⟩) (fun hHeld => ?_)
                    clear hK K
                    try simp only [Act.put, List.setIfInBounds_toArray, List.set_cons_zero, List.set_cons_succ]
                    refine wpAnyH_ready (rs := [11]) (by kernel_rfl) (by simp) ?_
                    refine AllReadyH.cons (i := 11) (o := ⟨(some 99), _, _, _, _, _⟩) rfl (fun K hK => ?_) AllReadyH.nil
                    go_simp
                    refine hc6.mono ?_
                    rintro e w6 ⟨rfl, hM6⟩
                    obtain ⟨_, _, g3, g4, g5⟩ := act_cells hM6.row
                    refine hK.out _ _ (⟨g3, g4, g5⟩) (fun hHeld => ?_)
                    clear hK K
                    try simp only [Act.put, List.setIfInBounds_toArray, List.set_cons_zero, List.set_cons_succ]
                    refine wpAnyH_take (i := 12) (oi := ⟨(some 100), _, _, _, _, _⟩) (v := ?vq1_10) rfl (by kernel_rfl) (by kernel_rfl) (by kernel_rfl) (fun _ _ _ h => h) (Or.inl ⟨by rfl, ?yq1_10⟩) hHeld ?_
                    case yq1_10 => (intro W0 hSw; go_simp; try with_reducible rfl)
                    try simp only [Act.put, List.setIfInBounds_toArray, List.set_cons_zero, List.set_cons_succ]
                    refine wpAnyH_take (i := 13) (oi := ⟨(some 10), _, _, _, _, _⟩) (v := ?vq1_11) rfl (by kernel_rfl) (by kernel_rfl) (by kernel_rfl) (fun _ _ _ h => h) (Or.inl ⟨by rfl, ?yq1_11⟩) hHeld ?_
                    case yq1_11 => (intro W0 hSw; go_simp; try with_reducible rfl)
                    try simp only [Act.put, List.setIfInBounds_toArray, List.set_cons_zero, List.set_cons_succ]
                    refine wpAnyH_done (by kernel_rfl) ?_ _
                    have HM := Lib.hid hM6
                    clear hHeld hM6 hc6 hM5 hc1 hc2 f3 f4 f5 g3 g4 g5 hMr e1 e2 e3 e4 e5 hP HF
                    have hP := rkRow r T2 x (actRow 0 nn keep s t Aj nj cj)
                    have HN2 := Lib.hid (show N + 1 ≤ k + 1 by have := hN.out; omega)
                    have hft := Lib.hid (HM.out.fits HF2.out)
                    have hc3 := mine_read hP HM.out s hsz
                    rw [toD_ask, toD_read] at hc3
                    have hc4 := fun W (ys : List (Option Addr × List UInt8)) (h : Mine w0 W d (N + 1) T2.toD (RkRow r T2 x (actRow 0 nn keep s t Aj nj cj)) ys) => mine_rread h hft.out hk81 s hsz
                    generalize raskE T2.pf T2.L s = ev2 at hc3 hc4
                    generalize rreadB T2.pf T2.L s = bs at hc3 hc4
                    obtain ⟨_, _, e3, _, _⟩ := act_cells HM.out.row
                    go_wp2_with fail
                    refine hc3.mono ?_
                    rintro e w7 ⟨Ax, nx, cx, l, rfl, hl, hln, _, hM7, _⟩
                    clear e3 hc3
                    obtain ⟨_, _, e3, _, _⟩ := act_cells hM7.row
                    have hc5 := hc4 _ _ hM7
                    clear hc4 hM7
                    go_wp2_with fail
                    refine hc5.mono ?_
                    rintro e w8 ⟨Ay, ny, cy, l2, rfl, hl2, hln2, _, hM8, _⟩
                    obtain rfl : l = l2 := by rw [hl.out, hl2.out]
                    clear e3 hc5 hl hl2 hP
                    go_upto_region 32 with fail
                    refine wp_region_held_drew (S := (fun W' => Mine w0 W' d (N + 1) T2.toD (RkRow r T2 x (actRow 0 nn keep s t Aj nj cj)) [(Ay, l), (Ax, l), (Aj, b)])) (by kernel_rfl) ((hM8.drew (rkRow r T2 x (actRow 0 nn keep s t Aj nj cj)))) (fun hHeld => ?_)
                    refine wpAnyH_take (i := 0) (oi := ⟨(some 166), _, _, _, _, _⟩) (v := ?vq2_0) rfl (by kernel_rfl) (by kernel_rfl) (by kernel_rfl) (fun _ _ _ h => h) (Or.inl ⟨by rfl, ?yq2_0⟩) hHeld ?_
                    case yq2_0 => (intro W0 hSw; go_simp; try with_reducible rfl)
                    try simp only [Act.put, List.setIfInBounds_toArray, List.set_cons_zero, List.set_cons_succ]
                    refine wpAnyH_take (i := 1) (oi := ⟨(some 167), _, _, _, _, _⟩) (v := ?vq2_1) rfl (by kernel_rfl) (by kernel_rfl) (by kernel_rfl) (fun _ _ _ h => h) (Or.inl ⟨by rfl, ?yq2_1⟩) hHeld ?_
                    case yq2_1 => (intro W0 hSw; go_simp; try with_reducible rfl)
                    try simp only [Act.put, List.setIfInBounds_toArray, List.set_cons_zero, List.set_cons_succ]
                    refine wpAnyH_take (i := 2) (oi := ⟨(some 168), _, _, _, _, _⟩) (v := ?vq2_2) rfl (by kernel_rfl) (by kernel_rfl) (by kernel_rfl) (fun _ _ _ h => h) (Or.inl ⟨by rfl, ?yq2_2⟩) hHeld ?_
                    case yq2_2 => (intro W0 hSw; go_simp; try with_reducible rfl)
                    try simp only [Act.put, List.setIfInBounds_toArray, List.set_cons_zero, List.set_cons_succ]
                    refine wpAnyH_take (i := 3) (oi := ⟨(some 169), _, _, _, _, _⟩) (v := ?vq2_3) rfl (by kernel_rfl) (by kernel_rfl) (by kernel_rfl) (fun _ _ _ h => h) (Or.inl ⟨by rfl, ?yq2_3⟩) hHeld ?_
                    case yq2_3 => (intro W0 hSw; go_simp; try with_reducible rfl)
                    try simp only [Act.put, List.setIfInBounds_toArray, List.set_cons_zero, List.set_cons_succ]
                    refine wpAnyH_take (i := 4) (oi := ⟨(some 170), _, _, _, _, _⟩) (v := ?vq2_4) rfl (by kernel_rfl) (by kernel_rfl) (by kernel_rfl) (fun _ _ _ h => h) (Or.inl ⟨by rfl, ?yq2_4⟩) hHeld ?_
                    case yq2_4 => (intro W0 hSw; have hcx := conv_bytes (P := Try.prog) Try.underlying33 Try.underlying5 Try.underlying9 (hSw.byt (p := (Ax, l)) (by simp)) nx cx hln.out; go_simp; try with_reducible rfl)
                    try simp only [Act.put, List.setIfInBounds_toArray, List.set_cons_zero, List.set_cons_succ]
                    refine wpAnyH_take (i := 5) (oi := ⟨(some 171), _, _, _, _, _⟩) (v := ?vq2_5) rfl (by kernel_rfl) (by kernel_rfl) (by kernel_rfl) (fun _ _ _ h => h) (Or.inl ⟨by rfl, ?yq2_5⟩) hHeld ?_
                    case yq2_5 => (intro W0 hSw; go_simp; try with_reducible rfl)
                    try simp only [Act.put, List.setIfInBounds_toArray, List.set_cons_zero, List.set_cons_succ]
                    refine wpAnyH_take (i := 6) (oi := ⟨(some 172), _, _, _, _, _⟩) (v := ?vq2_6) rfl (by kernel_rfl) (by kernel_rfl) (by kernel_rfl) (fun _ _ _ h => h) (Or.inl ⟨by rfl, ?yq2_6⟩) hHeld ?_
                    case yq2_6 => (intro W0 hSw; have hcx := conv_bytes (P := Try.prog) Try.underlying33 Try.underlying5 Try.underlying9 (hSw.byt (p := (Ay, l)) (by simp)) ny cy hln2.out; go_simp; try with_reducible rfl)
                    try simp only [Act.put, List.setIfInBounds_toArray, List.set_cons_zero, List.set_cons_succ]
                    refine wpAnyH_take (i := 7) (oi := ⟨(some 173), _, _, _, _, _⟩) (v := ?vq2_7) rfl (by kernel_rfl) (by kernel_rfl) (by kernel_rfl) (fun _ _ _ h => h) (Or.inl ⟨by rfl, ?yq2_7⟩) hHeld ?_
                    case yq2_7 => (intro W0 hSw; go_simp; try with_reducible rfl)
                    try simp only [Act.put, List.setIfInBounds_toArray, List.set_cons_zero, List.set_cons_succ]
                    refine wpAnyH_take (i := 8) (oi := ⟨(some 174), _, _, _, _, _⟩) (v := ?vq2_8) rfl (by kernel_rfl) (by kernel_rfl) (by kernel_rfl) (fun _ _ _ h => h) (Or.inl ⟨by rfl, ?yq2_8⟩) hHeld ?_
                    case yq2_8 => (intro W0 hSw; go_simp; try with_reducible rfl)
                    try simp only [Act.put, List.setIfInBounds_toArray, List.set_cons_zero, List.set_cons_succ]
                    refine wpAnyH_take (i := 9) (oi := ⟨(some 175), _, _, _, _, _⟩) (v := ?vq2_9) rfl (by kernel_rfl) (by kernel_rfl) (by kernel_rfl) (fun _ _ _ h => h) (Or.inl ⟨by rfl, ?yq2_9⟩) hHeld ?_
                    case yq2_9 => (intro W0 hSw; go_simp; try with_reducible rfl)
                    try simp only [Act.put, List.setIfInBounds_toArray, List.set_cons_zero, List.set_cons_succ]
                    refine wpAnyH_take (i := 10) (oi := ⟨(some 176), _, _, _, _, _⟩) (v := ?vq2_10) rfl (by kernel_rfl) (by kernel_rfl) (by kernel_rfl) (fun _ _ _ h => h) (Or.inl ⟨by rfl, ?yq2_10⟩) hHeld ?_
                    case yq2_10 => (intro W0 hSw; go_simp; try with_reducible rfl)
                    try simp only [Act.put, List.setIfInBounds_toArray, List.set_cons_zero, List.set_cons_succ]
                    refine wpAnyH_take (i := 11) (oi := ⟨(some 177), _, _, _, _, _⟩) (v := ?vq2_11) rfl (by kernel_rfl) (by kernel_rfl) (by kernel_rfl) (fun _ _ _ h => h) (Or.inl ⟨by rfl, ?yq2_11⟩) hHeld ?_
                    case yq2_11 => (intro W0 hSw; go_simp; try with_reducible rfl)
                    try simp only [Act.put, List.setIfInBounds_toArray, List.set_cons_zero, List.set_cons_succ]
                    refine wpAnyH_take (i := 12) (oi := ⟨(some 178), _, _, _, _, _⟩) (v := ?vq2_12) rfl (by kernel_rfl) (by kernel_rfl) (by kernel_rfl) (fun _ _ _ h => h) (Or.inl ⟨by rfl, ?yq2_12⟩) hHeld ?_
                    case yq2_12 => (intro W0 hSw; go_simp; try with_reducible rfl)
                    try simp only [Act.put, List.setIfInBounds_toArray, List.set_cons_zero, List.set_cons_succ]
                    refine wpAnyH_take (i := 13) (oi := ⟨(some 179), _, _, _, _, _⟩) (v := ?vq2_13) rfl (by kernel_rfl) (by kernel_rfl) (by kernel_rfl) (fun _ _ _ h => h) (Or.inl ⟨by rfl, ?yq2_13⟩) hHeld ?_
                    case yq2_13 => (intro W0 hSw; go_simp; try with_reducible rfl)
                    try simp only [Act.put, List.setIfInBounds_toArray, List.set_cons_zero, List.set_cons_succ]
                    refine wpAnyH_take (i := 14) (oi := ⟨(some 180), _, _, _, _, _⟩) (v := ?vq2_14) rfl (by kernel_rfl) (by kernel_rfl) (by kernel_rfl) (fun _ _ _ h => h) (Or.inl ⟨by rfl, ?yq2_14⟩) hHeld ?_
                    case yq2_14 => (intro W0 hSw; go_simp; try with_reducible rfl)
                    try simp only [Act.put, List.setIfInBounds_toArray, List.set_cons_zero, List.set_cons_succ]
                    refine wpAnyH_take (i := 15) (oi := ⟨(some 181), _, _, _, _, _⟩) (v := ?vq2_15) rfl (by kernel_rfl) (by kernel_rfl) (by kernel_rfl) (fun _ _ _ h => h) (Or.inl ⟨by rfl, ?yq2_15⟩) hHeld ?_
                    case yq2_15 => (intro W0 hSw; go_simp; try with_reducible rfl)
                    try simp only [Act.put, List.setIfInBounds_toArray, List.set_cons_zero, List.set_cons_succ]
                    refine wpAnyH_take (i := 17) (oi := ⟨(some 183), _, _, _, _, _⟩) (v := ?vq2_16) rfl (by kernel_rfl) (by kernel_rfl) (by kernel_rfl) (fun _ _ _ h => h) (Or.inl ⟨by rfl, ?yq2_16⟩) hHeld ?_
                    case yq2_16 => (intro W0 hSw; go_simp; try with_reducible rfl)
                    try simp only [Act.put, List.setIfInBounds_toArray, List.set_cons_zero, List.set_cons_succ]
                    refine wpAnyH_ready (rs := [16]) (by kernel_rfl) (by simp) ?_
                    refine AllReadyH.cons (i := 16) (o := ⟨(some 182), _, _, _, _, _⟩) rfl (fun K hK => ?_) AllReadyH.nil
                    go_simp
                    refine (mine_size hHeld).mono ?_
                    rintro e w9 ⟨rfl, rfl⟩
                    refine hK.out _ _ (hHeld) (fun hHeld => ?_)
                    clear hK K
                    try simp only [Act.put, List.setIfInBounds_toArray, List.set_cons_zero, List.set_cons_succ]
                    refine wpAnyH_ready (rs := [18]) (by kernel_rfl) (by simp) ?_
                    refine AllReadyH.cons (i := 18) (o := ⟨(some 184), _, _, _, _, _⟩) rfl (fun K hK => ?_) AllReadyH.nil
                    go_simp
                    refine (mine_rsize hHeld hft.out hk81).mono ?_
                    rintro e w10 ⟨rfl, hM10, _⟩
                    refine hK.out _ _ (hM10) (fun hHeld => ?_)
                    clear hK K
                    try simp only [Act.put, List.setIfInBounds_toArray, List.set_cons_zero, List.set_cons_succ]
                    refine wpAnyH_take (i := 19) (oi := ⟨(some 185), _, _, _, _, _⟩) (v := ?vq2_17) rfl (by kernel_rfl) (by kernel_rfl) (by kernel_rfl) (fun _ _ _ h => h) (Or.inl ⟨by rfl, ?yq2_17⟩) hHeld ?_
                    case yq2_17 => (intro W0 hSw; go_simp; try with_reducible rfl)
                    try simp only [Act.put, List.setIfInBounds_toArray, List.set_cons_zero, List.set_cons_succ]
                    refine wpAnyH_take (i := 20) (oi := ⟨(some 186), _, _, _, _, _⟩) (v := ?vq2_18) rfl (by kernel_rfl) (by kernel_rfl) (by kernel_rfl) (fun _ _ _ h => h) (Or.inl ⟨by rfl, ?yq2_18⟩) hHeld ?_
                    case yq2_18 => (intro W0 hSw; go_simp; try with_reducible rfl)
                    try simp only [Act.put, List.setIfInBounds_toArray, List.set_cons_zero, List.set_cons_succ]
                    refine wpAnyH_take (i := 21) (oi := ⟨(some 187), _, _, _, _, _⟩) (v := ?vq2_19) rfl (by kernel_rfl) (by kernel_rfl) (by kernel_rfl) (fun _ _ _ h => h) (Or.inl ⟨by rfl, ?yq2_19⟩) hHeld ?_
                    case yq2_19 => (intro W0 hSw; go_simp; try with_reducible rfl)
                    try simp only [Act.put, List.setIfInBounds_toArray, List.set_cons_zero, List.set_cons_succ]
                    refine wpAnyH_take (i := 22) (oi := ⟨(some 188), _, _, _, _, _⟩) (v := ?vq2_20) rfl (by kernel_rfl) (by kernel_rfl) (by kernel_rfl) (fun _ _ _ h => h) (Or.inl ⟨by rfl, ?yq2_20⟩) hHeld ?_
                    case yq2_20 => (intro W0 hSw; go_simp; try with_reducible rfl)
                    try simp only [Act.put, List.setIfInBounds_toArray, List.set_cons_zero, List.set_cons_succ]
                    refine wpAnyH_take (i := 24) (oi := ⟨(some 190), _, _, _, _, _⟩) (v := ?vq2_21) rfl (by kernel_rfl) (by kernel_rfl) (by kernel_rfl) (fun _ _ _ h => h) (Or.inl ⟨by rfl, ?yq2_21⟩) hHeld ?_
                    case yq2_21 => (intro W0 hSw; go_simp; try with_reducible rfl)
                    try simp only [Act.put, List.setIfInBounds_toArray, List.set_cons_zero, List.set_cons_succ]
                    refine wpAnyH_take (i := 25) (oi := ⟨(some 191), _, _, _, _, _⟩) (v := ?vq2_22) rfl (by kernel_rfl) (by kernel_rfl) (by kernel_rfl) (fun _ _ _ h => h) (Or.inl ⟨by rfl, ?yq2_22⟩) hHeld ?_
                    case yq2_22 => (intro W0 hSw; go_simp; try with_reducible rfl)
                    try simp only [Act.put, List.setIfInBounds_toArray, List.set_cons_zero, List.set_cons_succ]
                    refine wpAnyH_take (i := 26) (oi := ⟨(some 192), _, _, _, _, _⟩) (v := ?vq2_23) rfl (by kernel_rfl) (by kernel_rfl) (by kernel_rfl) (fun _ _ _ h => h) (Or.inl ⟨by rfl, ?yq2_23⟩) hHeld ?_
                    case yq2_23 => (intro W0 hSw; go_simp; try with_reducible rfl)
                    try simp only [Act.put, List.setIfInBounds_toArray, List.set_cons_zero, List.set_cons_succ]
                    refine wpAnyH_take (i := 27) (oi := ⟨(some 193), _, _, _, _, _⟩) (v := ?vq2_24) rfl (by kernel_rfl) (by kernel_rfl) (by kernel_rfl) (fun _ _ _ h => h) (Or.inl ⟨by rfl, ?yq2_24⟩) hHeld ?_
                    case yq2_24 => (intro W0 hSw; obtain ⟨hp1, hp2⟩ := hSw.pf; go_simp; try with_reducible rfl)
                    try simp only [Act.put, List.setIfInBounds_toArray, List.set_cons_zero, List.set_cons_succ]
                    refine wpAnyH_ready (rs := [23]) (by kernel_rfl) (by simp) ?_
                    refine AllReadyH.cons (i := 23) (o := ⟨(some 189), _, _, _, _, _⟩) rfl (fun K hK => ?_) AllReadyH.nil
                    go_simp
                    refine (mine_power2 hHeld).mono ?_
                    rintro e w11 ⟨rfl, rfl⟩
                    refine hK.out _ _ (hHeld) (fun hHeld => ?_)
                    clear hK K
                    try simp only [Act.put, List.setIfInBounds_toArray, List.set_cons_zero, List.set_cons_succ]
                    refine wpAnyH_take (i := 28) (oi := ⟨(some 194), _, _, _, _, _⟩) (v := ?vq2_25) rfl (by kernel_rfl) (by kernel_rfl) (by kernel_rfl) (fun _ _ _ h => h) (Or.inl ⟨by rfl, ?yq2_25⟩) hHeld ?_
                    case yq2_25 => (intro W0 hSw; go_simp; try with_reducible rfl)
                    try simp only [Act.put, List.setIfInBounds_toArray, List.set_cons_zero, List.set_cons_succ]
                    refine wpAnyH_take (i := 29) (oi := ⟨(some 195), _, _, _, _, _⟩) (v := ?vq2_26) rfl (by kernel_rfl) (by kernel_rfl) (by kernel_rfl) (fun _ _ _ h => h) (Or.inl ⟨by rfl, ?yq2_26⟩) hHeld ?_
                    case yq2_26 => (intro W0 hSw; go_simp; try with_reducible rfl)
                    try simp only [Act.put, List.setIfInBounds_toArray, List.set_cons_zero, List.set_cons_succ]
                    refine wpAnyH_take (i := 30) (oi := ⟨(some 196), _, _, _, _, _⟩) (v := ?vq2_27) rfl (by kernel_rfl) (by kernel_rfl) (by kernel_rfl) (fun _ _ _ h => h) (Or.inl ⟨by rfl, ?yq2_27⟩) hHeld ?_
                    case yq2_27 => (intro W0 hSw; go_simp; try with_reducible rfl)
                    try simp only [Act.put, List.setIfInBounds_toArray, List.set_cons_zero, List.set_cons_succ]
                    refine wpAnyH_take (i := 31) (oi := ⟨(some 197), _, _, _, _, _⟩) (v := ?vq2_28) rfl (by kernel_rfl) (by kernel_rfl) (by kernel_rfl) (fun _ _ _ h => h) (Or.inl ⟨by rfl, ?yq2_28⟩) hHeld ?_
                    case yq2_28 => (intro W0 hSw; go_simp; try with_reducible rfl)
                    try simp only [Act.put, List.setIfInBounds_toArray, List.set_cons_zero, List.set_cons_succ]
                    refine wpAnyH_take (i := 33) (oi := ⟨(some 199), _, _, _, _, _⟩) (v := ?vq2_29) rfl (by kernel_rfl) (by kernel_rfl) (by kernel_rfl) (fun _ _ _ h => h) (Or.inl ⟨by rfl, ?yq2_29⟩) hHeld ?_
                    case yq2_29 => (intro W0 hSw; go_simp; try with_reducible rfl)
                    try simp only [Act.put, List.setIfInBounds_toArray, List.set_cons_zero, List.set_cons_succ]
                    refine wpAnyH_take (i := 34) (oi := ⟨(some 200), _, _, _, _, _⟩) (v := ?vq2_30) rfl (by kernel_rfl) (by kernel_rfl) (by kernel_rfl) (fun _ _ _ h => h) (Or.inl ⟨by rfl, ?yq2_30⟩) hHeld ?_
                    case yq2_30 => (intro W0 hSw; go_simp; try with_reducible rfl)
                    try simp only [Act.put, List.setIfInBounds_toArray, List.set_cons_zero, List.set_cons_succ]
                    refine wpAnyH_take (i := 35) (oi := ⟨(some 201), _, _, _, _, _⟩) (v := ?vq2_31) rfl (by kernel_rfl) (by kernel_rfl) (by kernel_rfl) (fun _ _ _ h => h) (Or.inl ⟨by rfl, ?yq2_31⟩) hHeld ?_
                    case yq2_31 => (intro W0 hSw; go_simp; try with_reducible rfl)
                    try simp only [Act.put, List.setIfInBounds_toArray, List.set_cons_zero, List.set_cons_succ]
                    refine wpAnyH_take (i := 36) (oi := ⟨(some 202), _, _, _, _, _⟩) (v := ?vq2_32) rfl (by kernel_rfl) (by kernel_rfl) (by kernel_rfl) (fun _ _ _ h => h) (Or.inl ⟨by rfl, ?yq2_32⟩) hHeld ?_
                    case yq2_32 => (intro W0 hSw; obtain ⟨hp1, hp2⟩ := hSw.pf; go_simp; try with_reducible rfl)
                    try simp only [Act.put, List.setIfInBounds_toArray, List.set_cons_zero, List.set_cons_succ]
                    refine wpAnyH_ready (rs := [32]) (by kernel_rfl) (by simp) ?_
                    refine AllReadyH.cons (i := 32) (o := ⟨(some 198), _, _, _, _, _⟩) rfl (fun K hK => ?_) AllReadyH.nil
                    go_simp
                    refine (mine_lives2 hHeld).mono ?_
                    rintro e w12 ⟨rfl, rfl⟩
                    refine hK.out _ _ (hHeld) (fun hHeld => ?_)
                    clear hK K
                    try simp only [Act.put, List.setIfInBounds_toArray, List.set_cons_zero, List.set_cons_succ]
                    refine wpAnyH_take (i := 37) (oi := ⟨(some 203), _, _, _, _, _⟩) (v := ?vq2_33) rfl (by kernel_rfl) (by kernel_rfl) (by kernel_rfl) (fun _ _ _ h => h) (Or.inl ⟨by rfl, ?yq2_33⟩) hHeld ?_
                    case yq2_33 => (intro W0 hSw; go_simp; try with_reducible rfl)
                    try simp only [Act.put, List.setIfInBounds_toArray, List.set_cons_zero, List.set_cons_succ]
                    refine wpAnyH_take (i := 38) (oi := ⟨(some 204), _, _, _, _, _⟩) (v := ?vq2_34) rfl (by kernel_rfl) (by kernel_rfl) (by kernel_rfl) (fun _ _ _ h => h) (Or.inl ⟨by rfl, ?yq2_34⟩) hHeld ?_
                    case yq2_34 => (intro W0 hSw; go_simp; try with_reducible rfl)
                    try simp only [Act.put, List.setIfInBounds_toArray, List.set_cons_zero, List.set_cons_succ]
                    refine wpAnyH_done (by kernel_rfl) ?_ _
                    have HM9 := Lib.hid (Mine.rowOff hHeld)
                    clear hHeld hM8 hft
                    go_wp2
                    go_roundw
                    case rel => exact ⟨k + 1, N + 1, T2, by go_num, by omega, HN2, HF2, Lib.hid (HM9.out.fewer fun p hp => (List.not_mem_nil hp).elim)⟩
                    case measure => simp [intOf]; omega
                  · have o0' : ¬ op = 0 := o0
                    by_cases o1 : op = 1
                    · as_aux_lemma =>
                      subst o1
                      go_wp2_with (with_reducible refine wpList_load_mid rfl 35 (.tmp 62) rfl g (o + k * 6) rfl [.int .i64 1, .int .i64 nn, .int .u64 (keep : Int), .string s, .string t, .slice Aj nj cj] _ hrng Try.underlying35 rfl (by kernel_rfl) ?_)
                      obtain ⟨WF, hWF⟩ : ∃ WF, WF = wr.alloc (.cells #[.int .i64 1, .int .i64 nn, .int .u64 (keep : Int), .string s, .string t, .slice Aj nj cj] 35) := ⟨_, rfl⟩
                      have hMr : Mine w0 WF d N T.toD (RkRow r T wr.heap.size (actRow 1 nn keep s t Aj nj cj)) [(Aj, b)] := HMb.out.rowOn (by rw [hWF]; exact (Below.refl _ _).alloc (Nat.le_refl _) _) (Nat.le_refl _) (by rw [hWF]; exact heap_alloc_new wr _)
                      rw [← hWF]
                      obtain ⟨x, hx⟩ : ∃ x, x = wr.heap.size := ⟨_, rfl⟩
                      rw [← hx] at hMr ⊢
                      clear hWF hx HMb hrng hbelR
                      have hP := rkRow r T x (actRow 1 nn keep s t Aj nj cj)
                      have hc1 := mine_sync hP (hMr.drew hP) s hsz
                      rw [toD_ask, toD_syn] at hc1
                      have hc2 := fun W (h : Mine w0 W d (N + 1) (T.syn s).toD (RkRow r T x (actRow 1 nn keep s t Aj nj cj)) [(Aj, b)]) => mine_rsync h HF.out hk80 s hsz
                      have hF2 := hF.out.syn s
                      generalize raskE T.pf T.L s = ev at hc1 hc2
                      generalize T.syn s = T2 at hc1 hc2 hF2
                      have HF2 := Lib.hid hF2
                      have hcl := act_cells hMr.row
                      obtain ⟨e2, e1, e3, e4, e5⟩ := hcl
                      clear hF2 hF
                      refine wp_region_held_drew (S := (fun W' => W'.cell? ⟨x, 3, none⟩ = some (.string s) ∧ W'.cell? ⟨x, 4, none⟩ = some (.string t) ∧ W'.cell? ⟨x, 5, none⟩ = some (.slice Aj nj cj))) (by kernel_rfl) (⟨e3, e4, e5⟩) (fun hHeld => ?_)
                      refine wpAnyH_take (i := 0) (oi := ⟨(some 103), _, _, _, _, _⟩) (v := ?vq3_0) rfl (by kernel_rfl) (by kernel_rfl) (by kernel_rfl) (fun _ _ _ h => h) (Or.inl ⟨by rfl, ?yq3_0⟩) hHeld ?_
                      case yq3_0 => (intro W0 hSw; go_simp; try with_reducible rfl)
                      try simp only [Act.put, List.setIfInBounds_toArray, List.set_cons_zero, List.set_cons_succ]
                      refine wpAnyH_take (i := 1) (oi := ⟨(some 104), _, _, _, _, _⟩) (v := ?vq3_1) rfl (by kernel_rfl) (by kernel_rfl) (by kernel_rfl) (fun _ _ _ h => h) (Or.inl ⟨by rfl, ?yq3_1⟩) hHeld ?_
                      case yq3_1 => (intro W0 hSw; go_simp; try with_reducible rfl)
                      try simp only [Act.put, List.setIfInBounds_toArray, List.set_cons_zero, List.set_cons_succ]
                      refine wpAnyH_take (i := 2) (oi := ⟨(some 105), _, _, _, _, _⟩) (v := ?vq3_2) rfl (by kernel_rfl) (by kernel_rfl) (by kernel_rfl) (fun _ _ _ h => h) (Or.inl ⟨by rfl, ?yq3_2⟩) hHeld ?_
                      case yq3_2 => (intro W0 hSw; go_simp; try with_reducible rfl)
                      try simp only [Act.put, List.setIfInBounds_toArray, List.set_cons_zero, List.set_cons_succ]
                      refine wpAnyH_take (i := 4) (oi := ⟨(some 107), _, _, _, _, _⟩) (v := ?vq3_3) rfl (by kernel_rfl) (by kernel_rfl) (by kernel_rfl) (fun _ _ _ h => h) (Or.inl ⟨by rfl, ?yq3_3⟩) hHeld ?_
                      case yq3_3 => (intro W0 hSw; go_simp; try with_reducible rfl)
                      try simp only [Act.put, List.setIfInBounds_toArray, List.set_cons_zero, List.set_cons_succ]
                      refine wpAnyH_take (i := 5) (oi := ⟨(some 108), _, _, _, _, _⟩) (v := ?vq3_4) rfl (by kernel_rfl) (by kernel_rfl) (by kernel_rfl) (fun _ _ _ h => h) (Or.inl ⟨by rfl, ?yq3_4⟩) hHeld ?_
                      case yq3_4 => (intro W0 hSw; go_simp; try with_reducible rfl)
                      try simp only [Act.put, List.setIfInBounds_toArray, List.set_cons_zero, List.set_cons_succ]
                      refine wpAnyH_take (i := 6) (oi := ⟨(some 109), _, _, _, _, _⟩) (v := ?vq3_5) rfl (by kernel_rfl) (by kernel_rfl) (by kernel_rfl) (fun _ _ _ h => h) (Or.inl ⟨by rfl, ?yq3_5⟩) hHeld ?_
                      case yq3_5 => (intro W0 hSw; go_simp; try with_reducible rfl)
                      try simp only [Act.put, List.setIfInBounds_toArray, List.set_cons_zero, List.set_cons_succ]
                      refine wpAnyH_ready (rs := [3]) (by kernel_rfl) (by simp) ?_
                      refine AllReadyH.cons (i := 3) (o := ⟨(some 106), _, _, _, _, _⟩) rfl (fun K hK => ?_) AllReadyH.nil
                      go_simp
                      refine hc1.mono ?_
                      rintro e w5 ⟨rfl, hM5⟩
                      have hc6 := hc2 w5 hM5
                      obtain ⟨_, _, f3, f4, f5⟩ := act_cells hM5.row
                      refine hK.out _ _ (⟨f3, f4, f5⟩) (fun hHeld => ?_)
                      clear hK K
                      try simp only [Act.put, List.setIfInBounds_toArray, List.set_cons_zero, List.set_cons_succ]
                      refine wpAnyH_ready (rs := [7]) (by kernel_rfl) (by simp) ?_
                      refine AllReadyH.cons (i := 7) (o := ⟨(some 110), _, _, _, _, _⟩) rfl (fun K hK => ?_) AllReadyH.nil
                      go_simp
                      refine hc6.mono ?_
                      rintro e w6 ⟨rfl, hM6⟩
                      obtain ⟨_, _, g3, g4, g5⟩ := act_cells hM6.row
                      refine hK.out _ _ (⟨g3, g4, g5⟩) (fun hHeld => ?_)
                      clear hK K
                      try simp only [Act.put, List.setIfInBounds_toArray, List.set_cons_zero, List.set_cons_succ]
                      refine wpAnyH_take (i := 8) (oi := ⟨(some 111), _, _, _, _, _⟩) (v := ?vq3_6) rfl (by kernel_rfl) (by kernel_rfl) (by kernel_rfl) (fun _ _ _ h => h) (Or.inl ⟨by rfl, ?yq3_6⟩) hHeld ?_
                      case yq3_6 => (intro W0 hSw; go_simp; try with_reducible rfl)
                      try simp only [Act.put, List.setIfInBounds_toArray, List.set_cons_zero, List.set_cons_succ]
                      refine wpAnyH_take (i := 9) (oi := ⟨(some 10), _, _, _, _, _⟩) (v := ?vq3_7) rfl (by kernel_rfl) (by kernel_rfl) (by kernel_rfl) (fun _ _ _ h => h) (Or.inl ⟨by rfl, ?yq3_7⟩) hHeld ?_
                      case yq3_7 => (intro W0 hSw; go_simp; try with_reducible rfl)
                      try simp only [Act.put, List.setIfInBounds_toArray, List.set_cons_zero, List.set_cons_succ]
                      refine wpAnyH_done (by kernel_rfl) ?_ _
                      have HM := Lib.hid hM6
                      clear hHeld hM6 hc6 hM5 hc1 hc2 f3 f4 f5 g3 g4 g5 hMr e1 e2 e3 e4 e5 hP HF
                      have hP := rkRow r T2 x (actRow 1 nn keep s t Aj nj cj)
                      have HN2 := Lib.hid (show N + 1 ≤ k + 1 by have := hN.out; omega)
                      have hft := Lib.hid (HM.out.fits HF2.out)
                      have hc3 := mine_read hP HM.out s hsz
                      rw [toD_ask, toD_read] at hc3
                      have hc4 := fun W (ys : List (Option Addr × List UInt8)) (h : Mine w0 W d (N + 1) T2.toD (RkRow r T2 x (actRow 1 nn keep s t Aj nj cj)) ys) => mine_rread h hft.out hk81 s hsz
                      generalize raskE T2.pf T2.L s = ev2 at hc3 hc4
                      generalize rreadB T2.pf T2.L s = bs at hc3 hc4
                      obtain ⟨_, _, e3, _, _⟩ := act_cells HM.out.row
                      go_wp2_with fail
                      refine hc3.mono ?_
                      rintro e w7 ⟨Ax, nx, cx, l, rfl, hl, hln, _, hM7, _⟩
                      clear e3 hc3
                      obtain ⟨_, _, e3, _, _⟩ := act_cells hM7.row
                      have hc5 := hc4 _ _ hM7
                      clear hc4 hM7
                      go_wp2_with fail
                      refine hc5.mono ?_
                      rintro e w8 ⟨Ay, ny, cy, l2, rfl, hl2, hln2, _, hM8, _⟩
                      obtain rfl : l = l2 := by rw [hl.out, hl2.out]
                      clear e3 hc5 hl hl2 hP
                      go_upto_region 32 with fail
                      refine wp_region_held_drew (S := (fun W' => Mine w0 W' d (N + 1) T2.toD (RkRow r T2 x (actRow 1 nn keep s t Aj nj cj)) [(Ay, l), (Ax, l), (Aj, b)])) (by kernel_rfl) ((hM8.drew (rkRow r T2 x (actRow 1 nn keep s t Aj nj cj)))) (fun hHeld => ?_)
                      refine wpAnyH_take (i := 0) (oi := ⟨(some 166), _, _, _, _, _⟩) (v := ?vq4_0) rfl (by kernel_rfl) (by kernel_rfl) (by kernel_rfl) (fun _ _ _ h => h) (Or.inl ⟨by rfl, ?yq4_0⟩) hHeld ?_
                      case yq4_0 => (intro W0 hSw; go_simp; try with_reducible rfl)
                      try simp only [Act.put, List.setIfInBounds_toArray, List.set_cons_zero, List.set_cons_succ]
                      refine wpAnyH_take (i := 1) (oi := ⟨(some 167), _, _, _, _, _⟩) (v := ?vq4_1) rfl (by kernel_rfl) (by kernel_rfl) (by kernel_rfl) (fun _ _ _ h => h) (Or.inl ⟨by rfl, ?yq4_1⟩) hHeld ?_
                      case yq4_1 => (intro W0 hSw; go_simp; try with_reducible rfl)
                      try simp only [Act.put, List.setIfInBounds_toArray, List.set_cons_zero, List.set_cons_succ]
                      refine wpAnyH_take (i := 2) (oi := ⟨(some 168), _, _, _, _, _⟩) (v := ?vq4_2) rfl (by kernel_rfl) (by kernel_rfl) (by kernel_rfl) (fun _ _ _ h => h) (Or.inl ⟨by rfl, ?yq4_2⟩) hHeld ?_
                      case yq4_2 => (intro W0 hSw; go_simp; try with_reducible rfl)
                      try simp only [Act.put, List.setIfInBounds_toArray, List.set_cons_zero, List.set_cons_succ]
                      refine wpAnyH_take (i := 3) (oi := ⟨(some 169), _, _, _, _, _⟩) (v := ?vq4_3) rfl (by kernel_rfl) (by kernel_rfl) (by kernel_rfl) (fun _ _ _ h => h) (Or.inl ⟨by rfl, ?yq4_3⟩) hHeld ?_
                      case yq4_3 => (intro W0 hSw; go_simp; try with_reducible rfl)
                      try simp only [Act.put, List.setIfInBounds_toArray, List.set_cons_zero, List.set_cons_succ]
                      refine wpAnyH_take (i := 4) (oi := ⟨(some 170), _, _, _, _, _⟩) (v := ?vq4_4) rfl (by kernel_rfl) (by kernel_rfl) (by kernel_rfl) (fun _ _ _ h => h) (Or.inl ⟨by rfl, ?yq4_4⟩) hHeld ?_
                      case yq4_4 => (intro W0 hSw; have hcx := conv_bytes (P := Try.prog) Try.underlying33 Try.underlying5 Try.underlying9 (hSw.byt (p := (Ax, l)) (by simp)) nx cx hln.out; go_simp; try with_reducible rfl)
                      try simp only [Act.put, List.setIfInBounds_toArray, List.set_cons_zero, List.set_cons_succ]
                      refine wpAnyH_take (i := 5) (oi := ⟨(some 171), _, _, _, _, _⟩) (v := ?vq4_5) rfl (by kernel_rfl) (by kernel_rfl) (by kernel_rfl) (fun _ _ _ h => h) (Or.inl ⟨by rfl, ?yq4_5⟩) hHeld ?_
                      case yq4_5 => (intro W0 hSw; go_simp; try with_reducible rfl)
                      try simp only [Act.put, List.setIfInBounds_toArray, List.set_cons_zero, List.set_cons_succ]
                      refine wpAnyH_take (i := 6) (oi := ⟨(some 172), _, _, _, _, _⟩) (v := ?vq4_6) rfl (by kernel_rfl) (by kernel_rfl) (by kernel_rfl) (fun _ _ _ h => h) (Or.inl ⟨by rfl, ?yq4_6⟩) hHeld ?_
                      case yq4_6 => (intro W0 hSw; have hcx := conv_bytes (P := Try.prog) Try.underlying33 Try.underlying5 Try.underlying9 (hSw.byt (p := (Ay, l)) (by simp)) ny cy hln2.out; go_simp; try with_reducible rfl)
                      try simp only [Act.put, List.setIfInBounds_toArray, List.set_cons_zero, List.set_cons_succ]
                      refine wpAnyH_take (i := 7) (oi := ⟨(some 173), _, _, _, _, _⟩) (v := ?vq4_7) rfl (by kernel_rfl) (by kernel_rfl) (by kernel_rfl) (fun _ _ _ h => h) (Or.inl ⟨by rfl, ?yq4_7⟩) hHeld ?_
                      case yq4_7 => (intro W0 hSw; go_simp; try with_reducible rfl)
                      try simp only [Act.put, List.setIfInBounds_toArray, List.set_cons_zero, List.set_cons_succ]
                      refine wpAnyH_take (i := 8) (oi := ⟨(some 174), _, _, _, _, _⟩) (v := ?vq4_8) rfl (by kernel_rfl) (by kernel_rfl) (by kernel_rfl) (fun _ _ _ h => h) (Or.inl ⟨by rfl, ?yq4_8⟩) hHeld ?_
                      case yq4_8 => (intro W0 hSw; go_simp; try with_reducible rfl)
                      try simp only [Act.put, List.setIfInBounds_toArray, List.set_cons_zero, List.set_cons_succ]
                      refine wpAnyH_take (i := 9) (oi := ⟨(some 175), _, _, _, _, _⟩) (v := ?vq4_9) rfl (by kernel_rfl) (by kernel_rfl) (by kernel_rfl) (fun _ _ _ h => h) (Or.inl ⟨by rfl, ?yq4_9⟩) hHeld ?_
                      case yq4_9 => (intro W0 hSw; go_simp; try with_reducible rfl)
                      try simp only [Act.put, List.setIfInBounds_toArray, List.set_cons_zero, List.set_cons_succ]
                      refine wpAnyH_take (i := 10) (oi := ⟨(some 176), _, _, _, _, _⟩) (v := ?vq4_10) rfl (by kernel_rfl) (by kernel_rfl) (by kernel_rfl) (fun _ _ _ h => h) (Or.inl ⟨by rfl, ?yq4_10⟩) hHeld ?_
                      case yq4_10 => (intro W0 hSw; go_simp; try with_reducible rfl)
                      try simp only [Act.put, List.setIfInBounds_toArray, List.set_cons_zero, List.set_cons_succ]
                      refine wpAnyH_take (i := 11) (oi := ⟨(some 177), _, _, _, _, _⟩) (v := ?vq4_11) rfl (by kernel_rfl) (by kernel_rfl) (by kernel_rfl) (fun _ _ _ h => h) (Or.inl ⟨by rfl, ?yq4_11⟩) hHeld ?_
                      case yq4_11 => (intro W0 hSw; go_simp; try with_reducible rfl)
                      try simp only [Act.put, List.setIfInBounds_toArray, List.set_cons_zero, List.set_cons_succ]
                      refine wpAnyH_take (i := 12) (oi := ⟨(some 178), _, _, _, _, _⟩) (v := ?vq4_12) rfl (by kernel_rfl) (by kernel_rfl) (by kernel_rfl) (fun _ _ _ h => h) (Or.inl ⟨by rfl, ?yq4_12⟩) hHeld ?_
                      case yq4_12 => (intro W0 hSw; go_simp; try with_reducible rfl)
                      try simp only [Act.put, List.setIfInBounds_toArray, List.set_cons_zero, List.set_cons_succ]
                      refine wpAnyH_take (i := 13) (oi := ⟨(some 179), _, _, _, _, _⟩) (v := ?vq4_13) rfl (by kernel_rfl) (by kernel_rfl) (by kernel_rfl) (fun _ _ _ h => h) (Or.inl ⟨by rfl, ?yq4_13⟩) hHeld ?_
                      case yq4_13 => (intro W0 hSw; go_simp; try with_reducible rfl)
                      try simp only [Act.put, List.setIfInBounds_toArray, List.set_cons_zero, List.set_cons_succ]
                      refine wpAnyH_take (i := 14) (oi := ⟨(some 180), _, _, _, _, _⟩) (v := ?vq4_14) rfl (by kernel_rfl) (by kernel_rfl) (by kernel_rfl) (fun _ _ _ h => h) (Or.inl ⟨by rfl, ?yq4_14⟩) hHeld ?_
                      case yq4_14 => (intro W0 hSw; go_simp; try with_reducible rfl)
                      try simp only [Act.put, List.setIfInBounds_toArray, List.set_cons_zero, List.set_cons_succ]
                      refine wpAnyH_take (i := 15) (oi := ⟨(some 181), _, _, _, _, _⟩) (v := ?vq4_15) rfl (by kernel_rfl) (by kernel_rfl) (by kernel_rfl) (fun _ _ _ h => h) (Or.inl ⟨by rfl, ?yq4_15⟩) hHeld ?_
                      case yq4_15 => (intro W0 hSw; go_simp; try with_reducible rfl)
                      try simp only [Act.put, List.setIfInBounds_toArray, List.set_cons_zero, List.set_cons_succ]
                      refine wpAnyH_take (i := 17) (oi := ⟨(some 183), _, _, _, _, _⟩) (v := ?vq4_16) rfl (by kernel_rfl) (by kernel_rfl) (by kernel_rfl) (fun _ _ _ h => h) (Or.inl ⟨by rfl, ?yq4_16⟩) hHeld ?_
                      case yq4_16 => (intro W0 hSw; go_simp; try with_reducible rfl)
                      try simp only [Act.put, List.setIfInBounds_toArray, List.set_cons_zero, List.set_cons_succ]
                      refine wpAnyH_ready (rs := [16]) (by kernel_rfl) (by simp) ?_
                      refine AllReadyH.cons (i := 16) (o := ⟨(some 182), _, _, _, _, _⟩) rfl (fun K hK => ?_) AllReadyH.nil
                      go_simp
                      refine (mine_size hHeld).mono ?_
                      rintro e w9 ⟨rfl, rfl⟩
                      refine hK.out _ _ (hHeld) (fun hHeld => ?_)
                      clear hK K
                      try simp only [Act.put, List.setIfInBounds_toArray, List.set_cons_zero, List.set_cons_succ]
                      refine wpAnyH_ready (rs := [18]) (by kernel_rfl) (by simp) ?_
                      refine AllReadyH.cons (i := 18) (o := ⟨(some 184), _, _, _, _, _⟩) rfl (fun K hK => ?_) AllReadyH.nil
                      go_simp
                      refine (mine_rsize hHeld hft.out hk81).mono ?_
                      rintro e w10 ⟨rfl, hM10, _⟩
                      refine hK.out _ _ (hM10) (fun hHeld => ?_)
                      clear hK K
                      try simp only [Act.put, List.setIfInBounds_toArray, List.set_cons_zero, List.set_cons_succ]
                      refine wpAnyH_take (i := 19) (oi := ⟨(some 185), _, _, _, _, _⟩) (v := ?vq4_17) rfl (by kernel_rfl) (by kernel_rfl) (by kernel_rfl) (fun _ _ _ h => h) (Or.inl ⟨by rfl, ?yq4_17⟩) hHeld ?_
                      case yq4_17 => (intro W0 hSw; go_simp; try with_reducible rfl)
                      try simp only [Act.put, List.setIfInBounds_toArray, List.set_cons_zero, List.set_cons_succ]
                      refine wpAnyH_take (i := 20) (oi := ⟨(some 186), _, _, _, _, _⟩) (v := ?vq4_18) rfl (by kernel_rfl) (by kernel_rfl) (by kernel_rfl) (fun _ _ _ h => h) (Or.inl ⟨by rfl, ?yq4_18⟩) hHeld ?_
                      case yq4_18 => (intro W0 hSw; go_simp; try with_reducible rfl)
                      try simp only [Act.put, List.setIfInBounds_toArray, List.set_cons_zero, List.set_cons_succ]
                      refine wpAnyH_take (i := 21) (oi := ⟨(some 187), _, _, _, _, _⟩) (v := ?vq4_19) rfl (by kernel_rfl) (by kernel_rfl) (by kernel_rfl) (fun _ _ _ h => h) (Or.inl ⟨by rfl, ?yq4_19⟩) hHeld ?_
                      case yq4_19 => (intro W0 hSw; go_simp; try with_reducible rfl)
                      try simp only [Act.put, List.setIfInBounds_toArray, List.set_cons_zero, List.set_cons_succ]
                      refine wpAnyH_take (i := 22) (oi := ⟨(some 188), _, _, _, _, _⟩) (v := ?vq4_20) rfl (by kernel_rfl) (by kernel_rfl) (by kernel_rfl) (fun _ _ _ h => h) (Or.inl ⟨by rfl, ?yq4_20⟩) hHeld ?_
                      case yq4_20 => (intro W0 hSw; go_simp; try with_reducible rfl)
                      try simp only [Act.put, List.setIfInBounds_toArray, List.set_cons_zero, List.set_cons_succ]
                      refine wpAnyH_take (i := 24) (oi := ⟨(some 190), _, _, _, _, _⟩) (v := ?vq4_21) rfl (by kernel_rfl) (by kernel_rfl) (by kernel_rfl) (fun _ _ _ h => h) (Or.inl ⟨by rfl, ?yq4_21⟩) hHeld ?_
                      case yq4_21 => (intro W0 hSw; go_simp; try with_reducible rfl)
                      try simp only [Act.put, List.setIfInBounds_toArray, List.set_cons_zero, List.set_cons_succ]
                      refine wpAnyH_take (i := 25) (oi := ⟨(some 191), _, _, _, _, _⟩) (v := ?vq4_22) rfl (by kernel_rfl) (by kernel_rfl) (by kernel_rfl) (fun _ _ _ h => h) (Or.inl ⟨by rfl, ?yq4_22⟩) hHeld ?_
                      case yq4_22 => (intro W0 hSw; go_simp; try with_reducible rfl)
                      try simp only [Act.put, List.setIfInBounds_toArray, List.set_cons_zero, List.set_cons_succ]
                      refine wpAnyH_take (i := 26) (oi := ⟨(some 192), _, _, _, _, _⟩) (v := ?vq4_23) rfl (by kernel_rfl) (by kernel_rfl) (by kernel_rfl) (fun _ _ _ h => h) (Or.inl ⟨by rfl, ?yq4_23⟩) hHeld ?_
                      case yq4_23 => (intro W0 hSw; go_simp; try with_reducible rfl)
                      try simp only [Act.put, List.setIfInBounds_toArray, List.set_cons_zero, List.set_cons_succ]
                      refine wpAnyH_take (i := 27) (oi := ⟨(some 193), _, _, _, _, _⟩) (v := ?vq4_24) rfl (by kernel_rfl) (by kernel_rfl) (by kernel_rfl) (fun _ _ _ h => h) (Or.inl ⟨by rfl, ?yq4_24⟩) hHeld ?_
                      case yq4_24 => (intro W0 hSw; obtain ⟨hp1, hp2⟩ := hSw.pf; go_simp; try with_reducible rfl)
                      try simp only [Act.put, List.setIfInBounds_toArray, List.set_cons_zero, List.set_cons_succ]
                      refine wpAnyH_ready (rs := [23]) (by kernel_rfl) (by simp) ?_
                      refine AllReadyH.cons (i := 23) (o := ⟨(some 189), _, _, _, _, _⟩) rfl (fun K hK => ?_) AllReadyH.nil
                      go_simp
                      refine (mine_power2 hHeld).mono ?_
                      rintro e w11 ⟨rfl, rfl⟩
                      refine hK.out _ _ (hHeld) (fun hHeld => ?_)
                      clear hK K
                      try simp only [Act.put, List.setIfInBounds_toArray, List.set_cons_zero, List.set_cons_succ]
                      refine wpAnyH_take (i := 28) (oi := ⟨(some 194), _, _, _, _, _⟩) (v := ?vq4_25) rfl (by kernel_rfl) (by kernel_rfl) (by kernel_rfl) (fun _ _ _ h => h) (Or.inl ⟨by rfl, ?yq4_25⟩) hHeld ?_
                      case yq4_25 => (intro W0 hSw; go_simp; try with_reducible rfl)
                      try simp only [Act.put, List.setIfInBounds_toArray, List.set_cons_zero, List.set_cons_succ]
                      refine wpAnyH_take (i := 29) (oi := ⟨(some 195), _, _, _, _, _⟩) (v := ?vq4_26) rfl (by kernel_rfl) (by kernel_rfl) (by kernel_rfl) (fun _ _ _ h => h) (Or.inl ⟨by rfl, ?yq4_26⟩) hHeld ?_
                      case yq4_26 => (intro W0 hSw; go_simp; try with_reducible rfl)
                      try simp only [Act.put, List.setIfInBounds_toArray, List.set_cons_zero, List.set_cons_succ]
                      refine wpAnyH_take (i := 30) (oi := ⟨(some 196), _, _, _, _, _⟩) (v := ?vq4_27) rfl (by kernel_rfl) (by kernel_rfl) (by kernel_rfl) (fun _ _ _ h => h) (Or.inl ⟨by rfl, ?yq4_27⟩) hHeld ?_
                      case yq4_27 => (intro W0 hSw; go_simp; try with_reducible rfl)
                      try simp only [Act.put, List.setIfInBounds_toArray, List.set_cons_zero, List.set_cons_succ]
                      refine wpAnyH_take (i := 31) (oi := ⟨(some 197), _, _, _, _, _⟩) (v := ?vq4_28) rfl (by kernel_rfl) (by kernel_rfl) (by kernel_rfl) (fun _ _ _ h => h) (Or.inl ⟨by rfl, ?yq4_28⟩) hHeld ?_
                      case yq4_28 => (intro W0 hSw; go_simp; try with_reducible rfl)
                      try simp only [Act.put, List.setIfInBounds_toArray, List.set_cons_zero, List.set_cons_succ]
                      refine wpAnyH_take (i := 33) (oi := ⟨(some 199), _, _, _, _, _⟩) (v := ?vq4_29) rfl (by kernel_rfl) (by kernel_rfl) (by kernel_rfl) (fun _ _ _ h => h) (Or.inl ⟨by rfl, ?yq4_29⟩) hHeld ?_
                      case yq4_29 => (intro W0 hSw; go_simp; try with_reducible rfl)
                      try simp only [Act.put, List.setIfInBounds_toArray, List.set_cons_zero, List.set_cons_succ]
                      refine wpAnyH_take (i := 34) (oi := ⟨(some 200), _, _, _, _, _⟩) (v := ?vq4_30) rfl (by kernel_rfl) (by kernel_rfl) (by kernel_rfl) (fun _ _ _ h => h) (Or.inl ⟨by rfl, ?yq4_30⟩) hHeld ?_
                      case yq4_30 => (intro W0 hSw; go_simp; try with_reducible rfl)
                      try simp only [Act.put, List.setIfInBounds_toArray, List.set_cons_zero, List.set_cons_succ]
                      refine wpAnyH_take (i := 35) (oi := ⟨(some 201), _, _, _, _, _⟩) (v := ?vq4_31) rfl (by kernel_rfl) (by kernel_rfl) (by kernel_rfl) (fun _ _ _ h => h) (Or.inl ⟨by rfl, ?yq4_31⟩) hHeld ?_
                      case yq4_31 => (intro W0 hSw; go_simp; try with_reducible rfl)
                      try simp only [Act.put, List.setIfInBounds_toArray, List.set_cons_zero, List.set_cons_succ]
                      refine wpAnyH_take (i := 36) (oi := ⟨(some 202), _, _, _, _, _⟩) (v := ?vq4_32) rfl (by kernel_rfl) (by kernel_rfl) (by kernel_rfl) (fun _ _ _ h => h) (Or.inl ⟨by rfl, ?yq4_32⟩) hHeld ?_
                      case yq4_32 => (intro W0 hSw; obtain ⟨hp1, hp2⟩ := hSw.pf; go_simp; try with_reducible rfl)
                      try simp only [Act.put, List.setIfInBounds_toArray, List.set_cons_zero, List.set_cons_succ]
                      refine wpAnyH_ready (rs := [32]) (by kernel_rfl) (by simp) ?_
                      refine AllReadyH.cons (i := 32) (o := ⟨(some 198), _, _, _, _, _⟩) rfl (fun K hK => ?_) AllReadyH.nil
                      go_simp
                      refine (mine_lives2 hHeld).mono ?_
                      rintro e w12 ⟨rfl, rfl⟩
                      refine hK.out _ _ (hHeld) (fun hHeld => ?_)
                      clear hK K
                      try simp only [Act.put, List.setIfInBounds_toArray, List.set_cons_zero, List.set_cons_succ]
                      refine wpAnyH_take (i := 37) (oi := ⟨(some 203), _, _, _, _, _⟩) (v := ?vq4_33) rfl (by kernel_rfl) (by kernel_rfl) (by kernel_rfl) (fun _ _ _ h => h) (Or.inl ⟨by rfl, ?yq4_33⟩) hHeld ?_
                      case yq4_33 => (intro W0 hSw; go_simp; try with_reducible rfl)
                      try simp only [Act.put, List.setIfInBounds_toArray, List.set_cons_zero, List.set_cons_succ]
                      refine wpAnyH_take (i := 38) (oi := ⟨(some 204), _, _, _, _, _⟩) (v := ?vq4_34) rfl (by kernel_rfl) (by kernel_rfl) (by kernel_rfl) (fun _ _ _ h => h) (Or.inl ⟨by rfl, ?yq4_34⟩) hHeld ?_
                      case yq4_34 => (intro W0 hSw; go_simp; try with_reducible rfl)
                      try simp only [Act.put, List.setIfInBounds_toArray, List.set_cons_zero, List.set_cons_succ]
                      refine wpAnyH_done (by kernel_rfl) ?_ _
                      have HM9 := Lib.hid (Mine.rowOff hHeld)
                      clear hHeld hM8 hft
                      go_wp2
                      go_roundw
                      case rel => exact ⟨k + 1, N + 1, T2, by go_num, by omega, HN2, HF2, Lib.hid (HM9.out.fewer fun p hp => (List.not_mem_nil hp).elim)⟩
                      case measure => simp [intOf]; omega
                    · have o1' : ¬ op = 1 := o1
                      by_cases o2 : op = 2
                      · as_aux_lemma =>
                        subst o2
                        go_wp2_with (with_reducible refine wpList_load_mid rfl 35 (.tmp 62) rfl g (o + k * 6) rfl [.int .i64 2, .int .i64 nn, .int .u64 (keep : Int), .string s, .string t, .slice Aj nj cj] _ hrng Try.underlying35 rfl (by kernel_rfl) ?_)
                        obtain ⟨WF, hWF⟩ : ∃ WF, WF = wr.alloc (.cells #[.int .i64 2, .int .i64 nn, .int .u64 (keep : Int), .string s, .string t, .slice Aj nj cj] 35) := ⟨_, rfl⟩
                        have hMr : Mine w0 WF d N T.toD (RkRow r T wr.heap.size (actRow 2 nn keep s t Aj nj cj)) [(Aj, b)] := HMb.out.rowOn (by rw [hWF]; exact (Below.refl _ _).alloc (Nat.le_refl _) _) (Nat.le_refl _) (by rw [hWF]; exact heap_alloc_new wr _)
                        rw [← hWF]
                        obtain ⟨x, hx⟩ : ∃ x, x = wr.heap.size := ⟨_, rfl⟩
                        rw [← hx] at hMr ⊢
                        clear hWF hx HMb hrng hbelR
                        have hP := rkRow r T x (actRow 2 nn keep s t Aj nj cj)
                        have hc1 := mine_ren hP (hMr.drew hP) s t hsz htz (by have := hN.out; omega)
                        rw [toD_renE, toD_ren] at hc1
                        have hc2 := fun W (h : Mine w0 W d (N + 1) (T.ren s t).toD (RkRow r T x (actRow 2 nn keep s t Aj nj cj)) [(Aj, b)]) => mine_rren h HF.out hk80 s t hsz htz
                        have hF2 := hF.out.ren s t
                        generalize rrenE T.pf T.L s t = ev at hc1 hc2
                        generalize T.ren s t = T2 at hc1 hc2 hF2
                        have HF2 := Lib.hid hF2
                        have hcl := act_cells hMr.row
                        obtain ⟨e2, e1, e3, e4, e5⟩ := hcl
                        clear hF2 hF
                        refine wp_region_held_drew (S := (fun W' => W'.cell? ⟨x, 3, none⟩ = some (.string s) ∧ W'.cell? ⟨x, 4, none⟩ = some (.string t) ∧ W'.cell? ⟨x, 5, none⟩ = some (.slice Aj nj cj))) (by kernel_rfl) (⟨e3, e4, e5⟩) (fun hHeld => ?_)
                        refine wpAnyH_take (i := 0) (oi := ⟨(some 114), _, _, _, _, _⟩) (v := ?vq5_0) rfl (by kernel_rfl) (by kernel_rfl) (by kernel_rfl) (fun _ _ _ h => h) (Or.inl ⟨by rfl, ?yq5_0⟩) hHeld ?_
                        case yq5_0 => (intro W0 hSw; go_simp; try with_reducible rfl)
                        try simp only [Act.put, List.setIfInBounds_toArray, List.set_cons_zero, List.set_cons_succ]
                        refine wpAnyH_take (i := 1) (oi := ⟨(some 115), _, _, _, _, _⟩) (v := ?vq5_1) rfl (by kernel_rfl) (by kernel_rfl) (by kernel_rfl) (fun _ _ _ h => h) (Or.inl ⟨by rfl, ?yq5_1⟩) hHeld ?_
                        case yq5_1 => (intro W0 hSw; go_simp; try with_reducible rfl)
                        try simp only [Act.put, List.setIfInBounds_toArray, List.set_cons_zero, List.set_cons_succ]
                        refine wpAnyH_take (i := 2) (oi := ⟨(some 116), _, _, _, _, _⟩) (v := ?vq5_2) rfl (by kernel_rfl) (by kernel_rfl) (by kernel_rfl) (fun _ _ _ h => h) (Or.inl ⟨by rfl, ?yq5_2⟩) hHeld ?_
                        case yq5_2 => (intro W0 hSw; go_simp; try with_reducible rfl)
                        try simp only [Act.put, List.setIfInBounds_toArray, List.set_cons_zero, List.set_cons_succ]
                        refine wpAnyH_take (i := 3) (oi := ⟨(some 117), _, _, _, _, _⟩) (v := ?vq5_3) rfl (by kernel_rfl) (by kernel_rfl) (by kernel_rfl) (fun _ _ _ h => h) (Or.inl ⟨by rfl, ?yq5_3⟩) hHeld ?_
                        case yq5_3 => (intro W0 hSw; go_simp; try with_reducible rfl)
                        try simp only [Act.put, List.setIfInBounds_toArray, List.set_cons_zero, List.set_cons_succ]
                        refine wpAnyH_take (i := 4) (oi := ⟨(some 118), _, _, _, _, _⟩) (v := ?vq5_4) rfl (by kernel_rfl) (by kernel_rfl) (by kernel_rfl) (fun _ _ _ h => h) (Or.inl ⟨by rfl, ?yq5_4⟩) hHeld ?_
                        case yq5_4 => (intro W0 hSw; go_simp; try with_reducible rfl)
                        try simp only [Act.put, List.setIfInBounds_toArray, List.set_cons_zero, List.set_cons_succ]
                        refine wpAnyH_take (i := 6) (oi := ⟨(some 120), _, _, _, _, _⟩) (v := ?vq5_5) rfl (by kernel_rfl) (by kernel_rfl) (by kernel_rfl) (fun _ _ _ h => h) (Or.inl ⟨by rfl, ?yq5_5⟩) hHeld ?_
                        case yq5_5 => (intro W0 hSw; go_simp; try with_reducible rfl)
                        try simp only [Act.put, List.setIfInBounds_toArray, List.set_cons_zero, List.set_cons_succ]
                        refine wpAnyH_take (i := 7) (oi := ⟨(some 121), _, _, _, _, _⟩) (v := ?vq5_6) rfl (by kernel_rfl) (by kernel_rfl) (by kernel_rfl) (fun _ _ _ h => h) (Or.inl ⟨by rfl, ?yq5_6⟩) hHeld ?_
                        case yq5_6 => (intro W0 hSw; go_simp; try with_reducible rfl)
                        try simp only [Act.put, List.setIfInBounds_toArray, List.set_cons_zero, List.set_cons_succ]
                        refine wpAnyH_take (i := 8) (oi := ⟨(some 122), _, _, _, _, _⟩) (v := ?vq5_7) rfl (by kernel_rfl) (by kernel_rfl) (by kernel_rfl) (fun _ _ _ h => h) (Or.inl ⟨by rfl, ?yq5_7⟩) hHeld ?_
                        case yq5_7 => (intro W0 hSw; go_simp; try with_reducible rfl)
                        try simp only [Act.put, List.setIfInBounds_toArray, List.set_cons_zero, List.set_cons_succ]
                        refine wpAnyH_take (i := 9) (oi := ⟨(some 123), _, _, _, _, _⟩) (v := ?vq5_8) rfl (by kernel_rfl) (by kernel_rfl) (by kernel_rfl) (fun _ _ _ h => h) (Or.inl ⟨by rfl, ?yq5_8⟩) hHeld ?_
                        case yq5_8 => (intro W0 hSw; go_simp; try with_reducible rfl)
                        try simp only [Act.put, List.setIfInBounds_toArray, List.set_cons_zero, List.set_cons_succ]
                        refine wpAnyH_take (i := 10) (oi := ⟨(some 124), _, _, _, _, _⟩) (v := ?vq5_9) rfl (by kernel_rfl) (by kernel_rfl) (by kernel_rfl) (fun _ _ _ h => h) (Or.inl ⟨by rfl, ?yq5_9⟩) hHeld ?_
                        case yq5_9 => (intro W0 hSw; go_simp; try with_reducible rfl)
                        try simp only [Act.put, List.setIfInBounds_toArray, List.set_cons_zero, List.set_cons_succ]
                        refine wpAnyH_ready (rs := [5]) (by kernel_rfl) (by simp) ?_
                        refine AllReadyH.cons (i := 5) (o := ⟨(some 119), _, _, _, _, _⟩) rfl (fun K hK => ?_) AllReadyH.nil
                        go_simp
                        refine hc1.mono ?_
                        rintro e w5 ⟨rfl, hM5⟩
                        have hc6 := hc2 w5 hM5
                        obtain ⟨_, _, f3, f4, f5⟩ := act_cells hM5.row
                        refine hK.out _ _ (⟨f3, f4, f5⟩) (fun hHeld => ?_)
                        clear hK K
                        try simp only [Act.put, List.setIfInBounds_toArray, List.set_cons_zero, List.set_cons_succ]
                        refine wpAnyH_ready (rs := [11]) (by kernel_rfl) (by simp) ?_
                        refine AllReadyH.cons (i := 11) (o := ⟨(some 125), _, _, _, _, _⟩) rfl (fun K hK => ?_) AllReadyH.nil
                        go_simp
                        refine hc6.mono ?_
                        rintro e w6 ⟨rfl, hM6⟩
                        obtain ⟨_, _, g3, g4, g5⟩ := act_cells hM6.row
                        refine hK.out _ _ (⟨g3, g4, g5⟩) (fun hHeld => ?_)
                        clear hK K
                        try simp only [Act.put, List.setIfInBounds_toArray, List.set_cons_zero, List.set_cons_succ]
                        refine wpAnyH_take (i := 12) (oi := ⟨(some 126), _, _, _, _, _⟩) (v := ?vq5_10) rfl (by kernel_rfl) (by kernel_rfl) (by kernel_rfl) (fun _ _ _ h => h) (Or.inl ⟨by rfl, ?yq5_10⟩) hHeld ?_
                        case yq5_10 => (intro W0 hSw; go_simp; try with_reducible rfl)
                        try simp only [Act.put, List.setIfInBounds_toArray, List.set_cons_zero, List.set_cons_succ]
                        refine wpAnyH_take (i := 13) (oi := ⟨(some 10), _, _, _, _, _⟩) (v := ?vq5_11) rfl (by kernel_rfl) (by kernel_rfl) (by kernel_rfl) (fun _ _ _ h => h) (Or.inl ⟨by rfl, ?yq5_11⟩) hHeld ?_
                        case yq5_11 => (intro W0 hSw; go_simp; try with_reducible rfl)
                        try simp only [Act.put, List.setIfInBounds_toArray, List.set_cons_zero, List.set_cons_succ]
                        refine wpAnyH_done (by kernel_rfl) ?_ _
                        have HM := Lib.hid hM6
                        clear hHeld hM6 hc6 hM5 hc1 hc2 f3 f4 f5 g3 g4 g5 hMr e1 e2 e3 e4 e5 hP HF
                        have hP := rkRow r T2 x (actRow 2 nn keep s t Aj nj cj)
                        have HN2 := Lib.hid (show N + 1 ≤ k + 1 by have := hN.out; omega)
                        have hft := Lib.hid (HM.out.fits HF2.out)
                        have hc3 := mine_read hP HM.out s hsz
                        rw [toD_ask, toD_read] at hc3
                        have hc4 := fun W (ys : List (Option Addr × List UInt8)) (h : Mine w0 W d (N + 1) T2.toD (RkRow r T2 x (actRow 2 nn keep s t Aj nj cj)) ys) => mine_rread h hft.out hk81 s hsz
                        generalize raskE T2.pf T2.L s = ev2 at hc3 hc4
                        generalize rreadB T2.pf T2.L s = bs at hc3 hc4
                        obtain ⟨_, _, e3, _, _⟩ := act_cells HM.out.row
                        go_wp2_with fail
                        refine hc3.mono ?_
                        rintro e w7 ⟨Ax, nx, cx, l, rfl, hl, hln, _, hM7, _⟩
                        clear e3 hc3
                        obtain ⟨_, _, e3, _, _⟩ := act_cells hM7.row
                        have hc5 := hc4 _ _ hM7
                        clear hc4 hM7
                        go_wp2_with fail
                        refine hc5.mono ?_
                        rintro e w8 ⟨Ay, ny, cy, l2, rfl, hl2, hln2, _, hM8, _⟩
                        obtain rfl : l = l2 := by rw [hl.out, hl2.out]
                        clear e3 hc5 hl hl2 hP
                        go_upto_region 32 with fail
                        refine wp_region_held_drew (S := (fun W' => Mine w0 W' d (N + 1) T2.toD (RkRow r T2 x (actRow 2 nn keep s t Aj nj cj)) [(Ay, l), (Ax, l), (Aj, b)])) (by kernel_rfl) ((hM8.drew (rkRow r T2 x (actRow 2 nn keep s t Aj nj cj)))) (fun hHeld => ?_)
                        refine wpAnyH_take (i := 0) (oi := ⟨(some 166), _, _, _, _, _⟩) (v := ?vq6_0) rfl (by kernel_rfl) (by kernel_rfl) (by kernel_rfl) (fun _ _ _ h => h) (Or.inl ⟨by rfl, ?yq6_0⟩) hHeld ?_
                        case yq6_0 => (intro W0 hSw; go_simp; try with_reducible rfl)
                        try simp only [Act.put, List.setIfInBounds_toArray, List.set_cons_zero, List.set_cons_succ]
                        refine wpAnyH_take (i := 1) (oi := ⟨(some 167), _, _, _, _, _⟩) (v := ?vq6_1) rfl (by kernel_rfl) (by kernel_rfl) (by kernel_rfl) (fun _ _ _ h => h) (Or.inl ⟨by rfl, ?yq6_1⟩) hHeld ?_
                        case yq6_1 => (intro W0 hSw; go_simp; try with_reducible rfl)
                        try simp only [Act.put, List.setIfInBounds_toArray, List.set_cons_zero, List.set_cons_succ]
                        refine wpAnyH_take (i := 2) (oi := ⟨(some 168), _, _, _, _, _⟩) (v := ?vq6_2) rfl (by kernel_rfl) (by kernel_rfl) (by kernel_rfl) (fun _ _ _ h => h) (Or.inl ⟨by rfl, ?yq6_2⟩) hHeld ?_
                        case yq6_2 => (intro W0 hSw; go_simp; try with_reducible rfl)
                        try simp only [Act.put, List.setIfInBounds_toArray, List.set_cons_zero, List.set_cons_succ]
                        refine wpAnyH_take (i := 3) (oi := ⟨(some 169), _, _, _, _, _⟩) (v := ?vq6_3) rfl (by kernel_rfl) (by kernel_rfl) (by kernel_rfl) (fun _ _ _ h => h) (Or.inl ⟨by rfl, ?yq6_3⟩) hHeld ?_
                        case yq6_3 => (intro W0 hSw; go_simp; try with_reducible rfl)
                        try simp only [Act.put, List.setIfInBounds_toArray, List.set_cons_zero, List.set_cons_succ]
                        refine wpAnyH_take (i := 4) (oi := ⟨(some 170), _, _, _, _, _⟩) (v := ?vq6_4) rfl (by kernel_rfl) (by kernel_rfl) (by kernel_rfl) (fun _ _ _ h => h) (Or.inl ⟨by rfl, ?yq6_4⟩) hHeld ?_
                        case yq6_4 => (intro W0 hSw; have hcx := conv_bytes (P := Try.prog) Try.underlying33 Try.underlying5 Try.underlying9 (hSw.byt (p := (Ax, l)) (by simp)) nx cx hln.out; go_simp; try with_reducible rfl)
                        try simp only [Act.put, List.setIfInBounds_toArray, List.set_cons_zero, List.set_cons_succ]
                        refine wpAnyH_take (i := 5) (oi := ⟨(some 171), _, _, _, _, _⟩) (v := ?vq6_5) rfl (by kernel_rfl) (by kernel_rfl) (by kernel_rfl) (fun _ _ _ h => h) (Or.inl ⟨by rfl, ?yq6_5⟩) hHeld ?_
                        case yq6_5 => (intro W0 hSw; go_simp; try with_reducible rfl)
                        try simp only [Act.put, List.setIfInBounds_toArray, List.set_cons_zero, List.set_cons_succ]
                        refine wpAnyH_take (i := 6) (oi := ⟨(some 172), _, _, _, _, _⟩) (v := ?vq6_6) rfl (by kernel_rfl) (by kernel_rfl) (by kernel_rfl) (fun _ _ _ h => h) (Or.inl ⟨by rfl, ?yq6_6⟩) hHeld ?_
                        case yq6_6 => (intro W0 hSw; have hcx := conv_bytes (P := Try.prog) Try.underlying33 Try.underlying5 Try.underlying9 (hSw.byt (p := (Ay, l)) (by simp)) ny cy hln2.out; go_simp; try with_reducible rfl)
                        try simp only [Act.put, List.setIfInBounds_toArray, List.set_cons_zero, List.set_cons_succ]
                        refine wpAnyH_take (i := 7) (oi := ⟨(some 173), _, _, _, _, _⟩) (v := ?vq6_7) rfl (by kernel_rfl) (by kernel_rfl) (by kernel_rfl) (fun _ _ _ h => h) (Or.inl ⟨by rfl, ?yq6_7⟩) hHeld ?_
                        case yq6_7 => (intro W0 hSw; go_simp; try with_reducible rfl)
                        try simp only [Act.put, List.setIfInBounds_toArray, List.set_cons_zero, List.set_cons_succ]
                        refine wpAnyH_take (i := 8) (oi := ⟨(some 174), _, _, _, _, _⟩) (v := ?vq6_8) rfl (by kernel_rfl) (by kernel_rfl) (by kernel_rfl) (fun _ _ _ h => h) (Or.inl ⟨by rfl, ?yq6_8⟩) hHeld ?_
                        case yq6_8 => (intro W0 hSw; go_simp; try with_reducible rfl)
                        try simp only [Act.put, List.setIfInBounds_toArray, List.set_cons_zero, List.set_cons_succ]
                        refine wpAnyH_take (i := 9) (oi := ⟨(some 175), _, _, _, _, _⟩) (v := ?vq6_9) rfl (by kernel_rfl) (by kernel_rfl) (by kernel_rfl) (fun _ _ _ h => h) (Or.inl ⟨by rfl, ?yq6_9⟩) hHeld ?_
                        case yq6_9 => (intro W0 hSw; go_simp; try with_reducible rfl)
                        try simp only [Act.put, List.setIfInBounds_toArray, List.set_cons_zero, List.set_cons_succ]
                        refine wpAnyH_take (i := 10) (oi := ⟨(some 176), _, _, _, _, _⟩) (v := ?vq6_10) rfl (by kernel_rfl) (by kernel_rfl) (by kernel_rfl) (fun _ _ _ h => h) (Or.inl ⟨by rfl, ?yq6_10⟩) hHeld ?_
                        case yq6_10 => (intro W0 hSw; go_simp; try with_reducible rfl)
                        try simp only [Act.put, List.setIfInBounds_toArray, List.set_cons_zero, List.set_cons_succ]
                        refine wpAnyH_take (i := 11) (oi := ⟨(some 177), _, _, _, _, _⟩) (v := ?vq6_11) rfl (by kernel_rfl) (by kernel_rfl) (by kernel_rfl) (fun _ _ _ h => h) (Or.inl ⟨by rfl, ?yq6_11⟩) hHeld ?_
                        case yq6_11 => (intro W0 hSw; go_simp; try with_reducible rfl)
                        try simp only [Act.put, List.setIfInBounds_toArray, List.set_cons_zero, List.set_cons_succ]
                        refine wpAnyH_take (i := 12) (oi := ⟨(some 178), _, _, _, _, _⟩) (v := ?vq6_12) rfl (by kernel_rfl) (by kernel_rfl) (by kernel_rfl) (fun _ _ _ h => h) (Or.inl ⟨by rfl, ?yq6_12⟩) hHeld ?_
                        case yq6_12 => (intro W0 hSw; go_simp; try with_reducible rfl)
                        try simp only [Act.put, List.setIfInBounds_toArray, List.set_cons_zero, List.set_cons_succ]
                        refine wpAnyH_take (i := 13) (oi := ⟨(some 179), _, _, _, _, _⟩) (v := ?vq6_13) rfl (by kernel_rfl) (by kernel_rfl) (by kernel_rfl) (fun _ _ _ h => h) (Or.inl ⟨by rfl, ?yq6_13⟩) hHeld ?_
                        case yq6_13 => (intro W0 hSw; go_simp; try with_reducible rfl)
                        try simp only [Act.put, List.setIfInBounds_toArray, List.set_cons_zero, List.set_cons_succ]
                        refine wpAnyH_take (i := 14) (oi := ⟨(some 180), _, _, _, _, _⟩) (v := ?vq6_14) rfl (by kernel_rfl) (by kernel_rfl) (by kernel_rfl) (fun _ _ _ h => h) (Or.inl ⟨by rfl, ?yq6_14⟩) hHeld ?_
                        case yq6_14 => (intro W0 hSw; go_simp; try with_reducible rfl)
                        try simp only [Act.put, List.setIfInBounds_toArray, List.set_cons_zero, List.set_cons_succ]
                        refine wpAnyH_take (i := 15) (oi := ⟨(some 181), _, _, _, _, _⟩) (v := ?vq6_15) rfl (by kernel_rfl) (by kernel_rfl) (by kernel_rfl) (fun _ _ _ h => h) (Or.inl ⟨by rfl, ?yq6_15⟩) hHeld ?_
                        case yq6_15 => (intro W0 hSw; go_simp; try with_reducible rfl)
                        try simp only [Act.put, List.setIfInBounds_toArray, List.set_cons_zero, List.set_cons_succ]
                        refine wpAnyH_take (i := 17) (oi := ⟨(some 183), _, _, _, _, _⟩) (v := ?vq6_16) rfl (by kernel_rfl) (by kernel_rfl) (by kernel_rfl) (fun _ _ _ h => h) (Or.inl ⟨by rfl, ?yq6_16⟩) hHeld ?_
                        case yq6_16 => (intro W0 hSw; go_simp; try with_reducible rfl)
                        try simp only [Act.put, List.setIfInBounds_toArray, List.set_cons_zero, List.set_cons_succ]
                        refine wpAnyH_ready (rs := [16]) (by kernel_rfl) (by simp) ?_
                        refine AllReadyH.cons (i := 16) (o := ⟨(some 182), _, _, _, _, _⟩) rfl (fun K hK => ?_) AllReadyH.nil
                        go_simp
                        refine (mine_size hHeld).mono ?_
                        rintro e w9 ⟨rfl, rfl⟩
                        refine hK.out _ _ (hHeld) (fun hHeld => ?_)
                        clear hK K
                        try simp only [Act.put, List.setIfInBounds_toArray, List.set_cons_zero, List.set_cons_succ]
                        refine wpAnyH_ready (rs := [18]) (by kernel_rfl) (by simp) ?_
                        refine AllReadyH.cons (i := 18) (o := ⟨(some 184), _, _, _, _, _⟩) rfl (fun K hK => ?_) AllReadyH.nil
                        go_simp
                        refine (mine_rsize hHeld hft.out hk81).mono ?_
                        rintro e w10 ⟨rfl, hM10, _⟩
                        refine hK.out _ _ (hM10) (fun hHeld => ?_)
                        clear hK K
                        try simp only [Act.put, List.setIfInBounds_toArray, List.set_cons_zero, List.set_cons_succ]
                        refine wpAnyH_take (i := 19) (oi := ⟨(some 185), _, _, _, _, _⟩) (v := ?vq6_17) rfl (by kernel_rfl) (by kernel_rfl) (by kernel_rfl) (fun _ _ _ h => h) (Or.inl ⟨by rfl, ?yq6_17⟩) hHeld ?_
                        case yq6_17 => (intro W0 hSw; go_simp; try with_reducible rfl)
                        try simp only [Act.put, List.setIfInBounds_toArray, List.set_cons_zero, List.set_cons_succ]
                        refine wpAnyH_take (i := 20) (oi := ⟨(some 186), _, _, _, _, _⟩) (v := ?vq6_18) rfl (by kernel_rfl) (by kernel_rfl) (by kernel_rfl) (fun _ _ _ h => h) (Or.inl ⟨by rfl, ?yq6_18⟩) hHeld ?_
                        case yq6_18 => (intro W0 hSw; go_simp; try with_reducible rfl)
                        try simp only [Act.put, List.setIfInBounds_toArray, List.set_cons_zero, List.set_cons_succ]
                        refine wpAnyH_take (i := 21) (oi := ⟨(some 187), _, _, _, _, _⟩) (v := ?vq6_19) rfl (by kernel_rfl) (by kernel_rfl) (by kernel_rfl) (fun _ _ _ h => h) (Or.inl ⟨by rfl, ?yq6_19⟩) hHeld ?_
                        case yq6_19 => (intro W0 hSw; go_simp; try with_reducible rfl)
                        try simp only [Act.put, List.setIfInBounds_toArray, List.set_cons_zero, List.set_cons_succ]
                        refine wpAnyH_take (i := 22) (oi := ⟨(some 188), _, _, _, _, _⟩) (v := ?vq6_20) rfl (by kernel_rfl) (by kernel_rfl) (by kernel_rfl) (fun _ _ _ h => h) (Or.inl ⟨by rfl, ?yq6_20⟩) hHeld ?_
                        case yq6_20 => (intro W0 hSw; go_simp; try with_reducible rfl)
                        try simp only [Act.put, List.setIfInBounds_toArray, List.set_cons_zero, List.set_cons_succ]
                        refine wpAnyH_take (i := 24) (oi := ⟨(some 190), _, _, _, _, _⟩) (v := ?vq6_21) rfl (by kernel_rfl) (by kernel_rfl) (by kernel_rfl) (fun _ _ _ h => h) (Or.inl ⟨by rfl, ?yq6_21⟩) hHeld ?_
                        case yq6_21 => (intro W0 hSw; go_simp; try with_reducible rfl)
                        try simp only [Act.put, List.setIfInBounds_toArray, List.set_cons_zero, List.set_cons_succ]
                        refine wpAnyH_take (i := 25) (oi := ⟨(some 191), _, _, _, _, _⟩) (v := ?vq6_22) rfl (by kernel_rfl) (by kernel_rfl) (by kernel_rfl) (fun _ _ _ h => h) (Or.inl ⟨by rfl, ?yq6_22⟩) hHeld ?_
                        case yq6_22 => (intro W0 hSw; go_simp; try with_reducible rfl)
                        try simp only [Act.put, List.setIfInBounds_toArray, List.set_cons_zero, List.set_cons_succ]
                        refine wpAnyH_take (i := 26) (oi := ⟨(some 192), _, _, _, _, _⟩) (v := ?vq6_23) rfl (by kernel_rfl) (by kernel_rfl) (by kernel_rfl) (fun _ _ _ h => h) (Or.inl ⟨by rfl, ?yq6_23⟩) hHeld ?_
                        case yq6_23 => (intro W0 hSw; go_simp; try with_reducible rfl)
                        try simp only [Act.put, List.setIfInBounds_toArray, List.set_cons_zero, List.set_cons_succ]
                        refine wpAnyH_take (i := 27) (oi := ⟨(some 193), _, _, _, _, _⟩) (v := ?vq6_24) rfl (by kernel_rfl) (by kernel_rfl) (by kernel_rfl) (fun _ _ _ h => h) (Or.inl ⟨by rfl, ?yq6_24⟩) hHeld ?_
                        case yq6_24 => (intro W0 hSw; obtain ⟨hp1, hp2⟩ := hSw.pf; go_simp; try with_reducible rfl)
                        try simp only [Act.put, List.setIfInBounds_toArray, List.set_cons_zero, List.set_cons_succ]
                        refine wpAnyH_ready (rs := [23]) (by kernel_rfl) (by simp) ?_
                        refine AllReadyH.cons (i := 23) (o := ⟨(some 189), _, _, _, _, _⟩) rfl (fun K hK => ?_) AllReadyH.nil
                        go_simp
                        refine (mine_power2 hHeld).mono ?_
                        rintro e w11 ⟨rfl, rfl⟩
                        refine hK.out _ _ (hHeld) (fun hHeld => ?_)
                        clear hK K
                        try simp only [Act.put, List.setIfInBounds_toArray, List.set_cons_zero, List.set_cons_succ]
                        refine wpAnyH_take (i := 28) (oi := ⟨(some 194), _, _, _, _, _⟩) (v := ?vq6_25) rfl (by kernel_rfl) (by kernel_rfl) (by kernel_rfl) (fun _ _ _ h => h) (Or.inl ⟨by rfl, ?yq6_25⟩) hHeld ?_
                        case yq6_25 => (intro W0 hSw; go_simp; try with_reducible rfl)
                        try simp only [Act.put, List.setIfInBounds_toArray, List.set_cons_zero, List.set_cons_succ]
                        refine wpAnyH_take (i := 29) (oi := ⟨(some 195), _, _, _, _, _⟩) (v := ?vq6_26) rfl (by kernel_rfl) (by kernel_rfl) (by kernel_rfl) (fun _ _ _ h => h) (Or.inl ⟨by rfl, ?yq6_26⟩) hHeld ?_
                        case yq6_26 => (intro W0 hSw; go_simp; try with_reducible rfl)
                        try simp only [Act.put, List.setIfInBounds_toArray, List.set_cons_zero, List.set_cons_succ]
                        refine wpAnyH_take (i := 30) (oi := ⟨(some 196), _, _, _, _, _⟩) (v := ?vq6_27) rfl (by kernel_rfl) (by kernel_rfl) (by kernel_rfl) (fun _ _ _ h => h) (Or.inl ⟨by rfl, ?yq6_27⟩) hHeld ?_
                        case yq6_27 => (intro W0 hSw; go_simp; try with_reducible rfl)
                        try simp only [Act.put, List.setIfInBounds_toArray, List.set_cons_zero, List.set_cons_succ]
                        refine wpAnyH_take (i := 31) (oi := ⟨(some 197), _, _, _, _, _⟩) (v := ?vq6_28) rfl (by kernel_rfl) (by kernel_rfl) (by kernel_rfl) (fun _ _ _ h => h) (Or.inl ⟨by rfl, ?yq6_28⟩) hHeld ?_
                        case yq6_28 => (intro W0 hSw; go_simp; try with_reducible rfl)
                        try simp only [Act.put, List.setIfInBounds_toArray, List.set_cons_zero, List.set_cons_succ]
                        refine wpAnyH_take (i := 33) (oi := ⟨(some 199), _, _, _, _, _⟩) (v := ?vq6_29) rfl (by kernel_rfl) (by kernel_rfl) (by kernel_rfl) (fun _ _ _ h => h) (Or.inl ⟨by rfl, ?yq6_29⟩) hHeld ?_
                        case yq6_29 => (intro W0 hSw; go_simp; try with_reducible rfl)
                        try simp only [Act.put, List.setIfInBounds_toArray, List.set_cons_zero, List.set_cons_succ]
                        refine wpAnyH_take (i := 34) (oi := ⟨(some 200), _, _, _, _, _⟩) (v := ?vq6_30) rfl (by kernel_rfl) (by kernel_rfl) (by kernel_rfl) (fun _ _ _ h => h) (Or.inl ⟨by rfl, ?yq6_30⟩) hHeld ?_
                        case yq6_30 => (intro W0 hSw; go_simp; try with_reducible rfl)
                        try simp only [Act.put, List.setIfInBounds_toArray, List.set_cons_zero, List.set_cons_succ]
                        refine wpAnyH_take (i := 35) (oi := ⟨(some 201), _, _, _, _, _⟩) (v := ?vq6_31) rfl (by kernel_rfl) (by kernel_rfl) (by kernel_rfl) (fun _ _ _ h => h) (Or.inl ⟨by rfl, ?yq6_31⟩) hHeld ?_
                        case yq6_31 => (intro W0 hSw; go_simp; try with_reducible rfl)
                        try simp only [Act.put, List.setIfInBounds_toArray, List.set_cons_zero, List.set_cons_succ]
                        refine wpAnyH_take (i := 36) (oi := ⟨(some 202), _, _, _, _, _⟩) (v := ?vq6_32) rfl (by kernel_rfl) (by kernel_rfl) (by kernel_rfl) (fun _ _ _ h => h) (Or.inl ⟨by rfl, ?yq6_32⟩) hHeld ?_
                        case yq6_32 => (intro W0 hSw; obtain ⟨hp1, hp2⟩ := hSw.pf; go_simp; try with_reducible rfl)
                        try simp only [Act.put, List.setIfInBounds_toArray, List.set_cons_zero, List.set_cons_succ]
                        refine wpAnyH_ready (rs := [32]) (by kernel_rfl) (by simp) ?_
                        refine AllReadyH.cons (i := 32) (o := ⟨(some 198), _, _, _, _, _⟩) rfl (fun K hK => ?_) AllReadyH.nil
                        go_simp
                        refine (mine_lives2 hHeld).mono ?_
                        rintro e w12 ⟨rfl, rfl⟩
                        refine hK.out _ _ (hHeld) (fun hHeld => ?_)
                        clear hK K
                        try simp only [Act.put, List.setIfInBounds_toArray, List.set_cons_zero, List.set_cons_succ]
                        refine wpAnyH_take (i := 37) (oi := ⟨(some 203), _, _, _, _, _⟩) (v := ?vq6_33) rfl (by kernel_rfl) (by kernel_rfl) (by kernel_rfl) (fun _ _ _ h => h) (Or.inl ⟨by rfl, ?yq6_33⟩) hHeld ?_
                        case yq6_33 => (intro W0 hSw; go_simp; try with_reducible rfl)
                        try simp only [Act.put, List.setIfInBounds_toArray, List.set_cons_zero, List.set_cons_succ]
                        refine wpAnyH_take (i := 38) (oi := ⟨(some 204), _, _, _, _, _⟩) (v := ?vq6_34) rfl (by kernel_rfl) (by kernel_rfl) (by kernel_rfl) (fun _ _ _ h => h) (Or.inl ⟨by rfl, ?yq6_34⟩) hHeld ?_
                        case yq6_34 => (intro W0 hSw; go_simp; try with_reducible rfl)
                        try simp only [Act.put, List.setIfInBounds_toArray, List.set_cons_zero, List.set_cons_succ]
                        refine wpAnyH_done (by kernel_rfl) ?_ _
                        have HM9 := Lib.hid (Mine.rowOff hHeld)
                        clear hHeld hM8 hft
                        go_wp2
                        go_roundw
                        case rel => exact ⟨k + 1, N + 1, T2, by go_num, by omega, HN2, HF2, Lib.hid (HM9.out.fewer fun p hp => (List.not_mem_nil hp).elim)⟩
                        case measure => simp [intOf]; omega
                      · have o2' : ¬ op = 2 := o2
                        by_cases o3 : op = 3
                        · as_aux_lemma =>
                          subst o3
                          go_wp2_with (with_reducible refine wpList_load_mid rfl 35 (.tmp 62) rfl g (o + k * 6) rfl [.int .i64 3, .int .i64 nn, .int .u64 (keep : Int), .string s, .string t, .slice Aj nj cj] _ hrng Try.underlying35 rfl (by kernel_rfl) ?_)
                          obtain ⟨WF, hWF⟩ : ∃ WF, WF = wr.alloc (.cells #[.int .i64 3, .int .i64 nn, .int .u64 (keep : Int), .string s, .string t, .slice Aj nj cj] 35) := ⟨_, rfl⟩
                          have hMr : Mine w0 WF d N T.toD (RkRow r T wr.heap.size (actRow 3 nn keep s t Aj nj cj)) [(Aj, b)] := HMb.out.rowOn (by rw [hWF]; exact (Below.refl _ _).alloc (Nat.le_refl _) _) (Nat.le_refl _) (by rw [hWF]; exact heap_alloc_new wr _)
                          rw [← hWF]
                          obtain ⟨x, hx⟩ : ∃ x, x = wr.heap.size := ⟨_, rfl⟩
                          rw [← hx] at hMr ⊢
                          clear hWF hx HMb hrng hbelR
                          have hP := rkRow r T x (actRow 3 nn keep s t Aj nj cj)
                          have hc1 := mine_drop hP (hMr.drew hP) s hsz
                          rw [toD_ask, toD_drp] at hc1
                          have hc2 := fun W (h : Mine w0 W d (N + 1) (T.drp s).toD (RkRow r T x (actRow 3 nn keep s t Aj nj cj)) [(Aj, b)]) => mine_rdrop h HF.out hk80 s hsz
                          have hF2 := hF.out.drp s
                          generalize raskE T.pf T.L s = ev at hc1 hc2
                          generalize T.drp s = T2 at hc1 hc2 hF2
                          have HF2 := Lib.hid hF2
                          have hcl := act_cells hMr.row
                          obtain ⟨e2, e1, e3, e4, e5⟩ := hcl
                          clear hF2 hF
                          refine wp_region_held_drew (S := (fun W' => W'.cell? ⟨x, 3, none⟩ = some (.string s) ∧ W'.cell? ⟨x, 4, none⟩ = some (.string t) ∧ W'.cell? ⟨x, 5, none⟩ = some (.slice Aj nj cj))) (by kernel_rfl) (⟨e3, e4, e5⟩) (fun hHeld => ?_)
                          refine wpAnyH_take (i := 0) (oi := ⟨(some 129), _, _, _, _, _⟩) (v := ?vq7_0) rfl (by kernel_rfl) (by kernel_rfl) (by kernel_rfl) (fun _ _ _ h => h) (Or.inl ⟨by rfl, ?yq7_0⟩) hHeld ?_
                          case yq7_0 => (intro W0 hSw; go_simp; try with_reducible rfl)
                          try simp only [Act.put, List.setIfInBounds_toArray, List.set_cons_zero, List.set_cons_succ]
                          refine wpAnyH_take (i := 1) (oi := ⟨(some 130), _, _, _, _, _⟩) (v := ?vq7_1) rfl (by kernel_rfl) (by kernel_rfl) (by kernel_rfl) (fun _ _ _ h => h) (Or.inl ⟨by rfl, ?yq7_1⟩) hHeld ?_
                          case yq7_1 => (intro W0 hSw; go_simp; try with_reducible rfl)
                          try simp only [Act.put, List.setIfInBounds_toArray, List.set_cons_zero, List.set_cons_succ]
                          refine wpAnyH_take (i := 2) (oi := ⟨(some 131), _, _, _, _, _⟩) (v := ?vq7_2) rfl (by kernel_rfl) (by kernel_rfl) (by kernel_rfl) (fun _ _ _ h => h) (Or.inl ⟨by rfl, ?yq7_2⟩) hHeld ?_
                          case yq7_2 => (intro W0 hSw; go_simp; try with_reducible rfl)
                          try simp only [Act.put, List.setIfInBounds_toArray, List.set_cons_zero, List.set_cons_succ]
                          refine wpAnyH_take (i := 4) (oi := ⟨(some 133), _, _, _, _, _⟩) (v := ?vq7_3) rfl (by kernel_rfl) (by kernel_rfl) (by kernel_rfl) (fun _ _ _ h => h) (Or.inl ⟨by rfl, ?yq7_3⟩) hHeld ?_
                          case yq7_3 => (intro W0 hSw; go_simp; try with_reducible rfl)
                          try simp only [Act.put, List.setIfInBounds_toArray, List.set_cons_zero, List.set_cons_succ]
                          refine wpAnyH_take (i := 5) (oi := ⟨(some 134), _, _, _, _, _⟩) (v := ?vq7_4) rfl (by kernel_rfl) (by kernel_rfl) (by kernel_rfl) (fun _ _ _ h => h) (Or.inl ⟨by rfl, ?yq7_4⟩) hHeld ?_
                          case yq7_4 => (intro W0 hSw; go_simp; try with_reducible rfl)
                          try simp only [Act.put, List.setIfInBounds_toArray, List.set_cons_zero, List.set_cons_succ]
                          refine wpAnyH_take (i := 6) (oi := ⟨(some 135), _, _, _, _, _⟩) (v := ?vq7_5) rfl (by kernel_rfl) (by kernel_rfl) (by kernel_rfl) (fun _ _ _ h => h) (Or.inl ⟨by rfl, ?yq7_5⟩) hHeld ?_
                          case yq7_5 => (intro W0 hSw; go_simp; try with_reducible rfl)
                          try simp only [Act.put, List.setIfInBounds_toArray, List.set_cons_zero, List.set_cons_succ]
                          refine wpAnyH_ready (rs := [3]) (by kernel_rfl) (by simp) ?_
                          refine AllReadyH.cons (i := 3) (o := ⟨(some 132), _, _, _, _, _⟩) rfl (fun K hK => ?_) AllReadyH.nil
                          go_simp
                          refine hc1.mono ?_
                          rintro e w5 ⟨rfl, hM5⟩
                          have hc6 := hc2 w5 hM5
                          obtain ⟨_, _, f3, f4, f5⟩ := act_cells hM5.row
                          refine hK.out _ _ (⟨f3, f4, f5⟩) (fun hHeld => ?_)
                          clear hK K
                          try simp only [Act.put, List.setIfInBounds_toArray, List.set_cons_zero, List.set_cons_succ]
                          refine wpAnyH_ready (rs := [7]) (by kernel_rfl) (by simp) ?_
                          refine AllReadyH.cons (i := 7) (o := ⟨(some 136), _, _, _, _, _⟩) rfl (fun K hK => ?_) AllReadyH.nil
                          go_simp
                          refine hc6.mono ?_
                          rintro e w6 ⟨rfl, hM6⟩
                          obtain ⟨_, _, g3, g4, g5⟩ := act_cells hM6.row
                          refine hK.out _ _ (⟨g3, g4, g5⟩) (fun hHeld => ?_)
                          clear hK K
                          try simp only [Act.put, List.setIfInBounds_toArray, List.set_cons_zero, List.set_cons_succ]
                          refine wpAnyH_take (i := 8) (oi := ⟨(some 137), _, _, _, _, _⟩) (v := ?vq7_6) rfl (by kernel_rfl) (by kernel_rfl) (by kernel_rfl) (fun _ _ _ h => h) (Or.inl ⟨by rfl, ?yq7_6⟩) hHeld ?_
                          case yq7_6 => (intro W0 hSw; go_simp; try with_reducible rfl)
                          try simp only [Act.put, List.setIfInBounds_toArray, List.set_cons_zero, List.set_cons_succ]
                          refine wpAnyH_take (i := 9) (oi := ⟨(some 10), _, _, _, _, _⟩) (v := ?vq7_7) rfl (by kernel_rfl) (by kernel_rfl) (by kernel_rfl) (fun _ _ _ h => h) (Or.inl ⟨by rfl, ?yq7_7⟩) hHeld ?_
                          case yq7_7 => (intro W0 hSw; go_simp; try with_reducible rfl)
                          try simp only [Act.put, List.setIfInBounds_toArray, List.set_cons_zero, List.set_cons_succ]
                          refine wpAnyH_done (by kernel_rfl) ?_ _
                          have HM := Lib.hid hM6
                          clear hHeld hM6 hc6 hM5 hc1 hc2 f3 f4 f5 g3 g4 g5 hMr e1 e2 e3 e4 e5 hP HF
                          have hP := rkRow r T2 x (actRow 3 nn keep s t Aj nj cj)
                          have HN2 := Lib.hid (show N + 1 ≤ k + 1 by have := hN.out; omega)
                          have hft := Lib.hid (HM.out.fits HF2.out)
                          have hc3 := mine_read hP HM.out s hsz
                          rw [toD_ask, toD_read] at hc3
                          have hc4 := fun W (ys : List (Option Addr × List UInt8)) (h : Mine w0 W d (N + 1) T2.toD (RkRow r T2 x (actRow 3 nn keep s t Aj nj cj)) ys) => mine_rread h hft.out hk81 s hsz
                          generalize raskE T2.pf T2.L s = ev2 at hc3 hc4
                          generalize rreadB T2.pf T2.L s = bs at hc3 hc4
                          obtain ⟨_, _, e3, _, _⟩ := act_cells HM.out.row
                          go_wp2_with fail
                          refine hc3.mono ?_
                          rintro e w7 ⟨Ax, nx, cx, l, rfl, hl, hln, _, hM7, _⟩
                          clear e3 hc3
                          obtain ⟨_, _, e3, _, _⟩ := act_cells hM7.row
                          have hc5 := hc4 _ _ hM7
                          clear hc4 hM7
                          go_wp2_with fail
                          refine hc5.mono ?_
                          rintro e w8 ⟨Ay, ny, cy, l2, rfl, hl2, hln2, _, hM8, _⟩
                          obtain rfl : l = l2 := by rw [hl.out, hl2.out]
                          clear e3 hc5 hl hl2 hP
                          go_upto_region 32 with fail
                          refine wp_region_held_drew (S := (fun W' => Mine w0 W' d (N + 1) T2.toD (RkRow r T2 x (actRow 3 nn keep s t Aj nj cj)) [(Ay, l), (Ax, l), (Aj, b)])) (by kernel_rfl) ((hM8.drew (rkRow r T2 x (actRow 3 nn keep s t Aj nj cj)))) (fun hHeld => ?_)
                          refine wpAnyH_take (i := 0) (oi := ⟨(some 166), _, _, _, _, _⟩) (v := ?vq8_0) rfl (by kernel_rfl) (by kernel_rfl) (by kernel_rfl) (fun _ _ _ h => h) (Or.inl ⟨by rfl, ?yq8_0⟩) hHeld ?_
                          case yq8_0 => (intro W0 hSw; go_simp; try with_reducible rfl)
                          try simp only [Act.put, List.setIfInBounds_toArray, List.set_cons_zero, List.set_cons_succ]
                          refine wpAnyH_take (i := 1) (oi := ⟨(some 167), _, _, _, _, _⟩) (v := ?vq8_1) rfl (by kernel_rfl) (by kernel_rfl) (by kernel_rfl) (fun _ _ _ h => h) (Or.inl ⟨by rfl, ?yq8_1⟩) hHeld ?_
                          case yq8_1 => (intro W0 hSw; go_simp; try with_reducible rfl)
                          try simp only [Act.put, List.setIfInBounds_toArray, List.set_cons_zero, List.set_cons_succ]
                          refine wpAnyH_take (i := 2) (oi := ⟨(some 168), _, _, _, _, _⟩) (v := ?vq8_2) rfl (by kernel_rfl) (by kernel_rfl) (by kernel_rfl) (fun _ _ _ h => h) (Or.inl ⟨by rfl, ?yq8_2⟩) hHeld ?_
                          case yq8_2 => (intro W0 hSw; go_simp; try with_reducible rfl)
                          try simp only [Act.put, List.setIfInBounds_toArray, List.set_cons_zero, List.set_cons_succ]
                          refine wpAnyH_take (i := 3) (oi := ⟨(some 169), _, _, _, _, _⟩) (v := ?vq8_3) rfl (by kernel_rfl) (by kernel_rfl) (by kernel_rfl) (fun _ _ _ h => h) (Or.inl ⟨by rfl, ?yq8_3⟩) hHeld ?_
                          case yq8_3 => (intro W0 hSw; go_simp; try with_reducible rfl)
                          try simp only [Act.put, List.setIfInBounds_toArray, List.set_cons_zero, List.set_cons_succ]
                          refine wpAnyH_take (i := 4) (oi := ⟨(some 170), _, _, _, _, _⟩) (v := ?vq8_4) rfl (by kernel_rfl) (by kernel_rfl) (by kernel_rfl) (fun _ _ _ h => h) (Or.inl ⟨by rfl, ?yq8_4⟩) hHeld ?_
                          case yq8_4 => (intro W0 hSw; have hcx := conv_bytes (P := Try.prog) Try.underlying33 Try.underlying5 Try.underlying9 (hSw.byt (p := (Ax, l)) (by simp)) nx cx hln.out; go_simp; try with_reducible rfl)
                          try simp only [Act.put, List.setIfInBounds_toArray, List.set_cons_zero, List.set_cons_succ]
                          refine wpAnyH_take (i := 5) (oi := ⟨(some 171), _, _, _, _, _⟩) (v := ?vq8_5) rfl (by kernel_rfl) (by kernel_rfl) (by kernel_rfl) (fun _ _ _ h => h) (Or.inl ⟨by rfl, ?yq8_5⟩) hHeld ?_
                          case yq8_5 => (intro W0 hSw; go_simp; try with_reducible rfl)
                          try simp only [Act.put, List.setIfInBounds_toArray, List.set_cons_zero, List.set_cons_succ]
                          refine wpAnyH_take (i := 6) (oi := ⟨(some 172), _, _, _, _, _⟩) (v := ?vq8_6) rfl (by kernel_rfl) (by kernel_rfl) (by kernel_rfl) (fun _ _ _ h => h) (Or.inl ⟨by rfl, ?yq8_6⟩) hHeld ?_
                          case yq8_6 => (intro W0 hSw; have hcx := conv_bytes (P := Try.prog) Try.underlying33 Try.underlying5 Try.underlying9 (hSw.byt (p := (Ay, l)) (by simp)) ny cy hln2.out; go_simp; try with_reducible rfl)
                          try simp only [Act.put, List.setIfInBounds_toArray, List.set_cons_zero, List.set_cons_succ]
                          refine wpAnyH_take (i := 7) (oi := ⟨(some 173), _, _, _, _, _⟩) (v := ?vq8_7) rfl (by kernel_rfl) (by kernel_rfl) (by kernel_rfl) (fun _ _ _ h => h) (Or.inl ⟨by rfl, ?yq8_7⟩) hHeld ?_
                          case yq8_7 => (intro W0 hSw; go_simp; try with_reducible rfl)
                          try simp only [Act.put, List.setIfInBounds_toArray, List.set_cons_zero, List.set_cons_succ]
                          refine wpAnyH_take (i := 8) (oi := ⟨(some 174), _, _, _, _, _⟩) (v := ?vq8_8) rfl (by kernel_rfl) (by kernel_rfl) (by kernel_rfl) (fun _ _ _ h => h) (Or.inl ⟨by rfl, ?yq8_8⟩) hHeld ?_
                          case yq8_8 => (intro W0 hSw; go_simp; try with_reducible rfl)
                          try simp only [Act.put, List.setIfInBounds_toArray, List.set_cons_zero, List.set_cons_succ]
                          refine wpAnyH_take (i := 9) (oi := ⟨(some 175), _, _, _, _, _⟩) (v := ?vq8_9) rfl (by kernel_rfl) (by kernel_rfl) (by kernel_rfl) (fun _ _ _ h => h) (Or.inl ⟨by rfl, ?yq8_9⟩) hHeld ?_
                          case yq8_9 => (intro W0 hSw; go_simp; try with_reducible rfl)
                          try simp only [Act.put, List.setIfInBounds_toArray, List.set_cons_zero, List.set_cons_succ]
                          refine wpAnyH_take (i := 10) (oi := ⟨(some 176), _, _, _, _, _⟩) (v := ?vq8_10) rfl (by kernel_rfl) (by kernel_rfl) (by kernel_rfl) (fun _ _ _ h => h) (Or.inl ⟨by rfl, ?yq8_10⟩) hHeld ?_
                          case yq8_10 => (intro W0 hSw; go_simp; try with_reducible rfl)
                          try simp only [Act.put, List.setIfInBounds_toArray, List.set_cons_zero, List.set_cons_succ]
                          refine wpAnyH_take (i := 11) (oi := ⟨(some 177), _, _, _, _, _⟩) (v := ?vq8_11) rfl (by kernel_rfl) (by kernel_rfl) (by kernel_rfl) (fun _ _ _ h => h) (Or.inl ⟨by rfl, ?yq8_11⟩) hHeld ?_
                          case yq8_11 => (intro W0 hSw; go_simp; try with_reducible rfl)
                          try simp only [Act.put, List.setIfInBounds_toArray, List.set_cons_zero, List.set_cons_succ]
                          refine wpAnyH_take (i := 12) (oi := ⟨(some 178), _, _, _, _, _⟩) (v := ?vq8_12) rfl (by kernel_rfl) (by kernel_rfl) (by kernel_rfl) (fun _ _ _ h => h) (Or.inl ⟨by rfl, ?yq8_12⟩) hHeld ?_
                          case yq8_12 => (intro W0 hSw; go_simp; try with_reducible rfl)
                          try simp only [Act.put, List.setIfInBounds_toArray, List.set_cons_zero, List.set_cons_succ]
                          refine wpAnyH_take (i := 13) (oi := ⟨(some 179), _, _, _, _, _⟩) (v := ?vq8_13) rfl (by kernel_rfl) (by kernel_rfl) (by kernel_rfl) (fun _ _ _ h => h) (Or.inl ⟨by rfl, ?yq8_13⟩) hHeld ?_
                          case yq8_13 => (intro W0 hSw; go_simp; try with_reducible rfl)
                          try simp only [Act.put, List.setIfInBounds_toArray, List.set_cons_zero, List.set_cons_succ]
                          refine wpAnyH_take (i := 14) (oi := ⟨(some 180), _, _, _, _, _⟩) (v := ?vq8_14) rfl (by kernel_rfl) (by kernel_rfl) (by kernel_rfl) (fun _ _ _ h => h) (Or.inl ⟨by rfl, ?yq8_14⟩) hHeld ?_
                          case yq8_14 => (intro W0 hSw; go_simp; try with_reducible rfl)
                          try simp only [Act.put, List.setIfInBounds_toArray, List.set_cons_zero, List.set_cons_succ]
                          refine wpAnyH_take (i := 15) (oi := ⟨(some 181), _, _, _, _, _⟩) (v := ?vq8_15) rfl (by kernel_rfl) (by kernel_rfl) (by kernel_rfl) (fun _ _ _ h => h) (Or.inl ⟨by rfl, ?yq8_15⟩) hHeld ?_
                          case yq8_15 => (intro W0 hSw; go_simp; try with_reducible rfl)
                          try simp only [Act.put, List.setIfInBounds_toArray, List.set_cons_zero, List.set_cons_succ]
                          refine wpAnyH_take (i := 17) (oi := ⟨(some 183), _, _, _, _, _⟩) (v := ?vq8_16) rfl (by kernel_rfl) (by kernel_rfl) (by kernel_rfl) (fun _ _ _ h => h) (Or.inl ⟨by rfl, ?yq8_16⟩) hHeld ?_
                          case yq8_16 => (intro W0 hSw; go_simp; try with_reducible rfl)
                          try simp only [Act.put, List.setIfInBounds_toArray, List.set_cons_zero, List.set_cons_succ]
                          refine wpAnyH_ready (rs := [16]) (by kernel_rfl) (by simp) ?_
                          refine AllReadyH.cons (i := 16) (o := ⟨(some 182), _, _, _, _, _⟩) rfl (fun K hK => ?_) AllReadyH.nil
                          go_simp
                          refine (mine_size hHeld).mono ?_
                          rintro e w9 ⟨rfl, rfl⟩
                          refine hK.out _ _ (hHeld) (fun hHeld => ?_)
                          clear hK K
                          try simp only [Act.put, List.setIfInBounds_toArray, List.set_cons_zero, List.set_cons_succ]
                          refine wpAnyH_ready (rs := [18]) (by kernel_rfl) (by simp) ?_
                          refine AllReadyH.cons (i := 18) (o := ⟨(some 184), _, _, _, _, _⟩) rfl (fun K hK => ?_) AllReadyH.nil
                          go_simp
                          refine (mine_rsize hHeld hft.out hk81).mono ?_
                          rintro e w10 ⟨rfl, hM10, _⟩
                          refine hK.out _ _ (hM10) (fun hHeld => ?_)
                          clear hK K
                          try simp only [Act.put, List.setIfInBounds_toArray, List.set_cons_zero, List.set_cons_succ]
                          refine wpAnyH_take (i := 19) (oi := ⟨(some 185), _, _, _, _, _⟩) (v := ?vq8_17) rfl (by kernel_rfl) (by kernel_rfl) (by kernel_rfl) (fun _ _ _ h => h) (Or.inl ⟨by rfl, ?yq8_17⟩) hHeld ?_
                          case yq8_17 => (intro W0 hSw; go_simp; try with_reducible rfl)
                          try simp only [Act.put, List.setIfInBounds_toArray, List.set_cons_zero, List.set_cons_succ]
                          refine wpAnyH_take (i := 20) (oi := ⟨(some 186), _, _, _, _, _⟩) (v := ?vq8_18) rfl (by kernel_rfl) (by kernel_rfl) (by kernel_rfl) (fun _ _ _ h => h) (Or.inl ⟨by rfl, ?yq8_18⟩) hHeld ?_
                          case yq8_18 => (intro W0 hSw; go_simp; try with_reducible rfl)
                          try simp only [Act.put, List.setIfInBounds_toArray, List.set_cons_zero, List.set_cons_succ]
                          refine wpAnyH_take (i := 21) (oi := ⟨(some 187), _, _, _, _, _⟩) (v := ?vq8_19) rfl (by kernel_rfl) (by kernel_rfl) (by kernel_rfl) (fun _ _ _ h => h) (Or.inl ⟨by rfl, ?yq8_19⟩) hHeld ?_
                          case yq8_19 => (intro W0 hSw; go_simp; try with_reducible rfl)
                          try simp only [Act.put, List.setIfInBounds_toArray, List.set_cons_zero, List.set_cons_succ]
                          refine wpAnyH_take (i := 22) (oi := ⟨(some 188), _, _, _, _, _⟩) (v := ?vq8_20) rfl (by kernel_rfl) (by kernel_rfl) (by kernel_rfl) (fun _ _ _ h => h) (Or.inl ⟨by rfl, ?yq8_20⟩) hHeld ?_
                          case yq8_20 => (intro W0 hSw; go_simp; try with_reducible rfl)
                          try simp only [Act.put, List.setIfInBounds_toArray, List.set_cons_zero, List.set_cons_succ]
                          refine wpAnyH_take (i := 24) (oi := ⟨(some 190), _, _, _, _, _⟩) (v := ?vq8_21) rfl (by kernel_rfl) (by kernel_rfl) (by kernel_rfl) (fun _ _ _ h => h) (Or.inl ⟨by rfl, ?yq8_21⟩) hHeld ?_
                          case yq8_21 => (intro W0 hSw; go_simp; try with_reducible rfl)
                          try simp only [Act.put, List.setIfInBounds_toArray, List.set_cons_zero, List.set_cons_succ]
                          refine wpAnyH_take (i := 25) (oi := ⟨(some 191), _, _, _, _, _⟩) (v := ?vq8_22) rfl (by kernel_rfl) (by kernel_rfl) (by kernel_rfl) (fun _ _ _ h => h) (Or.inl ⟨by rfl, ?yq8_22⟩) hHeld ?_
                          case yq8_22 => (intro W0 hSw; go_simp; try with_reducible rfl)
                          try simp only [Act.put, List.setIfInBounds_toArray, List.set_cons_zero, List.set_cons_succ]
                          refine wpAnyH_take (i := 26) (oi := ⟨(some 192), _, _, _, _, _⟩) (v := ?vq8_23) rfl (by kernel_rfl) (by kernel_rfl) (by kernel_rfl) (fun _ _ _ h => h) (Or.inl ⟨by rfl, ?yq8_23⟩) hHeld ?_
                          case yq8_23 => (intro W0 hSw; go_simp; try with_reducible rfl)
                          try simp only [Act.put, List.setIfInBounds_toArray, List.set_cons_zero, List.set_cons_succ]
                          refine wpAnyH_take (i := 27) (oi := ⟨(some 193), _, _, _, _, _⟩) (v := ?vq8_24) rfl (by kernel_rfl) (by kernel_rfl) (by kernel_rfl) (fun _ _ _ h => h) (Or.inl ⟨by rfl, ?yq8_24⟩) hHeld ?_
                          case yq8_24 => (intro W0 hSw; obtain ⟨hp1, hp2⟩ := hSw.pf; go_simp; try with_reducible rfl)
                          try simp only [Act.put, List.setIfInBounds_toArray, List.set_cons_zero, List.set_cons_succ]
                          refine wpAnyH_ready (rs := [23]) (by kernel_rfl) (by simp) ?_
                          refine AllReadyH.cons (i := 23) (o := ⟨(some 189), _, _, _, _, _⟩) rfl (fun K hK => ?_) AllReadyH.nil
                          go_simp
                          refine (mine_power2 hHeld).mono ?_
                          rintro e w11 ⟨rfl, rfl⟩
                          refine hK.out _ _ (hHeld) (fun hHeld => ?_)
                          clear hK K
                          try simp only [Act.put, List.setIfInBounds_toArray, List.set_cons_zero, List.set_cons_succ]
                          refine wpAnyH_take (i := 28) (oi := ⟨(some 194), _, _, _, _, _⟩) (v := ?vq8_25) rfl (by kernel_rfl) (by kernel_rfl) (by kernel_rfl) (fun _ _ _ h => h) (Or.inl ⟨by rfl, ?yq8_25⟩) hHeld ?_
                          case yq8_25 => (intro W0 hSw; go_simp; try with_reducible rfl)
                          try simp only [Act.put, List.setIfInBounds_toArray, List.set_cons_zero, List.set_cons_succ]
                          refine wpAnyH_take (i := 29) (oi := ⟨(some 195), _, _, _, _, _⟩) (v := ?vq8_26) rfl (by kernel_rfl) (by kernel_rfl) (by kernel_rfl) (fun _ _ _ h => h) (Or.inl ⟨by rfl, ?yq8_26⟩) hHeld ?_
                          case yq8_26 => (intro W0 hSw; go_simp; try with_reducible rfl)
                          try simp only [Act.put, List.setIfInBounds_toArray, List.set_cons_zero, List.set_cons_succ]
                          refine wpAnyH_take (i := 30) (oi := ⟨(some 196), _, _, _, _, _⟩) (v := ?vq8_27) rfl (by kernel_rfl) (by kernel_rfl) (by kernel_rfl) (fun _ _ _ h => h) (Or.inl ⟨by rfl, ?yq8_27⟩) hHeld ?_
                          case yq8_27 => (intro W0 hSw; go_simp; try with_reducible rfl)
                          try simp only [Act.put, List.setIfInBounds_toArray, List.set_cons_zero, List.set_cons_succ]
                          refine wpAnyH_take (i := 31) (oi := ⟨(some 197), _, _, _, _, _⟩) (v := ?vq8_28) rfl (by kernel_rfl) (by kernel_rfl) (by kernel_rfl) (fun _ _ _ h => h) (Or.inl ⟨by rfl, ?yq8_28⟩) hHeld ?_
                          case yq8_28 => (intro W0 hSw; go_simp; try with_reducible rfl)
                          try simp only [Act.put, List.setIfInBounds_toArray, List.set_cons_zero, List.set_cons_succ]
                          refine wpAnyH_take (i := 33) (oi := ⟨(some 199), _, _, _, _, _⟩) (v := ?vq8_29) rfl (by kernel_rfl) (by kernel_rfl) (by kernel_rfl) (fun _ _ _ h => h) (Or.inl ⟨by rfl, ?yq8_29⟩) hHeld ?_
                          case yq8_29 => (intro W0 hSw; go_simp; try with_reducible rfl)
                          try simp only [Act.put, List.setIfInBounds_toArray, List.set_cons_zero, List.set_cons_succ]
                          refine wpAnyH_take (i := 34) (oi := ⟨(some 200), _, _, _, _, _⟩) (v := ?vq8_30) rfl (by kernel_rfl) (by kernel_rfl) (by kernel_rfl) (fun _ _ _ h => h) (Or.inl ⟨by rfl, ?yq8_30⟩) hHeld ?_
                          case yq8_30 => (intro W0 hSw; go_simp; try with_reducible rfl)
                          try simp only [Act.put, List.setIfInBounds_toArray, List.set_cons_zero, List.set_cons_succ]
                          refine wpAnyH_take (i := 35) (oi := ⟨(some 201), _, _, _, _, _⟩) (v := ?vq8_31) rfl (by kernel_rfl) (by kernel_rfl) (by kernel_rfl) (fun _ _ _ h => h) (Or.inl ⟨by rfl, ?yq8_31⟩) hHeld ?_
                          case yq8_31 => (intro W0 hSw; go_simp; try with_reducible rfl)
                          try simp only [Act.put, List.setIfInBounds_toArray, List.set_cons_zero, List.set_cons_succ]
                          refine wpAnyH_take (i := 36) (oi := ⟨(some 202), _, _, _, _, _⟩) (v := ?vq8_32) rfl (by kernel_rfl) (by kernel_rfl) (by kernel_rfl) (fun _ _ _ h => h) (Or.inl ⟨by rfl, ?yq8_32⟩) hHeld ?_
                          case yq8_32 => (intro W0 hSw; obtain ⟨hp1, hp2⟩ := hSw.pf; go_simp; try with_reducible rfl)
                          try simp only [Act.put, List.setIfInBounds_toArray, List.set_cons_zero, List.set_cons_succ]
                          refine wpAnyH_ready (rs := [32]) (by kernel_rfl) (by simp) ?_
                          refine AllReadyH.cons (i := 32) (o := ⟨(some 198), _, _, _, _, _⟩) rfl (fun K hK => ?_) AllReadyH.nil
                          go_simp
                          refine (mine_lives2 hHeld).mono ?_
                          rintro e w12 ⟨rfl, rfl⟩
                          refine hK.out _ _ (hHeld) (fun hHeld => ?_)
                          clear hK K
                          try simp only [Act.put, List.setIfInBounds_toArray, List.set_cons_zero, List.set_cons_succ]
                          refine wpAnyH_take (i := 37) (oi := ⟨(some 203), _, _, _, _, _⟩) (v := ?vq8_33) rfl (by kernel_rfl) (by kernel_rfl) (by kernel_rfl) (fun _ _ _ h => h) (Or.inl ⟨by rfl, ?yq8_33⟩) hHeld ?_
                          case yq8_33 => (intro W0 hSw; go_simp; try with_reducible rfl)
                          try simp only [Act.put, List.setIfInBounds_toArray, List.set_cons_zero, List.set_cons_succ]
                          refine wpAnyH_take (i := 38) (oi := ⟨(some 204), _, _, _, _, _⟩) (v := ?vq8_34) rfl (by kernel_rfl) (by kernel_rfl) (by kernel_rfl) (fun _ _ _ h => h) (Or.inl ⟨by rfl, ?yq8_34⟩) hHeld ?_
                          case yq8_34 => (intro W0 hSw; go_simp; try with_reducible rfl)
                          try simp only [Act.put, List.setIfInBounds_toArray, List.set_cons_zero, List.set_cons_succ]
                          refine wpAnyH_done (by kernel_rfl) ?_ _
                          have HM9 := Lib.hid (Mine.rowOff hHeld)
                          clear hHeld hM8 hft
                          go_wp2
                          go_roundw
                          case rel => exact ⟨k + 1, N + 1, T2, by go_num, by omega, HN2, HF2, Lib.hid (HM9.out.fewer fun p hp => (List.not_mem_nil hp).elim)⟩
                          case measure => simp [intOf]; omega
                        · have o3' : ¬ op = 3 := o3
                          by_cases o4 : op = 4
                          · as_aux_lemma =>
                            subst o4
                            go_wp2_with (with_reducible refine wpList_load_mid rfl 35 (.tmp 62) rfl g (o + k * 6) rfl [.int .i64 4, .int .i64 nn, .int .u64 (keep : Int), .string s, .string t, .slice Aj nj cj] _ hrng Try.underlying35 rfl (by kernel_rfl) ?_)
                            obtain ⟨WF, hWF⟩ : ∃ WF, WF = wr.alloc (.cells #[.int .i64 4, .int .i64 nn, .int .u64 (keep : Int), .string s, .string t, .slice Aj nj cj] 35) := ⟨_, rfl⟩
                            have hMr : Mine w0 WF d N T.toD (RkRow r T wr.heap.size (actRow 4 nn keep s t Aj nj cj)) [(Aj, b)] := HMb.out.rowOn (by rw [hWF]; exact (Below.refl _ _).alloc (Nat.le_refl _) _) (Nat.le_refl _) (by rw [hWF]; exact heap_alloc_new wr _)
                            rw [← hWF]
                            obtain ⟨x, hx⟩ : ∃ x, x = wr.heap.size := ⟨_, rfl⟩
                            rw [← hx] at hMr ⊢
                            clear hWF hx HMb hrng hbelR
                            have hP := rkRow r T x (actRow 4 nn keep s t Aj nj cj)
                            have hc1 := mine_crash hP hMr keep nn.toNat nn hk2 rfl hnn.2 hnn.1
                            rw [show T.toD.crs keep nn.toNat = (T.crs keep nn.toNat).toD from toD_crs T _ _] at hc1
                            have hc2 := fun W (h : Mine w0 W d (N + 1) (T.crs keep nn.toNat).toD (RkRow r T x (actRow 4 nn keep s t Aj nj cj)) [(Aj, b)]) => mine_rcrash h HF.out hk80 keep nn.toNat nn hk2 rfl hnn.2 hnn.1
                            have hF2 := (show (T.crs keep nn.toNat).Few (k + 1) from hF.out.fall _ _)
                            generalize T.crs keep nn.toNat = T2 at hc1 hc2 hF2
                            have HF2 := Lib.hid hF2
                            have hcl := act_cells hMr.row
                            obtain ⟨e2, e1, e3, e4, e5⟩ := hcl
                            clear hF2 hF
                            refine hc1.mono ?_
                            rintro e w5 ⟨rfl, hM5⟩
                            have hc6 := hc2 w5 hM5
                            clear e1 e2 e3 e4 e5
                            obtain ⟨e2, e1, e3, e4, e5⟩ := act_cells hM5.row
                            clear hc1 hc2 hM5
                            go_wp2_with fail
                            refine hc6.mono ?_
                            rintro e w6 ⟨rfl, hM6⟩
                            have HM := Lib.hid hM6
                            clear hM6 hc6 hMr e1 e2 e3 e4 e5 hP HF
                            have hP := rkRow r T2 x (actRow 4 nn keep s t Aj nj cj)
                            have HN2 := Lib.hid (show N + 1 ≤ k + 1 by have := hN.out; omega)
                            have hft := Lib.hid (HM.out.fits HF2.out)
                            have hc3 := mine_read hP HM.out s hsz
                            rw [toD_ask, toD_read] at hc3
                            have hc4 := fun W (ys : List (Option Addr × List UInt8)) (h : Mine w0 W d (N + 1) T2.toD (RkRow r T2 x (actRow 4 nn keep s t Aj nj cj)) ys) => mine_rread h hft.out hk81 s hsz
                            generalize raskE T2.pf T2.L s = ev2 at hc3 hc4
                            generalize rreadB T2.pf T2.L s = bs at hc3 hc4
                            obtain ⟨_, _, e3, _, _⟩ := act_cells HM.out.row
                            go_wp2_with fail
                            refine hc3.mono ?_
                            rintro e w7 ⟨Ax, nx, cx, l, rfl, hl, hln, _, hM7, _⟩
                            clear e3 hc3
                            obtain ⟨_, _, e3, _, _⟩ := act_cells hM7.row
                            have hc5 := hc4 _ _ hM7
                            clear hc4 hM7
                            go_wp2_with fail
                            refine hc5.mono ?_
                            rintro e w8 ⟨Ay, ny, cy, l2, rfl, hl2, hln2, _, hM8, _⟩
                            obtain rfl : l = l2 := by rw [hl.out, hl2.out]
                            clear e3 hc5 hl hl2 hP
                            go_upto_region 32 with fail
                            refine wp_region_held_drew (S := (fun W' => Mine w0 W' d (N + 1) T2.toD (RkRow r T2 x (actRow 4 nn keep s t Aj nj cj)) [(Ay, l), (Ax, l), (Aj, b)])) (by kernel_rfl) ((hM8.drew (rkRow r T2 x (actRow 4 nn keep s t Aj nj cj)))) (fun hHeld => ?_)
                            refine wpAnyH_take (i := 0) (oi := ⟨(some 166), _, _, _, _, _⟩) (v := ?vq9_0) rfl (by kernel_rfl) (by kernel_rfl) (by kernel_rfl) (fun _ _ _ h => h) (Or.inl ⟨by rfl, ?yq9_0⟩) hHeld ?_
                            case yq9_0 => (intro W0 hSw; go_simp; try with_reducible rfl)
                            try simp only [Act.put, List.setIfInBounds_toArray, List.set_cons_zero, List.set_cons_succ]
                            refine wpAnyH_take (i := 1) (oi := ⟨(some 167), _, _, _, _, _⟩) (v := ?vq9_1) rfl (by kernel_rfl) (by kernel_rfl) (by kernel_rfl) (fun _ _ _ h => h) (Or.inl ⟨by rfl, ?yq9_1⟩) hHeld ?_
                            case yq9_1 => (intro W0 hSw; go_simp; try with_reducible rfl)
                            try simp only [Act.put, List.setIfInBounds_toArray, List.set_cons_zero, List.set_cons_succ]
                            refine wpAnyH_take (i := 2) (oi := ⟨(some 168), _, _, _, _, _⟩) (v := ?vq9_2) rfl (by kernel_rfl) (by kernel_rfl) (by kernel_rfl) (fun _ _ _ h => h) (Or.inl ⟨by rfl, ?yq9_2⟩) hHeld ?_
                            case yq9_2 => (intro W0 hSw; go_simp; try with_reducible rfl)
                            try simp only [Act.put, List.setIfInBounds_toArray, List.set_cons_zero, List.set_cons_succ]
                            refine wpAnyH_take (i := 3) (oi := ⟨(some 169), _, _, _, _, _⟩) (v := ?vq9_3) rfl (by kernel_rfl) (by kernel_rfl) (by kernel_rfl) (fun _ _ _ h => h) (Or.inl ⟨by rfl, ?yq9_3⟩) hHeld ?_
                            case yq9_3 => (intro W0 hSw; go_simp; try with_reducible rfl)
                            try simp only [Act.put, List.setIfInBounds_toArray, List.set_cons_zero, List.set_cons_succ]
                            refine wpAnyH_take (i := 4) (oi := ⟨(some 170), _, _, _, _, _⟩) (v := ?vq9_4) rfl (by kernel_rfl) (by kernel_rfl) (by kernel_rfl) (fun _ _ _ h => h) (Or.inl ⟨by rfl, ?yq9_4⟩) hHeld ?_
                            case yq9_4 => (intro W0 hSw; have hcx := conv_bytes (P := Try.prog) Try.underlying33 Try.underlying5 Try.underlying9 (hSw.byt (p := (Ax, l)) (by simp)) nx cx hln.out; go_simp; try with_reducible rfl)
                            try simp only [Act.put, List.setIfInBounds_toArray, List.set_cons_zero, List.set_cons_succ]
                            refine wpAnyH_take (i := 5) (oi := ⟨(some 171), _, _, _, _, _⟩) (v := ?vq9_5) rfl (by kernel_rfl) (by kernel_rfl) (by kernel_rfl) (fun _ _ _ h => h) (Or.inl ⟨by rfl, ?yq9_5⟩) hHeld ?_
                            case yq9_5 => (intro W0 hSw; go_simp; try with_reducible rfl)
                            try simp only [Act.put, List.setIfInBounds_toArray, List.set_cons_zero, List.set_cons_succ]
                            refine wpAnyH_take (i := 6) (oi := ⟨(some 172), _, _, _, _, _⟩) (v := ?vq9_6) rfl (by kernel_rfl) (by kernel_rfl) (by kernel_rfl) (fun _ _ _ h => h) (Or.inl ⟨by rfl, ?yq9_6⟩) hHeld ?_
                            case yq9_6 => (intro W0 hSw; have hcx := conv_bytes (P := Try.prog) Try.underlying33 Try.underlying5 Try.underlying9 (hSw.byt (p := (Ay, l)) (by simp)) ny cy hln2.out; go_simp; try with_reducible rfl)
                            try simp only [Act.put, List.setIfInBounds_toArray, List.set_cons_zero, List.set_cons_succ]
                            refine wpAnyH_take (i := 7) (oi := ⟨(some 173), _, _, _, _, _⟩) (v := ?vq9_7) rfl (by kernel_rfl) (by kernel_rfl) (by kernel_rfl) (fun _ _ _ h => h) (Or.inl ⟨by rfl, ?yq9_7⟩) hHeld ?_
                            case yq9_7 => (intro W0 hSw; go_simp; try with_reducible rfl)
                            try simp only [Act.put, List.setIfInBounds_toArray, List.set_cons_zero, List.set_cons_succ]
                            refine wpAnyH_take (i := 8) (oi := ⟨(some 174), _, _, _, _, _⟩) (v := ?vq9_8) rfl (by kernel_rfl) (by kernel_rfl) (by kernel_rfl) (fun _ _ _ h => h) (Or.inl ⟨by rfl, ?yq9_8⟩) hHeld ?_
                            case yq9_8 => (intro W0 hSw; go_simp; try with_reducible rfl)
                            try simp only [Act.put, List.setIfInBounds_toArray, List.set_cons_zero, List.set_cons_succ]
                            refine wpAnyH_take (i := 9) (oi := ⟨(some 175), _, _, _, _, _⟩) (v := ?vq9_9) rfl (by kernel_rfl) (by kernel_rfl) (by kernel_rfl) (fun _ _ _ h => h) (Or.inl ⟨by rfl, ?yq9_9⟩) hHeld ?_
                            case yq9_9 => (intro W0 hSw; go_simp; try with_reducible rfl)
                            try simp only [Act.put, List.setIfInBounds_toArray, List.set_cons_zero, List.set_cons_succ]
                            refine wpAnyH_take (i := 10) (oi := ⟨(some 176), _, _, _, _, _⟩) (v := ?vq9_10) rfl (by kernel_rfl) (by kernel_rfl) (by kernel_rfl) (fun _ _ _ h => h) (Or.inl ⟨by rfl, ?yq9_10⟩) hHeld ?_
                            case yq9_10 => (intro W0 hSw; go_simp; try with_reducible rfl)
                            try simp only [Act.put, List.setIfInBounds_toArray, List.set_cons_zero, List.set_cons_succ]
                            refine wpAnyH_take (i := 11) (oi := ⟨(some 177), _, _, _, _, _⟩) (v := ?vq9_11) rfl (by kernel_rfl) (by kernel_rfl) (by kernel_rfl) (fun _ _ _ h => h) (Or.inl ⟨by rfl, ?yq9_11⟩) hHeld ?_
                            case yq9_11 => (intro W0 hSw; go_simp; try with_reducible rfl)
                            try simp only [Act.put, List.setIfInBounds_toArray, List.set_cons_zero, List.set_cons_succ]
                            refine wpAnyH_take (i := 12) (oi := ⟨(some 178), _, _, _, _, _⟩) (v := ?vq9_12) rfl (by kernel_rfl) (by kernel_rfl) (by kernel_rfl) (fun _ _ _ h => h) (Or.inl ⟨by rfl, ?yq9_12⟩) hHeld ?_
                            case yq9_12 => (intro W0 hSw; go_simp; try with_reducible rfl)
                            try simp only [Act.put, List.setIfInBounds_toArray, List.set_cons_zero, List.set_cons_succ]
                            refine wpAnyH_take (i := 13) (oi := ⟨(some 179), _, _, _, _, _⟩) (v := ?vq9_13) rfl (by kernel_rfl) (by kernel_rfl) (by kernel_rfl) (fun _ _ _ h => h) (Or.inl ⟨by rfl, ?yq9_13⟩) hHeld ?_
                            case yq9_13 => (intro W0 hSw; go_simp; try with_reducible rfl)
                            try simp only [Act.put, List.setIfInBounds_toArray, List.set_cons_zero, List.set_cons_succ]
                            refine wpAnyH_take (i := 14) (oi := ⟨(some 180), _, _, _, _, _⟩) (v := ?vq9_14) rfl (by kernel_rfl) (by kernel_rfl) (by kernel_rfl) (fun _ _ _ h => h) (Or.inl ⟨by rfl, ?yq9_14⟩) hHeld ?_
                            case yq9_14 => (intro W0 hSw; go_simp; try with_reducible rfl)
                            try simp only [Act.put, List.setIfInBounds_toArray, List.set_cons_zero, List.set_cons_succ]
                            refine wpAnyH_take (i := 15) (oi := ⟨(some 181), _, _, _, _, _⟩) (v := ?vq9_15) rfl (by kernel_rfl) (by kernel_rfl) (by kernel_rfl) (fun _ _ _ h => h) (Or.inl ⟨by rfl, ?yq9_15⟩) hHeld ?_
                            case yq9_15 => (intro W0 hSw; go_simp; try with_reducible rfl)
                            try simp only [Act.put, List.setIfInBounds_toArray, List.set_cons_zero, List.set_cons_succ]
                            refine wpAnyH_take (i := 17) (oi := ⟨(some 183), _, _, _, _, _⟩) (v := ?vq9_16) rfl (by kernel_rfl) (by kernel_rfl) (by kernel_rfl) (fun _ _ _ h => h) (Or.inl ⟨by rfl, ?yq9_16⟩) hHeld ?_
                            case yq9_16 => (intro W0 hSw; go_simp; try with_reducible rfl)
                            try simp only [Act.put, List.setIfInBounds_toArray, List.set_cons_zero, List.set_cons_succ]
                            refine wpAnyH_ready (rs := [16]) (by kernel_rfl) (by simp) ?_
                            refine AllReadyH.cons (i := 16) (o := ⟨(some 182), _, _, _, _, _⟩) rfl (fun K hK => ?_) AllReadyH.nil
                            go_simp
                            refine (mine_size hHeld).mono ?_
                            rintro e w9 ⟨rfl, rfl⟩
                            refine hK.out _ _ (hHeld) (fun hHeld => ?_)
                            clear hK K
                            try simp only [Act.put, List.setIfInBounds_toArray, List.set_cons_zero, List.set_cons_succ]
                            refine wpAnyH_ready (rs := [18]) (by kernel_rfl) (by simp) ?_
                            refine AllReadyH.cons (i := 18) (o := ⟨(some 184), _, _, _, _, _⟩) rfl (fun K hK => ?_) AllReadyH.nil
                            go_simp
                            refine (mine_rsize hHeld hft.out hk81).mono ?_
                            rintro e w10 ⟨rfl, hM10, _⟩
                            refine hK.out _ _ (hM10) (fun hHeld => ?_)
                            clear hK K
                            try simp only [Act.put, List.setIfInBounds_toArray, List.set_cons_zero, List.set_cons_succ]
                            refine wpAnyH_take (i := 19) (oi := ⟨(some 185), _, _, _, _, _⟩) (v := ?vq9_17) rfl (by kernel_rfl) (by kernel_rfl) (by kernel_rfl) (fun _ _ _ h => h) (Or.inl ⟨by rfl, ?yq9_17⟩) hHeld ?_
                            case yq9_17 => (intro W0 hSw; go_simp; try with_reducible rfl)
                            try simp only [Act.put, List.setIfInBounds_toArray, List.set_cons_zero, List.set_cons_succ]
                            refine wpAnyH_take (i := 20) (oi := ⟨(some 186), _, _, _, _, _⟩) (v := ?vq9_18) rfl (by kernel_rfl) (by kernel_rfl) (by kernel_rfl) (fun _ _ _ h => h) (Or.inl ⟨by rfl, ?yq9_18⟩) hHeld ?_
                            case yq9_18 => (intro W0 hSw; go_simp; try with_reducible rfl)
                            try simp only [Act.put, List.setIfInBounds_toArray, List.set_cons_zero, List.set_cons_succ]
                            refine wpAnyH_take (i := 21) (oi := ⟨(some 187), _, _, _, _, _⟩) (v := ?vq9_19) rfl (by kernel_rfl) (by kernel_rfl) (by kernel_rfl) (fun _ _ _ h => h) (Or.inl ⟨by rfl, ?yq9_19⟩) hHeld ?_
                            case yq9_19 => (intro W0 hSw; go_simp; try with_reducible rfl)
                            try simp only [Act.put, List.setIfInBounds_toArray, List.set_cons_zero, List.set_cons_succ]
                            refine wpAnyH_take (i := 22) (oi := ⟨(some 188), _, _, _, _, _⟩) (v := ?vq9_20) rfl (by kernel_rfl) (by kernel_rfl) (by kernel_rfl) (fun _ _ _ h => h) (Or.inl ⟨by rfl, ?yq9_20⟩) hHeld ?_
                            case yq9_20 => (intro W0 hSw; go_simp; try with_reducible rfl)
                            try simp only [Act.put, List.setIfInBounds_toArray, List.set_cons_zero, List.set_cons_succ]
                            refine wpAnyH_take (i := 24) (oi := ⟨(some 190), _, _, _, _, _⟩) (v := ?vq9_21) rfl (by kernel_rfl) (by kernel_rfl) (by kernel_rfl) (fun _ _ _ h => h) (Or.inl ⟨by rfl, ?yq9_21⟩) hHeld ?_
                            case yq9_21 => (intro W0 hSw; go_simp; try with_reducible rfl)
                            try simp only [Act.put, List.setIfInBounds_toArray, List.set_cons_zero, List.set_cons_succ]
                            refine wpAnyH_take (i := 25) (oi := ⟨(some 191), _, _, _, _, _⟩) (v := ?vq9_22) rfl (by kernel_rfl) (by kernel_rfl) (by kernel_rfl) (fun _ _ _ h => h) (Or.inl ⟨by rfl, ?yq9_22⟩) hHeld ?_
                            case yq9_22 => (intro W0 hSw; go_simp; try with_reducible rfl)
                            try simp only [Act.put, List.setIfInBounds_toArray, List.set_cons_zero, List.set_cons_succ]
                            refine wpAnyH_take (i := 26) (oi := ⟨(some 192), _, _, _, _, _⟩) (v := ?vq9_23) rfl (by kernel_rfl) (by kernel_rfl) (by kernel_rfl) (fun _ _ _ h => h) (Or.inl ⟨by rfl, ?yq9_23⟩) hHeld ?_
                            case yq9_23 => (intro W0 hSw; go_simp; try with_reducible rfl)
                            try simp only [Act.put, List.setIfInBounds_toArray, List.set_cons_zero, List.set_cons_succ]
                            refine wpAnyH_take (i := 27) (oi := ⟨(some 193), _, _, _, _, _⟩) (v := ?vq9_24) rfl (by kernel_rfl) (by kernel_rfl) (by kernel_rfl) (fun _ _ _ h => h) (Or.inl ⟨by rfl, ?yq9_24⟩) hHeld ?_
                            case yq9_24 => (intro W0 hSw; obtain ⟨hp1, hp2⟩ := hSw.pf; go_simp; try with_reducible rfl)
                            try simp only [Act.put, List.setIfInBounds_toArray, List.set_cons_zero, List.set_cons_succ]
                            refine wpAnyH_ready (rs := [23]) (by kernel_rfl) (by simp) ?_
                            refine AllReadyH.cons (i := 23) (o := ⟨(some 189), _, _, _, _, _⟩) rfl (fun K hK => ?_) AllReadyH.nil
                            go_simp
                            refine (mine_power2 hHeld).mono ?_
                            rintro e w11 ⟨rfl, rfl⟩
                            refine hK.out _ _ (hHeld) (fun hHeld => ?_)
                            clear hK K
                            try simp only [Act.put, List.setIfInBounds_toArray, List.set_cons_zero, List.set_cons_succ]
                            refine wpAnyH_take (i := 28) (oi := ⟨(some 194), _, _, _, _, _⟩) (v := ?vq9_25) rfl (by kernel_rfl) (by kernel_rfl) (by kernel_rfl) (fun _ _ _ h => h) (Or.inl ⟨by rfl, ?yq9_25⟩) hHeld ?_
                            case yq9_25 => (intro W0 hSw; go_simp; try with_reducible rfl)
                            try simp only [Act.put, List.setIfInBounds_toArray, List.set_cons_zero, List.set_cons_succ]
                            refine wpAnyH_take (i := 29) (oi := ⟨(some 195), _, _, _, _, _⟩) (v := ?vq9_26) rfl (by kernel_rfl) (by kernel_rfl) (by kernel_rfl) (fun _ _ _ h => h) (Or.inl ⟨by rfl, ?yq9_26⟩) hHeld ?_
                            case yq9_26 => (intro W0 hSw; go_simp; try with_reducible rfl)
                            try simp only [Act.put, List.setIfInBounds_toArray, List.set_cons_zero, List.set_cons_succ]
                            refine wpAnyH_take (i := 30) (oi := ⟨(some 196), _, _, _, _, _⟩) (v := ?vq9_27) rfl (by kernel_rfl) (by kernel_rfl) (by kernel_rfl) (fun _ _ _ h => h) (Or.inl ⟨by rfl, ?yq9_27⟩) hHeld ?_
                            case yq9_27 => (intro W0 hSw; go_simp; try with_reducible rfl)
                            try simp only [Act.put, List.setIfInBounds_toArray, List.set_cons_zero, List.set_cons_succ]
                            refine wpAnyH_take (i := 31) (oi := ⟨(some 197), _, _, _, _, _⟩) (v := ?vq9_28) rfl (by kernel_rfl) (by kernel_rfl) (by kernel_rfl) (fun _ _ _ h => h) (Or.inl ⟨by rfl, ?yq9_28⟩) hHeld ?_
                            case yq9_28 => (intro W0 hSw; go_simp; try with_reducible rfl)
                            try simp only [Act.put, List.setIfInBounds_toArray, List.set_cons_zero, List.set_cons_succ]
                            refine wpAnyH_take (i := 33) (oi := ⟨(some 199), _, _, _, _, _⟩) (v := ?vq9_29) rfl (by kernel_rfl) (by kernel_rfl) (by kernel_rfl) (fun _ _ _ h => h) (Or.inl ⟨by rfl, ?yq9_29⟩) hHeld ?_
                            case yq9_29 => (intro W0 hSw; go_simp; try with_reducible rfl)
                            try simp only [Act.put, List.setIfInBounds_toArray, List.set_cons_zero, List.set_cons_succ]
                            refine wpAnyH_take (i := 34) (oi := ⟨(some 200), _, _, _, _, _⟩) (v := ?vq9_30) rfl (by kernel_rfl) (by kernel_rfl) (by kernel_rfl) (fun _ _ _ h => h) (Or.inl ⟨by rfl, ?yq9_30⟩) hHeld ?_
                            case yq9_30 => (intro W0 hSw; go_simp; try with_reducible rfl)
                            try simp only [Act.put, List.setIfInBounds_toArray, List.set_cons_zero, List.set_cons_succ]
                            refine wpAnyH_take (i := 35) (oi := ⟨(some 201), _, _, _, _, _⟩) (v := ?vq9_31) rfl (by kernel_rfl) (by kernel_rfl) (by kernel_rfl) (fun _ _ _ h => h) (Or.inl ⟨by rfl, ?yq9_31⟩) hHeld ?_
                            case yq9_31 => (intro W0 hSw; go_simp; try with_reducible rfl)
                            try simp only [Act.put, List.setIfInBounds_toArray, List.set_cons_zero, List.set_cons_succ]
                            refine wpAnyH_take (i := 36) (oi := ⟨(some 202), _, _, _, _, _⟩) (v := ?vq9_32) rfl (by kernel_rfl) (by kernel_rfl) (by kernel_rfl) (fun _ _ _ h => h) (Or.inl ⟨by rfl, ?yq9_32⟩) hHeld ?_
                            case yq9_32 => (intro W0 hSw; obtain ⟨hp1, hp2⟩ := hSw.pf; go_simp; try with_reducible rfl)
                            try simp only [Act.put, List.setIfInBounds_toArray, List.set_cons_zero, List.set_cons_succ]
                            refine wpAnyH_ready (rs := [32]) (by kernel_rfl) (by simp) ?_
                            refine AllReadyH.cons (i := 32) (o := ⟨(some 198), _, _, _, _, _⟩) rfl (fun K hK => ?_) AllReadyH.nil
                            go_simp
                            refine (mine_lives2 hHeld).mono ?_
                            rintro e w12 ⟨rfl, rfl⟩
                            refine hK.out _ _ (hHeld) (fun hHeld => ?_)
                            clear hK K
                            try simp only [Act.put, List.setIfInBounds_toArray, List.set_cons_zero, List.set_cons_succ]
                            refine wpAnyH_take (i := 37) (oi := ⟨(some 203), _, _, _, _, _⟩) (v := ?vq9_33) rfl (by kernel_rfl) (by kernel_rfl) (by kernel_rfl) (fun _ _ _ h => h) (Or.inl ⟨by rfl, ?yq9_33⟩) hHeld ?_
                            case yq9_33 => (intro W0 hSw; go_simp; try with_reducible rfl)
                            try simp only [Act.put, List.setIfInBounds_toArray, List.set_cons_zero, List.set_cons_succ]
                            refine wpAnyH_take (i := 38) (oi := ⟨(some 204), _, _, _, _, _⟩) (v := ?vq9_34) rfl (by kernel_rfl) (by kernel_rfl) (by kernel_rfl) (fun _ _ _ h => h) (Or.inl ⟨by rfl, ?yq9_34⟩) hHeld ?_
                            case yq9_34 => (intro W0 hSw; go_simp; try with_reducible rfl)
                            try simp only [Act.put, List.setIfInBounds_toArray, List.set_cons_zero, List.set_cons_succ]
                            refine wpAnyH_done (by kernel_rfl) ?_ _
                            have HM9 := Lib.hid (Mine.rowOff hHeld)
                            clear hHeld hM8 hft
                            go_wp2
                            go_roundw
                            case rel => exact ⟨k + 1, N + 1, T2, by go_num, by omega, HN2, HF2, Lib.hid (HM9.out.fewer fun p hp => (List.not_mem_nil hp).elim)⟩
                            case measure => simp [intOf]; omega
                          · as_aux_lemma =>
                            have o4' : ¬ op = 4 := o4
                            go_wp2_with (with_reducible refine wpList_load_mid rfl 35 (.tmp 62) rfl g (o + k * 6) rfl [.int .i64 op, .int .i64 nn, .int .u64 (keep : Int), .string s, .string t, .slice Aj nj cj] _ hrng Try.underlying35 rfl (by kernel_rfl) ?_)
                            obtain ⟨WF, hWF⟩ : ∃ WF, WF = wr.alloc (.cells #[.int .i64 op, .int .i64 nn, .int .u64 (keep : Int), .string s, .string t, .slice Aj nj cj] 35) := ⟨_, rfl⟩
                            have hMr : Mine w0 WF d N T.toD (RkRow r T wr.heap.size (actRow op nn keep s t Aj nj cj)) [(Aj, b)] := HMb.out.rowOn (by rw [hWF]; exact (Below.refl _ _).alloc (Nat.le_refl _) _) (Nat.le_refl _) (by rw [hWF]; exact heap_alloc_new wr _)
                            rw [← hWF]
                            obtain ⟨x, hx⟩ : ∃ x, x = wr.heap.size := ⟨_, rfl⟩
                            rw [← hx] at hMr ⊢
                            clear hWF hx HMb hrng hbelR
                            have hP := rkRow r T x (actRow op nn keep s t Aj nj cj)
                            have hc1 := mine_on hP hMr (show T.lives ≤ _ by have := hF.out.lives; omega)
                            rw [toD_awake] at hc1
                            have hc2 := fun W (h : Mine w0 W d (N + 1) (T.awake).toD (RkRow r T x (actRow op nn keep s t Aj nj cj)) [(Aj, b)]) => mine_ron h HF.out hk80
                            have hF2 := hF.out.awake
                            generalize T.awake = T2 at hc1 hc2 hF2
                            have HF2 := Lib.hid hF2
                            have hcl := act_cells hMr.row
                            obtain ⟨e2, e1, e3, e4, e5⟩ := hcl
                            clear hF2 hF
                            refine hc1.mono ?_
                            rintro e w5 ⟨rfl, hM5⟩
                            have hc6 := hc2 w5 hM5
                            clear e1 e2 e3 e4 e5
                            obtain ⟨e2, e1, e3, e4, e5⟩ := act_cells hM5.row
                            clear hc1 hc2 hM5
                            go_wp2_with fail
                            refine hc6.mono ?_
                            rintro e w6 ⟨rfl, hM6⟩
                            have HM := Lib.hid hM6
                            clear hM6 hc6 hMr e1 e2 e3 e4 e5 hP HF
                            have hP := rkRow r T2 x (actRow op nn keep s t Aj nj cj)
                            have HN2 := Lib.hid (show N + 1 ≤ k + 1 by have := hN.out; omega)
                            have hft := Lib.hid (HM.out.fits HF2.out)
                            have hc3 := mine_read hP HM.out s hsz
                            rw [toD_ask, toD_read] at hc3
                            have hc4 := fun W (ys : List (Option Addr × List UInt8)) (h : Mine w0 W d (N + 1) T2.toD (RkRow r T2 x (actRow op nn keep s t Aj nj cj)) ys) => mine_rread h hft.out hk81 s hsz
                            generalize raskE T2.pf T2.L s = ev2 at hc3 hc4
                            generalize rreadB T2.pf T2.L s = bs at hc3 hc4
                            obtain ⟨_, _, e3, _, _⟩ := act_cells HM.out.row
                            go_wp2_with fail
                            refine hc3.mono ?_
                            rintro e w7 ⟨Ax, nx, cx, l, rfl, hl, hln, _, hM7, _⟩
                            clear e3 hc3
                            obtain ⟨_, _, e3, _, _⟩ := act_cells hM7.row
                            have hc5 := hc4 _ _ hM7
                            clear hc4 hM7
                            go_wp2_with fail
                            refine hc5.mono ?_
                            rintro e w8 ⟨Ay, ny, cy, l2, rfl, hl2, hln2, _, hM8, _⟩
                            obtain rfl : l = l2 := by rw [hl.out, hl2.out]
                            clear e3 hc5 hl hl2 hP
                            go_upto_region 32 with fail
                            refine wp_region_held_drew (S := (fun W' => Mine w0 W' d (N + 1) T2.toD (RkRow r T2 x (actRow op nn keep s t Aj nj cj)) [(Ay, l), (Ax, l), (Aj, b)])) (by kernel_rfl) ((hM8.drew (rkRow r T2 x (actRow op nn keep s t Aj nj cj)))) (fun hHeld => ?_)
                            refine wpAnyH_take (i := 0) (oi := ⟨(some 166), _, _, _, _, _⟩) (v := ?vq10_0) rfl (by kernel_rfl) (by kernel_rfl) (by kernel_rfl) (fun _ _ _ h => h) (Or.inl ⟨by rfl, ?yq10_0⟩) hHeld ?_
                            case yq10_0 => (intro W0 hSw; go_simp; try with_reducible rfl)
                            try simp only [Act.put, List.setIfInBounds_toArray, List.set_cons_zero, List.set_cons_succ]
                            refine wpAnyH_take (i := 1) (oi := ⟨(some 167), _, _, _, _, _⟩) (v := ?vq10_1) rfl (by kernel_rfl) (by kernel_rfl) (by kernel_rfl) (fun _ _ _ h => h) (Or.inl ⟨by rfl, ?yq10_1⟩) hHeld ?_
                            case yq10_1 => (intro W0 hSw; go_simp; try with_reducible rfl)
                            try simp only [Act.put, List.setIfInBounds_toArray, List.set_cons_zero, List.set_cons_succ]
                            refine wpAnyH_take (i := 2) (oi := ⟨(some 168), _, _, _, _, _⟩) (v := ?vq10_2) rfl (by kernel_rfl) (by kernel_rfl) (by kernel_rfl) (fun _ _ _ h => h) (Or.inl ⟨by rfl, ?yq10_2⟩) hHeld ?_
                            case yq10_2 => (intro W0 hSw; go_simp; try with_reducible rfl)
                            try simp only [Act.put, List.setIfInBounds_toArray, List.set_cons_zero, List.set_cons_succ]
                            refine wpAnyH_take (i := 3) (oi := ⟨(some 169), _, _, _, _, _⟩) (v := ?vq10_3) rfl (by kernel_rfl) (by kernel_rfl) (by kernel_rfl) (fun _ _ _ h => h) (Or.inl ⟨by rfl, ?yq10_3⟩) hHeld ?_
                            case yq10_3 => (intro W0 hSw; go_simp; try with_reducible rfl)
                            try simp only [Act.put, List.setIfInBounds_toArray, List.set_cons_zero, List.set_cons_succ]
                            refine wpAnyH_take (i := 4) (oi := ⟨(some 170), _, _, _, _, _⟩) (v := ?vq10_4) rfl (by kernel_rfl) (by kernel_rfl) (by kernel_rfl) (fun _ _ _ h => h) (Or.inl ⟨by rfl, ?yq10_4⟩) hHeld ?_
                            case yq10_4 => (intro W0 hSw; have hcx := conv_bytes (P := Try.prog) Try.underlying33 Try.underlying5 Try.underlying9 (hSw.byt (p := (Ax, l)) (by simp)) nx cx hln.out; go_simp; try with_reducible rfl)
                            try simp only [Act.put, List.setIfInBounds_toArray, List.set_cons_zero, List.set_cons_succ]
                            refine wpAnyH_take (i := 5) (oi := ⟨(some 171), _, _, _, _, _⟩) (v := ?vq10_5) rfl (by kernel_rfl) (by kernel_rfl) (by kernel_rfl) (fun _ _ _ h => h) (Or.inl ⟨by rfl, ?yq10_5⟩) hHeld ?_
                            case yq10_5 => (intro W0 hSw; go_simp; try with_reducible rfl)
                            try simp only [Act.put, List.setIfInBounds_toArray, List.set_cons_zero, List.set_cons_succ]
                            refine wpAnyH_take (i := 6) (oi := ⟨(some 172), _, _, _, _, _⟩) (v := ?vq10_6) rfl (by kernel_rfl) (by kernel_rfl) (by kernel_rfl) (fun _ _ _ h => h) (Or.inl ⟨by rfl, ?yq10_6⟩) hHeld ?_
                            case yq10_6 => (intro W0 hSw; have hcx := conv_bytes (P := Try.prog) Try.underlying33 Try.underlying5 Try.underlying9 (hSw.byt (p := (Ay, l)) (by simp)) ny cy hln2.out; go_simp; try with_reducible rfl)
                            try simp only [Act.put, List.setIfInBounds_toArray, List.set_cons_zero, List.set_cons_succ]
                            refine wpAnyH_take (i := 7) (oi := ⟨(some 173), _, _, _, _, _⟩) (v := ?vq10_7) rfl (by kernel_rfl) (by kernel_rfl) (by kernel_rfl) (fun _ _ _ h => h) (Or.inl ⟨by rfl, ?yq10_7⟩) hHeld ?_
                            case yq10_7 => (intro W0 hSw; go_simp; try with_reducible rfl)
                            try simp only [Act.put, List.setIfInBounds_toArray, List.set_cons_zero, List.set_cons_succ]
                            refine wpAnyH_take (i := 8) (oi := ⟨(some 174), _, _, _, _, _⟩) (v := ?vq10_8) rfl (by kernel_rfl) (by kernel_rfl) (by kernel_rfl) (fun _ _ _ h => h) (Or.inl ⟨by rfl, ?yq10_8⟩) hHeld ?_
                            case yq10_8 => (intro W0 hSw; go_simp; try with_reducible rfl)
                            try simp only [Act.put, List.setIfInBounds_toArray, List.set_cons_zero, List.set_cons_succ]
                            refine wpAnyH_take (i := 9) (oi := ⟨(some 175), _, _, _, _, _⟩) (v := ?vq10_9) rfl (by kernel_rfl) (by kernel_rfl) (by kernel_rfl) (fun _ _ _ h => h) (Or.inl ⟨by rfl, ?yq10_9⟩) hHeld ?_
                            case yq10_9 => (intro W0 hSw; go_simp; try with_reducible rfl)
                            try simp only [Act.put, List.setIfInBounds_toArray, List.set_cons_zero, List.set_cons_succ]
                            refine wpAnyH_take (i := 10) (oi := ⟨(some 176), _, _, _, _, _⟩) (v := ?vq10_10) rfl (by kernel_rfl) (by kernel_rfl) (by kernel_rfl) (fun _ _ _ h => h) (Or.inl ⟨by rfl, ?yq10_10⟩) hHeld ?_
                            case yq10_10 => (intro W0 hSw; go_simp; try with_reducible rfl)
                            try simp only [Act.put, List.setIfInBounds_toArray, List.set_cons_zero, List.set_cons_succ]
                            refine wpAnyH_take (i := 11) (oi := ⟨(some 177), _, _, _, _, _⟩) (v := ?vq10_11) rfl (by kernel_rfl) (by kernel_rfl) (by kernel_rfl) (fun _ _ _ h => h) (Or.inl ⟨by rfl, ?yq10_11⟩) hHeld ?_
                            case yq10_11 => (intro W0 hSw; go_simp; try with_reducible rfl)
                            try simp only [Act.put, List.setIfInBounds_toArray, List.set_cons_zero, List.set_cons_succ]
                            refine wpAnyH_take (i := 12) (oi := ⟨(some 178), _, _, _, _, _⟩) (v := ?vq10_12) rfl (by kernel_rfl) (by kernel_rfl) (by kernel_rfl) (fun _ _ _ h => h) (Or.inl ⟨by rfl, ?yq10_12⟩) hHeld ?_
                            case yq10_12 => (intro W0 hSw; go_simp; try with_reducible rfl)
                            try simp only [Act.put, List.setIfInBounds_toArray, List.set_cons_zero, List.set_cons_succ]
                            refine wpAnyH_take (i := 13) (oi := ⟨(some 179), _, _, _, _, _⟩) (v := ?vq10_13) rfl (by kernel_rfl) (by kernel_rfl) (by kernel_rfl) (fun _ _ _ h => h) (Or.inl ⟨by rfl, ?yq10_13⟩) hHeld ?_
                            case yq10_13 => (intro W0 hSw; go_simp; try with_reducible rfl)
                            try simp only [Act.put, List.setIfInBounds_toArray, List.set_cons_zero, List.set_cons_succ]
                            refine wpAnyH_take (i := 14) (oi := ⟨(some 180), _, _, _, _, _⟩) (v := ?vq10_14) rfl (by kernel_rfl) (by kernel_rfl) (by kernel_rfl) (fun _ _ _ h => h) (Or.inl ⟨by rfl, ?yq10_14⟩) hHeld ?_
                            case yq10_14 => (intro W0 hSw; go_simp; try with_reducible rfl)
                            try simp only [Act.put, List.setIfInBounds_toArray, List.set_cons_zero, List.set_cons_succ]
                            refine wpAnyH_take (i := 15) (oi := ⟨(some 181), _, _, _, _, _⟩) (v := ?vq10_15) rfl (by kernel_rfl) (by kernel_rfl) (by kernel_rfl) (fun _ _ _ h => h) (Or.inl ⟨by rfl, ?yq10_15⟩) hHeld ?_
                            case yq10_15 => (intro W0 hSw; go_simp; try with_reducible rfl)
                            try simp only [Act.put, List.setIfInBounds_toArray, List.set_cons_zero, List.set_cons_succ]
                            refine wpAnyH_take (i := 17) (oi := ⟨(some 183), _, _, _, _, _⟩) (v := ?vq10_16) rfl (by kernel_rfl) (by kernel_rfl) (by kernel_rfl) (fun _ _ _ h => h) (Or.inl ⟨by rfl, ?yq10_16⟩) hHeld ?_
                            case yq10_16 => (intro W0 hSw; go_simp; try with_reducible rfl)
                            try simp only [Act.put, List.setIfInBounds_toArray, List.set_cons_zero, List.set_cons_succ]
                            refine wpAnyH_ready (rs := [16]) (by kernel_rfl) (by simp) ?_
                            refine AllReadyH.cons (i := 16) (o := ⟨(some 182), _, _, _, _, _⟩) rfl (fun K hK => ?_) AllReadyH.nil
                            go_simp
                            refine (mine_size hHeld).mono ?_
                            rintro e w9 ⟨rfl, rfl⟩
                            refine hK.out _ _ (hHeld) (fun hHeld => ?_)
                            clear hK K
                            try simp only [Act.put, List.setIfInBounds_toArray, List.set_cons_zero, List.set_cons_succ]
                            refine wpAnyH_ready (rs := [18]) (by kernel_rfl) (by simp) ?_
                            refine AllReadyH.cons (i := 18) (o := ⟨(some 184), _, _, _, _, _⟩) rfl (fun K hK => ?_) AllReadyH.nil
                            go_simp
                            refine (mine_rsize hHeld hft.out hk81).mono ?_
                            rintro e w10 ⟨rfl, hM10, _⟩
                            refine hK.out _ _ (hM10) (fun hHeld => ?_)
                            clear hK K
                            try simp only [Act.put, List.setIfInBounds_toArray, List.set_cons_zero, List.set_cons_succ]
                            refine wpAnyH_take (i := 19) (oi := ⟨(some 185), _, _, _, _, _⟩) (v := ?vq10_17) rfl (by kernel_rfl) (by kernel_rfl) (by kernel_rfl) (fun _ _ _ h => h) (Or.inl ⟨by rfl, ?yq10_17⟩) hHeld ?_
                            case yq10_17 => (intro W0 hSw; go_simp; try with_reducible rfl)
                            try simp only [Act.put, List.setIfInBounds_toArray, List.set_cons_zero, List.set_cons_succ]
                            refine wpAnyH_take (i := 20) (oi := ⟨(some 186), _, _, _, _, _⟩) (v := ?vq10_18) rfl (by kernel_rfl) (by kernel_rfl) (by kernel_rfl) (fun _ _ _ h => h) (Or.inl ⟨by rfl, ?yq10_18⟩) hHeld ?_
                            case yq10_18 => (intro W0 hSw; go_simp; try with_reducible rfl)
                            try simp only [Act.put, List.setIfInBounds_toArray, List.set_cons_zero, List.set_cons_succ]
                            refine wpAnyH_take (i := 21) (oi := ⟨(some 187), _, _, _, _, _⟩) (v := ?vq10_19) rfl (by kernel_rfl) (by kernel_rfl) (by kernel_rfl) (fun _ _ _ h => h) (Or.inl ⟨by rfl, ?yq10_19⟩) hHeld ?_
                            case yq10_19 => (intro W0 hSw; go_simp; try with_reducible rfl)
                            try simp only [Act.put, List.setIfInBounds_toArray, List.set_cons_zero, List.set_cons_succ]
                            refine wpAnyH_take (i := 22) (oi := ⟨(some 188), _, _, _, _, _⟩) (v := ?vq10_20) rfl (by kernel_rfl) (by kernel_rfl) (by kernel_rfl) (fun _ _ _ h => h) (Or.inl ⟨by rfl, ?yq10_20⟩) hHeld ?_
                            case yq10_20 => (intro W0 hSw; go_simp; try with_reducible rfl)
                            try simp only [Act.put, List.setIfInBounds_toArray, List.set_cons_zero, List.set_cons_succ]
                            refine wpAnyH_take (i := 24) (oi := ⟨(some 190), _, _, _, _, _⟩) (v := ?vq10_21) rfl (by kernel_rfl) (by kernel_rfl) (by kernel_rfl) (fun _ _ _ h => h) (Or.inl ⟨by rfl, ?yq10_21⟩) hHeld ?_
                            case yq10_21 => (intro W0 hSw; go_simp; try with_reducible rfl)
                            try simp only [Act.put, List.setIfInBounds_toArray, List.set_cons_zero, List.set_cons_succ]
                            refine wpAnyH_take (i := 25) (oi := ⟨(some 191), _, _, _, _, _⟩) (v := ?vq10_22) rfl (by kernel_rfl) (by kernel_rfl) (by kernel_rfl) (fun _ _ _ h => h) (Or.inl ⟨by rfl, ?yq10_22⟩) hHeld ?_
                            case yq10_22 => (intro W0 hSw; go_simp; try with_reducible rfl)
                            try simp only [Act.put, List.setIfInBounds_toArray, List.set_cons_zero, List.set_cons_succ]
                            refine wpAnyH_take (i := 26) (oi := ⟨(some 192), _, _, _, _, _⟩) (v := ?vq10_23) rfl (by kernel_rfl) (by kernel_rfl) (by kernel_rfl) (fun _ _ _ h => h) (Or.inl ⟨by rfl, ?yq10_23⟩) hHeld ?_
                            case yq10_23 => (intro W0 hSw; go_simp; try with_reducible rfl)
                            try simp only [Act.put, List.setIfInBounds_toArray, List.set_cons_zero, List.set_cons_succ]
                            refine wpAnyH_take (i := 27) (oi := ⟨(some 193), _, _, _, _, _⟩) (v := ?vq10_24) rfl (by kernel_rfl) (by kernel_rfl) (by kernel_rfl) (fun _ _ _ h => h) (Or.inl ⟨by rfl, ?yq10_24⟩) hHeld ?_
                            case yq10_24 => (intro W0 hSw; obtain ⟨hp1, hp2⟩ := hSw.pf; go_simp; try with_reducible rfl)
                            try simp only [Act.put, List.setIfInBounds_toArray, List.set_cons_zero, List.set_cons_succ]
                            refine wpAnyH_ready (rs := [23]) (by kernel_rfl) (by simp) ?_
                            refine AllReadyH.cons (i := 23) (o := ⟨(some 189), _, _, _, _, _⟩) rfl (fun K hK => ?_) AllReadyH.nil
                            go_simp
                            refine (mine_power2 hHeld).mono ?_
                            rintro e w11 ⟨rfl, rfl⟩
                            refine hK.out _ _ (hHeld) (fun hHeld => ?_)
                            clear hK K
                            try simp only [Act.put, List.setIfInBounds_toArray, List.set_cons_zero, List.set_cons_succ]
                            refine wpAnyH_take (i := 28) (oi := ⟨(some 194), _, _, _, _, _⟩) (v := ?vq10_25) rfl (by kernel_rfl) (by kernel_rfl) (by kernel_rfl) (fun _ _ _ h => h) (Or.inl ⟨by rfl, ?yq10_25⟩) hHeld ?_
                            case yq10_25 => (intro W0 hSw; go_simp; try with_reducible rfl)
                            try simp only [Act.put, List.setIfInBounds_toArray, List.set_cons_zero, List.set_cons_succ]
                            refine wpAnyH_take (i := 29) (oi := ⟨(some 195), _, _, _, _, _⟩) (v := ?vq10_26) rfl (by kernel_rfl) (by kernel_rfl) (by kernel_rfl) (fun _ _ _ h => h) (Or.inl ⟨by rfl, ?yq10_26⟩) hHeld ?_
                            case yq10_26 => (intro W0 hSw; go_simp; try with_reducible rfl)
                            try simp only [Act.put, List.setIfInBounds_toArray, List.set_cons_zero, List.set_cons_succ]
                            refine wpAnyH_take (i := 30) (oi := ⟨(some 196), _, _, _, _, _⟩) (v := ?vq10_27) rfl (by kernel_rfl) (by kernel_rfl) (by kernel_rfl) (fun _ _ _ h => h) (Or.inl ⟨by rfl, ?yq10_27⟩) hHeld ?_
                            case yq10_27 => (intro W0 hSw; go_simp; try with_reducible rfl)
                            try simp only [Act.put, List.setIfInBounds_toArray, List.set_cons_zero, List.set_cons_succ]
                            refine wpAnyH_take (i := 31) (oi := ⟨(some 197), _, _, _, _, _⟩) (v := ?vq10_28) rfl (by kernel_rfl) (by kernel_rfl) (by kernel_rfl) (fun _ _ _ h => h) (Or.inl ⟨by rfl, ?yq10_28⟩) hHeld ?_
                            case yq10_28 => (intro W0 hSw; go_simp; try with_reducible rfl)
                            try simp only [Act.put, List.setIfInBounds_toArray, List.set_cons_zero, List.set_cons_succ]
                            refine wpAnyH_take (i := 33) (oi := ⟨(some 199), _, _, _, _, _⟩) (v := ?vq10_29) rfl (by kernel_rfl) (by kernel_rfl) (by kernel_rfl) (fun _ _ _ h => h) (Or.inl ⟨by rfl, ?yq10_29⟩) hHeld ?_
                            case yq10_29 => (intro W0 hSw; go_simp; try with_reducible rfl)
                            try simp only [Act.put, List.setIfInBounds_toArray, List.set_cons_zero, List.set_cons_succ]
                            refine wpAnyH_take (i := 34) (oi := ⟨(some 200), _, _, _, _, _⟩) (v := ?vq10_30) rfl (by kernel_rfl) (by kernel_rfl) (by kernel_rfl) (fun _ _ _ h => h) (Or.inl ⟨by rfl, ?yq10_30⟩) hHeld ?_
                            case yq10_30 => (intro W0 hSw; go_simp; try with_reducible rfl)
                            try simp only [Act.put, List.setIfInBounds_toArray, List.set_cons_zero, List.set_cons_succ]
                            refine wpAnyH_take (i := 35) (oi := ⟨(some 201), _, _, _, _, _⟩) (v := ?vq10_31) rfl (by kernel_rfl) (by kernel_rfl) (by kernel_rfl) (fun _ _ _ h => h) (Or.inl ⟨by rfl, ?yq10_31⟩) hHeld ?_
                            case yq10_31 => (intro W0 hSw; go_simp; try with_reducible rfl)
                            try simp only [Act.put, List.setIfInBounds_toArray, List.set_cons_zero, List.set_cons_succ]
                            refine wpAnyH_take (i := 36) (oi := ⟨(some 202), _, _, _, _, _⟩) (v := ?vq10_32) rfl (by kernel_rfl) (by kernel_rfl) (by kernel_rfl) (fun _ _ _ h => h) (Or.inl ⟨by rfl, ?yq10_32⟩) hHeld ?_
                            case yq10_32 => (intro W0 hSw; obtain ⟨hp1, hp2⟩ := hSw.pf; go_simp; try with_reducible rfl)
                            try simp only [Act.put, List.setIfInBounds_toArray, List.set_cons_zero, List.set_cons_succ]
                            refine wpAnyH_ready (rs := [32]) (by kernel_rfl) (by simp) ?_
                            refine AllReadyH.cons (i := 32) (o := ⟨(some 198), _, _, _, _, _⟩) rfl (fun K hK => ?_) AllReadyH.nil
                            go_simp
                            refine (mine_lives2 hHeld).mono ?_
                            rintro e w12 ⟨rfl, rfl⟩
                            refine hK.out _ _ (hHeld) (fun hHeld => ?_)
                            clear hK K
                            try simp only [Act.put, List.setIfInBounds_toArray, List.set_cons_zero, List.set_cons_succ]
                            refine wpAnyH_take (i := 37) (oi := ⟨(some 203), _, _, _, _, _⟩) (v := ?vq10_33) rfl (by kernel_rfl) (by kernel_rfl) (by kernel_rfl) (fun _ _ _ h => h) (Or.inl ⟨by rfl, ?yq10_33⟩) hHeld ?_
                            case yq10_33 => (intro W0 hSw; go_simp; try with_reducible rfl)
                            try simp only [Act.put, List.setIfInBounds_toArray, List.set_cons_zero, List.set_cons_succ]
                            refine wpAnyH_take (i := 38) (oi := ⟨(some 204), _, _, _, _, _⟩) (v := ?vq10_34) rfl (by kernel_rfl) (by kernel_rfl) (by kernel_rfl) (fun _ _ _ h => h) (Or.inl ⟨by rfl, ?yq10_34⟩) hHeld ?_
                            case yq10_34 => (intro W0 hSw; go_simp; try with_reducible rfl)
                            try simp only [Act.put, List.setIfInBounds_toArray, List.set_cons_zero, List.set_cons_succ]
                            refine wpAnyH_done (by kernel_rfl) ?_ _
                            have HM9 := Lib.hid (Mine.rowOff hHeld)
                            clear hHeld hM8 hft
                            go_wp2
                            go_roundw
                            case rel => exact ⟨k + 1, N + 1, T2, by go_num, by omega, HN2, HF2, Lib.hid (HM9.out.fewer fun p hp => (List.not_mem_nil hp).elim)⟩
                            case measure => simp [intOf]; omega
          · obtain rfl : k = m := by omega
            have hbel := below_next hb0 hb0.size hM.out.bel
            clear hM
            go_wp2
            go_ret
            exact ⟨rfl, hbel⟩
end Go.Proofs.Ytnpaodhcaeofnaa
