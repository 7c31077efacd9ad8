/-
  Law BookMerges. Conditions: none.
-/
import Derived.Test.YtncjobhpiohkkaaPkE
import Derived.Test.YtncjobhpiohkkaaPkF
namespace Go.Proofs.Ytncjobhpiohkkaa
open Go.RowKit

set_option maxRecDepth 100000 in
set_option maxHeartbeats 8000000 in
theorem walk_BookMerges (w : World) (A1 : Option Addr) (l1 : List Ed) (n1 c1 : Nat) (b1 : EdsP w w.heap.size A1 l1) (e1 : l1.length = n1) (_ : n1 ≤ c1) (A2 : Option Addr) (l2 : List Ed) (n2 c2 : Nat) (b2 : EdsP w w.heap.size A2 l2) (e2 : l2.length = n2) (_ : n2 ≤ c2) :
    Calls Try.prog 5 #[.slice A1 n1 c1, .slice A2 n2 c2] w fun x w' => x = .returned (.bool true) ∧ Below w.heap.size w w' := by
  have HN1 := Lib.hid e1
  have HN2 := Lib.hid e2
  clear e1 e2
  have DA := vlt (awake_any w)
  go_enter Try.func5, Try.ntmps5
  go_upto_region 3 with (go_at_call 9; refine DA.out.mono ?_; rintro e v0 ⟨rfl, hv0⟩; clear DA)
  by_cases h30 : n1 ≤ 30
  case neg =>
    have h1 : (30 : Int) < (n1 : Int) := by omega
    go_wp2
    go_ret
    exact ⟨rfl, hv0⟩
  have h1 : ¬ (30 : Int) < (n1 : Int) := by omega
  by_cases h31 : n2 ≤ 30
  case neg =>
    have h2 : (30 : Int) < (n2 : Int) := by omega
    go_wp2
    go_ret
    exact ⟨rfl, hv0⟩
  have h2 : ¬ (30 : Int) < (n2 : Int) := by omega
  go_upto_region 5 with fail
  have D1 := vlt (new_bs (Bks.nil w.heap.size v0) hv0)
  go_upto_region 6 with (first | (go_at_call 10; refine D1.out.mono ?_; rintro e w1 ⟨a, rfl, hS1, hb1, hn1⟩; have D2 := vlt (new_bs hS1 hb1); clear D1) | (go_at_call 10; refine D2.out.mono ?_; rintro e w2 ⟨b, rfl, hS2, hb2, hn2⟩; clear D2))
  clear h1 h2 hS1 hb1 hn1 hn2 hv0
  go_wp2
  go_loopg [7] n1 (fun k s wr => ∃ (i : Nat), s = .int .i64 i ∧ n1 - i < k + 1 ∧ i ≤ n1 ∧ Vlt (Bks w.heap.size wr [(a, badds [] (l1.take i)), (b, [])]) ∧ Below w.heap.size w wr)
  case atStart => exact ⟨0, rfl, by omega, Nat.zero_le _, vlt (by simpa [badds] using hS2), hb2⟩
  case round =>
    obtain ⟨i, rfl, hk, hin, H1, hbt⟩ := hrel
    by_cases hlt : i < n1
    · have hltz : (i : Int) < (n1 : Int) := by omega
      obtain ⟨g, o, x, rfl, HX, HX8, hR⟩ := b1.rng (i := i) (by rw [HN1.out]; omega)
      have hr1 := hR _ hbt
      obtain ⟨q, hq⟩ : ∃ q, elong x = q := ⟨_, rfl⟩
      have D1 := blong_any wr x HX8.out
      rw [hq] at D1
      have DL := vlt D1
      clear D1 hq
      cases q with
      | true =>
        go_wp2_with (first | (with_reducible refine wpList_load_mid rfl 32 (.tmp 33) rfl g (o + i * 15) rfl x.cells _ hr1 Try.underlying32 rfl (by rw [Ed.cells_len HX8.out]; kernel_rfl) ?_) | (go_at_call 21; refine DL.out.mono ?_; rintro e w5 ⟨rfl, hb5⟩; have hbt5 := below_next hbt hbt.size hb5; clear DL))
        go_ret
        exact ⟨rfl, hbt5⟩
      | false =>
        obtain ⟨P, r, hbd⟩ : ∃ P r, badd (badds [] (l1.take i)) x = (P, r) := ⟨_, _, rfl⟩
        have HP : Vlt (badds [] (l1.take (i + 1)) = P) := vlt (by rw [badds_step HX.out, hbd])
        have HBD := vlt hbd
        clear hbd
        go_wp2_with (first | (with_reducible refine wpList_load_mid rfl 32 (.tmp 33) rfl g (o + i * 15) rfl x.cells _ hr1 Try.underlying32 rfl (by rw [Ed.cells_len HX8.out]; kernel_rfl) ?_) | (with_reducible refine wpList_load_mid rfl 32 (.tmp 39) rfl g (o + i * 15) rfl x.cells _ hr5 Try.underlying32 rfl (by rw [Ed.cells_len HX8.out]; kernel_rfl) ?_) | (go_at_call 21; refine DL.out.mono ?_; rintro e w5 ⟨rfl, hb5⟩; have hbt5 := below_next hbt hbt.size hb5; have hr5 := hR _ hbt5; have VA := vlt (add_bs (H1.out.next hb5) hbt5 0 rfl x HX8.out HBD.out); clear DL) | (go_at_call 11; refine VA.out.mono ?_; rintro e w6 ⟨rfl, hS6, hb6⟩; clear VA))
        go_roundg (n1 - (i + 1))
        case measure => omega
        case rel => exact ⟨i + 1, by go_num, by omega, by omega, vlt (by rw [HP.out]; exact hS6), hb6⟩
    · have hltz : ¬ (i : Int) < (n1 : Int) := by omega
      have H2 : Vlt (Bks w.heap.size wr [(a, badds [] l1), (b, [])]) := vlt (by have := H1.out; rwa [List.take_of_length_le (by rw [HN1.out]; omega)] at this)
      go_upto_region 12 with fail
      clear H1 hlt hltz hk hin
      have H3 := H2
      clear H2
      obtain ⟨wl, hwl⟩ : ∃ wl, wl = wr := ⟨_, rfl⟩
      subst hwl
      have hb3 := hbt
      clear hbt
      go_wp2
      go_loopg [8] n2 (fun k s wr => ∃ (i : Nat), s = .int .i64 i ∧ n2 - i < k + 1 ∧ i ≤ n2 ∧ Vlt (Bks w.heap.size wr [(a, badds [] l1), (b, badds [] (l2.take i))]) ∧ Below w.heap.size w wr)
      case atStart => exact ⟨0, rfl, by omega, Nat.zero_le _, vlt (by simpa [badds] using H3.out), hb3⟩
      case round =>
        obtain ⟨i, rfl, hk, hin, H1, hbt⟩ := hrel
        by_cases hlt : i < n2
        · have hltz : (i : Int) < (n2 : Int) := by omega
          obtain ⟨g, o, x, rfl, HX, HX8, hR⟩ := b2.rng (i := i) (by rw [HN2.out]; omega)
          have hr1 := hR _ hbt
          obtain ⟨q, hq⟩ : ∃ q, elong x = q := ⟨_, rfl⟩
          have D1 := blong_any wr x HX8.out
          rw [hq] at D1
          have DL := vlt D1
          clear D1 hq
          cases q with
          | true =>
            go_wp2_with (first | (with_reducible refine wpList_load_mid rfl 32 (.tmp 50) rfl g (o + i * 15) rfl x.cells _ hr1 Try.underlying32 rfl (by rw [Ed.cells_len HX8.out]; kernel_rfl) ?_) | (go_at_call 21; refine DL.out.mono ?_; rintro e w5 ⟨rfl, hb5⟩; have hbt5 := below_next hbt hbt.size hb5; clear DL))
            go_ret
            exact ⟨rfl, hbt5⟩
          | false =>
            obtain ⟨P, r, hbd⟩ : ∃ P r, badd (badds [] (l2.take i)) x = (P, r) := ⟨_, _, rfl⟩
            have HP : Vlt (badds [] (l2.take (i + 1)) = P) := vlt (by rw [badds_step HX.out, hbd])
            have HBD := vlt hbd
            clear hbd
            go_wp2_with (first | (with_reducible refine wpList_load_mid rfl 32 (.tmp 50) rfl g (o + i * 15) rfl x.cells _ hr1 Try.underlying32 rfl (by rw [Ed.cells_len HX8.out]; kernel_rfl) ?_) | (with_reducible refine wpList_load_mid rfl 32 (.tmp 56) rfl g (o + i * 15) rfl x.cells _ hr5 Try.underlying32 rfl (by rw [Ed.cells_len HX8.out]; kernel_rfl) ?_) | (go_at_call 21; refine DL.out.mono ?_; rintro e w5 ⟨rfl, hb5⟩; have hbt5 := below_next hbt hbt.size hb5; have hr5 := hR _ hbt5; have VA := vlt (add_bs (H1.out.next hb5) hbt5 1 rfl x HX8.out HBD.out); clear DL) | (go_at_call 11; refine VA.out.mono ?_; rintro e w6 ⟨rfl, hS6, hb6⟩; clear VA))
            go_roundg (n2 - (i + 1))
            case measure => omega
            case rel => exact ⟨i + 1, by go_num, by omega, by omega, vlt (by rw [HP.out]; exact hS6), hb6⟩
        · have hltz : ¬ (i : Int) < (n2 : Int) := by omega
          have H2 : Vlt (Bks w.heap.size wr [(a, badds [] l1), (b, badds [] l2)]) := vlt (by have := H1.out; rwa [List.take_of_length_le (by rw [HN2.out]; omega)] at this)
          go_upto_region 18 with fail
          clear H1 hlt hltz hk hin
          have hgA := H2.out.good (k := 0) rfl
          have hgB := H2.out.good (k := 1) rfl
          have hfa := badds_few (L := []) (es := l1)
          have hfb := badds_few (L := []) (es := l2)
          rw [HN1.out] at hfa
          rw [HN2.out] at hfb
          obtain ⟨La, hLa⟩ : ∃ La, badds [] l1 = La := ⟨_, rfl⟩
          obtain ⟨Lb, hLb⟩ : ∃ Lb, badds [] l2 = Lb := ⟨_, rfl⟩
          rw [hLa] at hgA hfa H2
          rw [hLb] at hgB hfb H2
          simp only [List.length_nil, Nat.zero_add] at hfa hfb
          have hm := merge_two hgA hgB (by omega)
          obtain ⟨P, r, hab⟩ : ∃ P r, bmerge La Lb = (P, r) := ⟨_, _, rfl⟩
          obtain ⟨Q, s, hba⟩ : ∃ Q s, bmerge Lb La = (Q, s) := ⟨_, _, rfl⟩
          rw [hab, hba] at hm
          obtain ⟨hrs, hcase⟩ := hm
          have hrs : r = s := hrs
          subst hrs
          have HAB := vlt hab
          have HBA := vlt hba
          have V1 := vlt (copy_bs H2.out hbt 0 rfl)
          clear hab hba hgA hgB hLa hLb
          go_upto_region 19 with (first | (go_at_call 14; refine V1.out.mono ?_; rintro e w7 ⟨x, rfl, hS7, hb7⟩; have V2 := vlt (copy_bs hS7 hb7 1 rfl); clear V1) | (go_at_call 14; refine V2.out.mono ?_; rintro e w8 ⟨y, rfl, hS8, hb8⟩; have V3 := vlt (merge_bs hS8 hb8 2 rfl (k2 := 1) rfl HAB.out); clear V2))
          go_upto_region 20 with (first | (go_at_call 16; refine V3.out.mono ?_; rintro e w9 ⟨rfl, hS9, hb9⟩; have V4 := vlt (merge_bs hS9 hb9 3 rfl (k2 := 0) rfl HBA.out); clear V3) | (go_at_call 16; refine V4.out.mono ?_; rintro e w10 ⟨rfl, hS10, hb10⟩; clear V4))
          rcases hcase with ⟨h0, hPQ, hlen⟩ | ⟨h0, hP, hQ⟩
          · have h0 : r = 0 := h0
            have hPQ : P = Q := hPQ
            have hlen : P.length ≤ La.length + Lb.length := hlen
            subst h0 hPQ
            have V5 := vlt (same_bs hS10 hb10 2 rfl (k2 := 3) rfl true (decide_eq_true rfl))
            go_wp2_with (first | (go_at_call 15; refine V5.out.mono ?_; rintro e w11 ⟨rfl, hS11, hb11⟩; have V6 := vlt (edits_bs hS11 hb11 2 rfl); clear V5) | (go_at_call 22; refine V6.out.mono ?_; rintro e w12 ⟨A12, c12, rfl, _, hS12, hb12⟩; have V7 := vlt (edits_bs hS12 hb12 0 rfl); clear V6) | (go_at_call 22; refine V7.out.mono ?_; rintro e w13 ⟨A13, c13, rfl, _, hS13, hb13⟩; have V8 := vlt (edits_bs hS13 hb13 1 rfl); clear V7) | (go_at_call 22; refine V8.out.mono ?_; rintro e w14 ⟨A14, c14, rfl, _, hS14, hb14⟩; clear V8))
            go_ret
            exact ⟨by simp; omega, hb14⟩
          · have h0 : r = 10 := h0
            have hP : P = La := hP
            have hQ : Q = Lb := hQ
            subst h0 hP hQ
            have V5 := vlt (same_bs hS10 hb10 2 rfl (k2 := 0) rfl true (decide_eq_true rfl))
            go_wp2_with (first | (go_at_call 15; refine V5.out.mono ?_; rintro e w11 ⟨rfl, hS11, hb11⟩; have V6 := vlt (same_bs hS11 hb11 3 rfl (k2 := 1) rfl true (decide_eq_true rfl)); clear V5) | (go_at_call 15; refine V6.out.mono ?_; rintro e w12 ⟨rfl, hS12, hb12⟩; clear V6))
            go_ret
            exact ⟨rfl, hb12⟩
end Go.Proofs.Ytncjobhpiohkkaa
