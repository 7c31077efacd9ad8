/-
  Contract of know's Same. No statement is proved here. Conditions: fewer than 2^48 things.
-/
import Derived.Test.YtknmccpoheekmaaKnF
namespace Go.Proofs.Ytknmccpoheekmaa
open Go.RowKit

/-- Are two the same? -/
def sameT (t : List Th) (a b : Int) : Bool := goodT t && (below a t.length && (below b t.length && decide (nat (firstsT t) a = nat (firstsT t) b)))
set_option maxRecDepth 100000 in
set_option maxHeartbeats 4000000 in
theorem kSame_any {w : World} {A : Option Addr} {t : List Th} {n : Nat} (c : Nat) (ht : ThP w w.heap.size A t) (hl : t.length = n) (hn : n ≤ 281474976710656) (a b : Int) {o : Bool} (ho : sameT t a b = o) :
    Calls Try.prog 9 #[.slice A n c, .int .i64 a, .int .i64 b] w fun e w' => e = .returned (.bool o) ∧ Below w.heap.size w w' := by
  have HN := Lib.hid hl
  rw [sameT, hl] at ho
  obtain ⟨g, hg⟩ : ∃ g, goodT t = g := ⟨_, rfl⟩
  obtain ⟨qa, hqa⟩ : ∃ q, below a (n : Int) = q := ⟨_, rfl⟩
  obtain ⟨qb, hqb⟩ : ∃ q, below b (n : Int) = q := ⟨_, rfl⟩
  rw [hg, hqa, hqb] at ho
  have DG := vlt (kgood_any c ht hl hn hg)
  have D1 := fun w' => kbelow_any w' a (n : Int)
  have D2 := fun w' => kbelow_any w' b (n : Int)
  rw [hqa] at D1
  rw [hqb] at D2
  have D1 := vlt D1
  have D2 := vlt D2
  have HG := vlt hg
  have HA := vlt hqa
  have HB := vlt hqb
  have HO := vlt ho
  clear hl hg hqa hqb ho
  cases g with
  | false =>
    have VO : Vlt (o = false) := vlt (by rw [← HO.out]; rfl)
    go_enter Try.func9, Try.ntmps9
    go_wp2_with (first
      | (go_at_call 12; refine DG.out.mono ?_; rintro e w1 ⟨rfl, hb1⟩; clear DG)
      | (go_at_call 20; refine (D1.out _).mono ?_; rintro e v1 ⟨rfl, hv⟩; rw [hv]; clear hv v1 D1)
      | (go_at_call 20; refine (D2.out _).mono ?_; rintro e v2 ⟨rfl, hv⟩; rw [hv]; clear hv v2 D2))
    go_ret
    rw [VO.out]
    exact ⟨rfl, hb1⟩
  | true =>
  cases qa with
  | false =>
    have VO : Vlt (o = false) := vlt (by rw [← HO.out]; rfl)
    go_enter Try.func9, Try.ntmps9
    go_wp2_with (first
      | (go_at_call 12; refine DG.out.mono ?_; rintro e w1 ⟨rfl, hb1⟩; clear DG)
      | (go_at_call 20; refine (D1.out _).mono ?_; rintro e v1 ⟨rfl, hv⟩; rw [hv]; clear hv v1 D1)
      | (go_at_call 20; refine (D2.out _).mono ?_; rintro e v2 ⟨rfl, hv⟩; rw [hv]; clear hv v2 D2))
    go_ret
    rw [VO.out]
    exact ⟨rfl, hb1⟩
  | true =>
  cases qb with
  | false =>
    have VO : Vlt (o = false) := vlt (by rw [← HO.out]; rfl)
    go_enter Try.func9, Try.ntmps9
    go_wp2_with (first
      | (go_at_call 12; refine DG.out.mono ?_; rintro e w1 ⟨rfl, hb1⟩; clear DG)
      | (go_at_call 20; refine (D1.out _).mono ?_; rintro e v1 ⟨rfl, hv⟩; rw [hv]; clear hv v1 D1)
      | (go_at_call 20; refine (D2.out _).mono ?_; rintro e v2 ⟨rfl, hv⟩; rw [hv]; clear hv v2 D2))
    go_ret
    rw [VO.out]
    exact ⟨rfl, hb1⟩
  | true =>
    have h1 := HA.out
    have h2 := HB.out
    rw [below, Bool.and_eq_true, decide_eq_true_iff, decide_eq_true_iff] at h1 h2
    obtain ⟨ha0, han⟩ := h1
    obtain ⟨hb0, hbn⟩ := h2
    obtain ⟨F, hF⟩ : ∃ F, firstsT t = F := ⟨_, rfl⟩
    have hFl : F.length = n := by rw [← hF, firstsT_len]; exact HN.out
    obtain ⟨na, hna⟩ : ∃ na, F.getD a.toNat 0 = na := ⟨_, rfl⟩
    obtain ⟨nb, hnb⟩ : ∃ nb, F.getD b.toNat 0 = nb := ⟨_, rfl⟩
    have VO : Vlt (o = decide (na = nb)) := vlt (by rw [← HO.out, hF, nat, nat, hna, hnb]; rfl)
    have HF := vlt hF
    clear hF
    go_enter Try.func9, Try.ntmps9
    go_upto_region 3 with (first
      | (go_at_call 12; refine DG.out.mono ?_; rintro e w1 ⟨rfl, hb1⟩; clear DG)
      | (go_at_call 20; refine (D1.out _).mono ?_; rintro e v1 ⟨rfl, hv⟩; rw [hv]; clear hv v1 D1)
      | (go_at_call 20; refine (D2.out _).mono ?_; rintro e v2 ⟨rfl, hv⟩; rw [hv]; clear hv v2 D2))
    have VF := vlt (firsts_any c (ht.next hb1) HN.out HG.out)
    rw [HF.out] at VF
    go_upto_region 4 with (go_at_call 21; refine VF.out.mono ?_; rintro e w2 ⟨rfl, hf2, hb2⟩; clear VF)
    have hb12 := below_next hb1 hb1.size hb2
    have hca : ∀ W', Below w2.heap.size w2 W' → W'.cell? ⟨w1.heap.size, a.toNat, none⟩ = some (.int .i64 (na : Nat)) := fun W' h => by
      rw [nvI_at (row_next2 hf2 h) a.toNat (by omega), hna]
    have hcb : ∀ W', Below w2.heap.size w2 W' → W'.cell? ⟨w1.heap.size, b.toNat, none⟩ = some (.int .i64 (nb : Nat)) := fun W' h => by
      rw [nvI_at (row_next2 hf2 h) b.toNat (by omega), hnb]
    clear hna hnb
    by_cases hab : na = nb
    · have VO2 : Vlt (o = true) := vlt (by rw [VO.out]; exact decide_eq_true hab)
      have habz : (na : Int) = (nb : Int) := by omega
      go_upto_region 4 with fail
      refine wp_region_held_drew (S := fun W' => Below w2.heap.size w2 W') (by kernel_rfl) ((Below.refl _ _).drew) (fun hHeld => ?_)
      refine wpAnyH_take (i := 0) (oi := ⟨(some 27), _, _, _, _, _⟩) (v := .slice (some ⟨w1.heap.size, 0, none⟩) n n) rfl (by kernel_rfl) (by kernel_rfl) (by kernel_rfl) (fun _ _ _ h => h) (Or.inl ⟨by rfl, ?yr4_0⟩) hHeld ?_
      case yr4_0 => (intro W0 hSw; go_simp; try with_reducible rfl)
      try simp only [pu]
      refine wpAnyH_take (i := 1) (oi := ⟨(some 28), _, _, _, _, _⟩) (v := .int .i64 a) rfl (by kernel_rfl) (by kernel_rfl) (by kernel_rfl) (fun _ _ _ h => h) (Or.inl ⟨by rfl, ?yr4_1⟩) hHeld ?_
      case yr4_1 => (intro W0 hSw; go_simp; try with_reducible rfl)
      try simp only [pu]
      refine wpAnyH_take (i := 2) (oi := ⟨(some 29), _, _, _, _, _⟩) (v := .pointer (some ⟨w1.heap.size, a.toNat, none⟩)) rfl (by kernel_rfl) (by kernel_rfl) (by kernel_rfl) (fun _ _ _ h => h) (Or.inl ⟨by rfl, ?yr4_2⟩) hHeld ?_
      case yr4_2 => (intro W0 hSw; go_simp; try with_reducible rfl)
      try simp only [pu]
      refine wpAnyH_take (i := 3) (oi := ⟨(some 30), _, _, _, _, _⟩) (v := .int .i64 (na : Nat)) rfl (by kernel_rfl) (by kernel_rfl) (by kernel_rfl) (fun _ _ _ h => h) (Or.inl ⟨by rfl, ?yr4_3⟩) hHeld ?_
      case yr4_3 => (intro W0 hSw; have cc := hca _ hSw; go_simp; try with_reducible rfl)
      try simp only [pu]
      refine wpAnyH_take (i := 4) (oi := ⟨(some 31), _, _, _, _, _⟩) (v := .slice (some ⟨w1.heap.size, 0, none⟩) n n) rfl (by kernel_rfl) (by kernel_rfl) (by kernel_rfl) (fun _ _ _ h => h) (Or.inl ⟨by rfl, ?yr4_4⟩) hHeld ?_
      case yr4_4 => (intro W0 hSw; go_simp; try with_reducible rfl)
      try simp only [pu]
      refine wpAnyH_take (i := 5) (oi := ⟨(some 32), _, _, _, _, _⟩) (v := .int .i64 b) rfl (by kernel_rfl) (by kernel_rfl) (by kernel_rfl) (fun _ _ _ h => h) (Or.inl ⟨by rfl, ?yr4_5⟩) hHeld ?_
      case yr4_5 => (intro W0 hSw; go_simp; try with_reducible rfl)
      try simp only [pu]
      refine wpAnyH_take (i := 6) (oi := ⟨(some 33), _, _, _, _, _⟩) (v := .pointer (some ⟨w1.heap.size, b.toNat, none⟩)) rfl (by kernel_rfl) (by kernel_rfl) (by kernel_rfl) (fun _ _ _ h => h) (Or.inl ⟨by rfl, ?yr4_6⟩) hHeld ?_
      case yr4_6 => (intro W0 hSw; go_simp; try with_reducible rfl)
      try simp only [pu]
      refine wpAnyH_take (i := 7) (oi := ⟨(some 34), _, _, _, _, _⟩) (v := .int .i64 (nb : Nat)) rfl (by kernel_rfl) (by kernel_rfl) (by kernel_rfl) (fun _ _ _ h => h) (Or.inl ⟨by rfl, ?yr4_7⟩) hHeld ?_
      case yr4_7 => (intro W0 hSw; have cc := hcb _ hSw; go_simp; try with_reducible rfl)
      try simp only [pu]
      refine wpAnyH_take (i := 8) (oi := ⟨(some 35), _, _, _, _, _⟩) (v := .bool true) rfl (by kernel_rfl) (by kernel_rfl) (by kernel_rfl) (fun _ _ _ h => h) (Or.inl ⟨by rfl, ?yr4_8⟩) hHeld ?_
      case yr4_8 => (intro W0 hSw; go_simp; first | done | (simp [hab]; done) | (simp; omega) | skip)
      try simp only [pu]
      refine wpAnyH_take (i := 9) (oi := ⟨(some 6), _, _, _, _, _⟩) (v := .bool true) rfl (by kernel_rfl) (by kernel_rfl) (by kernel_rfl) (fun _ _ _ h => h) (Or.inl ⟨by rfl, ?yr4_9⟩) hHeld ?_
      case yr4_9 => (intro W0 hSw; go_simp; try with_reducible rfl)
      try simp only [pu]
      refine wpAnyH_done (by kernel_rfl) ?_ _
      have hb3 := below_next hb12 hb12.size hHeld
      go_wp2
      go_ret
      rw [VO2.out]
      exact ⟨rfl, hb3⟩
    · have VO2 : Vlt (o = false) := vlt (by rw [VO.out]; exact decide_eq_false hab)
      have habz : ¬ (na : Int) = (nb : Int) := by omega
      go_upto_region 4 with fail
      refine wp_region_held_drew (S := fun W' => Below w2.heap.size w2 W') (by kernel_rfl) ((Below.refl _ _).drew) (fun hHeld => ?_)
      refine wpAnyH_take (i := 0) (oi := ⟨(some 27), _, _, _, _, _⟩) (v := .slice (some ⟨w1.heap.size, 0, none⟩) n n) rfl (by kernel_rfl) (by kernel_rfl) (by kernel_rfl) (fun _ _ _ h => h) (Or.inl ⟨by rfl, ?yr4_0⟩) hHeld ?_
      case yr4_0 => (intro W0 hSw; go_simp; try with_reducible rfl)
      try simp only [pu]
      refine wpAnyH_take (i := 1) (oi := ⟨(some 28), _, _, _, _, _⟩) (v := .int .i64 a) rfl (by kernel_rfl) (by kernel_rfl) (by kernel_rfl) (fun _ _ _ h => h) (Or.inl ⟨by rfl, ?yr4_1⟩) hHeld ?_
      case yr4_1 => (intro W0 hSw; go_simp; try with_reducible rfl)
      try simp only [pu]
      refine wpAnyH_take (i := 2) (oi := ⟨(some 29), _, _, _, _, _⟩) (v := .pointer (some ⟨w1.heap.size, a.toNat, none⟩)) rfl (by kernel_rfl) (by kernel_rfl) (by kernel_rfl) (fun _ _ _ h => h) (Or.inl ⟨by rfl, ?yr4_2⟩) hHeld ?_
      case yr4_2 => (intro W0 hSw; go_simp; try with_reducible rfl)
      try simp only [pu]
      refine wpAnyH_take (i := 3) (oi := ⟨(some 30), _, _, _, _, _⟩) (v := .int .i64 (na : Nat)) rfl (by kernel_rfl) (by kernel_rfl) (by kernel_rfl) (fun _ _ _ h => h) (Or.inl ⟨by rfl, ?yr4_3⟩) hHeld ?_
      case yr4_3 => (intro W0 hSw; have cc := hca _ hSw; go_simp; try with_reducible rfl)
      try simp only [pu]
      refine wpAnyH_take (i := 4) (oi := ⟨(some 31), _, _, _, _, _⟩) (v := .slice (some ⟨w1.heap.size, 0, none⟩) n n) rfl (by kernel_rfl) (by kernel_rfl) (by kernel_rfl) (fun _ _ _ h => h) (Or.inl ⟨by rfl, ?yr4_4⟩) hHeld ?_
      case yr4_4 => (intro W0 hSw; go_simp; try with_reducible rfl)
      try simp only [pu]
      refine wpAnyH_take (i := 5) (oi := ⟨(some 32), _, _, _, _, _⟩) (v := .int .i64 b) rfl (by kernel_rfl) (by kernel_rfl) (by kernel_rfl) (fun _ _ _ h => h) (Or.inl ⟨by rfl, ?yr4_5⟩) hHeld ?_
      case yr4_5 => (intro W0 hSw; go_simp; try with_reducible rfl)
      try simp only [pu]
      refine wpAnyH_take (i := 6) (oi := ⟨(some 33), _, _, _, _, _⟩) (v := .pointer (some ⟨w1.heap.size, b.toNat, none⟩)) rfl (by kernel_rfl) (by kernel_rfl) (by kernel_rfl) (fun _ _ _ h => h) (Or.inl ⟨by rfl, ?yr4_6⟩) hHeld ?_
      case yr4_6 => (intro W0 hSw; go_simp; try with_reducible rfl)
      try simp only [pu]
      refine wpAnyH_take (i := 7) (oi := ⟨(some 34), _, _, _, _, _⟩) (v := .int .i64 (nb : Nat)) rfl (by kernel_rfl) (by kernel_rfl) (by kernel_rfl) (fun _ _ _ h => h) (Or.inl ⟨by rfl, ?yr4_7⟩) hHeld ?_
      case yr4_7 => (intro W0 hSw; have cc := hcb _ hSw; go_simp; try with_reducible rfl)
      try simp only [pu]
      refine wpAnyH_take (i := 8) (oi := ⟨(some 35), _, _, _, _, _⟩) (v := .bool false) rfl (by kernel_rfl) (by kernel_rfl) (by kernel_rfl) (fun _ _ _ h => h) (Or.inl ⟨by rfl, ?yr4_8⟩) hHeld ?_
      case yr4_8 => (intro W0 hSw; go_simp; first | done | (simp [hab]; done) | (simp; omega) | skip)
      try simp only [pu]
      refine wpAnyH_take (i := 9) (oi := ⟨(some 6), _, _, _, _, _⟩) (v := .bool false) rfl (by kernel_rfl) (by kernel_rfl) (by kernel_rfl) (fun _ _ _ h => h) (Or.inl ⟨by rfl, ?yr4_9⟩) hHeld ?_
      case yr4_9 => (intro W0 hSw; go_simp; try with_reducible rfl)
      try simp only [pu]
      refine wpAnyH_done (by kernel_rfl) ?_ _
      have hb3 := below_next hb12 hb12.size hHeld
      go_wp2
      go_ret
      rw [VO2.out]
      exact ⟨rfl, hb3⟩
end Go.Proofs.Ytknmccpoheekmaa
