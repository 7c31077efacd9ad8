/-
  Contract of the document's own SameThing. No statement is proved here. Conditions: at most sixty things.
-/
import Derived.Test.YtknmccpoheekmaaKtL
import Derived.Test.YtknmccpoheekmaaKtG
import Derived.Test.YtknmccpoheekmaaKnY
namespace Go.Proofs.Ytknmccpoheekmaa
open Go.RowKit

set_option maxRecDepth 100000 in
set_option maxHeartbeats 4000000 in
theorem rsame_any {w : World} {A : Option Addr} {t : List Th} {n : Nat} (c : Nat) (ht : ThP w w.heap.size A t) (hl : t.length = n) (hn : n ≤ 60) (a b : Int) {o : Bool} (ho : sameT t a b = o) :
    Calls Try.prog 17 #[.slice A n c, .int .i64 a, .int .i64 b] w fun e w' => e = .returned (.bool o) ∧ Below w.heap.size w w' := by
  have HN := Lib.hid hl
  have HO := vlt ho
  obtain ⟨q, hq⟩ : ∃ q, goodT t = q := ⟨_, rfl⟩
  have DG := vlt (rgood_any c ht hl (by omega) hq)
  have HQ := vlt hq
  clear hl ho hq
  cases q with
  | false =>
    have VO : Vlt (o = false) := vlt (by rw [← HO.out, sameT, HQ.out]; rfl)
    go_enter Try.func17, Try.ntmps17
    go_wp2_with (go_at_call 18; refine DG.out.mono ?_; rintro e w1 ⟨rfl, hb1⟩; clear DG)
    go_ret
    rw [VO.out]
    exact ⟨rfl, hb1⟩
  | true =>
    by_cases ha0 : 0 ≤ a
    case neg =>
      have zz : a < (0 : Int) := by omega
      have VO : Vlt (o = false) := vlt (by rw [← HO.out, sameT, show below a (t.length : Int) = false by rw [below]; simp; omega]; simp)
      go_enter Try.func17, Try.ntmps17
      go_wp2_with (go_at_call 18; refine DG.out.mono ?_; rintro e w1 ⟨rfl, hb1⟩; clear DG)
      go_ret
      rw [VO.out]
      exact ⟨rfl, hb1⟩
    have za : ¬ a < (0 : Int) := by omega
    by_cases hb0 : 0 ≤ b
    case neg =>
      have zz : b < (0 : Int) := by omega
      have VO : Vlt (o = false) := vlt (by rw [← HO.out, sameT, show below b (t.length : Int) = false by rw [below]; simp; omega]; simp)
      go_enter Try.func17, Try.ntmps17
      go_wp2_with (go_at_call 18; refine DG.out.mono ?_; rintro e w1 ⟨rfl, hb1⟩; clear DG)
      go_ret
      rw [VO.out]
      exact ⟨rfl, hb1⟩
    have zb : ¬ b < (0 : Int) := by omega
    by_cases ha1 : a < (n : Int)
    case neg =>
      have zz : (n : Int) ≤ a := by omega
      have VO : Vlt (o = false) := vlt (by rw [← HO.out, sameT, show below a (t.length : Int) = false by rw [below, HN.out]; simp; omega]; simp)
      go_enter Try.func17, Try.ntmps17
      go_wp2_with (go_at_call 18; refine DG.out.mono ?_; rintro e w1 ⟨rfl, hb1⟩; clear DG)
      go_ret
      rw [VO.out]
      exact ⟨rfl, hb1⟩
    have za1 : ¬ (n : Int) ≤ a := by omega
    by_cases hb1' : b < (n : Int)
    case neg =>
      have zz : (n : Int) ≤ b := by omega
      have VO : Vlt (o = false) := vlt (by rw [← HO.out, sameT, show below b (t.length : Int) = false by rw [below, HN.out]; simp; omega]; simp)
      go_enter Try.func17, Try.ntmps17
      go_wp2_with (go_at_call 18; refine DG.out.mono ?_; rintro e w1 ⟨rfl, hb1⟩; clear DG)
      go_ret
      rw [VO.out]
      exact ⟨rfl, hb1⟩
    have zb1 : ¬ (n : Int) ≤ b := by omega
    have hn60 : n ≤ 60 := hn
    have HE : Vlt ((((nat (firstsT t) a : Nat) : Int) == ((nat (firstsT t) b : Nat) : Int)) = o) := vlt (by
      rw [← HO.out, sameT, HQ.out, show below a (t.length : Int) = true by rw [below, HN.out]; simp; omega, show below b (t.length : Int) = true by rw [below, HN.out]; simp; omega]
      by_cases h : nat (firstsT t) a = nat (firstsT t) b
      · rw [h]; simp
      · have h2 : ¬ ((nat (firstsT t) a : Nat) : Int) = ((nat (firstsT t) b : Nat) : Int) := by omega
        simp [h, h2])
    have HF := Lib.hid (firstsT_len t)
    obtain ⟨pa, hpa⟩ : ∃ p, nat (firstsT t) a = p := ⟨_, rfl⟩
    obtain ⟨pb, hpb⟩ : ∃ p, nat (firstsT t) b = p := ⟨_, rfl⟩
    rw [hpa, hpb] at HE
    go_enter Try.func17, Try.ntmps17
    go_upto_region 3 with (go_at_call 18; refine DG.out.mono ?_; rintro e w1 ⟨rfl, hb1⟩; clear DG)
    have V1 := vlt (rlike_any c (ht.next hb1) HN.out HQ.out)
    go_upto_region 4 with (go_at_call 27; refine V1.out.mono ?_; rintro e w2 ⟨rfl, hf2, hb2⟩; clear V1)
    have fa : ∀ W', Below w2.heap.size w2 W' → W'.cell? ⟨w1.heap.size, a.toNat, none⟩ = some (.int .i64 (pa : Nat)) := fun W' h => by rw [nvI_at (row_next2 hf2 h) a.toNat (by rw [HF.out, HN.out]; omega), ← hpa, nat]
    have fb : ∀ W', Below w2.heap.size w2 W' → W'.cell? ⟨w1.heap.size, b.toNat, none⟩ = some (.int .i64 (pb : Nat)) := fun W' h => by rw [nvI_at (row_next2 hf2 h) b.toNat (by rw [HF.out, HN.out]; omega), ← hpb, nat]
    clear hpa hpb hf2
    refine wp_region_held_drew (S := fun W' => Below w2.heap.size w2 W') (by kernel_rfl) ((Below.refl _ _).drew) (fun hHeld => ?_)
    refine wpAnyH_take (i := 0) (oi := ⟨(some 33), _, _, _, _, _⟩) (v := .slice (some ⟨w1.heap.size, 0, none⟩) n n) rfl (by kernel_rfl) (by kernel_rfl) (by kernel_rfl) (fun _ _ _ h => h) (Or.inl ⟨by rfl, ?yr4_0⟩) hHeld ?_
    case yr4_0 => (intro W0 hSw; go_simp; try with_reducible rfl)
    try simp only [pu]
    refine wpAnyH_take (i := 1) (oi := ⟨(some 34), _, _, _, _, _⟩) (v := .int .i64 a) rfl (by kernel_rfl) (by kernel_rfl) (by kernel_rfl) (fun _ _ _ h => h) (Or.inl ⟨by rfl, ?yr4_1⟩) hHeld ?_
    case yr4_1 => (intro W0 hSw; go_simp; try with_reducible rfl)
    try simp only [pu]
    refine wpAnyH_take (i := 2) (oi := ⟨(some 35), _, _, _, _, _⟩) (v := .pointer (some ⟨w1.heap.size, a.toNat, none⟩)) rfl (by kernel_rfl) (by kernel_rfl) (by kernel_rfl) (fun _ _ _ h => h) (Or.inl ⟨by rfl, ?yr4_2⟩) hHeld ?_
    case yr4_2 => (intro W0 hSw; go_simp; try with_reducible rfl)
    try simp only [pu]
    refine wpAnyH_take (i := 3) (oi := ⟨(some 36), _, _, _, _, _⟩) (v := .int .i64 (pa : Nat)) rfl (by kernel_rfl) (by kernel_rfl) (by kernel_rfl) (fun _ _ _ h => h) (Or.inl ⟨by rfl, ?yr4_3⟩) hHeld ?_
    case yr4_3 => (intro W0 hSw; have cc := fa _ hSw; go_simp; try with_reducible rfl)
    try simp only [pu]
    refine wpAnyH_take (i := 4) (oi := ⟨(some 37), _, _, _, _, _⟩) (v := .slice (some ⟨w1.heap.size, 0, none⟩) n n) rfl (by kernel_rfl) (by kernel_rfl) (by kernel_rfl) (fun _ _ _ h => h) (Or.inl ⟨by rfl, ?yr4_4⟩) hHeld ?_
    case yr4_4 => (intro W0 hSw; go_simp; try with_reducible rfl)
    try simp only [pu]
    refine wpAnyH_take (i := 5) (oi := ⟨(some 38), _, _, _, _, _⟩) (v := .int .i64 b) rfl (by kernel_rfl) (by kernel_rfl) (by kernel_rfl) (fun _ _ _ h => h) (Or.inl ⟨by rfl, ?yr4_5⟩) hHeld ?_
    case yr4_5 => (intro W0 hSw; go_simp; try with_reducible rfl)
    try simp only [pu]
    refine wpAnyH_take (i := 6) (oi := ⟨(some 39), _, _, _, _, _⟩) (v := .pointer (some ⟨w1.heap.size, b.toNat, none⟩)) rfl (by kernel_rfl) (by kernel_rfl) (by kernel_rfl) (fun _ _ _ h => h) (Or.inl ⟨by rfl, ?yr4_6⟩) hHeld ?_
    case yr4_6 => (intro W0 hSw; go_simp; try with_reducible rfl)
    try simp only [pu]
    refine wpAnyH_take (i := 7) (oi := ⟨(some 40), _, _, _, _, _⟩) (v := .int .i64 (pb : Nat)) rfl (by kernel_rfl) (by kernel_rfl) (by kernel_rfl) (fun _ _ _ h => h) (Or.inl ⟨by rfl, ?yr4_7⟩) hHeld ?_
    case yr4_7 => (intro W0 hSw; have cc := fb _ hSw; go_simp; try with_reducible rfl)
    try simp only [pu]
    refine wpAnyH_take (i := 8) (oi := ⟨(some 41), _, _, _, _, _⟩) (v := .bool o) rfl (by kernel_rfl) (by kernel_rfl) (by kernel_rfl) (fun _ _ _ h => h) (Or.inl ⟨by rfl, ?yr4_8⟩) hHeld ?_
    case yr4_8 => (intro W0 hSw; go_simp; rw [HE.out]; try with_reducible rfl)
    try simp only [pu]
    refine wpAnyH_take (i := 9) (oi := ⟨(some 6), _, _, _, _, _⟩) (v := .bool o) rfl (by kernel_rfl) (by kernel_rfl) (by kernel_rfl) (fun _ _ _ h => h) (Or.inl ⟨by rfl, ?yr4_9⟩) hHeld ?_
    case yr4_9 => (intro W0 hSw; go_simp; try with_reducible rfl)
    try simp only [pu]
    refine wpAnyH_done (by kernel_rfl) ?_ _
    go_wp2
    go_ret
    exact ⟨rfl, below_next (below_next hb1 hb1.size hb2) (below_next hb1 hb1.size hb2).size hHeld⟩
end Go.Proofs.Ytknmccpoheekmaa
