/-
  ChachaQuarter: the law's Go text returns true, whatever the words. Conditions: none beyond the row's own.
-/
import Derived.Test.YtcdjpjljaoeakaaChW
import Derived.Test.YtcdjpjljaoeakaaChX
import Derived.Laws.StructEq
namespace Go.Proofs.Ytcdjpjljaoeakaa
open Go.RowKit

theorem rl_sum (s : Nat) (hs : s ≤ 32) (x : Nat) (hx : x < 4294967296) : rl x s = x % 2 ^ (32 - s) * 2 ^ s + x / 2 ^ (32 - s) := by
  have e : (4294967296 : Nat) = 2 ^ (32 - s) * 2 ^ s := by rw [← Nat.pow_add, show 32 - s + s = 32 by omega]
  unfold rl
  rw [e, Nat.mul_mod_mul_right]
  refine nat_join s _ _ (Nat.mul_mod_left _ _) ?_
  exact Nat.div_lt_of_lt_mul (by rw [← e]; exact hx)
section
variable {P : Program} {t e n : Nat} (ht : P.underlying t = some (.array n e)) (he : P.underlying e = some (.int .u32)) (hs : (P.info? e).map (·.size) = some 1)
include ht he hs
theorem part_words (l : List Nat) (k : Nat) (hk : k < l.length) (w : World) : (part e (u32v l).toArray (k * 1)).run P w = .ok (.int .u32 ((natAt l k : Nat) : Int)) w := by
  obtain ⟨i, hi', hi2⟩ := Option.map_eq_some_iff.1 hs
  have h1 : (u32v l)[k]? = some (.int .u32 ((natAt l k : Nat) : Int)) := natAt_at rfl hk
  have _ := ht
  simp [part, isAgg, run_underlying he, h1]
theorem eq_words (l m : List Nat) (hl : l.length = n) (hm : m.length = n) (d : Nat) (w : World) : (Op.equalIn (d + 2) t (.agg (u32v l).toArray) (.agg (u32v m).toArray)).run P w = .ok (decide (l = m)) w := by
  obtain ⟨i, hi', hi2⟩ := Option.map_eq_some_iff.1 hs
  have hfor : ∀ (is : List Nat), (∀ k ∈ is, k < n) → (forIn (m := Sem) is ((none : Option Bool), ()) fun i _ => do
      let a ← part e (u32v l).toArray (i * 1)
      let b ← part e (u32v m).toArray (i * 1)
      let r ← Op.equalIn (d + 1) e a b
      if (!r) = true then pure (ForInStep.done (some false, ())) else pure (ForInStep.yield (none, ()))).run P w = .ok (if (∀ k ∈ is, natAt l k = natAt m k) then none else some false, ()) w := by
    intro is
    induction is with
    | nil => intro _; simp
    | cons k ks ih =>
      intro hk
      have hk1 : k < n := hk k (by simp)
      have h1 := part_words ht he hs l k (by omega) w
      have h1' := part_words ht he hs m k (by omega) w
      have h2 := ih (fun j hj => hk j (by simp [hj]))
      rw [List.forIn_cons]
      simp only [Sem.run_bind, h1, h1', Result.andThen_ok, run_equalIn_int w d e .u32 .u32 _ _ he]
      by_cases hkk : natAt l k = natAt m k
      · simp only [List.mem_cons, forall_eq_or_imp, hkk, true_and]
        simpa using h2
      · simp [hkk]
        intro h
        exact absurd (by omega : natAt l k = natAt m k) hkk
  rw [Op.equalIn]
  have hsz : (sizeOf e).run P w = .ok 1 w := by simp [sizeOf, typeInfo, hi', hi2]
  simp only [Sem.run_bind, run_underlying ht, Result.andThen_ok, hsz]
  have hr := hfor (List.range' 0 n) (fun k hk => by simpa using hk)
  simp only [Std.Legacy.Range.forIn_eq_forIn_range', Std.Legacy.Range.size, Nat.sub_zero, Nat.add_one_sub_one, Nat.div_one, hr]
  have hiff : (∀ k ∈ List.range' 0 n, natAt l k = natAt m k) ↔ l = m := by
    constructor
    · intro h
      apply List.ext_getElem (by omega)
      intro k h1 h2
      have := h k (by simp; omega)
      simpa [natAt, h1, h2] using this
    · rintro rfl _ _; rfl
  by_cases hlm : l = m
  · simp [hlm]
  · rw [if_neg (fun h => hlm (hiff.1 h))]
    simp [hlm]
theorem eql_words (l m : List Nat) (hl : l.length = n) (hm : m.length = n) (w : World) : (binOp .eql t (.agg (u32v l).toArray) (.agg (u32v m).toArray)).run P w = .ok (.bool (decide (l = m))) w := by
  rw [run_eql_struct, eq_words ht he hs l m hl hm 9998 w]
  rfl
end
theorem rl16_inj (x y : Nat) (hx : x < 4294967296) (hy : y < 4294967296) (h : rl x 16 = rl y 16) : x = y := by
  rw [rl_sum 16 (by decide) x hx, rl_sum 16 (by decide) y hy] at h; omega
theorem rl12_inj (x y : Nat) (hx : x < 4294967296) (hy : y < 4294967296) (h : rl x 12 = rl y 12) : x = y := by
  rw [rl_sum 12 (by decide) x hx, rl_sum 12 (by decide) y hy] at h; omega
theorem rl8_inj (x y : Nat) (hx : x < 4294967296) (hy : y < 4294967296) (h : rl x 8 = rl y 8) : x = y := by
  rw [rl_sum 8 (by decide) x hx, rl_sum 8 (by decide) y hy] at h; omega
theorem rl7_inj (x y : Nat) (hx : x < 4294967296) (hy : y < 4294967296) (h : rl x 7 = rl y 7) : x = y := by
  rw [rl_sum 7 (by decide) x hx, rl_sum 7 (by decide) y hy] at h; omega
theorem xor_inj (a b c : Nat) (h : a ^^^ c = b ^^^ c) : a = b := by
  have := congrArg (· ^^^ c) h
  simpa [Nat.xor_assoc, Nat.xor_self] using this
theorem qh_inj (r s : Nat) (hr : ∀ x y, x < 4294967296 → y < 4294967296 → rl x r = rl y r → x = y) (hs : ∀ x y, x < 4294967296 → y < 4294967296 → rl x s = rl y s → x = y)
    (a b c d a' b' c' d' : Nat) (ha : a < 4294967296) (hb : b < 4294967296) (hc : c < 4294967296) (hd : d < 4294967296) (ha' : a' < 4294967296) (hb' : b' < 4294967296) (hc' : c' < 4294967296) (hd' : d' < 4294967296)
    (h : qh r s a b c d = qh r s a' b' c' d') : a = a' ∧ b = b' ∧ c = c' ∧ d = d' := by
  obtain ⟨a1, h1⟩ : ∃ a1, a1 = (a + b) % 4294967296 := ⟨_, rfl⟩
  obtain ⟨d1, h2⟩ : ∃ d1, d1 = rl (d ^^^ a1) r := ⟨_, rfl⟩
  obtain ⟨c1, h3⟩ : ∃ c1, c1 = (c + d1) % 4294967296 := ⟨_, rfl⟩
  obtain ⟨b1, h4⟩ : ∃ b1, b1 = rl (b ^^^ c1) s := ⟨_, rfl⟩
  obtain ⟨a2, k1⟩ : ∃ a1, a1 = (a' + b') % 4294967296 := ⟨_, rfl⟩
  obtain ⟨d2, k2⟩ : ∃ d1, d1 = rl (d' ^^^ a2) r := ⟨_, rfl⟩
  obtain ⟨c2, k3⟩ : ∃ c1, c1 = (c' + d2) % 4294967296 := ⟨_, rfl⟩
  obtain ⟨b2, k4⟩ : ∃ b1, b1 = rl (b' ^^^ c2) s := ⟨_, rfl⟩
  rw [qh_eq r s a b c d a1 d1 c1 b1 h1 h2 h3 h4, qh_eq r s a' b' c' d' a2 d2 c2 b2 k1 k2 k3 k4] at h
  simp only [Prod.mk.injEq] at h
  obtain ⟨rfl, rfl, rfl, rfl⟩ := h
  have la : a1 < 4294967296 := by rw [h1]; exact Nat.mod_lt _ (by decide)
  have lc : c1 < 4294967296 := by rw [h3]; exact Nat.mod_lt _ (by decide)
  have eb : b = b' := xor_inj _ _ c1 (hs _ _ (xor32 hb lc) (xor32 hb' lc) (h4.symm.trans k4))
  have ed : d = d' := xor_inj _ _ a1 (hr _ _ (xor32 hd la) (xor32 hd' la) (h2.symm.trans k2))
  refine ⟨?_, eb, ?_, ed⟩
  · rw [h1, eb] at k1; omega
  · rw [h3] at k3; omega
theorem qr_inj (a b c d a' b' c' d' : Nat) (ha : a < 4294967296) (hb : b < 4294967296) (hc : c < 4294967296) (hd : d < 4294967296) (ha' : a' < 4294967296) (hb' : b' < 4294967296) (hc' : c' < 4294967296) (hd' : d' < 4294967296)
    (h : qr a b c d = qr a' b' c' d') : a = a' ∧ b = b' ∧ c = c' ∧ d = d' := by
  have l1 := qh_lt 16 12 a b c d hb hd
  have l2 := qh_lt 16 12 a' b' c' d' hb' hd'
  obtain ⟨e1, e2, e3, e4⟩ := qh_inj 8 7 rl8_inj rl7_inj _ _ _ _ _ _ _ _ l1.1 l1.2.1 l1.2.2.1 l1.2.2.2 l2.1 l2.2.1 l2.2.2.1 l2.2.2.2 h
  refine qh_inj 16 12 rl16_inj rl12_inj a b c d a' b' c' d' ha hb hc hd ha' hb' hc' hd' ?_
  exact Prod.ext e1 (Prod.ext e2 (Prod.ext e3 e4))
theorem list4 {l : List Nat} (h : l.length = 4) : ∃ a b c d, l = [a, b, c, d] := by
  match l, h with
  | [a, b, c, d], _ => exact ⟨a, b, c, d, rfl⟩

set_option maxRecDepth 100000 in
set_option maxHeartbeats 1000000 in
theorem walk_ChachaQuarter (w : World) (l : List Nat) (hl : l.length = 4) (hs : ∀ x ∈ l, x < 4294967296) (m : List Nat) (hm : m.length = 4) (ht : ∀ x ∈ m, x < 4294967296) :
    Calls Try.prog 7 #[.agg (u32v l).toArray, .agg (u32v m).toArray] w fun e w' => e = .returned (.bool true) ∧ Below w.heap.size w w' := by
  obtain ⟨W, hW, hgA, hgB, hbW, hsW⟩ := pair_new w (u32v l).toArray (u32v m).toArray 33 33
  have HW := Lib.hid hW
  have HAS := Lib.hid (show (u32v l).toArray.size = 4 by simp [u32v_len, hl])
  have HBS := Lib.hid (show (u32v m).toArray.size = 4 by simp [u32v_len, hm])
  have hsW1 : w.heap.size < W.heap.size := by have := hsW.out; omega
  have hsW2 : w.heap.size + 1 < W.heap.size := by have := hsW.out; omega
  have heq := eql_words Try.underlying33 Try.underlying23 Try.sizeU32 l m hl hm
  have HL := Lib.hid hl
  have HM := Lib.hid hm
  have hinj : Vlt (qr (natAt l 0) (natAt l 1) (natAt l 2) (natAt l 3) = qr (natAt m 0) (natAt m 1) (natAt m 2) (natAt m 3) ↔ l = m) := by
    refine vlt ⟨fun h => ?_, fun h => by rw [h]⟩
    obtain ⟨e0, e1, e2, e3⟩ := qr_inj _ _ _ _ _ _ _ _ (natAt_lt hs 0) (natAt_lt hs 1) (natAt_lt hs 2) (natAt_lt hs 3) (natAt_lt ht 0) (natAt_lt ht 1) (natAt_lt ht 2) (natAt_lt ht 3) h
    obtain ⟨a0, a1, a2, a3, rfl⟩ := list4 hl
    obtain ⟨b0, b1, b2, b3, rfl⟩ := list4 hm
    simp only [natAt] at e0 e1 e2 e3
    simp at e0 e1 e2 e3
    rw [e0, e1, e2, e3]
  have l1 := natAt_lt hs 1
  have l3 := natAt_lt hs 3
  have m1 := natAt_lt ht 1
  have m3 := natAt_lt ht 3
  clear hW hl hm hs ht
  go_enter Try.func7, Try.ntmps7
  go_upto_region 1 with fail
  rw [HW.out]
  go_wp2_with fail
  refine (awake_any W).mono ?_
  rintro e w1 ⟨rfl, hb1⟩
  have hgA1 : Hid (w1.heap[w.heap.size]? = some (.cells (u32v l).toArray 33 (0, 0))) := (hb1.block _ hsW1).trans hgA.out
  have hgB1 : Hid (w1.heap[w.heap.size + 1]? = some (.cells (u32v m).toArray 33 (0, 0))) := (hb1.block _ hsW2).trans hgB.out
  have ca0 := word_at hgA1.out 0 (by rw [HL.out]; decide)
  have ca1 := word_at hgA1.out 1 (by rw [HL.out]; decide)
  have ca2 := word_at hgA1.out 2 (by rw [HL.out]; decide)
  have ca3 := word_at hgA1.out 3 (by rw [HL.out]; decide)
  have cb0 := word_at hgB1.out 0 (by rw [HM.out]; decide)
  have cb1 := word_at hgB1.out 1 (by rw [HM.out]; decide)
  have cb2 := word_at hgB1.out 2 (by rw [HM.out]; decide)
  have cb3 := word_at hgB1.out 3 (by rw [HM.out]; decide)
  have hbw1 : Below w.heap.size w w1 := hbW.trans (hb1.mono (by omega))
  generalize natAt l 0 = a0 at *
  generalize natAt l 1 = a1 at *
  generalize natAt l 2 = a2 at *
  generalize natAt l 3 = a3 at *
  generalize natAt m 0 = b0 at *
  generalize natAt m 1 = b1 at *
  generalize natAt m 2 = b2 at *
  generalize natAt m 3 = b3 at *
  go_wp2_with fail
  refine (quarter_any a0 a1 a2 a3 _ l1 l3).mono ?_
  rintro e w' ⟨p, q, r, s, rfl, hqr, _, rfl⟩
  go_wp2_with fail
  refine (quarter_any b0 b1 b2 b3 _ m1 m3).mono ?_
  rintro e w' ⟨p', q', r', s', rfl, hqr', _, rfl⟩
  have hiff : l = m ↔ (p = p' ∧ q = q' ∧ r = r' ∧ s = s') := by rw [← hinj.out, hqr.out, hqr'.out]; simp
  obtain ⟨lm, hd⟩ : ∃ lm, lm = decide (l = m) := ⟨_, rfl⟩
  rw [← hd] at heq
  have HLM := Lib.hid (show lm = true ↔ (p = p' ∧ q = q' ∧ r = r' ∧ s = s') by rw [hd]; simp [hiff])
  clear hd hiff hinj hqr hqr'
  go_wp2_with (first
    | (with_reducible refine wpList_load_row rfl 33 (.tmp 2) rfl w.heap.size rfl 33 (u32v l).toArray (0, 0) _ hgA1.out Try.underlying33 rfl (by rw [HAS.out]; kernel_rfl) ?_)
    | (with_reducible refine wpList_load_row rfl 33 (.tmp 3) rfl (w.heap.size + 1) rfl 33 (u32v m).toArray (0, 0) _ hgB1.out Try.underlying33 rfl (by rw [HBS.out]; kernel_rfl) ?_))
  all_goals
    go_ret
    refine ⟨ret_bool ?_, hbw1⟩
    have h9 := HLM.out
    rcases Bool.eq_false_or_eq_true lm with h | h <;> simp_all <;> (try omega)
end Go.Proofs.Ytcdjpjljaoeakaa
