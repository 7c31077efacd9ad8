/-
  Law KnowSealed: what stands only sealed by a key that is known nowhere stays unknown. Conditions: none.
-/
import Derived.Test.YtknmccpoheekmaaKnX
import Derived.Test.YtknmccpoheekmaaKnP
import Derived.Test.YtknmccpoheekmaaKnZ
import Derived.Test.YtknmccpoheekmaaKnQ
import Derived.Test.YtknmccpoheekmaaEqB
namespace Go.Proofs.Ytknmccpoheekmaa
open Go.RowKit

theorem wpList_append_w {P : Program} (w : World) {ops : Array Oper} {rest : List Oper} {o : Oper} {a : Act} {Q : Exit → Act → World → Prop} (hw : Region.wanted o (yielded ops a.tmps) = true) (s x : Operand) (t tn : TypeId)
    (ho : o.op = .call { callee := .builtin .append, args := #[s, x], argTypes := #[t, tn] }) (vs vx : Value) (hs : a.eval s = vs) (hx : a.eval x = vx)
    (v' : Value) (w' : World) (hr : (Builtin.append_ #[t, tn] o.type #[vs, vx]).run P w = .ok v' w') (h : wpList P ops Q rest (a.put o.dst v') w') : wpList P ops Q (o :: rest) a w :=
  wpList_wanted hw fun _ hK => Lib.wp_append_run w s x t tn ho vs vx hs hx v' w' hr (hK _ _ h)
theorem Iwo.next {w w' : World} {B n c : Nat} {A : Option Addr} {l : List Int} (h : Iwo w B A n c l) (hb : Below w.heap.size w w') : Iwo w' B A n c l := by
  refine ⟨⟨h.1.1, ?_⟩, h.2⟩
  rcases h.1.2 with h1 | ⟨g, cap, cur, h1, h2, hg, h3⟩
  · exact .inl h1
  · exact .inr ⟨g, cap, cur, h1, h2, (hb.block g (Array.getElem?_eq_some_iff.1 hg).1).trans hg, h3⟩
def bxT (n : Nat) : List Th := [⟨1, 0, 0, 0⟩, ⟨1, 0, 0, 0⟩, ⟨3, n, (n : Int) + 1, 0⟩]
theorem bx_good {t : List Th} {n : Nat} (hg : goodT t = true) (hl : t.length = n) (hn : n ≤ 50) : goodT (t ++ bxT n) = true := by
  rw [goodT, Bool.and_eq_true] at hg
  rw [goodT, goodFrom_app, hg.2, Bool.and_eq_true, decide_eq_true_iff, Nat.zero_add, hl]
  refine ⟨by simp [bxT, hl]; omega, ?_⟩
  simp only [bxT, goodFrom, fitsT, below]
  simp
  omega
theorem bx_at {t : List Th} {n : Nat} (hl : t.length = n) : (t ++ bxT n)[n]? = some ⟨1, 0, 0, 0⟩ ∧ (t ++ bxT n)[n + 1]? = some ⟨1, 0, 0, 0⟩ ∧ (t ++ bxT n)[n + 2]? = some ⟨3, n, ((n + 1 : Nat) : Int), 0⟩ := by
  subst hl
  refine ⟨?_, ?_, ?_⟩
  · rw [List.getElem?_append_right (Nat.le_refl _), Nat.sub_self]; rfl
  · rw [List.getElem?_append_right (by omega), show t.length + 1 - t.length = 1 by omega]; rfl
  · rw [List.getElem?_append_right (by omega), show t.length + 2 - t.length = 2 by omega]; rfl
def lowK (n : Nat) (kn : List Int) : List Int := kn.filter fun x => decide (x < (n : Int))
section
variable {t : List Th} {n : Nat} {kn l : List Int} (hg : goodT (t ++ bxT n) = true) (hl : t.length = n)
include hg hl
theorem bx_stays (h : AllIs (t ++ bxT n) (lowK n kn ++ [(n : Int) + 2]) l) : decide ((n : Int) + 2 ∈ l) = true ∧ decide ((n : Int) + 1 ∈ l) = false ∧ decide ((n : Int) ∈ l) = false := by
  have hlen : (t ++ bxT n).length = n + 3 := by simp [bxT, hl]
  have h1 := know_own hg h (k := (n : Int) + 2) (by simp) (by rw [below, hlen, decide_eq_true (by omega), decide_eq_true (by omega)]; rfl)
  have h2 := sealed_stays hg hlen (bx_at hl).1 (bx_at hl).2.1 (bx_at hl).2.2 (fun k hk _ => by
    rcases List.mem_append.1 hk with hk | hk
    · left
      have := (List.mem_filter.1 hk).2
      simpa using this
    · right
      simp only [List.mem_cons, List.not_mem_nil, or_false] at hk
      rw [hk]; simp) h
  refine ⟨decide_eq_true h1, decide_eq_false ?_, decide_eq_false h2.1⟩
  have := h2.2
  simpa using this
theorem bx_opens (h : AllIs (t ++ bxT n) (lowK n kn ++ [(n : Int) + 2] ++ [(n : Int)]) l) : decide ((n : Int) + 1 ∈ l) = true := by
  have hlen : (t ++ bxT n).length = n + 3 := by simp [bxT, hl]
  have h1 := know_own hg h (k := (n : Int) + 2) (by simp) (by rw [below, hlen, decide_eq_true (by omega), decide_eq_true (by omega)]; rfl)
  have h2 := know_own hg h (k := (n : Int)) (by simp) (by rw [below, hlen, decide_eq_true (by omega), decide_eq_true (by omega)]; rfl)
  have h3 := know_open hg h (bx_at hl).2.2 rfl (by simpa using h1) h2
  refine decide_eq_true ?_
  simpa using h3
end
set_option maxRecDepth 100000 in
set_option maxHeartbeats 4000000 in
theorem walk_KnowSealed (w : World) (A : Option Addr) (t : List Th) (n c : Nat) (ht : ThP w w.heap.size A t) (et : t.length = n) (_ : n ≤ c) (A2 : Option Addr) (kn : List Int) (m c2 : Nat) (hk : InP w w.heap.size A2 kn) (ek : kn.length = m) (_ : m ≤ c2) :
    Calls Try.prog 6 #[.slice A n c, .slice A2 m c2] w fun e w' => e = .returned (.bool true) ∧ Below w.heap.size w w' := by
  have V0 := vlt (kawake_any w)
  have HT := Lib.hid et
  have HK := Lib.hid ek
  clear et ek
  by_cases h1 : n ≤ 50
  case neg =>
    have zz : (50 : Int) < (n : Int) := by omega
    clear hk ht
    go_enter Try.func6, Try.ntmps6
    go_wp2_with (go_at_call 8; refine V0.out.mono ?_; rintro e w1 ⟨rfl, hb0⟩; clear V0)
    go_ret
    exact ⟨rfl, hb0⟩
  have z1 : ¬ (50 : Int) < (n : Int) := by omega
  by_cases h2 : m ≤ 50
  case neg =>
    have zz : (50 : Int) < (m : Int) := by omega
    clear hk ht
    go_enter Try.func6, Try.ntmps6
    go_wp2_with (go_at_call 8; refine V0.out.mono ?_; rintro e w1 ⟨rfl, hb0⟩; clear V0)
    go_ret
    exact ⟨rfl, hb0⟩
  have z2 : ¬ (50 : Int) < (m : Int) := by omega
  obtain ⟨o, ho⟩ : ∃ o, goodT t = o := ⟨_, rfl⟩
  have HO := vlt ho
  cases o with
  | false =>
    clear hk ho
    go_enter Try.func6, Try.ntmps6
    go_wp2_with (first
      | (go_at_call 8; refine V0.out.mono ?_; rintro e w1 ⟨rfl, hb0⟩; have V1 := vlt (kgood_any c (ht.next hb0) HT.out (by omega) HO.out); clear V0)
      | (go_at_call 12; refine V1.out.mono ?_; rintro e w2 ⟨rfl, hx2⟩; have hb2 := below_next hb0 hb0.size hx2; clear V1))
    go_ret
    exact ⟨rfl, hb2⟩
  | true =>
  clear ho
  have hg := bx_good HO.out HT.out h1
  obtain ⟨l, hl⟩ := all_there (t ++ bxT n) (lowK n kn ++ [(n : Int) + 2])
  obtain ⟨l2, hl2⟩ := all_there (t ++ bxT n) (lowK n kn ++ [(n : Int) + 2] ++ [(n : Int)])
  have F1 := vlt (bx_stays hg HT.out hl)
  have F2 := vlt (bx_opens hg HT.out hl2)
  have HL := vlt hl
  have HL2 := vlt hl2
  have HU := Lib.hid (show (t ++ bxT n).length = n + 3 by simp [bxT, HT.out])
  clear hg hl hl2
  go_enter Try.func6, Try.ntmps6
  go_upto_region 6 with (first
    | (go_at_call 8; refine V0.out.mono ?_; rintro e w1 ⟨rfl, hb0⟩; have V1 := vlt (kgood_any c (ht.next hb0) HT.out (by omega) HO.out); clear V0)
    | (go_at_call 12; refine V1.out.mono ?_; rintro e w2 ⟨rfl, hx2⟩; have hb2 := below_next hb0 hb0.size hx2; clear V1))
  have b0 : Below w2.heap.size w2 (w2.alloc (.cells #[] 24)) := (Below.refl _ _).alloc (Nat.le_refl _) _
  obtain ⟨A5, c5, w4, hr4, ho4, hb4⟩ := two_app (two_made w2) (by rw [World.size_alloc]; omega) c ((ht.next hb2).next b0) HT.out (by omega)
  have b4 := b0.trans hb4
  have b4' := b4.alloc b4.size (.cells #[.int .i64 1, .int .i64 0, .int .i64 0, .int .i64 0, .int .i64 1, .int .i64 0, .int .i64 0, .int .i64 0, .int .i64 3, .int .i64 (n : Int), .int .i64 ((n : Int) + 1), .int .i64 0] 24)
  have hp4 : ThP (w4.alloc (.cells #[.int .i64 1, .int .i64 0, .int .i64 0, .int .i64 0, .int .i64 1, .int .i64 0, .int .i64 0, .int .i64 0, .int .i64 3, .int .i64 (n : Int), .int .i64 ((n : Int) + 1), .int .i64 0] 24)) (w4.alloc (.cells #[.int .i64 1, .int .i64 0, .int .i64 0, .int .i64 0, .int .i64 1, .int .i64 0, .int .i64 0, .int .i64 0, .int .i64 3, .int .i64 (n : Int), .int .i64 ((n : Int) + 1), .int .i64 0] 24)).heap.size (some ⟨w4.heap.size, 0, none⟩) (bxT n) := thp_row (l := bxT n) (s := []) (Lib.hid (heap_alloc_new w4 (.cells #[.int .i64 1, .int .i64 0, .int .i64 0, .int .i64 0, .int .i64 1, .int .i64 0, .int .i64 0, .int .i64 0, .int .i64 3, .int .i64 (n : Int), .int .i64 ((n : Int) + 1), .int .i64 0] 24)))
  obtain ⟨A6, c6, w5, hr5, ho5, hb5⟩ := two_app (m := 3) (ho4.alloc _) b4'.size 3 hp4 rfl (by omega)
  have b5 := b4'.trans hb5
  rw [List.nil_append] at ho5
  have R4 := vlt hr4
  have R5 := vlt hr5
  rw [Nat.zero_add] at R4 R5
  have hb6 := below_next hb2 hb2.size b5
  have ht5 := ho5.thp
  have hk5 := hk.next hb6
  clear hr4 hr5 ho4 ho5 hb4 hb5 b0 b4 b4' hp4 b5
  go_upto_region 8 with (first
    | (at_builtin; refine Lib.wpList_append_run _ rfl _ _ _ _ rfl _ _ rfl rfl _ _ R4.out ?_; clear R4)
    | (at_builtin; refine Lib.wpList_append_run _ rfl _ _ _ _ rfl _ _ rfl rfl _ _ R5.out ?_; clear R5))
  go_wp2
  go_loopg [7, 8] m (fun k s7 s8 wr => ∃ (i : Nat) (A : Option Addr) (q c : Nat) (kl : List Int), s7 = .slice A q c ∧ s8 = .int .i64 i ∧ m - i < k + 1 ∧ i ≤ m ∧ q ≤ i ∧ Vlt (Iwo wr w5.heap.size A q c kl) ∧ Vlt (kl = lowK n (kn.take i)) ∧ Below w5.heap.size w5 wr)
  case atStart => exact ⟨0, none, 0, 0, [], rfl, rfl, by omega, Nat.zero_le _, Nat.le_refl _, vlt (Iwo.nil _ _), vlt rfl, Below.refl _ _⟩
  case round =>
    obtain ⟨i, A7, q, c7, kl, rfl, rfl, hkk, hin, hqi, H1, HLK, hbr⟩ := hrel
    by_cases hlt : i < m
    · have hltz : (i : Int) < (m : Int) := by omega
      obtain ⟨g, o, v, rfl, hg, HV, cc⟩ := (hk5.next hbr).at_ (i := i) (by rw [HK.out]; omega)
      have htake : Vlt (kn.take (i + 1) = kn.take i ++ [v]) := vlt (by rw [List.take_add_one, HV.out]; rfl)
      by_cases hv : v < (n : Int)
      · obtain ⟨A', c', w7, hrun, hT7, hb7⟩ := iwo_push H1.out hbr.size (by omega) v
        have VR := vlt hrun
        have H7 := vlt hT7
        have HL3 : Vlt (kl ++ [v] = lowK n (kn.take (i + 1))) := vlt (by rw [htake.out, lowK, List.filter_append, HLK.out, lowK]; simp [hv])
        clear hrun hT7
        go_wp2_with (at_builtin; refine Lib.wpList_append_run _ rfl _ _ _ _ rfl _ _ rfl rfl _ _ VR.out ?_)
        have hb8 := hbr.trans hb7
        go_roundg (m - (i + 1))
        case measure => omega
        case rel => exact ⟨i + 1, A', q + 1, c', _, by go_num, by go_num, by omega, by omega, by omega, H7, HL3, hb8⟩
      · have HL3 : Vlt (kl = lowK n (kn.take (i + 1))) := vlt (by rw [htake.out, lowK, List.filter_append, HLK.out, lowK]; simp [hv])
        go_wp2
        go_roundg (m - (i + 1))
        case measure => omega
        case rel => exact ⟨i + 1, A7, q, c7, kl, rfl, by go_num, by omega, by omega, by omega, H1, HL3, hbr⟩
    · have hltz : ¬ (i : Int) < (m : Int) := by omega
      have HE : Vlt (kl = lowK n kn) := vlt (by rw [HLK.out, List.take_of_length_le (by rw [HK.out]; omega)])
      obtain ⟨A8, c8, w8, hr8, ho8, hb8⟩ := iwo_push H1.out hbr.size (by omega) ((n : Int) + 2)
      have b8 := hbr.trans hb8
      rw [HE.out] at ho8
      have R8 := vlt hr8
      have H8 := vlt ho8
      have HL8 := Lib.hid ho8.len
      have hb9 := below_next hb6 hb6.size b8
      have ht9 := ht5.next b8
      have hk9 := ho8.inp
      have V2 := vlt (kcan_at c6 c8 ht9 HU.out (by omega) hk9 HL8.out (by omega) HL.out ((n : Int) + 2) F1.out.1)
      clear hr8 ho8 hb8
      go_upto_region 14 with (first
        | (at_builtin; refine Lib.wpList_append_run _ rfl _ _ _ _ rfl _ _ rfl rfl _ _ R8.out ?_; clear R8))
      go_wp2_with (first
        | (at_builtin; refine wpList_append_w _ (by kernel_rfl) _ _ _ _ rfl _ _ rfl rfl _ _ R12.out ?_; clear R12)
        | (go_at_call 13; refine V2.out.mono ?_; rintro e w10 ⟨rfl, hx10⟩; have hb10 := below_next hb9 hb9.size hx10; have ht10 := ht9.next hx10; have hk10 := hk9.next hx10; have V3 := vlt (kcan_at c6 c8 ht10 HU.out (by omega) hk10 HL8.out (by omega) HL.out ((n : Int) + 1) F1.out.2.1); clear V2)
        | (go_at_call 13; refine V3.out.mono ?_; rintro e w11 ⟨rfl, hx11⟩; have hb11 := below_next hb10 hb10.size hx11; have ht11 := ht10.next hx11; have hk11 := hk10.next hx11; have V4 := vlt (kcan_at c6 c8 ht11 HU.out (by omega) hk11 HL8.out (by omega) HL.out (n : Int) F1.out.2.2); clear V3)
        | (go_at_call 13; refine V4.out.mono ?_; rintro e w12 ⟨rfl, hx12⟩; have hb12 := below_next hb11 hb11.size hx12; have hw12 := below_next hx10 hx10.size (below_next hx11 hx11.size hx12); have ho12 : Iwo w12 w5.heap.size A8 (q + 1) c8 (lowK n kn ++ [(n : Int) + 2]) := H8.out.next hw12; obtain ⟨A13, c13, w13, hr13, ho13, hb13⟩ := iwo_push ho12 (Nat.le_trans b8.size hw12.size) (by omega) (n : Int); have R12 := vlt hr13; have HL13 := Lib.hid ho13.len; have b13 := (b8.trans (hw12.mono b8.size)).trans hb13; have ht13 := ht5.next b13; have hk13 := ho13.inp; have V5 := vlt (kcan_at c6 c13 ht13 HU.out (by omega) hk13 HL13.out (by omega) HL2.out ((n : Int) + 1) F2.out); have hb14 := below_next hb6 hb6.size b13; clear V4 hr13)
        | (go_at_call 13; refine V5.out.mono ?_; rintro e w15 ⟨rfl, hx15⟩; have hb15 := below_next hb14 hb14.size hx15; clear V5))
      go_ret
      exact ⟨rfl, hb15⟩
end Go.Proofs.Ytknmccpoheekmaa
