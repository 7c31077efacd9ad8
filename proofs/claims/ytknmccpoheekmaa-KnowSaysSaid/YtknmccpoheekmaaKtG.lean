/-
  Contract of the document's own GoodTable. No statement is proved here. Conditions: fewer than 2^48 things.
-/
import Derived.Test.YtknmccpoheekmaaKnM
import Derived.Test.YtknmccpoheekmaaReg
import Derived.Test.YtknmccpoheekmaaMix
import Derived.Test.YtknmccpoheekmaaWpl
namespace Go.Proofs.Ytknmccpoheekmaa
open Go.RowKit

set_option maxRecDepth 100000 in
set_option maxHeartbeats 8000000 in
theorem rgood_any {w : World} {A : Option Addr} {t : List Th} {n : Nat} (c : Nat) (ht : ThP w w.heap.size A t) (hl : t.length = n) (hn : n ≤ 281474976710656) {o : Bool} (ho : goodT t = o) :
    Calls Try.prog 18 #[.slice A n c] w fun e w' => e = .returned (.bool o) ∧ Below w.heap.size w w' := by
  have HN := Lib.hid hl
  have HO := vlt ho
  clear hl ho
  go_enter Try.func18, Try.ntmps18
  go_wp2
  go_loopg [3] n (fun k s3 wr => ∃ (i : Nat), s3 = .int .i64 i ∧ n - i < k + 1 ∧ i ≤ n ∧ Vlt (∀ (q : Nat) x, q < i → t[q]? = some x → fitsT x (q : Int) = true) ∧ Below w.heap.size w wr)
  case atStart => exact ⟨0, rfl, by omega, Nat.zero_le _, vlt (fun q x h => by omega), Below.refl _ _⟩
  case round =>
    obtain ⟨i, rfl, hk, hin, HQ, hb⟩ := hrel
    by_cases hlt : i < n
    · have hltz : (i : Int) < (n : Int) := by omega
      obtain ⟨g, o2, x, rfl, hg, HX, c0, c1, c2, c4⟩ := (ht.below hb).at_ (i := i) (by rw [HN.out]; omega)
      obtain ⟨r, hr⟩ : ∃ r, fitsT x (i : Int) = r := ⟨_, rfl⟩
      have HR := vlt hr
      have hbs := hb.size
      have fd0 : ∀ W', Below wr.heap.size wr W' → W'.cell? ⟨g, o2 + i * 4, none⟩ = some (.int .i64 x.kind) := fun W' h => (h.cell (p := ⟨g, _, none⟩) (show g < wr.heap.size by omega)).trans c0
      have fd1 : ∀ W', Below wr.heap.size wr W' → W'.cell? ⟨g, o2 + i * 4 + 1, none⟩ = some (.int .i64 x.a) := fun W' h => (h.cell (p := ⟨g, _, none⟩) (show g < wr.heap.size by omega)).trans c1
      have fd2 : ∀ W', Below wr.heap.size wr W' → W'.cell? ⟨g, o2 + i * 4 + 2, none⟩ = some (.int .i64 x.b) := fun W' h => (h.cell (p := ⟨g, _, none⟩) (show g < wr.heap.size by omega)).trans c2
      clear hr
      have VB : Vlt (r = false → o = false) := vlt (fun e => by
        rw [← HO.out, goodT, goodFrom_no HX.out (by rw [HR.out, e]), Bool.and_false])
      have VQ : Vlt (r = true → ∀ (q : Nat) y, q < i + 1 → t[q]? = some y → fitsT y (q : Int) = true) := vlt (fun e q y hq hy => by
        rcases Nat.lt_or_eq_of_le (Nat.le_of_lt_succ hq) with h | rfl
        · exact HQ.out q y h hy
        · rw [HX.out] at hy; injection hy with hy; rw [← hy, HR.out, e])
      by_cases k1 : x.kind < 1
      · skip
        have VO := vlt (VB.out (by rw [← HR.out, fitsT]; rw [if_neg (by omega), if_neg (by omega), if_neg (by omega)]))
        clear VB VQ HR
        go_upto_region 4 with fail
        simp only [List.append_eq, List.cons_append, List.nil_append]
        have hb2 := hb
        go_wp2
        go_ret
        rw [VO.out]
        exact ⟨rfl, hb2⟩
      by_cases k4 : 4 < x.kind
      · skip
        have VO := vlt (VB.out (by rw [← HR.out, fitsT]; rw [if_neg (by omega), if_neg (by omega), if_neg (by omega)]))
        clear VB VQ HR
        go_upto_region 4 with fail
        simp only [List.append_eq, List.cons_append, List.nil_append]
        have hb2 := hb
        go_wp2
        go_ret
        rw [VO.out]
        exact ⟨rfl, hb2⟩
      by_cases k2 : 1 < x.kind
      case neg =>
        have k5 : ¬ x.kind = 2 := by omega
        have k6 : ¬ x.kind = 3 := by omega
        have HQ2 := vlt (VQ.out (by rw [← HR.out, fitsT]; rw [if_pos (by omega)]))
        clear VB VQ HR HQ
        go_upto_region 4 with fail
        simp only [List.append_eq, List.cons_append, List.nil_append]
        have hb2 := hb
        go_wp2
        go_roundg (n - (i + 1))
        case measure => omega
        case rel => exact ⟨i + 1, by go_num, by omega, by omega, HQ2, hb2⟩
      by_cases a0 : x.a < 0
      · skip
        have VO := vlt (VB.out (by rw [← HR.out, fitsT]; rw [if_neg (by omega)]; have hz : below x.a (i : Int) = false := (by rw [below]; simp; omega); by_cases h23 : x.kind = 2 ∨ x.kind = 3; (rw [if_pos h23, hz]; rfl); (rw [if_neg h23, if_pos (by omega), hz])))
        clear VB VQ HR
        go_upto_region 4 with fail
        simp only [List.append_eq, List.cons_append, List.nil_append]
        have hb2 := hb
        go_wp2
        go_ret
        rw [VO.out]
        exact ⟨rfl, hb2⟩
      by_cases a1 : (i : Int) ≤ x.a
      · skip
        have VO := vlt (VB.out (by rw [← HR.out, fitsT]; rw [if_neg (by omega)]; have hz : below x.a (i : Int) = false := (by rw [below]; simp; omega); by_cases h23 : x.kind = 2 ∨ x.kind = 3; (rw [if_pos h23, hz]; rfl); (rw [if_neg h23, if_pos (by omega), hz])))
        clear VB VQ HR
        go_upto_region 4 with fail
        simp only [List.append_eq, List.cons_append, List.nil_append]
        have hb2 := hb
        go_wp2
        go_ret
        rw [VO.out]
        exact ⟨rfl, hb2⟩
      have ha : Vlt (below x.a (i : Int) = true) := vlt (by rw [below]; simp; omega)
      by_cases k5 : x.kind = 2
      · skip
        by_cases b0 : x.b < 0
        · skip
          have VO := vlt (VB.out (by rw [← HR.out, fitsT]; rw [if_neg (by omega), if_pos (by omega), ha.out, show below x.b (i : Int) = false by rw [below]; simp; omega]; rfl))
          clear VB VQ HR
          go_upto_region 4 with fail
          simp only [List.append_eq, List.cons_append, List.nil_append]
          have hb2 := hb
          go_wp2
          go_ret
          rw [VO.out]
          exact ⟨rfl, hb2⟩
        by_cases b1 : (i : Int) ≤ x.b
        · skip
          have VO := vlt (VB.out (by rw [← HR.out, fitsT]; rw [if_neg (by omega), if_pos (by omega), ha.out, show below x.b (i : Int) = false by rw [below]; simp; omega]; rfl))
          clear VB VQ HR
          go_upto_region 4 with fail
          simp only [List.append_eq, List.cons_append, List.nil_append]
          have hb2 := hb
          go_wp2
          go_ret
          rw [VO.out]
          exact ⟨rfl, hb2⟩
        have HQ2 := vlt (VQ.out (by rw [← HR.out, fitsT]; rw [if_neg (by omega), if_pos (by omega), ha.out, show below x.b (i : Int) = true by rw [below]; simp; omega]; rfl))
        clear VB VQ HR HQ
        go_upto_region 4 with fail
        simp only [List.append_eq, List.cons_append, List.nil_append]
        have hb2 := hb
        go_wp2
        go_roundg (n - (i + 1))
        case measure => omega
        case rel => exact ⟨i + 1, by go_num, by omega, by omega, HQ2, hb2⟩
      by_cases k6 : x.kind = 3
      · skip
        by_cases b0 : x.b < 0
        · skip
          have VO := vlt (VB.out (by rw [← HR.out, fitsT]; rw [if_neg (by omega), if_pos (by omega), ha.out, show below x.b (i : Int) = false by rw [below]; simp; omega]; rfl))
          clear VB VQ HR
          go_upto_region 4 with fail
          simp only [List.append_eq, List.cons_append, List.nil_append]
          have hb2 := hb
          go_wp2
          go_ret
          rw [VO.out]
          exact ⟨rfl, hb2⟩
        by_cases b1 : (i : Int) ≤ x.b
        · skip
          have VO := vlt (VB.out (by rw [← HR.out, fitsT]; rw [if_neg (by omega), if_pos (by omega), ha.out, show below x.b (i : Int) = false by rw [below]; simp; omega]; rfl))
          clear VB VQ HR
          go_upto_region 4 with fail
          simp only [List.append_eq, List.cons_append, List.nil_append]
          have hb2 := hb
          go_wp2
          go_ret
          rw [VO.out]
          exact ⟨rfl, hb2⟩
        have HQ2 := vlt (VQ.out (by rw [← HR.out, fitsT]; rw [if_neg (by omega), if_pos (by omega), ha.out, show below x.b (i : Int) = true by rw [below]; simp; omega]; rfl))
        clear VB VQ HR HQ
        go_upto_region 4 with fail
        simp only [List.append_eq, List.cons_append, List.nil_append]
        have hb2 := hb
        go_wp2
        go_roundg (n - (i + 1))
        case measure => omega
        case rel => exact ⟨i + 1, by go_num, by omega, by omega, HQ2, hb2⟩
      have k7 : x.kind = 4 := by omega
      have HQ2 := vlt (VQ.out (by rw [← HR.out, fitsT]; rw [if_neg (by omega), if_neg (by omega), if_pos k7]; exact ha.out))
      clear VB VQ HR HQ
      go_upto_region 4 with fail
      simp only [List.append_eq, List.cons_append, List.nil_append]
      have hb2 := hb
      go_wp2
      go_roundg (n - (i + 1))
      case measure => omega
      case rel => exact ⟨i + 1, by go_num, by omega, by omega, HQ2, hb2⟩
    · have hltz : ¬ (i : Int) < (n : Int) := by omega
      have HG : Vlt (goodFrom 0 t = true) := vlt (goodFrom_of fun q x hx => by
        rw [Nat.zero_add]
        exact HQ.out q x (by have := (List.getElem?_eq_some_iff.1 hx).1; rw [HN.out] at this; omega) hx)
      have VO : Vlt (o = decide ((n : Int) ≤ 500)) := vlt (by
        rw [← HO.out, goodT, HG.out, Bool.and_true, HN.out]
        congr 1
        exact propext ⟨fun h => by omega, fun h => by omega⟩)
      go_wp2
      go_ret
      rw [VO.out]
      exact ⟨rfl, hb⟩
end Go.Proofs.Ytknmccpoheekmaa
