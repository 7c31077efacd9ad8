/-
  What a crash leaves of the program's file and of the document's own: the same bytes. Conditions: none.
-/
import Derived.Test.YtnpaodhcaeofnaaRkN
import Derived.Test.YtnpaodhcaeofnaaDkE
namespace Go.Proofs.Ytnpaodhcaeofnaa

def zf (keep k : Nat) (gs : List (List UInt8)) : List UInt8 := (zs keep k gs).flatten
theorem zs_snoc (keep : Nat) : ∀ (k : Nat) (gs : List (List UInt8)) (p : List UInt8), zs keep k (gs ++ [p]) = zs keep k gs ++ [zero keep (k + gs.length) p]
  | k, [], p => by simp [zs, zero]
  | k, g :: r, p => by
    rw [List.cons_append, zs, zs, zs_snoc keep (k + 1) r p]
    rw [show k + 1 + r.length = k + (g :: r).length by simp; omega]
    rfl
theorem zf_snoc (keep k : Nat) (gs : List (List UInt8)) (p : List UInt8) : zf keep k (gs ++ [p]) = zf keep k gs ++ zero keep (k + gs.length) p := by
  unfold zf; rw [zs_snoc]; simp
theorem zf_app (keep : Nat) : ∀ (k : Nat) (gs hs : List (List UInt8)), zf keep k (gs ++ hs) = zf keep k gs ++ zf keep (k + gs.length) hs
  | k, [], hs => by simp [zf, zs]
  | k, g :: r, hs => by
    have ih := zf_app keep (k + 1) r hs
    unfold zf at ih ⊢
    rw [List.cons_append, zs, zs, List.flatten_cons, List.flatten_cons, ih, List.append_assoc]
    rw [show k + 1 + r.length = k + (g :: r).length by simp; omega]
theorem stays_far (keep : Nat) {k : Nat} (h : 63 ≤ k) : stays keep k = stays keep 63 := by
  unfold stays; rw [Nat.min_eq_right h]; rfl
theorem zf_far (keep : Nat) : ∀ (k : Nat) (gs : List (List UInt8)), 63 ≤ k → zf keep k gs = zero keep 63 gs.flatten
  | k, [], h => by simp [zf, zs, zero]
  | k, g :: r, h => by
    have ih := zf_far keep (k + 1) r (by omega)
    unfold zf at ih ⊢
    rw [zs, List.flatten_cons, ih, stays_far keep h]
    unfold zero
    cases stays keep 63 <;> simp [List.replicate_append_replicate]
theorem lefts_snoc (keep tn : Nat) : ∀ (k a c : Nat) (gs : List (List UInt8)) (p : List UInt8), lefts keep tn k a c (gs ++ [p]) = if stays keep (k + gs.length) then a + gs.flatten.length + p.length - min tn p.length else lefts keep tn k a c gs
  | k, a, c, [], p => by simp [lefts]
  | k, a, c, g :: r, p => by
    rw [List.cons_append, lefts, lefts, lefts_snoc keep tn (k + 1) (a + g.length) _ r p]
    rw [show k + 1 + r.length = k + (g :: r).length by simp; omega]
    simp [Nat.add_assoc]
theorem lefts_app_far (keep tn : Nat) (hs0 : stays keep 63 = false) : ∀ (k a c : Nat) (gs hs : List (List UInt8)), 63 ≤ k + gs.length → lefts keep tn k a c (gs ++ hs) = lefts keep tn k a c gs
  | k, a, c, [], [], h => rfl
  | k, a, c, [], g :: r, h => by
    have hk : 63 ≤ k := by simpa using h
    have ih := lefts_app_far keep tn hs0 (k + 1) (a + g.length) c [] r (by simp; omega)
    rw [List.nil_append] at ih ⊢
    have e1 : lefts keep tn k a c (g :: r) = lefts keep tn (k + 1) (a + g.length) (if stays keep k then a + g.length - min tn g.length else c) r := rfl
    rw [e1, stays_far keep hk, hs0, if_neg (by simp), ih]
    rfl
  | k, a, c, g :: r, hs, h => by
    rw [List.cons_append, lefts, lefts]
    exact lefts_app_far keep tn hs0 _ _ _ r hs (by simp at h; omega)
theorem wr_zf (keep : Nat) (gs : List (List UInt8)) (p : List UInt8) : zf keep 0 (wr gs p) = zf keep 0 (gs ++ [p]) := by
  unfold wr
  split
  · rename_i h
    have e : gs = gs.take 63 ++ gs.drop 63 := (List.take_append_drop 63 gs).symm
    have hl : (gs.take 63).length = 63 := by rw [List.length_take]; omega
    rw [show gs.take 63 ++ [(gs.drop 63).flatten, p] = (gs.take 63 ++ [(gs.drop 63).flatten]) ++ [p] by simp, zf_snoc, zf_snoc, zf_snoc]
    have h1 : zf keep 0 gs = zf keep 0 (gs.take 63) ++ zero keep 63 (gs.drop 63).flatten := by
      conv => lhs; rw [e, zf_app, hl, zf_far keep (0 + 63) (gs.drop 63) (by omega)]
    rw [h1, hl]
    congr 1
    unfold zero
    rw [stays_far keep (show 63 ≤ 0 + (gs.take 63 ++ [(gs.drop 63).flatten]).length by rw [List.length_append, hl]; omega), stays_far keep (show 63 ≤ 0 + gs.length by omega)]
  · rfl
theorem wr_lefts (keep tn a : Nat) (gs : List (List UInt8)) (p : List UInt8) : lefts keep tn 0 a a (wr gs p) = lefts keep tn 0 a a (gs ++ [p]) := by
  unfold wr
  split
  · rename_i h
    have e : gs = gs.take 63 ++ gs.drop 63 := (List.take_append_drop 63 gs).symm
    have hl : (gs.take 63).length = 63 := by rw [List.length_take]; omega
    rw [show gs.take 63 ++ [(gs.drop 63).flatten, p] = (gs.take 63 ++ [(gs.drop 63).flatten]) ++ [p] by simp, lefts_snoc, lefts_snoc keep tn 0 a a gs p]
    rw [stays_far keep (show 63 ≤ 0 + (gs.take 63 ++ [(gs.drop 63).flatten]).length by rw [List.length_append, hl]; omega), stays_far keep (show 63 ≤ 0 + gs.length by omega)]
    have hf : (gs.take 63 ++ [(gs.drop 63).flatten]).flatten = gs.flatten := by
      rw [List.flatten_append, List.flatten_cons, List.flatten_nil, List.append_nil, ← List.flatten_append, List.take_append_drop]
    rw [hf]
    cases hs : stays keep 63 with
    | true => rfl
    | false =>
      rw [if_neg (by simp), if_neg (by simp)]
      have h1 := lefts_app_far keep tn hs 0 a a (gs.take 63) (gs.drop 63) (by omega)
      rw [← e] at h1
      rw [h1]
      exact lefts_app_far keep tn hs 0 a a (gs.take 63) _ (by omega)
  · rfl
theorem wr_far (gs : List (List UInt8)) (p : List UInt8) : (wr gs p).length = gs.length + 1 ∨ (63 ≤ (wr gs p).length ∧ 63 ≤ gs.length) := by
  unfold wr
  split
  · right
    constructor
    · simp; omega
    · omega
  · left; simp
theorem fold_same (keep tn a : Nat) : ∀ (ps gs hs : List (List UInt8)), zf keep 0 gs = zf keep 0 hs → lefts keep tn 0 a a gs = lefts keep tn 0 a a hs → gs.flatten = hs.flatten → (gs.length = hs.length ∨ (63 ≤ gs.length ∧ 63 ≤ hs.length)) → zf keep 0 (ps.foldl wr gs) = zf keep 0 (hs ++ ps) ∧ lefts keep tn 0 a a (ps.foldl wr gs) = lefts keep tn 0 a a (hs ++ ps)
  | [], gs, hs, h1, h2, _, _ => by rw [List.append_nil]; exact ⟨h1, h2⟩
  | p :: ps, gs, hs, h1, h2, h3, h4 => by
    have hst : stays keep gs.length = stays keep hs.length := by
      rcases h4 with h4 | ⟨h4, h5⟩
      · rw [h4]
      · rw [stays_far keep h4, stays_far keep h5]
    have e : hs ++ p :: ps = (hs ++ [p]) ++ ps := by simp
    rw [e, List.foldl_cons]
    refine fold_same keep tn a ps (wr gs p) (hs ++ [p]) ?_ ?_ ?_ ?_
    · rw [wr_zf, zf_snoc, zf_snoc, h1]
      unfold zero
      rw [Nat.zero_add, Nat.zero_add, hst]
    · rw [wr_lefts, lefts_snoc, lefts_snoc, h2, h3, Nat.zero_add, Nat.zero_add, hst]
    · rw [wr_flat, h3]; simp
    · have hw := wr_far gs p
      rw [List.length_append]
      simp only [List.length_cons, List.length_nil]
      omega
theorem gsOf_fallen (keep tn : Nat) (safe : List UInt8) (ws : List (List UInt8)) : fallen keep tn ⟨safe, gsOf ws⟩ = fallen keep tn ⟨safe, ws⟩ := by
  have h := fold_same keep tn safe.length ws [] [] rfl rfl rfl (.inl rfl)
  rw [List.nil_append] at h
  unfold fallen
  have h1 := h.1
  have h2 := h.2
  unfold zf at h1
  show (safe ++ (zs keep 0 (gsOf ws)).flatten).take (lefts keep tn 0 safe.length safe.length (gsOf ws)) = (safe ++ (zs keep 0 ws).flatten).take (lefts keep tn 0 safe.length safe.length ws)
  unfold gsOf
  rw [h1, h2]

/-- The document's own loop. -/
theorem rb_zf (keep tn N : Nat) (safe : List UInt8) (ws : List (List UInt8)) : ∀ k, k < N → k ≤ ws.length → rb keep tn N safe ws k = safe ++ zf keep 0 (ws.take k)
  | 0, _, _ => by simp [rb, zf, zs]
  | k + 1, h, h2 => by
    have e : ws.getD k [] = ws[k] := by simp [List.getD, List.getElem?_eq_getElem (show k < ws.length by omega)]
    have hl : (ws.take k).length = k := by rw [List.length_take]; omega
    rw [rb, rb_zf keep tn N safe ws k (by omega) (by omega), e, piece, if_neg (by omega), List.take_succ_eq_append_getElem (show k < ws.length by omega), zf_snoc, hl, Nat.zero_add, List.append_assoc]
theorem lefts_last (keep tn a : Nat) (ws : List (List UInt8)) : ∀ n, n ≤ ws.length → lefts keep tn 0 a a (ws.take n) = if lastTo keep n = 0 then a else a + (ws.take (lastTo keep n)).flatten.length - min tn (ws.getD (lastTo keep n - 1) []).length
  | 0, _ => by simp [lefts, lastTo]
  | n + 1, h => by
    have e : ws.getD n [] = ws[n] := by simp [List.getD, List.getElem?_eq_getElem (show n < ws.length by omega)]
    have hl : (ws.take n).length = n := by rw [List.length_take]; omega
    have ih := lefts_last keep tn a ws n (by omega)
    rw [List.take_succ_eq_append_getElem (show n < ws.length by omega), lefts_snoc, hl, Nat.zero_add]
    cases hs : stays keep n with
    | true =>
      have e0 : lastTo keep (n + 1) = n + 1 := by simp [lastTo, hs]
      rw [e0, if_pos rfl, if_neg (by omega), Nat.add_sub_cancel, e, flat_at ws n (by omega), ← Nat.add_assoc]
    | false =>
      have e0 : lastTo keep (n + 1) = lastTo keep n := by simp [lastTo, hs]
      rw [e0, if_neg (by simp)]
      exact ih
theorem zf_len (keep k : Nat) (gs : List (List UInt8)) : (zf keep k gs).length = gs.flatten.length := zs_flat_len keep k gs
theorem rfall_is (keep tn : Nat) (f : Rf) : (f.fall keep tn).safe = fallen keep tn ⟨f.safe, f.ws⟩ := by
  obtain ⟨safe, ws⟩ := f
  have hL := lefts_last keep tn safe.length ws ws.length (Nat.le_refl _)
  have hle := lastTo_le keep ws.length
  rw [List.take_length] at hL
  show rb keep tn (lastTo keep ws.length) safe ws (lastTo keep ws.length) = (safe ++ zf keep 0 ws).take (lefts keep tn 0 safe.length safe.length ws)
  rw [hL]
  cases hN : lastTo keep ws.length with
  | zero => rw [if_pos rfl, List.take_left]; rfl
  | succ m =>
    rw [hN] at hle
    have e : ws.getD m [] = ws[m] := by simp [List.getD, List.getElem?_eq_getElem (show m < ws.length by omega)]
    have hl : (ws.take m).length = m := by rw [List.length_take]; omega
    have hz : (zf keep 0 (ws.take m)).length = (ws.take m).flatten.length := zf_len _ _ _
    rw [if_neg (by omega), Nat.add_sub_cancel, e, rb, rb_zf keep tn (m + 1) safe ws m (by omega) (by omega), e, piece, if_pos rfl]
    have hsp : zf keep 0 ws = zf keep 0 (ws.take m) ++ (zero keep m ws[m] ++ zf keep (m + 1) (ws.drop (m + 1))) := by
      conv => lhs; rw [← List.take_append_drop (m + 1) ws, zf_app, List.take_succ_eq_append_getElem (show m < ws.length by omega), zf_snoc]
      rw [List.length_append, hl, Nat.zero_add]
      simp
    have hfl : (ws.take (m + 1)).flatten.length = (ws.take m).flatten.length + ws[m].length := flat_at ws m (by omega)
    have hzl : (zero keep m ws[m]).length = ws[m].length := zero_len _ _ _
    rw [hsp, hfl, hzl, ← List.append_assoc, ← List.append_assoc, List.append_assoc (safe ++ zf keep 0 (ws.take m))]
    have hq : safe.length + ((ws.take m).flatten.length + ws[m].length) - min tn ws[m].length = (safe ++ zf keep 0 (ws.take m)).length + (ws[m].length - tn) := by
      rw [List.length_append, hz]; omega
    rw [hq, List.take_length_add_append, List.take_append_of_le_length (by rw [hzl]; omega)]
end Go.Proofs.Ytnpaodhcaeofnaa
