/-
  What follows of what stays behind a crash; a disk of one file, writes appended one by one. No statement is proved here. Conditions: as each says.
-/
import Derived.Test.YtnpaodhcaeofnaaDkW
namespace Go.Proofs.Ytnpaodhcaeofnaa
open Go.RowKit

theorem fallen_lo (keep torn : Nat) (f : Fl) : f.safe.length ≤ lefts keep torn 0 f.safe.length f.safe.length f.gs ∧ lefts keep torn 0 f.safe.length f.safe.length f.gs ≤ f.safe.length + f.gs.flatten.length :=
  lefts_le keep torn 0 f.safe.length f.safe.length f.safe.length f.gs (Nat.le_refl _) (Nat.le_refl _) (Nat.le_refl _)
theorem fallen_len (keep torn : Nat) (f : Fl) : (fallen keep torn f).length = lefts keep torn 0 f.safe.length f.safe.length f.gs := by
  have h := fallen_lo keep torn f
  unfold fallen
  rw [List.length_take, List.length_append, zs_flat_len]
  omega
theorem fallen_pre (keep torn : Nat) (f : Fl) : (fallen keep torn f).take f.safe.length = f.safe := by
  have h := fallen_lo keep torn f
  unfold fallen
  rw [List.take_take, Nat.min_eq_left h.1, List.take_left]
theorem zs_all (keep : Nat) (h : ∀ k, stays keep k = true) : ∀ (k : Nat) (l : List (List UInt8)), zs keep k l = l
  | _, [] => rfl
  | k, g :: r => by simp [zs, h, zs_all keep h (k + 1) r]
theorem lefts_all (keep : Nat) (h : ∀ k, stays keep k = true) : ∀ (k a : Nat) (l : List (List UInt8)), lefts keep 0 k a a l = a + l.flatten.length
  | _, _, [] => by simp [lefts]
  | k, a, g :: r => by
    have ih := lefts_all keep h (k + 1) (a + g.length) r
    simp only [lefts, h, if_true, Nat.zero_min, Nat.sub_zero, ih, List.flatten_cons, List.length_append]
    omega
theorem lefts_no (keep torn : Nat) (h : ∀ k, stays keep k = false) : ∀ (k a c : Nat) (l : List (List UInt8)), lefts keep torn k a c l = c
  | _, _, _, [] => rfl
  | k, a, c, g :: r => by simp [lefts, h, lefts_no keep torn h (k + 1) (a + g.length) c r]
theorem fallen_all (keep : Nat) (f : Fl) (h : ∀ k, stays keep k = true) : fallen keep 0 f = f.all := by
  unfold fallen
  rw [zs_all keep h, lefts_all keep h, ← List.length_append, List.take_length]; rfl
theorem fallen_no (keep torn : Nat) (f : Fl) (h : ∀ k, stays keep k = false) : fallen keep torn f = f.safe := by
  unfold fallen
  rw [lefts_no keep torn h, List.take_left]
theorem stays_ones (k : Nat) : stays 18446744073709551615 k = true := by
  have h : ∀ j, j ≤ 63 → (18446744073709551615 / 2 ^ j % 2 == 1) = true := by decide
  exact h _ (Nat.min_le_right _ _)
theorem stays_none (k : Nat) : stays 0 k = false := by simp [stays]

/-- Writes one by one. -/
def gsOf (ps : List (List UInt8)) : List (List UInt8) := ps.foldl wr []
theorem gsOf_snoc (ps : List (List UInt8)) (p : List UInt8) : gsOf (ps ++ [p]) = wr (gsOf ps) p := by simp [gsOf]
theorem fold_flat : ∀ (ps gs : List (List UInt8)), (ps.foldl wr gs).flatten = gs.flatten ++ ps.flatten
  | [], gs => by simp
  | p :: ps, gs => by simp [fold_flat ps (wr gs p), wr_flat]
theorem gsOf_flat (ps : List (List UInt8)) : (gsOf ps).flatten = ps.flatten := by simp [gsOf, fold_flat]

/-- A disk of one file. -/
def oneF (on : Bool) (lives : Nat) (s : ByteArray) (f : Fl) : Dk := ⟨10000, on, lives, [(s, f)]⟩
theorem oneF_size (on : Bool) (lives : Nat) (s : ByteArray) (f : Fl) : (oneF on lives s f).size = f.all.length := by simp [oneF, Dk.size, sumL, fsz]
theorem oneF_get (on : Bool) (lives : Nat) (s : ByteArray) (f : Fl) : getL (oneF on lives s f).C s = some f := by simp [oneF, getL_cons]
theorem oneF_appE {s : ByteArray} {f : Fl} {n : Nat} (hs : may s = true) (h : f.all.length + n ≤ 10000) (lives : Nat) : appE (oneF true lives s f) s n = 0 := by
  have hz := oneF_size true lives s f
  have hr : readyE (oneF true lives s f).on s = 0 := by simp [oneF, readyE, hs]
  have hroom : (oneF true lives s f).room = 10000 := rfl
  unfold appE
  rw [if_pos hr, hz, hroom, if_neg (by omega)]
theorem oneF_app {s : ByteArray} {f : Fl} {b : List UInt8} (hs : may s = true) (h : f.all.length + b.length ≤ 10000) (lives : Nat) : (oneF true lives s f).app s b = oneF true lives s (f.write b) := by
  unfold Dk.app
  rw [if_pos (oneF_appE hs h lives)]
  simp [oneF, putW, getL_cons, upd]
theorem newF_appE {s : ByteArray} {n : Nat} (hs : may s = true) (h : n ≤ 10000) : appE ⟨10000, true, 1, []⟩ s n = 0 := by
  have hr : readyE true s = 0 := by simp [readyE, hs]
  simp [appE, hr, Dk.size, sumL, h]
theorem newF_app {s : ByteArray} {b : List UInt8} (hs : may s = true) (h : b.length ≤ 10000) : (⟨10000, true, 1, []⟩ : Dk).app s b = oneF true 1 s ⟨[], [b]⟩ := by
  unfold Dk.app
  rw [if_pos (newF_appE hs h)]
  simp [oneF, putW, getL_nil, Fl.write, wr]
theorem oneF_askE {s : ByteArray} {f : Fl} (hs : may s = true) (lives : Nat) : askE (oneF true lives s f) s = 0 := by
  have hr : readyE (oneF true lives s f).on s = 0 := by simp [oneF, readyE, hs]
  unfold askE
  rw [if_pos hr, oneF_get]; rfl
theorem oneF_syn {s : ByteArray} {f : Fl} (hs : may s = true) (lives : Nat) : (oneF true lives s f).syn s = oneF true lives s f.sync := by
  unfold Dk.syn
  rw [if_pos (oneF_askE hs lives)]
  simp [oneF, upd]
theorem oneF_readB {s : ByteArray} {f : Fl} (hs : may s = true) (lives : Nat) : readB (oneF true lives s f) s = f.all := by
  unfold readB
  rw [if_pos (oneF_askE hs lives), oneF_get]; rfl
theorem oneF_crs (on : Bool) (lives : Nat) (s : ByteArray) (f : Fl) (keep tn : Nat) : (oneF on lives s f).crs keep tn = oneF false lives s (f.fall keep tn) := by simp [oneF, Dk.crs, onL]
theorem oneF_awake (on : Bool) (lives : Nat) (s : ByteArray) (f : Fl) : (oneF on lives s f).awake = oneF true (lives + 1) s f := rfl
end Go.Proofs.Ytnpaodhcaeofnaa
