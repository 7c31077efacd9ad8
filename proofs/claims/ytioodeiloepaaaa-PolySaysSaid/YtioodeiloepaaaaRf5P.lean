/-
  The document's own Tag as numbers: words for its walk. No statement is proved here. Conditions: none.
-/
import Derived.Test.YtioodeiloepaaaaRf5L
import Derived.Test.YtioodeiloepaaaaRf5K
import Derived.Test.YtioodeiloepaaaaRegC
import Derived.Test.YtioodeiloepaaaaPlD
namespace Go.Proofs.Ytioodeiloepaaaa
open Go.RowKit

def natsOf (l : List UInt8) : List Nat := l.map fun b => b.toNat
theorem natsOf_len (l : List UInt8) : (natsOf l).length = l.length := by simp [natsOf]
theorem lvN_nats (l : List UInt8) : lvN (natsOf l) = ln l := by
  induction l with
  | nil => rfl
  | cons b r ih => simp only [natsOf, List.map_cons, lvN, ln] at *; rw [ih]
theorem lvN_zeros (l : List Nat) (n : Nat) : lvN (l ++ List.replicate n 0) = lvN l := by
  induction l with
  | nil =>
    induction n with
    | zero => rfl
    | succ n ih => simp only [List.nil_append, List.replicate_succ, lvN] at *; rw [ih]
  | cons a r ih => simp only [List.cons_append, lvN, ih]
theorem lvN_upto (n : Nat) (l : List Nat) : lvN (uptoW n l) = lvN l := lvN_zeros l _
theorem upto_lt (n : Nat) (l : List Nat) (h : ∀ x ∈ l, x < 256) : ∀ x ∈ uptoW n l, x < 256 := by
  intro x hx
  rcases List.mem_append.1 hx with hx | hx
  · exact h x hx
  · rw [List.eq_of_mem_replicate hx]; decide
theorem nats_lt (l : List UInt8) : ∀ x ∈ natsOf l, x < 256 := by
  intro x hx
  obtain ⟨b, _, rfl⟩ := List.mem_map.1 hx
  exact b.toNat_lt
theorem fill_nats (l : List UInt8) (k : Nat) (b : UInt8) (hk : l[k]? = some b) (hl : l.length ≤ 16) : (uptoW 17 (natsOf (l.take k))).set k b.toNat = uptoW 17 (natsOf (l.take (k + 1))) := by
  have hkl : k < l.length := (List.getElem?_eq_some_iff.1 hk).1
  have e : (natsOf (l.take k)).length = k := by rw [natsOf_len, List.length_take]; omega
  have h1 := uptoW_set 17 (natsOf (l.take k)) b.toNat (by rw [e]; omega)
  rw [e] at h1
  rw [h1, take_at hk]
  simp [natsOf]
theorem uptoB_set (n : Nat) (l : List UInt8) (x : UInt8) (h : l.length < n) : (uptoB n l).set l.length x = uptoB n (l ++ [x]) := by
  obtain ⟨m, hm⟩ : ∃ m, n - l.length = m + 1 := ⟨n - l.length - 1, by omega⟩
  rw [uptoB, uptoB, List.set_append_right _ _ (Nat.le_refl _), Nat.sub_self, hm, List.replicate_succ, List.set_cons_zero, List.length_append, List.append_assoc]
  congr 3
  simp; omega
def bytesOf (l : List Nat) : List UInt8 := l.map UInt8.ofNat
theorem fill_bytes (F : List Nat) (k : Nat) (hk : k < 16) (hF : F.length = 17) : (uptoB 16 (bytesOf (F.take k))).set k (UInt8.ofNat (natAt F k)) = uptoB 16 (bytesOf (F.take (k + 1))) := by
  have e : (bytesOf (F.take k)).length = k := by simp [bytesOf, hF]; omega
  have h1 := uptoB_set 16 (bytesOf (F.take k)) (UInt8.ofNat (natAt F k)) (by rw [e]; omega)
  rw [e] at h1
  have hkF : k < F.length := by omega
  have e3 : natAt F k = F[k] := by simp [natAt, hkF]
  rw [h1, List.take_succ_eq_append_getElem hkF, e3]
  simp only [bytesOf, List.map_append, List.map_cons, List.map_nil]
theorem le_bytes (F : List Nat) (hF : F.length = 17) (hl : ∀ j, j < 16 → natAt F j < 256) : ∀ n, n ≤ 16 → le (lvN F) n = bytesOf (F.take n)
  | 0, _ => rfl
  | n + 1, h => by
    have hk : n < F.length := by omega
    rw [le, le_bytes F hF hl n (by omega), List.take_succ_eq_append_getElem hk]
    have hs := lvN_nat F n
    rw [Nat.min_eq_left (by omega)] at hs
    have h3 : lvN (F.take n) < 256 ^ (F.take n).length := lvN_lt _ (by
      intro x hx
      obtain ⟨k, hk2, rfl⟩ := List.mem_iff_getElem.1 hx
      have hkn : k < n := by simp at hk2; omega
      have := hl k (by omega)
      have hkX : k < F.length := by omega
      simpa [natAt, hkX] using this)
    have e : (F.take n).length = n := by simp; omega
    rw [e] at h3
    have hd : F.drop n = F[n] :: F.drop (n + 1) := List.drop_eq_getElem_cons hk
    have hq : lvN F / 2 ^ (8 * n) = F[n] + 256 * lvN (F.drop (n + 1)) := by
      rw [Nat.pow_mul, show (2 : Nat) ^ 8 = 256 by decide, hs, Nat.add_mul_div_left _ _ (Nat.pow_pos (by decide)), Nat.div_eq_of_lt h3, Nat.zero_add, hd, lvN]
    rw [hq]
    simp only [bytesOf, List.map_append, List.map_cons, List.map_nil]
    congr 2
    apply UInt8.toNat_inj.1
    rw [UInt8.toNat_ofNat', UInt8.toNat_ofNat']
    omega
theorem mm_ok (l : List UInt8) (h : l.length ≤ 16) : (uptoW 17 (natsOf l ++ [1])).length = 17 ∧ (∀ x ∈ uptoW 17 (natsOf l ++ [1]), x < 256) ∧ lvN (uptoW 17 (natsOf l ++ [1])) = ln l + 256 ^ l.length := by
  refine ⟨uptoW_len 17 _ (by rw [List.length_append, natsOf_len]; simp; omega), upto_lt 17 _ ?_, by rw [lvN_upto, lvN_snoc, lvN_nats, natsOf_len, Nat.one_mul]⟩
  intro x hx
  rcases List.mem_append.1 hx with hx | hx
  · exact nats_lt _ x hx
  · simp at hx; omega
/-- One block more. -/
theorem acc_next (r : Nat) (l : List UInt8) (k X M Y T R : Nat) (hX : X % PP = accR r l k) (hM : M = ln (blkAt l k) + 256 ^ (blkAt l k).length) (hY : Y = X + M) (hR : R = r) (hT : T % PP = Y * R % PP) : T % PP = accR r l (k + 1) := by
  subst hM hY hR
  rw [hT, accR, acc_mod, hX]
theorem tag_end (key l : List UInt8) (F : List Nat) (V S : Nat) (hF : F.length = 17) (hl : ∀ j, j < 16 → natAt F j < 256) (hv : lvN F = V + S) (hV : V = polyOf (rOf key) l) (hS : S = ln (key.drop 16)) : bytesOf (F.take 16) = tagOf key l := by
  have h := le_bytes F hF hl 16 (Nat.le_refl _)
  rw [← h, tagOf, ← hV, ← hS, ← hv, ← le_mod (lvN F) 16]
end Go.Proofs.Ytioodeiloepaaaa
