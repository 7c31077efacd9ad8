/-
  The stream in parts, as lists: words that the laws of chapter 4 share. No statement is proved here. Conditions: none.
-/
import Derived.Test.YtcdjpjljaoeakaaChS
namespace Go.Proofs.Ytcdjpjljaoeakaa
open Go.RowKit

theorem streamOf_mod (key : List UInt8) (c : Nat) (nonce : List UInt8) : ∀ n, streamOf key (c % 4294967296) nonce n = streamOf key c nonce n
  | 0 => rfl
  | n + 1 => by rw [streamOf, streamOf, streamOf_mod key c nonce n, Nat.mod_add_mod]
theorem streamOf_app (key : List UInt8) (c : Nat) (nonce : List UInt8) (m : Nat) : ∀ n, streamOf key c nonce (m + n) = streamOf key c nonce m ++ streamOf key (c + m) nonce n
  | 0 => by rw [Nat.add_zero, streamOf, List.append_nil]
  | n + 1 => by rw [← Nat.add_assoc, streamOf, streamOf_app key c nonce m n, streamOf, List.append_assoc, Nat.add_assoc c m n]
theorem stream_at (key : List UInt8) (c : Nat) (nonce : List UInt8) (n i : Nat) (h : i < n) : ((streamOf key c nonce n).drop (64 * i)).take 64 = blockOf key ((c + i) % 4294967296) nonce := by
  obtain ⟨r, rfl⟩ : ∃ r, n = i + (1 + r) := ⟨n - i - 1, by omega⟩
  rw [streamOf_app, streamOf_app, List.drop_append, List.drop_of_length_le (by rw [streamOf_len]; omega), List.nil_append, streamOf_len, Nat.sub_self, List.drop_zero]
  have e : streamOf key (c + i) nonce 1 = blockOf key ((c + i) % 4294967296) nonce := by rw [streamOf, streamOf, List.nil_append, Nat.add_zero]
  rw [e, List.take_append_of_le_length (by rw [blockOf_len]; omega), List.take_of_length_le (by rw [blockOf_len]; omega)]
theorem xr_zero (s : List UInt8) : xr (List.replicate s.length 0) s = s := by
  induction s with
  | nil => rfl
  | cons b s ih => simp only [List.length_cons, List.replicate_succ, xr, List.zipWith_cons_cons] at ih ⊢; rw [ih, UInt8.zero_xor]
theorem nblk64 (n : Nat) : nblk (64 * n) = n := by unfold nblk; omega
theorem xor_zeros (key : List UInt8) (c : Nat) (nonce : List UInt8) (n : Nat) : xorOf key c nonce (List.replicate (64 * n) 0) = streamOf key c nonce n := by
  rw [xorOf, List.length_replicate, nblk64]
  have h := xr_zero (streamOf key c nonce n)
  rw [streamOf_len] at h
  exact h
theorem xr_twice (b s : List UInt8) (h : b.length ≤ s.length) : xr (xr b s) s = b := by
  induction b generalizing s with
  | nil => simp [xr]
  | cons x b ih =>
    cases s with
    | nil => simp at h
    | cons y s =>
      have := ih s (by simpa using h)
      simp only [xr, List.zipWith_cons_cons] at this ⊢
      rw [this, UInt8.xor_assoc, UInt8.xor_self, UInt8.xor_zero]
theorem xor_twice (key : List UInt8) (c : Nat) (nonce b : List UInt8) : xorOf key c nonce (xorOf key c nonce b) = b := by
  rw [xorOf, xorOf_len]
  refine xr_twice b _ ?_
  rw [streamOf_len, nblk]; omega
theorem xr_take (b s : List UInt8) (k : Nat) (h : s.length ≤ k) : xr (b.take k) s = xr b s := by
  induction s generalizing b k with
  | nil => simp [xr]
  | cons y s ih =>
    cases b with
    | nil => simp [xr]
    | cons x b =>
      obtain ⟨j, rfl⟩ : ∃ j, k = j + 1 := ⟨k - 1, by simp at h; omega⟩
      have := ih b j (by simpa using h)
      simp only [xr, List.take_succ_cons, List.zipWith_cons_cons] at this ⊢
      rw [this]
theorem xor_parts (key : List UInt8) (c : Nat) (nonce b : List UInt8) (k : Nat) (h : 64 * k ≤ b.length) : xorOf key c nonce b = xorOf key c nonce (b.take (64 * k)) ++ xorOf key (c + k) nonce (b.drop (64 * k)) := by
  have e1 : nblk b.length = k + nblk (b.length - 64 * k) := by unfold nblk; omega
  rw [xorOf, e1, streamOf_app, xr_app, streamOf_len, xorOf, xorOf, List.length_drop, List.length_take, Nat.min_eq_left h, nblk64, xr_take _ _ _ (by rw [streamOf_len]; exact Nat.le_refl _)]
end Go.Proofs.Ytcdjpjljaoeakaa
