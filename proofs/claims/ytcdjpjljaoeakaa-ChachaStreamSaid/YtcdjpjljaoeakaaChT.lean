/-
  The stream in parts, as lists: words that the laws of chapter 4 share. No statement is proved here. Conditions: none.
-/
import Derived.Test.YtcdjpjljaoeakaaChS
namespace Go.Proofs.Ytcdjpjljaoeakaa
open Go.RowKit

theorem streamOf_mod (key : List UInt8) (c : Nat) (nonce : List UInt8) : ∀ n, streamOf key (c % 4294967296) nonce n = streamOf key c nonce n
  | 0 => rfl
  | n + 1 => by rw [streamOf, streamOf, streamOf_mod key c nonce n, Nat.mod_add_mod]
theorem streamOf_app (key : List UInt8) (c : Nat) (nonce : List UInt8) (m : Nat) : ∀ n, streamOf key c nonce (m + n) = streamOf key c nonce m ++ streamOf key (c + m) nonce n
  | 0 => by rw [Nat.add_zero, streamOf, List.append_nil]
  | n + 1 => by rw [← Nat.add_assoc, streamOf, streamOf_app key c nonce m n, streamOf, List.append_assoc, Nat.add_assoc c m n]
theorem stream_at (key : List UInt8) (c : Nat) (nonce : List UInt8) (n i : Nat) (h : i < n) : ((streamOf key c nonce n).drop (64 * i)).take 64 = blockOf key ((c + i) % 4294967296) nonce := by
  obtain ⟨r, rfl⟩ : ∃ r, n = i + (1 + r) := ⟨n - i - 1, by omega⟩
  rw [streamOf_app, streamOf_app, List.drop_append, List.drop_of_length_le (by rw [streamOf_len]; omega), List.nil_append, streamOf_len, Nat.sub_self, List.drop_zero]
  have e : streamOf key (c + i) nonce 1 = blockOf key ((c + i) % 4294967296) nonce := by rw [streamOf, streamOf, List.nil_append, Nat.add_zero]
  rw [e, List.take_append_of_le_length (by rw [blockOf_len]; omega), List.take_of_length_le (by rw [blockOf_len]; omega)]
theorem xr_zero (s : List UInt8) : xr (List.replicate s.length 0) s = s := by
  induction s with
  | nil => rfl
  | cons b s ih => simp only [List.length_cons, List.replicate_succ, xr, List.zipWith_cons_cons] at ih ⊢; rw [ih, UInt8.zero_xor]
theorem nblk64 (n : Nat) : nblk (64 * n) = n := by unfold nblk; omega
theorem xor_zeros (key : List UInt8) (c : Nat) (nonce : List UInt8) (n : Nat) : xorOf key c nonce (List.replicate (64 * n) 0) = streamOf key c nonce n := by
  rw [xorOf, List.length_replicate, nblk64]
  have h := xr_zero (streamOf key c nonce n)
  rw [streamOf_len] at h
  exact h
end Go.Proofs.Ytcdjpjljaoeakaa
