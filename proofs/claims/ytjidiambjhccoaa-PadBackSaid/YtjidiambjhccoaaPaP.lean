/-
  Contract of pad.Pad. Conditions: none (what is longer than 65535 bytes is refused).
-/
import Derived.Test.YtjidiambjhccoaaPaB
import Derived.Test.YtjidiambjhccoaaNew
namespace Go.Proofs.Ytjidiambjhccoaa
open Go.RowKit

set_option maxRecDepth 100000 in
theorem pad_over (w : World) (A : Option Addr) (n c : Nat) (hn : 65536 ≤ n) :
    Calls Try.prog 9 #[.slice A n c] w fun e w' => e = .returned (.tuple #[.slice none 0 0, .int .i64 2]) ∧ w' = w := by
  have hb := bucket_over w (n : Int) (by omega)
  clear hn
  go_enter Try.func9, Try.ntmps9
  go_wp2_with fail
  refine hb.mono ?_
  rintro e w1 ⟨rfl, rfl⟩
  clear hb
  go_wp2
  go_ret2
  exact ⟨rfl, rfl⟩

set_option maxRecDepth 100000 in
set_option maxHeartbeats 1000000 in
theorem pad_ok (w : World) (A : Option Addr) (l : List UInt8) (n c : Nat) (ha : Byt w w.heap.size A l) (hl : l.length = n) (hn : n < 65536) :
    Calls Try.prog 9 #[.slice A n c] w fun e w' => ∃ (s : Nat) (P : List UInt8), e = .returned (.tuple #[.slice (some ⟨w.heap.size, 0, none⟩) s s, .int .i64 0]) ∧ Vlt (s = bkt n) ∧ Vlt (P = padOf l) ∧ n < s ∧ 64 ≤ s ∧ s ≤ 65536 ∧
      Res w' w.heap.size 5 (some ⟨w.heap.size, 0, none⟩) s s P ∧ Below w.heap.size w w' := by
  obtain ⟨i0, hi, hz0, hz1, hz2⟩ := info_parts Try.infoByte
  have hmk := fun s h => make_bytes (P := Try.prog) Try.underlying26 hi hz0 hz1 hz2 s s (s : Int) (s : Int) rfl rfl (Nat.le_refl _) h w
  have hb := bucket_ok w n hn
  have HL := Lib.hid hl
  have HN := Lib.hid hn
  clear hl hi hz0 hz1 hz2 hn
  go_enter Try.func9, Try.ntmps9
  go_wp2_with fail
  refine hb.mono ?_
  rintro e w0 ⟨s, rfl, hs, h1, h2, h3, rfl⟩
  clear hb
  obtain ⟨w1, hrun, hg1, hb1, hs1⟩ := hmk s (by omega)
  have HS := Lib.hid (show (bv (List.replicate s 0)).length = s by simp [bv_len])
  clear hmk
  go_wp2_with (with_reducible refine wpList_copy_splice rfl (.tmp 18) (.tmp 19) 26 26 rfl 5 Try.underlying26 Try.sizeByte (some ⟨w0.heap.size, 0, none⟩) A s s n c rfl rfl w0.heap.size 0 (bv (List.replicate s 0)) 5 hg1.out (bv l) (by rw [bv_len, HL.out]; exact (Nat.min_eq_left (Nat.le_of_lt h1)).symm) ((ha.below hb1.out).src _ _ rfl) (by rw [bv_len, HL.out, HS.out]; omega) (bv_one _) w0.heap.size _ hb1.out (Nat.le_refl _) ?_)
  intro w3 hg3 hb3
  have hX := fill_copy l s
  obtain ⟨X, hXd⟩ : ∃ X, X = l ++ List.replicate (s - l.length) 0 := ⟨_, rfl⟩
  rw [← hXd] at hX
  rw [hX] at hg3
  have HX := vlt (show X.set n 128 = padOf l by rw [hXd, hs.out, ← HL.out]; exact fill_mark l (by rw [HL.out]; exact HN.out))
  have hXl : Hid (X.length = s) := show _ = _ by rw [hXd, List.length_append, List.length_replicate, HL.out]; omega
  clear hX hXd
  have hnX : n < X.length := by rw [hXl.out]; exact h1
  have hc : w3.cell? ⟨w0.heap.size, n, none⟩ = some (.int .u8 ((X[n]'hnX).toNat : Int)) := byte_cell hg3.out (List.getElem?_eq_getElem hnX)
  have hf : w3.frozen? ⟨w0.heap.size, n, none⟩ = false := frozen_of_row _ _ _ _ _ hg3.out
  have hset := world_set_cell hg3.out n (.int .u8 128)
  have e128 : (bv X).set n (.int .u8 128) = bv (X.set n 128) := bv_set X n 128
  rw [e128] at hset
  have hb4 : Below w0.heap.size w0 (w3.setCell ⟨w0.heap.size, n, none⟩ (.int .u8 128)) := hb3.setCell (Nat.le_refl _) _
  obtain ⟨P, hP⟩ : ∃ P, P = X.set n 128 := ⟨_, rfl⟩
  rw [← hP] at hset HX
  have hPl : Hid (P.length = s) := show _ = _ by rw [hP, List.length_set, hXl.out]
  clear hP e128
  go_wp2
  go_ret2
  exact ⟨s, P, rfl, hs, HX, h1, h2, h3, Res.row (Nat.le_refl _) hset.out (Nat.le_refl _) (by omega) (by simp [bv_len, hPl.out]) hPl.out (by rw [List.take_of_length_le (by simp [bv_len, hPl.out])]), hb4⟩
end Go.Proofs.Ytjidiambjhccoaa
