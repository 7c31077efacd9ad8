/-
  ChachaKnown: the law's Go text returns true. Conditions: none.
-/
import Derived.Test.YtcdjpjljaoeakaaChW
import Derived.Test.YtcdjpjljaoeakaaChX
namespace Go.Proofs.Ytcdjpjljaoeakaa
open Go.RowKit

theorem quarter_known (w : World) :
    Calls Try.prog 9 #[.int .u32 286331153, .int .u32 16909060, .int .u32 2609737539, .int .u32 19088743] w fun e w' => e = .returned (.tuple #[.int .u32 3928658676, .int .u32 3407673550, .int .u32 1166100270, .int .u32 1484899515]) ∧ w = w' := by
  refine (quarter_any 286331153 16909060 2609737539 19088743 w (by decide) (by decide)).mono ?_
  rintro e w' ⟨p, q, r, s, rfl, h, _, rfl⟩
  have h1 := h.out
  rw [qr_known] at h1
  simp only [Prod.mk.injEq] at h1
  obtain ⟨rfl, rfl, rfl, rfl⟩ := h1
  exact ⟨rfl, rfl⟩
theorem known_no (w : World) (A : Option Addr) : Calls Try.prog 10 #[.agg (bv (zb 32)).toArray, .int .u32 4294967295, .agg (bv (zb 12)).toArray, .slice A 65 65] w fun e w' => e = .returned (.tuple #[.slice none 0 0, .int .i64 1]) ∧ Below w.heap.size w w' :=
  cxor_no w (zb 32) (zb 12) 4294967295 A 65 65 (by decide) (by decide) (by decide)
theorem known_ok (w : World) (A : Option Addr) (b : List UInt8) (hb : Byt w w.heap.size A b) (hl : b.length = 64) : Calls Try.prog 10 #[.agg (bv (zb 32)).toArray, .int .u32 4294967295, .agg (bv (zb 12)).toArray, .slice A 64 64] w fun e w' => ∃ A' c', e = .returned (.tuple #[.slice A' 64 c', .int .i64 0]) ∧ Below w.heap.size w w' :=
  (cxor_ok w (zb 32) (zb 12) b 4294967295 A 64 64 (by simp [zb]) (by simp [zb]) (by decide) hb hl (by decide) (by decide) (by decide)).mono fun _ _ ⟨A', c', h1, _, h3⟩ => ⟨A', c', h1, h3⟩
theorem known_nil (w : World) : Calls Try.prog 10 #[.agg (bv (zb 32)).toArray, .int .u32 5, .agg (bv (zb 12)).toArray, .slice none 0 0] w fun e w' => ∃ A' c', e = .returned (.tuple #[.slice A' 0 c', .int .i64 0]) ∧ Below w.heap.size w w' :=
  (cxor_ok w (zb 32) (zb 12) [] 5 none 0 0 (by simp [zb]) (by simp [zb]) (by decide) Byt.none_ rfl (by decide) (by decide) (by decide)).mono fun _ _ ⟨A', c', h1, _, h3⟩ => ⟨A', c', h1, h3⟩

set_option maxRecDepth 100000 in
set_option maxHeartbeats 1000000 in
theorem walk_ChachaKnown (w : World) :
    Calls Try.prog 3 #[] w fun e w' => e = .returned (.bool true) ∧ Below w.heap.size w w' := by
  obtain ⟨i0, hi, hz0, hz1, hz2⟩ := info_parts Try.infoByte
  go_enter Try.func3, Try.ntmps3
  go_wp2_with fail
  refine (awake_any w).mono ?_
  rintro e w1 ⟨rfl, hb1⟩
  go_wp2_with fail
  refine (quarter_known w1).mono ?_
  rintro e w' ⟨rfl, rfl⟩
  obtain ⟨w2, hrun, _, hb2, _⟩ := make_bytes (P := Try.prog) Try.underlying26 hi hz0 hz1 hz2 65 65 65 65 rfl rfl (by decide) (by decide) w1
  have hb2' : Below w.heap.size w w2 := below_next hb1 hb1.size hb2.out
  go_wp2_with (first
    | (with_reducible refine wpList_build_as rfl 31 rfl _ built_word ?_)
    | (with_reducible refine wpList_build_as rfl 32 rfl _ built_nonce ?_))
  refine (known_no w2 _).mono ?_
  rintro e w3 ⟨rfl, hb3⟩
  have hb3' : Below w.heap.size w w3 := below_next hb2' hb2'.size hb3
  clear hrun
  obtain ⟨w4, hrun, hg4, hb4, _⟩ := make_bytes (P := Try.prog) Try.underlying26 hi hz0 hz1 hz2 64 64 64 64 rfl rfl (by decide) (by decide) w3
  have hb4' : Below w.heap.size w w4 := below_next hb3' hb3'.size hb4.out
  go_wp2_with (first
    | (with_reducible refine wpList_build_as rfl 31 rfl _ built_word ?_)
    | (with_reducible refine wpList_build_as rfl 32 rfl _ built_nonce ?_))
  refine (known_ok w4 _ (List.replicate 64 0) (byt_row hg4.out) (by simp)).mono ?_
  rintro e w5 ⟨A5, c5, rfl, hb5⟩
  have hb5' : Below w.heap.size w w5 := below_next hb4' hb4'.size hb5
  clear hrun hg4
  go_wp2_with (first
    | (with_reducible refine wpList_build_as rfl 31 rfl _ built_word ?_)
    | (with_reducible refine wpList_build_as rfl 32 rfl _ built_nonce ?_))
  refine (known_nil w5).mono ?_
  rintro e w6 ⟨A6, c6, rfl, hb6⟩
  have hb6' : Below w.heap.size w w6 := below_next hb5' hb5'.size hb6
  go_wp2
  go_ret
  exact ⟨rfl, hb6'⟩
end Go.Proofs.Ytcdjpjljaoeakaa
