/-
  WireKnown: the law's Go text returns true. Conditions: none.
-/
import Derived.Test.YtomnjmjgmioiaaaWiA
import Derived.Test.YtomnjmjgmioiaaaWiW
import Derived.Test.YtomnjmjgmioiaaaEqB
namespace Go.Proofs.Ytomnjmjgmioiaaa
open Go.RowKit

theorem front_big : frontOf (gr 9223372036854775807) = (9223372036854775807, (gr 9223372036854775807).length) := by
  have h := front_gr 9223372036854775807 (by decide) []
  rwa [List.append_nil] at h
theorem read_new (w : World) (A : Option Addr) (l : List UInt8) (n c : Nat) (ha : Byt w w.heap.size A l) (hl : l.length = n) (hn : n ≤ 70368744177664) :
    Calls Try.prog 7 #[.slice A n c] w fun e w' => ∃ g lo hi, e = .returned (.pointer (some ⟨g, 0, none⟩)) ∧ RdIs w' lo hi g l false ∧ Hid (w.heap.size ≤ lo ∧ hi ≤ w'.heap.size) ∧ Below w.heap.size w w' :=
  (read_any w A l n c ha hl hn).mono fun _ _ ⟨g, h1, h2, h3⟩ => ⟨g, _, _, h1, h2, ⟨Nat.le_refl _, Nat.le_refl _⟩, h3⟩
/-- A reader of a literal. -/
theorem read_lit (w : World) (cs : Array Value) (l : List UInt8) (n : Nat) (h : cs.toList = bv l) (hl : l.length = n) (hn : n ≤ 70368744177664) :
    Calls Try.prog 7 #[.slice (some ⟨w.heap.size, 0, none⟩) n n] (w.alloc (.cells cs 5)) fun e w' => ∃ g lo hi, e = .returned (.pointer (some ⟨g, 0, none⟩)) ∧ RdIs w' lo hi g l false ∧ Hid (w.heap.size ≤ lo ∧ hi ≤ w'.heap.size) ∧ Below w.heap.size w w' := by
  refine (read_any _ _ l n n (Byt.lit w _ cs l h) hl hn).mono ?_
  rintro e w' ⟨g, h1, h2, h3⟩
  have hs : w.heap.size ≤ (w.alloc (.cells cs 5)).heap.size := by simp
  exact ⟨g, _, _, h1, h2, ⟨hs, Nat.le_refl _⟩, ((Below.refl _ _).alloc (Nat.le_refl _) _).trans (h3.mono hs)⟩
theorem built_zero : Try.prog.built 30 [] = some (bv z32).toArray := by kernel_rfl

set_option maxRecDepth 100000 in
set_option maxHeartbeats 4000000 in
theorem walk_WireKnown (w : World) : Calls Try.prog 3 #[] w fun e w' => e = .returned (.bool true) ∧ Below w.heap.size w w' := by
  go_enter Try.func3, Try.ntmps3
  go_wp2_with fail
  refine (awake11_any w).mono ?_
  rintro e w0 ⟨rfl, hbw0⟩
  have hz0 := Lib.hid hbw0.size
  have hcall := read_lit w0 #[.int .u8 128, .int .u8 0] [128, 0] 2 rfl rfl (by decide)
  go_wp2_with fail
  refine hcall.mono ?_
  rintro e w1 ⟨ga, loa, hia, rfl, hra, hsa, hfr⟩
  have hbw1 := below_next hbw0 hbw0.size hfr
  clear hcall hfr hbw0
  have hcall := read_lit w1 #[.int .u8 5] [5] 1 rfl rfl (by decide)
  go_wp2_with fail
  refine hcall.mono ?_
  rintro e w2 ⟨gb, lob, hib, rfl, hrb, hsb, hfr⟩
  have hbw2 := below_next hbw1 hbw1.size hfr
  have hra := hra.next hfr
  clear hcall hfr hbw1
  have hcall := read_lit w2 #[.int .u8 3, .int .u8 1, .int .u8 2] [3, 1, 2] 3 rfl rfl (by decide)
  go_wp2_with fail
  refine hcall.mono ?_
  rintro e w3 ⟨gc, loc, hic, rfl, hrc, hsc, hfr⟩
  have hbw3 := below_next hbw2 hbw2.size hfr
  have hra := hra.next hfr
  have hrb := hrb.next hfr
  clear hcall hfr hbw2
  have hcall := read_new w3 none [] 0 0 (.inl rfl) rfl (by decide)
  go_wp2_with fail
  refine hcall.mono ?_
  rintro e w4 ⟨gd, lod, hid, rfl, hrd, hsd, hfr⟩
  have hbw4 := below_next hbw3 hbw3.size hfr
  have hra := hra.next hfr
  have hrb := hrb.next hfr
  have hrc := hrc.next hfr
  clear hcall hfr hbw3
  have hcall := wnum_any w4 none [] 0 0 9223372036854775807 9223372036854775807 (.inl rfl) rfl (Nat.le_refl _) (by decide) (by decide) (by decide)
  obtain ⟨E, hE⟩ : ∃ E, E = gr 9223372036854775807 := ⟨_, rfl⟩
  rw [List.nil_append, ← hE] at hcall
  have HE := vlt (show frontOf E = (9223372036854775807, E.length) by rw [hE]; exact front_big)
  have HEL := Lib.hid (show 1 ≤ E.length ∧ E.length ≤ 9 by rw [hE]; exact ⟨gr_pos _, gr_le _⟩)
  clear hE
  go_wp2_with fail
  refine hcall.mono ?_
  rintro e w5 ⟨AE, nE, cE, rfl, hresE, hfr⟩
  have hbw5 := below_next hbw4 hbw4.size hfr
  have hra := hra.next hfr
  have hrb := hrb.next hfr
  have hrc := hrc.next hfr
  have hrd := hrd.next hfr
  have hzE := Lib.hid hfr.size
  clear hcall hfr hbw4
  have HnE := Lib.hid hresE.len
  have hnE9 : nE ≤ 9 := by have := HEL.out; have := HnE.out; omega
  have hnE1 : 0 < nE := by have := HEL.out; have := HnE.out; omega
  have hcall := read_new w5 AE E nE cE hresE.byt HnE.out (by omega)
  go_wp2_with fail
  refine hcall.mono ?_
  rintro e w6 ⟨ge, loe, hie, rfl, hre, hse, hfr⟩
  have hbw6 := below_next hbw5 hbw5.size hfr
  have hra := hra.next hfr
  have hrb := hrb.next hfr
  have hrc := hrc.next hfr
  have hrd := hrd.next hfr
  clear hcall hfr hbw5
  clear hresE
  have hcall := read_lit w6 #[.int .u8 255, .int .u8 255, .int .u8 255, .int .u8 255, .int .u8 255, .int .u8 255, .int .u8 255, .int .u8 255, .int .u8 255, .int .u8 1] [255, 255, 255, 255, 255, 255, 255, 255, 255, 1] 10 rfl rfl (by decide)
  go_wp2_with fail
  refine hcall.mono ?_
  rintro e w7 ⟨gf, lof, hif, rfl, hrf, hsf, hfr⟩
  have hbw7 := below_next hbw6 hbw6.size hfr
  have hra := hra.next hfr
  have hrb := hrb.next hfr
  have hrc := hrc.next hfr
  have hrd := hrd.next hfr
  have hre := hre.next hfr
  clear hcall hfr hbw6
  have HO : Hid (w.heap.size ≤ w0.heap.size ∧ w0.heap.size ≤ loa ∧ (loa ≤ ga ∧ ga < hia) ∧ (lob ≤ gb ∧ gb < hib) ∧ (loc ≤ gc ∧ gc < hic) ∧ (lod ≤ gd ∧ gd < hid) ∧ (loe ≤ ge ∧ ge < hie) ∧ (lof ≤ gf ∧ gf < hif) ∧ hia ≤ lob ∧ hib ≤ loc ∧ hic ≤ lod ∧ hid ≤ loe ∧ hie ≤ lof) := by
    show _ ∧ _
    have qa := hsa.out
    have qb := hsb.out
    have qc := hsc.out
    have qd := hsd.out
    have qe := hse.out
    have qf := hsf.out
    have pa := hra.1
    have pb := hrb.1
    have pc := hrc.1
    have pd := hrd.1
    have pe := hre.1
    have pf := hrf.1
    have qE := hzE.out
    have q0 := hz0.out
    omega
  clear hsa hsb hsc hsd hse hsf hzE hz0
  have hcall := num_no w7 loa hia ga [128, 0] false 9 0 0 hra (vlt (by decide)) (.inl rfl)
  go_wp2_with fail
  refine hcall.mono ?_
  rintro e w8 ⟨rfl, hra2, hfr⟩
  have hbw8 := But.below hbw7 hfr (by have := HO.out; omega) hbw7.size
  have hrb := hrb.far hfr (.inl (by have := HO.out; omega))
  have hrc := hrc.far hfr (.inl (by have := HO.out; omega))
  have hrd := hrd.far hfr (.inl (by have := HO.out; omega))
  have hre := hre.far hfr (.inl (by have := HO.out; omega))
  have hrf := hrf.far hfr (.inl (by have := HO.out; omega))
  clear hcall hfr hbw7
  have hra := hra2
  clear hra2
  have hcall := bad_any w8 loa hia ga [] true hra
  go_wp2_with fail
  refine hcall.mono ?_
  rintro e wz ⟨rfl, rfl⟩
  clear hcall
  have hcall := num_no w8 lob hib gb [5] false 4 5 1 hrb (vlt (by decide)) (.inr (by decide))
  go_wp2_with fail
  refine hcall.mono ?_
  rintro e w9 ⟨rfl, hrb2, hfr⟩
  have hbw9 := But.below hbw8 hfr (by have := HO.out; omega) hbw8.size
  have hra := hra.far hfr (.inr (by have := HO.out; omega))
  have hrc := hrc.far hfr (.inl (by have := HO.out; omega))
  have hrd := hrd.far hfr (.inl (by have := HO.out; omega))
  have hre := hre.far hfr (.inl (by have := HO.out; omega))
  have hrf := hrf.far hfr (.inl (by have := HO.out; omega))
  clear hcall hfr hbw8
  have hrb := hrb2
  clear hrb2
  have hcall := bad_any w9 lob hib gb [] true hrb
  go_wp2_with fail
  refine hcall.mono ?_
  rintro e wz ⟨rfl, rfl⟩
  clear hcall
  have hcall := rbytes_short w9 loc hic gc [3, 1, 2] false 9 3 1 hrc (vlt (by decide)) (by decide) (by decide) (by decide)
  go_wp2_with fail
  refine hcall.mono ?_
  rintro e w10 ⟨AC, cC, rfl, hrc2, hfr⟩
  have hbw10 := But.below hbw9 hfr (by have := HO.out; omega) hbw9.size
  have hra := hra.far hfr (.inr (by have := HO.out; omega))
  have hrb := hrb.far hfr (.inr (by have := HO.out; omega))
  have hrd := hrd.far hfr (.inl (by have := HO.out; omega))
  have hre := hre.far hfr (.inl (by have := HO.out; omega))
  have hrf := hrf.far hfr (.inl (by have := HO.out; omega))
  clear hcall hfr hbw9
  have hrc := hrc2
  clear hrc2
  have hcall := bad_any w10 loc hic gc [] true hrc
  go_wp2_with fail
  refine hcall.mono ?_
  rintro e wz ⟨rfl, rfl⟩
  clear hcall
  have hcall := end_any w10 loc hic gc [] true hrc
  go_wp2_with fail
  refine hcall.mono ?_
  rintro e wz ⟨rfl, rfl⟩
  clear hcall
  have hcall := end_any w10 lod hid gd [] false hrd
  go_wp2_with fail
  refine hcall.mono ?_
  rintro e wz ⟨rfl, rfl⟩
  clear hcall
  have hcall := rword_no w10 lod hid gd [] false hrd (by decide)
  have q32 := fun w0 => eql_bytes_same (P := Try.prog) Try.underlying30 Try.underlying5 Try.sizeByte z32 z32_len w0
  go_wp2_with fail
  refine hcall.mono ?_
  rintro e w11 ⟨rfl, hrd2, hfr⟩
  have hbw11 := But.below hbw10 hfr (by have := HO.out; omega) hbw10.size
  have hra := hra.far hfr (.inr (by have := HO.out; omega))
  have hrb := hrb.far hfr (.inr (by have := HO.out; omega))
  have hrc := hrc.far hfr (.inr (by have := HO.out; omega))
  have hre := hre.far hfr (.inl (by have := HO.out; omega))
  have hrf := hrf.far hfr (.inl (by have := HO.out; omega))
  clear hcall hfr hbw10
  have hrd := hrd2
  clear hrd2
  have hcall := bad_any w11 lod hid gd [] true hrd
  go_wp2_with (first
    | (with_reducible refine wpList_build_w (by kernel_rfl) 30 #[] rfl [] rfl (bv z32).toArray built_zero ?_)
    | (with_reducible refine wpList_eql_w (by kernel_rfl) 30 _ (.tmp 79) (.tmp 80) rfl (by kernel_rfl) (bv z32).toArray (bv z32).toArray rfl rfl true (q32 _) ?_))
  refine hcall.mono ?_
  rintro e wz ⟨rfl, rfl⟩
  clear hcall
  have hcall := num_ok w11 loe hie ge E false 9223372036854775807 9223372036854775807 nE hre (vlt (by rw [HE.out, HnE.out])) hnE1 (by decide)
  go_wp2_with fail
  refine hcall.mono ?_
  rintro e w12 ⟨rfl, hre2, hfr⟩
  have hbw12 := But.below hbw11 hfr (by have := HO.out; omega) hbw11.size
  have hra := hra.far hfr (.inr (by have := HO.out; omega))
  have hrb := hrb.far hfr (.inr (by have := HO.out; omega))
  have hrc := hrc.far hfr (.inr (by have := HO.out; omega))
  have hrd := hrd.far hfr (.inr (by have := HO.out; omega))
  have hrf := hrf.far hfr (.inl (by have := HO.out; omega))
  clear hcall hfr hbw11
  have hre := hre2.as (show E.drop nE = [] from List.drop_eq_nil_of_le (by rw [HnE.out]; exact Nat.le_refl _))
  clear hre2
  have hcall := end_any w12 loe hie ge [] false hre
  go_wp2_with fail
  refine hcall.mono ?_
  rintro e wz ⟨rfl, rfl⟩
  clear hcall
  have hcall := num_no w12 lof hif gf [255, 255, 255, 255, 255, 255, 255, 255, 255, 1] false 9223372036854775807 0 0 hrf (vlt (by decide)) (.inl rfl)
  go_wp2_with fail
  refine hcall.mono ?_
  rintro e w13 ⟨rfl, hrf2, hfr⟩
  have hbw13 := But.below hbw12 hfr (by have := HO.out; omega) hbw12.size
  have hra := hra.far hfr (.inr (by have := HO.out; omega))
  have hrb := hrb.far hfr (.inr (by have := HO.out; omega))
  have hrc := hrc.far hfr (.inr (by have := HO.out; omega))
  have hrd := hrd.far hfr (.inr (by have := HO.out; omega))
  have hre := hre.far hfr (.inr (by have := HO.out; omega))
  clear hcall hfr hbw12
  have hrf := hrf2
  clear hrf2
  have hcall := bad_any w13 lof hif gf [] true hrf
  go_wp2_with fail
  refine hcall.mono ?_
  rintro e wz ⟨rfl, rfl⟩
  clear hcall
  clear hra hrb hrc hrd hre hrf HO HE HEL HnE q32
  have hcall := wnum_any w13 none [] 0 0 (-5) 0 (.inl rfl) rfl (Nat.le_refl _) (by decide) (by decide) (by decide)
  rw [show [] ++ gr 0 = [0] by decide] at hcall
  go_wp2_with fail
  refine hcall.mono ?_
  rintro e w14 ⟨AX, nX, cX, rfl, hrX, hfr⟩
  have hbw14 := below_next hbw13 hbw13.size hfr
  clear hcall hfr hbw13
  obtain rfl : nX = 1 := hrX.len.symm
  have hcv := conv_now 1 cX hrX.byt rfl
  have hcall := wtext_any w14 none [] 0 0 ⟨#[97, 98]⟩ (.inl rfl) rfl (Nat.le_refl _) (by decide) (by decide)
  rw [show [] ++ (gr (ByteArray.size ⟨#[97, 98]⟩) ++ (ByteArray.data ⟨#[97, 98]⟩).toList) = [2, 97, 98] by decide] at hcall
  go_wp2_with fail
  refine hcall.mono ?_
  rintro e w15 ⟨AY, nY, cY, rfl, hrY, hfr⟩
  have hbw15 := below_next hbw14 hbw14.size hfr
  clear hcall hfr hbw14
  obtain rfl : nY = 3 := hrY.len.symm
  have hcv2 := conv_now 3 cY hrY.byt rfl
  go_wp2
  go_ret
  exact ⟨rfl, hbw15⟩
end Go.Proofs.Ytomnjmjgmioiaaa
