/-
  Law 14: what the chapter says of bounds, of bases, of a journal that is done. Conditions: none.
-/
import Derived.Test.YtaklbgikoeedbaaDoorPkF
namespace Go.Proofs.YtaklbgikoeedbaaDoor
open Go.RowKit

theorem nil_one (W : World) :
    Below W.heap.size W (W.alloc (.cells #[.slice none 0 0] 31)) ∧
    PrtF (W.alloc (.cells #[.slice none 0 0] 31)) (fun i => W.heap.size ≤ i) (some ⟨W.heap.size, 0, none⟩) [[]] :=
  ⟨(Below.refl _ _).alloc (Nat.le_refl _) _, (PL.one (l := []) (.inl rfl) rfl (Nat.le_refl _)).prtF (heap_alloc_new W (.cells #[.slice none 0 0] 31)) (Nat.le_refl _)⟩

set_option maxRecDepth 100000 in
set_option maxHeartbeats 8000000 in
theorem walk_JournalKnown (w : World) (_ : Laid w) : Calls Tryd.prog 3 #[] w fun e w' => e = .returned (.bool true) ∧ Below w.heap.size w w' := by
  have hawk := jawake_any w
  have kc := fun (w : World) (C : Array Value) (n c : Nat) => Lib.run_convert_bytes_const (P := Tryd.prog) w 31 5 C n c Tryd.underlying31 Tryd.underlying5
  obtain ⟨i8, hi8, hz8, h18, h28⟩ := info_parts Tryd.infoByte
  have kN := kNo
  have kP1 := fun A ps => kAnd kNo (kP A ps)
  have kB1 := fun A l => kAnd kNo (kB A l)
  go_enter Tryd.func3, Tryd.ntmps3
  go_wp2_with fail
  refine hawk.mono ?_
  rintro e w0 ⟨rfl, hb0⟩
  clear hawk
  have hnew := hold_new w0 262144 (by decide) (by decide)
  go_wp2_with fail
  refine hnew.mono ?_
  rintro e w1 ⟨d, rfl, h1⟩
  clear hnew
  have hop := lo_open kNo (lo_new h1 (by decide)) (by decide)
  go_wp2_with fail
  refine hop.mono ?_
  rintro e w2 ⟨j, rfl, h2⟩
  have h2 : Lw w0 w2 j d 262144 1000 0 1 [] [] 0 KNo := h2.more (by decide) (by decide) (by decide)
  clear hop h1
  obtain ⟨z, hz⟩ : ∃ z, z = List.replicate 16385 (0 : UInt8) := ⟨_, rfl⟩
  have hzl : Hid (z.length = 16385) := show _ = _ by rw [hz, List.length_replicate]
  obtain ⟨V, hV⟩ : ∃ V, V = w2.alloc (.cells #[.int .u8 120] 5 (1, 2)) := ⟨_, rfl⟩
  have hVs : V.heap.size = w2.heap.size + 1 := by rw [hV]; simp
  have hVb : Below w2.heap.size w2 V := by rw [hV]; exact (Below.refl _ _).alloc (Nat.le_refl _) _
  have hx := lit_bytF w2 [120] #[.int .u8 120] (1, 2) rfl
  rw [← hV] at hx
  obtain ⟨w3, hmk, hg3, hb3, hs3⟩ := make_bytes (P := Tryd.prog) Tryd.underlying31 hi8 hz8 h18 h28 16385 16385 16385 16385 rfl rfl (Nat.le_refl _) (by decide) V
  rw [← hz] at hg3
  rw [hVs] at hmk hg3
  have hs3' : w3.heap.size = w2.heap.size + 2 := by rw [hs3.out, hVs]
  have hz3 : BytF w3 (fun i => w2.heap.size ≤ i) (some ⟨w2.heap.size + 1, 0, none⟩) z := .inr ⟨w2.heap.size + 1, 0, rfl, by omega, by omega, fun i b hi => byte_cell hg3.out (by simpa using hi)⟩
  have hx3 := hx.off (Off.of_below (F := fun _ => False) hb3.out fun i a b => by omega) fun _ _ _ h => h
  have hrow := heap_alloc_new w3 (.cells #[.slice (some ⟨w2.heap.size, 0, none⟩) 1 1, .slice (some ⟨w2.heap.size + 1, 0, none⟩) 16385 16385] 31)
  rw [hs3'] at hrow
  have hprt := ((PL.one (bytF_alloc hx3 (.cells #[.slice (some ⟨w2.heap.size, 0, none⟩) 1 1, .slice (some ⟨w2.heap.size + 1, 0, none⟩) 16385 16385] 31)) (rfl : ([120] : List UInt8).length = 1) (Nat.le_refl 1)).app (PL.one (bytF_alloc hz3 _) hzl.out (Nat.le_refl _))).prtF hrow (by omega)
  have hb4 : Below w2.heap.size w2 (w3.alloc (.cells #[.slice (some ⟨w2.heap.size, 0, none⟩) 1 1, .slice (some ⟨w2.heap.size + 1, 0, none⟩) 16385 16385] 31)) := (hVb.trans (hb3.out.mono (by omega))).alloc (by omega) _
  have h4 := h2.fresh kN hb4 (kP (some ⟨w2.heap.size + 2, 0, none⟩) ([[120]] ++ [z])) hprt
  have had := lw_long (kP1 _ _) h4 (some ⟨w2.heap.size + 2, 0, none⟩) ([[120]] ++ [z]) 2 2 (fun W F h => h.2) rfl (by decide) (by decide) (longR_yes (i := 1) (p := z) rfl (by rw [hzl.out]; decide)) (fun p hp => by
    rcases List.mem_append.1 hp with hp | hp
    · rw [List.mem_singleton] at hp; subst hp; decide
    · rw [List.mem_singleton] at hp; subst hp; rw [hzl.out]; decide) (by decide)
  rw [hV] at hmk
  clear h2 hx hz3 hx3 hrow hprt hVb hVs hz
  go_wp2_with fail
  refine had.mono ?_
  rintro e w4 ⟨rfl, h5⟩
  have h5 : Lw w0 w4 j d 262144 2000 0 1 [] [] 0 KNo := (h5.weak (K2 := KNo) fun _ _ _ => trivial).more (by decide) (by decide) (by decide)
  clear had h4 hb4 hmk hg3 hb3 hs3 hs3' hzl hV
  have hal := lw_all kN h5 (by decide)
  go_wp2_with fail
  refine hal.mono ?_
  rintro e w5 ⟨m, rfl, hm, _, _, h6⟩
  clear hal h5
  obtain rfl : 0 = m := hm.out
  clear hm
  obtain ⟨z, hz⟩ : ∃ z, z = List.replicate 65537 (0 : UInt8) := ⟨_, rfl⟩
  have hzl : Hid (z.length = 65537) := show _ = _ by rw [hz, List.length_replicate]
  obtain ⟨w6, hmk, hg6, hb6, hs6⟩ := make_bytes (P := Tryd.prog) Tryd.underlying31 hi8 hz8 h18 h28 65537 65537 65537 65537 rfl rfl (Nat.le_refl _) (by decide) w5
  rw [← hz] at hg6
  have hz6 : BytF w6 (fun i => w5.heap.size ≤ i) (some ⟨w5.heap.size, 0, none⟩) z := .inr ⟨w5.heap.size, 0, rfl, Nat.le_refl _, by rw [hs6.out]; omega, fun i b hi => byte_cell hg6.out (by simpa using hi)⟩
  have h7 := h6.fresh kN hb6.out (kB (some ⟨w5.heap.size, 0, none⟩) z) hz6
  have hke := lw_vast (kB1 _ _) h7 (some ⟨w5.heap.size, 0, none⟩) z 65537 65537 (fun W F h => h.2) hzl.out (by decide) (by decide) (by decide)
  clear h6 hz6 hz
  go_wp2_with fail
  refine hke.mono ?_
  rintro e w7 ⟨rfl, h8⟩
  have h8 : Lw w0 w7 j d 262144 3000 0 1 [] [] 0 KNo := (h8.weak (K2 := KNo) fun _ _ _ => trivial).more (by decide) (by decide) (by decide)
  clear hke h7 hmk hg6 hb6 hs6 hzl
  obtain ⟨hb9, hp9⟩ := lit_one w7 [112] #[.int .u8 112] (1, 2) 1 rfl rfl
  have h9 := h8.fresh kN hb9 (kP (some ⟨w7.heap.size + 1, 0, none⟩) [[112]]) hp9
  have had := lw_add (kP1 _ _) h9 (some ⟨w7.heap.size + 1, 0, none⟩) [[112]] 1 1 (fun W F h => h.2) rfl (by decide) (by decide) (fun p hp => by simp at hp; subst hp; decide) (by decide) (by decide)
  clear h8
  go_wp2_with fail
  refine had.mono ?_
  rintro e w8 ⟨rfl, h10⟩
  have h10 : Lw w0 w8 j d 262144 4000 100 1 [] [[112]] 0 KNo := (h10.weak (K2 := KNo) fun _ _ _ => trivial).more (by decide) (by decide) (by decide)
  clear had h9 hb9 hp9
  have hy := lit_bytF w8 [98, 97, 115, 101] #[.int .u8 98, .int .u8 97, .int .u8 115, .int .u8 101] (4, 5) rfl
  have h11 := h10.fresh kN ((Below.refl _ _).alloc (Nat.le_refl _) _) (kB (some ⟨w8.heap.size, 0, none⟩) [98, 97, 115, 101]) hy
  have hke := lw_keep (kB1 _ _) h11 (some ⟨w8.heap.size, 0, none⟩) [98, 97, 115, 101] 4 4 (fun W F h => h.2) rfl (by decide) (by decide) (by decide)
  clear h10 hy
  go_wp2_with fail
  refine hke.mono ?_
  rintro e w9 ⟨rfl, h12⟩
  have h12 : Lw w0 w9 j d 262144 5000 100 1 [98, 97, 115, 101] [] 0 KNo := (h12.weak (K2 := KNo) fun _ _ _ => trivial).more (by decide) (by decide) (by decide)
  clear hke h11
  have hal := lw_all kN h12 (by decide)
  go_wp2_with fail
  refine hal.mono ?_
  rintro e w10 ⟨m, rfl, hm, _, _, h13⟩
  clear hal h12
  obtain rfl : 0 = m := hm.out
  clear hm
  obtain ⟨hb14, hp14⟩ := lit_one w10 [113] #[.int .u8 113] (1, 2) 1 rfl rfl
  have h14 := h13.fresh kN hb14 (kP (some ⟨w10.heap.size + 1, 0, none⟩) [[113]]) hp14
  have had := lw_add (kP1 _ _) h14 (some ⟨w10.heap.size + 1, 0, none⟩) [[113]] 1 1 (fun W F h => h.2) rfl (by decide) (by decide) (fun p hp => by simp at hp; subst hp; decide) (by decide) (by decide)
  clear h13
  go_wp2_with fail
  refine had.mono ?_
  rintro e w11 ⟨rfl, h15⟩
  have h15 : Lw w0 w11 j d 262144 6000 200 1 [98, 97, 115, 101] [[113]] 0 KNo := (h15.weak (K2 := KNo) fun _ _ _ => trivial).more (by decide) (by decide) (by decide)
  clear had h14 hb14 hp14
  have hsy := lw_sync kN h15
  go_wp2_with fail
  refine hsy.mono ?_
  rintro e w12 ⟨rfl, h16⟩
  have h16 : Lw w0 w12 j d 262144 7000 200 1 [98, 97, 115, 101] [[113]] 1 KNo := h16.more (by decide) (by decide) (by decide)
  clear hsy h15
  have hcr := lw_crash kN h16 0 0 0 (by decide) rfl (by decide) (by decide)
  go_wp2_with fail
  refine hcr.mono ?_
  rintro e w13 ⟨rfl, h17⟩
  clear hcr h16
  obtain ⟨hb18, hp18⟩ := nil_one w13
  have h18 := h17.fresh kN hb18 (kP (some ⟨w13.heap.size, 0, none⟩) [[]]) hp18
  have had := lc_add (kP1 _ _) h18 (some ⟨w13.heap.size, 0, none⟩) [[]] 1 1 (fun W F h => h.2) rfl (by decide) (by decide) (fun p hp => by simp at hp; subst hp; decide) (by decide)
  clear h17
  go_wp2_with fail
  refine had.mono ?_
  rintro e w14 ⟨rfl, h19⟩
  have h19 := h19.weak (K2 := KNo) fun _ _ _ => trivial
  clear had h18 hb18 hp18
  have hop := lc_open h19
  go_wp2_with fail
  refine hop.mono ?_
  rintro e w15 ⟨rfl, rfl⟩
  clear hop
  have hwk := lc_wake kN h19 (by decide)
  clear h19
  go_wp2_with fail
  refine hwk.mono ?_
  rintro e w16 ⟨rfl, h20⟩
  clear hwk
  have hsy := la_sync kN h20
  go_wp2_with fail
  refine hsy.mono ?_
  rintro e w17 ⟨rfl, h21⟩
  clear hsy h20
  have hdn := la_done kN h21
  go_wp2_with fail
  refine hdn.mono ?_
  rintro e w18 ⟨rfl, h22⟩
  clear hdn h21
  obtain ⟨n, hn1, hn2, hn3, h23⟩ := h22.lo kN (by decide) (by decide)
  obtain rfl : n = 1 := hn2.out stays_none
  clear hn1 hn2 hn3 h22
  have hop := lo_open kN h23 (by decide)
  go_wp2_with fail
  refine hop.mono ?_
  rintro e w19 ⟨j2, rfl, h24⟩
  have h24 : Lw w0 w19 j2 d 262144 9000 200 2 [98, 97, 115, 101] [[113]] 1 KNo := h24.more (by decide) (by decide) (by decide)
  clear hop h23
  have hba := lw_base kN h24 (by decide)
  go_wp2_with fail
  refine hba.mono ?_
  rintro e w20 ⟨A, n, c, rfl, hbA, hn, hnc, _, h25⟩
  obtain rfl : 4 = n := hn.out
  clear hba h24 hn
  have hcx := conv_bytes (P := Tryd.prog) Tryd.underlying31 Tryd.underlying5 Tryd.underlying9 hbA 4 c rfl
  have hal := lw_all kN h25 (by decide)
  go_wp2_with fail
  refine hal.mono ?_
  rintro e w21 ⟨m, rfl, hm, hv, _, h26⟩
  clear hal h25 hcx hbA
  obtain rfl : 1 = m := hm.out
  clear hm
  obtain ⟨hb27, hp27⟩ := lit_one w21 [113] #[.int .u8 113] (1, 2) 1 rfl rfl
  have h27 := h26.next kN hb27
  have hsm := same_any _ (some ⟨w20.heap.size, 0, none⟩) (some ⟨w21.heap.size + 1, 0, none⟩) [[113]] [[113]] 1 1 1 1 ((all_prt hv).next hb27) rfl (PrtF.prt hp27) rfl (by decide)
  clear h26
  go_wp2_with fail
  refine hsm.mono ?_
  rintro e w22 ⟨rfl, k, rfl⟩
  clear hsm
  have h28 := h27.drewN kN k
  clear h27 hb27 hp27 hv
  have hdn := lw_done kN h28
  go_wp2_with fail
  refine hdn.mono ?_
  rintro e w23 ⟨rfl, _, h29⟩
  have hend := hb0.trans (h29.bel.mono hb0.size)
  clear hdn h28 h29
  go_wp2
  go_ret
  exact ⟨rfl, hend⟩
end Go.Proofs.YtaklbgikoeedbaaDoor
