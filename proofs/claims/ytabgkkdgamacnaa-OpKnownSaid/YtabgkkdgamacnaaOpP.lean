/-
  Contract of op's Put. Conditions: a vector of eight numbers.
-/
import Derived.Test.YtabgkkdgamacnaaOpG
import Derived.Test.YtabgkkdgamacnaaVcD
import Derived.Test.YtabgkkdgamacnaaWiNt
namespace Go.Proofs.Ytabgkkdgamacnaa
open Go.RowKit

theorem vgood_in {a : List Int} (h : vgood a = true) : I64s a := by
  rw [vgood, decide_eq_true_eq] at h
  intro x hx
  have := h x hx
  omega
theorem put_no {a : Ed} (h : a.good = false) : a.put = [] := by rw [Ed.put, if_neg (by rw [h]; exact Bool.false_ne_true)]
theorem put_raw {a : Ed} (h : a.good = true) : [] ++ gr a.dev.toNat ++ gr a.num.toNat ++ vput a.seen ++ gr a.kind.toNat ++ gr a.time.toNat ++ (gr a.con.size ++ a.con.data.toList) ++ (gr a.fld.size ++ a.fld.data.toList) ++ (gr a.val.size ++ a.val.data.toList) = a.put := by
  rw [Ed.put, if_pos h, Ed.raw, txt, txt, txt]
  simp only [List.nil_append, List.append_assoc]
set_option maxRecDepth 100000 in
set_option maxHeartbeats 1000000 in
theorem oput_any (w : World) (a : Ed) (ha : a.seen.length = 8) :
    Calls Try.prog 10 #[.agg a.cells.toArray] w fun e w' => ∃ A m c, e = .returned (.slice A m c) ∧ Res w' w.heap.size 5 A m c a.put ∧ Below w.heap.size w w' := by
  obtain ⟨W, hW, hgA, hbW, hsW⟩ := one_new w a.cells.toArray 28
  have HW := Lib.hid hW
  have HA := Lib.hid ha
  have d1 := fun w => ogood_any w a ha
  obtain ⟨g, hg⟩ : ∃ g, g = a.good := ⟨_, rfl⟩
  have HG := vlt hg
  simp only [← hg] at d1
  clear hW ha hsW hg
  go_enter Try.func10, Try.ntmps10
  go_upto_region 1 with fail
  rw [HW.out]
  clear HW
  go_wp2_with (with_reducible refine wpList_load_row rfl 28 (.tmp 1) rfl w.heap.size rfl 28 a.cells.toArray (0, 0) _ hgA.out Try.underlying28 rfl (by rw [Ed.cells_size HA.out]; kernel_rfl) ?_)
  refine (d1 _).mono ?_
  rintro e w1 ⟨rfl, hb1⟩
  have g1 := row_next2 hgA hb1
  have hbw1 := below_next hbW hbW.size hb1
  clear hgA hbW hb1 d1
  cases g
  · have HP := vlt (put_no HG.out.symm)
    go_wp2
    go_ret
    exact ⟨none, 0, 0, rfl, by rw [HP.out]; exact ⟨rfl, .inl ⟨rfl, rfl⟩⟩, hbw1⟩
  · have HP := vlt (put_raw HG.out.symm)
    have f := Ed.fine HG.out.symm
    have b1 := f.dev
    have b2 := f.num
    have b3 := f.time
    have b4 := f.kind
    have b5 := nm_size f.con
    have b6 := f.fld
    have b7 := f.val
    have hIn := Lib.hid (vgood_in f.seen)
    have hVL := Lib.hid (vput_len HA.out)
    clear HG f
    have hgc := ed_dev g1
    have hc := wnum_any w1 none ([]) 0 0 a.dev a.dev.toNat (.inl rfl) rfl (Nat.le_refl _) (by omega) (by omega) (by omega)
    go_wp2_with fail
    refine hc.mono ?_
    rintro e w2 ⟨A1, n1, c1, rfl, hr, hb⟩
    have hn1 : n1 ≤ 9 := by have h := hr.len; rw [List.nil_append] at h; have := gr_le a.dev.toNat; omega
    have r1 := Lib.hid hr
    have g2 := row_next2 g1 hb
    have hbw2 := below_next hbw1 hbw1.size hb
    clear hc hr hb g1 hgc 
    have hgc := ed_num g2
    have hc := wnum_any w2 A1 ([] ++ gr a.dev.toNat) n1 c1 a.num a.num.toNat r1.out.byt r1.out.len r1.out.cap (by omega) (by omega) (by omega)
    go_wp2_with fail
    refine hc.mono ?_
    rintro e w3 ⟨A2, n2, c2, rfl, hr, hb⟩
    have hn2 : n2 ≤ n1 + 9 := by have h := hr.len; rw [List.length_append, r1.out.len] at h; have := gr_le a.num.toNat; omega
    have r2 := Lib.hid hr
    have g3 := row_next2 g2 hb
    have hbw3 := below_next hbw2 hbw2.size hb
    clear hc hr hb g2 hgc r1
    have hc := vput_any w3 A2 ([] ++ gr a.dev.toNat ++ gr a.num.toNat) n2 c2 a.seen r2.out.byt r2.out.len r2.out.cap (by omega) HA.out hIn
    go_wp2_with (with_reducible refine wpList_load_mid rfl 26 (.tmp 17) rfl w.heap.size 2 rfl (i64v a.seen) _ (ed_seenR g3) Try.underlying26 rfl (by rw [i64v_len, HA.out]; kernel_rfl) ?_)
    refine hc.mono ?_
    rintro e w4 ⟨A3, n3, c3, rfl, hr, hb⟩
    have hn3 : n3 ≤ n2 + 72 := by have h := hr.len; rw [List.length_append, r2.out.len] at h; have := hVL.out; omega
    have r3 := Lib.hid hr
    have g4 := row_next2 g3 hb
    have hbw4 := below_next hbw3 hbw3.size hb
    clear hc hr hb g3 r2
    have hgc := ed_kind g4 HA.out
    have hc := wnum_any w4 A3 ([] ++ gr a.dev.toNat ++ gr a.num.toNat ++ vput a.seen) n3 c3 a.kind a.kind.toNat r3.out.byt r3.out.len r3.out.cap (by omega) (by omega) (by omega)
    go_wp2_with fail
    refine hc.mono ?_
    rintro e w5 ⟨A4, n4, c4, rfl, hr, hb⟩
    have hn4 : n4 ≤ n3 + 9 := by have h := hr.len; rw [List.length_append, r3.out.len] at h; have := gr_le a.kind.toNat; omega
    have r4 := Lib.hid hr
    have g5 := row_next2 g4 hb
    have hbw5 := below_next hbw4 hbw4.size hb
    clear hc hr hb g4 hgc r3
    have hgc := ed_time g5 HA.out
    have hc := wnum_any w5 A4 ([] ++ gr a.dev.toNat ++ gr a.num.toNat ++ vput a.seen ++ gr a.kind.toNat) n4 c4 a.time a.time.toNat r4.out.byt r4.out.len r4.out.cap (by omega) (by omega) (by omega)
    go_wp2_with fail
    refine hc.mono ?_
    rintro e w6 ⟨A5, n5, c5, rfl, hr, hb⟩
    have hn5 : n5 ≤ n4 + 9 := by have h := hr.len; rw [List.length_append, r4.out.len] at h; have := gr_le a.time.toNat; omega
    have r5 := Lib.hid hr
    have g6 := row_next2 g5 hb
    have hbw6 := below_next hbw5 hbw5.size hb
    clear hc hr hb g5 hgc r4
    have hgc := ed_con g6 HA.out
    have hc := wtext_any w6 A5 ([] ++ gr a.dev.toNat ++ gr a.num.toNat ++ vput a.seen ++ gr a.kind.toNat ++ gr a.time.toNat) n5 c5 a.con r5.out.byt r5.out.len r5.out.cap (by omega) (by omega)
    go_wp2_with fail
    refine hc.mono ?_
    rintro e w7 ⟨A6, n6, c6, rfl, hr, hb⟩
    have hn6 : n6 ≤ n5 + 9 + a.con.size := by have h := hr.len; rw [List.length_append, r5.out.len, List.length_append] at h; have := gr_le a.con.size; have h2 : a.con.data.toList.length = a.con.size := (by simp); omega
    have r6 := Lib.hid hr
    have g7 := row_next2 g6 hb
    have hbw7 := below_next hbw6 hbw6.size hb
    clear hc hr hb g6 hgc r5
    have hgc := ed_fld g7 HA.out
    have hc := wtext_any w7 A6 ([] ++ gr a.dev.toNat ++ gr a.num.toNat ++ vput a.seen ++ gr a.kind.toNat ++ gr a.time.toNat ++ (gr a.con.size ++ a.con.data.toList)) n6 c6 a.fld r6.out.byt r6.out.len r6.out.cap (by omega) (by omega)
    go_wp2_with fail
    refine hc.mono ?_
    rintro e w8 ⟨A7, n7, c7, rfl, hr, hb⟩
    have hn7 : n7 ≤ n6 + 9 + a.fld.size := by have h := hr.len; rw [List.length_append, r6.out.len, List.length_append] at h; have := gr_le a.fld.size; have h2 : a.fld.data.toList.length = a.fld.size := (by simp); omega
    have r7 := Lib.hid hr
    have g8 := row_next2 g7 hb
    have hbw8 := below_next hbw7 hbw7.size hb
    clear hc hr hb g7 hgc r6
    have hgc := ed_val g8 HA.out
    have hc := wtext_any w8 A7 ([] ++ gr a.dev.toNat ++ gr a.num.toNat ++ vput a.seen ++ gr a.kind.toNat ++ gr a.time.toNat ++ (gr a.con.size ++ a.con.data.toList) ++ (gr a.fld.size ++ a.fld.data.toList)) n7 c7 a.val r7.out.byt r7.out.len r7.out.cap (by omega) (by omega)
    go_wp2_with fail
    refine hc.mono ?_
    rintro e w9 ⟨A8, n8, c8, rfl, hr, hb⟩
    have hn8 : n8 ≤ n7 + 9 + a.val.size := by have h := hr.len; rw [List.length_append, r7.out.len, List.length_append] at h; have := gr_le a.val.size; have h2 : a.val.data.toList.length = a.val.size := (by simp); omega
    have r8 := Lib.hid hr
    have g9 := row_next2 g8 hb
    have hbw9 := below_next hbw8 hbw8.size hb
    clear hc hr hb g8 hgc r7
    go_wp2
    go_ret
    refine ⟨A8, n8, c8, rfl, ?_, hbw9⟩
    rw [← HP.out]
    exact r8.out.base_le hbw8.size
end Go.Proofs.Ytabgkkdgamacnaa
