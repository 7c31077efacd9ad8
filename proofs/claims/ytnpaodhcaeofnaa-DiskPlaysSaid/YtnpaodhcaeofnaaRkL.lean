/-
  The contract of the document's own Append, of a file that is made. Conditions: at most 2^40 bytes, files and writes.
-/
import Derived.Test.YtnpaodhcaeofnaaRkK
namespace Go.Proofs.Ytnpaodhcaeofnaa
open Go.RowKit

theorem rask_four {pf : Bool} {L : List (ByteArray × Rf)} {s : ByteArray} (h : raskE pf L s = 4) : getL L s = none ∧ raskI pf L s = -1 := by
  refine ⟨?_, by unfold raskI; rw [h]; rfl⟩
  unfold raskE at h
  cases hg : getL L s with
  | none => rfl
  | some f =>
    rw [hg] at h
    split at h
    · cases h
    · split at h
      · simp at h
      · cases h
set_option maxRecDepth 100000 in
set_option maxHeartbeats 4000000 in
theorem rappend_made (w : World) (G : Nat → Prop) (r : Nat) (T : Rk) (h : RkIs w G r T) (hn : T.L.length ≤ 1099511627776) (hz : sumL rfz T.L ≤ T.room) (hro : T.room ≤ 1048576) (hws : ∀ x ∈ T.L, x.2.ws.length ≤ 1099511627776) (s : ByteArray) (hs : s.size ≤ 140737488355328)
    (B : Option Addr) (l : List UInt8) (m cB : Nat) (hB : BytF w (fun i => ¬ G i) B l) (hl : l.length = m) (hm : m ≤ 1099511627776) (he : raskE T.pf T.L s = 4) (hfit : ¬ T.room - sumL rfz T.L < m) :
    Calls Try.prog 7 #[.pointer (some ⟨r, 0, none⟩), .string s, .slice B m cB] w fun e w' => e = .returned (.int .i64 0) ∧ (∃ G', RkIs w' G' r { T with L := T.L ++ [(s, (⟨[], []⟩ : Rf).add l)] } ∧ OwnG G G' w.heap.size) ∧ Off G w w' := by
  obtain ⟨D, A, n, c, xs, hat, hG⟩ := h
  obtain ⟨hg, hI⟩ := rask_four he
  have hk := rask_any w D r n c T.room T.lives A T.pf xs T.L hat (by rw [← hat.len]; exact hn) s hs
  rw [he, hI] at hk
  have hpf := rask_pf (.inr he)
  obtain ⟨⟨c0, c1, c2, c3⟩, _⟩ := row4 hat.row
  have hatd : RkAt w.drew D r A n c T.room T.pf T.lives xs T.L := hat.off (G := fun _ => False) (Off.refl _ _).drew fun _ _ h => h
  have hsz := rsize_any w.drew D r n c T.room T.lives A T.pf xs T.L hatd (by rw [← hat.len]; exact hn) (by omega) hws
  rw [hpf, if_neg (by decide)] at hsz
  have hltr := hat.ltr
  have HAT := Lib.hid hat
  have hnT : n ≤ 1099511627776 := by rw [← hat.len]; exact hn
  obtain ⟨z, hzz⟩ : ∃ z, z = sumL rfz T.L := ⟨_, rfl⟩
  rw [← hzz] at hsz hfit hz
  have hfit' : ¬ (T.room : Int) - (z : Int) < (m : Int) := by omega
  have hwr : IntKind.i64.wrap ((T.room : Int) - (z : Int)) = (T.room : Int) - (z : Int) := IntWalk.i64_in _ (by omega)
  have HLN := Lib.hid hl
  obtain ⟨zf, hIF, hz3⟩ := Try.infoFile
  clear hat hatd hg hzz hI he hl hpf
  go_enter Try.func7, Try.ntmps7
  go_wp2_with fail
  refine hk.mono ?_
  rintro e w2 ⟨rfl, rfl⟩
  clear hk
  go_upto_region 4 with fail
  refine wp_region_held_drew (S := (fun W' => W'.cell? ⟨r, 0, none⟩ = some (.int .i64 (T.room : Int)))) (by kernel_rfl) (c0) (fun hHeld => ?_)
  refine wpAnyH_take (i := 0) (oi := ⟨(some 22), _, _, _, _, _⟩) (v := ?vq1_0) rfl (by kernel_rfl) (by kernel_rfl) (by kernel_rfl) (fun _ _ _ h => h) (Or.inl ⟨by rfl, ?yq1_0⟩) hHeld ?_
  case yq1_0 => (intro W0 hSw; go_simp; try with_reducible rfl)
  try simp only [Act.put, List.setIfInBounds_toArray, List.set_cons_zero, List.set_cons_succ]
  refine wpAnyH_take (i := 1) (oi := ⟨(some 23), _, _, _, _, _⟩) (v := ?vq1_1) rfl (by kernel_rfl) (by kernel_rfl) (by kernel_rfl) (fun _ _ _ h => h) (Or.inl ⟨by rfl, ?yq1_1⟩) hHeld ?_
  case yq1_1 => (intro W0 hSw; go_simp; try with_reducible rfl)
  try simp only [Act.put, List.setIfInBounds_toArray, List.set_cons_zero, List.set_cons_succ]
  refine wpAnyH_take (i := 2) (oi := ⟨(some 24), _, _, _, _, _⟩) (v := ?vq1_2) rfl (by kernel_rfl) (by kernel_rfl) (by kernel_rfl) (fun _ _ _ h => h) (Or.inl ⟨by rfl, ?yq1_2⟩) hHeld ?_
  case yq1_2 => (intro W0 hSw; go_simp; try with_reducible rfl)
  try simp only [Act.put, List.setIfInBounds_toArray, List.set_cons_zero, List.set_cons_succ]
  refine wpAnyH_take (i := 3) (oi := ⟨(some 25), _, _, _, _, _⟩) (v := ?vq1_3) rfl (by kernel_rfl) (by kernel_rfl) (by kernel_rfl) (fun _ _ _ h => h) (Or.inl ⟨by rfl, ?yq1_3⟩) hHeld ?_
  case yq1_3 => (intro W0 hSw; go_simp; try with_reducible rfl)
  try simp only [Act.put, List.setIfInBounds_toArray, List.set_cons_zero, List.set_cons_succ]
  refine wpAnyH_take (i := 4) (oi := ⟨(some 26), _, _, _, _, _⟩) (v := ?vq1_4) rfl (by kernel_rfl) (by kernel_rfl) (by kernel_rfl) (fun _ _ _ h => h) (Or.inl ⟨by rfl, ?yq1_4⟩) hHeld ?_
  case yq1_4 => (intro W0 hSw; go_simp; try with_reducible rfl)
  try simp only [Act.put, List.setIfInBounds_toArray, List.set_cons_zero, List.set_cons_succ]
  refine wpAnyH_take (i := 5) (oi := ⟨(some 27), _, _, _, _, _⟩) (v := ?vq1_5) rfl (by kernel_rfl) (by kernel_rfl) (by kernel_rfl) (fun _ _ _ h => h) (Or.inl ⟨by rfl, ?yq1_5⟩) hHeld ?_
  case yq1_5 => (intro W0 hSw; go_simp; try with_reducible rfl)
  try simp only [Act.put, List.setIfInBounds_toArray, List.set_cons_zero, List.set_cons_succ]
  refine wpAnyH_take (i := 6) (oi := ⟨(some 28), _, _, _, _, _⟩) (v := ?vq1_6) rfl (by kernel_rfl) (by kernel_rfl) (by kernel_rfl) (fun _ _ _ h => h) (Or.inl ⟨by rfl, ?yq1_6⟩) hHeld ?_
  case yq1_6 => (intro W0 hSw; go_simp; try with_reducible rfl)
  try simp only [Act.put, List.setIfInBounds_toArray, List.set_cons_zero, List.set_cons_succ]
  refine wpAnyH_ready (rs := [7]) (by kernel_rfl) (by simp) ?_
  refine AllReadyH.cons (i := 7) (o := ⟨(some 29), _, _, _, _, _⟩) rfl (fun K hK => ?_) AllReadyH.nil
  go_simp
  refine hsz.mono ?_
  rintro e w3 ⟨rfl, hb3⟩
  have HB3 := Lib.hid (show Below w2.heap.size w2 w3 from ⟨hb3.os, hb3.tape, hb3.output, hb3.size, hb3.block⟩)
  refine hK.out _ _ ((World.cell?_of_block (HB3.out.block r hltr)).trans c0) (fun hHeld => ?_)
  clear hK K
  try simp only [Act.put, List.setIfInBounds_toArray, List.set_cons_zero, List.set_cons_succ]
  refine wpAnyH_take (i := 8) (oi := ⟨(some 30), _, _, _, _, _⟩) (v := ?vq1_7) rfl (by kernel_rfl) (by kernel_rfl) (by kernel_rfl) (fun _ _ _ h => h) (Or.inl ⟨by rfl, ?yq1_7⟩) hHeld ?_
  case yq1_7 => (intro W0 hSw; go_simp; try with_reducible rfl)
  try simp only [Act.put, List.setIfInBounds_toArray, List.set_cons_zero, List.set_cons_succ]
  refine wpAnyH_take (i := 9) (oi := ⟨(some 31), _, _, _, _, _⟩) (v := ?vq1_8) rfl (by kernel_rfl) (by kernel_rfl) (by kernel_rfl) (fun _ _ _ h => h) (Or.inl ⟨by rfl, ?yq1_8⟩) hHeld ?_
  case yq1_8 => (intro W0 hSw; go_simp; try with_reducible rfl)
  try simp only [Act.put, List.setIfInBounds_toArray, List.set_cons_zero, List.set_cons_succ]
  refine wpAnyH_done (by kernel_rfl) ?_ _
  go_upto_region 7 with fail
  have HA3 := Lib.hid (HAT.out.off (G := fun _ => False) (Off.of_below HB3.out fun i a b => by omega) fun _ _ h => h)
  clear c0 c1 c2 c3 hHeld
  have hltr3 := HA3.out.ltr
  have hbA : Below w3.heap.size w3 (w3.alloc (.cells #[.string s, .slice none 0 0, .slice none 0 0] 56)) := (Below.refl _ _).alloc (Nat.le_refl _) _
  have hownA := owns3_keep HA3.out.own (w' := w3.alloc (.cells #[.string s, .slice none 0 0, .slice none 0 0] 56)) fun k hk _ => hbA.block k hk
  have c1a : (w3.alloc (.cells #[.string s, .slice none 0 0, .slice none 0 0] 56)).cell? ⟨r, 1, none⟩ = some (.slice A n c) := (World.cell?_of_block (hbA.block r hltr3)).trans (row4 HA3.out.row).1.2.1
  have c1b := (row4 HA3.out.row).1.2.1
  have hrowA := (hbA.block r hltr3).trans HA3.out.row
  go_wp2_with (at_builtin; refine wp_append_row _ rfl _ _ 29 rfl 56 Try.underlying29 zf 3 64 hIF hz3 (by decide) (by decide) A n c xs rfl hownA ⟨w3.heap.size, 0, none⟩ 1 1 rfl [.string s, .slice none 0 0, .slice none 0 0] (fun j u hj => by rw [addr_add, Nat.zero_add, World.cell?_alloc_new]; simpa using hj) (by simp [Value.oneCell']) rfl (by omega) ?_)
  intro A4 c4 w4 ho4 hgr4 hat4
  obtain ⟨WA, hWA⟩ : ∃ WA, WA = w3.alloc (.cells #[.string s, .slice none 0 0, .slice none 0 0] 56) := ⟨_, rfl⟩
  rw [← hWA] at hgr4 hrowA hbA hownA
  have hrow4 : w4.heap[r]? = some (.cells #[.int .i64 (T.room : Int), .slice A n c, .bool T.pf, .int .i64 (T.lives : Int)] 31 (0, 0)) := (hgr4.block r (Nat.lt_of_lt_of_le hltr3 hbA.size) (fun e => by obtain ⟨q, hq, e2⟩ := Option.map_eq_some_iff.1 e.symm; exact owns3_ne hownA hrowA (by decide) q hq e2)).trans hrowA
  obtain ⟨⟨_, d1, _, _⟩, df1, _⟩ := row4 hrow4
  have hset := world_set_cell (cs := [.int .i64 (T.room : Int), .slice A n c, .bool T.pf, .int .i64 (T.lives : Int)]) hrow4 1 (.slice A4 (n + 1) c4)
  have hof34 : Off (fun k => k = r ∨ ∃ a, A = some a ∧ k = a.block) w3 w4 := (Off.of_below hbA fun k h1 h2 => by omega).trans (G := fun k => ∃ a, A = some a ∧ k = a.block) ⟨hgr4.os, hgr4.tape, hgr4.output, hgr4.size, fun k hk hn => hgr4.block k hk (fun e => by obtain ⟨q, hq, e2⟩ := Option.map_eq_some_iff.1 e.symm; exact hn ⟨q, hq, e2.symm⟩)⟩ fun k h => .inl (.inr h)
  have hof35 : Off (fun k => k = r ∨ ∃ a, A = some a ∧ k = a.block) w3 (w4.setCell ⟨r, 1, none⟩ (.slice A4 (n + 1) c4)) := hof34.set (.inl (.inl rfl)) _
  have hA4 : ∀ p, A4 = some p → (∃ q, A = some q ∧ p.block = q.block) ∨ w3.heap.size ≤ p.block := fun p hp => (hat4 p hp).imp id fun h => by omega
  have hne4 : AtF (fun k => k ≠ r) A4 := fun a ha e => by
    rcases hA4 a ha with ⟨q, hq, e2⟩ | h
    · exact owns3_ne HA3.out.own HA3.out.row (by decide) q hq (by rw [← e2]; exact e)
    · omega
  have hownF := own3_set (g := r) (i := 1) ho4 hne4 (.slice A4 (n + 1) c4)
  have HA0 := Lib.hid (HA3.out.newRow2 hof35 (fun k hk e => by
    rcases e with e | ⟨a, ha, e⟩
    · exact HA3.out.rD (e ▸ hk)
    · exact HA3.out.aD a ha (e ▸ hk)) (L' := T.L ++ [(s, ⟨[], []⟩)]) hset.out hownF (fun a ha hD => by
    rcases hA4 a ha with ⟨q, hq, e2⟩ | h
    · exact HA3.out.aD q hq (e2 ▸ hD)
    · have := HA3.out.low _ hD; omega) (snoc_ents HA3.out (ent_new s)) (by rw [List.length_append, HA3.out.len]; rfl))
  have HOF := Lib.hid hof35
  have HA4 := Lib.hid hA4
  clear hset hof34 hof35 hownF hne4 hA4 hat4 hgr4 hrow4 ho4 hownA hrowA hbA c1a c1b hWA
  go_upto_region 8 with fail
  generalize w4.setCell ⟨r, 1, none⟩ (.slice A4 (n + 1) c4) = w5 at *
  clear d1 df1 hltr3
  obtain ⟨n5, hn5⟩ : ∃ n5, n5 = n + 1 := ⟨_, rfl⟩
  obtain ⟨L5, hL5⟩ : ∃ L5, L5 = T.L ++ [(s, (⟨[], []⟩ : Rf))] := ⟨_, rfl⟩
  obtain ⟨xs5, hx5⟩ : ∃ xs5, xs5 = xs ++ [.string s, .slice none 0 0, .slice none 0 0] := ⟨_, rfl⟩
  rw [← hn5, ← hL5, ← hx5] at HA0
  rw [← hn5]
  have hin : n < n5 := by omega
  have hi5 : (n5 : Int) - 1 = (n : Int) := by omega
  have hlen3 : T.L.length = n := HA3.out.len
  have HX := vlt (show L5[n]? = some (s, (⟨[], []⟩ : Rf)) by rw [hL5, List.getElem?_append_right (by omega), hlen3, Nat.sub_self]; rfl)
  have HU := vlt (show L5.set n (s, (⟨[], []⟩ : Rf).add l) = T.L ++ [(s, (⟨[], []⟩ : Rf).add l)] by rw [hL5, List.set_append_right _ _ (by omega), hlen3, Nat.sub_self]; rfl)
  have hnT5 : n5 ≤ 1099511627777 := by omega
  clear hn5 hL5 hx5 hlen3
  obtain ⟨b, _, _, _, _, _, _, rfl, _⟩ := HA0.out.ent HX.out
  obtain ⟨⟨_, k1, _, _⟩, _⟩ := row4 HA0.out.row
  go_upto_region 9 with fail
  have HA := HA0
  have hltr := HA.out.ltr
  have hbl : b < w5.heap.size := owns3_lt HA.out.own rfl
  obtain ⟨As, ns, cs, Aw, nw, cw, x0, x1, x2, hsF, hsl, hsc, hwF, hwl, hwc⟩ := HA.out.ents n _ HX.out
  have hxl := HA.out.size.2
  have hcw : w5.cell? ⟨b, n * 3 + 2, none⟩ = some (.slice Aw nw cw) := (World.ownsRow.cellAt HA.out.own (n * 3 + 2) (by omega)).trans x2
  obtain ⟨vs, hvl, hvs1, hvs, hvs2⟩ := prt_vals hwF hwl
  have hB5 : Byt w5 w5.heap.size B l := ((hB.off (G := fun _ => False) (Off.of_below HB3.out fun i a b => by omega) fun _ _ _ h => h).off HOF.out fun k _ hk e => hk ((hG k).2 (by rcases e with e | e; exact .inl e; exact .inr (.inl e)))).byt
  have hbs := byt_src hB5 HLN.out
  have hbl5 : (bv l).length = m := by rw [bv_len]; exact HLN.out
  have hm64 : m * 64 ≤ 140737488355328 := by omega
  have hnw6 : nw = 0 := by rw [← hwl]; rfl
  have hnw64 : nw * 64 ≤ 140737488355328 := by omega
  have hnw65 : (nw + 1) * 64 ≤ 140737488355328 := by omega
  have hnc := HA.out.size.1
  clear hnw6
  refine c_start (S := fun W' => W'.cell? ⟨r, 1, none⟩ = some (.slice (some ⟨b, 0, none⟩) n5 c4) ∧ W'.cell? ⟨b, n * 3 + 2, none⟩ = some (.slice Aw nw cw)) 22 (by kernel_rfl) ⟨k1, hcw⟩ (fun hHeld => ?_)
  refine c_take (i := 0) (oi := ⟨(some 51), _, _, _, _, _⟩) (v := ?vp1_0) rfl (by decide) (by kernel_rfl) (by kernel_rfl) (by kernel_rfl) (fun _ _ _ h => h) (Or.inl ⟨by rfl, ?yp1_0⟩) hHeld ?_
  case yp1_0 => (intro W0 hSw; go_simp; try with_reducible rfl)
  try simp only [Act.put, List.setIfInBounds_toArray, List.set_cons_zero, List.set_cons_succ]
  refine c_take (i := 1) (oi := ⟨(some 52), _, _, _, _, _⟩) (v := ?vp1_1) rfl (by decide) (by kernel_rfl) (by kernel_rfl) (by kernel_rfl) (fun _ _ _ h => h) (Or.inl ⟨by rfl, ?yp1_1⟩) hHeld ?_
  case yp1_1 => (intro W0 hSw; go_simp; try with_reducible rfl)
  try simp only [Act.put, List.setIfInBounds_toArray, List.set_cons_zero, List.set_cons_succ]
  refine c_take (i := 2) (oi := ⟨(some 53), _, _, _, _, _⟩) (v := ?vp1_2) rfl (by decide) (by kernel_rfl) (by kernel_rfl) (by kernel_rfl) (fun _ _ _ h => h) (Or.inl ⟨by rfl, ?yp1_2⟩) hHeld ?_
  case yp1_2 => (intro W0 hSw; go_simp; try with_reducible rfl)
  try simp only [Act.put, List.setIfInBounds_toArray, List.set_cons_zero, List.set_cons_succ]
  refine c_take (i := 4) (oi := ⟨(some 55), _, _, _, _, _⟩) (v := ?vp1_3) rfl (by decide) (by kernel_rfl) (by kernel_rfl) (by kernel_rfl) (fun _ _ _ h => h) (Or.inl ⟨by rfl, ?yp1_3⟩) hHeld ?_
  case yp1_3 => (intro W0 hSw; go_simp; try with_reducible rfl)
  try simp only [Act.put, List.setIfInBounds_toArray, List.set_cons_zero, List.set_cons_succ]
  refine c_take (i := 6) (oi := ⟨(some 57), _, _, _, _, _⟩) (v := ?vp1_4) rfl (by decide) (by kernel_rfl) (by kernel_rfl) (by kernel_rfl) (fun _ _ _ h => h) (Or.inl ⟨by rfl, ?yp1_4⟩) hHeld ?_
  case yp1_4 => (intro W0 hSw; go_simp; try with_reducible rfl)
  try simp only [Act.put, List.setIfInBounds_toArray, List.set_cons_zero, List.set_cons_succ]
  refine c_take (i := 7) (oi := ⟨(some 58), _, _, _, _, _⟩) (v := ?vp1_5) rfl (by decide) (by kernel_rfl) (by kernel_rfl) (by kernel_rfl) (fun _ _ _ h => h) (Or.inl ⟨by rfl, ?yp1_5⟩) hHeld ?_
  case yp1_5 => (intro W0 hSw; go_simp; try with_reducible rfl)
  try simp only [Act.put, List.setIfInBounds_toArray, List.set_cons_zero, List.set_cons_succ]
  refine c_take (i := 8) (oi := ⟨(some 59), _, _, _, _, _⟩) (v := ?vp1_6) rfl (by decide) (by kernel_rfl) (by kernel_rfl) (by kernel_rfl) (fun _ _ _ h => h) (Or.inl ⟨by rfl, ?yp1_6⟩) hHeld ?_
  case yp1_6 => (intro W0 hSw; go_simp; try with_reducible rfl)
  try simp only [Act.put, List.setIfInBounds_toArray, List.set_cons_zero, List.set_cons_succ]
  refine c_take (i := 10) (oi := ⟨(some 61), _, _, _, _, _⟩) (v := ?vp1_7) rfl (by decide) (by kernel_rfl) (by kernel_rfl) (by kernel_rfl) (fun _ _ _ h => h) (Or.inl ⟨by rfl, ?yp1_7⟩) hHeld ?_
  case yp1_7 => (intro W0 hSw; go_simp; try with_reducible rfl)
  try simp only [Act.put, List.setIfInBounds_toArray, List.set_cons_zero, List.set_cons_succ]
  refine c_take (i := 16) (oi := ⟨(some 67), _, _, _, _, _⟩) (v := ?vp1_8) rfl (by decide) (by kernel_rfl) (by kernel_rfl) (by kernel_rfl) (fun _ _ _ h => h) (Or.inl ⟨by rfl, ?yp1_8⟩) hHeld ?_
  case yp1_8 => (intro W0 hSw; go_simp; try with_reducible rfl)
  try simp only [Act.put, List.setIfInBounds_toArray, List.set_cons_zero, List.set_cons_succ]
  refine c_read (i := 3) (oi := ⟨(some 54), _, _, _, _, _⟩) (v := ?vp1_9) rfl (by decide) (by kernel_rfl) (by kernel_rfl) (by kernel_rfl) (by kernel_rfl) (by kernel_rfl) (fun _ _ _ h => h) (Or.inl ⟨by rfl, ?yp1_9⟩) hHeld ?_
  case yp1_9 => (intro W0 hSw; go_simp; try with_reducible rfl)
  try simp only [Act.put, List.setIfInBounds_toArray, List.set_cons_zero, List.set_cons_succ]
  refine c_read (i := 9) (oi := ⟨(some 60), _, _, _, _, _⟩) (v := ?vp1_10) rfl (by decide) (by kernel_rfl) (by kernel_rfl) (by kernel_rfl) (by kernel_rfl) (by kernel_rfl) (fun _ _ _ h => h) (Or.inl ⟨by rfl, ?yp1_10⟩) hHeld ?_
  case yp1_10 => (intro W0 hSw; go_simp; try with_reducible rfl)
  try simp only [Act.put, List.setIfInBounds_toArray, List.set_cons_zero, List.set_cons_succ]
  refine c_take (i := 11) (oi := ⟨(some 62), _, _, _, _, _⟩) (v := ?vp1_11) rfl (by decide) (by kernel_rfl) (by kernel_rfl) (by kernel_rfl) (fun _ _ _ h => h) (Or.inl ⟨by rfl, ?yp1_11⟩) hHeld ?_
  case yp1_11 => (intro W0 hSw; go_simp; try with_reducible rfl)
  try simp only [Act.put, List.setIfInBounds_toArray, List.set_cons_zero, List.set_cons_succ]
  refine c_take (i := 12) (oi := ⟨(some 63), _, _, _, _, _⟩) (v := ?vp1_12) rfl (by decide) (by kernel_rfl) (by kernel_rfl) (by kernel_rfl) (fun _ _ _ h => h) (Or.inl ⟨by rfl, ?yp1_12⟩) hHeld ?_
  case yp1_12 => (intro W0 hSw; go_simp; try with_reducible rfl)
  try simp only [Act.put, List.setIfInBounds_toArray, List.set_cons_zero, List.set_cons_succ]
  refine c_read (i := 13) (oi := ⟨(some 64), _, _, _, _, _⟩) (v := ?vp1_13) rfl (by decide) (by kernel_rfl) (by kernel_rfl) (by kernel_rfl) (by kernel_rfl) (by kernel_rfl) (fun _ _ _ h => h) (Or.inl ⟨by rfl, ?yp1_13⟩) hHeld ?_
  case yp1_13 => (intro W0 hSw; go_simp; try with_reducible rfl)
  try simp only [Act.put, List.setIfInBounds_toArray, List.set_cons_zero, List.set_cons_succ]
  refine c_two (i := 5) (j := 15) (oi := ⟨(some 56), _, _, _, _, _⟩) (oj := ⟨(some 66), _, _, _, _, _⟩) (by kernel_rfl) rfl rfl (fun K hK => ?_) (fun K hK => ?_)
  · refine step_emptyW (by rfl) rfl ?_
    intro W1 hq hb _
    have hb1 : Below w5.heap.size w5 W1 := ⟨hb.os, hb.tape, hb.output, hb.size, hb.block⟩
    have HE1_1 : Hid (W1.heap[w5.heap.size]? = some (.cells #[] 33 (0, 0))) := Lib.hid hq
    have HGE1 := Lib.hid (show w5.heap.size ≤ w5.heap.size from Nat.le_refl _)
    have B1 := Lib.hid (show Below w5.heap.size w5 W1 from hb1)
    refine hK.out _ _ (⟨(World.cell?_of_block (B1.out.block r hltr)).trans k1, (World.cell?_of_block (B1.out.block b hbl)).trans hcw⟩) (fun hHeld => ?_)
    clear hK K
    try simp only [Act.put, List.setIfInBounds_toArray, List.set_cons_zero, List.set_cons_succ]
    refine c_two (i := 14) (j := 15) (oi := ⟨(some 65), _, _, _, _, _⟩) (oj := ⟨(some 66), _, _, _, _, _⟩) (by kernel_rfl) rfl rfl (fun K hK => ?_) (fun K hK => ?_)
    · refine step_append_lit W1 rfl (.tmp 56) (.tmp 64) 54 rfl 33 Try.underlying54 (.slice none 0 0) 24 Try.infoBytes rfl (by decide) w5.heap.size (by rfl) HE1_1.out Aw nw cw (by rfl) vs (hvs W1 B1.out) hvs1 hvl hnw64 ?_
      intro A14 c14 W2 ho hb hat
      have hb2 : Below W1.heap.size W1 W2 := hb
      have HO14_2 := Lib.hid ho
      have HA14 := Lib.hid (show ∀ a, A14 = some a → w5.heap.size ≤ a.block from fun a ha => (hat a ha).elim (fun e => by rw [e]; exact HGE1.out) fun e => Nat.le_trans B1.out.size e)
      have B2 := Lib.hid (below_next B1.out B1.out.size hb2)
      have HE1_2 := row_next HE1_1 hb2
      refine hK.out _ _ (⟨(World.cell?_of_block (B2.out.block r hltr)).trans k1, (World.cell?_of_block (B2.out.block b hbl)).trans hcw⟩) (fun hHeld => ?_)
      clear hK K
      try simp only [Act.put, List.setIfInBounds_toArray, List.set_cons_zero, List.set_cons_succ]
      refine c_step (i := 15) (o := ⟨(some 66), _, _, _, _, _⟩) (by kernel_rfl) rfl (fun K hK => ?_)
      refine step_emptyB (by rfl) rfl ?_
      intro W3 hq hb _
      have hb3 : Below W2.heap.size W2 W3 := hb
      have HE2_3 : Hid (W3.heap[W2.heap.size]? = some (.cells #[] 5 (0, 0))) := Lib.hid hq
      have HGE2 := Lib.hid (show w5.heap.size ≤ W2.heap.size from B2.out.size)
      have B3 := Lib.hid (below_next B2.out B2.out.size hb3)
      have HO14_3 := own_next HO14_2 hb3
      refine hK.out _ _ (⟨(World.cell?_of_block (B3.out.block r hltr)).trans k1, (World.cell?_of_block (B3.out.block b hbl)).trans hcw⟩) (fun hHeld => ?_)
      clear hK K
      try simp only [Act.put, List.setIfInBounds_toArray, List.set_cons_zero, List.set_cons_succ]
      refine c_step (i := 17) (o := ⟨(some 68), _, _, _, _, _⟩) (by kernel_rfl) rfl (fun K hK => ?_)
      refine step_append_lit W3 rfl (.tmp 66) (.tmp 67) 33 rfl 5 Try.underlying33 (.int .u8 0) 1 Try.infoByte rfl (by decide) W2.heap.size (by rfl) HE2_3.out B m cB (by rfl) (bv l) (hbs W3 B3.out) (bv_one _) hbl5 hm64 ?_
      intro A17 c17 W4 ho hb hat
      have hb4 : Below W3.heap.size W3 W4 := hb
      have HO17_4 := Lib.hid ho
      have HA17 := Lib.hid (show ∀ a, A17 = some a → w5.heap.size ≤ a.block from fun a ha => (hat a ha).elim (fun e => by rw [e]; exact HGE2.out) fun e => Nat.le_trans B3.out.size e)
      have B4 := Lib.hid (below_next B3.out B3.out.size hb4)
      have HO14_4 := own_next HO14_3 hb4
      have HE2_4 := row_next HE2_3 hb4
      refine hK.out _ _ (⟨(World.cell?_of_block (B4.out.block r hltr)).trans k1, (World.cell?_of_block (B4.out.block b hbl)).trans hcw⟩) (fun hHeld => ?_)
      clear hK K
      try simp only [Act.put, List.setIfInBounds_toArray, List.set_cons_zero, List.set_cons_succ]
      refine c_step (i := 18) (o := ⟨(some 69), _, _, _, _, _⟩) (by kernel_rfl) rfl (fun K hK => ?_)
      refine step_litW (by rfl) (.tmp 68) rfl A17 m c17 (by rfl) ?_
      intro W5 hq hb _
      have hb5 : Below W4.heap.size W4 W5 := hb
      have H18_5 := Lib.hid hq
      have B5 := Lib.hid (below_next B4.out B4.out.size hb5)
      have HO14_5 := own_next HO14_4 hb5
      have HO17_5 := own_next HO17_4 hb5
      refine hK.out _ _ (⟨(World.cell?_of_block (B5.out.block r hltr)).trans k1, (World.cell?_of_block (B5.out.block b hbl)).trans hcw⟩) (fun hHeld => ?_)
      clear hK K
      try simp only [Act.put, List.setIfInBounds_toArray, List.set_cons_zero, List.set_cons_succ]
      refine c_step (i := 19) (o := ⟨(some 70), _, _, _, _, _⟩) (by kernel_rfl) rfl (fun K hK => ?_)
      refine step_append_row W5 rfl (.tmp 65) (.tmp 69) 54 rfl 33 Try.underlying54 (.slice none 0 0) 1 24 Try.infoBytes rfl (by decide) (by decide) A14 nw c14 vs (by rfl) HO14_5.out (some ⟨W4.heap.size, 0, none⟩) 1 1 (by rfl) [.slice A17 m c17] (fun _ => ⟨_, rfl, fun j u hj => by rw [addr_add, Nat.zero_add, cell_of_row _ _ _ _ _ _ H18_5.out]; simpa using hj⟩) (by simp [Value.oneCell']) rfl hnw65 ?_
      intro A19 c19 W6 ho19 hgr hat _ _
      have B6 := Lib.hid (B5.out.grown hgr B5.out.size fun k hk => by obtain ⟨q, hq, rfl⟩ := Option.map_eq_some_iff.1 hk; exact HA14.out q hq)
      have HA19 := Lib.hid (at_new hat HA14.out B5.out.size)
      have HO17_6 := Lib.hid (own_grown HO17_5.out HO14_5.out (by decide) hgr)
      have HP := Lib.hid (prt_new (D := D) B6.out ho19 hvl hwl hvs2 HO17_6.out HA19.out HA17.out)
      have HOL := owns3_keep HA.out.own (w' := W6) fun k hk _ => B6.out.block k hk
      obtain ⟨hownS, hgrS⟩ := HOL.stored (n * 3 + 2) (.slice A19 (nw + 1) c19)
      have hfr := HOL.frozenAt (n * 3 + 2)
      have hcwk := (World.cell?_of_block (B6.out.block b hbl)).trans hcw
      have HPUT := Lib.hid (put_w HA.out B6.out hownS hgrS hin x0 x1 hxl hsF hsl hsc HP.out hwl (owns_size ho19).2.2)
      refine hK.out _ _ (⟨(World.cell?_of_block (B6.out.block r hltr)).trans k1, (World.cell?_of_block (B6.out.block b hbl)).trans hcw⟩) (fun hHeld => ?_)
      clear hK K HOL hownS hgrS hgr hat ho19
      try simp only [Act.put, List.setIfInBounds_toArray, List.set_cons_zero, List.set_cons_succ]
      refine c_take (i := 20) (oi := ⟨(some 71), _, _, _, _, _⟩) (v := ?vp1_14) rfl (by decide) (by kernel_rfl) (by kernel_rfl) (by kernel_rfl) (fun _ _ _ h => h) (Or.inl ⟨by rfl, ?yp1_14⟩) hHeld ?_
      case yp1_14 => (intro W0 hSw; go_simp; try with_reducible rfl)
      try simp only [Act.put, List.setIfInBounds_toArray, List.set_cons_zero, List.set_cons_succ]
      refine c_take (i := 21) (oi := ⟨(some 72), _, _, _, _, _⟩) (v := ?vp1_15) rfl (by decide) (by kernel_rfl) (by kernel_rfl) (by kernel_rfl) (fun _ _ _ h => h) (Or.inl ⟨by rfl, ?yp1_15⟩) hHeld ?_
      case yp1_15 => (intro W0 hSw; go_simp; try with_reducible rfl)
      try simp only [Act.put, List.setIfInBounds_toArray, List.set_cons_zero, List.set_cons_succ]
      refine c_call (S' := fun W' => RkAt W' (fun k => D k ∨ (w5.heap.size ≤ k ∧ k < W6.heap.size)) r (some ⟨b, 0, none⟩) n5 c4 T.room T.pf T.lives (xs5.set (n * 3 + 2) (.slice A19 (nw + 1) c19)) (L5.set n (s, (⟨[], []⟩ : Rf).add l)) ∧ Off (RkG D r (some ⟨b, 0, none⟩)) w5 W') (o := ⟨none, _, _, _, _, _⟩) (by kernel_rfl) (by kernel_rfl) rfl (fun K hK => ?_)
      clear hHeld
      go_simp
      refine hK.out _ _ HPUT.out (fun hHeld => ?_)
      clear hK K
      try simp only [Act.put]
      refine wpAnyH_done (by kernel_rfl) ?_ _
      go_wp2
      go_ret
      refine ⟨rfl, ?_⟩
      rw [← HU.out]
      exact app_end2 hG HB3.out HOF.out HA4.out hHeld.1 hHeld.2
    · refine step_emptyB (by rfl) rfl ?_
      intro W2 hq hb _
      have hb2 : Below W1.heap.size W1 W2 := hb
      have HE2_2 : Hid (W2.heap[W1.heap.size]? = some (.cells #[] 5 (0, 0))) := Lib.hid hq
      have HGE2 := Lib.hid (show w5.heap.size ≤ W1.heap.size from B1.out.size)
      have B2 := Lib.hid (below_next B1.out B1.out.size hb2)
      have HE1_2 := row_next HE1_1 hb2
      refine hK.out _ _ (⟨(World.cell?_of_block (B2.out.block r hltr)).trans k1, (World.cell?_of_block (B2.out.block b hbl)).trans hcw⟩) (fun hHeld => ?_)
      clear hK K
      try simp only [Act.put, List.setIfInBounds_toArray, List.set_cons_zero, List.set_cons_succ]
      refine c_step (i := 14) (o := ⟨(some 65), _, _, _, _, _⟩) (by kernel_rfl) rfl (fun K hK => ?_)
      refine step_append_lit W2 rfl (.tmp 56) (.tmp 64) 54 rfl 33 Try.underlying54 (.slice none 0 0) 24 Try.infoBytes rfl (by decide) w5.heap.size (by rfl) HE1_2.out Aw nw cw (by rfl) vs (hvs W2 B2.out) hvs1 hvl hnw64 ?_
      intro A14 c14 W3 ho hb hat
      have hb3 : Below W2.heap.size W2 W3 := hb
      have HO14_3 := Lib.hid ho
      have HA14 := Lib.hid (show ∀ a, A14 = some a → w5.heap.size ≤ a.block from fun a ha => (hat a ha).elim (fun e => by rw [e]; exact HGE1.out) fun e => Nat.le_trans B2.out.size e)
      have B3 := Lib.hid (below_next B2.out B2.out.size hb3)
      have HE1_3 := row_next HE1_2 hb3
      have HE2_3 := row_next HE2_2 hb3
      refine hK.out _ _ (⟨(World.cell?_of_block (B3.out.block r hltr)).trans k1, (World.cell?_of_block (B3.out.block b hbl)).trans hcw⟩) (fun hHeld => ?_)
      clear hK K
      try simp only [Act.put, List.setIfInBounds_toArray, List.set_cons_zero, List.set_cons_succ]
      refine c_step (i := 17) (o := ⟨(some 68), _, _, _, _, _⟩) (by kernel_rfl) rfl (fun K hK => ?_)
      refine step_append_lit W3 rfl (.tmp 66) (.tmp 67) 33 rfl 5 Try.underlying33 (.int .u8 0) 1 Try.infoByte rfl (by decide) W1.heap.size (by rfl) HE2_3.out B m cB (by rfl) (bv l) (hbs W3 B3.out) (bv_one _) hbl5 hm64 ?_
      intro A17 c17 W4 ho hb hat
      have hb4 : Below W3.heap.size W3 W4 := hb
      have HO17_4 := Lib.hid ho
      have HA17 := Lib.hid (show ∀ a, A17 = some a → w5.heap.size ≤ a.block from fun a ha => (hat a ha).elim (fun e => by rw [e]; exact HGE2.out) fun e => Nat.le_trans B3.out.size e)
      have B4 := Lib.hid (below_next B3.out B3.out.size hb4)
      have HE2_4 := row_next HE2_3 hb4
      have HO14_4 := own_next HO14_3 hb4
      refine hK.out _ _ (⟨(World.cell?_of_block (B4.out.block r hltr)).trans k1, (World.cell?_of_block (B4.out.block b hbl)).trans hcw⟩) (fun hHeld => ?_)
      clear hK K
      try simp only [Act.put, List.setIfInBounds_toArray, List.set_cons_zero, List.set_cons_succ]
      refine c_step (i := 18) (o := ⟨(some 69), _, _, _, _, _⟩) (by kernel_rfl) rfl (fun K hK => ?_)
      refine step_litW (by rfl) (.tmp 68) rfl A17 m c17 (by rfl) ?_
      intro W5 hq hb _
      have hb5 : Below W4.heap.size W4 W5 := hb
      have H18_5 := Lib.hid hq
      have B5 := Lib.hid (below_next B4.out B4.out.size hb5)
      have HO14_5 := own_next HO14_4 hb5
      have HO17_5 := own_next HO17_4 hb5
      refine hK.out _ _ (⟨(World.cell?_of_block (B5.out.block r hltr)).trans k1, (World.cell?_of_block (B5.out.block b hbl)).trans hcw⟩) (fun hHeld => ?_)
      clear hK K
      try simp only [Act.put, List.setIfInBounds_toArray, List.set_cons_zero, List.set_cons_succ]
      refine c_step (i := 19) (o := ⟨(some 70), _, _, _, _, _⟩) (by kernel_rfl) rfl (fun K hK => ?_)
      refine step_append_row W5 rfl (.tmp 65) (.tmp 69) 54 rfl 33 Try.underlying54 (.slice none 0 0) 1 24 Try.infoBytes rfl (by decide) (by decide) A14 nw c14 vs (by rfl) HO14_5.out (some ⟨W4.heap.size, 0, none⟩) 1 1 (by rfl) [.slice A17 m c17] (fun _ => ⟨_, rfl, fun j u hj => by rw [addr_add, Nat.zero_add, cell_of_row _ _ _ _ _ _ H18_5.out]; simpa using hj⟩) (by simp [Value.oneCell']) rfl hnw65 ?_
      intro A19 c19 W6 ho19 hgr hat _ _
      have B6 := Lib.hid (B5.out.grown hgr B5.out.size fun k hk => by obtain ⟨q, hq, rfl⟩ := Option.map_eq_some_iff.1 hk; exact HA14.out q hq)
      have HA19 := Lib.hid (at_new hat HA14.out B5.out.size)
      have HO17_6 := Lib.hid (own_grown HO17_5.out HO14_5.out (by decide) hgr)
      have HP := Lib.hid (prt_new (D := D) B6.out ho19 hvl hwl hvs2 HO17_6.out HA19.out HA17.out)
      have HOL := owns3_keep HA.out.own (w' := W6) fun k hk _ => B6.out.block k hk
      obtain ⟨hownS, hgrS⟩ := HOL.stored (n * 3 + 2) (.slice A19 (nw + 1) c19)
      have hfr := HOL.frozenAt (n * 3 + 2)
      have hcwk := (World.cell?_of_block (B6.out.block b hbl)).trans hcw
      have HPUT := Lib.hid (put_w HA.out B6.out hownS hgrS hin x0 x1 hxl hsF hsl hsc HP.out hwl (owns_size ho19).2.2)
      refine hK.out _ _ (⟨(World.cell?_of_block (B6.out.block r hltr)).trans k1, (World.cell?_of_block (B6.out.block b hbl)).trans hcw⟩) (fun hHeld => ?_)
      clear hK K HOL hownS hgrS hgr hat ho19
      try simp only [Act.put, List.setIfInBounds_toArray, List.set_cons_zero, List.set_cons_succ]
      refine c_take (i := 20) (oi := ⟨(some 71), _, _, _, _, _⟩) (v := ?vp1_16) rfl (by decide) (by kernel_rfl) (by kernel_rfl) (by kernel_rfl) (fun _ _ _ h => h) (Or.inl ⟨by rfl, ?yp1_16⟩) hHeld ?_
      case yp1_16 => (intro W0 hSw; go_simp; try with_reducible rfl)
      try simp only [Act.put, List.setIfInBounds_toArray, List.set_cons_zero, List.set_cons_succ]
      refine c_take (i := 21) (oi := ⟨(some 72), _, _, _, _, _⟩) (v := ?vp1_17) rfl (by decide) (by kernel_rfl) (by kernel_rfl) (by kernel_rfl) (fun _ _ _ h => h) (Or.inl ⟨by rfl, ?yp1_17⟩) hHeld ?_
      case yp1_17 => (intro W0 hSw; go_simp; try with_reducible rfl)
      try simp only [Act.put, List.setIfInBounds_toArray, List.set_cons_zero, List.set_cons_succ]
      refine c_call (S' := fun W' => RkAt W' (fun k => D k ∨ (w5.heap.size ≤ k ∧ k < W6.heap.size)) r (some ⟨b, 0, none⟩) n5 c4 T.room T.pf T.lives (xs5.set (n * 3 + 2) (.slice A19 (nw + 1) c19)) (L5.set n (s, (⟨[], []⟩ : Rf).add l)) ∧ Off (RkG D r (some ⟨b, 0, none⟩)) w5 W') (o := ⟨none, _, _, _, _, _⟩) (by kernel_rfl) (by kernel_rfl) rfl (fun K hK => ?_)
      clear hHeld
      go_simp
      refine hK.out _ _ HPUT.out (fun hHeld => ?_)
      clear hK K
      try simp only [Act.put]
      refine wpAnyH_done (by kernel_rfl) ?_ _
      go_wp2
      go_ret
      refine ⟨rfl, ?_⟩
      rw [← HU.out]
      exact app_end2 hG HB3.out HOF.out HA4.out hHeld.1 hHeld.2
  · refine step_emptyB (by rfl) rfl ?_
    intro W1 hq hb _
    have hb1 : Below w5.heap.size w5 W1 := ⟨hb.os, hb.tape, hb.output, hb.size, hb.block⟩
    have HE2_1 : Hid (W1.heap[w5.heap.size]? = some (.cells #[] 5 (0, 0))) := Lib.hid hq
    have HGE2 := Lib.hid (show w5.heap.size ≤ w5.heap.size from Nat.le_refl _)
    have B1 := Lib.hid (show Below w5.heap.size w5 W1 from hb1)
    refine hK.out _ _ (⟨(World.cell?_of_block (B1.out.block r hltr)).trans k1, (World.cell?_of_block (B1.out.block b hbl)).trans hcw⟩) (fun hHeld => ?_)
    clear hK K
    try simp only [Act.put, List.setIfInBounds_toArray, List.set_cons_zero, List.set_cons_succ]
    refine c_step (i := 5) (o := ⟨(some 56), _, _, _, _, _⟩) (by kernel_rfl) rfl (fun K hK => ?_)
    refine step_emptyW (by rfl) rfl ?_
    intro W2 hq hb _
    have hb2 : Below W1.heap.size W1 W2 := hb
    have HE1_2 : Hid (W2.heap[W1.heap.size]? = some (.cells #[] 33 (0, 0))) := Lib.hid hq
    have HGE1 := Lib.hid (show w5.heap.size ≤ W1.heap.size from B1.out.size)
    have B2 := Lib.hid (below_next B1.out B1.out.size hb2)
    have HE2_2 := row_next HE2_1 hb2
    refine hK.out _ _ (⟨(World.cell?_of_block (B2.out.block r hltr)).trans k1, (World.cell?_of_block (B2.out.block b hbl)).trans hcw⟩) (fun hHeld => ?_)
    clear hK K
    try simp only [Act.put, List.setIfInBounds_toArray, List.set_cons_zero, List.set_cons_succ]
    refine c_step (i := 14) (o := ⟨(some 65), _, _, _, _, _⟩) (by kernel_rfl) rfl (fun K hK => ?_)
    refine step_append_lit W2 rfl (.tmp 56) (.tmp 64) 54 rfl 33 Try.underlying54 (.slice none 0 0) 24 Try.infoBytes rfl (by decide) W1.heap.size (by rfl) HE1_2.out Aw nw cw (by rfl) vs (hvs W2 B2.out) hvs1 hvl hnw64 ?_
    intro A14 c14 W3 ho hb hat
    have hb3 : Below W2.heap.size W2 W3 := hb
    have HO14_3 := Lib.hid ho
    have HA14 := Lib.hid (show ∀ a, A14 = some a → w5.heap.size ≤ a.block from fun a ha => (hat a ha).elim (fun e => by rw [e]; exact HGE1.out) fun e => Nat.le_trans B2.out.size e)
    have B3 := Lib.hid (below_next B2.out B2.out.size hb3)
    have HE2_3 := row_next HE2_2 hb3
    have HE1_3 := row_next HE1_2 hb3
    refine hK.out _ _ (⟨(World.cell?_of_block (B3.out.block r hltr)).trans k1, (World.cell?_of_block (B3.out.block b hbl)).trans hcw⟩) (fun hHeld => ?_)
    clear hK K
    try simp only [Act.put, List.setIfInBounds_toArray, List.set_cons_zero, List.set_cons_succ]
    refine c_step (i := 17) (o := ⟨(some 68), _, _, _, _, _⟩) (by kernel_rfl) rfl (fun K hK => ?_)
    refine step_append_lit W3 rfl (.tmp 66) (.tmp 67) 33 rfl 5 Try.underlying33 (.int .u8 0) 1 Try.infoByte rfl (by decide) w5.heap.size (by rfl) HE2_3.out B m cB (by rfl) (bv l) (hbs W3 B3.out) (bv_one _) hbl5 hm64 ?_
    intro A17 c17 W4 ho hb hat
    have hb4 : Below W3.heap.size W3 W4 := hb
    have HO17_4 := Lib.hid ho
    have HA17 := Lib.hid (show ∀ a, A17 = some a → w5.heap.size ≤ a.block from fun a ha => (hat a ha).elim (fun e => by rw [e]; exact HGE2.out) fun e => Nat.le_trans B3.out.size e)
    have B4 := Lib.hid (below_next B3.out B3.out.size hb4)
    have HE2_4 := row_next HE2_3 hb4
    have HO14_4 := own_next HO14_3 hb4
    refine hK.out _ _ (⟨(World.cell?_of_block (B4.out.block r hltr)).trans k1, (World.cell?_of_block (B4.out.block b hbl)).trans hcw⟩) (fun hHeld => ?_)
    clear hK K
    try simp only [Act.put, List.setIfInBounds_toArray, List.set_cons_zero, List.set_cons_succ]
    refine c_step (i := 18) (o := ⟨(some 69), _, _, _, _, _⟩) (by kernel_rfl) rfl (fun K hK => ?_)
    refine step_litW (by rfl) (.tmp 68) rfl A17 m c17 (by rfl) ?_
    intro W5 hq hb _
    have hb5 : Below W4.heap.size W4 W5 := hb
    have H18_5 := Lib.hid hq
    have B5 := Lib.hid (below_next B4.out B4.out.size hb5)
    have HO14_5 := own_next HO14_4 hb5
    have HO17_5 := own_next HO17_4 hb5
    refine hK.out _ _ (⟨(World.cell?_of_block (B5.out.block r hltr)).trans k1, (World.cell?_of_block (B5.out.block b hbl)).trans hcw⟩) (fun hHeld => ?_)
    clear hK K
    try simp only [Act.put, List.setIfInBounds_toArray, List.set_cons_zero, List.set_cons_succ]
    refine c_step (i := 19) (o := ⟨(some 70), _, _, _, _, _⟩) (by kernel_rfl) rfl (fun K hK => ?_)
    refine step_append_row W5 rfl (.tmp 65) (.tmp 69) 54 rfl 33 Try.underlying54 (.slice none 0 0) 1 24 Try.infoBytes rfl (by decide) (by decide) A14 nw c14 vs (by rfl) HO14_5.out (some ⟨W4.heap.size, 0, none⟩) 1 1 (by rfl) [.slice A17 m c17] (fun _ => ⟨_, rfl, fun j u hj => by rw [addr_add, Nat.zero_add, cell_of_row _ _ _ _ _ _ H18_5.out]; simpa using hj⟩) (by simp [Value.oneCell']) rfl hnw65 ?_
    intro A19 c19 W6 ho19 hgr hat _ _
    have B6 := Lib.hid (B5.out.grown hgr B5.out.size fun k hk => by obtain ⟨q, hq, rfl⟩ := Option.map_eq_some_iff.1 hk; exact HA14.out q hq)
    have HA19 := Lib.hid (at_new hat HA14.out B5.out.size)
    have HO17_6 := Lib.hid (own_grown HO17_5.out HO14_5.out (by decide) hgr)
    have HP := Lib.hid (prt_new (D := D) B6.out ho19 hvl hwl hvs2 HO17_6.out HA19.out HA17.out)
    have HOL := owns3_keep HA.out.own (w' := W6) fun k hk _ => B6.out.block k hk
    obtain ⟨hownS, hgrS⟩ := HOL.stored (n * 3 + 2) (.slice A19 (nw + 1) c19)
    have hfr := HOL.frozenAt (n * 3 + 2)
    have hcwk := (World.cell?_of_block (B6.out.block b hbl)).trans hcw
    have HPUT := Lib.hid (put_w HA.out B6.out hownS hgrS hin x0 x1 hxl hsF hsl hsc HP.out hwl (owns_size ho19).2.2)
    refine hK.out _ _ (⟨(World.cell?_of_block (B6.out.block r hltr)).trans k1, (World.cell?_of_block (B6.out.block b hbl)).trans hcw⟩) (fun hHeld => ?_)
    clear hK K HOL hownS hgrS hgr hat ho19
    try simp only [Act.put, List.setIfInBounds_toArray, List.set_cons_zero, List.set_cons_succ]
    refine c_take (i := 20) (oi := ⟨(some 71), _, _, _, _, _⟩) (v := ?vp1_18) rfl (by decide) (by kernel_rfl) (by kernel_rfl) (by kernel_rfl) (fun _ _ _ h => h) (Or.inl ⟨by rfl, ?yp1_18⟩) hHeld ?_
    case yp1_18 => (intro W0 hSw; go_simp; try with_reducible rfl)
    try simp only [Act.put, List.setIfInBounds_toArray, List.set_cons_zero, List.set_cons_succ]
    refine c_take (i := 21) (oi := ⟨(some 72), _, _, _, _, _⟩) (v := ?vp1_19) rfl (by decide) (by kernel_rfl) (by kernel_rfl) (by kernel_rfl) (fun _ _ _ h => h) (Or.inl ⟨by rfl, ?yp1_19⟩) hHeld ?_
    case yp1_19 => (intro W0 hSw; go_simp; try with_reducible rfl)
    try simp only [Act.put, List.setIfInBounds_toArray, List.set_cons_zero, List.set_cons_succ]
    refine c_call (S' := fun W' => RkAt W' (fun k => D k ∨ (w5.heap.size ≤ k ∧ k < W6.heap.size)) r (some ⟨b, 0, none⟩) n5 c4 T.room T.pf T.lives (xs5.set (n * 3 + 2) (.slice A19 (nw + 1) c19)) (L5.set n (s, (⟨[], []⟩ : Rf).add l)) ∧ Off (RkG D r (some ⟨b, 0, none⟩)) w5 W') (o := ⟨none, _, _, _, _, _⟩) (by kernel_rfl) (by kernel_rfl) rfl (fun K hK => ?_)
    clear hHeld
    go_simp
    refine hK.out _ _ HPUT.out (fun hHeld => ?_)
    clear hK K
    try simp only [Act.put]
    refine wpAnyH_done (by kernel_rfl) ?_ _
    go_wp2
    go_ret
    refine ⟨rfl, ?_⟩
    rw [← HU.out]
    exact app_end2 hG HB3.out HOF.out HA4.out hHeld.1 hHeld.2
end Go.Proofs.Ytnpaodhcaeofnaa
