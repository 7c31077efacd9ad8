/-
  The contracts of the document's own Sync, Drop, On. Conditions: at most 2^40 bytes and files.
-/
import Derived.Test.YtnpaodhcaeofnaaRkF
namespace Go.Proofs.Ytnpaodhcaeofnaa
open Go.RowKit

theorem step_store_own {P : Program} {ops : Array Oper} {o : Oper} {a : Act} {w : World} {K : Act → World → Prop} {Q : Exit → Act → World → Prop} {E' : Prop} (hgd : o.guard = none) (ty : TypeId) (x y : Operand) (ho : o.op = .store ty x y)
    (b off : Nat) (cells : List Value) (hx : a.eval x = .pointer (some ⟨b, off, none⟩)) (hy : a.eval y = .agg cells.toArray) {e size n c : Nat} {xs : List Value} (hown : w.ownsRow 0 e size (.slice (some ⟨b, 0, none⟩) n c) n xs)
    (hfit : off + cells.length ≤ xs.length) (hi : (P.info? ty).map (·.size) = some cells.length) (h1 : ∀ v ∈ cells, v.oneCell' = true)
    (h : ∀ w', w'.ownsRow 0 e size (.slice (some ⟨b, 0, none⟩) n c) n (setsL xs off cells) → w.grownBy w' (some b) → K (a.put o.dst undef) w') :
    if Region.wanted o (yielded ops a.tmps) = true then Oper.wp P o a w K Q else E' := by
  have hw : Region.wanted o (yielded ops a.tmps) = true := by simp [Region.wanted, hgd]
  rw [if_pos hw]
  have hxl := hown.1
  refine wp_store_mid ty x y ho b off cells.toArray hx hy (fun j hj => ⟨?_, hown.frozenAt _⟩) (by simpa using hi) (all_oneCell_toArray h1) ?_
  · simp at hj
    rw [hown.cellAt (off + j) (by omega), List.getElem?_eq_getElem (by omega)]; rfl
  · obtain ⟨h2, h3⟩ := own_setsN cells off w xs hown
    exact h _ h2 h3

def Rf.syn (f : Rf) : Rf := ⟨f.all, []⟩
def Rk.syn (T : Rk) (s : ByteArray) : Rk := if raskE T.pf T.L s = 0 then { T with L := upd T.L s Rf.syn } else T
set_option maxRecDepth 100000 in
set_option maxHeartbeats 1000000 in
theorem rsync_any (w : World) (G : Nat → Prop) (r : Nat) (T : Rk) (h : RkIs w G r T) (h1 : One T.L) (hn : T.L.length ≤ 1099511627776) (hz : sumL rfz T.L ≤ 1099511627776) (hws : ∀ x ∈ T.L, x.2.ws.length ≤ 1099511627776) (s : ByteArray) (hs : s.size ≤ 140737488355328) :
    Calls Try.prog 9 #[.pointer (some ⟨r, 0, none⟩), .string s] w fun e w' => e = .returned (.int .i64 (raskE T.pf T.L s)) ∧ (∃ G', RkIs w' G' r (T.syn s) ∧ OwnG G G' w.heap.size) ∧ Off G w w' := by
  have hh := h
  obtain ⟨D, A, n, c, xs, hat, hG⟩ := h
  have hk := rask_any w D r n c T.room T.lives A T.pf xs T.L hat (by rw [← hat.len]; exact hn) s hs
  by_cases h0 : raskE T.pf T.L s = 0
  · obtain ⟨i, f, _, hI, hx, hg, hb⟩ := rask_yes h0
    rw [h0, hI] at hk
    obtain ⟨⟨c0, c1, c2, c3⟩, _⟩ := row4 hat.row
    have hnc := hat.size.1
    have hxl := hat.size.2
    obtain ⟨b, As, ns, cs, Aw, nw, cw, rfl, hin, hrg, k1, k2, k3, k4, k5, k6⟩ := hat.rng hx
    have hfz : rfz f ≤ 1099511627776 := by have h9 : rfz f ≤ sumL rfz T.L := sumR_get hx; omega
    have hatd : RkAt w.drew D r (some ⟨b, 0, none⟩) n c T.room T.pf T.lives xs T.L := hat.off (G := fun _ => False) (Off.refl _ _).drew fun _ _ h => h
    obtain ⟨b', As', ns', cs', Aw', nw', cw', hbb, _, hrg', k1', k2', k3', k4', k5', k6'⟩ := hatd.rng hx
    have hcl := rall_any w.drew D s f As' ns' cs' Aw' nw' cw' k1' k2' k4' k5' k6' hfz (by rw [← k5']; exact hws _ (List.mem_of_getElem? hx))
    obtain rfl : b = b' := by injection hbb with hbb; injection hbb
    have HE := Lib.hid h0
    have HT := vlt (show T.syn s = { T with L := upd T.L s Rf.syn } by unfold Rk.syn; rw [if_pos h0])
    have HU := vlt (upd_set h1 hx f.syn)
    have HAT := Lib.hid hat
    have hltr := hat.ltr
    have hbl : b < w.heap.size := owns3_lt hat.own rfl
    have hown0 := Lib.hid hat.own
    have hU2 : upd T.L s (fun _ => f.syn) = upd T.L s Rf.syn := by
      unfold upd
      refine List.map_congr_left fun y hy => ?_
      by_cases e : y.1 = s
      · have h6 := getL_mem h1 hy
        rw [e, hg] at h6
        injection h6 with h6
        simp [e, ← h6]
      · simp [e]
    have HU2 := vlt hU2
    have HH := Lib.hid hh
    clear k1 k2 k3 k4 k5 k6 k1' k2' k3' k4' k5' k6' hx hat h0 hb hg hI hatd hU2 hh hrg hbb
    go_enter Try.func9, Try.ntmps9
    go_wp2_with fail
    refine hk.mono ?_
    rintro e w2 ⟨rfl, rfl⟩
    clear hk
    go_upto_region 3 with fail
    refine c_start (S := (fun W' => W'.cell? ⟨r, 1, none⟩ = some (.slice (some ⟨b, 0, none⟩) n c) ∧ W'.rangeAt b (i * 3) [.string s, .slice As' ns' cs', .slice Aw' nw' cw'])) 16 (by kernel_rfl) (⟨c1,hrg'⟩) (fun hHeld => ?_)
    refine c_take (i := 0) (oi := ⟨(some 15), _, _, _, _, _⟩) (v := ?vq1_0) rfl (by decide) (by kernel_rfl) (by kernel_rfl) (by kernel_rfl) (fun _ _ _ h => h) (Or.inl ⟨by rfl, ?yq1_0⟩) hHeld ?_
    case yq1_0 => (intro W0 hSw; go_simp; try with_reducible rfl)
    try simp only [Act.put, List.setIfInBounds_toArray, List.set_cons_zero, List.set_cons_succ]
    refine c_take (i := 1) (oi := ⟨(some 16), _, _, _, _, _⟩) (v := ?vq1_1) rfl (by decide) (by kernel_rfl) (by kernel_rfl) (by kernel_rfl) (fun _ _ _ h => h) (Or.inl ⟨by rfl, ?yq1_1⟩) hHeld ?_
    case yq1_1 => (intro W0 hSw; go_simp; try with_reducible rfl)
    try simp only [Act.put, List.setIfInBounds_toArray, List.set_cons_zero, List.set_cons_succ]
    refine c_take (i := 2) (oi := ⟨(some 17), _, _, _, _, _⟩) (v := ?vq1_2) rfl (by decide) (by kernel_rfl) (by kernel_rfl) (by kernel_rfl) (fun _ _ _ h => h) (Or.inl ⟨by rfl, ?yq1_2⟩) hHeld ?_
    case yq1_2 => (intro W0 hSw; go_simp; try with_reducible rfl)
    try simp only [Act.put, List.setIfInBounds_toArray, List.set_cons_zero, List.set_cons_succ]
    refine c_take (i := 4) (oi := ⟨(some 19), _, _, _, _, _⟩) (v := ?vq1_3) rfl (by decide) (by kernel_rfl) (by kernel_rfl) (by kernel_rfl) (fun _ _ _ h => h) (Or.inl ⟨by rfl, ?yq1_3⟩) hHeld ?_
    case yq1_3 => (intro W0 hSw; go_simp; try with_reducible rfl)
    try simp only [Act.put, List.setIfInBounds_toArray, List.set_cons_zero, List.set_cons_succ]
    refine c_take (i := 5) (oi := ⟨(some 20), _, _, _, _, _⟩) (v := ?vq1_4) rfl (by decide) (by kernel_rfl) (by kernel_rfl) (by kernel_rfl) (fun _ _ _ h => h) (Or.inl ⟨by rfl, ?yq1_4⟩) hHeld ?_
    case yq1_4 => (intro W0 hSw; go_simp; try with_reducible rfl)
    try simp only [Act.put, List.setIfInBounds_toArray, List.set_cons_zero, List.set_cons_succ]
    refine c_take (i := 6) (oi := ⟨(some 21), _, _, _, _, _⟩) (v := ?vq1_5) rfl (by decide) (by kernel_rfl) (by kernel_rfl) (by kernel_rfl) (fun _ _ _ h => h) (Or.inl ⟨by rfl, ?yq1_5⟩) hHeld ?_
    case yq1_5 => (intro W0 hSw; go_simp; try with_reducible rfl)
    try simp only [Act.put, List.setIfInBounds_toArray, List.set_cons_zero, List.set_cons_succ]
    refine c_take (i := 7) (oi := ⟨(some 22), _, _, _, _, _⟩) (v := ?vq1_6) rfl (by decide) (by kernel_rfl) (by kernel_rfl) (by kernel_rfl) (fun _ _ _ h => h) (Or.inl ⟨by rfl, ?yq1_6⟩) hHeld ?_
    case yq1_6 => (intro W0 hSw; go_simp; try with_reducible rfl)
    try simp only [Act.put, List.setIfInBounds_toArray, List.set_cons_zero, List.set_cons_succ]
    refine c_take (i := 8) (oi := ⟨(some 23), _, _, _, _, _⟩) (v := ?vq1_7) rfl (by decide) (by kernel_rfl) (by kernel_rfl) (by kernel_rfl) (fun _ _ _ h => h) (Or.inl ⟨by rfl, ?yq1_7⟩) hHeld ?_
    case yq1_7 => (intro W0 hSw; go_simp; try with_reducible rfl)
    try simp only [Act.put, List.setIfInBounds_toArray, List.set_cons_zero, List.set_cons_succ]
    refine c_take (i := 10) (oi := ⟨(some 25), _, _, _, _, _⟩) (v := ?vq1_8) rfl (by decide) (by kernel_rfl) (by kernel_rfl) (by kernel_rfl) (fun _ _ _ h => h) (Or.inl ⟨by rfl, ?yq1_8⟩) hHeld ?_
    case yq1_8 => (intro W0 hSw; go_simp; try with_reducible rfl)
    try simp only [Act.put, List.setIfInBounds_toArray, List.set_cons_zero, List.set_cons_succ]
    refine c_read (i := 3) (oi := ⟨(some 18), _, _, _, _, _⟩) (v := ?vq1_9) rfl (by decide) (by kernel_rfl) (by kernel_rfl) (by kernel_rfl) (by kernel_rfl) (by kernel_rfl) (fun _ _ _ h => h) (Or.inl ⟨by rfl, ?yq1_9⟩) hHeld ?_
    case yq1_9 => (intro W0 hSw; go_simp; try with_reducible rfl)
    try simp only [Act.put, List.setIfInBounds_toArray, List.set_cons_zero, List.set_cons_succ]
    refine c_read (i := 9) (oi := ⟨(some 24), _, _, _, _, _⟩) (v := ?vq1_10) rfl (by decide) (by kernel_rfl) (by kernel_rfl) (by kernel_rfl) (by kernel_rfl) (by kernel_rfl) (fun _ _ _ h => h) (Or.inl ⟨by rfl, ?yq1_10⟩) hHeld ?_
    case yq1_10 => (intro W0 hSw; go_simp; try with_reducible rfl)
    try simp only [Act.put, List.setIfInBounds_toArray, List.set_cons_zero, List.set_cons_succ]
    refine c_take (i := 11) (oi := ⟨(some 26), _, _, _, _, _⟩) (v := ?vq1_11) rfl (by decide) (by kernel_rfl) (by kernel_rfl) (by kernel_rfl) (fun _ _ _ h => h) (Or.inl ⟨by rfl, ?yq1_11⟩) hHeld ?_
    case yq1_11 => (intro W0 hSw; go_simp; try with_reducible rfl)
    try simp only [Act.put, List.setIfInBounds_toArray, List.set_cons_zero, List.set_cons_succ]
    refine c_read (i := 12) (oi := ⟨(some 27), _, _, _, _, _⟩) (v := _) rfl (by decide) (by kernel_rfl) (by kernel_rfl) (by kernel_rfl) (by kernel_rfl) (by kernel_rfl) (fun _ _ _ h => h) (yieldsIf_load_mid (by rfl) _ _ rfl b (i * 3) rfl [.string s, .slice As' ns' cs', .slice Aw' nw' cw'] _ (fun W' hW' => hW'.2) (Try.underlying56) (rfl) (by kernel_rfl)) hHeld ?_
    try simp only [Act.put, List.setIfInBounds_toArray, List.set_cons_zero, List.set_cons_succ]
    refine c_step (i := 13) (o := ⟨(some 28), _, _, _, _, _⟩) (by kernel_rfl) rfl (fun K hK => ?_)
    go_simp
    refine hcl.mono ?_
    rintro e w3 ⟨A3, n3, c3, rfl, hr3, hb3⟩
    have HB3 := Lib.hid (show Below w2.heap.size w2 w3 from ⟨hb3.os, hb3.tape, hb3.output, hb3.size, hb3.block⟩)
    have HR3 := Lib.hid hr3
    refine hK.out _ _ (⟨(World.cell?_of_block (HB3.out.block r hltr)).trans c1, fun j v hv => (HB3.out.cell (p := ⟨b, i * 3 + j, none⟩) hbl).trans (hrg' j v hv)⟩) (fun hHeld => ?_)
    clear hK K
    try simp only [Act.put, List.setIfInBounds_toArray, List.set_cons_zero, List.set_cons_succ]
    refine c_take (i := 14) (oi := ⟨(some 29), _, _, _, _, _⟩) (v := ?vq1_12) rfl (by decide) (by kernel_rfl) (by kernel_rfl) (by kernel_rfl) (fun _ _ _ h => h) (Or.inl ⟨by rfl, ?yq1_12⟩) hHeld ?_
    case yq1_12 => (intro W0 hSw; go_simp; try with_reducible rfl)
    try simp only [Act.put, List.setIfInBounds_toArray, List.set_cons_zero, List.set_cons_succ]
    refine c_take (i := 15) (oi := ⟨(some 30), _, _, _, _, _⟩) (v := ?vq1_13) rfl (by decide) (by kernel_rfl) (by kernel_rfl) (by kernel_rfl) (fun _ _ _ h => h) (Or.inl ⟨by rfl, ?yq1_13⟩) hHeld ?_
    case yq1_13 => (intro W0 hSw; go_simp; try with_reducible rfl)
    try simp only [Act.put, List.setIfInBounds_toArray, List.set_cons_zero, List.set_cons_succ]
    have hown3 := owns3_keep hown0.out (w' := w3) fun k hk _ => HB3.out.block k hk
    have hlen3 : f.all.length = n3 := HR3.out.len
    refine c_call (S' := (fun W' => RkAt W' (fun k => D k ∨ (w2.heap.size ≤ k ∧ k < w3.heap.size)) r (some ⟨b, 0, none⟩) n c T.room T.pf T.lives (setsL xs (i * 3) [.string s, .slice A3 n3 c3, .slice none 0 0]) (T.L.set i (s, f.syn)) ∧ Off (RkG D r (some ⟨b, 0, none⟩)) w2 W')) (o := ⟨none, _, _, _, _, _⟩) (by kernel_rfl) (by kernel_rfl) rfl (fun K hK => ?_)
    clear hHeld
    refine step_store_own rfl 56 (.tmp 30) (.tmp 29) rfl b (i * 3) [.string s, .slice A3 n3 c3, .slice none 0 0] (by rfl) (by rfl) hown3 (by rw [hxl]; simp; omega) (by kernel_rfl) (by simp [Value.oneCell']) ?_
    intro w4 hown4 hgr4
    have hput := HAT.out.putEnt (nm := s) (f := f.syn) (As := A3) (ns := n3) (cs := c3) (Aw := none) (nw := 0) (cw := 0) HB3.out hown4 hgr4 hin (by rw [sets_at (by rw [hxl]; simp; omega), if_pos (by simp)]; simp) (by rw [sets_at (by rw [hxl]; simp; omega), if_pos (by simp)]; simp) (by rw [sets_at (by rw [hxl]; simp; omega), if_pos (by simp)]; simp) (fun k hk => by rw [sets_at (by rw [hxl]; simp; omega), if_neg (by simpa using hk)]) (HR3.out.inF fun k hk => .inr hk) hlen3 HR3.out.cap (.inl rfl) rfl (Nat.le_refl 0)
    refine hK.out _ _ (hput) (fun hHeld => ?_)
    clear hK K
    try simp only [Act.put]
    refine wpAnyH_done (by kernel_rfl) ?_ _
    go_wp2
    go_ret
    refine ⟨by rw [HE.out]; rfl, ⟨RkG (fun k => D k ∨ (w2.heap.size ≤ k ∧ k < w3.heap.size)) r (some ⟨b, 0, none⟩), ?_, ?_⟩, hHeld.2.mono fun k _ hk => (hG k).2 hk⟩
    · rw [HT.out, ← HU2.out, ← HU.out]
      exact ⟨_, _, _, _, _, hHeld.1, fun _ => Iff.rfl⟩
    · intro k hk
      rcases hk with hk | hk | hk
      · exact .inl ((hG k).2 (.inl hk))
      · exact .inl ((hG k).2 (.inr (.inl hk)))
      · rcases hk with hk | hk
        · exact .inl ((hG k).2 (.inr (.inr hk)))
        · exact .inr hk.1
  · have HT := vlt (show T.syn s = T by unfold Rk.syn; rw [if_neg h0])
    generalize raskE T.pf T.L s = v at *
    generalize raskI T.pf T.L s = q at *
    clear hat
    go_enter Try.func9, Try.ntmps9
    go_wp2_with fail
    refine hk.mono ?_
    rintro e w2 ⟨rfl, rfl⟩
    clear hk
    go_wp2
    go_ret
    exact ⟨rfl, ⟨G, by rw [HT.out]; exact hh, OwnG.refl⟩, Off.refl _ _⟩

def Rk.drp (T : Rk) (s : ByteArray) : Rk := if raskE T.pf T.L s = 0 then { T with L := del T.L s } else T
set_option maxRecDepth 100000 in
theorem rddrop_any (w : World) (G : Nat → Prop) (r : Nat) (T : Rk) (h : RkIs w G r T) (h1 : One T.L) (hn : T.L.length ≤ 1099511627776) (s : ByteArray) (hs : s.size ≤ 140737488355328) :
    Calls Try.prog 13 #[.pointer (some ⟨r, 0, none⟩), .string s] w fun e w' => e = .returned (.int .i64 (raskE T.pf T.L s)) ∧ (∃ G', RkIs w' G' r (T.drp s) ∧ OwnG G G' w.heap.size) ∧ Off G w w' := by
  have hh := h
  obtain ⟨D, A, n, c, xs, hat, hG⟩ := h
  have hk := rask_any w D r n c T.room T.lives A T.pf xs T.L hat (by rw [← hat.len]; exact hn) s hs
  by_cases h0 : raskE T.pf T.L s = 0
  · obtain ⟨i, f, _, hI, hx, hg, hb⟩ := rask_yes h0
    rw [h0, hI] at hk
    have hin : i < n := by rw [← hat.len]; exact (List.getElem?_eq_some_iff.1 hx).1
    have hd := rdrop_any w D r n c T.room T.lives A T.pf xs T.L hat (by rw [← hat.len]; exact hn) i hin
    have HE := Lib.hid h0
    have HT := vlt (show T.drp s = { T with L := T.L.eraseIdx i } by unfold Rk.drp; rw [if_pos h0, del_erase h1 hx])
    clear hat h0 hb hg hI hx hh
    go_enter Try.func13, Try.ntmps13
    go_wp2_with fail
    refine hk.mono ?_
    rintro e w2 ⟨rfl, rfl⟩
    clear hk
    go_wp2_with fail
    refine hd.mono ?_
    rintro e w3 ⟨A', c', rfl, hat3, hA3, hoff3⟩
    clear hd
    have HA := Lib.hid hat3
    have HO := Lib.hid (hoff3.mono (G := G) fun k _ hk => (hG k).2 (.inl hk))
    clear hat3 hoff3
    go_wp2
    go_ret
    refine ⟨by rw [HE.out]; rfl, ⟨RkG D r A', by rw [HT.out]; exact ⟨_, _, _, _, _, HA.out, fun _ => Iff.rfl⟩, fun k hk => ?_⟩, HO.out⟩
    rcases hk with hk | ⟨a, ha, rfl⟩ | hk
    · exact .inl ((hG k).2 (.inl hk))
    · exact .inr (hA3 a ha)
    · exact .inl ((hG k).2 (.inr (.inr hk)))
  · have HT := vlt (show T.drp s = T by unfold Rk.drp; rw [if_neg h0])
    generalize raskE T.pf T.L s = v at *
    generalize raskI T.pf T.L s = q at *
    clear hat
    go_enter Try.func13, Try.ntmps13
    go_wp2_with fail
    refine hk.mono ?_
    rintro e w2 ⟨rfl, rfl⟩
    clear hk
    go_wp2
    go_ret
    exact ⟨rfl, ⟨G, by rw [HT.out]; exact hh, OwnG.refl⟩, Off.refl _ _⟩

/-- One of the object's own cells has turned. -/
theorem RkAt.cells {w w' : World} {D : Nat → Prop} {r n c room lives lives' : Nat} {A : Option Addr} {pf pf' : Bool} {xs : List Value} {L : List (ByteArray × Rf)} (h : RkAt w D r A n c room pf lives xs L) (hb : But r w w')
    (hr : w'.heap[r]? = some (.cells #[.int .i64 (room : Int), .slice A n c, .bool pf', .int .i64 (lives' : Int)] 31 (0, 0))) : RkAt w' D r A n c room pf' lives' xs L := by
  have hof : Off (fun i => i = r) w w' := Off.of_but hb rfl
  refine ⟨hr, owns3_keep h.own fun k hk hv => hb.block k hk fun e => ?_, fun i x hx => (h.ents i x hx).off hof fun k _ hk e => h.rD (e ▸ hk), h.len, h.rD, h.aD, fun i hi => Nat.lt_of_lt_of_le (h.low i hi) hb.size⟩
  have hne := owns3_ne h.own h.row (by decide)
  cases A with
  | none => simp [Value.ownBlock] at hv
  | some a =>
    simp [Value.ownBlock] at hv
    injection e with e
    exact hne a rfl (by omega)
def Rk.awake (T : Rk) : Rk := { T with pf := false, lives := T.lives + 1 }
set_option maxRecDepth 100000 in
theorem ron_any (w : World) (G : Nat → Prop) (r : Nat) (T : Rk) (h : RkIs w G r T) (hl : T.lives ≤ 1099511627776) :
    Calls Try.prog 17 #[.pointer (some ⟨r, 0, none⟩)] w fun e w' => e = .returned (.tuple #[]) ∧ (∃ G', RkIs w' G' r T.awake ∧ OwnG G G' w.heap.size) ∧ Off G w w' := by
  obtain ⟨D, A, n, c, xs, hat, hG⟩ := h
  obtain ⟨⟨c0, c1, c2, c3⟩, f1, f2, f3⟩ := row4 hat.row
  have hset := world_set_cell (cs := [_, _, _, _]) hat.row 2 (.bool false)
  have hset2 := world_set_cell hset.out 3 (.int .i64 (((T.lives + 1 : Nat)) : Int))
  have hat2 := hat.cells (pf' := false) (lives' := T.lives + 1) (((But.refl r w).set (i := 2) (.bool false)).set (i := 3) (.int .i64 (((T.lives + 1 : Nat)) : Int))) hset2.out
  have hoff := ((Off.refl G w).set (i := 2) (.inl ((hG r).2 (.inl rfl))) (.bool false)).set (i := 3) (.inl ((hG r).2 (.inl rfl))) (.int .i64 (((T.lives + 1 : Nat)) : Int))
  have e1 : (((T.lives + 1 : Nat)) : Int) = (T.lives : Int) + 1 := by simp
  rw [e1] at hat2 hoff
  have HEND := Lib.hid (show RkIs _ G r T.awake from ⟨D, A, n, c, xs, hat2, hG⟩)
  clear hat hat2 hset hset2 e1
  generalize hlv : T.lives = lv at *
  go_enter Try.func17, Try.ntmps17
  go_wp2
  go_end0
  exact ⟨rfl, ⟨G, HEND.out, OwnG.refl⟩, hoff⟩
end Go.Proofs.Ytnpaodhcaeofnaa
