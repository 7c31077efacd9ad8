/-
  The contract of the document's own Append, whole. Conditions: at most 2^40 bytes, files and writes.
-/
import Derived.Test.YtnpaodhcaeofnaaRkL
namespace Go.Proofs.Ytnpaodhcaeofnaa
open Go.RowKit

def putR (L : List (ByteArray × Rf)) (s : ByteArray) (l : List UInt8) : List (ByteArray × Rf) := if (getL L s).isSome then upd L s (·.add l) else L ++ [(s, (⟨[], []⟩ : Rf).add l)]
def Rk.app (T : Rk) (s : ByteArray) (l : List UInt8) : Rk := if rappE T s l.length = 0 then { T with L := putR T.L s l } else T
set_option maxRecDepth 100000 in
theorem rappend_no (w : World) (G : Nat → Prop) (r : Nat) (T : Rk) (h : RkIs w G r T) (hn : T.L.length ≤ 1099511627776) (s : ByteArray) (hs : s.size ≤ 140737488355328) (B : Option Addr) (m cB : Nat) (he : ¬ (raskE T.pf T.L s = 0 ∨ raskE T.pf T.L s = 4)) :
    Calls Try.prog 7 #[.pointer (some ⟨r, 0, none⟩), .string s, .slice B m cB] w fun e w' => e = .returned (.int .i64 (raskE T.pf T.L s)) ∧ w' = w := by
  obtain ⟨D, A, n, c, xs, hat, hG⟩ := h
  have hk := rask_any w D r n c T.room T.lives A T.pf xs T.L hat (by rw [← hat.len]; exact hn) s hs
  have h0 : ¬ raskE T.pf T.L s = 0 := fun e => he (.inl e)
  have h4 : ¬ raskE T.pf T.L s = 4 := fun e => he (.inr e)
  clear hat he
  generalize raskE T.pf T.L s = v at *
  generalize raskI T.pf T.L s = q at *
  have hb0 : (v != 0) = true := by simpa using h0
  have hb4 : (v != 4) = true := by simpa using h4
  go_enter Try.func7, Try.ntmps7
  go_wp2_with fail
  refine hk.mono ?_
  rintro e w2 ⟨rfl, rfl⟩
  clear hk
  go_wp2
  go_ret
  exact ⟨rfl, rfl⟩
set_option maxRecDepth 100000 in
set_option maxHeartbeats 1000000 in
theorem rappend_full (w : World) (G : Nat → Prop) (r : Nat) (T : Rk) (h : RkIs w G r T) (hn : T.L.length ≤ 1099511627776) (hz : sumL rfz T.L ≤ T.room) (hro : T.room ≤ 1048576) (hws : ∀ x ∈ T.L, x.2.ws.length ≤ 1099511627776) (s : ByteArray) (hs : s.size ≤ 140737488355328)
    (B : Option Addr) (m cB : Nat) (he : raskE T.pf T.L s = 0 ∨ raskE T.pf T.L s = 4) (hfit : T.room - sumL rfz T.L < m) :
    Calls Try.prog 7 #[.pointer (some ⟨r, 0, none⟩), .string s, .slice B m cB] w fun e w' => e = .returned (.int .i64 6) ∧ Below w.heap.size w w' := by
  obtain ⟨D, A, n, c, xs, hat, hG⟩ := h
  have hk := rask_any w D r n c T.room T.lives A T.pf xs T.L hat (by rw [← hat.len]; exact hn) s hs
  have hpf := rask_pf he
  obtain ⟨⟨c0, c1, c2, c3⟩, _⟩ := row4 hat.row
  have hatd : RkAt w.drew D r A n c T.room T.pf T.lives xs T.L := hat.off (G := fun _ => False) (Off.refl _ _).drew fun _ _ h => h
  have hsz := rsize_any w.drew D r n c T.room T.lives A T.pf xs T.L hatd (by rw [← hat.len]; exact hn) (by omega) hws
  rw [hpf, if_neg (by decide)] at hsz
  have hltr := hat.ltr
  obtain ⟨z, hzz⟩ : ∃ z, z = sumL rfz T.L := ⟨_, rfl⟩
  rw [← hzz] at hsz hfit hz
  have hfit' : (T.room : Int) - (z : Int) < (m : Int) := by omega
  have hwr : IntKind.i64.wrap ((T.room : Int) - (z : Int)) = (T.room : Int) - (z : Int) := IntWalk.i64_in _ (by omega)
  generalize raskI T.pf T.L s = q at *
  rcases he with he | he
  · rw [he] at hk
    clear hat hatd hzz he hpf
    go_enter Try.func7, Try.ntmps7
    go_wp2_with fail
    refine hk.mono ?_
    rintro e w2 ⟨rfl, rfl⟩
    clear hk
    go_upto_region 4 with fail
    refine wp_region_held_drew (S := (fun W' => W'.cell? ⟨r, 0, none⟩ = some (.int .i64 (T.room : Int)) ∧ Below w2.heap.size w2 W')) (by kernel_rfl) (⟨c0,(Below.refl _ _).drew⟩) (fun hHeld => ?_)
    refine wpAnyH_take (i := 0) (oi := ⟨(some 22), _, _, _, _, _⟩) (v := ?vq1_0) rfl (by kernel_rfl) (by kernel_rfl) (by kernel_rfl) (fun _ _ _ h => h) (Or.inl ⟨by rfl, ?yq1_0⟩) hHeld ?_
    case yq1_0 => (intro W0 hSw; go_simp; try with_reducible rfl)
    try simp only [Act.put, List.setIfInBounds_toArray, List.set_cons_zero, List.set_cons_succ]
    refine wpAnyH_take (i := 1) (oi := ⟨(some 23), _, _, _, _, _⟩) (v := ?vq1_1) rfl (by kernel_rfl) (by kernel_rfl) (by kernel_rfl) (fun _ _ _ h => h) (Or.inl ⟨by rfl, ?yq1_1⟩) hHeld ?_
    case yq1_1 => (intro W0 hSw; go_simp; try with_reducible rfl)
    try simp only [Act.put, List.setIfInBounds_toArray, List.set_cons_zero, List.set_cons_succ]
    refine wpAnyH_take (i := 2) (oi := ⟨(some 24), _, _, _, _, _⟩) (v := ?vq1_2) rfl (by kernel_rfl) (by kernel_rfl) (by kernel_rfl) (fun _ _ _ h => h) (Or.inl ⟨by rfl, ?yq1_2⟩) hHeld ?_
    case yq1_2 => (intro W0 hSw; go_simp; try with_reducible rfl)
    try simp only [Act.put, List.setIfInBounds_toArray, List.set_cons_zero, List.set_cons_succ]
    refine wpAnyH_take (i := 3) (oi := ⟨(some 25), _, _, _, _, _⟩) (v := ?vq1_3) rfl (by kernel_rfl) (by kernel_rfl) (by kernel_rfl) (fun _ _ _ h => h) (Or.inl ⟨by rfl, ?yq1_3⟩) hHeld ?_
    case yq1_3 => (intro W0 hSw; go_simp; try with_reducible rfl)
    try simp only [Act.put, List.setIfInBounds_toArray, List.set_cons_zero, List.set_cons_succ]
    refine wpAnyH_take (i := 4) (oi := ⟨(some 26), _, _, _, _, _⟩) (v := ?vq1_4) rfl (by kernel_rfl) (by kernel_rfl) (by kernel_rfl) (fun _ _ _ h => h) (Or.inl ⟨by rfl, ?yq1_4⟩) hHeld ?_
    case yq1_4 => (intro W0 hSw; go_simp; try with_reducible rfl)
    try simp only [Act.put, List.setIfInBounds_toArray, List.set_cons_zero, List.set_cons_succ]
    refine wpAnyH_take (i := 5) (oi := ⟨(some 27), _, _, _, _, _⟩) (v := ?vq1_5) rfl (by kernel_rfl) (by kernel_rfl) (by kernel_rfl) (fun _ _ _ h => h) (Or.inl ⟨by rfl, ?yq1_5⟩) hHeld ?_
    case yq1_5 => (intro W0 hSw; go_simp; try with_reducible rfl)
    try simp only [Act.put, List.setIfInBounds_toArray, List.set_cons_zero, List.set_cons_succ]
    refine wpAnyH_take (i := 6) (oi := ⟨(some 28), _, _, _, _, _⟩) (v := ?vq1_6) rfl (by kernel_rfl) (by kernel_rfl) (by kernel_rfl) (fun _ _ _ h => h) (Or.inl ⟨by rfl, ?yq1_6⟩) hHeld ?_
    case yq1_6 => (intro W0 hSw; go_simp; try with_reducible rfl)
    try simp only [Act.put, List.setIfInBounds_toArray, List.set_cons_zero, List.set_cons_succ]
    refine wpAnyH_ready (rs := [7]) (by kernel_rfl) (by simp) ?_
    refine AllReadyH.cons (i := 7) (o := ⟨(some 29), _, _, _, _, _⟩) rfl (fun K hK => ?_) AllReadyH.nil
    go_simp
    refine hsz.mono ?_
    rintro e w3 ⟨rfl, hb3⟩
    have HB3 := Lib.hid (show Below w2.heap.size w2 w3 from ⟨hb3.os, hb3.tape, hb3.output, hb3.size, hb3.block⟩)
    refine hK.out _ _ (⟨(World.cell?_of_block (HB3.out.block r hltr)).trans c0, HB3.out⟩) (fun hHeld => ?_)
    clear hK K
    try simp only [Act.put, List.setIfInBounds_toArray, List.set_cons_zero, List.set_cons_succ]
    refine wpAnyH_take (i := 8) (oi := ⟨(some 30), _, _, _, _, _⟩) (v := ?vq1_7) rfl (by kernel_rfl) (by kernel_rfl) (by kernel_rfl) (fun _ _ _ h => h) (Or.inl ⟨by rfl, ?yq1_7⟩) hHeld ?_
    case yq1_7 => (intro W0 hSw; go_simp; try with_reducible rfl)
    try simp only [Act.put, List.setIfInBounds_toArray, List.set_cons_zero, List.set_cons_succ]
    refine wpAnyH_take (i := 9) (oi := ⟨(some 31), _, _, _, _, _⟩) (v := ?vq1_8) rfl (by kernel_rfl) (by kernel_rfl) (by kernel_rfl) (fun _ _ _ h => h) (Or.inl ⟨by rfl, ?yq1_8⟩) hHeld ?_
    case yq1_8 => (intro W0 hSw; go_simp; try with_reducible rfl)
    try simp only [Act.put, List.setIfInBounds_toArray, List.set_cons_zero, List.set_cons_succ]
    refine wpAnyH_done (by kernel_rfl) ?_ _
    have HB := Lib.hid hHeld.2
    clear hHeld
    go_wp2
    go_ret
    exact ⟨rfl, HB.out⟩
  · rw [he] at hk
    clear hat hatd hzz he hpf
    go_enter Try.func7, Try.ntmps7
    go_wp2_with fail
    refine hk.mono ?_
    rintro e w2 ⟨rfl, rfl⟩
    clear hk
    go_upto_region 4 with fail
    refine wp_region_held_drew (S := (fun W' => W'.cell? ⟨r, 0, none⟩ = some (.int .i64 (T.room : Int)) ∧ Below w2.heap.size w2 W')) (by kernel_rfl) (⟨c0,(Below.refl _ _).drew⟩) (fun hHeld => ?_)
    refine wpAnyH_take (i := 0) (oi := ⟨(some 22), _, _, _, _, _⟩) (v := ?vq2_0) rfl (by kernel_rfl) (by kernel_rfl) (by kernel_rfl) (fun _ _ _ h => h) (Or.inl ⟨by rfl, ?yq2_0⟩) hHeld ?_
    case yq2_0 => (intro W0 hSw; go_simp; try with_reducible rfl)
    try simp only [Act.put, List.setIfInBounds_toArray, List.set_cons_zero, List.set_cons_succ]
    refine wpAnyH_take (i := 1) (oi := ⟨(some 23), _, _, _, _, _⟩) (v := ?vq2_1) rfl (by kernel_rfl) (by kernel_rfl) (by kernel_rfl) (fun _ _ _ h => h) (Or.inl ⟨by rfl, ?yq2_1⟩) hHeld ?_
    case yq2_1 => (intro W0 hSw; go_simp; try with_reducible rfl)
    try simp only [Act.put, List.setIfInBounds_toArray, List.set_cons_zero, List.set_cons_succ]
    refine wpAnyH_take (i := 2) (oi := ⟨(some 24), _, _, _, _, _⟩) (v := ?vq2_2) rfl (by kernel_rfl) (by kernel_rfl) (by kernel_rfl) (fun _ _ _ h => h) (Or.inl ⟨by rfl, ?yq2_2⟩) hHeld ?_
    case yq2_2 => (intro W0 hSw; go_simp; try with_reducible rfl)
    try simp only [Act.put, List.setIfInBounds_toArray, List.set_cons_zero, List.set_cons_succ]
    refine wpAnyH_take (i := 3) (oi := ⟨(some 25), _, _, _, _, _⟩) (v := ?vq2_3) rfl (by kernel_rfl) (by kernel_rfl) (by kernel_rfl) (fun _ _ _ h => h) (Or.inl ⟨by rfl, ?yq2_3⟩) hHeld ?_
    case yq2_3 => (intro W0 hSw; go_simp; try with_reducible rfl)
    try simp only [Act.put, List.setIfInBounds_toArray, List.set_cons_zero, List.set_cons_succ]
    refine wpAnyH_take (i := 4) (oi := ⟨(some 26), _, _, _, _, _⟩) (v := ?vq2_4) rfl (by kernel_rfl) (by kernel_rfl) (by kernel_rfl) (fun _ _ _ h => h) (Or.inl ⟨by rfl, ?yq2_4⟩) hHeld ?_
    case yq2_4 => (intro W0 hSw; go_simp; try with_reducible rfl)
    try simp only [Act.put, List.setIfInBounds_toArray, List.set_cons_zero, List.set_cons_succ]
    refine wpAnyH_take (i := 5) (oi := ⟨(some 27), _, _, _, _, _⟩) (v := ?vq2_5) rfl (by kernel_rfl) (by kernel_rfl) (by kernel_rfl) (fun _ _ _ h => h) (Or.inl ⟨by rfl, ?yq2_5⟩) hHeld ?_
    case yq2_5 => (intro W0 hSw; go_simp; try with_reducible rfl)
    try simp only [Act.put, List.setIfInBounds_toArray, List.set_cons_zero, List.set_cons_succ]
    refine wpAnyH_take (i := 6) (oi := ⟨(some 28), _, _, _, _, _⟩) (v := ?vq2_6) rfl (by kernel_rfl) (by kernel_rfl) (by kernel_rfl) (fun _ _ _ h => h) (Or.inl ⟨by rfl, ?yq2_6⟩) hHeld ?_
    case yq2_6 => (intro W0 hSw; go_simp; try with_reducible rfl)
    try simp only [Act.put, List.setIfInBounds_toArray, List.set_cons_zero, List.set_cons_succ]
    refine wpAnyH_ready (rs := [7]) (by kernel_rfl) (by simp) ?_
    refine AllReadyH.cons (i := 7) (o := ⟨(some 29), _, _, _, _, _⟩) rfl (fun K hK => ?_) AllReadyH.nil
    go_simp
    refine hsz.mono ?_
    rintro e w3 ⟨rfl, hb3⟩
    have HB3 := Lib.hid (show Below w2.heap.size w2 w3 from ⟨hb3.os, hb3.tape, hb3.output, hb3.size, hb3.block⟩)
    refine hK.out _ _ (⟨(World.cell?_of_block (HB3.out.block r hltr)).trans c0, HB3.out⟩) (fun hHeld => ?_)
    clear hK K
    try simp only [Act.put, List.setIfInBounds_toArray, List.set_cons_zero, List.set_cons_succ]
    refine wpAnyH_take (i := 8) (oi := ⟨(some 30), _, _, _, _, _⟩) (v := ?vq2_7) rfl (by kernel_rfl) (by kernel_rfl) (by kernel_rfl) (fun _ _ _ h => h) (Or.inl ⟨by rfl, ?yq2_7⟩) hHeld ?_
    case yq2_7 => (intro W0 hSw; go_simp; try with_reducible rfl)
    try simp only [Act.put, List.setIfInBounds_toArray, List.set_cons_zero, List.set_cons_succ]
    refine wpAnyH_take (i := 9) (oi := ⟨(some 31), _, _, _, _, _⟩) (v := ?vq2_8) rfl (by kernel_rfl) (by kernel_rfl) (by kernel_rfl) (fun _ _ _ h => h) (Or.inl ⟨by rfl, ?yq2_8⟩) hHeld ?_
    case yq2_8 => (intro W0 hSw; go_simp; try with_reducible rfl)
    try simp only [Act.put, List.setIfInBounds_toArray, List.set_cons_zero, List.set_cons_succ]
    refine wpAnyH_done (by kernel_rfl) ?_ _
    have HB := Lib.hid hHeld.2
    clear hHeld
    go_wp2
    go_ret
    exact ⟨rfl, HB.out⟩
theorem rappend_any (w : World) (G : Nat → Prop) (r : Nat) (T : Rk) (h : RkIs w G r T) (h1 : One T.L) (hn : T.L.length ≤ 1099511627776) (hz : sumL rfz T.L ≤ T.room) (hro : T.room ≤ 1048576) (hws : ∀ x ∈ T.L, x.2.ws.length ≤ 1099511627776) (s : ByteArray) (hs : s.size ≤ 140737488355328)
    (B : Option Addr) (l : List UInt8) (m cB : Nat) (hB : BytF w (fun i => ¬ G i) B l) (hl : l.length = m) (hm : m ≤ 1099511627776) :
    Calls Try.prog 7 #[.pointer (some ⟨r, 0, none⟩), .string s, .slice B m cB] w fun e w' => e = .returned (.int .i64 (rappE T s m)) ∧ (∃ G', RkIs w' G' r (T.app s l) ∧ OwnG G G' w.heap.size) ∧ Off G w w' := by
  by_cases he : raskE T.pf T.L s = 0 ∨ raskE T.pf T.L s = 4
  · by_cases hfit : T.room - sumL rfz T.L < m
    · have hE : rappE T s m = 6 := by unfold rappE; rw [if_pos he, if_pos hfit]
      have hT : T.app s l = T := by unfold Rk.app; rw [hl, hE]; rfl
      refine (rappend_full w G r T h hn hz hro hws s hs B m cB he hfit).mono ?_
      rintro e w' ⟨rfl, hb⟩
      have hof : Off (fun _ => False) w w' := Off.of_below hb fun i a b => by omega
      exact ⟨by rw [hE], ⟨G, by rw [hT]; exact h.off hof fun _ _ h => h, OwnG.refl⟩, hof.mono fun _ _ h => h.elim⟩
    · have hE : rappE T s m = 0 := by unfold rappE; rw [if_pos he, if_neg hfit]
      have hT : T.app s l = { T with L := putR T.L s l } := by unfold Rk.app; rw [hl, hE]; rfl
      rcases he with he | he
      · obtain ⟨i, f, _, _, _, hg, _⟩ := rask_yes he
        have hP : putR T.L s l = upd T.L s (·.add l) := by unfold putR; rw [hg]; rfl
        rw [hE, hT, hP]
        exact rappend_there w G r T h h1 hn hz hro hws s hs B l m cB hB.byt hl hm he hfit
      · obtain ⟨hg, _⟩ := rask_four he
        have hP : putR T.L s l = T.L ++ [(s, (⟨[], []⟩ : Rf).add l)] := by unfold putR; rw [hg]; rfl
        rw [hE, hT, hP]
        exact rappend_made w G r T h hn hz hro hws s hs B l m cB hB hl hm he hfit
  · have hE : rappE T s m = raskE T.pf T.L s := by unfold rappE; rw [if_neg he]
    have hT : T.app s l = T := by
      unfold Rk.app
      rw [hl, hE, if_neg (fun e => he (.inl e))]
    refine (rappend_no w G r T h hn s hs B m cB he).mono ?_
    rintro e w' ⟨rfl, rfl⟩
    exact ⟨by rw [hE], ⟨G, by rw [hT]; exact h, OwnG.refl⟩, Off.refl _ _⟩
end Go.Proofs.Ytnpaodhcaeofnaa
