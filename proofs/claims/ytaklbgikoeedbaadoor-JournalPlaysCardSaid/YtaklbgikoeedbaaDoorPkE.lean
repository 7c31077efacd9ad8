/-
  Words and contracts that other texts share, several in one text. No statement of the seat is proved here. Conditions: as each contract says.
  The contract of a journal's load. Conditions: fewer than 100 files.
  The contract of a journal's Open. Conditions: fewer than 100 files.
  What follows of what stays behind a crash; a disk of one file, writes appended one by one. No statement is proved here. Conditions: as each says.
  A journal's files on its disk, as lists: what Add, Sync, Keep, a crash, Open make of them. No statement is proved here. Conditions: none.
  The state of a journal on its disk: how each call and a crash turn it. No statement is proved here. Conditions: as each says.
  The state of a journal on its disk: Add, Sync, Keep, a crash, Open. No statement is proved here. Conditions: as each says.
  The state of a journal on its disk: what a crash leaves, and what Open finds without one. No statement is proved here. Conditions: as each says.
-/
import Derived.Test.YtaklbgikoeedbaaDoorPkD
import Derived.Test.YtaklbgikoeedbaaDoorPkB
namespace Go.Proofs.YtaklbgikoeedbaaDoor
open Go.RowKit

/-- Files of a journal, the base aside: the records in them, and how many of them are spoilt. -/
inductive Ld : List (List UInt8) → List (List UInt8) → Nat → Prop where
  | none : Ld [] [] 0
  | last (b : List UInt8) (rs : List (List UInt8)) : Rd false b rs false → Ld [b] rs 0
  | more (b : List UInt8) (rs : List (List UInt8)) (r rs' : List (List UInt8)) (k : Nat) : Rd false b rs true → Ld r rs' k → Ld (b :: r) (rs ++ rs') (k + 1)
def hdAt (hd : Option (List UInt8)) (i : Nat) : List UInt8 := if i = 0 then hdB hd else []
structure LdIs (S : Dk) (hd : Option (List UInt8)) (bs : List (List UInt8)) : Prop where
  at_ : ∀ (i : Nat) (b : List UInt8), bs[i]? = some b → askE S (jname i) = 0 ∧ readB S (jname i) = hdAt hd i ++ b
  non : askE S (jname bs.length) ≠ 0
  siz : S.siz = (((hdB hd).length + bs.flatten.length : Nat) : Int)
  hdx : ∀ x, hd = some x → x.length ≤ 65536 ∧ bs ≠ []
  few : bs.length ≤ 98
  room : (hdB hd).length + bs.flatten.length ≤ 1048576
def szs (hd : Option (List UInt8)) (bs : List (List UInt8)) (i : Nat) : Nat := if i = 0 then 0 else (hdB hd).length + (bs.take i).flatten.length
theorem szs_next {hd : Option (List UInt8)} {bs : List (List UInt8)} {i : Nat} {b : List UInt8} (h : bs[i]? = some b) : szs hd bs (i + 1) = szs hd bs i + (hdAt hd i ++ b).length := by
  have e : bs.take (i + 1) = bs.take i ++ [b] := by rw [List.take_add_one, h]; rfl
  unfold szs hdAt
  rw [e, List.flatten_append]
  by_cases hi : i = 0
  · subst hi; simp
  · simp [hi]; omega
theorem szs_all {S : Dk} {hd : Option (List UInt8)} {bs : List (List UInt8)} (h : LdIs S hd bs) : szs hd bs bs.length = (hdB hd).length + bs.flatten.length := by
  unfold szs
  by_cases hi : bs.length = 0
  · have hb := List.eq_nil_of_length_eq_zero hi
    subst hb
    cases hd with
    | none => rfl
    | some x => exact absurd rfl (h.hdx x rfl).2
  · rw [if_neg hi, List.take_of_length_le (Nat.le_refl _)]
theorem szs_le {hd : Option (List UInt8)} {bs : List (List UInt8)} (i : Nat) : szs hd bs i ≤ (hdB hd).length + bs.flatten.length := by
  unfold szs
  have := flat_le bs i
  split <;> omega
theorem len_le {hd : Option (List UInt8)} {bs : List (List UInt8)} {i : Nat} {b : List UInt8} (h : bs[i]? = some b) : (hdAt hd i ++ b).length ≤ (hdB hd).length + bs.flatten.length := by
  have h1 := szs_next (hd := hd) h
  have h2 := szs_le (hd := hd) (bs := bs) (i + 1)
  omega
def baseAt (hd : Option (List UInt8)) (i : Nat) : List UInt8 := if i = 0 then [] else hd.getD []
theorem drop_cons {bs : List (List UInt8)} {i : Nat} {b : List UInt8} (h : bs[i]? = some b) : bs.drop i = b :: bs.drop (i + 1) := by
  obtain ⟨h2, h3⟩ := List.getElem?_eq_some_iff.1 h
  rw [List.drop_eq_getElem_cons h2, h3]
section
variable {w0 W W' : World} {j d N : Nat} {S : Dk}
set_option maxRecDepth 100000 in
set_option maxHeartbeats 2000000 in
theorem jload_any {M : World → (Nat → Prop) → Prop} (hM : Kp M) (lv : Nat) (h : Hold w0 W d N S (JnOb j d ⟨lv, false, [], [], 0⟩) M) (hd : Option (List UInt8)) (bs rs : List (List UInt8)) (k : Nat) (hL : LdIs S hd bs) (hld : Ld bs rs k) (hrl : rs.length ≤ 1073741824) :
    Calls Tryd.prog 23 #[.pointer (some ⟨j, 0, none⟩)] W fun e w' => e = .returned (.bool true) ∧ Hold w0 w' d N S (JnOb j d ⟨lv, false, hd.getD [], rs, k⟩) M := by
  have HS := Lib.hid hL.siz
  have HA := vlt hL
  obtain ⟨tot, htot⟩ : ∃ tot, tot = (hdB hd).length + bs.flatten.length := ⟨_, rfl⟩
  have htot2 : tot ≤ 1048576 := by rw [htot]; exact hL.room
  rw [← htot] at HS
  have HT := vlt htot
  clear htot
  go_enter Tryd.func23, Tryd.ntmps23
  go_wp2
  go_loopw [3] (fun sz wr => ∃ (i z k' : Nat) (rs' R : List (List UInt8)), sz = .int .i64 (z : Int) ∧ Vlt (z = szs hd bs i) ∧ z ≤ 1048576 ∧ i ≤ bs.length ∧ i ≤ 98 ∧ Vlt (Ld (bs.drop i) rs' k') ∧ Hid (i + k' = k) ∧ Vlt (R ++ rs' = rs) ∧ Hold w0 wr d N S (JnOb j d ⟨lv, false, baseAt hd i, R, i⟩) M)
    (fun _ wr => 100 - lastOf j wr)
  case atStart => exact ⟨0, 0, k, rs, [], rfl, vlt rfl, by omega, Nat.zero_le _, by omega, vlt hld, by show _ = _; omega, vlt rfl, h⟩
  case round =>
    obtain ⟨i, z, k', rs', R, rfl, hz, hzb, hi, hi98, hld2, hik, hE, hh⟩ := hrel
    have hRl : R.length ≤ 1073741824 := by
      have h := congrArg List.length hE.out
      rw [List.length_append] at h
      omega
    have hlast := lastOf_is hh
    have hhd := hh.drew (jnOb _ _ _) hM
    have hnm := (jname_may i (by omega)).2.1
    have hrd := hold_read (jnOb _ _ _) hM hhd (jname i) (by omega)
    clear hh
    go_upto_region 2 with fail
    refine wp_region_held_drew (S := (fun W' => W'.cell? ⟨j, 0, none⟩ = some (.pointer (some ⟨d, 0, none⟩)) ∧ W'.cell? ⟨j, 5, none⟩ = some (.int .i64 (i : Int)))) (by kernel_rfl) (⟨hhd.c0,hhd.c5⟩) (fun hHeld => ?_)
    refine wpAnyH_take (i := 0) (oi := ⟨(some 9), _, _, _, _, _⟩) (v := ?vq1_0) rfl (by kernel_rfl) (by kernel_rfl) (by kernel_rfl) (fun _ _ _ h => h) (Or.inl ⟨by rfl, ?yq1_0⟩) hHeld ?_
    case yq1_0 => (intro W0 hSw; go_simp; try with_reducible rfl)
    try simp only [Act.put, List.setIfInBounds_toArray, List.set_cons_zero, List.set_cons_succ]
    refine wpAnyH_take (i := 1) (oi := ⟨(some 10), _, _, _, _, _⟩) (v := ?vq1_1) rfl (by kernel_rfl) (by kernel_rfl) (by kernel_rfl) (fun _ _ _ h => h) (Or.inl ⟨by rfl, ?yq1_1⟩) hHeld ?_
    case yq1_1 => (intro W0 hSw; go_simp; try with_reducible rfl)
    try simp only [Act.put, List.setIfInBounds_toArray, List.set_cons_zero, List.set_cons_succ]
    refine wpAnyH_take (i := 2) (oi := ⟨(some 11), _, _, _, _, _⟩) (v := ?vq1_2) rfl (by kernel_rfl) (by kernel_rfl) (by kernel_rfl) (fun _ _ _ h => h) (Or.inl ⟨by rfl, ?yq1_2⟩) hHeld ?_
    case yq1_2 => (intro W0 hSw; go_simp; try with_reducible rfl)
    try simp only [Act.put, List.setIfInBounds_toArray, List.set_cons_zero, List.set_cons_succ]
    refine wpAnyH_take (i := 3) (oi := ⟨(some 12), _, _, _, _, _⟩) (v := ?vq1_3) rfl (by kernel_rfl) (by kernel_rfl) (by kernel_rfl) (fun _ _ _ h => h) (Or.inl ⟨by rfl, ?yq1_3⟩) hHeld ?_
    case yq1_3 => (intro W0 hSw; go_simp; try with_reducible rfl)
    try simp only [Act.put, List.setIfInBounds_toArray, List.set_cons_zero, List.set_cons_succ]
    refine wpAnyH_take (i := 4) (oi := ⟨(some 13), _, _, _, _, _⟩) (v := ?vq1_4) rfl (by kernel_rfl) (by kernel_rfl) (by kernel_rfl) (fun _ _ _ h => h) (Or.inl ⟨by rfl, ?yq1_4⟩) hHeld ?_
    case yq1_4 => (intro W0 hSw; go_simp; try with_reducible rfl)
    try simp only [Act.put, List.setIfInBounds_toArray, List.set_cons_zero, List.set_cons_succ]
    refine wpAnyH_take (i := 5) (oi := ⟨(some 14), _, _, _, _, _⟩) (v := ?vq1_5) rfl (by kernel_rfl) (by kernel_rfl) (by kernel_rfl) (fun _ _ _ h => h) (Or.inl ⟨by rfl, ?yq1_5⟩) hHeld ?_
    case yq1_5 => (intro W0 hSw; go_simp; try with_reducible rfl)
    try simp only [Act.put, List.setIfInBounds_toArray, List.set_cons_zero, List.set_cons_succ]
    refine wpAnyH_take (i := 6) (oi := ⟨(some 15), _, _, _, _, _⟩) (v := ?vq1_6) rfl (by kernel_rfl) (by kernel_rfl) (by kernel_rfl) (fun _ _ _ h => h) (Or.inl ⟨by rfl, ?yq1_6⟩) hHeld ?_
    case yq1_6 => (intro W0 hSw; go_simp; try with_reducible rfl)
    try simp only [Act.put, List.setIfInBounds_toArray, List.set_cons_zero, List.set_cons_succ]
    refine wpAnyH_take (i := 7) (oi := ⟨(some 16), _, _, _, _, _⟩) (v := ?vq1_7) rfl (by kernel_rfl) (by kernel_rfl) (by kernel_rfl) (fun _ _ _ h => h) (Or.inl ⟨by rfl, ?yq1_7⟩) hHeld ?_
    case yq1_7 => (intro W0 hSw; go_simp; try with_reducible rfl)
    try simp only [Act.put, List.setIfInBounds_toArray, List.set_cons_zero, List.set_cons_succ]
    refine wpAnyH_ready (rs := [8]) (by kernel_rfl) (by simp) ?_
    refine AllReadyH.cons (i := 8) (o := ⟨(some 17), _, _, _, _, _⟩) rfl (fun K hK => ?_) AllReadyH.nil
    go_simp
    refine (name_any i (by omega) _).mono ?_
    rintro e w3 ⟨rfl, rfl⟩
    refine hK.out _ _ (⟨hhd.c0, hhd.c5⟩) (fun hHeld => ?_)
    clear hK K
    try simp only [Act.put, List.setIfInBounds_toArray, List.set_cons_zero, List.set_cons_succ]
    refine wpAnyH_ready (rs := [9]) (by kernel_rfl) (by simp) ?_
    refine AllReadyH.cons (i := 9) (o := ⟨(some 18), _, _, _, _, _⟩) rfl (fun K hK => ?_) AllReadyH.nil
    go_simp
    refine hrd.mono ?_
    rintro e w4 ⟨A, n, c, l, rfl, hl, hln, hnc, hh4, hb4⟩
    clear hrd hHeld
    refine hK.out _ _ (⟨hh4.c0, hh4.c5⟩) (fun hHeld => ?_)
    clear hK K
    try simp only [Act.put, List.setIfInBounds_toArray, List.set_cons_zero, List.set_cons_succ]
    refine wpAnyH_take (i := 10) (oi := ⟨(some 8), _, _, _, _, _⟩) (v := ?vq1_8) rfl (by kernel_rfl) (by kernel_rfl) (by kernel_rfl) (fun _ _ _ h => h) (Or.inl ⟨by rfl, ?yq1_8⟩) hHeld ?_
    case yq1_8 => (intro W0 hSw; go_simp; try with_reducible rfl)
    try simp only [Act.put, List.setIfInBounds_toArray, List.set_cons_zero, List.set_cons_succ]
    refine wpAnyH_take (i := 11) (oi := ⟨(some 19), _, _, _, _, _⟩) (v := ?vq1_9) rfl (by kernel_rfl) (by kernel_rfl) (by kernel_rfl) (fun _ _ _ h => h) (Or.inl ⟨by rfl, ?yq1_9⟩) hHeld ?_
    case yq1_9 => (intro W0 hSw; go_simp; try with_reducible rfl)
    try simp only [Act.put, List.setIfInBounds_toArray, List.set_cons_zero, List.set_cons_succ]
    refine wpAnyH_take (i := 12) (oi := ⟨(some 20), _, _, _, _, _⟩) (v := ?vq1_10) rfl (by kernel_rfl) (by kernel_rfl) (by kernel_rfl) (fun _ _ _ h => h) (Or.inl ⟨by rfl, ?yq1_10⟩) hHeld ?_
    case yq1_10 => (intro W0 hSw; go_simp; try with_reducible rfl)
    try simp only [Act.put, List.setIfInBounds_toArray, List.set_cons_zero, List.set_cons_succ]
    refine wpAnyH_take (i := 13) (oi := ⟨(some 4), _, _, _, _, _⟩) (v := ?vq1_11) rfl (by kernel_rfl) (by kernel_rfl) (by kernel_rfl) (fun _ _ _ h => h) (Or.inl ⟨by rfl, ?yq1_11⟩) hHeld ?_
    case yq1_11 => (intro W0 hSw; go_simp; try with_reducible rfl)
    try simp only [Act.put, List.setIfInBounds_toArray, List.set_cons_zero, List.set_cons_succ]
    refine wpAnyH_take (i := 14) (oi := ⟨(some 5), _, _, _, _, _⟩) (v := ?vq1_12) rfl (by kernel_rfl) (by kernel_rfl) (by kernel_rfl) (fun _ _ _ h => h) (Or.inl ⟨by rfl, ?yq1_12⟩) hHeld ?_
    case yq1_12 => (intro W0 hSw; go_simp; try with_reducible rfl)
    try simp only [Act.put, List.setIfInBounds_toArray, List.set_cons_zero, List.set_cons_succ]
    refine wpAnyH_done (by kernel_rfl) ?_ _
    clear hHeld hhd
    cases hg : bs[i]? with
    | none =>
      have hil : i = bs.length := by
        rcases Nat.lt_or_ge i bs.length with h | h
        · rw [List.getElem?_eq_getElem h] at hg; cases hg
        · omega
      have hno : askE S (jname i) ≠ 0 := by rw [hil]; exact HA.out.non
      have hfin : Vlt (rs' = [] ∧ k' = 0) := by
        have h := hld2.out
        rw [hil, List.drop_of_length_le (Nat.le_refl _)] at h
        generalize hz : ([] : List (List UInt8)) = y at h
        cases h with
        | none => exact vlt ⟨hz.symm, rfl⟩
        | last => cases hz
        | more => cases hz
      have hzt : Hid ((z : Int) = (tot : Int)) := show _ = _ by rw [hz.out, HT.out, hil, szs_all HA.out]
      have hend : Hold w0 w4 d N S (JnOb j d ⟨lv, false, hd.getD [], rs, k⟩) M := by
        have h1 := hh4.weak (K2 := M) (fun _ _ h => h.1)
        have e1 : baseAt hd i = hd.getD [] := by
          unfold baseAt
          by_cases h0 : i = 0
          · rw [if_pos h0]
            cases hd with
            | none => rfl
            | some x => exact absurd (List.eq_nil_of_length_eq_zero (by omega)) (HA.out.hdx x rfl).2
          · rw [if_neg h0]
        have e2 : R = rs := by rw [← hE.out, hfin.out.1, List.append_nil]
        have e3 : i = k := by have := hik.out; have := hfin.out.2; omega
        rw [e1, e2, e3] at h1
        exact h1
      have hsz := hold_size (hh4.weak (K2 := M) (fun _ _ h => h.1))
      have c0 := hh4.c0
      generalize askE S (jname i) = v at *
      clear hh4 hz hil hl hg
      go_wp2_with fail
      refine hsz.mono ?_
      rintro e w5 ⟨rfl, rfl⟩
      clear hsz
      rw [HS.out]
      go_wp2
      go_ret
      exact ⟨by rw [hzt.out]; simp, hend⟩
    | some b =>
      obtain ⟨hask, hrb⟩ := HA.out.at_ i b hg
      have hi2 : i < bs.length := (List.getElem?_eq_some_iff.1 hg).1
      have hi97 : i + 1 ≤ 98 := by have := HA.out.few; omega
      have hlb : l = hdAt hd i ++ b := by rw [hl.out, hrb]
      have hnz : n ≤ 1048576 ∧ Vlt (z + n = szs hd bs (i + 1)) ∧ z + n ≤ 1048576 := by
        have h1 := len_le (hd := hd) hg
        have h2 := szs_next (hd := hd) hg
        have h3 := szs_le (hd := hd) (bs := bs) (i + 1)
        have h4 := HA.out.room
        rw [← hlb, hln.out] at h1 h2
        exact ⟨by omega, vlt (by rw [hz.out, h2]), by rw [hz.out]; omega⟩
      obtain ⟨hn2, hz2, hzb2⟩ := hnz
      have hcut : hdAt hd i ++ b = hdB (if i = 0 then hd else none) ++ b := by
        unfold hdAt
        by_cases h0 : i = 0
        · rw [if_pos h0, if_pos h0]
        · rw [if_neg h0, if_neg h0]; rfl
      have hxs : ∀ x, (if i = 0 then hd else none) = some x → i = 0 ∧ x.length ≤ 65536 := fun x hx => by
        by_cases h0 : i = 0
        · rw [if_pos h0] at hx; exact ⟨h0, (HA.out.hdx x hx).1⟩
        · rw [if_neg h0] at hx; cases hx
      have hbase : (if i = 0 then hd else none).getD (baseAt hd i) = baseAt hd (i + 1) := by
        unfold baseAt
        by_cases h0 : i = 0
        · rw [if_pos h0, if_pos h0]; rfl
        · rw [if_neg h0, if_neg h0]; rfl
      have HB := vlt hbase
      have hdr := hld2.out
      rw [drop_cons hg] at hdr
      have HL := vlt hlb
      have hHC := vlt hcut
      clear hld2 hz hlb hcut hbase hl hrb
      rw [hask]
      clear hask
      generalize hr : bs.drop (i + 1) = r at hdr
      have Hr := vlt hr
      clear hr
      cases hdr with
      | last _ _ hrd2 =>
        have hk2 : i = k := by have := hik.out; omega
        subst hk2
        have htk := jtake_any (kAnd hM (kB A l)) hh4 A l n c (fun W F h => h.2) hln.out hnc (by omega) (if i = 0 then hd else none) b (by rw [HL.out, hHC.out]) hxs rs' false hrd2 (by rw [hE.out]; exact hrl)
        have hil : i + 1 = bs.length := by
          have h := congrArg List.length Hr.out
          simp at h; omega
        have hzt : Hid (((z : Int) + (n : Int)) = (tot : Int)) := show _ = _ by
          have h := hz2.out
          rw [hil, szs_all HA.out, ← HT.out] at h
          omega
        clear hh4 hg hxs hil
        go_wp2_with fail
        refine htk.mono ?_
        rintro e w5 ⟨rfl, hh5⟩
        clear htk
        have hh6 := hh5.weak (K2 := M) (fun _ _ h => h.1)
        have hend : Hold w0 w5 d N S (JnOb j d ⟨lv, false, hd.getD [], rs, i⟩) M := by
          have h1 := hh6
          simp only [HB.out, hE.out] at h1
          exact h1
        have hsz := hold_size hh6
        have c0 := hh6.c0
        clear hh5 hh6
        go_wp2_with fail
        refine hsz.mono ?_
        rintro e w6 ⟨rfl, rfl⟩
        clear hsz
        rw [HS.out]
        go_wp2
        go_ret
        exact ⟨by rw [hzt.out]; simp, hend⟩
      | more _ rs1 _ rs2 k2 hrd2 hld3 =>
        have hE2 : Vlt ((R ++ rs1) ++ rs2 = rs) := vlt (by rw [List.append_assoc]; exact hE.out)
        have htk := jtake_any (kAnd hM (kB A l)) hh4 A l n c (fun W F h => h.2) hln.out hnc (by omega) (if i = 0 then hd else none) b (by rw [HL.out, hHC.out]) hxs rs1 true hrd2 (by
          have h := congrArg List.length hE2.out
          rw [List.length_append] at h
          show (R ++ rs1).length ≤ _
          omega)
        have hld4 : Vlt (Ld (bs.drop (i + 1)) rs2 k2) := vlt (by rw [Hr.out]; exact hld3)
        have hik2 : Hid (i + 1 + k2 = k) := show _ = _ by have := hik.out; omega
        clear hh4 hg hxs hik hE hld3
        go_wp2_with fail
        refine htk.mono ?_
        rintro e w5 ⟨rfl, hh5⟩
        clear htk
        have hh6 := hh5.weak (K2 := M) (fun _ _ h => h.1)
        have hset := hh6.setRow hM ⟨lv, false, baseAt hd (i + 1), R ++ rs1, i + 1⟩ 5 (.int .i64 ((i : Int) + 1)) ⟨HB.out.symm, rfl⟩ (fun A n c Q m k => rfl)
        have c5 := hh6.c5
        have f5 := hh6.fr 5
        have hm1 := lastOf_is hset
        clear hh5 hh6
        go_wp2
        go_roundw
        case rel => exact ⟨i + 1, z + n, k2, rs2, R ++ rs1, by go_num, hz2, hzb2, by omega, hi97, hld4, hik2, hE2, hset⟩
        case measure =>
          rw [hm1, hlast]
          show 100 - (i + 1) < 100 - i
          omega
end
end Go.Proofs.YtaklbgikoeedbaaDoor
namespace Go.Proofs.YtaklbgikoeedbaaDoor
open Go.RowKit

def synN : Nat → Dk → Dk
  | 0, S => S
  | k + 1, S => (synN k S).syn (jname k)
section
variable {w0 W W' : World} {j d N : Nat} {S : Dk}
theorem Hold.born {K : World → (Nat → Prop) → Prop} (hK : Kp K) (lv : Nat) (h : Hold w0 W d N S NoObj K) :
    Hold w0 (W.alloc (.cells (jrow d lv false none 0 0 none 0 0 0).toArray 53)) d N S (JnOb W.heap.size d ⟨lv, false, [], [], 0⟩) K :=
  h.callG hK fun G hG => ⟨_, ⟨fun _ => False, none, 0, 0, none, 0, 0, [], ⟨heap_alloc_new W _, .inl rfl, rfl, Nat.le_refl _, World.ownsRow_nil _ _ _ _, PL.nil, fun h => h, AtF.none_ _, fun _ h => h.elim⟩, fun _ => Iff.rfl⟩, fun i hi => by
    rcases hi with hi | ⟨a, ha, _⟩ | hi
    · exact .inr (by omega)
    · cases ha
    · exact hi.elim, (Off.refl G W).alloc _⟩
set_option maxRecDepth 100000 in
theorem jopen_off {P K : World → (Nat → Prop) → Prop} (h : Hold w0 W d N S P K) (ho : S.on = false) :
    Calls Tryd.prog 11 #[.pointer (some ⟨d, 0, none⟩)] W fun e w' => e = .returned (.tuple #[.pointer none, .int .i64 7]) ∧ w' = W := by
  have hpw := hold_power h
  rw [ho] at hpw
  clear h
  go_enter Tryd.func11, Tryd.ntmps11
  go_wp2_with fail
  refine hpw.mono ?_
  rintro e w2 ⟨rfl, rfl⟩
  clear hpw
  go_wp2
  go_ret2
  exact ⟨rfl, rfl⟩
set_option maxRecDepth 100000 in
set_option maxHeartbeats 2000000 in
theorem jopen_any {M : World → (Nat → Prop) → Prop} (hM : Kp M) (h : Hold w0 W d N S NoObj M) (ho : S.on = true) (hd : Option (List UInt8)) (bs rs : List (List UInt8)) (k : Nat) (hL : LdIs S hd bs) (hld : Ld bs rs k) (hk : k ≤ 98) (hrl : rs.length ≤ 1073741824) :
    Calls Tryd.prog 11 #[.pointer (some ⟨d, 0, none⟩)] W fun e w' => ∃ j, e = .returned (.tuple #[.pointer (some ⟨j, 0, none⟩), .int .i64 0]) ∧ Hold w0 w' d (N + 100) (synN (k + 1) S) (JnOb j d ⟨S.lives, false, hd.getD [], rs, k⟩) M := by
  have hpw := hold_power h
  have hlv := hold_lives h
  rw [ho] at hpw
  have hb := h.born hM S.lives
  have hld2 := jload_any hM S.lives hb hd bs rs k hL hld hrl
  have HS : Vlt (∀ i, synN (i + 1) S = (synN i S).syn (jname i)) := vlt fun i => rfl
  have HS0 : Vlt (synN 0 S = S) := vlt rfl
  generalize S.lives = lv at *
  clear h hL hld hb ho
  go_enter Tryd.func11, Tryd.ntmps11
  go_wp2_with fail
  refine hpw.mono ?_
  rintro e w2 ⟨rfl, rfl⟩
  clear hpw
  go_wp2_with fail
  refine hlv.mono ?_
  rintro e w3 ⟨rfl, rfl⟩
  clear hlv
  go_wp2_with fail
  refine hld2.mono ?_
  rintro e w4 ⟨rfl, hh⟩
  clear hld2
  have c5 := hh.c5
  generalize w3.heap.size = j at *
  go_wp2
  go_loopw [22] (fun x wr => ∃ i : Nat, x = .int .i64 (i : Int) ∧ i ≤ k + 1 ∧ Hold w0 wr d (N + i) (synN i S) (JnOb j d ⟨lv, false, hd.getD [], rs, k⟩) M) (fun x _ => k + 1 - (intOf x).toNat)
  case atStart => exact ⟨0, rfl, Nat.zero_le _, by rw [HS0.out]; exact hh⟩
  case round =>
    obtain ⟨i, rfl, hi, hh2⟩ := hrel
    by_cases hlt : i < k + 1
    · have hnm := (jname_may i (by omega)).2.1
      have hsy := hold_sync (jnOb _ _ _) hM hh2 (jname i) (by omega)
      rw [← HS.out i] at hsy
      clear hh2
      go_wp2_with fail
      refine (name_any i (by omega) _).mono ?_
      rintro e w5 ⟨rfl, rfl⟩
      go_wp2_with fail
      refine hsy.mono ?_
      rintro e w6 ⟨rfl, hh3⟩
      clear hsy
      go_wp2
      go_roundw
      case rel => exact ⟨i + 1, by go_num, by omega, hh3⟩
      case measure => simp [intOf]; omega
    · obtain rfl : i = k + 1 := by omega
      have hh3 := hh2.more (show N + (k + 1) ≤ N + 100 by omega)
      clear hh2
      go_wp2
      go_ret2
      exact ⟨j, rfl, hh3⟩
end
end Go.Proofs.YtaklbgikoeedbaaDoor
namespace Go.Proofs.YtaklbgikoeedbaaDoor
open Go.RowKit

theorem fallen_lo (keep torn : Nat) (f : Fl) : f.safe.length ≤ lefts keep torn 0 f.safe.length f.safe.length f.gs ∧ lefts keep torn 0 f.safe.length f.safe.length f.gs ≤ f.safe.length + f.gs.flatten.length :=
  lefts_le keep torn 0 f.safe.length f.safe.length f.safe.length f.gs (Nat.le_refl _) (Nat.le_refl _) (Nat.le_refl _)
theorem fallen_len (keep torn : Nat) (f : Fl) : (fallen keep torn f).length = lefts keep torn 0 f.safe.length f.safe.length f.gs := by
  have h := fallen_lo keep torn f
  unfold fallen
  rw [List.length_take, List.length_append, zs_flat_len]
  omega
theorem fallen_pre (keep torn : Nat) (f : Fl) : (fallen keep torn f).take f.safe.length = f.safe := by
  have h := fallen_lo keep torn f
  unfold fallen
  rw [List.take_take, Nat.min_eq_left h.1, List.take_left]
theorem zs_all (keep : Nat) (h : ∀ k, stays keep k = true) : ∀ (k : Nat) (l : List (List UInt8)), zs keep k l = l
  | _, [] => rfl
  | k, g :: r => by simp [zs, h, zs_all keep h (k + 1) r]
theorem lefts_all (keep : Nat) (h : ∀ k, stays keep k = true) : ∀ (k a : Nat) (l : List (List UInt8)), lefts keep 0 k a a l = a + l.flatten.length
  | _, _, [] => by simp [lefts]
  | k, a, g :: r => by
    have ih := lefts_all keep h (k + 1) (a + g.length) r
    simp only [lefts, h, if_true, Nat.zero_min, Nat.sub_zero, ih, List.flatten_cons, List.length_append]
    omega
theorem lefts_no (keep torn : Nat) (h : ∀ k, stays keep k = false) : ∀ (k a c : Nat) (l : List (List UInt8)), lefts keep torn k a c l = c
  | _, _, _, [] => rfl
  | k, a, c, g :: r => by simp [lefts, h, lefts_no keep torn h (k + 1) (a + g.length) c r]
theorem fallen_all (keep : Nat) (f : Fl) (h : ∀ k, stays keep k = true) : fallen keep 0 f = f.all := by
  unfold fallen
  rw [zs_all keep h, lefts_all keep h, ← List.length_append, List.take_length]; rfl
theorem fallen_no (keep torn : Nat) (f : Fl) (h : ∀ k, stays keep k = false) : fallen keep torn f = f.safe := by
  unfold fallen
  rw [lefts_no keep torn h, List.take_left]
theorem stays_ones (k : Nat) : stays 18446744073709551615 k = true := by
  have h : ∀ j, j ≤ 63 → (18446744073709551615 / 2 ^ j % 2 == 1) = true := by decide
  exact h _ (Nat.min_le_right _ _)
theorem stays_none (k : Nat) : stays 0 k = false := by simp [stays]

/-- Writes one by one. -/
def gsOf (ps : List (List UInt8)) : List (List UInt8) := ps.foldl wr []
theorem gsOf_snoc (ps : List (List UInt8)) (p : List UInt8) : gsOf (ps ++ [p]) = wr (gsOf ps) p := by simp [gsOf]
theorem fold_flat : ∀ (ps gs : List (List UInt8)), (ps.foldl wr gs).flatten = gs.flatten ++ ps.flatten
  | [], gs => by simp
  | p :: ps, gs => by simp [fold_flat ps (wr gs p), wr_flat]
theorem gsOf_flat (ps : List (List UInt8)) : (gsOf ps).flatten = ps.flatten := by simp [gsOf, fold_flat]

/-- A disk of one file. -/
def oneF (on : Bool) (lives : Nat) (s : ByteArray) (f : Fl) : Dk := ⟨10000, on, lives, [(s, f)]⟩
theorem oneF_size (on : Bool) (lives : Nat) (s : ByteArray) (f : Fl) : (oneF on lives s f).size = f.all.length := by simp [oneF, Dk.size, sumL, fsz]
theorem oneF_get (on : Bool) (lives : Nat) (s : ByteArray) (f : Fl) : getL (oneF on lives s f).C s = some f := by simp [oneF, getL_cons]
theorem oneF_appE {s : ByteArray} {f : Fl} {n : Nat} (hs : may s = true) (h : f.all.length + n ≤ 10000) (lives : Nat) : appE (oneF true lives s f) s n = 0 := by
  have hz := oneF_size true lives s f
  have hr : readyE (oneF true lives s f).on s = 0 := by simp [oneF, readyE, hs]
  have hroom : (oneF true lives s f).room = 10000 := rfl
  unfold appE
  rw [if_pos hr, hz, hroom, if_neg (by omega)]
theorem oneF_app {s : ByteArray} {f : Fl} {b : List UInt8} (hs : may s = true) (h : f.all.length + b.length ≤ 10000) (lives : Nat) : (oneF true lives s f).app s b = oneF true lives s (f.write b) := by
  unfold Dk.app
  rw [if_pos (oneF_appE hs h lives)]
  simp [oneF, putW, getL_cons, upd]
theorem newF_appE {s : ByteArray} {n : Nat} (hs : may s = true) (h : n ≤ 10000) : appE ⟨10000, true, 1, []⟩ s n = 0 := by
  have hr : readyE true s = 0 := by simp [readyE, hs]
  simp [appE, hr, Dk.size, sumL, h]
theorem newF_app {s : ByteArray} {b : List UInt8} (hs : may s = true) (h : b.length ≤ 10000) : (⟨10000, true, 1, []⟩ : Dk).app s b = oneF true 1 s ⟨[], [b]⟩ := by
  unfold Dk.app
  rw [if_pos (newF_appE hs h)]
  simp [oneF, putW, getL_nil, Fl.write, wr]
theorem oneF_askE {s : ByteArray} {f : Fl} (hs : may s = true) (lives : Nat) : askE (oneF true lives s f) s = 0 := by
  have hr : readyE (oneF true lives s f).on s = 0 := by simp [oneF, readyE, hs]
  unfold askE
  rw [if_pos hr, oneF_get]; rfl
theorem oneF_syn {s : ByteArray} {f : Fl} (hs : may s = true) (lives : Nat) : (oneF true lives s f).syn s = oneF true lives s f.sync := by
  unfold Dk.syn
  rw [if_pos (oneF_askE hs lives)]
  simp [oneF, upd]
theorem oneF_readB {s : ByteArray} {f : Fl} (hs : may s = true) (lives : Nat) : readB (oneF true lives s f) s = f.all := by
  unfold readB
  rw [if_pos (oneF_askE hs lives), oneF_get]; rfl
theorem oneF_crs (on : Bool) (lives : Nat) (s : ByteArray) (f : Fl) (keep tn : Nat) : (oneF on lives s f).crs keep tn = oneF false lives s (f.fall keep tn) := by simp [oneF, Dk.crs, onL]
theorem oneF_awake (on : Bool) (lives : Nat) (s : ByteArray) (f : Fl) : (oneF on lives s f).awake = oneF true (lives + 1) s f := rfl
end Go.Proofs.YtaklbgikoeedbaaDoor
namespace Go.Proofs.YtaklbgikoeedbaaDoor

def named : Nat → List Fl → List (ByteArray × Fl)
  | _, [] => []
  | i, f :: r => (jname i, f) :: named (i + 1) r
theorem named_app : ∀ (i : Nat) (a b : List Fl), named i (a ++ b) = named i a ++ named (i + a.length) b
  | _, [], _ => by simp [named]
  | i, f :: r, b => by simp [named, named_app (i + 1) r b, Nat.add_assoc, Nat.add_comm 1]
theorem named_on (k : Fl → Fl) : ∀ (i : Nat) (a : List Fl), onL k (named i a) = named i (a.map k)
  | _, [] => rfl
  | i, f :: r => by
    have h := named_on k (i + 1) r
    simp only [onL] at h
    simp [named, onL, h]
theorem named_sum : ∀ (i : Nat) (a : List Fl), sumL fsz (named i a) = (a.map fsz).sum
  | _, [] => rfl
  | i, f :: r => by
    have h := named_sum (i + 1) r
    simp only [sumL] at h
    simp [named, sumL, h]
theorem named_get : ∀ (i : Nat) (a : List Fl) (k : Nat), i + a.length ≤ 100 → k < 100 → getL (named i a) (jname k) = if i ≤ k then a[k - i]? else none
  | i, [], k, _, _ => by simp [named, getL_nil]
  | i, f :: r, k, h, hk => by
    have hl : i + 1 + r.length ≤ 100 := by simp at h; omega
    rw [named, getL_cons, named_get (i + 1) r k hl hk]
    by_cases e : i = k
    · subst e; simp
    · have e2 : ¬ jname i = jname k := fun h2 => e (jname_inj (by simp at h; omega) hk h2)
      rw [if_neg e2]
      by_cases h3 : i + 1 ≤ k
      · obtain ⟨m, hm⟩ : ∃ m, k - i = m + 1 := ⟨k - i - 1, by omega⟩
        have hm2 : k - (i + 1) = m := by omega
        rw [if_pos h3, if_pos (by omega), hm, hm2]; rfl
      · rw [if_neg h3, if_neg (by omega)]
theorem named_other : ∀ (i : Nat) (a : List Fl) (s : ByteArray), (∀ k, i ≤ k → k < i + a.length → jname k ≠ s) → getL (named i a) s = none
  | _, [], _, _ => rfl
  | i, f :: r, s, h => by
    rw [named, getL_cons, if_neg (h i (Nat.le_refl _) (by simp)), named_other (i + 1) r s fun k h1 h2 => h k (by omega) (by simp; omega)]
theorem named_new (a : List Fl) (h : a.length ≤ 100) : getL (named 0 a) newB = none := named_other 0 a newB fun k _ h2 => (jname_may k (by omega)).2.2
theorem upd_none {α : Type} {L : List (ByteArray × α)} {s : ByteArray} (h : α → α) (hg : getL L s = none) : upd L s h = L := by
  unfold upd
  conv => rhs; rw [← List.map_id L]
  refine List.map_congr_left fun y hy => ?_
  have : ¬ y.1 = s := fun e => by
    rw [getL, Option.map_eq_none_iff, List.find?_eq_none] at hg
    exact hg y hy (by simp [e])
  simp [this]
theorem upd_app {α : Type} (L M : List (ByteArray × α)) (s : ByteArray) (h : α → α) : upd (L ++ M) s h = upd L s h ++ upd M s h := by simp [upd]
theorem del_app {α : Type} (L M : List (ByteArray × α)) (s : ByteArray) : del (L ++ M) s = del L s ++ del M s := by simp [del]
theorem upd_one {α : Type} (s : ByteArray) (a : α) (h : α → α) : upd [(s, a)] s h = [(s, h a)] := by simp [upd]
theorem del_one {α : Type} (s : ByteArray) (a : α) : del [(s, a)] s = [] := by simp [del]
/-- The last file turns. -/
theorem named_last (a : List Fl) (f : Fl) (h : Fl → Fl) (hl : a.length < 100) : upd (named 0 (a ++ [f])) (jname a.length) h = named 0 (a ++ [h f]) := by
  rw [named_app, named_app, upd_app, Nat.zero_add, upd_none h (named_other 0 a _ fun k _ h2 e => by have := jname_inj (by omega) hl e; omega)]
  show _ ++ upd [(jname a.length, f)] _ h = _ ++ [(jname a.length, h f)]
  rw [upd_one]
theorem named_at (a : List Fl) (f : Fl) (hl : a.length < 100) : getL (named 0 (a ++ [f])) (jname a.length) = some f := by
  rw [named_get 0 _ _ (by simp; omega) hl]; simp
theorem named_past (a : List Fl) (hl : a.length < 100) : getL (named 0 a) (jname a.length) = none := by
  rw [named_get 0 _ _ (by omega) hl]; simp

/-- Records as bytes. -/
def rb (rs : List (List UInt8)) : List UInt8 := (rs.map (pt 1)).flatten
theorem rb_cons (p : List UInt8) (r : List (List UInt8)) : rb (p :: r) = pt 1 p ++ rb r := by simp [rb]
theorem rb_app (a b : List (List UInt8)) : rb (a ++ b) = rb a ++ rb b := by simp [rb]
theorem rb_nil : rb [] = [] := rfl
theorem rb_flat (gs : List (List (List UInt8))) : (gs.map rb).flatten = rb gs.flatten := by
  induction gs with
  | nil => rfl
  | cons g r ih => simp [ih, rb_app]
def lenOk (rs : List (List UInt8)) : Prop := ∀ p ∈ rs, p.length ≤ 16384
theorem Rd.of_rb : ∀ (rs : List (List UInt8)), lenOk rs → Rd false (rb rs) rs false
  | [], _ => Rd.nil false
  | p :: r, h => by
    rw [rb_cons]
    exact Rd.more false p _ r false (h p List.mem_cons_self) (Rd.of_rb r fun q hq => h q (List.mem_cons_of_mem _ hq))
theorem rd_clean {s : Bool} {b : List UInt8} {rs : List (List UInt8)} {sp : Bool} (h : Rd s b rs sp) : (sp = false → s = false ∧ b = rb rs) ∧ lenOk rs ∧ (s = true → rs = [] ∧ sp = true) := by
  induction h with
  | nil s => exact ⟨fun e => ⟨e, rfl⟩, fun p hp => (List.not_mem_nil hp).elim, fun e => ⟨rfl, e⟩⟩
  | more s p r rs sp hp _ ih =>
    obtain ⟨i1, i2, i3⟩ := ih
    cases s with
    | true => exact ⟨fun e => absurd (i1 e).1 (by decide), i2, fun _ => i3 rfl⟩
    | false =>
      refine ⟨fun e => ⟨rfl, ?_⟩, fun q hq => ?_, fun e => absurd e (by decide)⟩
      · rw [(i1 e).2]; exact (rb_cons p rs).symm
      · rcases List.mem_cons.1 hq with rfl | hq
        · exact hp
        · exact i2 q hq
  | zero s n r rs sp _ _ _ ih =>
    obtain ⟨i1, i2, i3⟩ := ih
    obtain ⟨rfl, rfl⟩ := i3 rfl
    exact ⟨fun e => absurd e (by decide), i2, fun _ => ⟨rfl, rfl⟩⟩
  | torn s p k _ _ _ => exact ⟨fun e => absurd e (by decide), fun p hp => (List.not_mem_nil hp).elim, fun _ => ⟨rfl, rfl⟩⟩
/-- Behind something spoilt nothing more is taken. -/
theorem Rd.off {s : Bool} {b : List UInt8} {rs : List (List UInt8)} {sp : Bool} (h : Rd s b rs sp) : Rd true b [] true := by
  induction h with
  | nil s => exact Rd.nil true
  | more s p r rs sp hp _ ih => exact Rd.more true p r [] true hp ih
  | zero s n r rs sp h1 h2 _ ih => exact Rd.zero true n r [] true h1 h2 ih
  | torn s p k h1 h2 h3 => exact Rd.torn true p k h1 h2 h3
/-- Noughts ahead, as many as a part or more. -/
theorem Rd.noughts {s : Bool} {b : List UInt8} {rs : List (List UInt8)} {sp : Bool} (h : Rd s b rs sp) (n : Nat) (hn : 4 ≤ n) (s2 : Bool) : Rd s2 (List.replicate n 0 ++ b) [] true := by
  have h2 := h.off
  cases h with
  | nil _ => exact Rd.zero s2 n [] [] true hn (by simp) (Rd.nil true)
  | more _ p r rs sp hp hr => exact Rd.zero s2 n _ [] true hn (by simp [pt]) h2
  | zero _ m r rs sp h1 hh hr =>
    rw [← List.append_assoc, List.replicate_append_replicate]
    exact Rd.zero s2 (n + m) r [] true (by omega) hh hr.off
  | torn _ p k h1 h3 h4 =>
    refine Rd.zero s2 n _ [] true hn ?_ h2
    have := torn_head p k h3
    rw [List.head?_eq_getElem?, this]; simp
/-- Records ahead. -/
theorem Rd.ahead {b : List UInt8} {rs : List (List UInt8)} {sp : Bool} (h : Rd false b rs sp) : ∀ (g : List (List UInt8)), lenOk g → Rd false (rb g ++ b) (g ++ rs) sp
  | [], _ => h
  | p :: r, hg => by
    rw [rb_cons, List.append_assoc]
    exact Rd.more false p _ _ sp (hg p List.mem_cons_self) (Rd.ahead h r fun q hq => hg q (List.mem_cons_of_mem _ hq))
/-- A beginning of records. -/
theorem Rd.cut : ∀ (g : List (List UInt8)) (k : Nat), lenOk g → ∃ m sp, m ≤ g.length ∧ Rd false ((rb g).take k) (g.take m) sp
  | [], k, _ => ⟨0, false, Nat.le_refl _, by rw [rb_nil, List.take_nil]; exact Rd.nil false⟩
  | p :: r, k, hg => by
    have hp := hg p List.mem_cons_self
    by_cases h0 : k = 0
    · subst h0; exact ⟨0, false, Nat.zero_le _, Rd.nil false⟩
    · by_cases hk : k < 4 + p.length
      · refine ⟨0, true, Nat.zero_le _, ?_⟩
        have e : (rb (p :: r)).take k = (pt 1 p).take k := by
          rw [rb_cons, List.take_append_of_le_length (by rw [pt_len]; omega)]
        rw [e]
        exact Rd.torn false p k hp (by omega) hk
      · obtain ⟨m, sp, h1, h2⟩ := Rd.cut r (k - (4 + p.length)) fun q hq => hg q (List.mem_cons_of_mem _ hq)
        refine ⟨m + 1, sp, by simp; omega, ?_⟩
        have e : (rb (p :: r)).take k = pt 1 p ++ (rb r).take (k - (4 + p.length)) := by
          rw [rb_cons, List.take_append, pt_len, List.take_of_length_le (by rw [pt_len]; omega)]
        rw [e]
        exact Rd.more false p _ _ sp hp h2
/-- What is left of pieces, by the piece. -/
def anyK (keep : Nat) : Nat → List (List UInt8) → Bool
  | _, [] => false
  | k, _ :: r => stays keep k || anyK keep (k + 1) r
def fal (keep torn : Nat) : Nat → List (List UInt8) → List UInt8
  | _, [] => []
  | k, g :: r => if anyK keep (k + 1) r then (if stays keep k then g else List.replicate g.length 0) ++ fal keep torn (k + 1) r else if stays keep k then g.take (g.length - min torn g.length) else []
theorem lefts_none (keep torn : Nat) : ∀ (k a c : Nat) (l : List (List UInt8)), anyK keep k l = false → lefts keep torn k a c l = c
  | _, _, _, [], _ => rfl
  | k, a, c, g :: r, h => by
    simp only [anyK, Bool.or_eq_false_iff] at h
    rw [lefts, h.1]
    exact lefts_none keep torn (k + 1) _ _ r h.2
theorem lefts_any (keep torn : Nat) : ∀ (k a c c' : Nat) (l : List (List UInt8)), anyK keep k l = true → lefts keep torn k a c l = lefts keep torn k a c' l
  | _, _, _, _, [], h => by cases h
  | k, a, c, c', g :: r, h => by
    rw [lefts, lefts]
    by_cases hs : stays keep k = true
    · rw [if_pos hs, if_pos hs]
    · rw [if_neg hs, if_neg hs]
      simp only [anyK, Bool.or_eq_true] at h
      exact lefts_any keep torn (k + 1) _ _ _ r (h.resolve_left hs)
theorem lefts_ge (keep torn : Nat) : ∀ (k a c : Nat) (l : List (List UInt8)), anyK keep k l = true → a ≤ lefts keep torn k a c l
  | _, _, _, [], h => by cases h
  | k, a, c, g :: r, h => by
    rw [lefts]
    by_cases hr : anyK keep (k + 1) r = true
    · have := lefts_ge keep torn (k + 1) (a + g.length) (if stays keep k then a + g.length - min torn g.length else c) r hr
      omega
    · have hr' : anyK keep (k + 1) r = false := by simpa using hr
      rw [lefts_none keep torn _ _ _ r hr']
      simp only [anyK, hr', Bool.or_false] at h
      rw [if_pos h]; omega
theorem fal_is (keep torn : Nat) : ∀ (k : Nat) (x : List UInt8) (l : List (List UInt8)), anyK keep k l = true → (x ++ (zs keep k l).flatten).take (lefts keep torn k x.length x.length l) = x ++ fal keep torn k l
  | _, _, [], h => by cases h
  | k, x, g :: r, h => by
    generalize hz : (if stays keep k then g else List.replicate g.length 0) = z
    have hzl : z.length = g.length := by rw [← hz]; split <;> simp
    have e1 : (zs keep k (g :: r)).flatten = z ++ (zs keep (k + 1) r).flatten := by simp [zs, hz]
    rw [e1, ← List.append_assoc]
    by_cases hr : anyK keep (k + 1) r = true
    · have h1 := fal_is keep torn (k + 1) (x ++ z) r hr
      rw [fal, if_pos hr, hz, lefts, lefts_any keep torn _ _ _ (x.length + g.length) r hr, ← List.append_assoc, ← h1, List.length_append, hzl]
    · have hr' : anyK keep (k + 1) r = false := by simpa using hr
      have hs : stays keep k = true := by simpa [anyK, hr'] using h
      rw [if_pos hs] at hz
      subst hz
      rw [fal, if_neg hr, if_pos hs, lefts, if_pos hs, lefts_none keep torn _ _ _ r hr']
      have e2 : x.length + g.length - min torn g.length = x.length + (g.length - min torn g.length) := by omega
      rw [e2, List.append_assoc, List.take_length_add_append, List.take_append_of_le_length (by omega)]
theorem fallen_fal (keep torn : Nat) (f : Fl) : fallen keep torn f = f.safe ++ (if anyK keep 0 f.gs then fal keep torn 0 f.gs else []) := by
  unfold fallen
  by_cases h : anyK keep 0 f.gs = true
  · rw [if_pos h, fal_is keep torn 0 f.safe f.gs h]
  · have h' : anyK keep 0 f.gs = false := by simpa using h
    rw [if_neg h, lefts_none keep torn _ _ _ _ h', List.take_append_of_le_length (Nat.le_refl _), List.take_length, List.append_nil]
theorem rb_len4 : ∀ g : List (List UInt8), rb g = [] ∨ 4 ≤ (rb g).length
  | [] => .inl rfl
  | p :: r => .inr (by rw [rb_cons, List.length_append, pt_len]; omega)
/-- A crash leaves a beginning. -/
theorem rd_fal (keep torn : Nat) : ∀ (k : Nat) (gs : List (List (List UInt8))), lenOk gs.flatten → ∃ m sp, m ≤ gs.flatten.length ∧ Rd false (fal keep torn k (gs.map rb)) (gs.flatten.take m) sp
  | _, [], _ => ⟨0, false, Nat.le_refl _, Rd.nil false⟩
  | k, g :: r, h => by
    have hg : lenOk g := fun p hp => h p (by simp [hp])
    have hr : lenOk r.flatten := fun p hp => h p (by rw [List.flatten_cons]; exact List.mem_append_right _ hp)
    have hlen : (g :: r).flatten.length = g.length + r.flatten.length := by simp
    by_cases ha : anyK keep (k + 1) (r.map rb) = true
    · obtain ⟨m, sp, h1, h2⟩ := rd_fal keep torn (k + 1) r hr
      by_cases hs : stays keep k = true
      · refine ⟨g.length + m, sp, by omega, ?_⟩
        have e : fal keep torn k ((g :: r).map rb) = rb g ++ fal keep torn (k + 1) (r.map rb) := by
          rw [List.map_cons, fal, if_pos ha, if_pos hs]
        have e2 : (g :: r).flatten.take (g.length + m) = g ++ r.flatten.take m := by
          rw [List.flatten_cons, List.take_length_add_append]
        rw [e, e2]
        exact Rd.ahead h2 g hg
      · have e : fal keep torn k ((g :: r).map rb) = List.replicate (rb g).length 0 ++ fal keep torn (k + 1) (r.map rb) := by
          rw [List.map_cons, fal, if_pos ha, if_neg hs]
        rcases rb_len4 g with h0 | h4
        · refine ⟨g.length + m, sp, by omega, ?_⟩
          have hg0 : g = [] := by
            cases g with
            | nil => rfl
            | cons p t => have := congrArg List.length h0; rw [rb_cons, List.length_append, pt_len] at this; simp at this
          rw [e, h0]
          subst hg0
          simpa using h2
        · refine ⟨0, true, Nat.zero_le _, ?_⟩
          rw [e]
          exact h2.noughts _ h4 false
    · by_cases hs : stays keep k = true
      · obtain ⟨m, sp, h1, h2⟩ := Rd.cut g ((rb g).length - min torn (rb g).length) hg
        refine ⟨m, sp, by omega, ?_⟩
        have e : fal keep torn k ((g :: r).map rb) = (rb g).take ((rb g).length - min torn (rb g).length) := by
          rw [List.map_cons, fal, if_neg ha, if_pos hs]
        have e2 : (g :: r).flatten.take m = g.take m := by rw [List.flatten_cons, List.take_append_of_le_length h1]
        rw [e, e2]; exact h2
      · refine ⟨0, false, Nat.zero_le _, ?_⟩
        have e : fal keep torn k ((g :: r).map rb) = [] := by
          rw [List.map_cons, fal, if_neg ha, if_neg hs]
        rw [e]; exact Rd.nil false
end Go.Proofs.YtaklbgikoeedbaaDoor
namespace Go.Proofs.YtaklbgikoeedbaaDoor

abbrev Rcs := List (List UInt8)
def tlF (t : Rcs × List Rcs) : Fl := ⟨rb t.1, t.2.map rb⟩
def spF (p : List UInt8 × Rcs) : Fl := ⟨p.1, []⟩
def tlL : Option (Rcs × List Rcs) → List Fl
  | none => []
  | some t => [tlF t]
def preF (hd : Option (List UInt8)) : List Fl → List Fl
  | [] => []
  | f :: r => ⟨hdB hd ++ f.safe, f.gs⟩ :: r
def fls (hd : Option (List UInt8)) (sps : List (List UInt8 × Rcs)) (tl : Option (Rcs × List Rcs)) : List Fl := preF hd (sps.map spF ++ tlL tl)
def tlR : Option (Rcs × List Rcs) → Rcs
  | none => []
  | some t => t.1 ++ t.2.flatten
def tlS : Option (Rcs × List Rcs) → Nat
  | none => 0
  | some t => t.1.length
def recsOf (sps : List (List UInt8 × Rcs)) (tl : Option (Rcs × List Rcs)) : Rcs := (sps.map (·.2)).flatten ++ tlR tl
def safeOf (sps : List (List UInt8 × Rcs)) (tl : Option (Rcs × List Rcs)) : Nat := (sps.map (·.2)).flatten.length + tlS tl
structure JS (S : Dk) (base : List UInt8) (recs : Rcs) (last safe : Nat) (hd : Option (List UInt8)) (sps : List (List UInt8 × Rcs)) (tl : Option (Rcs × List Rcs)) : Prop where
  C : S.C = named 0 (fls hd sps tl)
  lst : last = sps.length
  bas : base = hd.getD []
  rcs : recs = recsOf sps tl
  saf : safe = safeOf sps tl
  sp : ∀ p ∈ sps, Rd false p.1 p.2 true
  hd0 : tl = none → sps = [] → hd = none
  hdx : ∀ x, hd = some x → x.length ≤ 65536
  ok : lenOk recs
  few : last ≤ 97
  on : S.on = true
  fit : S.size ≤ S.room
theorem fls_len (hd : Option (List UInt8)) (sps : List (List UInt8 × Rcs)) (tl : Option (Rcs × List Rcs)) : (fls hd sps tl).length = sps.length + (tlL tl).length := by
  unfold fls
  cases h : sps.map spF ++ tlL tl with
  | nil =>
    have := congrArg List.length h
    rw [List.length_append, List.length_map] at this
    exact this.symm
  | cons f r =>
    have := congrArg List.length h
    rw [List.length_append, List.length_map] at this
    exact this.symm
/-- The last file, and those ahead of it. -/
theorem fls_last (hd : Option (List UInt8)) (sps : List (List UInt8 × Rcs)) : ∃ A h, A.length = sps.length ∧ (∀ t, fls hd sps (some t) = A ++ [⟨h ++ rb t.1, t.2.map rb⟩]) ∧ ((sps = [] → hd = none) → fls hd sps none = A ∧ h = []) ∧ (∀ f ∈ A, f.gs = []) := by
  cases sps with
  | nil => exact ⟨[], hdB hd, rfl, fun t => rfl, fun h => ⟨rfl, by rw [h rfl]; rfl⟩, fun f hf => (List.not_mem_nil hf).elim⟩
  | cons p r =>
    refine ⟨⟨hdB hd ++ p.1, []⟩ :: r.map spF, [], by simp, fun t => rfl, fun _ => ⟨by simp [fls, preF, spF, tlL], rfl⟩, fun f hf => ?_⟩
    rcases List.mem_cons.1 hf with rfl | hf
    · rfl
    · obtain ⟨q, _, rfl⟩ := List.mem_map.1 hf
      rfl
section
variable {S : Dk} {base : List UInt8} {recs : Rcs} {last safe : Nat} {hd : Option (List UInt8)} {sps : List (List UInt8 × Rcs)} {tl : Option (Rcs × List Rcs)}
theorem ready_on {on : Bool} {s : ByteArray} (h : on = true) (hm : may s = true) : readyE on s = 0 := by unfold readyE; rw [h, hm]; rfl
theorem app_fits {s : ByteArray} {n : Nat} (h : S.on = true) (hm : may s = true) (hf : S.size ≤ S.room) : (appE S s n = 0 ↔ S.size + n ≤ S.room) ∧ (appE S s n = 0 ∨ appE S s n = 6) := by
  unfold appE
  rw [if_pos (ready_on h hm)]
  by_cases hn : S.room - S.size < n
  · rw [if_pos hn]; exact ⟨⟨fun h => absurd h (by decide), fun h => by omega⟩, .inr rfl⟩
  · rw [if_neg hn]; exact ⟨⟨fun _ => by omega, fun _ => rfl⟩, .inl rfl⟩
theorem app_is {s : ByteArray} {b : List UInt8} (h : appE S s b.length = 0) : S.app s b = { S with C := putW S.C s b } := by unfold Dk.app; rw [if_pos h]
theorem ask_is {s : ByteArray} (h : S.on = true) (hm : may s = true) : askE S s = if (getL S.C s).isSome then 0 else 4 := by unfold askE; rw [if_pos (ready_on h hm)]
theorem drp_is {s : ByteArray} (h : S.on = true) (hm : may s = true) : S.drp s = { S with C := del S.C s } := by
  unfold Dk.drp
  rw [ask_is h hm]
  cases hg : getL S.C s with
  | none => rw [del_none hg]; rfl
  | some f => rfl
theorem syn_is {s : ByteArray} (h : S.on = true) (hm : may s = true) : S.syn s = { S with C := upd S.C s Fl.sync } := by
  unfold Dk.syn
  rw [ask_is h hm]
  cases hg : getL S.C s with
  | none => rw [upd_none _ hg]; rfl
  | some f => rfl
theorem putW_sum (C : List (ByteArray × Fl)) (h1 : One C) (s : ByteArray) (b : List UInt8) : sumL fsz (putW C s b) = sumL fsz C + b.length := by
  unfold putW
  cases hg : getL C s with
  | some f =>
    have h2 := sumL_upd fsz h1 hg (·.write b)
    have h3 : fsz (f.write b) = fsz f + b.length := by unfold fsz; rw [write_all, List.length_append]
    have e : (some f).isSome = true := rfl
    rw [if_pos e]; omega
  | none =>
    have e : ¬ ((none : Option Fl).isSome = true) := by decide
    rw [if_neg e, sumL_app]
    have h3 : fsz ((⟨[], []⟩ : Fl).write b) = b.length := by unfold fsz; rw [write_nil]
    simp [sumL, h3]
theorem named_one : ∀ (i : Nat) (a : List Fl), i + a.length ≤ 100 → One (named i a)
  | _, [], _ => List.Pairwise.nil
  | i, f :: r, h => by
    have hl : i + 1 + r.length ≤ 100 := by simp at h; omega
    refine List.Pairwise.cons (fun x hx e => ?_) (named_one (i + 1) r hl)
    have h2 := getL_mem (named_one (i + 1) r hl) hx
    rw [← e, named_other (i + 1) r _ fun k h1 h3 e2 => by have := jname_inj (by omega) (by omega) e2; omega] at h2
    cases h2
def wrG (gs : List Rcs) (p : List UInt8) : List Rcs := if 64 < gs.length then gs.take 63 ++ [(gs.drop 63).flatten, [p]] else gs ++ [[p]]
theorem rb_one (p : List UInt8) : rb [p] = pt 1 p := by simp [rb]
theorem wrG_rb (gs : List Rcs) (p : List UInt8) : (wrG gs p).map rb = wr (gs.map rb) (pt 1 p) := by
  unfold wrG wr
  rw [List.length_map]
  split
  · rw [List.map_append, List.map_cons, List.map_cons, List.map_nil, rb_one, ← rb_flat, List.map_take, List.map_drop]
  · rw [List.map_append, List.map_cons, List.map_nil, rb_one]
theorem wrG_flat (gs : List Rcs) (p : List UInt8) : (wrG gs p).flatten = gs.flatten ++ [p] := by
  unfold wrG
  split
  · have e : gs.flatten = (gs.take 63).flatten ++ (gs.drop 63).flatten := by rw [← List.flatten_append, List.take_append_drop]
    rw [e]; simp
  · simp
theorem JS.len (h : JS S base recs last safe hd sps tl) : (fls hd sps tl).length ≤ 98 := by
  rw [fls_len]
  have := h.few
  have := h.lst
  cases tl <;> simp [tlL] <;> omega
theorem JS.one (h : JS S base recs last safe hd sps tl) : One S.C := by rw [h.C]; exact named_one 0 _ (by have := h.len; omega)
/-- One record more. -/
theorem JS.add (h : JS S base recs last safe hd sps tl) (p : List UInt8) (hp : p.length ≤ 16384) (hf : S.size + (4 + p.length) ≤ S.room) :
    appE S (jname last) (pt 1 p).length = 0 ∧ (∃ tl', JS (S.app (jname last) (pt 1 p)) base (recs ++ [p]) last safe hd sps tl') ∧ (S.app (jname last) (pt 1 p)).size = S.size + (4 + p.length) ∧ (S.app (jname last) (pt 1 p)).room = S.room ∧ (S.app (jname last) (pt 1 p)).lives = S.lives := by
  have hm := (jname_may last (by have := h.few; omega)).1
  have he : appE S (jname last) (pt 1 p).length = 0 := (app_fits h.on hm h.fit).1.2 (by rw [pt_len]; exact hf)
  have hsz : (S.app (jname last) (pt 1 p)).size = S.size + (4 + p.length) := by
    rw [app_is he]
    show sumL fsz (putW S.C _ _) = _
    rw [putW_sum _ h.one, pt_len]; rfl
  obtain ⟨A, hh, hA, hs, hn, _⟩ := fls_last hd sps
  have hAl : A.length = last := by rw [hA, h.lst]
  have hl : last < 100 := by have := h.few; omega
  refine ⟨he, ?_, hsz, by rw [app_is he], by rw [app_is he]⟩
  cases tl with
  | none =>
    obtain ⟨h1, h2⟩ := hn (h.hd0 rfl)
    refine ⟨some ([], [[p]]), ?_, h.lst, h.bas, ?_, h.saf.trans (by simp [safeOf, tlS]), h.sp, (fun e => by cases e), h.hdx, ?_, h.few, by rw [app_is he]; exact h.on, by rw [hsz]; rw [app_is he]; exact hf⟩
    · rw [app_is he, hs]
      show putW S.C _ _ = _
      have hg : getL S.C (jname last) = none := by rw [h.C, h1, ← hAl]; exact named_past A (by omega)
      unfold putW
      rw [hg, if_neg (by decide), h.C, h1, named_app, h2]
      show _ ++ [(jname last, _)] = _ ++ [(jname (0 + A.length), _)]
      rw [Nat.zero_add, hAl]
      simp [Fl.write, wr, rb_nil, rb_one]
    · rw [h.rcs]; simp [recsOf, tlR]
    · intro q hq
      rcases List.mem_append.1 hq with hq | hq
      · exact h.ok q hq
      · rw [List.mem_singleton] at hq; subst hq; exact hp
  | some t =>
    refine ⟨some (t.1, wrG t.2 p), ?_, h.lst, h.bas, ?_, h.saf, h.sp, (fun e => by cases e), h.hdx, ?_, h.few, by rw [app_is he]; exact h.on, by rw [hsz]; rw [app_is he]; exact hf⟩
    · rw [app_is he, hs]
      show putW S.C _ _ = _
      have hg : getL S.C (jname last) = some ⟨hh ++ rb t.1, t.2.map rb⟩ := by rw [h.C, hs, ← hAl]; exact named_at A _ (by omega)
      have e : (some (⟨hh ++ rb t.1, t.2.map rb⟩ : Fl)).isSome = true := rfl
      unfold putW
      rw [hg, if_pos e, h.C, hs, ← hAl, named_last A _ _ (by omega)]
      show named 0 (A ++ [⟨_, _⟩]) = _
      simp only [wrG_rb]
    · rw [h.rcs]; simp [recsOf, tlR, wrG_flat]
    · intro q hq
      rcases List.mem_append.1 hq with hq | hq
      · exact h.ok q hq
      · rw [List.mem_singleton] at hq; subst hq; exact hp
theorem JS.adds : ∀ (ps : Rcs) {S : Dk} {recs : Rcs} {tl : Option (Rcs × List Rcs)}, JS S base recs last safe hd sps tl → lenOk ps → S.size + (rb ps).length ≤ S.room →
    (wrL (jname last) S ps).2 = 0 ∧ (∃ tl', JS (wrL (jname last) S ps).1 base (recs ++ ps) last safe hd sps tl') ∧ (wrL (jname last) S ps).1.size = S.size + (rb ps).length ∧ (wrL (jname last) S ps).1.room = S.room ∧ (wrL (jname last) S ps).1.lives = S.lives
  | [], S, recs, tl, h, _, _ => ⟨rfl, ⟨tl, by rw [List.append_nil]; exact h⟩, by simp [wrL, rb], rfl, rfl⟩
  | p :: r, S, recs, tl, h, hp, hf => by
    have hl : (rb (p :: r)).length = 4 + p.length + (rb r).length := by rw [rb_cons, List.length_append, pt_len]
    obtain ⟨h1, ⟨tl1, h2⟩, h3, h4, h5⟩ := h.add p (hp p List.mem_cons_self) (by omega)
    obtain ⟨i1, ⟨tl2, i2⟩, i3, i4, i5⟩ := JS.adds r h2 (fun q hq => hp q (List.mem_cons_of_mem _ hq)) (by rw [h3, h4]; omega)
    have e : wrL (jname last) S (p :: r) = wrL (jname last) (S.app (jname last) (pt 1 p)) r := by
      rw [wrL, if_pos h1]
    rw [e]
    exact ⟨i1, ⟨tl2, by rw [List.append_assoc] at i2; exact i2⟩, by rw [i3, h3, hl]; omega, by rw [i4, h4], by rw [i5, h5]⟩
/-- The trial. -/
theorem trial : ∀ (ps : Rcs) (X : List (ByteArray × Fl)) {S : Dk}, S.on = true → getL S.C newB = none → One S.C → (X = [] ∨ ∃ f, X = [(newB, f)]) → sumL fsz (S.C ++ X) ≤ S.room →
    ∃ X', (X' = [] ∨ ∃ f, X' = [(newB, f)]) ∧ (wrL newB { S with C := S.C ++ X } ps).1 = { S with C := S.C ++ X' } ∧ ((wrL newB { S with C := S.C ++ X } ps).2 = 0 ∨ (wrL newB { S with C := S.C ++ X } ps).2 = 6) ∧ ((wrL newB { S with C := S.C ++ X } ps).2 = 0 ↔ sumL fsz (S.C ++ X) + (rb ps).length ≤ S.room)
  | [], X, S, _, _, _, hX, hf => ⟨X, hX, rfl, .inl rfl, fun _ => by simpa [rb] using hf, fun _ => rfl⟩
  | p :: r, X, S, ho, hg, h1, hX, hf => by
    have hl : (rb (p :: r)).length = (pt 1 p).length + (rb r).length := by rw [rb_cons, List.length_append]
    have ha := app_fits (S := { S with C := S.C ++ X }) (n := (pt 1 p).length) ho new_may.1 hf
    by_cases he : appE { S with C := S.C ++ X } newB (pt 1 p).length = 0
    · have hone : One (S.C ++ X) := by
        rcases hX with rfl | ⟨f, rfl⟩
        · simpa using h1
        · exact h1.snoc hg f
      have hfit := ha.1.1 he
      obtain ⟨X1, hX1, hC1⟩ : ∃ X1, (X1 = [] ∨ ∃ f, X1 = [(newB, f)]) ∧ putW (S.C ++ X) newB (pt 1 p) = S.C ++ X1 := by
        rcases hX with rfl | ⟨f, rfl⟩
        · refine ⟨[(newB, (⟨[], []⟩ : Fl).write (pt 1 p))], .inr ⟨_, rfl⟩, ?_⟩
          rw [List.append_nil]; unfold putW; rw [hg, if_neg (by decide)]
        · refine ⟨[(newB, f.write (pt 1 p))], .inr ⟨_, rfl⟩, ?_⟩
          have hg2 : getL (S.C ++ [(newB, f)]) newB = some f := by rw [getL_app, hg]; simp [getL_cons]
          have e : (some f).isSome = true := rfl
          unfold putW
          rw [hg2, if_pos e, upd_app, upd_none _ hg, upd_one]
      have happ : ({ S with C := S.C ++ X } : Dk).app newB (pt 1 p) = { S with C := S.C ++ X1 } := by
        rw [app_is he]; show ({ S with C := putW (S.C ++ X) newB (pt 1 p) } : Dk) = _; rw [hC1]
      have hs1 : sumL fsz (S.C ++ X1) = sumL fsz (S.C ++ X) + (pt 1 p).length := by rw [← hC1, putW_sum _ hone]
      have hfit' : sumL fsz (S.C ++ X) + (pt 1 p).length ≤ S.room := hfit
      obtain ⟨X2, i1, i2, i3, i4⟩ := trial r X1 ho hg h1 hX1 (by rw [hs1]; exact hfit')
      have e : wrL newB { S with C := S.C ++ X } (p :: r) = wrL newB { S with C := S.C ++ X1 } r := by rw [wrL, if_pos he, happ]
      rw [e]
      exact ⟨X2, i1, i2, i3, by rw [i4, hs1, hl]; omega⟩
    · have e : wrL newB { S with C := S.C ++ X } (p :: r) = ({ S with C := S.C ++ X }, appE { S with C := S.C ++ X } newB (pt 1 p).length) := by rw [wrL, if_neg he]
      rw [e]
      refine ⟨X, hX, rfl, ha.2, fun h => absurd h he, fun h => ?_⟩
      exact ha.1.2 (by show sumL fsz (S.C ++ X) + _ ≤ S.room; omega)
theorem del_new {X : List (ByteArray × Fl)} (hX : X = [] ∨ ∃ f, X = [(newB, f)]) {C : List (ByteArray × Fl)} (hg : getL C newB = none) : del (C ++ X) newB = C := by
  rw [del_app, del_none hg]
  rcases hX with rfl | ⟨f, rfl⟩
  · simp [del]
  · rw [del_one, List.append_nil]
end
end Go.Proofs.YtaklbgikoeedbaaDoor
namespace Go.Proofs.YtaklbgikoeedbaaDoor

section
variable {S : Dk} {base : List UInt8} {recs : Rcs} {last safe : Nat} {hd : Option (List UInt8)} {sps : List (List UInt8 × Rcs)} {tl : Option (Rcs × List Rcs)} {J : Jv}
/-- A journal that goes on. -/
structure JI (S : Dk) (J : Jv) (safe : Nat) : Prop where
  st : ∃ hd sps tl, JS S J.base J.recs J.last safe hd sps tl
  full : J.full = false
  lives : S.lives = J.lives
theorem JI.done (h : JI S J safe) : doneB S J = false := by
  obtain ⟨hd, sps, tl, hs⟩ := h.st
  unfold doneB
  rw [h.full, hs.on, h.lives]; simp
theorem JI.ok (h : JI S J safe) : lenOk J.recs := by obtain ⟨hd, sps, tl, hs⟩ := h.st; exact hs.ok
theorem JI.few (h : JI S J safe) : J.last ≤ 97 := by obtain ⟨hd, sps, tl, hs⟩ := h.st; exact hs.few
theorem JI.on (h : JI S J safe) : S.on = true := by obtain ⟨hd, sps, tl, hs⟩ := h.st; exact hs.on
theorem longR_ok {ps : Rcs} (h : lenOk ps) : longR ps = false := List.any_eq_false.2 fun p hp => by have := h p hp; simp; omega
theorem JS.saf2 {safe2 : Nat} (h : JS S base recs last safe hd sps tl) (h2 : safe2 = safeOf sps tl) : JS S base recs last safe2 hd sps tl := ⟨h.C, h.lst, h.bas, h.rcs, h2, h.sp, h.hd0, h.hdx, h.ok, h.few, h.on, h.fit⟩
theorem JS.tried (h : JS S base recs last safe hd sps tl) (ps : Rcs) : (wrL newB S ps).1.drp newB = S ∧ ((wrL newB S ps).2 = 0 ∨ (wrL newB S ps).2 = 6) ∧ ((wrL newB S ps).2 = 0 ↔ S.size + (rb ps).length ≤ S.room) := by
  have hg : getL S.C newB = none := by rw [h.C]; exact named_new _ (by have := h.len; omega)
  have hS : S = { S with C := S.C ++ [] } := by rw [List.append_nil]
  obtain ⟨X, hX, h1, h2, h3⟩ := trial (S := S) ps [] h.on hg h.one (.inl rfl) (by rw [List.append_nil]; exact h.fit)
  rw [← hS] at h1 h2 h3
  refine ⟨?_, h2, by rw [h3, List.append_nil]; rfl⟩
  rw [h1, drp_is (S := { S with C := S.C ++ X }) h.on new_may.1]
  show ({ S with C := del (S.C ++ X) newB } : Dk) = S
  rw [del_new hX hg]
/-- Add, where there is room. -/
theorem JI.add (h : JI S J safe) (ps : Rcs) (hp : lenOk ps) (hf : S.size + (rb ps).length ≤ S.room) :
    addE S J ps = 0 ∧ addJ S J ps = { J with recs := J.recs ++ ps } ∧ JI (addS S J ps) { J with recs := J.recs ++ ps } safe ∧ (addS S J ps).size = S.size + (rb ps).length ∧ (addS S J ps).room = S.room := by
  have hd := h.done
  obtain ⟨hd', sps, tl, hs⟩ := h.st
  obtain ⟨h1, h2, h3⟩ := hs.tried ps
  have h4 := h3.2 hf
  obtain ⟨h5, ⟨tl', h6⟩, h7, h8, h9⟩ := JS.adds ps hs hp hf
  have hl := longR_ok hp
  have eS : addS S J ps = (wrL (jname J.last) S ps).1 := by
    unfold addS
    rw [hl, hd, h4, h1]; rfl
  refine ⟨?_, ?_, ?_, by rw [eS, h7], by rw [eS, h8]⟩
  · unfold addE; rw [hl, hd, h4]; rfl
  · unfold addJ; rw [hl, hd, h4]; rfl
  · rw [eS]; exact ⟨⟨hd', sps, tl', h6⟩, h.full, by rw [h9]; exact h.lives⟩
/-- Add, with room or without. -/
theorem JI.addAny (h : JI S J safe) (ps : Rcs) (hp : lenOk ps) :
    addE S J ps = 0 ∧ S.size + (rb ps).length ≤ S.room ∨ addE S J ps = 6 ∧ addS S J ps = S ∧ addJ S J ps = { J with full := true } := by
  have hd := h.done
  obtain ⟨hd', sps, tl, hs⟩ := h.st
  obtain ⟨h1, h2, h3⟩ := hs.tried ps
  have hl := longR_ok hp
  rcases h2 with h2 | h2
  · exact .inl ⟨by unfold addE; rw [hl, hd, h2]; rfl, h3.1 h2⟩
  · refine .inr ⟨by unfold addE; rw [hl, hd, h2]; rfl, ?_, ?_⟩
    · unfold addS; rw [hl, hd, h2, h1]; rfl
    · unfold addJ; rw [hl, hd, h2]; rfl
theorem sync_sum (C : List (ByteArray × Fl)) (s : ByteArray) : sumL fsz (upd C s Fl.sync) = sumL fsz C := by
  unfold sumL upd
  rw [List.map_map]
  congr 1
  refine List.map_congr_left fun x _ => ?_
  show fsz (if x.1 = s then (x.1, x.2.sync) else x).2 = _
  split
  · show fsz x.2.sync = _
    unfold fsz; rw [sync_all]
  · rfl
/-- Sync. -/
theorem JI.sync (h : JI S J safe) : JI (S.syn (jname J.last)) J J.recs.length ∧ (S.syn (jname J.last)).size = S.size ∧ (S.syn (jname J.last)).room = S.room := by
  obtain ⟨hd, sps, tl, hs⟩ := h.st
  have hl : J.last < 100 := by have := hs.few; omega
  have hm := (jname_may J.last hl).1
  have eS := syn_is (s := jname J.last) hs.on hm
  obtain ⟨A, hh, hA, hA2, hn, _⟩ := fls_last hd sps
  have hAl : A.length = J.last := by rw [hA, hs.lst]
  have hsz : (S.syn (jname J.last)).size = S.size := by rw [eS]; exact sync_sum _ _
  refine ⟨⟨?_, h.full, by rw [eS]; exact h.lives⟩, hsz, by rw [eS]⟩
  cases tl with
  | none =>
    obtain ⟨h1, h2⟩ := hn (hs.hd0 rfl)
    have hg : getL S.C (jname J.last) = none := by rw [hs.C, h1, ← hAl]; exact named_past A (by omega)
    refine ⟨hd, sps, none, ?_⟩
    rw [eS, upd_none _ hg]
    exact hs.saf2 (by rw [hs.rcs]; simp [recsOf, safeOf, tlR, tlS])
  | some t =>
    refine ⟨hd, sps, some (t.1 ++ t.2.flatten, []), ?_, hs.lst, hs.bas, ?_, ?_, hs.sp, (fun e => by cases e), hs.hdx, hs.ok, hs.few, by rw [eS]; exact hs.on, by rw [hsz, eS]; exact hs.fit⟩
    · rw [eS, hA2]
      show upd S.C _ _ = _
      rw [hs.C, hA2, ← hAl, named_last A _ _ (by omega)]
      show named 0 (A ++ [⟨_, _⟩]) = _
      simp [Fl.all, rb_app, rb_flat]
    · rw [hs.rcs]; simp [recsOf, tlR]
    · rw [hs.rcs]; simp [recsOf, tlR, safeOf, tlS]
theorem drops_is : ∀ (k : Nat) (S : Dk), k < 100 → S.on = true → drops k S = { S with C := S.C.filter fun x => (List.range k).all fun i => decide (¬ x.1 = jname (i + 1)) }
  | 0, S, _, _ => by
    have e : (S.C.filter fun x => (List.range 0).all fun i => decide (¬ x.1 = jname (i + 1))) = S.C := List.filter_eq_self.2 fun x _ => rfl
    show S = { S with C := S.C.filter fun x => (List.range 0).all fun i => decide (¬ x.1 = jname (i + 1)) }
    rw [e]
  | k + 1, S, hk, ho => by
    have hm := (jname_may (k + 1) hk).1
    rw [drops, drops_is k _ (by omega) (by rw [drp_is ho hm]; exact ho), drp_is ho hm]
    show ({ S with C := List.filter _ (del S.C (jname (k + 1))) } : Dk) = _
    congr 1
    unfold del
    rw [List.filter_filter]
    refine List.filter_congr fun x _ => ?_
    rw [List.range_succ, List.all_append]
    simp
theorem named_gone : ∀ (i : Nat) (a : List Fl) (k : Nat), 0 < i → i + a.length ≤ k + 1 → (named i a).filter (fun x => (List.range k).all fun i => decide (¬ x.1 = jname (i + 1))) = []
  | _, [], _, _, _ => rfl
  | i, f :: r, k, h0, hk => by
    have ih := named_gone (i + 1) r k (by omega) (by simp at hk; omega)
    have hf : ((List.range k).all fun m => decide (¬ jname i = jname (m + 1))) = false := by
      rw [List.all_eq_false]
      refine ⟨i - 1, by simp at hk ⊢; omega, ?_⟩
      have e : i - 1 + 1 = i := by omega
      rw [e]; simp
    rw [named, List.filter_cons_of_neg (by rw [hf]; decide), ih]
/-- Keep. -/
theorem JI.keep (h : JI S J safe) (b : List UInt8) (hb : b.length ≤ 65536) (hf : S.size + (4 + b.length) ≤ S.room) :
    keepE S J b = 0 ∧ keepJ S J b = { J with base := b, recs := [], last := 0 } ∧ JI (keepS S J b) { J with base := b, recs := [], last := 0 } 0 ∧ (keepS S J b).size = 4 + b.length ∧ (keepS S J b).room = S.room := by
  have hd := h.done
  obtain ⟨hd', sps, tl, hs⟩ := h.st
  have hg : getL S.C newB = none := by rw [hs.C]; exact named_new _ (by have := hs.len; omega)
  have he : appE S newB (pt 2 b).length = 0 := (app_fits hs.on new_may.1 hs.fit).1.2 (by rw [pt_len]; exact hf)
  have hnb : ¬ 65536 < b.length := by omega
  have hm0 := (jname_may 0 (by decide)).1
  have hn0 := (jname_may 0 (by decide)).2.2
  have hl : J.last < 100 := by have := hs.few; omega
  have eS : keepS S J b = { S with C := [(jname 0, ⟨pt 2 b, []⟩)] } := by
    unfold keepS keepT
    rw [if_neg hnb, hd, if_neg (by decide), if_pos he]
    have e1 : S.app newB (pt 2 b) = { S with C := S.C ++ [(newB, ⟨[], [pt 2 b]⟩)] } := by
      rw [app_is he]
      unfold putW
      rw [hg, if_neg (by decide)]; rfl
    have e2 : (S.app newB (pt 2 b)).syn newB = { S with C := S.C ++ [(newB, ⟨pt 2 b, []⟩)] } := by
      rw [e1, syn_is (S := { S with C := S.C ++ [(newB, ⟨[], [pt 2 b]⟩)] }) hs.on new_may.1]
      show ({ S with C := upd (S.C ++ [(newB, ⟨[], [pt 2 b]⟩)]) newB Fl.sync } : Dk) = _
      rw [upd_app, upd_none _ hg, upd_one]
      simp [Fl.sync, Fl.all]
    have hg2 : getL (S.C ++ [(newB, (⟨pt 2 b, []⟩ : Fl))]) newB = some ⟨pt 2 b, []⟩ := by rw [getL_app, hg]; simp [getL_cons]
    have e3 : ((S.app newB (pt 2 b)).syn newB).ren newB (jname 0) = { S with C := del S.C (jname 0) ++ [(jname 0, ⟨pt 2 b, []⟩)] } := by
      rw [e2]
      have hr : renE { S with C := S.C ++ [(newB, (⟨pt 2 b, []⟩ : Fl))] } newB (jname 0) = 0 := by
        unfold renE
        rw [if_pos (ready_on hs.on hm0), ask_is (S := { S with C := S.C ++ [(newB, (⟨pt 2 b, []⟩ : Fl))] }) hs.on new_may.1, hg2]; rfl
      unfold Dk.ren
      rw [if_pos hr, if_neg (fun e => hn0 e.symm)]
      show (match getL (S.C ++ [(newB, (⟨pt 2 b, []⟩ : Fl))]) newB with | some f => ({ S with C := del (del (S.C ++ [(newB, (⟨pt 2 b, []⟩ : Fl))]) newB) (jname 0) ++ [(jname 0, f)] } : Dk) | none => _) = _
      rw [hg2, del_app, del_none hg, del_one, List.append_nil]
    rw [e3, drops_is J.last { S with C := del S.C (jname 0) ++ [(jname 0, ⟨pt 2 b, []⟩)] } hl hs.on]
    show ({ S with C := List.filter _ (del S.C (jname 0) ++ [(jname 0, ⟨pt 2 b, []⟩)]) } : Dk) = _
    congr 1
    rw [List.filter_append]
    have hlen := hs.len
    have hll := fls_len hd' sps tl
    have htl : (tlL tl).length ≤ 1 := by cases tl <;> simp [tlL]
    have ea : List.filter (fun x => (List.range J.last).all fun i => decide (¬ x.1 = jname (i + 1))) (del S.C (jname 0)) = [] := by
      rw [hs.C]
      cases hfl : fls hd' sps tl with
      | nil => rfl
      | cons f r =>
        have hd0 : del (named 0 (f :: r)) (jname 0) = named 1 r := by
          show del ((jname 0, f) :: named 1 r) (jname 0) = _
          have e : del ((jname 0, f) :: named 1 r) (jname 0) = del (named 1 r) (jname 0) := by simp [del]
          rw [e, del_none (named_other 1 r _ fun k h1 h2 e => by
            rw [hfl] at hlen
            simp at hlen
            have := jname_inj (by omega) (by decide) e; omega)]
        rw [hd0]
        refine named_gone 1 r _ (by decide) ?_
        rw [hfl] at hll
        simp at hll
        have := hs.lst
        omega
    have eb : List.filter (fun x => (List.range J.last).all fun i => decide (¬ x.1 = jname (i + 1))) [(jname 0, (⟨pt 2 b, []⟩ : Fl))] = [(jname 0, ⟨pt 2 b, []⟩)] := by
      rw [List.filter_cons_of_pos]
      · rfl
      · rw [List.all_eq_true]
        intro i hi
        have hi2 : i < J.last := by simpa using hi
        have : ¬ jname 0 = jname (i + 1) := fun e => by have := jname_inj (by decide) (by omega) e; omega
        simp [this]
    rw [ea, eb, List.nil_append]
  have hsz : (keepS S J b).size = 4 + b.length := by rw [eS]; simp [Dk.size, sumL, fsz, Fl.all, pt_len]
  refine ⟨?_, ?_, ⟨⟨some b, [], some ([], []), ?_, rfl, rfl, rfl, rfl, (fun p hp => (List.not_mem_nil hp).elim), (fun e => by cases e), fun x hx => by injection hx with hx; subst hx; exact hb, (fun p hp => (List.not_mem_nil hp).elim), Nat.zero_le _, by rw [eS]; exact hs.on, by rw [hsz, eS]; show 4 + b.length ≤ S.room; omega⟩, h.full, by rw [eS]; exact h.lives⟩, hsz, by rw [eS]⟩
  · unfold keepE; rw [if_neg hnb, hd, if_neg (by decide), he]
  · unfold keepJ; rw [if_neg hnb, hd, if_neg (by decide), if_pos he]
  · rw [eS]; simp [fls, preF, tlL, tlF, named, hdB, rb_nil]
def preB (hd : Option (List UInt8)) : List (List UInt8) → List (List UInt8)
  | [] => []
  | b :: r => (hdB hd ++ b) :: r
def onB (fs : List Fl) : List (List UInt8) := fs.map Fl.all
theorem sumL_onL_sync (C : List (ByteArray × Fl)) : sumL fsz C = sumL fsz (onL Fl.sync C) := by
  rw [sumL_onL]
  unfold sumL
  congr 1
  refine List.map_congr_left fun x _ => ?_
  show fsz x.2 = fsz x.2.sync
  unfold fsz; rw [sync_all]
/-- What Open finds. -/
structure OI (S : Dk) (base : List UInt8) (rs : Rcs) (k : Nat) (hd : Option (List UInt8)) (bs : List (List UInt8)) (fs : List Fl) : Prop where
  C : S.C = named 0 fs
  all : onB fs = preB hd bs
  ld : Ld bs rs k
  bas : base = hd.getD []
  hd0 : bs = [] → hd = none
  hdx : ∀ x, hd = some x → x.length ≤ 65536
  ok : lenOk rs
  few : k ≤ 97
  on : S.on = true
  fit : S.size ≤ S.room
  few2 : S.room ≤ 1048576
theorem preB_len (hd : Option (List UInt8)) (bs : List (List UInt8)) : (preB hd bs).length = bs.length := by cases bs <;> rfl
theorem preB_at {hd : Option (List UInt8)} {bs : List (List UInt8)} {i : Nat} {b : List UInt8} (h : bs[i]? = some b) : (preB hd bs)[i]? = some (hdAt hd i ++ b) := by
  cases bs with
  | nil => simp at h
  | cons c r =>
    cases i with
    | zero => simp at h; subst h; rfl
    | succ i => simpa [preB, hdAt] using h
theorem preB_flat {hd : Option (List UInt8)} {bs : List (List UInt8)} (h : bs = [] → hd = none) : (preB hd bs).flatten.length = (hdB hd).length + bs.flatten.length := by
  cases bs with
  | nil => rw [h rfl]; rfl
  | cons c r => simp [preB]
theorem ld_len {bs : List (List UInt8)} {rs : Rcs} {k : Nat} (h : Ld bs rs k) : k ≤ bs.length ∧ bs.length ≤ k + 1 := by
  induction h with
  | none => exact ⟨Nat.le_refl _, by simp⟩
  | last b rs _ => simp
  | more b rs r rs' k _ _ ih => simp; omega
theorem onB_sum (fs : List Fl) : (fs.map fsz).sum = (onB fs).flatten.length := by
  unfold onB fsz
  rw [List.length_flatten, List.map_map]; rfl
theorem OI.size {bs : List (List UInt8)} {rs : Rcs} {k : Nat} {fs : List Fl} (h : OI S base rs k hd bs fs) : S.size = (hdB hd).length + bs.flatten.length := by
  show sumL fsz S.C = _
  rw [h.C, named_sum, onB_sum, h.all, preB_flat h.hd0]
theorem OI.len {bs : List (List UInt8)} {rs : Rcs} {k : Nat} {fs : List Fl} (h : OI S base rs k hd bs fs) : fs.length = bs.length := by
  have h2 := congrArg List.length h.all
  rw [preB_len] at h2
  simpa [onB] using h2
theorem OI.ldIs {bs : List (List UInt8)} {rs : Rcs} {k : Nat} {fs : List Fl} (h : OI S base rs k hd bs fs) : LdIs S hd bs := by
  have hl := ld_len h.ld
  have hk := h.few
  have hlen := h.len
  refine ⟨fun i b hi => ?_, ?_, ?_, fun x hx => ⟨h.hdx x hx, fun e => by rw [h.hd0 e] at hx; cases hx⟩, by omega, ?_⟩
  · have hi2 : i < bs.length := (List.getElem?_eq_some_iff.1 hi).1
    have hm := (jname_may i (by omega)).1
    have hg : getL S.C (jname i) = fs[i]? := by rw [h.C, named_get 0 fs i (by omega) (by omega)]; simp
    have hfi : fs[i]? = some fs[i] := List.getElem?_eq_getElem (by omega)
    have ha := preB_at (hd := hd) hi
    rw [← h.all] at ha
    unfold onB at ha
    rw [List.getElem?_map, hfi] at ha
    injection ha with ha
    have hask : askE S (jname i) = 0 := by rw [ask_is h.on hm, hg, hfi]; rfl
    refine ⟨hask, ?_⟩
    unfold readB
    rw [if_pos hask, hg, hfi]
    exact ha
  · have hm := (jname_may bs.length (by omega)).1
    have hg : getL S.C (jname bs.length) = none := by rw [h.C, ← hlen]; exact named_past fs (by omega)
    rw [ask_is h.on hm, hg]; decide
  · unfold Dk.siz
    rw [h.on, if_pos rfl, h.size]
  · rw [← h.size]; exact Nat.le_trans h.fit h.few2
/-- What was read, as a state. -/
theorem ld_split {bs : List (List UInt8)} {rs : Rcs} {k : Nat} (h : Ld bs rs k) : ∃ sps tl, k = sps.length ∧ rs = recsOf sps tl ∧ safeOf sps tl = rs.length ∧ (∀ p ∈ sps, Rd false p.1 p.2 true) ∧ bs.map (fun b => (⟨b, []⟩ : Fl)) = sps.map spF ++ tlL tl ∧ (tl = none → sps = [] → bs = []) := by
  induction h with
  | none => exact ⟨[], none, rfl, rfl, rfl, (fun p hp => (List.not_mem_nil hp).elim), rfl, fun _ _ => rfl⟩
  | last b rs h =>
    have hc := ((rd_clean h).1 rfl).2
    exact ⟨[], some (rs, []), rfl, by simp [recsOf, tlR], by simp [safeOf, tlS], (fun p hp => (List.not_mem_nil hp).elim), by rw [hc]; rfl, fun e => by cases e⟩
  | more b rs r rs' k h _ ih =>
    obtain ⟨sps, tl, h1, h2, h3, h4, h5, h6⟩ := ih
    refine ⟨(b, rs) :: sps, tl, by simp [h1], by rw [h2]; simp [recsOf], ?_, fun p hp => ?_, by rw [List.map_cons, h5]; rfl, fun _ e => by cases e⟩
    · rw [h2] at h3
      simp only [safeOf, recsOf, List.map_cons, List.flatten_cons, List.length_append] at h3 ⊢
      rw [h2]
      simp only [recsOf, List.length_append]
      omega
    · rcases List.mem_cons.1 hp with rfl | hp
      · exact h
      · exact h4 p hp
theorem synN_is (fs : List Fl) (hl : fs.length < 100) : ∀ (i : Nat) (S : Dk), i ≤ 99 → S.on = true → S.C = named 0 fs → synN i S = { S with C := named 0 ((fs.take i).map Fl.sync ++ fs.drop i) }
  | 0, S, _, _, hC => by
    show S = { S with C := named 0 (_ ++ fs.drop 0) }
    simp [← hC]
  | i + 1, S, hi, ho, hC => by
    have ih := synN_is fs hl i S (by omega) ho hC
    have hm := (jname_may i (by omega)).1
    rw [synN, ih, syn_is (S := { S with C := named 0 ((fs.take i).map Fl.sync ++ fs.drop i) }) ho hm]
    show ({ S with C := upd (named 0 _) (jname i) Fl.sync } : Dk) = _
    congr 1
    by_cases hlt : i < fs.length
    · have e1 : fs.drop i = fs[i] :: fs.drop (i + 1) := List.drop_eq_getElem_cons hlt
      have e2 : fs.take (i + 1) = fs.take i ++ [fs[i]] := by rw [List.take_add_one, List.getElem?_eq_getElem hlt]; rfl
      have hA : ((fs.take i).map Fl.sync).length = i := by rw [List.length_map, List.length_take]; omega
      rw [e1, e2, List.map_append, List.append_assoc]
      generalize (fs.take i).map Fl.sync = A at hA
      subst hA
      rw [named_app, named_app, upd_app, upd_none _ (named_other 0 A _ fun k _ h2 e => by have := jname_inj (by omega) (by omega) e; omega), Nat.zero_add]
      show _ ++ upd ((jname A.length, fs[A.length]) :: named (A.length + 1) _) (jname A.length) Fl.sync = _ ++ ((jname A.length, fs[A.length].sync) :: named (A.length + 1) _)
      have e3 : upd ((jname A.length, fs[A.length]) :: named (A.length + 1) (fs.drop (A.length + 1))) (jname A.length) Fl.sync = (jname A.length, fs[A.length].sync) :: upd (named (A.length + 1) (fs.drop (A.length + 1))) (jname A.length) Fl.sync := by simp [upd]
      rw [e3, upd_none _ (named_other (A.length + 1) _ _ fun k h1 h2 e => by
        rw [List.length_drop] at h2
        have := jname_inj (by omega) (by omega) e; omega)]
      simp
    · rw [List.take_of_length_le (by omega), List.take_of_length_le (by omega), List.drop_of_length_le (by omega), List.drop_of_length_le (by omega), List.append_nil]
      exact upd_none _ (named_other 0 _ _ fun k _ h2 e => by
        rw [List.length_map] at h2
        have := jname_inj (by omega) (by omega) e; omega)
theorem preB_sync {hd : Option (List UInt8)} {bs : List (List UInt8)} {fs : List Fl} (h : onB fs = preB hd bs) : fs.map Fl.sync = preF hd (bs.map fun b => (⟨b, []⟩ : Fl)) := by
  have e : fs.map Fl.sync = (onB fs).map fun b => (⟨b, []⟩ : Fl) := by unfold onB; rw [List.map_map]; rfl
  rw [e, h]
  cases bs with
  | nil => rfl
  | cons c r => rfl
/-- Open. -/
theorem OI.opened {bs : List (List UInt8)} {rs : Rcs} {k : Nat} {fs : List Fl} (h : OI S base rs k hd bs fs) : JI (synN (k + 1) S) ⟨S.lives, false, base, rs, k⟩ rs.length ∧ (synN (k + 1) S).size = S.size ∧ (synN (k + 1) S).room = S.room := by
  have hl := ld_len h.ld
  have hk := h.few
  have hlen := h.len
  obtain ⟨sps, tl, h1, h2, h3, h4, h5, h6⟩ := ld_split h.ld
  have eS := synN_is fs (by omega) (k + 1) S (by omega) h.on h.C
  rw [List.take_of_length_le (by omega), List.drop_of_length_le (by omega), List.append_nil, preB_sync h.all, h5] at eS
  have hsz : (synN (k + 1) S).size = S.size := by
    rw [eS]
    show sumL fsz (named 0 _) = _
    rw [← h5, ← preB_sync h.all, ← named_on, ← h.C, ← sumL_onL_sync]
    rfl
  exact ⟨⟨⟨hd, sps, tl, by rw [eS]; rfl, h1, h.bas, h2, h3.symm, h4, fun a b => h.hd0 (h6 a b), h.hdx, h.ok, hk, by rw [eS]; exact h.on, by rw [hsz, eS]; exact h.fit⟩, rfl, by rw [eS]⟩, hsz, by rw [eS]⟩
end
end Go.Proofs.YtaklbgikoeedbaaDoor
namespace Go.Proofs.YtaklbgikoeedbaaDoor

section
variable {S : Dk} {base : List UInt8} {recs : Rcs} {last safe : Nat} {hd : Option (List UInt8)} {sps : List (List UInt8 × Rcs)} {tl : Option (Rcs × List Rcs)} {J : Jv}
theorem pre_fall (keep tn : Nat) (hd : Option (List UInt8)) (L : List Fl) : onB ((preF hd L).map (Fl.fall keep tn)) = preB hd (onB (L.map (Fl.fall keep tn))) := by
  cases L with
  | nil => rfl
  | cons f r =>
    show (Fl.fall keep tn ⟨hdB hd ++ f.safe, f.gs⟩).all :: _ = (hdB hd ++ (Fl.fall keep tn f).all) :: _
    rw [fall_all, fall_all, fallen_fal, fallen_fal, List.append_assoc]
theorem pre_all (hd : Option (List UInt8)) (L : List Fl) : onB (preF hd L) = preB hd (onB L) := by
  cases L with
  | nil => rfl
  | cons f r =>
    show ((hdB hd ++ f.safe) ++ f.gs.flatten) :: _ = _
    rw [List.append_assoc]; rfl
theorem sps_fall (keep tn : Nat) (sps : List (List UInt8 × Rcs)) : onB ((sps.map spF).map (Fl.fall keep tn)) = sps.map (·.1) := by
  unfold onB
  rw [List.map_map, List.map_map]
  refine List.map_congr_left fun p _ => ?_
  show (Fl.fall keep tn (spF p)).all = p.1
  rw [fall_all, fallen_none _ _ _ rfl]
  simp [spF, Fl.all]
theorem sps_all (sps : List (List UInt8 × Rcs)) : onB (sps.map spF) = sps.map (·.1) := by
  unfold onB
  rw [List.map_map]
  refine List.map_congr_left fun p _ => ?_
  simp [spF, Fl.all]
theorem ld_sps : ∀ (sps : List (List UInt8 × Rcs)) {tb : List (List UInt8)} {tr : Rcs} {k : Nat}, (∀ p ∈ sps, Rd false p.1 p.2 true) → Ld tb tr k → Ld (sps.map (·.1) ++ tb) ((sps.map (·.2)).flatten ++ tr) (sps.length + k)
  | [], tb, tr, k, _, h => by simpa using h
  | p :: r, tb, tr, k, hp, h => by
    have ih := ld_sps r (fun q hq => hp q (List.mem_cons_of_mem _ hq)) h
    have e : (p :: r).length + k = r.length + k + 1 := by simp; omega
    rw [e, List.map_cons, List.map_cons, List.flatten_cons, List.append_assoc]
    exact Ld.more p.1 p.2 _ _ _ (hp p List.mem_cons_self) ih
theorem ld_one {b : List UInt8} {rs : Rcs} {sp : Bool} (h : Rd false b rs sp) : ∃ k, Ld [b] rs k ∧ k ≤ 1 := by
  cases sp with
  | false => exact ⟨0, Ld.last b rs h, by decide⟩
  | true =>
    have := Ld.more b rs [] [] 0 h Ld.none
    rw [List.append_nil] at this
    exact ⟨1, this, Nat.le_refl _⟩
theorem fall_sum (keep tn : Nat) : ∀ C : List (ByteArray × Fl), sumL fsz (onL (Fl.fall keep tn) C) ≤ sumL fsz C
  | [] => Nat.le_refl _
  | x :: r => by
    have ih := fall_sum keep tn r
    have h1 : fsz (x.2.fall keep tn) ≤ fsz x.2 := by unfold fsz; rw [fall_all]; exact fallen_le keep tn x.2
    simp only [sumL, onL, List.map_cons, List.sum_cons] at ih ⊢
    omega
theorem anyK_none (keep : Nat) (h : ∀ i, stays keep i = false) : ∀ (k : Nat) (l : List (List UInt8)), anyK keep k l = false
  | _, [] => rfl
  | k, g :: r => by rw [anyK, h k, anyK_none keep h (k + 1) r]; rfl
theorem OI.of {fs : List Fl} {tb : List (List UInt8)} {tr : Rcs} {k : Nat} {S' : Dk} (hs : JS S base recs last safe hd sps tl) (hC : S'.C = named 0 fs) (hall : onB fs = preB hd (sps.map (·.1) ++ tb)) (hld : Ld tb tr k) (hk : k ≤ 1) (hl : last ≤ 96) (htb : tb = [] → tl = none) (hok : lenOk tr) (hon : S'.on = true) (hfit : S'.size ≤ S'.room) (hroom : S'.room ≤ 1048576) :
    OI S' base ((sps.map (·.2)).flatten ++ tr) (sps.length + k) hd (sps.map (·.1) ++ tb) fs :=
  ⟨hC, hall, ld_sps sps hs.sp hld, hs.bas, fun e => by
    rw [List.append_eq_nil_iff] at e
    exact hs.hd0 (htb e.2) (by simpa using e.1), hs.hdx, fun p hp => by
    rcases List.mem_append.1 hp with hp | hp
    · exact hs.ok p (by rw [hs.rcs]; exact List.mem_append_left _ hp)
    · exact hok p hp, by rw [← hs.lst]; omega, hon, hfit, hroom⟩
/-- A crash, and Open. -/
theorem JI.crash (h : JI S J safe) (keep tn : Nat) (hl : J.last ≤ 96) (hroom : S.room ≤ 1048576) :
    ∃ n k hd bs fs, (safe ≤ n ∧ ((∀ i, stays keep i = false) → n = safe)) ∧ n ≤ J.recs.length ∧ OI (S.crs keep tn).awake J.base (J.recs.take n) k hd bs fs ∧ k ≤ J.last + 1 ∧ (S.crs keep tn).awake.size ≤ S.size := by
  obtain ⟨hd, sps, tl, hs⟩ := h.st
  have hsz : (S.crs keep tn).awake.size ≤ S.size := fall_sum keep tn S.C
  have hC : (S.crs keep tn).awake.C = named 0 ((fls hd sps tl).map (Fl.fall keep tn)) := by
    show onL _ S.C = _
    rw [hs.C, named_on]
  have hfit : (S.crs keep tn).awake.size ≤ (S.crs keep tn).awake.room := Nat.le_trans hsz hs.fit
  have hsaf := hs.saf
  have hrc := hs.rcs
  cases tl with
  | none =>
    have hall : onB ((fls hd sps none).map (Fl.fall keep tn)) = preB hd (sps.map (·.1) ++ []) := by
      unfold fls
      rw [pre_fall, List.map_append, List.append_nil]
      show preB hd (onB (_ ++ [])) = _
      rw [List.append_nil, sps_fall]
    have hoi := OI.of (tr := []) hs hC hall Ld.none (by decide) hl (fun _ => rfl) (fun p hp => (List.not_mem_nil hp).elim) rfl hfit hroom
    have e : J.recs.take J.recs.length = (sps.map (·.2)).flatten ++ [] := by rw [List.take_of_length_le (Nat.le_refl _), hrc]; rfl
    rw [← e] at hoi
    refine ⟨J.recs.length, _, _, _, _, ?_, Nat.le_refl _, hoi, ?_, hsz⟩
    · have e2 : J.recs.length = safe := by rw [hrc, hsaf]; simp [safeOf, tlS, recsOf, tlR]
      exact ⟨by omega, fun _ => e2⟩
    · rw [hs.lst]; omega
  | some t =>
    have hokt : lenOk (t.1 ++ t.2.flatten) := fun p hp => hs.ok p (by rw [hrc]; exact List.mem_append_right _ hp)
    have hok1 : lenOk t.1 := fun p hp => hokt p (List.mem_append_left _ hp)
    have hok2 : lenOk t.2.flatten := fun p hp => hokt p (List.mem_append_right _ hp)
    obtain ⟨m, sp, hm, hm0, hrd⟩ : ∃ m sp, m ≤ t.2.flatten.length ∧ ((∀ i, stays keep i = false) → m = 0) ∧ Rd false (if anyK keep 0 (t.2.map rb) then fal keep tn 0 (t.2.map rb) else []) (t.2.flatten.take m) sp := by
      by_cases ha : anyK keep 0 (t.2.map rb) = true
      · rw [if_pos ha]
        obtain ⟨m, sp, h1, h2⟩ := rd_fal keep tn 0 t.2 hok2
        exact ⟨m, sp, h1, fun hno => absurd ha (by rw [anyK_none keep hno]; decide), h2⟩
      · rw [if_neg ha]; exact ⟨0, false, Nat.zero_le _, fun _ => rfl, Rd.nil false⟩
    have hrd2 := Rd.ahead hrd t.1 hok1
    obtain ⟨k, hld, hk⟩ := ld_one hrd2
    have hall : onB ((fls hd sps (some t)).map (Fl.fall keep tn)) = preB hd (sps.map (·.1) ++ [rb t.1 ++ (if anyK keep 0 (t.2.map rb) then fal keep tn 0 (t.2.map rb) else [])]) := by
      unfold fls
      rw [pre_fall, List.map_append]
      show preB hd (onB (_ ++ [Fl.fall keep tn (tlF t)])) = _
      have e : onB ((sps.map spF).map (Fl.fall keep tn) ++ [Fl.fall keep tn (tlF t)]) = onB ((sps.map spF).map (Fl.fall keep tn)) ++ [(Fl.fall keep tn (tlF t)).all] := by simp [onB]
      rw [e, sps_fall, fall_all, fallen_fal]; rfl
    have hok3 : lenOk (t.1 ++ t.2.flatten.take m) := fun p hp => by
      rcases List.mem_append.1 hp with hp | hp
      · exact hok1 p hp
      · exact hok2 p (List.mem_of_mem_take hp)
    have hoi := OI.of hs hC hall hld hk hl (fun e => by cases e) hok3 rfl hfit hroom
    have hlen : J.recs.length = (sps.map (·.2)).flatten.length + (t.1.length + t.2.flatten.length) := by rw [hrc]; simp [recsOf, tlR]
    have e : J.recs.take ((sps.map (·.2)).flatten.length + (t.1.length + m)) = (sps.map (·.2)).flatten ++ (t.1 ++ t.2.flatten.take m) := by
        rw [hrc]
        show (_ ++ (t.1 ++ t.2.flatten)).take _ = _
        rw [List.take_length_add_append, List.take_length_add_append]
    rw [← e] at hoi
    refine ⟨(sps.map (·.2)).flatten.length + (t.1.length + m), _, _, _, _, ?_, by rw [hlen]; omega, hoi, by rw [hs.lst]; omega, hsz⟩
    simp only [safeOf, tlS] at hsaf
    exact ⟨by omega, fun hno => by have := hm0 hno; omega⟩
/-- Open without a crash. -/
theorem JI.found (h : JI S J safe) (hl : J.last ≤ 96) (hroom : S.room ≤ 1048576) : ∃ k hd bs fs, OI S J.base J.recs k hd bs fs ∧ k ≤ J.last + 1 := by
  obtain ⟨hd, sps, tl, hs⟩ := h.st
  have hrc := hs.rcs
  cases tl with
  | none =>
    have hall : onB (fls hd sps none) = preB hd (sps.map (·.1) ++ []) := by
      unfold fls
      rw [pre_all]
      show preB hd (onB (_ ++ [])) = _
      rw [List.append_nil, List.append_nil, sps_all]
    have hoi := OI.of (tr := []) hs hs.C hall Ld.none (by decide) hl (fun _ => rfl) (fun p hp => (List.not_mem_nil hp).elim) hs.on hs.fit hroom
    have e : J.recs = (sps.map (·.2)).flatten ++ [] := by rw [hrc]; rfl
    rw [← e] at hoi
    exact ⟨_, _, _, _, hoi, by rw [hs.lst]; omega⟩
  | some t =>
    have hokt : lenOk (t.1 ++ t.2.flatten) := fun p hp => hs.ok p (by rw [hrc]; exact List.mem_append_right _ hp)
    have hrd := Rd.of_rb _ hokt
    obtain ⟨k, hld, hk⟩ := ld_one hrd
    have hall : onB (fls hd sps (some t)) = preB hd (sps.map (·.1) ++ [rb (t.1 ++ t.2.flatten)]) := by
      unfold fls
      rw [pre_all]
      have e : onB (sps.map spF ++ tlL (some t)) = onB (sps.map spF) ++ [(tlF t).all] := by simp [onB, tlL]
      rw [e, sps_all, rb_app, ← rb_flat]; rfl
    have hoi := OI.of hs hs.C hall hld hk hl (fun e => by cases e) hokt hs.on hs.fit hroom
    have e : J.recs = (sps.map (·.2)).flatten ++ (t.1 ++ t.2.flatten) := by rw [hrc]; rfl
    rw [← e] at hoi
    exact ⟨_, _, _, _, hoi, by rw [hs.lst]; omega⟩
theorem oi_new (room : Nat) (h : room ≤ 1048576) : OI ⟨room, true, 1, []⟩ [] [] 0 none [] [] :=
  ⟨rfl, rfl, Ld.none, rfl, fun _ => rfl, (fun x hx => by cases hx), fun p hp => (List.not_mem_nil hp).elim, by decide, rfl, Nat.zero_le _, h⟩
end
end Go.Proofs.YtaklbgikoeedbaaDoor
