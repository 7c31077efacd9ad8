/-
  Contract of know's All. No statement is proved here. Conditions: fewer than 2^48 things, known ones.
-/
import Derived.Test.YtknmccpoheekmaaKnL
import Derived.WalkMore
namespace Go.Proofs.Ytknmccpoheekmaa
open Go.RowKit

set_option maxRecDepth 100000 in
set_option maxHeartbeats 4000000 in
theorem kall_any {w : World} {A A2 : Option Addr} {t : List Th} {known : List Int} {n m : Nat} (c c2 : Nat) (ht : ThP w w.heap.size A t) (hl : t.length = n) (hn : n ≤ 281474976710656) (h2 : InP w w.heap.size A2 known) (hm : known.length = m) (hmm : m ≤ 281474976710656) :
    Calls Try.prog 11 #[.slice A n c, .slice A2 m c2] w fun e w' => ∃ A' c' l, e = .returned (.slice A' (List.length l) c') ∧ Vlt (AllIs t known l) ∧ InP w' w'.heap.size A' l ∧ Below w.heap.size w w' := by
  have HN := Lib.hid hl
  have HM := Lib.hid hm
  obtain ⟨o, ho⟩ : ∃ o, goodT t = o := ⟨_, rfl⟩
  have DG := vlt (kgood_any c ht hl hn ho)
  have HO := vlt ho
  clear ho
  cases o with
  | false =>
    clear hl hm
    go_enter Try.func11, Try.ntmps11
    go_wp2_with (go_at_call 12; refine DG.out.mono ?_; rintro e w1 ⟨rfl, hb1⟩; clear DG)
    go_ret
    exact ⟨none, 0, [], rfl, vlt ⟨fun _ => rfl, fun h => (by rw [HO.out] at h; cases h)⟩, .inl rfl, hb1⟩
  | true =>
    have hn5 : n ≤ 500 := by rw [← hl]; exact goodT_len HO.out
    have HFI := vlt (firsts_is HO.out)
    have HSL := vlt (steps_low HO.out)
    obtain ⟨F, hF⟩ : ∃ F, firstsT t = F := ⟨_, rfl⟩
    have HF := vlt hF
    have hFl : F.length = n := by rw [← hF, firstsT_len, hl]
    have hFlow : ∀ k : Nat, k < n → F.getD k 0 < n := fun k hk => by
      have := HFI.out.low k (by rw [hl]; exact hk)
      rw [hF] at this; omega
    obtain ⟨S, hS⟩ : ∃ S, stepsT t = S := ⟨_, rfl⟩
    have HS := vlt hS
    rw [hS, hl] at HSL
    have HSQ := vlt (steps_asks (t := t))
    rw [hS] at HSQ
    have hJ3 : S.length ≤ 1500 := by
      have := stepsFrom_few (firstsT t) t 0
      rw [← hS, stepsT]
      omega
    clear hl hm hF hS
    go_enter Try.func11, Try.ntmps11
    go_upto_region 3 with (go_at_call 12; refine DG.out.mono ?_; rintro e w1 ⟨rfl, hb1⟩; clear DG)
    have ht1 := ht.next hb1
    have V1 := vlt (firsts_any c ht1 HN.out HO.out)
    rw [HF.out] at V1
    go_upto_region 4 with (go_at_call 21; refine V1.out.mono ?_; rintro e w2 ⟨rfl, hf2, hb12⟩; clear V1)
    have hb2 := below_next hb1 hb1.size hb12
    have ht2 := ht1.next hb12
    have V2 := vlt (begin_any n c2 hf2 hFl hn5 hFlow (h2.next hb2) HM.out hmm)
    obtain ⟨b0, hb0⟩ : ∃ b0, beginT F known = b0 := ⟨_, rfl⟩
    have hb0l : b0.length = n := by rw [← hb0, beginT, begin_len, List.length_replicate, hFl]
    rw [hb0] at V2
    have HB0 := vlt hb0
    clear hb0
    go_upto_region 5 with (go_at_call 22; refine V2.out.mono ?_; rintro e w3 ⟨rfl, hh3, hb23⟩; clear V2)
    have hb3 := below_next hb2 hb2.size hb23
    have ht3 := ht2.next hb23
    have hf3 := row_next2 hf2 hb23
    have V3 := stepsOf_any (t := t) c n ht3 HN.out HO.out (by rw [HF.out]; exact hf3)
    rw [HS.out] at V3
    have V3 := vlt V3
    go_upto_region 6 with (go_at_call 23; refine V3.out.mono ?_; rintro e w4 ⟨A7, c7, rfl, hst, hb34⟩; clear V3)
    obtain ⟨J, hJ⟩ : ∃ J, S.length = J := ⟨_, rfl⟩
    rw [hJ] at hst hJ3 ⊢
    have HJ := Lib.hid hJ
    have hb4 := below_next hb3 hb3.size hb34
    have hf4 := row_next2 hf3 hb34
    have hh4 := row_next2 hh3 hb34
    have HST := vlt hst
    have hs2 := row_size hf2
    have hs3 := row_size hh3
    have hs12 := hb12.size
    have hs23 := hb23.size
    have hs34 := hb34.size
    obtain ⟨gh, hgh⟩ : ∃ gh, w2.heap.size = gh := ⟨_, rfl⟩
    obtain ⟨gf, hgf⟩ : ∃ gf, w1.heap.size = gf := ⟨_, rfl⟩
    rw [hgh] at hh4 hs3 hs2 hs23 hs12 ⊢
    rw [hgf] at hf4 hs2 hs12 ⊢
    have hghw : w.heap.size ≤ gh := by have := hb2.size; omega
    clear hst hJ hb12 hb23 hb34 hf2 hf3 hh3
    go_wp2
    go_loopg [8, 10, 12, 27, 39] (2 * n + 2) (fun k s8 s10 s12 s27 s39 wr => ∃ (more : Bool) (h : List Bool), s8 = .bool more ∧ 2 * offs h + (if more = true then 1 else 0) < k + 1 ∧ Vlt (KI S b0 h n) ∧ Vlt (more = false → Least S (fun p => on b0 p = true) (fun p => on h p = true)) ∧ Hid (wr.heap[gh]? = some (.cells (bvl h).toArray 4 (0, 0))) ∧ But gh w4 wr)
    case atStart => exact ⟨true, b0, rfl, by have := offs_le b0; simp; omega, vlt (KI.nil hb0l), vlt (fun h => (by cases h)), hh4, But.refl _ _⟩
    case round =>
      obtain ⟨more, h, rfl, hk, HKI, HLS, hgr, hbt⟩ := hrel
      cases more with
      | false =>
        have hb9 := But.below hb4 hbt hghw hb4.size
        have hf9 := row_but hf4 hbt (by omega)
        have hL := HLS.out rfl
        have V4 := vlt (places_any n n hf9 hFl hn5 hFlow hgr HKI.out.len)
        go_wp2_with (go_at_call 24; refine V4.out.mono ?_; rintro e w9 ⟨A9, c9, rfl, hi9, hb99⟩; clear V4)
        go_ret
        refine ⟨A9, c9, placesT F h, rfl, vlt ⟨fun hg => (by rw [HO.out] at hg; cases hg), fun _ => ⟨h, by rw [HKI.out.len, HN.out], ?_, by rw [HF.out]⟩⟩, hi9, below_next hb9 hb9.size hb99⟩
        rw [HS.out, HF.out, HB0.out]
        exact hL
      | true =>
        simp only [if_true] at hk
        obtain ⟨h0, hh0⟩ : ∃ h0, h0 = h := ⟨_, rfl⟩
        subst hh0
        obtain ⟨wo, hwo⟩ : ∃ wo, wo = wr := ⟨_, rfl⟩
        subst hwo
        go_wp2
        go_step3
        go_wp2
        go_step3
        go_wp2
        go_loopg [8, 10, 12, 27, 39] J (fun k2 s8 s10 s12 s27 s39 wr => ∃ (j : Nat) (more : Bool) (h : List Bool), s27 = .int .i64 j ∧ s8 = .bool more ∧ J - j < k2 + 1 ∧ j ≤ J ∧ Vlt (KM S b0 h0 h n j more) ∧ Hid (wr.heap[gh]? = some (.cells (bvl h).toArray 4 (0, 0))) ∧ But gh w4 wr)
        case atStart => exact ⟨0, false, h0, rfl, rfl, by omega, Nat.zero_le _, vlt (KM.nil HKI.out), hgr, hbt⟩
        case round =>
          obtain ⟨j, more, h, rfl, rfl, hk2, hjJ, HKM, hgr2, hbt2⟩ := hrel
          have hlen := HKM.out.ki.len
          by_cases hlt : j < J
          · have hltz : (j : Int) < (J : Int) := by omega
            obtain ⟨G, s, g, rfl, HSJ, hBG, hGw, hBg, hrg, e0, e1⟩ := HST.out.at_ hlt
            obtain ⟨hsn, han⟩ := HSL.out s (List.mem_of_getElem? HSJ.out)
            have hGn : G ≠ gh := by omega
            have hc0 := (World.cell?_of_block (a := ⟨G, j * 2, none⟩) (hbt2.block G hGw (fun e => hGn (by injection e)))).trans e0
            have hc1 := (World.cell?_of_block (a := ⟨G, j * 2 + 1, none⟩) (hbt2.block G hGw (fun e => hGn (by injection e)))).trans e1
            have hrg2 := row_but hrg hbt2 (by omega)
            obtain ⟨ml, hml⟩ : ∃ ml, s.1.length = ml := ⟨_, rfl⟩
            obtain ⟨gv, hgv⟩ : ∃ gv, s.2 = gv := ⟨_, rfl⟩
            have HML := Lib.hid hml
            have hml2 : ml ≤ 2 := by rw [← hml]; exact HSQ.out s (List.mem_of_getElem? HSJ.out)
            have HGV := Lib.hid hgv
            rw [hml] at hc0
            rw [hgv] at hc1 hsn
            obtain ⟨U, hU, hgX, hbU, hsU⟩ := one_new wr #[.slice (some ⟨g, 0, none⟩) ml ml, .int .i64 (gv : Int)] 50
            have hgrU := row_next2 hgr2 hbU
            have hrgU := row_next2 hrg2 hbU
            have hbtU := hbt2.go hbU
            have d0 : U.cell? ⟨wr.heap.size, 0, none⟩ = some (.slice (some ⟨g, 0, none⟩) ml ml) := by rw [cell_of_row _ _ _ _ _ _ hgX.out]; rfl
            have d1 : U.cell? ⟨wr.heap.size, 1, none⟩ = some (.int .i64 (gv : Int)) := by rw [cell_of_row _ _ _ _ _ _ hgX.out]; rfl
            have cb := bvl_at hgrU gv (by omega)
            have hgvz : (gv : Int) < (n : Int) := by omega
            obtain ⟨q, hq⟩ : ∃ q, on h gv = q := ⟨_, rfl⟩
            rw [hq] at cb
            have HQ := vlt hq
            clear hml hgv hq e0 e1
            cases q with
            | true =>
              have HK2 : Vlt (KM S b0 h0 h n (j + 1) more) := vlt (HKM.out.skip HSJ.out fun _ => by rw [HGV.out]; exact HQ.out)
              go_wp2
              go_roundg (J - (j + 1))
              case measure => omega
              case rel => exact ⟨j + 1, more, h, by go_num, rfl, by omega, by omega, HK2, hgrU, hbtU⟩
            | false =>
              obtain ⟨wq, hwq⟩ : ∃ wq, wq = wr := ⟨_, rfl⟩
              subst hwq
              go_wp2
              go_loopg [12, 39] ml (fun k3 s12 s39 wz => ∃ (p : Nat), s39 = .int .i64 p ∧ ml - p < k3 + 1 ∧ p ≤ ml ∧ Vlt (∀ i a, i < p → s.1[i]? = some a → on h a = true) ∧ Below U.heap.size U wz)
              case atStart => exact ⟨0, rfl, by omega, Nat.zero_le _, vlt (fun i a h => by omega), Below.refl _ _⟩
              case round =>
                obtain ⟨p, rfl, hk3, hpm, HP, hbz⟩ := hrel
                have hgrz := row_next2 hgrU hbz
                have hbtz := hbtU.go hbz
                by_cases hlp : p < ml
                · have hlpz : (p : Int) < (ml : Int) := by omega
                  obtain ⟨a, ha⟩ : ∃ a, s.1[p]? = some a := ⟨_, List.getElem?_eq_getElem (by rw [HML.out]; exact hlp)⟩
                  have haN := han a (List.mem_of_getElem? ha)
                  have ca := nvI_at (row_next2 hrgU hbz) p (by rw [HML.out]; exact hlp)
                  rw [List.getD_eq_getElem?_getD, ha, Option.getD_some] at ca
                  have cb2 := bvl_at hgrz a (by omega)
                  have haz : (a : Int) < (n : Int) := by omega
                  obtain ⟨r, hr⟩ : ∃ r, on h a = r := ⟨_, rfl⟩
                  rw [hr] at cb2
                  have HR := vlt hr
                  have HA := Lib.hid ha
                  clear hr ha
                  cases r with
                  | true =>
                    have HP2 : Vlt (∀ i a, i < p + 1 → s.1[i]? = some a → on h a = true) := vlt (fun i b hi hb => by
                      rcases Nat.lt_or_eq_of_le (Nat.le_of_lt_succ hi) with h | rfl
                      · exact HP.out i b h hb
                      · have e := HA.out.symm.trans hb
                        injection e with e
                        rw [← e]; exact HR.out)
                    go_wp2
                    go_roundg (ml - (p + 1))
                    case measure => omega
                    case rel => exact ⟨p + 1, by go_num, by omega, by omega, HP2, hbz⟩
                  | false =>
                    have HK2 : Vlt (KM S b0 h0 h n (j + 1) more) := vlt (HKM.out.skip HSJ.out fun hall => by
                      have := hall a (List.mem_of_getElem? HA.out)
                      rw [HR.out] at this; cases this)
                    go_wp2
                    go_roundg (J - (j + 1))
                    case measure => omega
                    case rel => exact ⟨j + 1, more, h, by go_num, rfl, by omega, by omega, HK2, hgrz, hbtz⟩
                · have hlpz : ¬ (p : Int) < (ml : Int) := by omega
                  have HK2 : Vlt (KM S b0 h0 (h.set gv true) n (j + 1) true) := vlt (by
                    have := HKM.out.set HSJ.out (fun a ha => by
                      obtain ⟨i, hi, rfl⟩ := List.mem_iff_getElem.1 ha
                      exact HP.out i _ (by rw [HML.out] at hi; omega) (List.getElem?_eq_getElem hi)) (by rw [HGV.out]; exact HQ.out) (by rw [HGV.out]; exact hsn)
                    rwa [HGV.out] at this)
                  have hXz := row_next2 hgX hbz
                  have d1z : wr.cell? ⟨wq.heap.size, 1, none⟩ = some (.int .i64 (gv : Int)) := by rw [cell_of_row _ _ _ _ _ _ hXz.out]; rfl
                  have cb3 := bvl_at hgrz gv (by omega)
                  have fb := frozen_of_row _ _ gv _ _ hgrz.out
                  have hset := world_set_cell hgrz.out gv (.bool true)
                  rw [bvl_set] at hset
                  have hbt9 := hbtz.set (i := gv) (.bool true)
                  go_wp2
                  go_roundg (J - (j + 1))
                  case measure => omega
                  case rel => exact ⟨j + 1, true, h.set gv true, by go_num, rfl, by omega, by omega, HK2, hset, hbt9⟩
          · have hltz : ¬ (j : Int) < (J : Int) := by omega
            have HL2 : Vlt (more = false → Least S (fun p => on b0 p = true) (fun p => on h p = true)) := vlt (fun e => by
              subst e
              exact HKM.out.closed (by rw [HJ.out]; omega))
            have hki := vlt HKM.out.ki
            have hme : 2 * offs h + (if more = true then 1 else 0) < 2 * offs h0 + 1 := by
              cases hmo : more with
              | true => have := HKM.out.yes hmo; simp; omega
              | false => rw [(HKM.out.no hmo).1]; simp
            go_wp2
            go_roundg (2 * offs h + (if more = true then 1 else 0))
            case measure => omega
            case rel => exact ⟨more, h, rfl, by omega, hki, HL2, hgr2, hbt2⟩
end Go.Proofs.Ytknmccpoheekmaa
