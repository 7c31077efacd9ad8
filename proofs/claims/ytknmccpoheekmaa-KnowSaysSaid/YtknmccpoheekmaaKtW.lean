/-
  Contract of the document's own Know: all that can be known, round by round. No statement is proved here. Conditions: at most sixty things, sixty known ones.
-/
import Derived.Test.YtknmccpoheekmaaKtL
import Derived.Test.YtknmccpoheekmaaKtG
import Derived.Test.YtknmccpoheekmaaKnL
namespace Go.Proofs.Ytknmccpoheekmaa
open Go.RowKit

theorem bool_nn {a b : Bool} (h : ¬ (a = true ∧ b = true)) : (a = true ∧ b = false) ∨ a = false := by cases a <;> cases b <;> simp_all
theorem bool_nf {a b : Bool} (h : ¬ (a = true ∧ b = false)) : (a = true ∧ b = true) ∨ a = false := by cases a <;> cases b <;> simp_all
structure KW (S : List Stp) (b0 h0 h : List Bool) (n : Nat) (D : List Stp) (more : Bool) : Prop where
  ki : KI S b0 h n
  no : more = false → h = h0 ∧ ∀ s ∈ D, (∀ a ∈ s.1, on h a = true) → on h s.2 = true
  yes : more = true → offs h < offs h0
theorem KW.nil {S : List Stp} {b0 h0 : List Bool} {n : Nat} (h : KI S b0 h0 n) : KW S b0 h0 h0 n [] false := ⟨h, fun _ => ⟨rfl, fun s hs => by simp at hs⟩, fun h => (by cases h)⟩
theorem KW.skip {S : List Stp} {b0 h0 h : List Bool} {n : Nat} {D N D' : List Stp} {more : Bool} (hk : KW S b0 h0 h n D more) (hD : D' = D ++ N) (hc : ∀ s ∈ N, (∀ a ∈ s.1, on h a = true) → on h s.2 = true) : KW S b0 h0 h n D' more :=
  ⟨hk.ki, fun hm => ⟨(hk.no hm).1, fun s hs => by
    rw [hD, List.mem_append] at hs
    rcases hs with hs | hs
    · exact (hk.no hm).2 s hs
    · exact hc s hs⟩, hk.yes⟩
theorem KW.turn {S : List Stp} {b0 h0 h h' : List Bool} {n : Nat} {D D' : List Stp} {more : Bool} (hk : KW S b0 h0 h n D more) (hi : KI S b0 h' n) (ho : offs h' < offs h) : KW S b0 h0 h' n D' true :=
  ⟨hi, fun h => (by cases h), fun _ => by
    cases hm : more with
    | true => have := hk.yes hm; omega
    | false => rw [(hk.no hm).1] at ho; exact ho⟩
theorem KW.closed {S : List Stp} {b0 h0 h : List Bool} {n : Nat} (hk : KW S b0 h0 h n S false) : Least S (fun p => on b0 p = true) (fun p => on h p = true) :=
  ⟨hk.ki.sub, fun s hs ha => (hk.no rfl).2 s hs ha, hk.ki.low⟩
theorem offs_up {h : List Bool} {p : Nat} (hp : p < h.length) : offs (h.set p true) ≤ offs h := by
  cases ho : on h p with
  | true =>
    have e : h.set p true = h := by
      refine List.ext_getElem? fun q => ?_
      by_cases e : p = q
      · subst e
        rw [List.getElem?_set_self hp]
        rw [on, List.getD_eq_getElem?_getD, List.getElem?_eq_getElem hp, Option.getD_some] at ho
        rw [List.getElem?_eq_getElem hp, ho]
      · rw [List.getElem?_set_ne e]
    rw [e]; exact Nat.le_refl _
  | false => have := offs_set hp ho; omega
theorem on_keep {h : List Bool} {p q : Nat} (hq : on h q = true) : on (h.set p true) q = true := on_set.2 (.inr hq)
theorem offs_two {h : List Bool} {p q : Nat} (hp : p < h.length) (hq : q < h.length) (hne : ¬ (on h p = true ∧ on h q = true)) : offs ((h.set p true).set q true) < offs h := by
  cases hop : on h p with
  | false =>
    have h1 := offs_set hp hop
    have h2 := offs_up (h := h.set p true) (p := q) (by rw [List.length_set]; exact hq)
    omega
  | true =>
    have hoq : on h q = false := by
      cases h3 : on h q with
      | true => exact absurd ⟨hop, h3⟩ hne
      | false => rfl
    have h1 := offs_up (h := h) hp
    by_cases e : p = q
    · subst e; rw [hop] at hoq; cases hoq
    · have hoq2 : on (h.set p true) q = false := by rw [on, List.getD_eq_getElem?_getD, List.getElem?_set_ne e, ← List.getD_eq_getElem?_getD]; exact hoq
      have h2 := offs_set (h := h.set p true) (p := q) (by rw [List.length_set]; exact hq) hoq2
      omega
theorem step_setb {P : Program} {ops : Array Oper} {o : Oper} {a : Act} {w : World} {K : Act → World → Prop} {Q : Exit → Act → World → Prop} {E : Prop} (hgd : o.guard = none) (ty : TypeId) (x y : Operand) (ho : o.op = .store ty x y)
    (hs : (P.info? ty).map (·.size) = some 1) (g k : Nat) (hx : a.eval x = .pointer (some ⟨g, k, none⟩)) (b : Bool) (hy : a.eval y = .bool b) (cs : List Value) (t : TypeId)
    (hg : w.heap[g]? = some (.cells cs.toArray t (0, 0))) (hk : k < cs.length) (w0 : World) (hb : But g w0 w)
    (h : ∀ w', Hid (w'.heap[g]? = some (.cells (cs.set k (.bool b)).toArray t (0, 0))) → But g w0 w' → K (a.put o.dst undef) w') :
    if Region.wanted o (yielded ops a.tmps) = true then Oper.wp P o a w K Q else E := by
  have hw : Region.wanted o (yielded ops a.tmps) = true := by simp [Region.wanted, hgd]
  rw [if_pos hw]
  obtain ⟨i, hi', hi2⟩ := Option.map_eq_some_iff.1 hs
  have hc : w.cell? ⟨g, k, none⟩ = some cs[k] := by rw [cell_of_row _ _ _ _ _ _ hg]; simp [hk]
  have hf : w.frozen? ⟨g, k, none⟩ = false := frozen_of_row _ _ _ _ _ hg
  have h1 := heap_setCell_same w g k _ _ (.bool b) hg
  have h2 := h (w.setCell ⟨g, k, none⟩ (.bool b)) (show _ = _ by rw [h1]; simp) (hb.set _)
  unfold Oper.wp
  simp [execOp, ho, hx, hy, Instr.storeAt, Instr.sureAddr, storeVar, sizeOf, typeInfo, hi', hi2, Value.cells, storeCells, run_store_bool, stored, hc, hf, addr_add]
  exact h2
theorem bvl_len (h : List Bool) : (bvl h).length = h.length := by simp [bvl]
set_option maxRecDepth 100000 in
set_option maxHeartbeats 16000000 in
theorem rknow_any {w : World} {A A2 : Option Addr} {t : List Th} {known : List Int} {n m : Nat} (c c2 : Nat) (ht : ThP w w.heap.size A t) (hl : t.length = n) (hn : n ≤ 60) (h2 : InP w w.heap.size A2 known) (hm : known.length = m) (hmm : m ≤ 60) :
    Calls Try.prog 14 #[.slice A n c, .slice A2 m c2] w fun e w' => ∃ A' c' l, e = .returned (.slice A' (List.length l) c') ∧ Vlt (AllIs t known l) ∧ InP w' w'.heap.size A' l ∧ Below w.heap.size w w' := by
  have HN := Lib.hid hl
  have HM := Lib.hid hm
  obtain ⟨o, ho⟩ : ∃ o, goodT t = o := ⟨_, rfl⟩
  have DG := vlt (rgood_any c ht hl (by omega) ho)
  have HO := vlt ho
  clear ho
  cases o with
  | false =>
    clear hl hm
    go_enter Try.func14, Try.ntmps14
    go_wp2_with (go_at_call 18; refine DG.out.mono ?_; rintro e w1 ⟨rfl, hb1⟩; clear DG)
    go_ret
    exact ⟨none, 0, [], rfl, vlt ⟨fun _ => rfl, fun h => (by rw [HO.out] at h; cases h)⟩, .inl rfl, hb1⟩
  | true =>
    have HFI := vlt (firsts_is HO.out)
    obtain ⟨F, hF⟩ : ∃ F, firstsT t = F := ⟨_, rfl⟩
    have HF0 := vlt hF
    have HFl : Hid (F.length = n) := Lib.hid (by rw [← hF, firstsT_len, hl])
    have hFlow : ∀ k : Nat, k < n → F.getD k 0 < n := fun k hk => by
      have := HFI.out.low k (by rw [hl]; exact hk)
      rw [hF] at this; omega
    obtain ⟨S, hS⟩ : ∃ S, stepsT t = S := ⟨_, rfl⟩
    have HS := vlt hS
    clear hl hm hF hS
    go_enter Try.func14, Try.ntmps14
    go_upto_region 3 with (go_at_call 18; refine DG.out.mono ?_; rintro e w1 ⟨rfl, hb1⟩; clear DG)
    have ht1 := ht.next hb1
    have V1 := vlt (rlike_any c ht1 HN.out HO.out)
    rw [HF0.out] at V1
    go_upto_region 4 with (go_at_call 27; refine V1.out.mono ?_; rintro e w2 ⟨rfl, hf2, hb12⟩; clear V1)
    have hb2 := below_next hb1 hb1.size hb12
    have hmk := make_bools w2 n (by omega)
    have hz := Lib.hid (heap_alloc_new w2 (.cells (bvl (List.replicate n false)).toArray 4))
    have hbz : Below w2.heap.size w2 (w2.alloc (.cells (bvl (List.replicate n false)).toArray 4)) := (Below.refl _ _).alloc (Nat.le_refl _) _
    generalize w2.alloc (.cells (bvl (List.replicate n false)).toArray 4) = w3 at *
    have hb3 := below_next hb2 hb2.size hbz
    have hf3 := row_next2 hf2 hbz
    have hs2 := row_size hf2
    have hs3 := row_size hz
    have hs1w := hb1.size
    go_upto_region 5 with fail
    obtain ⟨gh, hgh⟩ : ∃ gh, w2.heap.size = gh := ⟨_, rfl⟩
    obtain ⟨gf, hgf⟩ : ∃ gf, w1.heap.size = gf := ⟨_, rfl⟩
    rw [hgh] at hz hs2 hs3 ⊢
    rw [hgf] at hf3 hs2 hs1w ⊢
    have hghw : w.heap.size ≤ gh := by omega
    clear hbz hf2 hb12 hmk hgh hgf hb2
    go_wp2
    go_loopg [7] m (fun k s7 wr => ∃ (i : Nat) (h : List Bool), s7 = .int .i64 i ∧ m - i < k + 1 ∧ i ≤ m ∧ Vlt (h = (known.take i).foldl (bstepK F) (List.replicate n false) ∧ h.length = n) ∧ Hid (wr.heap[gh]? = some (.cells (bvl h).toArray 4 (0, 0))) ∧ But gh w3 wr)
    case atStart => exact ⟨0, _, rfl, by omega, Nat.zero_le _, vlt ⟨rfl, by simp⟩, hz, But.refl _ _⟩
    case round =>
      obtain ⟨i, h, rfl, hk, him, HH, hgr, hbt⟩ := hrel
      have hf4 := row_but hf3 hbt (by omega)
      have hb4 := But.below hb3 hbt hghw hb3.size
      by_cases hlt : i < m
      case pos =>
        have hltz : (i : Int) < (m : Int) := by omega
        obtain ⟨g2, o2, x, rfl, hg2, HX, c0⟩ := (h2.below hb4).at_ (i := i) (by rw [HM.out]; omega)
        have hstep : Vlt ((known.take (i + 1)).foldl (bstepK F) (List.replicate n false) = bstepK F h x) := vlt (by rw [List.take_add_one, HX.out, List.foldl_append, ← HH.out.1]; rfl)
        by_cases hx0 : 0 ≤ x
        case neg =>
          have hx0z : ¬ (0 : Int) ≤ x := hx0
          have HH2 : Vlt (h = (known.take (i + 1)).foldl (bstepK F) (List.replicate n false) ∧ h.length = n) := vlt ⟨by rw [hstep.out, bstepK, if_neg (by rw [below, decide_eq_false hx0]; simp)], HH.out.2⟩
          go_wp2
          go_roundg (m - (i + 1))
          case measure => omega
          case rel => exact ⟨i + 1, h, by go_num, by omega, by omega, HH2, hgr, hbt⟩
        by_cases hxn : x < (n : Int)
        case neg =>
          have HH2 : Vlt (h = (known.take (i + 1)).foldl (bstepK F) (List.replicate n false) ∧ h.length = n) := vlt ⟨by rw [hstep.out, bstepK, if_neg (by rw [below, HFl.out, decide_eq_false hxn]; simp)], HH.out.2⟩
          go_wp2
          go_roundg (m - (i + 1))
          case measure => omega
          case rel => exact ⟨i + 1, h, by go_num, by omega, by omega, HH2, hgr, hbt⟩
        obtain ⟨p, hp⟩ : ∃ p, F.getD x.toNat 0 = p := ⟨_, rfl⟩
        have hpn := hFlow x.toNat (by omega)
        rw [hp] at hpn
        have cf := nvI_at hf4 x.toNat (by rw [HFl.out]; omega)
        rw [hp] at cf
        have cb := bvl_at hgr p (by rw [HH.out.2]; omega)
        have fb := frozen_of_row _ _ p _ _ hgr.out
        have hset := world_set_cell hgr.out p (.bool true)
        rw [bvl_set] at hset
        have hbt9 := hbt.set (i := p) (.bool true)
        have HH2 : Vlt (h.set p true = (known.take (i + 1)).foldl (bstepK F) (List.replicate n false) ∧ (h.set p true).length = n) := vlt ⟨by rw [hstep.out, bstepK, if_pos (by rw [below, HFl.out, decide_eq_true hx0, decide_eq_true hxn]; rfl), nat, hp], by rw [List.length_set]; exact HH.out.2⟩
        have hpz : (p : Int) < (n : Int) := by omega
        clear hp
        go_wp2
        go_roundg (m - (i + 1))
        case measure => omega
        case rel => exact ⟨i + 1, h.set p true, by go_num, by omega, by omega, HH2, hset, hbt9⟩
      have hltz : ¬ (i : Int) < (m : Int) := by omega
      obtain ⟨b0, hb0⟩ : ∃ b0, b0 = h := ⟨_, rfl⟩
      subst hb0
      have HB0 : Vlt (b0 = beginT F known) := vlt (by rw [HH.out.1, List.take_of_length_le (by rw [HM.out]; omega), beginT, HFl.out])
      have hb0l := HH.out.2
      obtain ⟨wq, hwq⟩ : ∃ wq, wq = wr := ⟨_, rfl⟩
      subst hwq
      go_wp2
      go_loopg [8, 9, 10] (2 * n + 2) (fun k s8 s9 s10 wr => ∃ (more : Bool) (h : List Bool), s8 = .bool more ∧ 2 * offs h + (if more = true then 1 else 0) < k + 1 ∧ Vlt (KI S b0 h n) ∧ Vlt (more = false → Least S (fun p => on b0 p = true) (fun p => on h p = true)) ∧ Hid (wr.heap[gh]? = some (.cells (bvl h).toArray 4 (0, 0))) ∧ But gh w3 wr)
      case atStart => exact ⟨true, b0, rfl, by have := offs_le b0; simp; omega, vlt (KI.nil hb0l), vlt (fun h => (by cases h)), hgr, hbt⟩
      case round =>
        obtain ⟨more, h, rfl, hk, HKI, HLS, hgr, hbt⟩ := hrel
        have hlen0 := HKI.out.len
        cases more with
        | false => as_aux_lemma =>
          have hb9 := But.below hb3 hbt hghw hb3.size
          have hf9 := row_but hf3 hbt (by omega)
          have hs9 := row_size hgr
          have hL := vlt (HLS.out rfl)
          obtain ⟨wv, hwv⟩ : ∃ wv, wv = wr := ⟨_, rfl⟩
          subst hwv
          go_wp2
          go_loopg [11, 12] n (fun k s11 s12 wr => ∃ (i : Nat) (A : Option Addr) (m c : Nat) (l : List Int), s11 = .slice A m c ∧ s12 = .int .i64 i ∧ n - i < k + 1 ∧ i ≤ n ∧ m ≤ i ∧ Vlt (Iwo wr wv.heap.size A m c l) ∧ Vlt (l = placesFrom F h 0 i) ∧ Below wv.heap.size wv wr)
          case atStart => exact ⟨0, none, 0, 0, [], rfl, rfl, by omega, Nat.zero_le _, Nat.le_refl _, vlt (Iwo.nil _ _), vlt rfl, Below.refl _ _⟩
          case round =>
            obtain ⟨i, A, m, c3, l, rfl, rfl, hk, hin, hmi, H1, HL, hb⟩ := hrel
            have h1r := row_next2 hf9 hb
            have h2r := row_next2 hgr hb
            by_cases hlt : i < n
            · have hltz : (i : Int) < (n : Int) := by omega
              obtain ⟨p, hp⟩ : ∃ p, F.getD i 0 = p := ⟨_, rfl⟩
              have hpn := hFlow i hlt
              rw [hp] at hpn
              have cf := nvI_at h1r i (by rw [HFl.out]; omega)
              rw [hp] at cf
              have hpz : (p : Int) < (n : Int) := by omega
              have cb := bvl_at h2r p (by omega)
              obtain ⟨q, hq⟩ : ∃ q, on h p = q := ⟨_, rfl⟩
              rw [hq] at cb
              have HQ : Vlt (on h (F.getD (0 + i) 0) = q) := vlt (by rw [Nat.zero_add, hp]; exact hq)
              clear hp hq
              cases q with
              | true =>
                obtain ⟨A', c', w7, hrun, hT7, hb7⟩ := iwo_push H1.out hb.size (by omega) (i : Int)
                have VR := vlt hrun
                have H7 := vlt hT7
                have HL2 : Vlt (l ++ [(i : Int)] = placesFrom F h 0 (i + 1)) := vlt (by rw [places_app, if_pos HQ.out, HL.out, Nat.zero_add])
                clear hrun hT7
                go_wp2_with (at_builtin; refine Lib.wpList_append_run _ rfl _ _ _ _ rfl _ _ rfl rfl _ _ VR.out ?_)
                have hb8 := hb.trans hb7
                go_roundg (n - (i + 1))
                case measure => omega
                case rel => exact ⟨i + 1, A', m + 1, c', _, by go_num, by go_num, by omega, by omega, by omega, H7, HL2, hb8⟩
              | false =>
                have HL2 : Vlt (l = placesFrom F h 0 (i + 1)) := vlt (by rw [places_app, if_neg (by rw [HQ.out]; decide), HL.out, List.append_nil])
                go_wp2
                go_roundg (n - (i + 1))
                case measure => omega
                case rel => exact ⟨i + 1, A, m, c3, l, rfl, by go_num, by omega, by omega, by omega, H1, HL2, hb⟩
            · have hltz : ¬ (i : Int) < (n : Int) := by omega
              have HE : Vlt (l = placesT F h) := vlt (by
                have e : i = F.length := by rw [HFl.out]; omega
                rw [HL.out, placesT, e])
              have hI := H1.out.inp
              have hLen := Lib.hid H1.out.len
              have HA : Vlt (AllIs t known l) := vlt ⟨fun hg => (by rw [HO.out] at hg; cases hg), fun _ => ⟨h, by rw [hlen0, HN.out], by rw [HS.out, HF0.out, ← HB0.out]; exact hL.out, by rw [HE.out, HF0.out]⟩⟩
              go_wp2
              go_ret
              obtain rfl := hLen.out
              exact ⟨A, c3, l, rfl, HA, hI, below_next hb9 hb9.size hb⟩
        | true =>
          simp only [if_true] at hk
          obtain ⟨h0, hh0⟩ : ∃ h0, h0 = h := ⟨_, rfl⟩
          subst hh0
          obtain ⟨wo, hwo⟩ : ∃ wo, wo = wr := ⟨_, rfl⟩
          subst hwo
          go_wp2
          go_loopg [8, 9, 10] n (fun k2 s8 s9 s10 wr => ∃ (i : Nat) (more : Bool) (h : List Bool), s9 = .int .i64 i ∧ s8 = .bool more ∧ n - i < k2 + 1 ∧ i ≤ n ∧ Vlt (KW S b0 h0 h n (stepsFrom F 0 (t.take i)) more) ∧ Hid (wr.heap[gh]? = some (.cells (bvl h).toArray 4 (0, 0))) ∧ But gh w3 wr)
          case atStart => exact ⟨0, false, h0, rfl, rfl, by omega, Nat.zero_le _, vlt (KW.nil HKI.out), hgr, hbt⟩
          case round =>
            obtain ⟨i, more, h, rfl, rfl, hk2, hin, HKW, hgr2, hbt2⟩ := hrel
            have hlen := HKW.out.ki.len
            by_cases hlt : i < n
            case neg =>
              have hltz : ¬ (i : Int) < (n : Int) := by omega
              have hSe : Vlt (stepsFrom F 0 (t.take i) = S) := vlt (by rw [List.take_of_length_le (by rw [HN.out]; omega), ← HS.out, stepsT, HF0.out])
              have HL2 : Vlt (more = false → Least S (fun p => on b0 p = true) (fun p => on h p = true)) := vlt (fun e => by
                subst e
                have := HKW.out
                rw [hSe.out] at this
                exact this.closed)
              have hki := vlt HKW.out.ki
              have hme : 2 * offs h + (if more = true then 1 else 0) < 2 * offs h0 + 1 := by
                cases hmo : more with
                | true => have := HKW.out.yes hmo; simp; omega
                | false => rw [(HKW.out.no hmo).1]; simp
              go_wp2
              go_roundg (2 * offs h + (if more = true then 1 else 0))
              case measure => omega
              case rel => exact ⟨more, h, rfl, by omega, hki, HL2, hgr2, hbt2⟩
            have hltz : (i : Int) < (n : Int) := by omega
            have hbw := But.below hb3 hbt2 hghw hb3.size
            obtain ⟨g, o2, x, rfl, hg, HX, c0, c1, c2, c4⟩ := (ht.below hbw).at_ (i := i) (by rw [HN.out]; omega)
            have hfx := goodT_at HO.out HX.out
            obtain ⟨U, hU, hgX, hbU, hsU⟩ := one_new wr #[.int .i64 x.kind, .int .i64 x.a, .int .i64 x.b, .int .i64 x.n] 54
            have hgrU := row_next2 hgr2 hbU
            have hbtU := hbt2.go hbU
            have hfU := row_but hf3 hbtU (by omega)
            have hXs := row_size hgr2
            have d0 : U.cell? ⟨wr.heap.size, 0, none⟩ = some (.int .i64 x.kind) := by rw [cell_of_row _ _ _ _ _ _ hgX.out]; rfl
            have d1 : U.cell? ⟨wr.heap.size, 1, none⟩ = some (.int .i64 x.a) := by rw [cell_of_row _ _ _ _ _ _ hgX.out]; rfl
            have d2 : U.cell? ⟨wr.heap.size, 2, none⟩ = some (.int .i64 x.b) := by rw [cell_of_row _ _ _ _ _ _ hgX.out]; rfl
            go_upto_region 17 with fail
            clear hU c0 c1 c2 c4
            obtain ⟨gx, hgx⟩ : ∃ z, wr.heap.size = z := ⟨_, rfl⟩
            rw [hgx] at d0 d1 d2 hgX hXs ⊢
            have hstep : Vlt (stepsFrom F 0 (t.take (i + 1)) = stepsFrom F 0 (t.take i) ++ stepsAt F x i) := vlt (by
              rw [List.take_add_one, HX.out, show (some x).toList = [x] from rfl, stepsFrom_app, List.length_take, HN.out, Nat.min_eq_left (by omega), Nat.zero_add])
            obtain ⟨own, hown⟩ : ∃ own, F.getD i 0 = own := ⟨_, rfl⟩
            have hownn : own < n := by rw [← hown]; exact hFlow i hlt
            have hownz : (own : Int) < (n : Int) := by omega
            have cown := nvI_at hfU i (by rw [HFl.out]; omega)
            rw [hown] at cown
            have cbo := bvl_at hgrU own (by omega)
            obtain ⟨q, hq⟩ : ∃ q, on h own = q := ⟨_, rfl⟩
            rw [hq] at cbo
            have HQ := vlt hq
            clear hq
            by_cases h1 : x.kind = 1
            case pos => as_aux_lemma =>
              have h2 : ¬ x.kind = 2 := by omega
              have h3 : ¬ x.kind = 3 := by omega
              have h4 : ¬ x.kind = 4 := by omega
              cases q
              case true =>
                have HK2 := vlt (HKW.out.skip hstep.out (by intro s hs; rw [stepsAt, if_neg h2, if_neg h3, if_neg h4] at hs; simp at hs))
                go_wp2
                go_roundg (n - (i + 1))
                case measure => omega
                case rel => exact ⟨i + 1, more, h, by go_num, rfl, by omega, by omega, HK2, hgrU, hbtU⟩
              case false =>
                have HK2 := vlt (HKW.out.skip hstep.out (by intro s hs; rw [stepsAt, if_neg h2, if_neg h3, if_neg h4] at hs; simp at hs))
                go_wp2
                go_roundg (n - (i + 1))
                case measure => omega
                case rel => exact ⟨i + 1, more, h, by go_num, rfl, by omega, by omega, HK2, hgrU, hbtU⟩
            obtain ⟨hxa0, hxai, hxb⟩ := part_in hfx h1
            have hxan : x.a < (n : Int) := by omega
            obtain ⟨na, hna⟩ : ∃ m, nat F x.a = m := ⟨_, rfl⟩
            have hnan : na < n := by rw [← hna, nat]; exact hFlow _ (by omega)
            have hnanz : (na : Int) < (n : Int) := by omega
            have cfa := nvI_at hfU x.a.toNat (by rw [HFl.out]; omega)
            rw [show F.getD x.a.toNat 0 = na from hna] at cfa
            have cba := bvl_at hgrU na (by omega)
            obtain ⟨qa, hqa⟩ : ∃ q, on h na = q := ⟨_, rfl⟩
            rw [hqa] at cba
            by_cases h4 : x.kind = 4
            case pos => as_aux_lemma =>
              have h2 : ¬ x.kind = 2 := by omega
              have h3 : ¬ x.kind = 3 := by omega
              cases q
              case true =>
                have HK2 := vlt (HKW.out.skip hstep.out (by intro s hs; rw [stepsAt, if_neg h2, if_neg h3, if_pos h4, hna, hown] at hs; simp only [List.mem_cons, List.not_mem_nil, or_false] at hs; subst hs; intro _; exact HQ.out))
                go_wp2
                go_roundg (n - (i + 1))
                case measure => omega
                case rel => exact ⟨i + 1, more, h, by go_num, rfl, by omega, by omega, HK2, hgrU, hbtU⟩
              case false =>
                cases qa
                case true =>
                  have HK2 := vlt (HKW.out.turn (D' := stepsFrom F 0 (t.take (i + 1))) (h' := h.set own true) (by exact HKW.out.ki.set (s := ([na], own)) (HS.out ▸ mem_stepsFrom.2 ⟨i, x, HX.out, by rw [Nat.zero_add, HF0.out]; show _ ∈ stepsAt F x i; rw [stepsAt, if_neg h2, if_neg h3, if_pos h4, hna, hown]; simp⟩) (by simp only [List.mem_cons, List.not_mem_nil, or_false, forall_eq]; exact hqa)) (by have := offs_set (h := h) (p := own) (by rw [hlen]; omega) HQ.out; omega))
                  have fb := frozen_of_row _ _ own _ _ hgrU.out
                  have hset := world_set_cell hgrU.out own (.bool true)
                  rw [bvl_set] at hset
                  have hbt9 := hbtU.set (i := own) (.bool true)
                  go_wp2
                  go_roundg (n - (i + 1))
                  case measure => omega
                  case rel => exact ⟨i + 1, true, h.set own true, by go_num, rfl, by omega, by omega, HK2, hset, hbt9⟩
                case false =>
                  have HK2 := vlt (HKW.out.skip hstep.out (by intro s hs; rw [stepsAt, if_neg h2, if_neg h3, if_pos h4, hna, hown] at hs; simp only [List.mem_cons, List.not_mem_nil, or_false] at hs; subst hs; intro ha; have := ha na (by simp); rw [hqa] at this; cases this))
                  go_wp2
                  go_roundg (n - (i + 1))
                  case measure => omega
                  case rel => exact ⟨i + 1, more, h, by go_num, rfl, by omega, by omega, HK2, hgrU, hbtU⟩
            obtain ⟨hxb0, hxbi⟩ := hxb h4
            have hxbn : x.b < (n : Int) := by omega
            obtain ⟨nb, hnb⟩ : ∃ m, nat F x.b = m := ⟨_, rfl⟩
            have hnbn : nb < n := by rw [← hnb, nat]; exact hFlow _ (by omega)
            have hnbnz : (nb : Int) < (n : Int) := by omega
            have cfb := nvI_at hfU x.b.toNat (by rw [HFl.out]; omega)
            rw [show F.getD x.b.toNat 0 = nb from hnb] at cfb
            have cbb := bvl_at hgrU nb (by omega)
            obtain ⟨qb, hqb⟩ : ∃ q, on h nb = q := ⟨_, rfl⟩
            rw [hqb] at cbb
            have hk4 : x.kind < 4 := part_low hfx h4
            by_cases h2 : x.kind = 2
            case pos =>
              have h3 : ¬ x.kind = 3 := by omega
              cases q
              case true => as_aux_lemma =>
                by_cases hab : qa = true ∧ qb = true
                case pos =>
                  obtain ⟨rfl, rfl⟩ := hab
                  have HK2 := vlt (HKW.out.skip hstep.out (by intro s hs; rw [stepsAt, if_pos h2, hna, hnb, hown] at hs; simp only [List.mem_cons, List.not_mem_nil, or_false] at hs; rcases hs with rfl | rfl | rfl; (intro _; exact hqa); (intro _; exact hqb); (intro _; exact HQ.out)))
                  go_wp2
                  go_roundg (n - (i + 1))
                  case measure => omega
                  case rel => exact ⟨i + 1, more, h, by go_num, rfl, by omega, by omega, HK2, hgrU, hbtU⟩
                case neg =>
                  have HK2 := vlt (HKW.out.turn (D' := stepsFrom F 0 (t.take (i + 1))) (h' := (h.set na true).set nb true) (by
                    have k1 : KI S b0 (h.set na true) n := by
                      exact HKW.out.ki.set (s := ([own], na)) (HS.out ▸ mem_stepsFrom.2 ⟨i, x, HX.out, by rw [Nat.zero_add, HF0.out]; show _ ∈ stepsAt F x i; rw [stepsAt, if_pos h2, hna, hnb, hown]; simp⟩) (by simp only [List.mem_cons, List.not_mem_nil, or_false, forall_eq]; exact HQ.out)
                    exact k1.set (s := ([own], nb)) (HS.out ▸ mem_stepsFrom.2 ⟨i, x, HX.out, by rw [Nat.zero_add, HF0.out]; show _ ∈ stepsAt F x i; rw [stepsAt, if_pos h2, hna, hnb, hown]; simp⟩) (by simp only [List.mem_cons, List.not_mem_nil, or_false, forall_eq]; exact on_keep HQ.out)) (offs_two (by rw [hlen]; omega) (by rw [hlen]; omega) (by rw [hqa, hqb]; exact hab)))
                  have hcond := bool_nn hab
                  rcases hcond with ⟨rfl, rfl⟩ | rfl
                  · skip
                    go_upto_region 19 with fail
                    obtain ⟨Y, hY⟩ : ∃ Y, U = Y := ⟨_, rfl⟩
                    rw [hY] at hgrU hfU hgX hbtU
                    rw [hY]
                    clear hY
                    have yx1 : ∀ W', But gh Y W' → W'.cell? ⟨gx, 1, none⟩ = some (.int .i64 x.a) := fun W' h => by rw [cell_of_row _ _ _ _ _ _ (row_but hgX h (by omega)).out]; rfl
                    have yx2 : ∀ W', But gh Y W' → W'.cell? ⟨gx, 2, none⟩ = some (.int .i64 x.b) := fun W' h => by rw [cell_of_row _ _ _ _ _ _ (row_but hgX h (by omega)).out]; rfl
                    have yfa : ∀ W', But gh Y W' → W'.cell? ⟨gf, x.a.toNat, none⟩ = some (.int .i64 (na : Nat)) := fun W' h => by rw [nvI_at (row_but hfU h (by omega)) x.a.toNat (by rw [HFl.out]; omega), show F.getD x.a.toNat 0 = na from hna]
                    have yfb : ∀ W', But gh Y W' → W'.cell? ⟨gf, x.b.toNat, none⟩ = some (.int .i64 (nb : Nat)) := fun W' h => by rw [nvI_at (row_but hfU h (by omega)) x.b.toNat (by rw [HFl.out]; omega), show F.getD x.b.toNat 0 = nb from hnb]
                    have hgrY := hgrU
                    refine wp_region_held_drew (S := fun W' => But gh Y W') (by kernel_rfl) ((But.refl _ _).drew) (fun hHeld => ?_)
                    refine wpAnyH_take (i := 0) (oi := ⟨(some 92), _, _, _, _, _⟩) (v := .slice (some ⟨gh, 0, none⟩) n n) rfl (by kernel_rfl) (by kernel_rfl) (by kernel_rfl) (fun _ _ _ h => h) (Or.inl ⟨by rfl, ?yr19_0⟩) hHeld ?_
                    case yr19_0 => (intro W0 hSw; go_simp; try with_reducible rfl)
                    try simp only [pu]
                    refine wpAnyH_take (i := 1) (oi := ⟨(some 93), _, _, _, _, _⟩) (v := .slice (some ⟨gf, 0, none⟩) n n) rfl (by kernel_rfl) (by kernel_rfl) (by kernel_rfl) (fun _ _ _ h => h) (Or.inl ⟨by rfl, ?yr19_1⟩) hHeld ?_
                    case yr19_1 => (intro W0 hSw; go_simp; try with_reducible rfl)
                    try simp only [pu]
                    refine wpAnyH_take (i := 2) (oi := ⟨(some 94), _, _, _, _, _⟩) (v := .pointer (some ⟨gx, 1, none⟩)) rfl (by kernel_rfl) (by kernel_rfl) (by kernel_rfl) (fun _ _ _ h => h) (Or.inl ⟨by rfl, ?yr19_2⟩) hHeld ?_
                    case yr19_2 => (intro W0 hSw; go_simp; try with_reducible rfl)
                    try simp only [pu]
                    refine wpAnyH_take (i := 3) (oi := ⟨(some 95), _, _, _, _, _⟩) (v := .int .i64 x.a) rfl (by kernel_rfl) (by kernel_rfl) (by kernel_rfl) (fun _ _ _ h => h) (Or.inl ⟨by rfl, ?yr19_3⟩) hHeld ?_
                    case yr19_3 => (intro W0 hSw; have cc := yx1 _ hSw; go_simp; try with_reducible rfl)
                    try simp only [pu]
                    refine wpAnyH_take (i := 4) (oi := ⟨(some 96), _, _, _, _, _⟩) (v := .pointer (some ⟨gf, x.a.toNat, none⟩)) rfl (by kernel_rfl) (by kernel_rfl) (by kernel_rfl) (fun _ _ _ h => h) (Or.inl ⟨by rfl, ?yr19_4⟩) hHeld ?_
                    case yr19_4 => (intro W0 hSw; go_simp; try with_reducible rfl)
                    try simp only [pu]
                    refine wpAnyH_take (i := 5) (oi := ⟨(some 97), _, _, _, _, _⟩) (v := .int .i64 (na : Nat)) rfl (by kernel_rfl) (by kernel_rfl) (by kernel_rfl) (fun _ _ _ h => h) (Or.inl ⟨by rfl, ?yr19_5⟩) hHeld ?_
                    case yr19_5 => (intro W0 hSw; have cc := yfa _ hSw; go_simp; try with_reducible rfl)
                    try simp only [pu]
                    refine wpAnyH_take (i := 6) (oi := ⟨(some 98), _, _, _, _, _⟩) (v := .slice (some ⟨gh, 0, none⟩) n n) rfl (by kernel_rfl) (by kernel_rfl) (by kernel_rfl) (fun _ _ _ h => h) (Or.inl ⟨by rfl, ?yr19_6⟩) hHeld ?_
                    case yr19_6 => (intro W0 hSw; go_simp; try with_reducible rfl)
                    try simp only [pu]
                    refine wpAnyH_take (i := 7) (oi := ⟨(some 99), _, _, _, _, _⟩) (v := .slice (some ⟨gf, 0, none⟩) n n) rfl (by kernel_rfl) (by kernel_rfl) (by kernel_rfl) (fun _ _ _ h => h) (Or.inl ⟨by rfl, ?yr19_7⟩) hHeld ?_
                    case yr19_7 => (intro W0 hSw; go_simp; try with_reducible rfl)
                    try simp only [pu]
                    refine wpAnyH_take (i := 8) (oi := ⟨(some 100), _, _, _, _, _⟩) (v := .pointer (some ⟨gx, 2, none⟩)) rfl (by kernel_rfl) (by kernel_rfl) (by kernel_rfl) (fun _ _ _ h => h) (Or.inl ⟨by rfl, ?yr19_8⟩) hHeld ?_
                    case yr19_8 => (intro W0 hSw; go_simp; try with_reducible rfl)
                    try simp only [pu]
                    refine wpAnyH_take (i := 9) (oi := ⟨(some 101), _, _, _, _, _⟩) (v := .int .i64 x.b) rfl (by kernel_rfl) (by kernel_rfl) (by kernel_rfl) (fun _ _ _ h => h) (Or.inl ⟨by rfl, ?yr19_9⟩) hHeld ?_
                    case yr19_9 => (intro W0 hSw; have cc := yx2 _ hSw; go_simp; try with_reducible rfl)
                    try simp only [pu]
                    refine wpAnyH_take (i := 10) (oi := ⟨(some 102), _, _, _, _, _⟩) (v := .pointer (some ⟨gf, x.b.toNat, none⟩)) rfl (by kernel_rfl) (by kernel_rfl) (by kernel_rfl) (fun _ _ _ h => h) (Or.inl ⟨by rfl, ?yr19_10⟩) hHeld ?_
                    case yr19_10 => (intro W0 hSw; go_simp; try with_reducible rfl)
                    try simp only [pu]
                    refine wpAnyH_take (i := 11) (oi := ⟨(some 103), _, _, _, _, _⟩) (v := .int .i64 (nb : Nat)) rfl (by kernel_rfl) (by kernel_rfl) (by kernel_rfl) (fun _ _ _ h => h) (Or.inl ⟨by rfl, ?yr19_11⟩) hHeld ?_
                    case yr19_11 => (intro W0 hSw; have cc := yfb _ hSw; go_simp; try with_reducible rfl)
                    try simp only [pu]
                    refine wpAnyH_take (i := 12) (oi := ⟨(some 104), _, _, _, _, _⟩) (v := .pointer (some ⟨gh, na, none⟩)) rfl (by kernel_rfl) (by kernel_rfl) (by kernel_rfl) (fun _ _ _ h => h) (Or.inl ⟨by rfl, ?yr19_12⟩) hHeld ?_
                    case yr19_12 => (intro W0 hSw; go_simp; try with_reducible rfl)
                    try simp only [pu]
                    refine wpAnyH_ready (rs := [13]) (by kernel_rfl) (by simp) ?_
                    refine AllReadyH.cons (i := 13) (o := ⟨none, _, _, _, _, _⟩) rfl (fun K hK => ?_) AllReadyH.nil
                    refine step_setb (by rfl) 4 (.tmp 104) (.const (.bool true)) rfl (by kernel_rfl) gh na rfl true rfl _ 4 (show Y.drew.heap[gh]? = _ from hgrY.out) (by rw [bvl_len, hlen]; omega) Y (But.refl gh Y).drew ?_
                    intro Y1 hY1 hk1
                    rw [bvl_set] at hY1
                    refine hK.out _ _ (show But gh Y Y1 from hk1) (fun hHeld => ?_)
                    clear hK K
                    try simp only [pu]
                    refine wpAnyH_take (i := 14) (oi := ⟨(some 105), _, _, _, _, _⟩) (v := .pointer (some ⟨gh, nb, none⟩)) rfl (by kernel_rfl) (by kernel_rfl) (by kernel_rfl) (fun _ _ _ h => h) (Or.inl ⟨by rfl, ?yr19_14⟩) hHeld ?_
                    case yr19_14 => (intro W0 hSw; go_simp; try with_reducible rfl)
                    try simp only [pu]
                    refine wpAnyH_ready (rs := [15]) (by kernel_rfl) (by simp) ?_
                    refine AllReadyH.cons (i := 15) (o := ⟨none, _, _, _, _, _⟩) rfl (fun K hK => ?_) AllReadyH.nil
                    refine step_setb (by rfl) 4 (.tmp 105) (.const (.bool true)) rfl (by kernel_rfl) gh nb rfl true rfl _ 4 hY1.out (by rw [bvl_len, List.length_set, hlen]; omega) Y hk1 ?_
                    intro Y2 hY2 hk2
                    rw [bvl_set] at hY2
                    refine hK.out _ _ (show But gh Y Y2 from hk2) (fun hHeld => ?_)
                    clear hK K
                    try simp only [pu]
                    refine wpAnyH_take (i := 16) (oi := ⟨(some 8), _, _, _, _, _⟩) (v := .bool true) rfl (by kernel_rfl) (by kernel_rfl) (by kernel_rfl) (fun _ _ _ h => h) (Or.inl ⟨by rfl, ?yr19_16⟩) hHeld ?_
                    case yr19_16 => (intro W0 hSw; go_simp; try with_reducible rfl)
                    try simp only [pu]
                    refine wpAnyH_done (by kernel_rfl) ?_ _
                    have hbt9 := hbtU.trans hk2
                    have d0 : Y2.cell? ⟨gx, 0, none⟩ = some (.int .i64 x.kind) := by rw [cell_of_row _ _ _ _ _ _ (row_but hgX hk2 (by omega)).out]; rfl
                    clear hHeld hk1 hY1 yx1 yx2 yfa yfb
                    go_wp2
                    go_roundg (n - (i + 1))
                    case measure => omega
                    case rel => exact ⟨i + 1, true, (h.set na true).set nb true, by go_num, rfl, by omega, by omega, HK2, hY2, hbt9⟩
                  · skip
                    go_upto_region 19 with fail
                    obtain ⟨Y, hY⟩ : ∃ Y, U = Y := ⟨_, rfl⟩
                    rw [hY] at hgrU hfU hgX hbtU
                    rw [hY]
                    clear hY
                    have yx1 : ∀ W', But gh Y W' → W'.cell? ⟨gx, 1, none⟩ = some (.int .i64 x.a) := fun W' h => by rw [cell_of_row _ _ _ _ _ _ (row_but hgX h (by omega)).out]; rfl
                    have yx2 : ∀ W', But gh Y W' → W'.cell? ⟨gx, 2, none⟩ = some (.int .i64 x.b) := fun W' h => by rw [cell_of_row _ _ _ _ _ _ (row_but hgX h (by omega)).out]; rfl
                    have yfa : ∀ W', But gh Y W' → W'.cell? ⟨gf, x.a.toNat, none⟩ = some (.int .i64 (na : Nat)) := fun W' h => by rw [nvI_at (row_but hfU h (by omega)) x.a.toNat (by rw [HFl.out]; omega), show F.getD x.a.toNat 0 = na from hna]
                    have yfb : ∀ W', But gh Y W' → W'.cell? ⟨gf, x.b.toNat, none⟩ = some (.int .i64 (nb : Nat)) := fun W' h => by rw [nvI_at (row_but hfU h (by omega)) x.b.toNat (by rw [HFl.out]; omega), show F.getD x.b.toNat 0 = nb from hnb]
                    have hgrY := hgrU
                    refine wp_region_held_drew (S := fun W' => But gh Y W') (by kernel_rfl) ((But.refl _ _).drew) (fun hHeld => ?_)
                    refine wpAnyH_take (i := 0) (oi := ⟨(some 92), _, _, _, _, _⟩) (v := .slice (some ⟨gh, 0, none⟩) n n) rfl (by kernel_rfl) (by kernel_rfl) (by kernel_rfl) (fun _ _ _ h => h) (Or.inl ⟨by rfl, ?yr19_0⟩) hHeld ?_
                    case yr19_0 => (intro W0 hSw; go_simp; try with_reducible rfl)
                    try simp only [pu]
                    refine wpAnyH_take (i := 1) (oi := ⟨(some 93), _, _, _, _, _⟩) (v := .slice (some ⟨gf, 0, none⟩) n n) rfl (by kernel_rfl) (by kernel_rfl) (by kernel_rfl) (fun _ _ _ h => h) (Or.inl ⟨by rfl, ?yr19_1⟩) hHeld ?_
                    case yr19_1 => (intro W0 hSw; go_simp; try with_reducible rfl)
                    try simp only [pu]
                    refine wpAnyH_take (i := 2) (oi := ⟨(some 94), _, _, _, _, _⟩) (v := .pointer (some ⟨gx, 1, none⟩)) rfl (by kernel_rfl) (by kernel_rfl) (by kernel_rfl) (fun _ _ _ h => h) (Or.inl ⟨by rfl, ?yr19_2⟩) hHeld ?_
                    case yr19_2 => (intro W0 hSw; go_simp; try with_reducible rfl)
                    try simp only [pu]
                    refine wpAnyH_take (i := 3) (oi := ⟨(some 95), _, _, _, _, _⟩) (v := .int .i64 x.a) rfl (by kernel_rfl) (by kernel_rfl) (by kernel_rfl) (fun _ _ _ h => h) (Or.inl ⟨by rfl, ?yr19_3⟩) hHeld ?_
                    case yr19_3 => (intro W0 hSw; have cc := yx1 _ hSw; go_simp; try with_reducible rfl)
                    try simp only [pu]
                    refine wpAnyH_take (i := 4) (oi := ⟨(some 96), _, _, _, _, _⟩) (v := .pointer (some ⟨gf, x.a.toNat, none⟩)) rfl (by kernel_rfl) (by kernel_rfl) (by kernel_rfl) (fun _ _ _ h => h) (Or.inl ⟨by rfl, ?yr19_4⟩) hHeld ?_
                    case yr19_4 => (intro W0 hSw; go_simp; try with_reducible rfl)
                    try simp only [pu]
                    refine wpAnyH_take (i := 5) (oi := ⟨(some 97), _, _, _, _, _⟩) (v := .int .i64 (na : Nat)) rfl (by kernel_rfl) (by kernel_rfl) (by kernel_rfl) (fun _ _ _ h => h) (Or.inl ⟨by rfl, ?yr19_5⟩) hHeld ?_
                    case yr19_5 => (intro W0 hSw; have cc := yfa _ hSw; go_simp; try with_reducible rfl)
                    try simp only [pu]
                    refine wpAnyH_take (i := 6) (oi := ⟨(some 98), _, _, _, _, _⟩) (v := .slice (some ⟨gh, 0, none⟩) n n) rfl (by kernel_rfl) (by kernel_rfl) (by kernel_rfl) (fun _ _ _ h => h) (Or.inl ⟨by rfl, ?yr19_6⟩) hHeld ?_
                    case yr19_6 => (intro W0 hSw; go_simp; try with_reducible rfl)
                    try simp only [pu]
                    refine wpAnyH_take (i := 7) (oi := ⟨(some 99), _, _, _, _, _⟩) (v := .slice (some ⟨gf, 0, none⟩) n n) rfl (by kernel_rfl) (by kernel_rfl) (by kernel_rfl) (fun _ _ _ h => h) (Or.inl ⟨by rfl, ?yr19_7⟩) hHeld ?_
                    case yr19_7 => (intro W0 hSw; go_simp; try with_reducible rfl)
                    try simp only [pu]
                    refine wpAnyH_take (i := 8) (oi := ⟨(some 100), _, _, _, _, _⟩) (v := .pointer (some ⟨gx, 2, none⟩)) rfl (by kernel_rfl) (by kernel_rfl) (by kernel_rfl) (fun _ _ _ h => h) (Or.inl ⟨by rfl, ?yr19_8⟩) hHeld ?_
                    case yr19_8 => (intro W0 hSw; go_simp; try with_reducible rfl)
                    try simp only [pu]
                    refine wpAnyH_take (i := 9) (oi := ⟨(some 101), _, _, _, _, _⟩) (v := .int .i64 x.b) rfl (by kernel_rfl) (by kernel_rfl) (by kernel_rfl) (fun _ _ _ h => h) (Or.inl ⟨by rfl, ?yr19_9⟩) hHeld ?_
                    case yr19_9 => (intro W0 hSw; have cc := yx2 _ hSw; go_simp; try with_reducible rfl)
                    try simp only [pu]
                    refine wpAnyH_take (i := 10) (oi := ⟨(some 102), _, _, _, _, _⟩) (v := .pointer (some ⟨gf, x.b.toNat, none⟩)) rfl (by kernel_rfl) (by kernel_rfl) (by kernel_rfl) (fun _ _ _ h => h) (Or.inl ⟨by rfl, ?yr19_10⟩) hHeld ?_
                    case yr19_10 => (intro W0 hSw; go_simp; try with_reducible rfl)
                    try simp only [pu]
                    refine wpAnyH_take (i := 11) (oi := ⟨(some 103), _, _, _, _, _⟩) (v := .int .i64 (nb : Nat)) rfl (by kernel_rfl) (by kernel_rfl) (by kernel_rfl) (fun _ _ _ h => h) (Or.inl ⟨by rfl, ?yr19_11⟩) hHeld ?_
                    case yr19_11 => (intro W0 hSw; have cc := yfb _ hSw; go_simp; try with_reducible rfl)
                    try simp only [pu]
                    refine wpAnyH_take (i := 12) (oi := ⟨(some 104), _, _, _, _, _⟩) (v := .pointer (some ⟨gh, na, none⟩)) rfl (by kernel_rfl) (by kernel_rfl) (by kernel_rfl) (fun _ _ _ h => h) (Or.inl ⟨by rfl, ?yr19_12⟩) hHeld ?_
                    case yr19_12 => (intro W0 hSw; go_simp; try with_reducible rfl)
                    try simp only [pu]
                    refine wpAnyH_ready (rs := [13]) (by kernel_rfl) (by simp) ?_
                    refine AllReadyH.cons (i := 13) (o := ⟨none, _, _, _, _, _⟩) rfl (fun K hK => ?_) AllReadyH.nil
                    refine step_setb (by rfl) 4 (.tmp 104) (.const (.bool true)) rfl (by kernel_rfl) gh na rfl true rfl _ 4 (show Y.drew.heap[gh]? = _ from hgrY.out) (by rw [bvl_len, hlen]; omega) Y (But.refl gh Y).drew ?_
                    intro Y1 hY1 hk1
                    rw [bvl_set] at hY1
                    refine hK.out _ _ (show But gh Y Y1 from hk1) (fun hHeld => ?_)
                    clear hK K
                    try simp only [pu]
                    refine wpAnyH_take (i := 14) (oi := ⟨(some 105), _, _, _, _, _⟩) (v := .pointer (some ⟨gh, nb, none⟩)) rfl (by kernel_rfl) (by kernel_rfl) (by kernel_rfl) (fun _ _ _ h => h) (Or.inl ⟨by rfl, ?yr19_14⟩) hHeld ?_
                    case yr19_14 => (intro W0 hSw; go_simp; try with_reducible rfl)
                    try simp only [pu]
                    refine wpAnyH_ready (rs := [15]) (by kernel_rfl) (by simp) ?_
                    refine AllReadyH.cons (i := 15) (o := ⟨none, _, _, _, _, _⟩) rfl (fun K hK => ?_) AllReadyH.nil
                    refine step_setb (by rfl) 4 (.tmp 105) (.const (.bool true)) rfl (by kernel_rfl) gh nb rfl true rfl _ 4 hY1.out (by rw [bvl_len, List.length_set, hlen]; omega) Y hk1 ?_
                    intro Y2 hY2 hk2
                    rw [bvl_set] at hY2
                    refine hK.out _ _ (show But gh Y Y2 from hk2) (fun hHeld => ?_)
                    clear hK K
                    try simp only [pu]
                    refine wpAnyH_take (i := 16) (oi := ⟨(some 8), _, _, _, _, _⟩) (v := .bool true) rfl (by kernel_rfl) (by kernel_rfl) (by kernel_rfl) (fun _ _ _ h => h) (Or.inl ⟨by rfl, ?yr19_16⟩) hHeld ?_
                    case yr19_16 => (intro W0 hSw; go_simp; try with_reducible rfl)
                    try simp only [pu]
                    refine wpAnyH_done (by kernel_rfl) ?_ _
                    have hbt9 := hbtU.trans hk2
                    have d0 : Y2.cell? ⟨gx, 0, none⟩ = some (.int .i64 x.kind) := by rw [cell_of_row _ _ _ _ _ _ (row_but hgX hk2 (by omega)).out]; rfl
                    clear hHeld hk1 hY1 yx1 yx2 yfa yfb
                    go_wp2
                    go_roundg (n - (i + 1))
                    case measure => omega
                    case rel => exact ⟨i + 1, true, (h.set na true).set nb true, by go_num, rfl, by omega, by omega, HK2, hY2, hbt9⟩
              case false => as_aux_lemma =>
                by_cases hab : qa = true ∧ qb = true
                case pos =>
                  obtain ⟨rfl, rfl⟩ := hab
                  have HK2 := vlt (HKW.out.turn (D' := stepsFrom F 0 (t.take (i + 1))) (h' := h.set own true) (by exact HKW.out.ki.set (s := ([na, nb], own)) (HS.out ▸ mem_stepsFrom.2 ⟨i, x, HX.out, by rw [Nat.zero_add, HF0.out]; show _ ∈ stepsAt F x i; rw [stepsAt, if_pos h2, hna, hnb, hown]; simp⟩) (by simp only [List.mem_cons, List.not_mem_nil, or_false, forall_eq_or_imp, forall_eq]; exact ⟨hqa, hqb⟩)) (by have := offs_set (h := h) (p := own) (by rw [hlen]; omega) HQ.out; omega))
                  have fb := frozen_of_row _ _ own _ _ hgrU.out
                  have hset := world_set_cell hgrU.out own (.bool true)
                  rw [bvl_set] at hset
                  have hbt9 := hbtU.set (i := own) (.bool true)
                  go_wp2
                  go_roundg (n - (i + 1))
                  case measure => omega
                  case rel => exact ⟨i + 1, true, h.set own true, by go_num, rfl, by omega, by omega, HK2, hset, hbt9⟩
                case neg =>
                  have hcond := bool_nn hab
                  have hclo : ∀ s ∈ stepsAt F x i, (∀ a ∈ s.1, on h a = true) → on h s.2 = true := by
                    intro s hs; rw [stepsAt, if_pos h2, hna, hnb, hown] at hs; simp only [List.mem_cons, List.not_mem_nil, or_false] at hs; rcases hs with rfl | rfl | rfl; (intro ha; have := ha own (by simp); rw [HQ.out] at this; cases this); (intro ha; have := ha own (by simp); rw [HQ.out] at this; cases this); (intro ha; exfalso; have e1 := ha na (by simp); have e2 := ha nb (by simp); rw [hqa] at e1; rw [hqb] at e2; exact hab ⟨e1, e2⟩)
                  rcases hcond with ⟨rfl, rfl⟩ | rfl
                  · skip
                    have HK2 := vlt (HKW.out.skip hstep.out (by exact hclo))
                    go_wp2
                    go_roundg (n - (i + 1))
                    case measure => omega
                    case rel => exact ⟨i + 1, more, h, by go_num, rfl, by omega, by omega, HK2, hgrU, hbtU⟩
                  · skip
                    have HK2 := vlt (HKW.out.skip hstep.out (by exact hclo))
                    go_wp2
                    go_roundg (n - (i + 1))
                    case measure => omega
                    case rel => exact ⟨i + 1, more, h, by go_num, rfl, by omega, by omega, HK2, hgrU, hbtU⟩
            have h3 : x.kind = 3 := by have := fits_kind hfx; omega
            cases q
            case true => as_aux_lemma =>
              by_cases hab : qa = true ∧ qb = false
              case pos =>
                obtain ⟨rfl, rfl⟩ := hab
                have HK2 := vlt (HKW.out.turn (D' := stepsFrom F 0 (t.take (i + 1))) (h' := h.set nb true) (by exact HKW.out.ki.set (s := ([own, na], nb)) (HS.out ▸ mem_stepsFrom.2 ⟨i, x, HX.out, by rw [Nat.zero_add, HF0.out]; show _ ∈ stepsAt F x i; rw [stepsAt, if_neg h2, if_pos h3, hna, hnb, hown]; simp⟩) (by simp only [List.mem_cons, List.not_mem_nil, or_false, forall_eq_or_imp, forall_eq]; exact ⟨HQ.out, hqa⟩)) (by have := offs_set (h := h) (p := nb) (by rw [hlen]; omega) hqb; omega))
                have fb := frozen_of_row _ _ nb _ _ hgrU.out
                have hset := world_set_cell hgrU.out nb (.bool true)
                rw [bvl_set] at hset
                have hbt9 := hbtU.set (i := nb) (.bool true)
                go_wp2
                go_roundg (n - (i + 1))
                case measure => omega
                case rel => exact ⟨i + 1, true, h.set nb true, by go_num, rfl, by omega, by omega, HK2, hset, hbt9⟩
              case neg =>
                have hcond := bool_nf hab
                have hclo : ∀ s ∈ stepsAt F x i, (∀ a ∈ s.1, on h a = true) → on h s.2 = true := by
                  intro s hs; rw [stepsAt, if_neg h2, if_pos h3, hna, hnb, hown] at hs; simp only [List.mem_cons, List.not_mem_nil, or_false] at hs; rcases hs with rfl | rfl; (intro ha; have e1 := ha na (by simp); rw [hqa] at e1; (rcases hcond with ⟨_, h5⟩ | h5; (rw [h5] at hqb; exact hqb); (rw [h5] at e1; cases e1))); (intro _; exact HQ.out)
                rcases hcond with ⟨rfl, rfl⟩ | rfl
                · skip
                  have HK2 := vlt (HKW.out.skip hstep.out (by exact hclo))
                  go_wp2
                  go_roundg (n - (i + 1))
                  case measure => omega
                  case rel => exact ⟨i + 1, more, h, by go_num, rfl, by omega, by omega, HK2, hgrU, hbtU⟩
                · skip
                  have HK2 := vlt (HKW.out.skip hstep.out (by exact hclo))
                  go_wp2
                  go_roundg (n - (i + 1))
                  case measure => omega
                  case rel => exact ⟨i + 1, more, h, by go_num, rfl, by omega, by omega, HK2, hgrU, hbtU⟩
            case false => as_aux_lemma =>
              by_cases hab : qa = true ∧ qb = true
              case pos =>
                obtain ⟨rfl, rfl⟩ := hab
                have HK2 := vlt (HKW.out.turn (D' := stepsFrom F 0 (t.take (i + 1))) (h' := h.set own true) (by exact HKW.out.ki.set (s := ([na, nb], own)) (HS.out ▸ mem_stepsFrom.2 ⟨i, x, HX.out, by rw [Nat.zero_add, HF0.out]; show _ ∈ stepsAt F x i; rw [stepsAt, if_neg h2, if_pos h3, hna, hnb, hown]; simp⟩) (by simp only [List.mem_cons, List.not_mem_nil, or_false, forall_eq_or_imp, forall_eq]; exact ⟨hqa, hqb⟩)) (by have := offs_set (h := h) (p := own) (by rw [hlen]; omega) HQ.out; omega))
                have fb := frozen_of_row _ _ own _ _ hgrU.out
                have hset := world_set_cell hgrU.out own (.bool true)
                rw [bvl_set] at hset
                have hbt9 := hbtU.set (i := own) (.bool true)
                go_wp2
                go_roundg (n - (i + 1))
                case measure => omega
                case rel => exact ⟨i + 1, true, h.set own true, by go_num, rfl, by omega, by omega, HK2, hset, hbt9⟩
              case neg =>
                have hcond := bool_nn hab
                have hclo : ∀ s ∈ stepsAt F x i, (∀ a ∈ s.1, on h a = true) → on h s.2 = true := by
                  intro s hs; rw [stepsAt, if_neg h2, if_pos h3, hna, hnb, hown] at hs; simp only [List.mem_cons, List.not_mem_nil, or_false] at hs; rcases hs with rfl | rfl; (intro ha; have := ha own (by simp); rw [HQ.out] at this; cases this); (intro ha; exfalso; have e1 := ha na (by simp); have e2 := ha nb (by simp); rw [hqa] at e1; rw [hqb] at e2; exact hab ⟨e1, e2⟩)
                rcases hcond with ⟨rfl, rfl⟩ | rfl
                · skip
                  have HK2 := vlt (HKW.out.skip hstep.out (by exact hclo))
                  go_wp2
                  go_roundg (n - (i + 1))
                  case measure => omega
                  case rel => exact ⟨i + 1, more, h, by go_num, rfl, by omega, by omega, HK2, hgrU, hbtU⟩
                · skip
                  have HK2 := vlt (HKW.out.skip hstep.out (by exact hclo))
                  go_wp2
                  go_roundg (n - (i + 1))
                  case measure => omega
                  case rel => exact ⟨i + 1, more, h, by go_num, rfl, by omega, by omega, HK2, hgrU, hbtU⟩
end Go.Proofs.Ytknmccpoheekmaa
