/-
  Contract of the document's own like: of each thing the first that is the same. No statement is proved here. Conditions: a table that may be.
-/
import Derived.Test.YtknmccpoheekmaaKnB
import Derived.Test.YtknmccpoheekmaaKnZ
import Derived.Test.YtknmccpoheekmaaRow
import Derived.Test.YtknmccpoheekmaaMix
namespace Go.Proofs.Ytknmccpoheekmaa
open Go.RowKit

theorem zero_rth (w : World) : (zeroValue 54).run Try.prog w = .ok (.agg th0.cells.toArray) w := by kernel_rfl
theorem part_in {x : Th} {i : Nat} (h : fitsT x (i : Int) = true) (h1 : ¬ x.kind = 1) : 0 ≤ x.a ∧ x.a < (i : Int) ∧ (¬ x.kind = 4 → 0 ≤ x.b ∧ x.b < (i : Int)) := by
  rw [fitsT, if_neg h1] at h
  by_cases h23 : x.kind = 2 ∨ x.kind = 3
  · rw [if_pos h23, Bool.and_eq_true, below, below, Bool.and_eq_true, Bool.and_eq_true, decide_eq_true_iff, decide_eq_true_iff, decide_eq_true_iff, decide_eq_true_iff] at h
    exact ⟨h.1.1, h.1.2, fun _ => h.2⟩
  · rw [if_neg h23] at h
    split at h
    · rename_i h4
      rw [below, Bool.and_eq_true, decide_eq_true_iff, decide_eq_true_iff] at h
      exact ⟨h.1, h.2, fun h5 => absurd h4 h5⟩
    · cases h
theorem part_low {x : Th} {i : Nat} (h : fitsT x (i : Int) = true) (h4 : ¬ x.kind = 4) : x.kind < 4 := by
  have := fits_kind h
  omega
theorem plain_kd {F : List Nat} {x y : Th} {i k : Nat} (hx : fitsT x (i : Int) = true) (hy : fitsT y (k : Int) = true) (e : plainT F x i = plainT F y k) : x.kind = y.kind := by
  rw [← plain_kind (F := F) (p := i) (fits_kind hx), e, plain_kind (fits_kind hy)]
theorem plain_an {F : List Nat} {x y : Th} {i k : Nat} (h1 : ¬ x.kind = 1) (h2 : ¬ y.kind = 1) (e : plainT F x i = plainT F y k) : nat F x.a = nat F y.a := by
  have h := congrArg Th.a e
  simp only [plainT, if_neg h1, if_neg h2] at h
  split at h <;> split at h <;> (dsimp only at h; exact_mod_cast h)
theorem plain_nn {F : List Nat} {x y : Th} {i k : Nat} (h1 : x.kind = 4) (h2 : y.kind = 4) (e : plainT F x i = plainT F y k) : x.n = y.n := by
  rw [plainT, plainT, if_neg (by omega), if_neg (by omega), if_neg (by omega), if_neg (by omega)] at e
  injection e
theorem plain_bn {F : List Nat} {x y : Th} {i k : Nat} (h1 : ¬ x.kind = 1) (h2 : ¬ y.kind = 1) (e : plainT F x i = plainT F y k) : (x.kind = 2 ∨ x.kind = 3) → (y.kind = 2 ∨ y.kind = 3) → nat F x.b = nat F y.b := by
  intro h23 h45
  rw [plainT, plainT, if_neg h1, if_neg h2, if_pos h23, if_pos h45] at e
  injection e with _ _ e _
  exact_mod_cast e
theorem like_set {L F : List Nat} {n i q : Nat} (hl : L.length = n) (hi : i < n) (h : ∀ p : Nat, p < i → L.getD p 0 = F.getD p 0) (hq : q = F.getD i 0) : ∀ p : Nat, p < i + 1 → (L.set i q).getD p 0 = F.getD p 0 := by
  intro p hp
  by_cases e : p = i
  · subst e; rw [List.getD_eq_getElem?_getD, List.getElem?_set_self (by omega)]; exact hq
  · rw [List.getD_eq_getElem?_getD, List.getElem?_set_ne (by omega), ← List.getD_eq_getElem?_getD]; exact h p (by omega)
set_option maxRecDepth 100000 in
set_option maxHeartbeats 16000000 in
theorem rlike_any {w : World} {A : Option Addr} {t : List Th} {n : Nat} (c : Nat) (ht : ThP w w.heap.size A t) (hl : t.length = n) (hg : goodT t = true) :
    Calls Try.prog 27 #[.slice A n c] w fun e w' => e = .returned (.slice (some ⟨w.heap.size, 0, none⟩) n n) ∧ Hid (w'.heap[w.heap.size]? = some (.cells (nvI (firstsT t)).toArray 3 (0, 0))) ∧ Below w.heap.size w w' := by
  have hn : n ≤ 500 := by rw [← hl]; exact goodT_len hg
  have HN := Lib.hid hl
  have HG := vlt hg
  have HFI := vlt (firsts_is hg)
  obtain ⟨F, hF⟩ : ∃ F, firstsT t = F := ⟨_, rfl⟩
  have HF := vlt hF
  rw [hF] at HFI
  have hmk1 := make_ints w n (by omega)
  have hz1 := Lib.hid (heap_alloc_new w (.cells (nvI (List.replicate n 0)).toArray 3))
  have hbz1 : Below w.heap.size w (w.alloc (.cells (nvI (List.replicate n 0)).toArray 3)) := (Below.refl _ _).alloc (Nat.le_refl _) _
  generalize w.alloc (.cells (nvI (List.replicate n 0)).toArray 3) = w1 at *
  have hs1 := row_size hz1
  have hzf := zero_rth
  clear hl hg hF
  go_enter Try.func27, Try.ntmps27
  go_wp2
  go_loopg [4, 5, 6, 7] n (fun k s4 s5 s6 s7 wr => ∃ (i : Nat) (L : List Nat), s4 = .int .i64 i ∧ n - i < k + 1 ∧ i ≤ n ∧ Hid (L.length = n) ∧ Vlt (∀ p : Nat, p < i → L.getD p 0 = F.getD p 0) ∧ Hid (wr.heap[w.heap.size]? = some (.cells (nvI L).toArray 3 (0, 0))) ∧ w.heap.size < wr.heap.size ∧ Below w.heap.size w wr)
  case atStart => exact ⟨0, List.replicate n 0, rfl, by omega, Nat.zero_le _, Lib.hid (by simp), vlt (fun p h => by omega), hz1, hs1, hbz1⟩
  case round =>
    obtain ⟨i, L, rfl, hk, hin, HLL, HLP, hg1, hwr, hb⟩ := hrel
    by_cases hlt : i < n
    · have hltz : (i : Int) < (n : Int) := by omega
      obtain ⟨g, o2, x, rfl, hg, HX, _, _, _, _⟩ := ht.at_ (i := i) (by rw [HN.out]; omega)
      have hfx := goodT_at HG.out HX.out
      have hRx := ht.range HX.out
      have hlow := HFI.out.low i (by rw [HN.out]; omega)
      obtain ⟨fi, hfi⟩ : ∃ fi, F.getD i 0 = fi := ⟨_, rfl⟩
      rw [hfi] at hlow
      have HFi := vlt hfi
      clear hfi
      have c9 := nvI_at hg1 i (by rw [HLL.out]; omega)
      have f9 := frozen_of_row _ _ i _ _ hg1.out
      have hset := world_set_cell hg1.out i (.int .i64 (i : Int))
      rw [nvI_set] at hset
      have hbt := (But.refl w.heap.size wr).set (i := i) (.int .i64 (i : Int))
      have hbs := But.below hb hbt (Nat.le_refl _) hb.size
      have hss := row_size hset
      obtain ⟨wo, hwo⟩ : ∃ wo, wo = wr := ⟨_, rfl⟩
      subst hwo
      go_wp2
      go_loopg [5, 6, 7] i (fun k2 s5 s6 s7 wz => ∃ (k q : Nat), s5 = .int .i64 k ∧ i - k < k2 + 1 ∧ k ≤ i ∧ Vlt (q = if fi < k then fi else i) ∧ Hid (wz.heap[w.heap.size]? = some (.cells (nvI (L.set i q)).toArray 3 (0, 0))) ∧ w.heap.size < wz.heap.size ∧ Below w.heap.size w wz)
      case atStart => exact ⟨0, i, rfl, by omega, Nat.zero_le _, vlt (by rw [if_neg (by omega)]), hset, hss, hbs⟩
      case round =>
        obtain ⟨k, q, rfl, hk2, hki, HQ, hgz, hwz, hbz⟩ := hrel
        obtain ⟨wz, hwz0⟩ : ∃ wz, wz = wr := ⟨_, rfl⟩
        subst hwz0
        have cq := nvI_at hgz i (by rw [List.length_set, HLL.out]; omega)
        rw [show (L.set i q).getD i 0 = q by rw [List.getD_eq_getElem?_getD, List.getElem?_set_self (by rw [HLL.out]; omega)]; rfl] at cq
        by_cases hlk : k < i
        case neg =>
          have hlkz : ¬ (k : Int) < (i : Int) := by omega
          have hqe : Vlt (q = fi) := vlt (by rw [HQ.out]; split <;> omega)
          have HLP2 : Vlt (∀ p : Nat, p < i + 1 → (L.set i q).getD p 0 = F.getD p 0) := vlt (like_set HLL.out hlt HLP.out (by rw [HFi.out]; exact hqe.out))
          have HLL2 : Hid ((L.set i q).length = n) := Lib.hid (by rw [List.length_set]; exact HLL.out)
          go_wp2
          go_roundg (n - (i + 1))
          case measure => omega
          case rel => exact ⟨i + 1, L.set i q, by go_num, by omega, by omega, HLL2, HLP2, hgz, hwz, hbz⟩
        have hlkz : (k : Int) < (i : Int) := by omega
        by_cases hqi : q = i
        case neg =>
          have hqz : ¬ (q : Int) = (i : Int) := by omega
          have hqe : Vlt (q = fi) := vlt (by rw [HQ.out] at hqi ⊢; split at hqi; (rw [if_pos (by assumption)]); exact absurd rfl hqi)
          have HLP2 : Vlt (∀ p : Nat, p < i + 1 → (L.set i q).getD p 0 = F.getD p 0) := vlt (like_set HLL.out hlt HLP.out (by rw [HFi.out]; exact hqe.out))
          have HLL2 : Hid ((L.set i q).length = n) := Lib.hid (by rw [List.length_set]; exact HLL.out)
          go_wp2
          go_roundg (n - (i + 1))
          case measure => omega
          case rel => exact ⟨i + 1, L.set i q, by go_num, by omega, by omega, HLL2, HLP2, hgz, hwz, hbz⟩
        have hqi2 : i = q := hqi.symm
        subst hqi2
        clear hqi
        have hfik : Vlt (¬ fi < k) := vlt (fun h => by have := HQ.out; rw [if_pos h] at this; omega)
        have hknz : (k : Int) < (n : Int) := by omega
        obtain ⟨y, HY0, hRy⟩ : ∃ y, Hid (t[k]? = some y) ∧ ∀ w', Below w.heap.size w w' → w'.rangeAt g (o2 + k * 4) y.cells := by
          have hkl : k < t.length := by rw [HN.out]; omega
          exact ⟨t[k], Lib.hid (List.getElem?_eq_getElem hkl), ht.range (List.getElem?_eq_getElem hkl)⟩
        have hfy := goodT_at HG.out HY0.out
        have HNO : Vlt (plainT F x i ≠ plainT F y k → i = if fi < k + 1 then fi else i) := vlt (fun hne => by
          rw [if_neg]
          intro h
          have hk : fi = k := by have := hfik.out; omega
          have he := HFI.out.eq i (by rw [HN.out]; omega)
          rw [HFi.out, hk, HFI.out.plain k y HY0.out, HFI.out.plain i x HX.out] at he
          injection he with he
          exact hne he.symm)
        have HYES : Vlt (plainT F x i = plainT F y k → F.getD k 0 = k ∧ k = if fi < k + 1 then fi else i) := vlt (fun he => by
          have hle : ¬ k < fi := fun h => HFI.out.least i k (by rw [HN.out]; omega) (by rw [HFi.out]; exact h) (by rw [HFI.out.plain k y HY0.out, HFI.out.plain i x HX.out, he])
          have hk : fi = k := by have := hfik.out; omega
          have h2 := HFI.out.twice (p := i) (by rw [HN.out]; omega)
          rw [HFi.out, hk] at h2
          exact ⟨h2, by rw [if_pos (by omega), hk]⟩)
        go_upto_region 9 with fail
        refine wp_region_held_drew (S := fun W' => Below wz.heap.size wz W') (by kernel_rfl) ((Below.refl _ _).drew) (fun hHeld => ?_)
        refine wpAnyH_take (i := 0) (oi := ⟨(some 34), _, _, _, _, _⟩) (v := .slice (some ⟨g, o2, none⟩) n c) rfl (by kernel_rfl) (by kernel_rfl) (by kernel_rfl) (fun _ _ _ h => h) (Or.inl ⟨by rfl, ?yr9_0⟩) hHeld ?_
        case yr9_0 => (intro W0 hSw; go_simp; try with_reducible rfl)
        try simp only [pu]
        refine wpAnyH_take (i := 1) (oi := ⟨(some 35), _, _, _, _, _⟩) (v := .int .i64 (i : Int)) rfl (by kernel_rfl) (by kernel_rfl) (by kernel_rfl) (fun _ _ _ h => h) (Or.inl ⟨by rfl, ?yr9_1⟩) hHeld ?_
        case yr9_1 => (intro W0 hSw; go_simp; try with_reducible rfl)
        try simp only [pu]
        refine wpAnyH_take (i := 2) (oi := ⟨(some 36), _, _, _, _, _⟩) (v := .pointer (some ⟨g, o2 + i * 4, none⟩)) rfl (by kernel_rfl) (by kernel_rfl) (by kernel_rfl) (fun _ _ _ h => h) (Or.inl ⟨by rfl, ?yr9_2⟩) hHeld ?_
        case yr9_2 => (intro W0 hSw; go_simp; try with_reducible rfl)
        try simp only [pu]
        refine wpAnyH_take (i := 3) (oi := ⟨(some 37), _, _, _, _, _⟩) (v := .agg x.cells.toArray) rfl (by kernel_rfl) (by kernel_rfl) (by kernel_rfl) (fun _ _ _ h => h) (yieldsIf_load_mid (by rfl) _ _ rfl (g) (o2 + i * 4) rfl x.cells _ (fun W' hW' => hRx W' (hbz.trans (hW'.mono hbz.size))) (Try.underlying54) rfl (by kernel_rfl)) hHeld ?_
        try simp only [pu]
        refine wpAnyH_take (i := 4) (oi := ⟨(some 38), _, _, _, _, _⟩) (v := .slice (some ⟨g, o2, none⟩) n c) rfl (by kernel_rfl) (by kernel_rfl) (by kernel_rfl) (fun _ _ _ h => h) (Or.inl ⟨by rfl, ?yr9_4⟩) hHeld ?_
        case yr9_4 => (intro W0 hSw; go_simp; try with_reducible rfl)
        try simp only [pu]
        refine wpAnyH_take (i := 5) (oi := ⟨(some 39), _, _, _, _, _⟩) (v := .int .i64 (k : Int)) rfl (by kernel_rfl) (by kernel_rfl) (by kernel_rfl) (fun _ _ _ h => h) (Or.inl ⟨by rfl, ?yr9_5⟩) hHeld ?_
        case yr9_5 => (intro W0 hSw; go_simp; try with_reducible rfl)
        try simp only [pu]
        refine wpAnyH_take (i := 6) (oi := ⟨(some 40), _, _, _, _, _⟩) (v := .pointer (some ⟨g, o2 + k * 4, none⟩)) rfl (by kernel_rfl) (by kernel_rfl) (by kernel_rfl) (fun _ _ _ h => h) (Or.inl ⟨by rfl, ?yr9_6⟩) hHeld ?_
        case yr9_6 => (intro W0 hSw; go_simp; try with_reducible rfl)
        try simp only [pu]
        refine wpAnyH_take (i := 7) (oi := ⟨(some 41), _, _, _, _, _⟩) (v := .agg y.cells.toArray) rfl (by kernel_rfl) (by kernel_rfl) (by kernel_rfl) (fun _ _ _ h => h) (yieldsIf_load_mid (by rfl) _ _ rfl (g) (o2 + k * 4) rfl y.cells _ (fun W' hW' => hRy W' (hbz.trans (hW'.mono hbz.size))) (Try.underlying54) rfl (by kernel_rfl)) hHeld ?_
        try simp only [pu]
        have hSz : Below wz.heap.size wz wz.drew := (Below.refl _ _).drew
        refine wpAnyH_ready (rs := [8, 9]) (by kernel_rfl) (by simp) ?_
        refine AllReadyH.cons (i := 8) (o := ⟨(some 6), _, _, _, _, _⟩) rfl (fun K hK => ?b1) (AllReadyH.cons (i := 9) (o := ⟨(some 7), _, _, _, _, _⟩) rfl (fun K hK => ?b2) AllReadyH.nil)
        case' b1 =>
          go_simp
          obtain ⟨U1, hU1, r1, q1, z1⟩ := one_new wz.drew th0.cells.toArray 54
          have r1' : Hid (U1.heap[wz.heap.size]? = _) := r1
          have hsz1 := row_size r1'
          have hS1 : Below wz.heap.size wz U1 := hSz.trans q1
          skip
          change K _ (World.alloc (World.drew wz) (.cells th0.cells.toArray 54))
          rw [hU1]
          refine hK.out _ _ hS1 (fun hHeld => ?_)
          clear hK K
          try simp only [pu]
          refine wpAnyH_ready (rs := [9]) (by kernel_rfl) (by simp) ?_
          refine AllReadyH.cons (i := 9) (o := ⟨(some 7), _, _, _, _, _⟩) rfl (fun K hK => ?_) AllReadyH.nil
          go_simp
          obtain ⟨U2, hU2, r2, q2, z2⟩ := one_new U1 th0.cells.toArray 54
          have hsz2 := row_size r2
          have hS2 : Below wz.heap.size wz U2 := hS1.trans (q2.mono hS1.size)
          change K _ (World.alloc U1 (.cells th0.cells.toArray 54))
          rw [hU2]
          refine hK.out _ _ hS2 (fun hHeld => ?_)
          clear hK K
          try simp only [pu]
          have r1'' := row_next2 r1' q2
          refine wpAnyH_ready (rs := [10]) (by kernel_rfl) (by simp) ?_
          refine AllReadyH.cons (i := 10) (o := ⟨none, _, _, _, _, _⟩) rfl (fun K hK => ?_) AllReadyH.nil
          refine step_row (by rfl) 54 (.tmp 6) (.tmp 37) rfl (wz.heap.size) x.cells rfl rfl 54 _ r1''.out (by kernel_rfl) rfl (Th.one x) ?_
          intro U3 hrx3 hk3
          have hS3 := But.below hS2 hk3 (by omega) hS2.size
          have hry3 := row_but r2 hk3 (by omega)
          refine hK.out _ _ hS3 (fun hHeld => ?_)
          clear hK K
          try simp only [pu]
          refine wpAnyH_ready (rs := [11]) (by kernel_rfl) (by simp) ?_
          refine AllReadyH.cons (i := 11) (o := ⟨none, _, _, _, _, _⟩) rfl (fun K hK => ?_) AllReadyH.nil
          refine step_row (by rfl) 54 (.tmp 7) (.tmp 41) rfl (U1.heap.size) y.cells rfl rfl 54 _ hry3.out (by kernel_rfl) rfl (Th.one y) ?_
          intro W hry hk4
          have hbW := But.below hS3 hk4 (by omega) hS3.size
          have hrx := row_but hrx3 hk4 (by omega)
          refine hK.out _ _ hbW (fun hHeld => ?_)
          clear hK K hHeld
          try simp only [pu]
          refine wpAnyH_done (by kernel_rfl) ?_ _
          clear hS3 hS2 hS1 hk3 hk4 hrx3 hry3 r1 r1' r1'' r2 q1 q2 z1 z2 hU1 hU2 hsz2
          obtain ⟨gx, hgx⟩ : ∃ z, z = wz.heap.size := ⟨_, rfl⟩
          rw [← hgx] at hrx ⊢
          clear hgx
          obtain ⟨gy, hgy⟩ : ∃ z, z = U1.heap.size := ⟨_, rfl⟩
          rw [← hgy] at hry ⊢
          clear hgy
          skip
        case' b2 =>
          go_simp
          obtain ⟨U1, hU1, r1, q1, z1⟩ := one_new wz.drew th0.cells.toArray 54
          have r1' : Hid (U1.heap[wz.heap.size]? = _) := r1
          have hsz1 := row_size r1'
          have hS1 : Below wz.heap.size wz U1 := hSz.trans q1
          skip
          change K _ (World.alloc (World.drew wz) (.cells th0.cells.toArray 54))
          rw [hU1]
          refine hK.out _ _ hS1 (fun hHeld => ?_)
          clear hK K
          try simp only [pu]
          refine wpAnyH_ready (rs := [8]) (by kernel_rfl) (by simp) ?_
          refine AllReadyH.cons (i := 8) (o := ⟨(some 6), _, _, _, _, _⟩) rfl (fun K hK => ?_) AllReadyH.nil
          go_simp
          obtain ⟨U2, hU2, r2, q2, z2⟩ := one_new U1 th0.cells.toArray 54
          have hsz2 := row_size r2
          have hS2 : Below wz.heap.size wz U2 := hS1.trans (q2.mono hS1.size)
          change K _ (World.alloc U1 (.cells th0.cells.toArray 54))
          rw [hU2]
          refine hK.out _ _ hS2 (fun hHeld => ?_)
          clear hK K
          try simp only [pu]
          have r1'' := row_next2 r1' q2
          refine wpAnyH_ready (rs := [10]) (by kernel_rfl) (by simp) ?_
          refine AllReadyH.cons (i := 10) (o := ⟨none, _, _, _, _, _⟩) rfl (fun K hK => ?_) AllReadyH.nil
          refine step_row (by rfl) 54 (.tmp 6) (.tmp 37) rfl (U1.heap.size) x.cells rfl rfl 54 _ r2.out (by kernel_rfl) rfl (Th.one x) ?_
          intro U3 hrx3 hk3
          have hS3 := But.below hS2 hk3 (by omega) hS2.size
          have hry3 := row_but r1'' hk3 (by omega)
          refine hK.out _ _ hS3 (fun hHeld => ?_)
          clear hK K
          try simp only [pu]
          refine wpAnyH_ready (rs := [11]) (by kernel_rfl) (by simp) ?_
          refine AllReadyH.cons (i := 11) (o := ⟨none, _, _, _, _, _⟩) rfl (fun K hK => ?_) AllReadyH.nil
          refine step_row (by rfl) 54 (.tmp 7) (.tmp 41) rfl (wz.heap.size) y.cells rfl rfl 54 _ hry3.out (by kernel_rfl) rfl (Th.one y) ?_
          intro W hry hk4
          have hbW := But.below hS3 hk4 (by omega) hS3.size
          have hrx := row_but hrx3 hk4 (by omega)
          refine hK.out _ _ hbW (fun hHeld => ?_)
          clear hK K hHeld
          try simp only [pu]
          refine wpAnyH_done (by kernel_rfl) ?_ _
          clear hS3 hS2 hS1 hk3 hk4 hrx3 hry3 r1 r1' r1'' r2 q1 q2 z1 z2 hU1 hU2 hsz2
          obtain ⟨gx, hgx⟩ : ∃ z, z = U1.heap.size := ⟨_, rfl⟩
          rw [← hgx] at hrx ⊢
          clear hgx
          obtain ⟨gy, hgy⟩ : ∃ z, z = wz.heap.size := ⟨_, rfl⟩
          rw [← hgy] at hry ⊢
          clear hgy
          skip
        all_goals (
          have fx0 : ∀ W', Below W.heap.size W W' → W'.cell? ⟨gx, 0, none⟩ = some (.int .i64 x.kind) := fun W' h => by rw [cell_of_row _ _ _ _ _ _ (row_next2 hrx h).out]; rfl
          have fx1 : ∀ W', Below W.heap.size W W' → W'.cell? ⟨gx, 1, none⟩ = some (.int .i64 x.a) := fun W' h => by rw [cell_of_row _ _ _ _ _ _ (row_next2 hrx h).out]; rfl
          have fx2 : ∀ W', Below W.heap.size W W' → W'.cell? ⟨gx, 2, none⟩ = some (.int .i64 x.b) := fun W' h => by rw [cell_of_row _ _ _ _ _ _ (row_next2 hrx h).out]; rfl
          have fx3 : ∀ W', Below W.heap.size W W' → W'.cell? ⟨gx, 3, none⟩ = some (.int .i64 x.n) := fun W' h => by rw [cell_of_row _ _ _ _ _ _ (row_next2 hrx h).out]; rfl
          have fy0 : ∀ W', Below W.heap.size W W' → W'.cell? ⟨gy, 0, none⟩ = some (.int .i64 y.kind) := fun W' h => by rw [cell_of_row _ _ _ _ _ _ (row_next2 hry h).out]; rfl
          have fy1 : ∀ W', Below W.heap.size W W' → W'.cell? ⟨gy, 1, none⟩ = some (.int .i64 y.a) := fun W' h => by rw [cell_of_row _ _ _ _ _ _ (row_next2 hry h).out]; rfl
          have fy2 : ∀ W', Below W.heap.size W W' → W'.cell? ⟨gy, 2, none⟩ = some (.int .i64 y.b) := fun W' h => by rw [cell_of_row _ _ _ _ _ _ (row_next2 hry h).out]; rfl
          have fy3 : ∀ W', Below W.heap.size W W' → W'.cell? ⟨gy, 3, none⟩ = some (.int .i64 y.n) := fun W' h => by rw [cell_of_row _ _ _ _ _ _ (row_next2 hry h).out]; rfl
          have hgW := row_next2 hgz hbW
          have hbz2 := below_next hbz hbz.size hbW
          have hwz2 := hbW.size
          have flk : ∀ (j : Int) (m : Nat), 0 ≤ j → j < (i : Int) → nat F j = m → ∀ W', Below W.heap.size W W' → W'.cell? ⟨w.heap.size, j.toNat, none⟩ = some (.int .i64 (m : Nat)) := fun j m h0 hj hm W' h => by
            rw [nvI_at (row_next2 hgW h) j.toNat (by rw [List.length_set, HLL.out]; omega), List.getD_eq_getElem?_getD, List.getElem?_set_ne (by omega), ← List.getD_eq_getElem?_getD, HLP.out _ (by omega), ← hm, nat]
          clear hrx hry
          by_cases hkd : x.kind = y.kind
          case neg =>
            have hne : Vlt (plainT F x i ≠ plainT F y k) := vlt (by intro e; exact hkd (plain_kd hfx hfy e))
            have HN2 := vlt (HNO.out hne.out)
            go_upto_region 10 with fail
            refine wp_region_held_drew (S := fun W' => Below W.heap.size W W') (by kernel_rfl) ((Below.refl _ _).drew) (fun hHeld => ?_)
            refine wpAnyH_take (i := 0) (oi := ⟨(some 42), _, _, _, _, _⟩) (v := .pointer (some ⟨gx, 0, none⟩)) rfl (by kernel_rfl) (by kernel_rfl) (by kernel_rfl) (fun _ _ _ h => h) (Or.inl ⟨by rfl, ?yr10_0⟩) hHeld ?_
            case yr10_0 => (intro W0 hSw; go_simp; try with_reducible rfl)
            try simp only [pu]
            refine wpAnyH_take (i := 1) (oi := ⟨(some 43), _, _, _, _, _⟩) (v := .int .i64 x.kind) rfl (by kernel_rfl) (by kernel_rfl) (by kernel_rfl) (fun _ _ _ h => h) (Or.inl ⟨by rfl, ?yr10_1⟩) hHeld ?_
            case yr10_1 => (intro W0 hSw; have cc := fx0 _ hSw; go_simp; try with_reducible rfl)
            try simp only [pu]
            refine wpAnyH_take (i := 2) (oi := ⟨(some 44), _, _, _, _, _⟩) (v := .pointer (some ⟨gy, 0, none⟩)) rfl (by kernel_rfl) (by kernel_rfl) (by kernel_rfl) (fun _ _ _ h => h) (Or.inl ⟨by rfl, ?yr10_2⟩) hHeld ?_
            case yr10_2 => (intro W0 hSw; go_simp; try with_reducible rfl)
            try simp only [pu]
            refine wpAnyH_take (i := 3) (oi := ⟨(some 45), _, _, _, _, _⟩) (v := .int .i64 y.kind) rfl (by kernel_rfl) (by kernel_rfl) (by kernel_rfl) (fun _ _ _ h => h) (Or.inl ⟨by rfl, ?yr10_3⟩) hHeld ?_
            case yr10_3 => (intro W0 hSw; have cc := fy0 _ hSw; go_simp; try with_reducible rfl)
            try simp only [pu]
            refine wpAnyH_take (i := 4) (oi := ⟨(some 46), _, _, _, _, _⟩) (v := .bool true) rfl (by kernel_rfl) (by kernel_rfl) (by kernel_rfl) (fun _ _ _ h => h) (Or.inl ⟨by rfl, ?yr10_4⟩) hHeld ?_
            case yr10_4 => (intro W0 hSw; go_simp; first | done | omega | (simp; omega) | (simp_all; done))
            try simp only [pu]
            refine wpAnyH_take (i := 5) (oi := ⟨(some 47), _, _, _, _, _⟩) (v := .bool true) rfl (by kernel_rfl) (by kernel_rfl) (by kernel_rfl) (fun _ _ _ h => h) (Or.inl ⟨by rfl, ?yr10_5⟩) hHeld ?_
            case yr10_5 => (intro W0 hSw; go_simp; try with_reducible rfl)
            try simp only [pu]
            refine wpAnyH_take (i := 6) (oi := ⟨(some 48), _, _, _, _, _⟩) (v := undef) rfl (by kernel_rfl) (by kernel_rfl) (by kernel_rfl) (fun _ _ _ h => h) (Or.inr ⟨by rfl, rfl⟩) hHeld ?_
            try simp only [pu]
            refine wpAnyH_take (i := 7) (oi := ⟨(some 49), _, _, _, _, _⟩) (v := undef) rfl (by kernel_rfl) (by kernel_rfl) (by kernel_rfl) (fun _ _ _ h => h) (Or.inr ⟨by rfl, rfl⟩) hHeld ?_
            try simp only [pu]
            refine wpAnyH_take (i := 8) (oi := ⟨(some 50), _, _, _, _, _⟩) (v := undef) rfl (by kernel_rfl) (by kernel_rfl) (by kernel_rfl) (fun _ _ _ h => h) (Or.inr ⟨by rfl, rfl⟩) hHeld ?_
            try simp only [pu]
            refine wpAnyH_take (i := 9) (oi := ⟨(some 51), _, _, _, _, _⟩) (v := .bool true) rfl (by kernel_rfl) (by kernel_rfl) (by kernel_rfl) (fun _ _ _ h => h) (Or.inl ⟨by rfl, ?yr10_9⟩) hHeld ?_
            case yr10_9 => (intro W0 hSw; go_simp; try with_reducible rfl)
            try simp only [pu]
            refine wpAnyH_take (i := 10) (oi := ⟨(some 52), _, _, _, _, _⟩) (v := .bool true) rfl (by kernel_rfl) (by kernel_rfl) (by kernel_rfl) (fun _ _ _ h => h) (Or.inl ⟨by rfl, ?yr10_10⟩) hHeld ?_
            case yr10_10 => (intro W0 hSw; go_simp; try with_reducible rfl)
            try simp only [pu]
            refine wpAnyH_take (i := 11) (oi := ⟨(some 53), _, _, _, _, _⟩) (v := undef) rfl (by kernel_rfl) (by kernel_rfl) (by kernel_rfl) (fun _ _ _ h => h) (Or.inr ⟨by rfl, rfl⟩) hHeld ?_
            try simp only [pu]
            refine wpAnyH_take (i := 12) (oi := ⟨(some 54), _, _, _, _, _⟩) (v := undef) rfl (by kernel_rfl) (by kernel_rfl) (by kernel_rfl) (fun _ _ _ h => h) (Or.inr ⟨by rfl, rfl⟩) hHeld ?_
            try simp only [pu]
            refine wpAnyH_take (i := 13) (oi := ⟨(some 55), _, _, _, _, _⟩) (v := undef) rfl (by kernel_rfl) (by kernel_rfl) (by kernel_rfl) (fun _ _ _ h => h) (Or.inr ⟨by rfl, rfl⟩) hHeld ?_
            try simp only [pu]
            refine wpAnyH_take (i := 14) (oi := ⟨(some 56), _, _, _, _, _⟩) (v := undef) rfl (by kernel_rfl) (by kernel_rfl) (by kernel_rfl) (fun _ _ _ h => h) (Or.inr ⟨by rfl, rfl⟩) hHeld ?_
            try simp only [pu]
            refine wpAnyH_take (i := 15) (oi := ⟨(some 57), _, _, _, _, _⟩) (v := undef) rfl (by kernel_rfl) (by kernel_rfl) (by kernel_rfl) (fun _ _ _ h => h) (Or.inr ⟨by rfl, rfl⟩) hHeld ?_
            try simp only [pu]
            refine wpAnyH_take (i := 16) (oi := ⟨(some 58), _, _, _, _, _⟩) (v := undef) rfl (by kernel_rfl) (by kernel_rfl) (by kernel_rfl) (fun _ _ _ h => h) (Or.inr ⟨by rfl, rfl⟩) hHeld ?_
            try simp only [pu]
            refine wpAnyH_take (i := 17) (oi := ⟨(some 59), _, _, _, _, _⟩) (v := undef) rfl (by kernel_rfl) (by kernel_rfl) (by kernel_rfl) (fun _ _ _ h => h) (Or.inr ⟨by rfl, rfl⟩) hHeld ?_
            try simp only [pu]
            refine wpAnyH_take (i := 18) (oi := ⟨(some 60), _, _, _, _, _⟩) (v := undef) rfl (by kernel_rfl) (by kernel_rfl) (by kernel_rfl) (fun _ _ _ h => h) (Or.inr ⟨by rfl, rfl⟩) hHeld ?_
            try simp only [pu]
            refine wpAnyH_take (i := 19) (oi := ⟨(some 61), _, _, _, _, _⟩) (v := undef) rfl (by kernel_rfl) (by kernel_rfl) (by kernel_rfl) (fun _ _ _ h => h) (Or.inr ⟨by rfl, rfl⟩) hHeld ?_
            try simp only [pu]
            refine wpAnyH_take (i := 20) (oi := ⟨(some 62), _, _, _, _, _⟩) (v := undef) rfl (by kernel_rfl) (by kernel_rfl) (by kernel_rfl) (fun _ _ _ h => h) (Or.inr ⟨by rfl, rfl⟩) hHeld ?_
            try simp only [pu]
            refine wpAnyH_take (i := 21) (oi := ⟨(some 63), _, _, _, _, _⟩) (v := undef) rfl (by kernel_rfl) (by kernel_rfl) (by kernel_rfl) (fun _ _ _ h => h) (Or.inr ⟨by rfl, rfl⟩) hHeld ?_
            try simp only [pu]
            refine wpAnyH_take (i := 22) (oi := ⟨(some 64), _, _, _, _, _⟩) (v := .bool true) rfl (by kernel_rfl) (by kernel_rfl) (by kernel_rfl) (fun _ _ _ h => h) (Or.inl ⟨by rfl, ?yr10_22⟩) hHeld ?_
            case yr10_22 => (intro W0 hSw; go_simp; try with_reducible rfl)
            try simp only [pu]
            refine wpAnyH_done (by kernel_rfl) ?_ _
            have hgF := row_next2 hgW hHeld
            have hsF := row_size hgF
            have hbF := below_next hbz2 hbz2.size hHeld
            go_wp2
            go_roundg (i - (k + 1))
            case measure => omega
            case rel => exact ⟨k + 1, i, by go_num, by omega, by omega, HN2, hgF, hsF, hbF⟩
          by_cases h1 : x.kind = 1
          case pos =>
            have hne : Vlt (plainT F x i ≠ plainT F y k) := vlt (by rw [plainT, plainT]; rw [if_pos h1, if_pos (by omega)]; intro e; injection e with _ e; omega)
            have HN2 := vlt (HNO.out hne.out)
            go_upto_region 10 with fail
            refine wp_region_held_drew (S := fun W' => Below W.heap.size W W') (by kernel_rfl) ((Below.refl _ _).drew) (fun hHeld => ?_)
            refine wpAnyH_take (i := 0) (oi := ⟨(some 42), _, _, _, _, _⟩) (v := .pointer (some ⟨gx, 0, none⟩)) rfl (by kernel_rfl) (by kernel_rfl) (by kernel_rfl) (fun _ _ _ h => h) (Or.inl ⟨by rfl, ?yr10_0⟩) hHeld ?_
            case yr10_0 => (intro W0 hSw; go_simp; try with_reducible rfl)
            try simp only [pu]
            refine wpAnyH_take (i := 1) (oi := ⟨(some 43), _, _, _, _, _⟩) (v := .int .i64 x.kind) rfl (by kernel_rfl) (by kernel_rfl) (by kernel_rfl) (fun _ _ _ h => h) (Or.inl ⟨by rfl, ?yr10_1⟩) hHeld ?_
            case yr10_1 => (intro W0 hSw; have cc := fx0 _ hSw; go_simp; try with_reducible rfl)
            try simp only [pu]
            refine wpAnyH_take (i := 2) (oi := ⟨(some 44), _, _, _, _, _⟩) (v := .pointer (some ⟨gy, 0, none⟩)) rfl (by kernel_rfl) (by kernel_rfl) (by kernel_rfl) (fun _ _ _ h => h) (Or.inl ⟨by rfl, ?yr10_2⟩) hHeld ?_
            case yr10_2 => (intro W0 hSw; go_simp; try with_reducible rfl)
            try simp only [pu]
            refine wpAnyH_take (i := 3) (oi := ⟨(some 45), _, _, _, _, _⟩) (v := .int .i64 y.kind) rfl (by kernel_rfl) (by kernel_rfl) (by kernel_rfl) (fun _ _ _ h => h) (Or.inl ⟨by rfl, ?yr10_3⟩) hHeld ?_
            case yr10_3 => (intro W0 hSw; have cc := fy0 _ hSw; go_simp; try with_reducible rfl)
            try simp only [pu]
            refine wpAnyH_take (i := 4) (oi := ⟨(some 46), _, _, _, _, _⟩) (v := .bool false) rfl (by kernel_rfl) (by kernel_rfl) (by kernel_rfl) (fun _ _ _ h => h) (Or.inl ⟨by rfl, ?yr10_4⟩) hHeld ?_
            case yr10_4 => (intro W0 hSw; go_simp; first | done | omega | (simp; omega) | (simp_all; done))
            try simp only [pu]
            refine wpAnyH_take (i := 5) (oi := ⟨(some 47), _, _, _, _, _⟩) (v := .bool false) rfl (by kernel_rfl) (by kernel_rfl) (by kernel_rfl) (fun _ _ _ h => h) (Or.inl ⟨by rfl, ?yr10_5⟩) hHeld ?_
            case yr10_5 => (intro W0 hSw; go_simp; try with_reducible rfl)
            try simp only [pu]
            refine wpAnyH_take (i := 6) (oi := ⟨(some 48), _, _, _, _, _⟩) (v := .pointer (some ⟨gx, 0, none⟩)) rfl (by kernel_rfl) (by kernel_rfl) (by kernel_rfl) (fun _ _ _ h => h) (Or.inl ⟨by rfl, ?yr10_6⟩) hHeld ?_
            case yr10_6 => (intro W0 hSw; go_simp; try with_reducible rfl)
            try simp only [pu]
            refine wpAnyH_take (i := 7) (oi := ⟨(some 49), _, _, _, _, _⟩) (v := .int .i64 x.kind) rfl (by kernel_rfl) (by kernel_rfl) (by kernel_rfl) (fun _ _ _ h => h) (Or.inl ⟨by rfl, ?yr10_7⟩) hHeld ?_
            case yr10_7 => (intro W0 hSw; have cc := fx0 _ hSw; go_simp; try with_reducible rfl)
            try simp only [pu]
            refine wpAnyH_take (i := 8) (oi := ⟨(some 50), _, _, _, _, _⟩) (v := .bool true) rfl (by kernel_rfl) (by kernel_rfl) (by kernel_rfl) (fun _ _ _ h => h) (Or.inl ⟨by rfl, ?yr10_8⟩) hHeld ?_
            case yr10_8 => (intro W0 hSw; go_simp; first | done | omega | (simp; omega) | (simp_all; done))
            try simp only [pu]
            refine wpAnyH_take (i := 9) (oi := ⟨(some 51), _, _, _, _, _⟩) (v := .bool true) rfl (by kernel_rfl) (by kernel_rfl) (by kernel_rfl) (fun _ _ _ h => h) (Or.inl ⟨by rfl, ?yr10_9⟩) hHeld ?_
            case yr10_9 => (intro W0 hSw; go_simp; try with_reducible rfl)
            try simp only [pu]
            refine wpAnyH_take (i := 10) (oi := ⟨(some 52), _, _, _, _, _⟩) (v := .bool true) rfl (by kernel_rfl) (by kernel_rfl) (by kernel_rfl) (fun _ _ _ h => h) (Or.inl ⟨by rfl, ?yr10_10⟩) hHeld ?_
            case yr10_10 => (intro W0 hSw; go_simp; try with_reducible rfl)
            try simp only [pu]
            refine wpAnyH_take (i := 11) (oi := ⟨(some 53), _, _, _, _, _⟩) (v := undef) rfl (by kernel_rfl) (by kernel_rfl) (by kernel_rfl) (fun _ _ _ h => h) (Or.inr ⟨by rfl, rfl⟩) hHeld ?_
            try simp only [pu]
            refine wpAnyH_take (i := 12) (oi := ⟨(some 54), _, _, _, _, _⟩) (v := undef) rfl (by kernel_rfl) (by kernel_rfl) (by kernel_rfl) (fun _ _ _ h => h) (Or.inr ⟨by rfl, rfl⟩) hHeld ?_
            try simp only [pu]
            refine wpAnyH_take (i := 13) (oi := ⟨(some 55), _, _, _, _, _⟩) (v := undef) rfl (by kernel_rfl) (by kernel_rfl) (by kernel_rfl) (fun _ _ _ h => h) (Or.inr ⟨by rfl, rfl⟩) hHeld ?_
            try simp only [pu]
            refine wpAnyH_take (i := 14) (oi := ⟨(some 56), _, _, _, _, _⟩) (v := undef) rfl (by kernel_rfl) (by kernel_rfl) (by kernel_rfl) (fun _ _ _ h => h) (Or.inr ⟨by rfl, rfl⟩) hHeld ?_
            try simp only [pu]
            refine wpAnyH_take (i := 15) (oi := ⟨(some 57), _, _, _, _, _⟩) (v := undef) rfl (by kernel_rfl) (by kernel_rfl) (by kernel_rfl) (fun _ _ _ h => h) (Or.inr ⟨by rfl, rfl⟩) hHeld ?_
            try simp only [pu]
            refine wpAnyH_take (i := 16) (oi := ⟨(some 58), _, _, _, _, _⟩) (v := undef) rfl (by kernel_rfl) (by kernel_rfl) (by kernel_rfl) (fun _ _ _ h => h) (Or.inr ⟨by rfl, rfl⟩) hHeld ?_
            try simp only [pu]
            refine wpAnyH_take (i := 17) (oi := ⟨(some 59), _, _, _, _, _⟩) (v := undef) rfl (by kernel_rfl) (by kernel_rfl) (by kernel_rfl) (fun _ _ _ h => h) (Or.inr ⟨by rfl, rfl⟩) hHeld ?_
            try simp only [pu]
            refine wpAnyH_take (i := 18) (oi := ⟨(some 60), _, _, _, _, _⟩) (v := undef) rfl (by kernel_rfl) (by kernel_rfl) (by kernel_rfl) (fun _ _ _ h => h) (Or.inr ⟨by rfl, rfl⟩) hHeld ?_
            try simp only [pu]
            refine wpAnyH_take (i := 19) (oi := ⟨(some 61), _, _, _, _, _⟩) (v := undef) rfl (by kernel_rfl) (by kernel_rfl) (by kernel_rfl) (fun _ _ _ h => h) (Or.inr ⟨by rfl, rfl⟩) hHeld ?_
            try simp only [pu]
            refine wpAnyH_take (i := 20) (oi := ⟨(some 62), _, _, _, _, _⟩) (v := undef) rfl (by kernel_rfl) (by kernel_rfl) (by kernel_rfl) (fun _ _ _ h => h) (Or.inr ⟨by rfl, rfl⟩) hHeld ?_
            try simp only [pu]
            refine wpAnyH_take (i := 21) (oi := ⟨(some 63), _, _, _, _, _⟩) (v := undef) rfl (by kernel_rfl) (by kernel_rfl) (by kernel_rfl) (fun _ _ _ h => h) (Or.inr ⟨by rfl, rfl⟩) hHeld ?_
            try simp only [pu]
            refine wpAnyH_take (i := 22) (oi := ⟨(some 64), _, _, _, _, _⟩) (v := .bool true) rfl (by kernel_rfl) (by kernel_rfl) (by kernel_rfl) (fun _ _ _ h => h) (Or.inl ⟨by rfl, ?yr10_22⟩) hHeld ?_
            case yr10_22 => (intro W0 hSw; go_simp; try with_reducible rfl)
            try simp only [pu]
            refine wpAnyH_done (by kernel_rfl) ?_ _
            have hgF := row_next2 hgW hHeld
            have hsF := row_size hgF
            have hbF := below_next hbz2 hbz2.size hHeld
            go_wp2
            go_roundg (i - (k + 1))
            case measure => omega
            case rel => exact ⟨k + 1, i, by go_num, by omega, by omega, HN2, hgF, hsF, hbF⟩
          obtain ⟨hxa0, hxai, hxb⟩ := part_in hfx h1
          obtain ⟨hya0, hyak, hyb⟩ := part_in hfy (show ¬ y.kind = 1 by omega)
          have hxan : x.a < (n : Int) := by omega
          have hyan : y.a < (n : Int) := by omega
          obtain ⟨nxa, hnxa⟩ : ∃ m, nat F x.a = m := ⟨_, rfl⟩
          obtain ⟨nya, hnya⟩ : ∃ m, nat F y.a = m := ⟨_, rfl⟩
          have flxa := flk x.a nxa hxa0 hxai hnxa
          have flya := flk y.a nya hya0 (by omega) hnya
          by_cases hna : nxa = nya
          case neg =>
            have hnaz : ¬ (nxa : Int) = (nya : Int) := by omega
            have hne : Vlt (plainT F x i ≠ plainT F y k) := vlt (by intro e; have h := plain_an h1 (show ¬ y.kind = 1 by omega) e; rw [hnxa, hnya] at h; exact hna h)
            have HN2 := vlt (HNO.out hne.out)
            go_upto_region 10 with fail
            refine wp_region_held_drew (S := fun W' => Below W.heap.size W W') (by kernel_rfl) ((Below.refl _ _).drew) (fun hHeld => ?_)
            refine wpAnyH_take (i := 0) (oi := ⟨(some 42), _, _, _, _, _⟩) (v := .pointer (some ⟨gx, 0, none⟩)) rfl (by kernel_rfl) (by kernel_rfl) (by kernel_rfl) (fun _ _ _ h => h) (Or.inl ⟨by rfl, ?yr10_0⟩) hHeld ?_
            case yr10_0 => (intro W0 hSw; go_simp; try with_reducible rfl)
            try simp only [pu]
            refine wpAnyH_take (i := 1) (oi := ⟨(some 43), _, _, _, _, _⟩) (v := .int .i64 x.kind) rfl (by kernel_rfl) (by kernel_rfl) (by kernel_rfl) (fun _ _ _ h => h) (Or.inl ⟨by rfl, ?yr10_1⟩) hHeld ?_
            case yr10_1 => (intro W0 hSw; have cc := fx0 _ hSw; go_simp; try with_reducible rfl)
            try simp only [pu]
            refine wpAnyH_take (i := 2) (oi := ⟨(some 44), _, _, _, _, _⟩) (v := .pointer (some ⟨gy, 0, none⟩)) rfl (by kernel_rfl) (by kernel_rfl) (by kernel_rfl) (fun _ _ _ h => h) (Or.inl ⟨by rfl, ?yr10_2⟩) hHeld ?_
            case yr10_2 => (intro W0 hSw; go_simp; try with_reducible rfl)
            try simp only [pu]
            refine wpAnyH_take (i := 3) (oi := ⟨(some 45), _, _, _, _, _⟩) (v := .int .i64 y.kind) rfl (by kernel_rfl) (by kernel_rfl) (by kernel_rfl) (fun _ _ _ h => h) (Or.inl ⟨by rfl, ?yr10_3⟩) hHeld ?_
            case yr10_3 => (intro W0 hSw; have cc := fy0 _ hSw; go_simp; try with_reducible rfl)
            try simp only [pu]
            refine wpAnyH_take (i := 4) (oi := ⟨(some 46), _, _, _, _, _⟩) (v := .bool false) rfl (by kernel_rfl) (by kernel_rfl) (by kernel_rfl) (fun _ _ _ h => h) (Or.inl ⟨by rfl, ?yr10_4⟩) hHeld ?_
            case yr10_4 => (intro W0 hSw; go_simp; first | done | omega | (simp; omega) | (simp_all; done))
            try simp only [pu]
            refine wpAnyH_take (i := 5) (oi := ⟨(some 47), _, _, _, _, _⟩) (v := .bool false) rfl (by kernel_rfl) (by kernel_rfl) (by kernel_rfl) (fun _ _ _ h => h) (Or.inl ⟨by rfl, ?yr10_5⟩) hHeld ?_
            case yr10_5 => (intro W0 hSw; go_simp; try with_reducible rfl)
            try simp only [pu]
            refine wpAnyH_take (i := 6) (oi := ⟨(some 48), _, _, _, _, _⟩) (v := .pointer (some ⟨gx, 0, none⟩)) rfl (by kernel_rfl) (by kernel_rfl) (by kernel_rfl) (fun _ _ _ h => h) (Or.inl ⟨by rfl, ?yr10_6⟩) hHeld ?_
            case yr10_6 => (intro W0 hSw; go_simp; try with_reducible rfl)
            try simp only [pu]
            refine wpAnyH_take (i := 7) (oi := ⟨(some 49), _, _, _, _, _⟩) (v := .int .i64 x.kind) rfl (by kernel_rfl) (by kernel_rfl) (by kernel_rfl) (fun _ _ _ h => h) (Or.inl ⟨by rfl, ?yr10_7⟩) hHeld ?_
            case yr10_7 => (intro W0 hSw; have cc := fx0 _ hSw; go_simp; try with_reducible rfl)
            try simp only [pu]
            refine wpAnyH_take (i := 8) (oi := ⟨(some 50), _, _, _, _, _⟩) (v := .bool false) rfl (by kernel_rfl) (by kernel_rfl) (by kernel_rfl) (fun _ _ _ h => h) (Or.inl ⟨by rfl, ?yr10_8⟩) hHeld ?_
            case yr10_8 => (intro W0 hSw; go_simp; first | done | omega | (simp; omega) | (simp_all; done))
            try simp only [pu]
            refine wpAnyH_take (i := 9) (oi := ⟨(some 51), _, _, _, _, _⟩) (v := .bool false) rfl (by kernel_rfl) (by kernel_rfl) (by kernel_rfl) (fun _ _ _ h => h) (Or.inl ⟨by rfl, ?yr10_9⟩) hHeld ?_
            case yr10_9 => (intro W0 hSw; go_simp; try with_reducible rfl)
            try simp only [pu]
            refine wpAnyH_take (i := 10) (oi := ⟨(some 52), _, _, _, _, _⟩) (v := .bool false) rfl (by kernel_rfl) (by kernel_rfl) (by kernel_rfl) (fun _ _ _ h => h) (Or.inl ⟨by rfl, ?yr10_10⟩) hHeld ?_
            case yr10_10 => (intro W0 hSw; go_simp; try with_reducible rfl)
            try simp only [pu]
            refine wpAnyH_take (i := 11) (oi := ⟨(some 53), _, _, _, _, _⟩) (v := .slice (some ⟨w.heap.size, 0, none⟩) n n) rfl (by kernel_rfl) (by kernel_rfl) (by kernel_rfl) (fun _ _ _ h => h) (Or.inl ⟨by rfl, ?yr10_11⟩) hHeld ?_
            case yr10_11 => (intro W0 hSw; go_simp; try with_reducible rfl)
            try simp only [pu]
            refine wpAnyH_take (i := 12) (oi := ⟨(some 54), _, _, _, _, _⟩) (v := .pointer (some ⟨gx, 1, none⟩)) rfl (by kernel_rfl) (by kernel_rfl) (by kernel_rfl) (fun _ _ _ h => h) (Or.inl ⟨by rfl, ?yr10_12⟩) hHeld ?_
            case yr10_12 => (intro W0 hSw; go_simp; try with_reducible rfl)
            try simp only [pu]
            refine wpAnyH_take (i := 13) (oi := ⟨(some 55), _, _, _, _, _⟩) (v := .int .i64 x.a) rfl (by kernel_rfl) (by kernel_rfl) (by kernel_rfl) (fun _ _ _ h => h) (Or.inl ⟨by rfl, ?yr10_13⟩) hHeld ?_
            case yr10_13 => (intro W0 hSw; have cc := fx1 _ hSw; go_simp; try with_reducible rfl)
            try simp only [pu]
            refine wpAnyH_take (i := 14) (oi := ⟨(some 56), _, _, _, _, _⟩) (v := .pointer (some ⟨w.heap.size, x.a.toNat, none⟩)) rfl (by kernel_rfl) (by kernel_rfl) (by kernel_rfl) (fun _ _ _ h => h) (Or.inl ⟨by rfl, ?yr10_14⟩) hHeld ?_
            case yr10_14 => (intro W0 hSw; go_simp; try with_reducible rfl)
            try simp only [pu]
            refine wpAnyH_take (i := 15) (oi := ⟨(some 57), _, _, _, _, _⟩) (v := .int .i64 (nxa : Nat)) rfl (by kernel_rfl) (by kernel_rfl) (by kernel_rfl) (fun _ _ _ h => h) (Or.inl ⟨by rfl, ?yr10_15⟩) hHeld ?_
            case yr10_15 => (intro W0 hSw; have cc := flxa _ hSw; go_simp; try with_reducible rfl)
            try simp only [pu]
            refine wpAnyH_take (i := 16) (oi := ⟨(some 58), _, _, _, _, _⟩) (v := .slice (some ⟨w.heap.size, 0, none⟩) n n) rfl (by kernel_rfl) (by kernel_rfl) (by kernel_rfl) (fun _ _ _ h => h) (Or.inl ⟨by rfl, ?yr10_16⟩) hHeld ?_
            case yr10_16 => (intro W0 hSw; go_simp; try with_reducible rfl)
            try simp only [pu]
            refine wpAnyH_take (i := 17) (oi := ⟨(some 59), _, _, _, _, _⟩) (v := .pointer (some ⟨gy, 1, none⟩)) rfl (by kernel_rfl) (by kernel_rfl) (by kernel_rfl) (fun _ _ _ h => h) (Or.inl ⟨by rfl, ?yr10_17⟩) hHeld ?_
            case yr10_17 => (intro W0 hSw; go_simp; try with_reducible rfl)
            try simp only [pu]
            refine wpAnyH_take (i := 18) (oi := ⟨(some 60), _, _, _, _, _⟩) (v := .int .i64 y.a) rfl (by kernel_rfl) (by kernel_rfl) (by kernel_rfl) (fun _ _ _ h => h) (Or.inl ⟨by rfl, ?yr10_18⟩) hHeld ?_
            case yr10_18 => (intro W0 hSw; have cc := fy1 _ hSw; go_simp; try with_reducible rfl)
            try simp only [pu]
            refine wpAnyH_take (i := 19) (oi := ⟨(some 61), _, _, _, _, _⟩) (v := .pointer (some ⟨w.heap.size, y.a.toNat, none⟩)) rfl (by kernel_rfl) (by kernel_rfl) (by kernel_rfl) (fun _ _ _ h => h) (Or.inl ⟨by rfl, ?yr10_19⟩) hHeld ?_
            case yr10_19 => (intro W0 hSw; go_simp; try with_reducible rfl)
            try simp only [pu]
            refine wpAnyH_take (i := 20) (oi := ⟨(some 62), _, _, _, _, _⟩) (v := .int .i64 (nya : Nat)) rfl (by kernel_rfl) (by kernel_rfl) (by kernel_rfl) (fun _ _ _ h => h) (Or.inl ⟨by rfl, ?yr10_20⟩) hHeld ?_
            case yr10_20 => (intro W0 hSw; have cc := flya _ hSw; go_simp; try with_reducible rfl)
            try simp only [pu]
            refine wpAnyH_take (i := 21) (oi := ⟨(some 63), _, _, _, _, _⟩) (v := .bool true) rfl (by kernel_rfl) (by kernel_rfl) (by kernel_rfl) (fun _ _ _ h => h) (Or.inl ⟨by rfl, ?yr10_21⟩) hHeld ?_
            case yr10_21 => (intro W0 hSw; go_simp; first | done | omega | (simp; omega) | (simp_all; done))
            try simp only [pu]
            refine wpAnyH_take (i := 22) (oi := ⟨(some 64), _, _, _, _, _⟩) (v := .bool true) rfl (by kernel_rfl) (by kernel_rfl) (by kernel_rfl) (fun _ _ _ h => h) (Or.inl ⟨by rfl, ?yr10_22⟩) hHeld ?_
            case yr10_22 => (intro W0 hSw; go_simp; try with_reducible rfl)
            try simp only [pu]
            refine wpAnyH_done (by kernel_rfl) ?_ _
            have hgF := row_next2 hgW hHeld
            have hsF := row_size hgF
            have hbF := below_next hbz2 hbz2.size hHeld
            go_wp2
            go_roundg (i - (k + 1))
            case measure => omega
            case rel => exact ⟨k + 1, i, by go_num, by omega, by omega, HN2, hgF, hsF, hbF⟩
          have hnaz : (nxa : Int) = (nya : Int) := by omega
          go_upto_region 10 with fail
          refine wp_region_held_drew (S := fun W' => Below W.heap.size W W') (by kernel_rfl) ((Below.refl _ _).drew) (fun hHeld => ?_)
          refine wpAnyH_take (i := 0) (oi := ⟨(some 42), _, _, _, _, _⟩) (v := .pointer (some ⟨gx, 0, none⟩)) rfl (by kernel_rfl) (by kernel_rfl) (by kernel_rfl) (fun _ _ _ h => h) (Or.inl ⟨by rfl, ?yr10_0⟩) hHeld ?_
          case yr10_0 => (intro W0 hSw; go_simp; try with_reducible rfl)
          try simp only [pu]
          refine wpAnyH_take (i := 1) (oi := ⟨(some 43), _, _, _, _, _⟩) (v := .int .i64 x.kind) rfl (by kernel_rfl) (by kernel_rfl) (by kernel_rfl) (fun _ _ _ h => h) (Or.inl ⟨by rfl, ?yr10_1⟩) hHeld ?_
          case yr10_1 => (intro W0 hSw; have cc := fx0 _ hSw; go_simp; try with_reducible rfl)
          try simp only [pu]
          refine wpAnyH_take (i := 2) (oi := ⟨(some 44), _, _, _, _, _⟩) (v := .pointer (some ⟨gy, 0, none⟩)) rfl (by kernel_rfl) (by kernel_rfl) (by kernel_rfl) (fun _ _ _ h => h) (Or.inl ⟨by rfl, ?yr10_2⟩) hHeld ?_
          case yr10_2 => (intro W0 hSw; go_simp; try with_reducible rfl)
          try simp only [pu]
          refine wpAnyH_take (i := 3) (oi := ⟨(some 45), _, _, _, _, _⟩) (v := .int .i64 y.kind) rfl (by kernel_rfl) (by kernel_rfl) (by kernel_rfl) (fun _ _ _ h => h) (Or.inl ⟨by rfl, ?yr10_3⟩) hHeld ?_
          case yr10_3 => (intro W0 hSw; have cc := fy0 _ hSw; go_simp; try with_reducible rfl)
          try simp only [pu]
          refine wpAnyH_take (i := 4) (oi := ⟨(some 46), _, _, _, _, _⟩) (v := .bool false) rfl (by kernel_rfl) (by kernel_rfl) (by kernel_rfl) (fun _ _ _ h => h) (Or.inl ⟨by rfl, ?yr10_4⟩) hHeld ?_
          case yr10_4 => (intro W0 hSw; go_simp; first | done | omega | (simp; omega) | (simp_all; done))
          try simp only [pu]
          refine wpAnyH_take (i := 5) (oi := ⟨(some 47), _, _, _, _, _⟩) (v := .bool false) rfl (by kernel_rfl) (by kernel_rfl) (by kernel_rfl) (fun _ _ _ h => h) (Or.inl ⟨by rfl, ?yr10_5⟩) hHeld ?_
          case yr10_5 => (intro W0 hSw; go_simp; try with_reducible rfl)
          try simp only [pu]
          refine wpAnyH_take (i := 6) (oi := ⟨(some 48), _, _, _, _, _⟩) (v := .pointer (some ⟨gx, 0, none⟩)) rfl (by kernel_rfl) (by kernel_rfl) (by kernel_rfl) (fun _ _ _ h => h) (Or.inl ⟨by rfl, ?yr10_6⟩) hHeld ?_
          case yr10_6 => (intro W0 hSw; go_simp; try with_reducible rfl)
          try simp only [pu]
          refine wpAnyH_take (i := 7) (oi := ⟨(some 49), _, _, _, _, _⟩) (v := .int .i64 x.kind) rfl (by kernel_rfl) (by kernel_rfl) (by kernel_rfl) (fun _ _ _ h => h) (Or.inl ⟨by rfl, ?yr10_7⟩) hHeld ?_
          case yr10_7 => (intro W0 hSw; have cc := fx0 _ hSw; go_simp; try with_reducible rfl)
          try simp only [pu]
          refine wpAnyH_take (i := 8) (oi := ⟨(some 50), _, _, _, _, _⟩) (v := .bool false) rfl (by kernel_rfl) (by kernel_rfl) (by kernel_rfl) (fun _ _ _ h => h) (Or.inl ⟨by rfl, ?yr10_8⟩) hHeld ?_
          case yr10_8 => (intro W0 hSw; go_simp; first | done | omega | (simp; omega) | (simp_all; done))
          try simp only [pu]
          refine wpAnyH_take (i := 9) (oi := ⟨(some 51), _, _, _, _, _⟩) (v := .bool false) rfl (by kernel_rfl) (by kernel_rfl) (by kernel_rfl) (fun _ _ _ h => h) (Or.inl ⟨by rfl, ?yr10_9⟩) hHeld ?_
          case yr10_9 => (intro W0 hSw; go_simp; try with_reducible rfl)
          try simp only [pu]
          refine wpAnyH_take (i := 10) (oi := ⟨(some 52), _, _, _, _, _⟩) (v := .bool false) rfl (by kernel_rfl) (by kernel_rfl) (by kernel_rfl) (fun _ _ _ h => h) (Or.inl ⟨by rfl, ?yr10_10⟩) hHeld ?_
          case yr10_10 => (intro W0 hSw; go_simp; try with_reducible rfl)
          try simp only [pu]
          refine wpAnyH_take (i := 11) (oi := ⟨(some 53), _, _, _, _, _⟩) (v := .slice (some ⟨w.heap.size, 0, none⟩) n n) rfl (by kernel_rfl) (by kernel_rfl) (by kernel_rfl) (fun _ _ _ h => h) (Or.inl ⟨by rfl, ?yr10_11⟩) hHeld ?_
          case yr10_11 => (intro W0 hSw; go_simp; try with_reducible rfl)
          try simp only [pu]
          refine wpAnyH_take (i := 12) (oi := ⟨(some 54), _, _, _, _, _⟩) (v := .pointer (some ⟨gx, 1, none⟩)) rfl (by kernel_rfl) (by kernel_rfl) (by kernel_rfl) (fun _ _ _ h => h) (Or.inl ⟨by rfl, ?yr10_12⟩) hHeld ?_
          case yr10_12 => (intro W0 hSw; go_simp; try with_reducible rfl)
          try simp only [pu]
          refine wpAnyH_take (i := 13) (oi := ⟨(some 55), _, _, _, _, _⟩) (v := .int .i64 x.a) rfl (by kernel_rfl) (by kernel_rfl) (by kernel_rfl) (fun _ _ _ h => h) (Or.inl ⟨by rfl, ?yr10_13⟩) hHeld ?_
          case yr10_13 => (intro W0 hSw; have cc := fx1 _ hSw; go_simp; try with_reducible rfl)
          try simp only [pu]
          refine wpAnyH_take (i := 14) (oi := ⟨(some 56), _, _, _, _, _⟩) (v := .pointer (some ⟨w.heap.size, x.a.toNat, none⟩)) rfl (by kernel_rfl) (by kernel_rfl) (by kernel_rfl) (fun _ _ _ h => h) (Or.inl ⟨by rfl, ?yr10_14⟩) hHeld ?_
          case yr10_14 => (intro W0 hSw; go_simp; try with_reducible rfl)
          try simp only [pu]
          refine wpAnyH_take (i := 15) (oi := ⟨(some 57), _, _, _, _, _⟩) (v := .int .i64 (nxa : Nat)) rfl (by kernel_rfl) (by kernel_rfl) (by kernel_rfl) (fun _ _ _ h => h) (Or.inl ⟨by rfl, ?yr10_15⟩) hHeld ?_
          case yr10_15 => (intro W0 hSw; have cc := flxa _ hSw; go_simp; try with_reducible rfl)
          try simp only [pu]
          refine wpAnyH_take (i := 16) (oi := ⟨(some 58), _, _, _, _, _⟩) (v := .slice (some ⟨w.heap.size, 0, none⟩) n n) rfl (by kernel_rfl) (by kernel_rfl) (by kernel_rfl) (fun _ _ _ h => h) (Or.inl ⟨by rfl, ?yr10_16⟩) hHeld ?_
          case yr10_16 => (intro W0 hSw; go_simp; try with_reducible rfl)
          try simp only [pu]
          refine wpAnyH_take (i := 17) (oi := ⟨(some 59), _, _, _, _, _⟩) (v := .pointer (some ⟨gy, 1, none⟩)) rfl (by kernel_rfl) (by kernel_rfl) (by kernel_rfl) (fun _ _ _ h => h) (Or.inl ⟨by rfl, ?yr10_17⟩) hHeld ?_
          case yr10_17 => (intro W0 hSw; go_simp; try with_reducible rfl)
          try simp only [pu]
          refine wpAnyH_take (i := 18) (oi := ⟨(some 60), _, _, _, _, _⟩) (v := .int .i64 y.a) rfl (by kernel_rfl) (by kernel_rfl) (by kernel_rfl) (fun _ _ _ h => h) (Or.inl ⟨by rfl, ?yr10_18⟩) hHeld ?_
          case yr10_18 => (intro W0 hSw; have cc := fy1 _ hSw; go_simp; try with_reducible rfl)
          try simp only [pu]
          refine wpAnyH_take (i := 19) (oi := ⟨(some 61), _, _, _, _, _⟩) (v := .pointer (some ⟨w.heap.size, y.a.toNat, none⟩)) rfl (by kernel_rfl) (by kernel_rfl) (by kernel_rfl) (fun _ _ _ h => h) (Or.inl ⟨by rfl, ?yr10_19⟩) hHeld ?_
          case yr10_19 => (intro W0 hSw; go_simp; try with_reducible rfl)
          try simp only [pu]
          refine wpAnyH_take (i := 20) (oi := ⟨(some 62), _, _, _, _, _⟩) (v := .int .i64 (nya : Nat)) rfl (by kernel_rfl) (by kernel_rfl) (by kernel_rfl) (fun _ _ _ h => h) (Or.inl ⟨by rfl, ?yr10_20⟩) hHeld ?_
          case yr10_20 => (intro W0 hSw; have cc := flya _ hSw; go_simp; try with_reducible rfl)
          try simp only [pu]
          refine wpAnyH_take (i := 21) (oi := ⟨(some 63), _, _, _, _, _⟩) (v := .bool false) rfl (by kernel_rfl) (by kernel_rfl) (by kernel_rfl) (fun _ _ _ h => h) (Or.inl ⟨by rfl, ?yr10_21⟩) hHeld ?_
          case yr10_21 => (intro W0 hSw; go_simp; first | done | omega | (simp; omega) | (simp_all; done))
          try simp only [pu]
          refine wpAnyH_take (i := 22) (oi := ⟨(some 64), _, _, _, _, _⟩) (v := .bool false) rfl (by kernel_rfl) (by kernel_rfl) (by kernel_rfl) (fun _ _ _ h => h) (Or.inl ⟨by rfl, ?yr10_22⟩) hHeld ?_
          case yr10_22 => (intro W0 hSw; go_simp; try with_reducible rfl)
          try simp only [pu]
          refine wpAnyH_done (by kernel_rfl) ?_ _
          have hgV := row_next2 hgW hHeld
          have hbV := below_next hbz2 hbz2.size hHeld
          obtain ⟨W2, hW2⟩ : ∃ W2, W.drew = W2 := ⟨_, rfl⟩
          rw [hW2] at hHeld hgV hbV ⊢
          replace fx0 := fun W' (h : Below W2.heap.size W2 W') => fx0 W' (below_next hHeld hHeld.size h)
          replace fx2 := fun W' (h : Below W2.heap.size W2 W') => fx2 W' (below_next hHeld hHeld.size h)
          replace fx3 := fun W' (h : Below W2.heap.size W2 W') => fx3 W' (below_next hHeld hHeld.size h)
          replace fy0 := fun W' (h : Below W2.heap.size W2 W') => fy0 W' (below_next hHeld hHeld.size h)
          replace fy2 := fun W' (h : Below W2.heap.size W2 W') => fy2 W' (below_next hHeld hHeld.size h)
          replace fy3 := fun W' (h : Below W2.heap.size W2 W') => fy3 W' (below_next hHeld hHeld.size h)
          replace flk := fun j m h0 hj hm W' (h : Below W2.heap.size W2 W') => flk j m h0 hj hm W' (below_next hHeld hHeld.size h)
          clear hW2 flxa flya fx1 fy1 hHeld
          by_cases h4 : x.kind = 4
          case pos =>
            by_cases hn4 : x.n = y.n
            case pos =>
              have h1' : ¬ y.kind = 1 := by omega
              have HY := vlt (HYES.out (by rw [plainT, plainT]; rw [if_neg h1, if_neg h1', if_neg (by omega), if_neg (by omega), hnxa, hnya, hna, hn4]))
              go_upto_region 11 with fail
              refine wp_region_held_drew (S := fun W' => Below W2.heap.size W2 W') (by kernel_rfl) ((Below.refl _ _).drew) (fun hHeld => ?_)
              refine wpAnyH_take (i := 0) (oi := ⟨(some 65), _, _, _, _, _⟩) (v := .pointer (some ⟨gx, 0, none⟩)) rfl (by kernel_rfl) (by kernel_rfl) (by kernel_rfl) (fun _ _ _ h => h) (Or.inl ⟨by rfl, ?yr11_0⟩) hHeld ?_
              case yr11_0 => (intro W0 hSw; go_simp; try with_reducible rfl)
              try simp only [pu]
              refine wpAnyH_take (i := 1) (oi := ⟨(some 66), _, _, _, _, _⟩) (v := .int .i64 x.kind) rfl (by kernel_rfl) (by kernel_rfl) (by kernel_rfl) (fun _ _ _ h => h) (Or.inl ⟨by rfl, ?yr11_1⟩) hHeld ?_
              case yr11_1 => (intro W0 hSw; have cc := fx0 _ hSw; go_simp; try with_reducible rfl)
              try simp only [pu]
              refine wpAnyH_take (i := 2) (oi := ⟨(some 67), _, _, _, _, _⟩) (v := .bool true) rfl (by kernel_rfl) (by kernel_rfl) (by kernel_rfl) (fun _ _ _ h => h) (Or.inl ⟨by rfl, ?yr11_2⟩) hHeld ?_
              case yr11_2 => (intro W0 hSw; go_simp; first | done | omega | (simp; omega) | (simp_all; done))
              try simp only [pu]
              refine wpAnyH_take (i := 3) (oi := ⟨(some 68), _, _, _, _, _⟩) (v := .bool true) rfl (by kernel_rfl) (by kernel_rfl) (by kernel_rfl) (fun _ _ _ h => h) (Or.inl ⟨by rfl, ?yr11_3⟩) hHeld ?_
              case yr11_3 => (intro W0 hSw; go_simp; try with_reducible rfl)
              try simp only [pu]
              refine wpAnyH_take (i := 4) (oi := ⟨(some 69), _, _, _, _, _⟩) (v := .pointer (some ⟨gx, 3, none⟩)) rfl (by kernel_rfl) (by kernel_rfl) (by kernel_rfl) (fun _ _ _ h => h) (Or.inl ⟨by rfl, ?yr11_4⟩) hHeld ?_
              case yr11_4 => (intro W0 hSw; go_simp; try with_reducible rfl)
              try simp only [pu]
              refine wpAnyH_take (i := 5) (oi := ⟨(some 70), _, _, _, _, _⟩) (v := .int .i64 x.n) rfl (by kernel_rfl) (by kernel_rfl) (by kernel_rfl) (fun _ _ _ h => h) (Or.inl ⟨by rfl, ?yr11_5⟩) hHeld ?_
              case yr11_5 => (intro W0 hSw; have cc := fx3 _ hSw; go_simp; try with_reducible rfl)
              try simp only [pu]
              refine wpAnyH_take (i := 6) (oi := ⟨(some 71), _, _, _, _, _⟩) (v := .pointer (some ⟨gy, 3, none⟩)) rfl (by kernel_rfl) (by kernel_rfl) (by kernel_rfl) (fun _ _ _ h => h) (Or.inl ⟨by rfl, ?yr11_6⟩) hHeld ?_
              case yr11_6 => (intro W0 hSw; go_simp; try with_reducible rfl)
              try simp only [pu]
              refine wpAnyH_take (i := 7) (oi := ⟨(some 72), _, _, _, _, _⟩) (v := .int .i64 y.n) rfl (by kernel_rfl) (by kernel_rfl) (by kernel_rfl) (fun _ _ _ h => h) (Or.inl ⟨by rfl, ?yr11_7⟩) hHeld ?_
              case yr11_7 => (intro W0 hSw; have cc := fy3 _ hSw; go_simp; try with_reducible rfl)
              try simp only [pu]
              refine wpAnyH_take (i := 8) (oi := ⟨(some 73), _, _, _, _, _⟩) (v := .bool true) rfl (by kernel_rfl) (by kernel_rfl) (by kernel_rfl) (fun _ _ _ h => h) (Or.inl ⟨by rfl, ?yr11_8⟩) hHeld ?_
              case yr11_8 => (intro W0 hSw; go_simp; first | done | omega | (simp; omega) | (simp_all; done))
              try simp only [pu]
              refine wpAnyH_take (i := 9) (oi := ⟨(some 74), _, _, _, _, _⟩) (v := .bool true) rfl (by kernel_rfl) (by kernel_rfl) (by kernel_rfl) (fun _ _ _ h => h) (Or.inl ⟨by rfl, ?yr11_9⟩) hHeld ?_
              case yr11_9 => (intro W0 hSw; go_simp; try with_reducible rfl)
              try simp only [pu]
              refine wpAnyH_take (i := 10) (oi := ⟨(some 75), _, _, _, _, _⟩) (v := .bool true) rfl (by kernel_rfl) (by kernel_rfl) (by kernel_rfl) (fun _ _ _ h => h) (Or.inl ⟨by rfl, ?yr11_10⟩) hHeld ?_
              case yr11_10 => (intro W0 hSw; go_simp; try with_reducible rfl)
              try simp only [pu]
              refine wpAnyH_take (i := 11) (oi := ⟨(some 76), _, _, _, _, _⟩) (v := undef) rfl (by kernel_rfl) (by kernel_rfl) (by kernel_rfl) (fun _ _ _ h => h) (Or.inr ⟨by rfl, rfl⟩) hHeld ?_
              try simp only [pu]
              refine wpAnyH_take (i := 12) (oi := ⟨(some 77), _, _, _, _, _⟩) (v := undef) rfl (by kernel_rfl) (by kernel_rfl) (by kernel_rfl) (fun _ _ _ h => h) (Or.inr ⟨by rfl, rfl⟩) hHeld ?_
              try simp only [pu]
              refine wpAnyH_take (i := 13) (oi := ⟨(some 78), _, _, _, _, _⟩) (v := undef) rfl (by kernel_rfl) (by kernel_rfl) (by kernel_rfl) (fun _ _ _ h => h) (Or.inr ⟨by rfl, rfl⟩) hHeld ?_
              try simp only [pu]
              refine wpAnyH_take (i := 14) (oi := ⟨(some 79), _, _, _, _, _⟩) (v := undef) rfl (by kernel_rfl) (by kernel_rfl) (by kernel_rfl) (fun _ _ _ h => h) (Or.inr ⟨by rfl, rfl⟩) hHeld ?_
              try simp only [pu]
              refine wpAnyH_take (i := 15) (oi := ⟨(some 80), _, _, _, _, _⟩) (v := undef) rfl (by kernel_rfl) (by kernel_rfl) (by kernel_rfl) (fun _ _ _ h => h) (Or.inr ⟨by rfl, rfl⟩) hHeld ?_
              try simp only [pu]
              refine wpAnyH_take (i := 16) (oi := ⟨(some 81), _, _, _, _, _⟩) (v := undef) rfl (by kernel_rfl) (by kernel_rfl) (by kernel_rfl) (fun _ _ _ h => h) (Or.inr ⟨by rfl, rfl⟩) hHeld ?_
              try simp only [pu]
              refine wpAnyH_take (i := 17) (oi := ⟨(some 82), _, _, _, _, _⟩) (v := undef) rfl (by kernel_rfl) (by kernel_rfl) (by kernel_rfl) (fun _ _ _ h => h) (Or.inr ⟨by rfl, rfl⟩) hHeld ?_
              try simp only [pu]
              refine wpAnyH_take (i := 18) (oi := ⟨(some 83), _, _, _, _, _⟩) (v := undef) rfl (by kernel_rfl) (by kernel_rfl) (by kernel_rfl) (fun _ _ _ h => h) (Or.inr ⟨by rfl, rfl⟩) hHeld ?_
              try simp only [pu]
              refine wpAnyH_take (i := 19) (oi := ⟨(some 84), _, _, _, _, _⟩) (v := undef) rfl (by kernel_rfl) (by kernel_rfl) (by kernel_rfl) (fun _ _ _ h => h) (Or.inr ⟨by rfl, rfl⟩) hHeld ?_
              try simp only [pu]
              refine wpAnyH_take (i := 20) (oi := ⟨(some 85), _, _, _, _, _⟩) (v := undef) rfl (by kernel_rfl) (by kernel_rfl) (by kernel_rfl) (fun _ _ _ h => h) (Or.inr ⟨by rfl, rfl⟩) hHeld ?_
              try simp only [pu]
              refine wpAnyH_take (i := 21) (oi := ⟨(some 86), _, _, _, _, _⟩) (v := undef) rfl (by kernel_rfl) (by kernel_rfl) (by kernel_rfl) (fun _ _ _ h => h) (Or.inr ⟨by rfl, rfl⟩) hHeld ?_
              try simp only [pu]
              refine wpAnyH_take (i := 22) (oi := ⟨(some 87), _, _, _, _, _⟩) (v := undef) rfl (by kernel_rfl) (by kernel_rfl) (by kernel_rfl) (fun _ _ _ h => h) (Or.inr ⟨by rfl, rfl⟩) hHeld ?_
              try simp only [pu]
              refine wpAnyH_take (i := 23) (oi := ⟨(some 88), _, _, _, _, _⟩) (v := undef) rfl (by kernel_rfl) (by kernel_rfl) (by kernel_rfl) (fun _ _ _ h => h) (Or.inr ⟨by rfl, rfl⟩) hHeld ?_
              try simp only [pu]
              refine wpAnyH_take (i := 24) (oi := ⟨(some 89), _, _, _, _, _⟩) (v := undef) rfl (by kernel_rfl) (by kernel_rfl) (by kernel_rfl) (fun _ _ _ h => h) (Or.inr ⟨by rfl, rfl⟩) hHeld ?_
              try simp only [pu]
              refine wpAnyH_take (i := 25) (oi := ⟨(some 90), _, _, _, _, _⟩) (v := undef) rfl (by kernel_rfl) (by kernel_rfl) (by kernel_rfl) (fun _ _ _ h => h) (Or.inr ⟨by rfl, rfl⟩) hHeld ?_
              try simp only [pu]
              refine wpAnyH_take (i := 26) (oi := ⟨(some 91), _, _, _, _, _⟩) (v := undef) rfl (by kernel_rfl) (by kernel_rfl) (by kernel_rfl) (fun _ _ _ h => h) (Or.inr ⟨by rfl, rfl⟩) hHeld ?_
              try simp only [pu]
              refine wpAnyH_take (i := 27) (oi := ⟨(some 92), _, _, _, _, _⟩) (v := .bool true) rfl (by kernel_rfl) (by kernel_rfl) (by kernel_rfl) (fun _ _ _ h => h) (Or.inl ⟨by rfl, ?yr11_27⟩) hHeld ?_
              case yr11_27 => (intro W0 hSw; go_simp; try with_reducible rfl)
              try simp only [pu]
              refine wpAnyH_done (by kernel_rfl) ?_ _
              have hgF := row_next2 hgV hHeld
              have hsF := row_size hgF
              have hbF := below_next hbV hbV.size hHeld
              have ck := nvI_at hgF k (by rw [List.length_set, HLL.out]; omega)
              rw [show (L.set i i).getD k 0 = k by rw [List.getD_eq_getElem?_getD, List.getElem?_set_ne (by omega), ← List.getD_eq_getElem?_getD, HLP.out _ (by omega)]; exact HY.out.1] at ck
              have c8 := nvI_at hgF i (by rw [List.length_set, HLL.out]; omega)
              have f8 := frozen_of_row _ _ i _ _ hgF.out
              have hset2 := world_set_cell hgF.out i (.int .i64 (k : Int))
              rw [nvI_set, List.set_set] at hset2
              obtain ⟨WW, hWW⟩ : ∃ WW, W2.drew = WW := ⟨_, rfl⟩
              rw [hWW] at hset2 hgF hsF hbF ck c8 f8 ⊢
              have hbt2 := (But.refl w.heap.size WW).set (i := i) (.int .i64 (k : Int))
              have hbG := But.below hbF hbt2 (Nat.le_refl _) hbF.size
              have hsG := row_size hset2
              have HK2 := vlt HY.out.2
              clear hWW hHeld
              go_wp2
              go_roundg (i - (k + 1))
              case measure => omega
              case rel => exact ⟨k + 1, k, by go_num, by omega, by omega, HK2, hset2, hsG, hbG⟩
            case neg =>
              have hne : Vlt (plainT F x i ≠ plainT F y k) := vlt (by intro e; exact hn4 (plain_nn h4 (by omega) e))
              have HN2 := vlt (HNO.out hne.out)
              go_upto_region 11 with fail
              refine wp_region_held_drew (S := fun W' => Below W2.heap.size W2 W') (by kernel_rfl) ((Below.refl _ _).drew) (fun hHeld => ?_)
              refine wpAnyH_take (i := 0) (oi := ⟨(some 65), _, _, _, _, _⟩) (v := .pointer (some ⟨gx, 0, none⟩)) rfl (by kernel_rfl) (by kernel_rfl) (by kernel_rfl) (fun _ _ _ h => h) (Or.inl ⟨by rfl, ?yr11_0⟩) hHeld ?_
              case yr11_0 => (intro W0 hSw; go_simp; try with_reducible rfl)
              try simp only [pu]
              refine wpAnyH_take (i := 1) (oi := ⟨(some 66), _, _, _, _, _⟩) (v := .int .i64 x.kind) rfl (by kernel_rfl) (by kernel_rfl) (by kernel_rfl) (fun _ _ _ h => h) (Or.inl ⟨by rfl, ?yr11_1⟩) hHeld ?_
              case yr11_1 => (intro W0 hSw; have cc := fx0 _ hSw; go_simp; try with_reducible rfl)
              try simp only [pu]
              refine wpAnyH_take (i := 2) (oi := ⟨(some 67), _, _, _, _, _⟩) (v := .bool true) rfl (by kernel_rfl) (by kernel_rfl) (by kernel_rfl) (fun _ _ _ h => h) (Or.inl ⟨by rfl, ?yr11_2⟩) hHeld ?_
              case yr11_2 => (intro W0 hSw; go_simp; first | done | omega | (simp; omega) | (simp_all; done))
              try simp only [pu]
              refine wpAnyH_take (i := 3) (oi := ⟨(some 68), _, _, _, _, _⟩) (v := .bool true) rfl (by kernel_rfl) (by kernel_rfl) (by kernel_rfl) (fun _ _ _ h => h) (Or.inl ⟨by rfl, ?yr11_3⟩) hHeld ?_
              case yr11_3 => (intro W0 hSw; go_simp; try with_reducible rfl)
              try simp only [pu]
              refine wpAnyH_take (i := 4) (oi := ⟨(some 69), _, _, _, _, _⟩) (v := .pointer (some ⟨gx, 3, none⟩)) rfl (by kernel_rfl) (by kernel_rfl) (by kernel_rfl) (fun _ _ _ h => h) (Or.inl ⟨by rfl, ?yr11_4⟩) hHeld ?_
              case yr11_4 => (intro W0 hSw; go_simp; try with_reducible rfl)
              try simp only [pu]
              refine wpAnyH_take (i := 5) (oi := ⟨(some 70), _, _, _, _, _⟩) (v := .int .i64 x.n) rfl (by kernel_rfl) (by kernel_rfl) (by kernel_rfl) (fun _ _ _ h => h) (Or.inl ⟨by rfl, ?yr11_5⟩) hHeld ?_
              case yr11_5 => (intro W0 hSw; have cc := fx3 _ hSw; go_simp; try with_reducible rfl)
              try simp only [pu]
              refine wpAnyH_take (i := 6) (oi := ⟨(some 71), _, _, _, _, _⟩) (v := .pointer (some ⟨gy, 3, none⟩)) rfl (by kernel_rfl) (by kernel_rfl) (by kernel_rfl) (fun _ _ _ h => h) (Or.inl ⟨by rfl, ?yr11_6⟩) hHeld ?_
              case yr11_6 => (intro W0 hSw; go_simp; try with_reducible rfl)
              try simp only [pu]
              refine wpAnyH_take (i := 7) (oi := ⟨(some 72), _, _, _, _, _⟩) (v := .int .i64 y.n) rfl (by kernel_rfl) (by kernel_rfl) (by kernel_rfl) (fun _ _ _ h => h) (Or.inl ⟨by rfl, ?yr11_7⟩) hHeld ?_
              case yr11_7 => (intro W0 hSw; have cc := fy3 _ hSw; go_simp; try with_reducible rfl)
              try simp only [pu]
              refine wpAnyH_take (i := 8) (oi := ⟨(some 73), _, _, _, _, _⟩) (v := .bool false) rfl (by kernel_rfl) (by kernel_rfl) (by kernel_rfl) (fun _ _ _ h => h) (Or.inl ⟨by rfl, ?yr11_8⟩) hHeld ?_
              case yr11_8 => (intro W0 hSw; go_simp; first | done | omega | (simp; omega) | (simp_all; done))
              try simp only [pu]
              refine wpAnyH_take (i := 9) (oi := ⟨(some 74), _, _, _, _, _⟩) (v := .bool false) rfl (by kernel_rfl) (by kernel_rfl) (by kernel_rfl) (fun _ _ _ h => h) (Or.inl ⟨by rfl, ?yr11_9⟩) hHeld ?_
              case yr11_9 => (intro W0 hSw; go_simp; try with_reducible rfl)
              try simp only [pu]
              refine wpAnyH_take (i := 10) (oi := ⟨(some 75), _, _, _, _, _⟩) (v := .bool false) rfl (by kernel_rfl) (by kernel_rfl) (by kernel_rfl) (fun _ _ _ h => h) (Or.inl ⟨by rfl, ?yr11_10⟩) hHeld ?_
              case yr11_10 => (intro W0 hSw; go_simp; try with_reducible rfl)
              try simp only [pu]
              refine wpAnyH_take (i := 11) (oi := ⟨(some 76), _, _, _, _, _⟩) (v := .pointer (some ⟨gx, 0, none⟩)) rfl (by kernel_rfl) (by kernel_rfl) (by kernel_rfl) (fun _ _ _ h => h) (Or.inl ⟨by rfl, ?yr11_11⟩) hHeld ?_
              case yr11_11 => (intro W0 hSw; go_simp; try with_reducible rfl)
              try simp only [pu]
              refine wpAnyH_take (i := 12) (oi := ⟨(some 77), _, _, _, _, _⟩) (v := .int .i64 x.kind) rfl (by kernel_rfl) (by kernel_rfl) (by kernel_rfl) (fun _ _ _ h => h) (Or.inl ⟨by rfl, ?yr11_12⟩) hHeld ?_
              case yr11_12 => (intro W0 hSw; have cc := fx0 _ hSw; go_simp; try with_reducible rfl)
              try simp only [pu]
              refine wpAnyH_take (i := 13) (oi := ⟨(some 78), _, _, _, _, _⟩) (v := .bool false) rfl (by kernel_rfl) (by kernel_rfl) (by kernel_rfl) (fun _ _ _ h => h) (Or.inl ⟨by rfl, ?yr11_13⟩) hHeld ?_
              case yr11_13 => (intro W0 hSw; go_simp; first | done | omega | (simp; omega) | (simp_all; done))
              try simp only [pu]
              refine wpAnyH_take (i := 14) (oi := ⟨(some 79), _, _, _, _, _⟩) (v := .bool false) rfl (by kernel_rfl) (by kernel_rfl) (by kernel_rfl) (fun _ _ _ h => h) (Or.inl ⟨by rfl, ?yr11_14⟩) hHeld ?_
              case yr11_14 => (intro W0 hSw; go_simp; try with_reducible rfl)
              try simp only [pu]
              refine wpAnyH_take (i := 15) (oi := ⟨(some 80), _, _, _, _, _⟩) (v := undef) rfl (by kernel_rfl) (by kernel_rfl) (by kernel_rfl) (fun _ _ _ h => h) (Or.inr ⟨by rfl, rfl⟩) hHeld ?_
              try simp only [pu]
              refine wpAnyH_take (i := 16) (oi := ⟨(some 81), _, _, _, _, _⟩) (v := undef) rfl (by kernel_rfl) (by kernel_rfl) (by kernel_rfl) (fun _ _ _ h => h) (Or.inr ⟨by rfl, rfl⟩) hHeld ?_
              try simp only [pu]
              refine wpAnyH_take (i := 17) (oi := ⟨(some 82), _, _, _, _, _⟩) (v := undef) rfl (by kernel_rfl) (by kernel_rfl) (by kernel_rfl) (fun _ _ _ h => h) (Or.inr ⟨by rfl, rfl⟩) hHeld ?_
              try simp only [pu]
              refine wpAnyH_take (i := 18) (oi := ⟨(some 83), _, _, _, _, _⟩) (v := undef) rfl (by kernel_rfl) (by kernel_rfl) (by kernel_rfl) (fun _ _ _ h => h) (Or.inr ⟨by rfl, rfl⟩) hHeld ?_
              try simp only [pu]
              refine wpAnyH_take (i := 19) (oi := ⟨(some 84), _, _, _, _, _⟩) (v := undef) rfl (by kernel_rfl) (by kernel_rfl) (by kernel_rfl) (fun _ _ _ h => h) (Or.inr ⟨by rfl, rfl⟩) hHeld ?_
              try simp only [pu]
              refine wpAnyH_take (i := 20) (oi := ⟨(some 85), _, _, _, _, _⟩) (v := undef) rfl (by kernel_rfl) (by kernel_rfl) (by kernel_rfl) (fun _ _ _ h => h) (Or.inr ⟨by rfl, rfl⟩) hHeld ?_
              try simp only [pu]
              refine wpAnyH_take (i := 21) (oi := ⟨(some 86), _, _, _, _, _⟩) (v := undef) rfl (by kernel_rfl) (by kernel_rfl) (by kernel_rfl) (fun _ _ _ h => h) (Or.inr ⟨by rfl, rfl⟩) hHeld ?_
              try simp only [pu]
              refine wpAnyH_take (i := 22) (oi := ⟨(some 87), _, _, _, _, _⟩) (v := undef) rfl (by kernel_rfl) (by kernel_rfl) (by kernel_rfl) (fun _ _ _ h => h) (Or.inr ⟨by rfl, rfl⟩) hHeld ?_
              try simp only [pu]
              refine wpAnyH_take (i := 23) (oi := ⟨(some 88), _, _, _, _, _⟩) (v := undef) rfl (by kernel_rfl) (by kernel_rfl) (by kernel_rfl) (fun _ _ _ h => h) (Or.inr ⟨by rfl, rfl⟩) hHeld ?_
              try simp only [pu]
              refine wpAnyH_take (i := 24) (oi := ⟨(some 89), _, _, _, _, _⟩) (v := undef) rfl (by kernel_rfl) (by kernel_rfl) (by kernel_rfl) (fun _ _ _ h => h) (Or.inr ⟨by rfl, rfl⟩) hHeld ?_
              try simp only [pu]
              refine wpAnyH_take (i := 25) (oi := ⟨(some 90), _, _, _, _, _⟩) (v := undef) rfl (by kernel_rfl) (by kernel_rfl) (by kernel_rfl) (fun _ _ _ h => h) (Or.inr ⟨by rfl, rfl⟩) hHeld ?_
              try simp only [pu]
              refine wpAnyH_take (i := 26) (oi := ⟨(some 91), _, _, _, _, _⟩) (v := .bool false) rfl (by kernel_rfl) (by kernel_rfl) (by kernel_rfl) (fun _ _ _ h => h) (Or.inl ⟨by rfl, ?yr11_26⟩) hHeld ?_
              case yr11_26 => (intro W0 hSw; go_simp; try with_reducible rfl)
              try simp only [pu]
              refine wpAnyH_take (i := 27) (oi := ⟨(some 92), _, _, _, _, _⟩) (v := .bool false) rfl (by kernel_rfl) (by kernel_rfl) (by kernel_rfl) (fun _ _ _ h => h) (Or.inl ⟨by rfl, ?yr11_27⟩) hHeld ?_
              case yr11_27 => (intro W0 hSw; go_simp; try with_reducible rfl)
              try simp only [pu]
              refine wpAnyH_done (by kernel_rfl) ?_ _
              have hgF := row_next2 hgV hHeld
              have hsF := row_size hgF
              have hbF := below_next hbV hbV.size hHeld
              go_wp2
              go_roundg (i - (k + 1))
              case measure => omega
              case rel => exact ⟨k + 1, i, by go_num, by omega, by omega, HN2, hgF, hsF, hbF⟩
          obtain ⟨hxb0, hxbi⟩ := hxb h4
          obtain ⟨hyb0, hybk⟩ := hyb (show ¬ y.kind = 4 by omega)
          have hk4 : x.kind < 4 := part_low hfx h4
          have hxbn : x.b < (n : Int) := by omega
          have hybn : y.b < (n : Int) := by omega
          obtain ⟨nxb, hnxb⟩ : ∃ m, nat F x.b = m := ⟨_, rfl⟩
          obtain ⟨nyb, hnyb⟩ : ∃ m, nat F y.b = m := ⟨_, rfl⟩
          have flxb := flk x.b nxb hxb0 hxbi hnxb
          have flyb := flk y.b nyb hyb0 (by omega) hnyb
          by_cases hnb : nxb = nyb
          case pos =>
            have hnbz : (nxb : Int) = (nyb : Int) := by omega
            have h1' : ¬ y.kind = 1 := by omega
            have HY := vlt (HYES.out (by rw [plainT, plainT]; rw [if_neg h1, if_neg h1', if_pos (by have := fits_kind hfx; omega), if_pos (by have := fits_kind hfx; omega), hnxa, hnya, hna, hnxb, hnyb, hnb, hkd]))
            go_upto_region 11 with fail
            refine wp_region_held_drew (S := fun W' => Below W2.heap.size W2 W') (by kernel_rfl) ((Below.refl _ _).drew) (fun hHeld => ?_)
            refine wpAnyH_take (i := 0) (oi := ⟨(some 65), _, _, _, _, _⟩) (v := .pointer (some ⟨gx, 0, none⟩)) rfl (by kernel_rfl) (by kernel_rfl) (by kernel_rfl) (fun _ _ _ h => h) (Or.inl ⟨by rfl, ?yr11_0⟩) hHeld ?_
            case yr11_0 => (intro W0 hSw; go_simp; try with_reducible rfl)
            try simp only [pu]
            refine wpAnyH_take (i := 1) (oi := ⟨(some 66), _, _, _, _, _⟩) (v := .int .i64 x.kind) rfl (by kernel_rfl) (by kernel_rfl) (by kernel_rfl) (fun _ _ _ h => h) (Or.inl ⟨by rfl, ?yr11_1⟩) hHeld ?_
            case yr11_1 => (intro W0 hSw; have cc := fx0 _ hSw; go_simp; try with_reducible rfl)
            try simp only [pu]
            refine wpAnyH_take (i := 2) (oi := ⟨(some 67), _, _, _, _, _⟩) (v := .bool false) rfl (by kernel_rfl) (by kernel_rfl) (by kernel_rfl) (fun _ _ _ h => h) (Or.inl ⟨by rfl, ?yr11_2⟩) hHeld ?_
            case yr11_2 => (intro W0 hSw; go_simp; first | done | omega | (simp; omega) | (simp_all; done))
            try simp only [pu]
            refine wpAnyH_take (i := 3) (oi := ⟨(some 68), _, _, _, _, _⟩) (v := .bool false) rfl (by kernel_rfl) (by kernel_rfl) (by kernel_rfl) (fun _ _ _ h => h) (Or.inl ⟨by rfl, ?yr11_3⟩) hHeld ?_
            case yr11_3 => (intro W0 hSw; go_simp; try with_reducible rfl)
            try simp only [pu]
            refine wpAnyH_take (i := 4) (oi := ⟨(some 69), _, _, _, _, _⟩) (v := undef) rfl (by kernel_rfl) (by kernel_rfl) (by kernel_rfl) (fun _ _ _ h => h) (Or.inr ⟨by rfl, rfl⟩) hHeld ?_
            try simp only [pu]
            refine wpAnyH_take (i := 5) (oi := ⟨(some 70), _, _, _, _, _⟩) (v := undef) rfl (by kernel_rfl) (by kernel_rfl) (by kernel_rfl) (fun _ _ _ h => h) (Or.inr ⟨by rfl, rfl⟩) hHeld ?_
            try simp only [pu]
            refine wpAnyH_take (i := 6) (oi := ⟨(some 71), _, _, _, _, _⟩) (v := undef) rfl (by kernel_rfl) (by kernel_rfl) (by kernel_rfl) (fun _ _ _ h => h) (Or.inr ⟨by rfl, rfl⟩) hHeld ?_
            try simp only [pu]
            refine wpAnyH_take (i := 7) (oi := ⟨(some 72), _, _, _, _, _⟩) (v := undef) rfl (by kernel_rfl) (by kernel_rfl) (by kernel_rfl) (fun _ _ _ h => h) (Or.inr ⟨by rfl, rfl⟩) hHeld ?_
            try simp only [pu]
            refine wpAnyH_take (i := 8) (oi := ⟨(some 73), _, _, _, _, _⟩) (v := undef) rfl (by kernel_rfl) (by kernel_rfl) (by kernel_rfl) (fun _ _ _ h => h) (Or.inr ⟨by rfl, rfl⟩) hHeld ?_
            try simp only [pu]
            refine wpAnyH_take (i := 9) (oi := ⟨(some 74), _, _, _, _, _⟩) (v := .bool false) rfl (by kernel_rfl) (by kernel_rfl) (by kernel_rfl) (fun _ _ _ h => h) (Or.inl ⟨by rfl, ?yr11_9⟩) hHeld ?_
            case yr11_9 => (intro W0 hSw; go_simp; try with_reducible rfl)
            try simp only [pu]
            refine wpAnyH_take (i := 10) (oi := ⟨(some 75), _, _, _, _, _⟩) (v := .bool false) rfl (by kernel_rfl) (by kernel_rfl) (by kernel_rfl) (fun _ _ _ h => h) (Or.inl ⟨by rfl, ?yr11_10⟩) hHeld ?_
            case yr11_10 => (intro W0 hSw; go_simp; try with_reducible rfl)
            try simp only [pu]
            refine wpAnyH_take (i := 11) (oi := ⟨(some 76), _, _, _, _, _⟩) (v := .pointer (some ⟨gx, 0, none⟩)) rfl (by kernel_rfl) (by kernel_rfl) (by kernel_rfl) (fun _ _ _ h => h) (Or.inl ⟨by rfl, ?yr11_11⟩) hHeld ?_
            case yr11_11 => (intro W0 hSw; go_simp; try with_reducible rfl)
            try simp only [pu]
            refine wpAnyH_take (i := 12) (oi := ⟨(some 77), _, _, _, _, _⟩) (v := .int .i64 x.kind) rfl (by kernel_rfl) (by kernel_rfl) (by kernel_rfl) (fun _ _ _ h => h) (Or.inl ⟨by rfl, ?yr11_12⟩) hHeld ?_
            case yr11_12 => (intro W0 hSw; have cc := fx0 _ hSw; go_simp; try with_reducible rfl)
            try simp only [pu]
            refine wpAnyH_take (i := 13) (oi := ⟨(some 78), _, _, _, _, _⟩) (v := .bool true) rfl (by kernel_rfl) (by kernel_rfl) (by kernel_rfl) (fun _ _ _ h => h) (Or.inl ⟨by rfl, ?yr11_13⟩) hHeld ?_
            case yr11_13 => (intro W0 hSw; go_simp; first | done | omega | (simp; omega) | (simp_all; done))
            try simp only [pu]
            refine wpAnyH_take (i := 14) (oi := ⟨(some 79), _, _, _, _, _⟩) (v := .bool true) rfl (by kernel_rfl) (by kernel_rfl) (by kernel_rfl) (fun _ _ _ h => h) (Or.inl ⟨by rfl, ?yr11_14⟩) hHeld ?_
            case yr11_14 => (intro W0 hSw; go_simp; try with_reducible rfl)
            try simp only [pu]
            refine wpAnyH_take (i := 15) (oi := ⟨(some 80), _, _, _, _, _⟩) (v := .slice (some ⟨w.heap.size, 0, none⟩) n n) rfl (by kernel_rfl) (by kernel_rfl) (by kernel_rfl) (fun _ _ _ h => h) (Or.inl ⟨by rfl, ?yr11_15⟩) hHeld ?_
            case yr11_15 => (intro W0 hSw; go_simp; try with_reducible rfl)
            try simp only [pu]
            refine wpAnyH_take (i := 16) (oi := ⟨(some 81), _, _, _, _, _⟩) (v := .pointer (some ⟨gx, 2, none⟩)) rfl (by kernel_rfl) (by kernel_rfl) (by kernel_rfl) (fun _ _ _ h => h) (Or.inl ⟨by rfl, ?yr11_16⟩) hHeld ?_
            case yr11_16 => (intro W0 hSw; go_simp; try with_reducible rfl)
            try simp only [pu]
            refine wpAnyH_take (i := 17) (oi := ⟨(some 82), _, _, _, _, _⟩) (v := .int .i64 x.b) rfl (by kernel_rfl) (by kernel_rfl) (by kernel_rfl) (fun _ _ _ h => h) (Or.inl ⟨by rfl, ?yr11_17⟩) hHeld ?_
            case yr11_17 => (intro W0 hSw; have cc := fx2 _ hSw; go_simp; try with_reducible rfl)
            try simp only [pu]
            refine wpAnyH_take (i := 18) (oi := ⟨(some 83), _, _, _, _, _⟩) (v := .pointer (some ⟨w.heap.size, x.b.toNat, none⟩)) rfl (by kernel_rfl) (by kernel_rfl) (by kernel_rfl) (fun _ _ _ h => h) (Or.inl ⟨by rfl, ?yr11_18⟩) hHeld ?_
            case yr11_18 => (intro W0 hSw; go_simp; try with_reducible rfl)
            try simp only [pu]
            refine wpAnyH_take (i := 19) (oi := ⟨(some 84), _, _, _, _, _⟩) (v := .int .i64 (nxb : Nat)) rfl (by kernel_rfl) (by kernel_rfl) (by kernel_rfl) (fun _ _ _ h => h) (Or.inl ⟨by rfl, ?yr11_19⟩) hHeld ?_
            case yr11_19 => (intro W0 hSw; have cc := flxb _ hSw; go_simp; try with_reducible rfl)
            try simp only [pu]
            refine wpAnyH_take (i := 20) (oi := ⟨(some 85), _, _, _, _, _⟩) (v := .slice (some ⟨w.heap.size, 0, none⟩) n n) rfl (by kernel_rfl) (by kernel_rfl) (by kernel_rfl) (fun _ _ _ h => h) (Or.inl ⟨by rfl, ?yr11_20⟩) hHeld ?_
            case yr11_20 => (intro W0 hSw; go_simp; try with_reducible rfl)
            try simp only [pu]
            refine wpAnyH_take (i := 21) (oi := ⟨(some 86), _, _, _, _, _⟩) (v := .pointer (some ⟨gy, 2, none⟩)) rfl (by kernel_rfl) (by kernel_rfl) (by kernel_rfl) (fun _ _ _ h => h) (Or.inl ⟨by rfl, ?yr11_21⟩) hHeld ?_
            case yr11_21 => (intro W0 hSw; go_simp; try with_reducible rfl)
            try simp only [pu]
            refine wpAnyH_take (i := 22) (oi := ⟨(some 87), _, _, _, _, _⟩) (v := .int .i64 y.b) rfl (by kernel_rfl) (by kernel_rfl) (by kernel_rfl) (fun _ _ _ h => h) (Or.inl ⟨by rfl, ?yr11_22⟩) hHeld ?_
            case yr11_22 => (intro W0 hSw; have cc := fy2 _ hSw; go_simp; try with_reducible rfl)
            try simp only [pu]
            refine wpAnyH_take (i := 23) (oi := ⟨(some 88), _, _, _, _, _⟩) (v := .pointer (some ⟨w.heap.size, y.b.toNat, none⟩)) rfl (by kernel_rfl) (by kernel_rfl) (by kernel_rfl) (fun _ _ _ h => h) (Or.inl ⟨by rfl, ?yr11_23⟩) hHeld ?_
            case yr11_23 => (intro W0 hSw; go_simp; try with_reducible rfl)
            try simp only [pu]
            refine wpAnyH_take (i := 24) (oi := ⟨(some 89), _, _, _, _, _⟩) (v := .int .i64 (nyb : Nat)) rfl (by kernel_rfl) (by kernel_rfl) (by kernel_rfl) (fun _ _ _ h => h) (Or.inl ⟨by rfl, ?yr11_24⟩) hHeld ?_
            case yr11_24 => (intro W0 hSw; have cc := flyb _ hSw; go_simp; try with_reducible rfl)
            try simp only [pu]
            refine wpAnyH_take (i := 25) (oi := ⟨(some 90), _, _, _, _, _⟩) (v := .bool true) rfl (by kernel_rfl) (by kernel_rfl) (by kernel_rfl) (fun _ _ _ h => h) (Or.inl ⟨by rfl, ?yr11_25⟩) hHeld ?_
            case yr11_25 => (intro W0 hSw; go_simp; first | done | omega | (simp; omega) | (simp_all; done))
            try simp only [pu]
            refine wpAnyH_take (i := 26) (oi := ⟨(some 91), _, _, _, _, _⟩) (v := .bool true) rfl (by kernel_rfl) (by kernel_rfl) (by kernel_rfl) (fun _ _ _ h => h) (Or.inl ⟨by rfl, ?yr11_26⟩) hHeld ?_
            case yr11_26 => (intro W0 hSw; go_simp; try with_reducible rfl)
            try simp only [pu]
            refine wpAnyH_take (i := 27) (oi := ⟨(some 92), _, _, _, _, _⟩) (v := .bool true) rfl (by kernel_rfl) (by kernel_rfl) (by kernel_rfl) (fun _ _ _ h => h) (Or.inl ⟨by rfl, ?yr11_27⟩) hHeld ?_
            case yr11_27 => (intro W0 hSw; go_simp; try with_reducible rfl)
            try simp only [pu]
            refine wpAnyH_done (by kernel_rfl) ?_ _
            have hgF := row_next2 hgV hHeld
            have hsF := row_size hgF
            have hbF := below_next hbV hbV.size hHeld
            have ck := nvI_at hgF k (by rw [List.length_set, HLL.out]; omega)
            rw [show (L.set i i).getD k 0 = k by rw [List.getD_eq_getElem?_getD, List.getElem?_set_ne (by omega), ← List.getD_eq_getElem?_getD, HLP.out _ (by omega)]; exact HY.out.1] at ck
            have c8 := nvI_at hgF i (by rw [List.length_set, HLL.out]; omega)
            have f8 := frozen_of_row _ _ i _ _ hgF.out
            have hset2 := world_set_cell hgF.out i (.int .i64 (k : Int))
            rw [nvI_set, List.set_set] at hset2
            obtain ⟨WW, hWW⟩ : ∃ WW, W2.drew = WW := ⟨_, rfl⟩
            rw [hWW] at hset2 hgF hsF hbF ck c8 f8 ⊢
            have hbt2 := (But.refl w.heap.size WW).set (i := i) (.int .i64 (k : Int))
            have hbG := But.below hbF hbt2 (Nat.le_refl _) hbF.size
            have hsG := row_size hset2
            have HK2 := vlt HY.out.2
            clear hWW hHeld
            go_wp2
            go_roundg (i - (k + 1))
            case measure => omega
            case rel => exact ⟨k + 1, k, by go_num, by omega, by omega, HK2, hset2, hsG, hbG⟩
          have hnbz : ¬ (nxb : Int) = (nyb : Int) := by omega
          have hne : Vlt (plainT F x i ≠ plainT F y k) := vlt (by intro e; have h := plain_bn h1 (show ¬ y.kind = 1 by omega) e (by have := fits_kind hfx; omega) (by have := fits_kind hfy; omega); rw [hnxb, hnyb] at h; exact hnb h)
          have HN2 := vlt (HNO.out hne.out)
          go_upto_region 11 with fail
          refine wp_region_held_drew (S := fun W' => Below W2.heap.size W2 W') (by kernel_rfl) ((Below.refl _ _).drew) (fun hHeld => ?_)
          refine wpAnyH_take (i := 0) (oi := ⟨(some 65), _, _, _, _, _⟩) (v := .pointer (some ⟨gx, 0, none⟩)) rfl (by kernel_rfl) (by kernel_rfl) (by kernel_rfl) (fun _ _ _ h => h) (Or.inl ⟨by rfl, ?yr11_0⟩) hHeld ?_
          case yr11_0 => (intro W0 hSw; go_simp; try with_reducible rfl)
          try simp only [pu]
          refine wpAnyH_take (i := 1) (oi := ⟨(some 66), _, _, _, _, _⟩) (v := .int .i64 x.kind) rfl (by kernel_rfl) (by kernel_rfl) (by kernel_rfl) (fun _ _ _ h => h) (Or.inl ⟨by rfl, ?yr11_1⟩) hHeld ?_
          case yr11_1 => (intro W0 hSw; have cc := fx0 _ hSw; go_simp; try with_reducible rfl)
          try simp only [pu]
          refine wpAnyH_take (i := 2) (oi := ⟨(some 67), _, _, _, _, _⟩) (v := .bool false) rfl (by kernel_rfl) (by kernel_rfl) (by kernel_rfl) (fun _ _ _ h => h) (Or.inl ⟨by rfl, ?yr11_2⟩) hHeld ?_
          case yr11_2 => (intro W0 hSw; go_simp; first | done | omega | (simp; omega) | (simp_all; done))
          try simp only [pu]
          refine wpAnyH_take (i := 3) (oi := ⟨(some 68), _, _, _, _, _⟩) (v := .bool false) rfl (by kernel_rfl) (by kernel_rfl) (by kernel_rfl) (fun _ _ _ h => h) (Or.inl ⟨by rfl, ?yr11_3⟩) hHeld ?_
          case yr11_3 => (intro W0 hSw; go_simp; try with_reducible rfl)
          try simp only [pu]
          refine wpAnyH_take (i := 4) (oi := ⟨(some 69), _, _, _, _, _⟩) (v := undef) rfl (by kernel_rfl) (by kernel_rfl) (by kernel_rfl) (fun _ _ _ h => h) (Or.inr ⟨by rfl, rfl⟩) hHeld ?_
          try simp only [pu]
          refine wpAnyH_take (i := 5) (oi := ⟨(some 70), _, _, _, _, _⟩) (v := undef) rfl (by kernel_rfl) (by kernel_rfl) (by kernel_rfl) (fun _ _ _ h => h) (Or.inr ⟨by rfl, rfl⟩) hHeld ?_
          try simp only [pu]
          refine wpAnyH_take (i := 6) (oi := ⟨(some 71), _, _, _, _, _⟩) (v := undef) rfl (by kernel_rfl) (by kernel_rfl) (by kernel_rfl) (fun _ _ _ h => h) (Or.inr ⟨by rfl, rfl⟩) hHeld ?_
          try simp only [pu]
          refine wpAnyH_take (i := 7) (oi := ⟨(some 72), _, _, _, _, _⟩) (v := undef) rfl (by kernel_rfl) (by kernel_rfl) (by kernel_rfl) (fun _ _ _ h => h) (Or.inr ⟨by rfl, rfl⟩) hHeld ?_
          try simp only [pu]
          refine wpAnyH_take (i := 8) (oi := ⟨(some 73), _, _, _, _, _⟩) (v := undef) rfl (by kernel_rfl) (by kernel_rfl) (by kernel_rfl) (fun _ _ _ h => h) (Or.inr ⟨by rfl, rfl⟩) hHeld ?_
          try simp only [pu]
          refine wpAnyH_take (i := 9) (oi := ⟨(some 74), _, _, _, _, _⟩) (v := .bool false) rfl (by kernel_rfl) (by kernel_rfl) (by kernel_rfl) (fun _ _ _ h => h) (Or.inl ⟨by rfl, ?yr11_9⟩) hHeld ?_
          case yr11_9 => (intro W0 hSw; go_simp; try with_reducible rfl)
          try simp only [pu]
          refine wpAnyH_take (i := 10) (oi := ⟨(some 75), _, _, _, _, _⟩) (v := .bool false) rfl (by kernel_rfl) (by kernel_rfl) (by kernel_rfl) (fun _ _ _ h => h) (Or.inl ⟨by rfl, ?yr11_10⟩) hHeld ?_
          case yr11_10 => (intro W0 hSw; go_simp; try with_reducible rfl)
          try simp only [pu]
          refine wpAnyH_take (i := 11) (oi := ⟨(some 76), _, _, _, _, _⟩) (v := .pointer (some ⟨gx, 0, none⟩)) rfl (by kernel_rfl) (by kernel_rfl) (by kernel_rfl) (fun _ _ _ h => h) (Or.inl ⟨by rfl, ?yr11_11⟩) hHeld ?_
          case yr11_11 => (intro W0 hSw; go_simp; try with_reducible rfl)
          try simp only [pu]
          refine wpAnyH_take (i := 12) (oi := ⟨(some 77), _, _, _, _, _⟩) (v := .int .i64 x.kind) rfl (by kernel_rfl) (by kernel_rfl) (by kernel_rfl) (fun _ _ _ h => h) (Or.inl ⟨by rfl, ?yr11_12⟩) hHeld ?_
          case yr11_12 => (intro W0 hSw; have cc := fx0 _ hSw; go_simp; try with_reducible rfl)
          try simp only [pu]
          refine wpAnyH_take (i := 13) (oi := ⟨(some 78), _, _, _, _, _⟩) (v := .bool true) rfl (by kernel_rfl) (by kernel_rfl) (by kernel_rfl) (fun _ _ _ h => h) (Or.inl ⟨by rfl, ?yr11_13⟩) hHeld ?_
          case yr11_13 => (intro W0 hSw; go_simp; first | done | omega | (simp; omega) | (simp_all; done))
          try simp only [pu]
          refine wpAnyH_take (i := 14) (oi := ⟨(some 79), _, _, _, _, _⟩) (v := .bool true) rfl (by kernel_rfl) (by kernel_rfl) (by kernel_rfl) (fun _ _ _ h => h) (Or.inl ⟨by rfl, ?yr11_14⟩) hHeld ?_
          case yr11_14 => (intro W0 hSw; go_simp; try with_reducible rfl)
          try simp only [pu]
          refine wpAnyH_take (i := 15) (oi := ⟨(some 80), _, _, _, _, _⟩) (v := .slice (some ⟨w.heap.size, 0, none⟩) n n) rfl (by kernel_rfl) (by kernel_rfl) (by kernel_rfl) (fun _ _ _ h => h) (Or.inl ⟨by rfl, ?yr11_15⟩) hHeld ?_
          case yr11_15 => (intro W0 hSw; go_simp; try with_reducible rfl)
          try simp only [pu]
          refine wpAnyH_take (i := 16) (oi := ⟨(some 81), _, _, _, _, _⟩) (v := .pointer (some ⟨gx, 2, none⟩)) rfl (by kernel_rfl) (by kernel_rfl) (by kernel_rfl) (fun _ _ _ h => h) (Or.inl ⟨by rfl, ?yr11_16⟩) hHeld ?_
          case yr11_16 => (intro W0 hSw; go_simp; try with_reducible rfl)
          try simp only [pu]
          refine wpAnyH_take (i := 17) (oi := ⟨(some 82), _, _, _, _, _⟩) (v := .int .i64 x.b) rfl (by kernel_rfl) (by kernel_rfl) (by kernel_rfl) (fun _ _ _ h => h) (Or.inl ⟨by rfl, ?yr11_17⟩) hHeld ?_
          case yr11_17 => (intro W0 hSw; have cc := fx2 _ hSw; go_simp; try with_reducible rfl)
          try simp only [pu]
          refine wpAnyH_take (i := 18) (oi := ⟨(some 83), _, _, _, _, _⟩) (v := .pointer (some ⟨w.heap.size, x.b.toNat, none⟩)) rfl (by kernel_rfl) (by kernel_rfl) (by kernel_rfl) (fun _ _ _ h => h) (Or.inl ⟨by rfl, ?yr11_18⟩) hHeld ?_
          case yr11_18 => (intro W0 hSw; go_simp; try with_reducible rfl)
          try simp only [pu]
          refine wpAnyH_take (i := 19) (oi := ⟨(some 84), _, _, _, _, _⟩) (v := .int .i64 (nxb : Nat)) rfl (by kernel_rfl) (by kernel_rfl) (by kernel_rfl) (fun _ _ _ h => h) (Or.inl ⟨by rfl, ?yr11_19⟩) hHeld ?_
          case yr11_19 => (intro W0 hSw; have cc := flxb _ hSw; go_simp; try with_reducible rfl)
          try simp only [pu]
          refine wpAnyH_take (i := 20) (oi := ⟨(some 85), _, _, _, _, _⟩) (v := .slice (some ⟨w.heap.size, 0, none⟩) n n) rfl (by kernel_rfl) (by kernel_rfl) (by kernel_rfl) (fun _ _ _ h => h) (Or.inl ⟨by rfl, ?yr11_20⟩) hHeld ?_
          case yr11_20 => (intro W0 hSw; go_simp; try with_reducible rfl)
          try simp only [pu]
          refine wpAnyH_take (i := 21) (oi := ⟨(some 86), _, _, _, _, _⟩) (v := .pointer (some ⟨gy, 2, none⟩)) rfl (by kernel_rfl) (by kernel_rfl) (by kernel_rfl) (fun _ _ _ h => h) (Or.inl ⟨by rfl, ?yr11_21⟩) hHeld ?_
          case yr11_21 => (intro W0 hSw; go_simp; try with_reducible rfl)
          try simp only [pu]
          refine wpAnyH_take (i := 22) (oi := ⟨(some 87), _, _, _, _, _⟩) (v := .int .i64 y.b) rfl (by kernel_rfl) (by kernel_rfl) (by kernel_rfl) (fun _ _ _ h => h) (Or.inl ⟨by rfl, ?yr11_22⟩) hHeld ?_
          case yr11_22 => (intro W0 hSw; have cc := fy2 _ hSw; go_simp; try with_reducible rfl)
          try simp only [pu]
          refine wpAnyH_take (i := 23) (oi := ⟨(some 88), _, _, _, _, _⟩) (v := .pointer (some ⟨w.heap.size, y.b.toNat, none⟩)) rfl (by kernel_rfl) (by kernel_rfl) (by kernel_rfl) (fun _ _ _ h => h) (Or.inl ⟨by rfl, ?yr11_23⟩) hHeld ?_
          case yr11_23 => (intro W0 hSw; go_simp; try with_reducible rfl)
          try simp only [pu]
          refine wpAnyH_take (i := 24) (oi := ⟨(some 89), _, _, _, _, _⟩) (v := .int .i64 (nyb : Nat)) rfl (by kernel_rfl) (by kernel_rfl) (by kernel_rfl) (fun _ _ _ h => h) (Or.inl ⟨by rfl, ?yr11_24⟩) hHeld ?_
          case yr11_24 => (intro W0 hSw; have cc := flyb _ hSw; go_simp; try with_reducible rfl)
          try simp only [pu]
          refine wpAnyH_take (i := 25) (oi := ⟨(some 90), _, _, _, _, _⟩) (v := .bool false) rfl (by kernel_rfl) (by kernel_rfl) (by kernel_rfl) (fun _ _ _ h => h) (Or.inl ⟨by rfl, ?yr11_25⟩) hHeld ?_
          case yr11_25 => (intro W0 hSw; go_simp; first | done | omega | (simp; omega) | (simp_all; done))
          try simp only [pu]
          refine wpAnyH_take (i := 26) (oi := ⟨(some 91), _, _, _, _, _⟩) (v := .bool false) rfl (by kernel_rfl) (by kernel_rfl) (by kernel_rfl) (fun _ _ _ h => h) (Or.inl ⟨by rfl, ?yr11_26⟩) hHeld ?_
          case yr11_26 => (intro W0 hSw; go_simp; try with_reducible rfl)
          try simp only [pu]
          refine wpAnyH_take (i := 27) (oi := ⟨(some 92), _, _, _, _, _⟩) (v := .bool false) rfl (by kernel_rfl) (by kernel_rfl) (by kernel_rfl) (fun _ _ _ h => h) (Or.inl ⟨by rfl, ?yr11_27⟩) hHeld ?_
          case yr11_27 => (intro W0 hSw; go_simp; try with_reducible rfl)
          try simp only [pu]
          refine wpAnyH_done (by kernel_rfl) ?_ _
          have hgF := row_next2 hgV hHeld
          have hsF := row_size hgF
          have hbF := below_next hbV hbV.size hHeld
          go_wp2
          go_roundg (i - (k + 1))
          case measure => omega
          case rel => exact ⟨k + 1, i, by go_num, by omega, by omega, HN2, hgF, hsF, hbF⟩)
    · have hltz : ¬ (i : Int) < (n : Int) := by omega
      have hi : i = n := by omega
      subst hi
      have HE : Vlt (L = firstsT t) := vlt (by
        rw [HF.out]
        refine List.ext_getElem? fun p => ?_
        by_cases hp : p < i
        · have h := HLP.out p hp
          rw [List.getD_eq_getElem?_getD, List.getD_eq_getElem?_getD, List.getElem?_eq_getElem (by rw [HLL.out]; omega), List.getElem?_eq_getElem (by rw [HFI.out.lf, HN.out]; omega)] at h
          rw [List.getElem?_eq_getElem (by rw [HLL.out]; omega), List.getElem?_eq_getElem (by rw [HFI.out.lf, HN.out]; omega)]
          simpa using h
        · rw [List.getElem?_eq_none (by rw [HLL.out]; omega), List.getElem?_eq_none (by rw [HFI.out.lf, HN.out]; omega)])
      rw [HE.out] at hg1
      go_wp2
      go_ret
      exact ⟨rfl, hg1, hb⟩
end Go.Proofs.Ytknmccpoheekmaa
