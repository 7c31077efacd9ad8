/-
  Contract of know's stepsOf. No statement is proved here. Conditions: a table that may be.
-/
import Derived.Test.YtknmccpoheekmaaKnB
namespace Go.Proofs.Ytknmccpoheekmaa
open Go.RowKit

def cellsS : List Stp → List Nat → List Value
  | s :: S, g :: gs => .slice (some ⟨g, 0, none⟩) s.1.length s.1.length :: .int .i64 (s.2 : Int) :: cellsS S gs
  | _, _ => []
theorem cellsS_app : ∀ {S : List Stp} {gs : List Nat} {N : List Stp} {us : List Nat}, gs.length = S.length → cellsS (S ++ N) (gs ++ us) = cellsS S gs ++ cellsS N us
  | [], [], N, us, _ => rfl
  | s :: S, g :: gs, N, us, h => by
    rw [List.cons_append, List.cons_append, cellsS, cellsS, cellsS_app (by simpa using h)]; rfl
  | [], g :: gs, _, _, h => by simp at h
  | s :: S, [], _, _, h => by simp at h
theorem cellsS_len : ∀ {S : List Stp} {gs : List Nat}, gs.length = S.length → (cellsS S gs).length = S.length * 2
  | [], [], _ => rfl
  | s :: S, g :: gs, h => by rw [cellsS, List.length_cons, List.length_cons, cellsS_len (by simpa using h), List.length_cons]; omega
  | [], g :: gs, h => by simp at h
  | s :: S, [], h => by simp at h
theorem cellsS_one : ∀ {S : List Stp} {gs : List Nat}, ∀ v ∈ cellsS S gs, v.oneCell' = true
  | s :: S, g :: gs, v, hv => by
    rw [cellsS, List.mem_cons, List.mem_cons] at hv
    rcases hv with rfl | rfl | hv
    · rfl
    · rfl
    · exact cellsS_one v hv
  | [], [], v, hv => by simp [cellsS] at hv
  | [], g :: gs, v, hv => by simp [cellsS] at hv
  | s :: S, [], v, hv => by simp [cellsS] at hv
theorem step_info : (Try.prog.info? 50).map (fun i => (i.zero, i.size, i.bytes)) = some (some (.agg #[.slice none 0 0, .int .i64 0]), 2, 32) := by kernel_rfl
/-- Steps of one's own: a row of them, what each asks in a block by itself. -/
def Stw (w : World) (B : Nat) (A : Option Addr) (n c : Nat) (S : List Stp) : Prop :=
  ∃ gs : List Nat, gs.length = S.length ∧ S.length = n ∧ w.ownsRow 0 50 2 (.slice A n c) n (cellsS S gs) ∧ (∀ p, A = some p → B ≤ p.block ∧ p.block ∉ gs) ∧ ∀ (j : Nat) (s : Stp) (g : Nat), S[j]? = some s → gs[j]? = some g → B ≤ g ∧ w.heap[g]? = some (.cells (nvI s.1).toArray 3 (0, 0))
theorem Stw.nil (w : World) (B : Nat) : Stw w B none 0 0 [] := ⟨[], rfl, rfl, World.ownsRow_nil _ _ _ _, fun p h => (by cases h), fun j s g h => (by simp at h)⟩
theorem Stw.len {w : World} {B n c : Nat} {A : Option Addr} {S : List Stp} (h : Stw w B A n c S) : S.length = n := by
  obtain ⟨gs, _, h2, _⟩ := h
  exact h2
theorem row_lt {w : World} {A : Option Addr} {e size n c : Nat} {xs : List Value} (h : w.ownsRow 0 e size (.slice A n c) n xs) : ∀ p, A = some p → p.block < w.heap.size := by
  rintro p rfl
  exact (h.lt p.block rfl).2
theorem Stw.next {w w' : World} {B n c : Nat} {A : Option Addr} {S : List Stp} (h : Stw w B A n c S) (hb : Below w.heap.size w w') : Stw w' B A n c S := by
  obtain ⟨gs, h1, h2, h3, h4, h5⟩ := h
  refine ⟨gs, h1, h2, h3.kept (row := none) ⟨hb.os, hb.tape, hb.output, hb.size, fun k hk _ => hb.block k hk⟩ (by cases A <;> simp [Value.ownBlock]), h4, fun j s g hs hg => ⟨(h5 j s g hs hg).1, ?_⟩⟩
  have h6 := (h5 j s g hs hg).2
  exact (hb.block g (Array.getElem?_eq_some_iff.1 h6).1).trans h6
theorem stw_push {w0 w : World} {B n c : Nat} {A : Option Addr} {S : List Stp} (h : Stw w0 B A n c S) (hB : B ≤ w0.heap.size) (hb : Below w0.heap.size w0 w) (hn : n ≤ 1048576) (N : List Stp) (us : List Nat) (R m : Nat) (hus : us.length = N.length) (hm : N.length = m) (hm3 : m ≤ 3)
    (hR : w.heap[R]? = some (.cells (cellsS N us).toArray 50 (0, 0))) (hN : ∀ (j : Nat) (s : Stp) (g : Nat), N[j]? = some s → us[j]? = some g → w0.heap.size ≤ g ∧ w.heap[g]? = some (.cells (nvI s.1).toArray 3 (0, 0))) :
    ∃ A' c' w', (Builtin.append_ #[47, 47] 47 #[.slice A n c, .slice (some ⟨R, 0, none⟩) m m]).run Try.prog w = .ok (.slice A' (n + m) c') w' ∧ Stw w' B A' (n + m) c' (S ++ N) ∧ Below B w0 w' := by
  obtain ⟨gs0, k1, k2, k3, k4, k5⟩ := h
  have hc : ∀ j u, (cellsS N us)[j]? = some u → w.cell? ((⟨R, 0, none⟩ : Addr).add j) = some u := fun j u hj => by
    rw [Addr.add_lit, cell_of_row _ _ _ _ _ _ hR, Nat.zero_add]
    simpa using hj
  have h3' : w.ownsRow 0 50 2 (.slice A n c) n (cellsS S gs0) := k3.kept (row := none) ⟨hb.os, hb.tape, hb.output, hb.size, fun k hk _ => hb.block k hk⟩ (by cases A <;> simp [Value.ownBlock])
  obtain ⟨A', c', w2, hrun, hown2, hgr, hpl, _⟩ := append_big (P := Try.prog) (ty := 47) w Try.underlying47 step_info rfl (by omega) h3' ⟨R, 0, none⟩ m m (cellsS N us) (by rw [cellsS_len hus, hm]) hc cellsS_one (by omega) (by omega)
  have hoff : Off (fun i => ∃ q, A = some q ∧ q.block = i) w w2 := ⟨hgr.os, hgr.tape, hgr.output, hgr.size, fun i hi hn => hgr.block i hi fun e => by
    obtain ⟨q, hq, he⟩ := Option.map_eq_some_iff.1 e.symm
    exact hn ⟨q, hq, he⟩⟩
  have hAlt := row_lt k3
  have hgs0 : ∀ g ∈ gs0, g < w0.heap.size ∧ ∃ (j : Nat) (s : Stp), S[j]? = some s ∧ gs0[j]? = some g := by
    intro g hg
    obtain ⟨j, hj, rfl⟩ := List.mem_iff_getElem.1 hg
    have hs : j < S.length := by omega
    have h6 := (k5 j S[j] gs0[j] (List.getElem?_eq_getElem hs) (List.getElem?_eq_getElem hj)).2
    exact ⟨(Array.getElem?_eq_some_iff.1 h6).1, j, S[j], List.getElem?_eq_getElem hs, List.getElem?_eq_getElem hj⟩
  have hus0 : ∀ g ∈ us, w0.heap.size ≤ g ∧ g < w.heap.size := by
    intro g hg
    obtain ⟨j, hj, rfl⟩ := List.mem_iff_getElem.1 hg
    have hs : j < N.length := by omega
    have h6 := hN j N[j] us[j] (List.getElem?_eq_getElem hs) (List.getElem?_eq_getElem hj)
    exact ⟨h6.1, (Array.getElem?_eq_some_iff.1 h6.2).1⟩
  refine ⟨A', c', w2, hrun, ⟨gs0 ++ us, by simp [k1, hus], by simp [k2, hm], by rw [cellsS_app k1]; exact hown2, fun p hp => ?_, fun j s g hs hg => ?_⟩, hoff.below (hb.mono hB) (fun i hi => ?_) (Nat.le_trans hB hb.size)⟩
  · rcases hpl p hp with ⟨q, hq, he⟩ | hge
    · rw [he]
      refine ⟨(k4 q hq).1, fun hmem => ?_⟩
      rcases List.mem_append.1 hmem with hm2 | hm2
      · exact (k4 q hq).2 hm2
      · have := (hus0 _ hm2).1
        have := hAlt q hq
        omega
    · have := hb.size
      refine ⟨by omega, fun hmem => ?_⟩
      rcases List.mem_append.1 hmem with hm2 | hm2
      · have := (hgs0 _ hm2).1
        omega
      · have := (hus0 _ hm2).2
        omega
  · by_cases hj : j < S.length
    · rw [List.getElem?_append_left hj] at hs
      rw [List.getElem?_append_left (by omega)] at hg
      have h6 := k5 j s g hs hg
      have hl := (Array.getElem?_eq_some_iff.1 h6.2).1
      refine ⟨h6.1, ((hoff.block g (Nat.lt_of_lt_of_le hl hb.size) fun ⟨q, hq, he⟩ => (k4 q hq).2 (by rw [he]; exact List.mem_of_getElem? hg)).trans (hb.block g hl)).trans h6.2⟩
    · rw [List.getElem?_append_right (by omega)] at hs
      rw [List.getElem?_append_right (by omega), k1] at hg
      have h6 := hN _ s g hs hg
      refine ⟨by omega, (hoff.block g (Array.getElem?_eq_some_iff.1 h6.2).1 fun ⟨q, hq, he⟩ => ?_).trans h6.2⟩
      have := hAlt q hq
      omega
  · obtain ⟨q, hq, rfl⟩ := hi
    exact (k4 q hq).1
set_option maxRecDepth 100000 in
set_option maxHeartbeats 4000000 in
theorem stepsOf_any {w : World} {A : Option Addr} {t : List Th} {n g1 : Nat} (c c1 : Nat) (ht : ThP w w.heap.size A t) (hl : t.length = n) (hg : goodT t = true) (h1 : Hid (w.heap[g1]? = some (.cells (nvI (firstsT t)).toArray 3 (0, 0)))) :
    Calls Try.prog 23 #[.slice A n c, .slice (some ⟨g1, 0, none⟩) n c1] w fun e w' => ∃ A' c', e = .returned (.slice A' (stepsT t).length c') ∧ Stw w' w.heap.size A' (stepsT t).length c' (stepsT t) ∧ Below w.heap.size w w' := by
  have hn : n ≤ 500 := by rw [← hl]; exact goodT_len hg
  have HN := Lib.hid hl
  have HG := vlt hg
  have HFl : Hid ((firstsT t).length = n) := Lib.hid (by rw [firstsT_len, hl])
  obtain ⟨F, hF⟩ : ∃ F, firstsT t = F := ⟨_, rfl⟩
  have HF := vlt hF
  rw [hF] at h1 HFl
  have hg1l := row_size h1
  clear hl hg hF
  go_enter Try.func23, Try.ntmps23
  go_wp2
  go_loopg [5, 6, 7, 8, 9, 10, 11, 12, 15] n (fun k s5 s6 s7 s8 s9 s10 s11 s12 s15 wr => ∃ (i : Nat) (A : Option Addr) (m c : Nat) (S : List Stp), s5 = .slice A m c ∧ s15 = .int .i64 i ∧ n - i < k + 1 ∧ i ≤ n ∧ m ≤ 3 * i ∧ Vlt (Stw wr w.heap.size A m c S) ∧ Vlt (S = stepsFrom F 0 (t.take i)) ∧ Below w.heap.size w wr)
  case atStart => exact ⟨0, none, 0, 0, [], rfl, rfl, by omega, Nat.zero_le _, Nat.le_refl _, vlt (Stw.nil _ _), vlt rfl, Below.refl _ _⟩
  case round =>
    obtain ⟨i, A2, m, c3, S, rfl, rfl, hk, hin, hm3, H1, HS, hb⟩ := hrel
    by_cases hlt : i < n
    · have hltz : (i : Int) < (n : Int) := by omega
      obtain ⟨g, o2, x, rfl, hg, HX, c0, c1', c2, c3'⟩ := (ht.below hb).at_ (i := i) (by rw [HN.out]; omega)
      have hfit := goodT_at HG.out HX.out
      obtain ⟨U, hU, hgX, hbU, hsU⟩ := one_new wr #[.int .i64 x.kind, .int .i64 x.a, .int .i64 x.b, .int .i64 x.n] 24
      have hbu := below_next hb hb.size hbU
      have hXs := row_size hgX
      have fd0 : ∀ W', Below U.heap.size U W' → W'.cell? ⟨wr.heap.size, 0, none⟩ = some (.int .i64 x.kind) := fun W' h => by rw [cell_of_row _ _ _ _ _ _ (row_next2 hgX h).out]; rfl
      have fd1 : ∀ W', Below U.heap.size U W' → W'.cell? ⟨wr.heap.size, 1, none⟩ = some (.int .i64 x.a) := fun W' h => by rw [cell_of_row _ _ _ _ _ _ (row_next2 hgX h).out]; rfl
      have fd2 : ∀ W', Below U.heap.size U W' → W'.cell? ⟨wr.heap.size, 2, none⟩ = some (.int .i64 x.b) := fun W' h => by rw [cell_of_row _ _ _ _ _ _ (row_next2 hgX h).out]; rfl
      have d0 := fd0 U (Below.refl _ _)
      have h1U := row_next2 h1 hbu
      obtain ⟨own, hown⟩ : ∃ own, F.getD i 0 = own := ⟨_, rfl⟩
      have cown := nvI_at h1U i (by rw [HFl.out]; omega)
      rw [hown] at cown
      have hstep : Vlt (stepsFrom F 0 (t.take (i + 1)) = S ++ stepsAt F x i) := vlt (by
        rw [List.take_add_one, HX.out, show (some x).toList = [x] from rfl, stepsFrom_app, HS.out, List.length_take, HN.out, Nat.min_eq_left (by omega), Nat.zero_add])
      rw [fitsT] at hfit
      have HU := H1.out.next hbU
      have HUV := vlt HU
      go_upto_region 7 with fail
      clear hU HU
      by_cases h1k : x.kind = 1
      · have HS2 : Vlt (S = stepsFrom F 0 (t.take (i + 1))) := vlt (by rw [hstep.out, stepsAt, if_neg (by omega), if_neg (by omega), if_neg (by omega), List.append_nil])
        clear hown
        go_wp2
        go_roundg (n - (i + 1))
        case measure => omega
        case rel => exact ⟨i + 1, A2, m, c3, S, rfl, by go_num, by omega, by omega, by omega, HUV, HS2, hbu⟩
      · by_cases h23 : x.kind = 2 ∨ x.kind = 3
        · rw [if_neg h1k, if_pos h23, Bool.and_eq_true, below, below, Bool.and_eq_true, Bool.and_eq_true, decide_eq_true_iff, decide_eq_true_iff, decide_eq_true_iff, decide_eq_true_iff] at hfit
          obtain ⟨⟨ha0, hai⟩, hb0, hbi⟩ := hfit
          have han : x.a < (n : Int) := by omega
          have hbn : x.b < (n : Int) := by omega
          obtain ⟨na, hna⟩ : ∃ na, nat F x.a = na := ⟨_, rfl⟩
          have fka : ∀ W', Below U.heap.size U W' → W'.cell? ⟨g1, x.a.toNat, none⟩ = some (.int .i64 (na : Nat)) := fun W' h => by
            rw [← hna, nvI_at (row_next2 h1U h) x.a.toNat (by rw [HFl.out]; omega), nat]
          obtain ⟨nb, hnb⟩ : ∃ nb, nat F x.b = nb := ⟨_, rfl⟩
          have fkb : ∀ W', Below U.heap.size U W' → W'.cell? ⟨g1, x.b.toNat, none⟩ = some (.int .i64 (nb : Nat)) := fun W' h => by
            rw [← hnb, nvI_at (row_next2 h1U h) x.b.toNat (by rw [HFl.out]; omega), nat]
          rcases h23 with h2 | h3
          · have HA : Vlt (stepsAt F x i = [([own], na), ([own], nb), ([na, nb], own)]) := vlt (by rw [stepsAt, if_pos h2, hna, hnb, hown])
            clear hna hnb hown
            go_upto_region 8 with fail
            refine wp_region_held_drew (S := fun W' => Below U.heap.size U W') (by kernel_rfl) ((Below.refl _ _).drew) (fun hHeld => ?_)
            refine wpAnyH_take (i := 0) (oi := ⟨(some 28), _, _, _, _, _⟩) (v := .slice (some ⟨g1, 0, none⟩) n c1) rfl (by kernel_rfl) (by kernel_rfl) (by kernel_rfl) (fun _ _ _ h => h) (Or.inl ⟨by rfl, ?yr8_0⟩) hHeld ?_
            case yr8_0 => (intro W0 hSw; go_simp; try with_reducible rfl)
            try simp only [pu]
            refine wpAnyH_take (i := 1) (oi := ⟨(some 29), _, _, _, _, _⟩) (v := .pointer (some ⟨wr.heap.size, 1, none⟩)) rfl (by kernel_rfl) (by kernel_rfl) (by kernel_rfl) (fun _ _ _ h => h) (Or.inl ⟨by rfl, ?yr8_1⟩) hHeld ?_
            case yr8_1 => (intro W0 hSw; go_simp; try with_reducible rfl)
            try simp only [pu]
            refine wpAnyH_take (i := 2) (oi := ⟨(some 30), _, _, _, _, _⟩) (v := .int .i64 x.a) rfl (by kernel_rfl) (by kernel_rfl) (by kernel_rfl) (fun _ _ _ h => h) (Or.inl ⟨by rfl, ?yr8_2⟩) hHeld ?_
            case yr8_2 => (intro W0 hSw; have cc := fd1 _ hSw; go_simp; try with_reducible rfl)
            try simp only [pu]
            refine wpAnyH_take (i := 3) (oi := ⟨(some 31), _, _, _, _, _⟩) (v := .pointer (some ⟨g1, x.a.toNat, none⟩)) rfl (by kernel_rfl) (by kernel_rfl) (by kernel_rfl) (fun _ _ _ h => h) (Or.inl ⟨by rfl, ?yr8_3⟩) hHeld ?_
            case yr8_3 => (intro W0 hSw; go_simp; try with_reducible rfl)
            try simp only [pu]
            refine wpAnyH_take (i := 4) (oi := ⟨(some 32), _, _, _, _, _⟩) (v := .int .i64 (na : Nat)) rfl (by kernel_rfl) (by kernel_rfl) (by kernel_rfl) (fun _ _ _ h => h) (Or.inl ⟨by rfl, ?yr8_4⟩) hHeld ?_
            case yr8_4 => (intro W0 hSw; have cc := fka _ hSw; go_simp; try with_reducible rfl)
            try simp only [pu]
            refine wpAnyH_take (i := 5) (oi := ⟨(some 33), _, _, _, _, _⟩) (v := .slice (some ⟨g1, 0, none⟩) n c1) rfl (by kernel_rfl) (by kernel_rfl) (by kernel_rfl) (fun _ _ _ h => h) (Or.inl ⟨by rfl, ?yr8_5⟩) hHeld ?_
            case yr8_5 => (intro W0 hSw; go_simp; try with_reducible rfl)
            try simp only [pu]
            refine wpAnyH_take (i := 6) (oi := ⟨(some 34), _, _, _, _, _⟩) (v := .pointer (some ⟨wr.heap.size, 2, none⟩)) rfl (by kernel_rfl) (by kernel_rfl) (by kernel_rfl) (fun _ _ _ h => h) (Or.inl ⟨by rfl, ?yr8_6⟩) hHeld ?_
            case yr8_6 => (intro W0 hSw; go_simp; try with_reducible rfl)
            try simp only [pu]
            refine wpAnyH_take (i := 7) (oi := ⟨(some 35), _, _, _, _, _⟩) (v := .int .i64 x.b) rfl (by kernel_rfl) (by kernel_rfl) (by kernel_rfl) (fun _ _ _ h => h) (Or.inl ⟨by rfl, ?yr8_7⟩) hHeld ?_
            case yr8_7 => (intro W0 hSw; have cc := fd2 _ hSw; go_simp; try with_reducible rfl)
            try simp only [pu]
            refine wpAnyH_take (i := 8) (oi := ⟨(some 36), _, _, _, _, _⟩) (v := .pointer (some ⟨g1, x.b.toNat, none⟩)) rfl (by kernel_rfl) (by kernel_rfl) (by kernel_rfl) (fun _ _ _ h => h) (Or.inl ⟨by rfl, ?yr8_8⟩) hHeld ?_
            case yr8_8 => (intro W0 hSw; go_simp; try with_reducible rfl)
            try simp only [pu]
            refine wpAnyH_take (i := 9) (oi := ⟨(some 37), _, _, _, _, _⟩) (v := .int .i64 (nb : Nat)) rfl (by kernel_rfl) (by kernel_rfl) (by kernel_rfl) (fun _ _ _ h => h) (Or.inl ⟨by rfl, ?yr8_9⟩) hHeld ?_
            case yr8_9 => (intro W0 hSw; have cc := fkb _ hSw; go_simp; try with_reducible rfl)
            try simp only [pu]
            refine wpAnyH_take (i := 10) (oi := ⟨(some 9), _, _, _, _, _⟩) (v := .int .i64 (na : Nat)) rfl (by kernel_rfl) (by kernel_rfl) (by kernel_rfl) (fun _ _ _ h => h) (Or.inl ⟨by rfl, ?yr8_10⟩) hHeld ?_
            case yr8_10 => (intro W0 hSw; go_simp; try with_reducible rfl)
            try simp only [pu]
            refine wpAnyH_take (i := 11) (oi := ⟨(some 10), _, _, _, _, _⟩) (v := .int .i64 (nb : Nat)) rfl (by kernel_rfl) (by kernel_rfl) (by kernel_rfl) (fun _ _ _ h => h) (Or.inl ⟨by rfl, ?yr8_11⟩) hHeld ?_
            case yr8_11 => (intro W0 hSw; go_simp; try with_reducible rfl)
            try simp only [pu]
            refine wpAnyH_done (by kernel_rfl) ?_ _
            obtain ⟨U2, hU2⟩ : ∃ U2, U.drew = U2 := ⟨_, rfl⟩
            rw [hU2]
            have hb2 : Below U.heap.size U U2 := by rw [← hU2]; exact (Below.refl _ _).drew
            clear hU2 hHeld
            have hs2 := hb2.size
            have hus := hbu.size
            have hbu2 := below_next hbu hbu.size hb2
            obtain ⟨X1, hX1, rX1, bX1, zX1⟩ := one_new U2 #[.int .i64 (own : Int)] 3
            obtain ⟨X2, hX2, rX2, bX2, zX2⟩ := one_new X1 #[.int .i64 (own : Int)] 3
            obtain ⟨X3, hX3, rX3, bX3, zX3⟩ := one_new X2 #[.int .i64 (na : Int), .int .i64 (nb : Int)] 3
            obtain ⟨X4, hX4, rX4, bX4, zX4⟩ := one_new X3 #[.slice (some ⟨U2.heap.size, 0, none⟩) 1 1, .int .i64 (na : Int), .slice (some ⟨X1.heap.size, 0, none⟩) 1 1, .int .i64 (nb : Int), .slice (some ⟨X2.heap.size, 0, none⟩) 2 2, .int .i64 (own : Int)] 50
            have q1 := row_next2 (row_next2 (row_next2 (rX1) bX2) bX3) bX4
            have q2 := row_next2 (row_next2 (rX2) bX3) bX4
            have q3 := row_next2 (rX3) bX4
            have hbX := below_next (below_next (below_next (bX1) (bX1).size bX2) (below_next (bX1) (bX1).size bX2).size bX3) (below_next (below_next (bX1) (bX1).size bX2) (below_next (bX1) (bX1).size bX2).size bX3).size bX4
            have y1 := (bX1).size
            have y2 := (bX2).size
            have y3 := (bX3).size
            have y4 := (bX4).size
            obtain ⟨A', c', w9, hrun, hT9, hb9⟩ := stw_push (HUV.out.next hb2) (show w.heap.size ≤ U2.heap.size by omega) hbX (show m ≤ 1048576 by omega) [([own], na), ([own], nb), ([na, nb], own)] [U2.heap.size, X1.heap.size, X2.heap.size] X3.heap.size 3 rfl rfl (by decide) rX4.out (fun j s g hs hg => by
                match j, hs, hg with
                | 0, hs, hg => simp only [List.getElem?_cons_zero, Option.some.injEq] at hs hg; subst hs hg; exact ⟨by omega, q1.out⟩
                | 1, hs, hg => simp only [List.getElem?_cons_succ, List.getElem?_cons_zero, Option.some.injEq] at hs hg; subst hs hg; exact ⟨by omega, q2.out⟩
                | 2, hs, hg => simp only [List.getElem?_cons_succ, List.getElem?_cons_zero, Option.some.injEq] at hs hg; subst hs hg; exact ⟨by omega, q3.out⟩
                | j + 3, hs, _ => simp at hs)
            have H9 := vlt hT9
            have HS2 : Vlt (S ++ [([own], na), ([own], nb), ([na, nb], own)] = stepsFrom F 0 (t.take (i + 1))) := vlt (by rw [hstep.out, HA.out])
            have VR := vlt hrun
            clear hrun hT9
            go_wp2_with (at_builtin; refine Lib.wpList_append_run _ rfl _ _ _ _ rfl _ _ rfl rfl _ _ VR.out ?_)
            have hb19 := hbu2.trans hb9
            go_roundg (n - (i + 1))
            case measure => omega
            case rel => exact ⟨i + 1, A', m + 3, c', _, by go_num, by go_num, by omega, by omega, by omega, H9, HS2, hb19⟩
          · have h2 : ¬ x.kind = 2 := by omega
            have HA : Vlt (stepsAt F x i = [([own, na], nb), ([na, nb], own)]) := vlt (by rw [stepsAt, if_neg h2, if_pos h3, hna, hnb, hown])
            clear hna hnb hown
            go_upto_region 11 with fail
            refine wp_region_held_drew (S := fun W' => Below U.heap.size U W') (by kernel_rfl) ((Below.refl _ _).drew) (fun hHeld => ?_)
            refine wpAnyH_take (i := 0) (oi := ⟨(some 56), _, _, _, _, _⟩) (v := .slice (some ⟨g1, 0, none⟩) n c1) rfl (by kernel_rfl) (by kernel_rfl) (by kernel_rfl) (fun _ _ _ h => h) (Or.inl ⟨by rfl, ?yr11_0⟩) hHeld ?_
            case yr11_0 => (intro W0 hSw; go_simp; try with_reducible rfl)
            try simp only [pu]
            refine wpAnyH_take (i := 1) (oi := ⟨(some 57), _, _, _, _, _⟩) (v := .pointer (some ⟨wr.heap.size, 1, none⟩)) rfl (by kernel_rfl) (by kernel_rfl) (by kernel_rfl) (fun _ _ _ h => h) (Or.inl ⟨by rfl, ?yr11_1⟩) hHeld ?_
            case yr11_1 => (intro W0 hSw; go_simp; try with_reducible rfl)
            try simp only [pu]
            refine wpAnyH_take (i := 2) (oi := ⟨(some 58), _, _, _, _, _⟩) (v := .int .i64 x.a) rfl (by kernel_rfl) (by kernel_rfl) (by kernel_rfl) (fun _ _ _ h => h) (Or.inl ⟨by rfl, ?yr11_2⟩) hHeld ?_
            case yr11_2 => (intro W0 hSw; have cc := fd1 _ hSw; go_simp; try with_reducible rfl)
            try simp only [pu]
            refine wpAnyH_take (i := 3) (oi := ⟨(some 59), _, _, _, _, _⟩) (v := .pointer (some ⟨g1, x.a.toNat, none⟩)) rfl (by kernel_rfl) (by kernel_rfl) (by kernel_rfl) (fun _ _ _ h => h) (Or.inl ⟨by rfl, ?yr11_3⟩) hHeld ?_
            case yr11_3 => (intro W0 hSw; go_simp; try with_reducible rfl)
            try simp only [pu]
            refine wpAnyH_take (i := 4) (oi := ⟨(some 60), _, _, _, _, _⟩) (v := .int .i64 (na : Nat)) rfl (by kernel_rfl) (by kernel_rfl) (by kernel_rfl) (fun _ _ _ h => h) (Or.inl ⟨by rfl, ?yr11_4⟩) hHeld ?_
            case yr11_4 => (intro W0 hSw; have cc := fka _ hSw; go_simp; try with_reducible rfl)
            try simp only [pu]
            refine wpAnyH_take (i := 5) (oi := ⟨(some 61), _, _, _, _, _⟩) (v := .slice (some ⟨g1, 0, none⟩) n c1) rfl (by kernel_rfl) (by kernel_rfl) (by kernel_rfl) (fun _ _ _ h => h) (Or.inl ⟨by rfl, ?yr11_5⟩) hHeld ?_
            case yr11_5 => (intro W0 hSw; go_simp; try with_reducible rfl)
            try simp only [pu]
            refine wpAnyH_take (i := 6) (oi := ⟨(some 62), _, _, _, _, _⟩) (v := .pointer (some ⟨wr.heap.size, 2, none⟩)) rfl (by kernel_rfl) (by kernel_rfl) (by kernel_rfl) (fun _ _ _ h => h) (Or.inl ⟨by rfl, ?yr11_6⟩) hHeld ?_
            case yr11_6 => (intro W0 hSw; go_simp; try with_reducible rfl)
            try simp only [pu]
            refine wpAnyH_take (i := 7) (oi := ⟨(some 63), _, _, _, _, _⟩) (v := .int .i64 x.b) rfl (by kernel_rfl) (by kernel_rfl) (by kernel_rfl) (fun _ _ _ h => h) (Or.inl ⟨by rfl, ?yr11_7⟩) hHeld ?_
            case yr11_7 => (intro W0 hSw; have cc := fd2 _ hSw; go_simp; try with_reducible rfl)
            try simp only [pu]
            refine wpAnyH_take (i := 8) (oi := ⟨(some 64), _, _, _, _, _⟩) (v := .pointer (some ⟨g1, x.b.toNat, none⟩)) rfl (by kernel_rfl) (by kernel_rfl) (by kernel_rfl) (fun _ _ _ h => h) (Or.inl ⟨by rfl, ?yr11_8⟩) hHeld ?_
            case yr11_8 => (intro W0 hSw; go_simp; try with_reducible rfl)
            try simp only [pu]
            refine wpAnyH_take (i := 9) (oi := ⟨(some 65), _, _, _, _, _⟩) (v := .int .i64 (nb : Nat)) rfl (by kernel_rfl) (by kernel_rfl) (by kernel_rfl) (fun _ _ _ h => h) (Or.inl ⟨by rfl, ?yr11_9⟩) hHeld ?_
            case yr11_9 => (intro W0 hSw; have cc := fkb _ hSw; go_simp; try with_reducible rfl)
            try simp only [pu]
            refine wpAnyH_take (i := 10) (oi := ⟨(some 11), _, _, _, _, _⟩) (v := .int .i64 (na : Nat)) rfl (by kernel_rfl) (by kernel_rfl) (by kernel_rfl) (fun _ _ _ h => h) (Or.inl ⟨by rfl, ?yr11_10⟩) hHeld ?_
            case yr11_10 => (intro W0 hSw; go_simp; try with_reducible rfl)
            try simp only [pu]
            refine wpAnyH_take (i := 11) (oi := ⟨(some 12), _, _, _, _, _⟩) (v := .int .i64 (nb : Nat)) rfl (by kernel_rfl) (by kernel_rfl) (by kernel_rfl) (fun _ _ _ h => h) (Or.inl ⟨by rfl, ?yr11_11⟩) hHeld ?_
            case yr11_11 => (intro W0 hSw; go_simp; try with_reducible rfl)
            try simp only [pu]
            refine wpAnyH_done (by kernel_rfl) ?_ _
            obtain ⟨U2, hU2⟩ : ∃ U2, U.drew = U2 := ⟨_, rfl⟩
            rw [hU2]
            have hb2 : Below U.heap.size U U2 := by rw [← hU2]; exact (Below.refl _ _).drew
            clear hU2 hHeld
            have hs2 := hb2.size
            have hus := hbu.size
            have hbu2 := below_next hbu hbu.size hb2
            obtain ⟨X1, hX1, rX1, bX1, zX1⟩ := one_new U2 #[.int .i64 (own : Int), .int .i64 (na : Int)] 3
            obtain ⟨X2, hX2, rX2, bX2, zX2⟩ := one_new X1 #[.int .i64 (na : Int), .int .i64 (nb : Int)] 3
            obtain ⟨X3, hX3, rX3, bX3, zX3⟩ := one_new X2 #[.slice (some ⟨U2.heap.size, 0, none⟩) 2 2, .int .i64 (nb : Int), .slice (some ⟨X1.heap.size, 0, none⟩) 2 2, .int .i64 (own : Int)] 50
            have q1 := row_next2 (row_next2 (rX1) bX2) bX3
            have q2 := row_next2 (rX2) bX3
            have hbX := below_next (below_next (bX1) (bX1).size bX2) (below_next (bX1) (bX1).size bX2).size bX3
            have y1 := (bX1).size
            have y2 := (bX2).size
            have y3 := (bX3).size
            obtain ⟨A', c', w9, hrun, hT9, hb9⟩ := stw_push (HUV.out.next hb2) (show w.heap.size ≤ U2.heap.size by omega) hbX (show m ≤ 1048576 by omega) [([own, na], nb), ([na, nb], own)] [U2.heap.size, X1.heap.size] X2.heap.size 2 rfl rfl (by decide) rX3.out (fun j s g hs hg => by
                match j, hs, hg with
                | 0, hs, hg => simp only [List.getElem?_cons_zero, Option.some.injEq] at hs hg; subst hs hg; exact ⟨by omega, q1.out⟩
                | 1, hs, hg => simp only [List.getElem?_cons_succ, List.getElem?_cons_zero, Option.some.injEq] at hs hg; subst hs hg; exact ⟨by omega, q2.out⟩
                | j + 2, hs, _ => simp at hs)
            have H9 := vlt hT9
            have HS2 : Vlt (S ++ [([own, na], nb), ([na, nb], own)] = stepsFrom F 0 (t.take (i + 1))) := vlt (by rw [hstep.out, HA.out])
            have VR := vlt hrun
            clear hrun hT9
            go_wp2_with (at_builtin; refine Lib.wpList_append_run _ rfl _ _ _ _ rfl _ _ rfl rfl _ _ VR.out ?_)
            have hb19 := hbu2.trans hb9
            go_roundg (n - (i + 1))
            case measure => omega
            case rel => exact ⟨i + 1, A', m + 2, c', _, by go_num, by go_num, by omega, by omega, by omega, H9, HS2, hb19⟩
        · rw [if_neg h1k, if_neg h23] at hfit
          by_cases h4 : x.kind = 4
          · rw [if_pos h4, below, Bool.and_eq_true, decide_eq_true_iff, decide_eq_true_iff] at hfit
            obtain ⟨ha0, hai⟩ := hfit
            have han : x.a < (n : Int) := by omega
            have h2 : ¬ x.kind = 2 := by omega
            have h3 : ¬ x.kind = 3 := by omega
            obtain ⟨na, hna⟩ : ∃ na, nat F x.a = na := ⟨_, rfl⟩
            have fka : ∀ W', Below U.heap.size U W' → W'.cell? ⟨g1, x.a.toNat, none⟩ = some (.int .i64 (na : Nat)) := fun W' h => by
              rw [← hna, nvI_at (row_next2 h1U h) x.a.toNat (by rw [HFl.out]; omega), nat]
            have HA : Vlt (stepsAt F x i = [([na], own)]) := vlt (by rw [stepsAt, if_neg h2, if_neg h3, if_pos h4, hna, hown])
            clear hna hown
            have cfa := fka U (Below.refl _ _)
            have cxa := fd1 U (Below.refl _ _)
            go_upto_region 14 with fail
            obtain ⟨U2, hU2⟩ : ∃ U2, U2 = U := ⟨_, rfl⟩
            have hb2 : Below U.heap.size U U2 := by rw [hU2]; exact Below.refl _ _
            rw [← hU2] at cfa cxa ⊢
            clear hU2
            have hs2 := hb2.size
            have hus := hbu.size
            have hbu2 := below_next hbu hbu.size hb2
            obtain ⟨X1, hX1, rX1, bX1, zX1⟩ := one_new U2 #[.int .i64 (na : Int)] 3
            obtain ⟨X2, hX2, rX2, bX2, zX2⟩ := one_new X1 #[.slice (some ⟨U2.heap.size, 0, none⟩) 1 1, .int .i64 (own : Int)] 50
            have q1 := row_next2 (rX1) bX2
            have hbX := below_next (bX1) (bX1).size bX2
            have y1 := (bX1).size
            have y2 := (bX2).size
            obtain ⟨A', c', w9, hrun, hT9, hb9⟩ := stw_push (HUV.out.next hb2) (show w.heap.size ≤ U2.heap.size by omega) hbX (show m ≤ 1048576 by omega) [([na], own)] [U2.heap.size] X1.heap.size 1 rfl rfl (by decide) rX2.out (fun j s g hs hg => by
                match j, hs, hg with
                | 0, hs, hg => simp only [List.getElem?_cons_zero, Option.some.injEq] at hs hg; subst hs hg; exact ⟨by omega, q1.out⟩
                | j + 1, hs, _ => simp at hs)
            have H9 := vlt hT9
            have HS2 : Vlt (S ++ [([na], own)] = stepsFrom F 0 (t.take (i + 1))) := vlt (by rw [hstep.out, HA.out])
            have VR := vlt hrun
            clear hrun hT9
            go_wp2_with (at_builtin; refine Lib.wpList_append_run _ rfl _ _ _ _ rfl _ _ rfl rfl _ _ VR.out ?_)
            have hb19 := hbu2.trans hb9
            go_roundg (n - (i + 1))
            case measure => omega
            case rel => exact ⟨i + 1, A', m + 1, c', _, by go_num, by go_num, by omega, by omega, by omega, H9, HS2, hb19⟩
          · rw [if_neg h4] at hfit
            cases hfit
    · have hltz : ¬ (i : Int) < (n : Int) := by omega
      have HE : Vlt (S = stepsT t ∧ (stepsT t).length = m) := vlt (by
        have e : S = stepsT t := by
          rw [HS.out, List.take_of_length_le (by rw [HN.out]; omega), stepsT, HF.out]
        exact ⟨e, by rw [← e]; exact H1.out.len⟩)
      have hI := H1.out
      rw [HE.out.1] at hI
      have hm := HE.out.2
      go_wp2
      go_ret
      exact ⟨A2, c3, rfl, hI, hb⟩
end Go.Proofs.Ytknmccpoheekmaa
