/-
  Contracts of know's begin, places. No statement is proved here. Conditions: first places as firsts tells them.
-/
import Derived.Test.YtknmccpoheekmaaKnF
import Derived.Test.YtknmccpoheekmaaKnC
import Derived.Test.YtknmccpoheekmaaAppE
import Derived.Lib.AppendZeros
namespace Go.Proofs.Ytknmccpoheekmaa
open Go.RowKit

def bvl (h : List Bool) : List Value := h.map Value.bool
theorem make_bools (w : World) (n : Nat) (hn : n ≤ 1048576) : (Instr.makeSlice 45 (.int .i64 (n : Int)) (.int .i64 (n : Int))).run Try.prog w = .ok (.slice (some ⟨w.heap.size, 0, none⟩) n n) (w.alloc (.cells (bvl (List.replicate n false)).toArray 4)) := by
  obtain ⟨i, hi, hz, h1, h2⟩ := info_parts (show (Try.prog.info? 4).map (fun i => (i.zero, i.size, i.bytes)) = some (some (.bool false), 1, 1) by kernel_rfl)
  have h := run_make (P := Try.prog) w 45 4 i (.bool false) Try.underlying45 hi hz .i64 .i64 n n (by omega) (by omega) (by rw [h2]; omega) (by omega)
  simp only [Int.toNat_natCast] at h
  have e : madeCells (Value.bool false).cells (n * i.size) = (bvl (List.replicate n false)).toArray := by
    rw [h1, Nat.mul_one]
    apply Array.ext'
    show (madeCells #[Value.bool false] n).toList = _
    rw [toList_madeCells_one]; simp [bvl]
  rwa [e] at h
theorem bvl_at {w : World} {g : Nat} {h : List Bool} {T : TypeId} (hg : Hid (w.heap[g]? = some (.cells (bvl h).toArray T (0, 0)))) (k : Nat) (hk : k < h.length) : w.cell? ⟨g, k, none⟩ = some (.bool (on h k)) := by
  rw [cell_of_row _ _ _ _ _ _ hg.out]
  simp [bvl, on, List.getD_eq_getElem?_getD, hk]
theorem bvl_set (h : List Bool) (k : Nat) (b : Bool) : (bvl h).set k (.bool b) = bvl (h.set k b) := by rw [bvl, bvl, List.map_set]
set_option maxRecDepth 100000 in
set_option maxHeartbeats 4000000 in
theorem begin_any {w : World} {g1 : Nat} {F : List Nat} {n : Nat} {A : Option Addr} {known : List Int} {m : Nat} (c c2 : Nat) (h1 : Hid (w.heap[g1]? = some (.cells (nvI F).toArray 3 (0, 0)))) (hl : F.length = n) (hn : n ≤ 500) (hF : ∀ k : Nat, k < n → F.getD k 0 < n) (h2 : InP w w.heap.size A known) (hm : known.length = m) (hmm : m ≤ 281474976710656) :
    Calls Try.prog 22 #[.slice (some ⟨g1, 0, none⟩) n c, .slice A m c2] w fun e w' => e = .returned (.slice (some ⟨w.heap.size, 0, none⟩) n n) ∧ Hid (w'.heap[w.heap.size]? = some (.cells (bvl (beginT F known)).toArray 4 (0, 0))) ∧ Below w.heap.size w w' := by
  have HN := Lib.hid hl
  have HM := Lib.hid hm
  have HF := vlt hF
  have hmk := make_bools w n (by omega)
  have hz := Lib.hid (heap_alloc_new w (.cells (bvl (List.replicate n false)).toArray 4))
  have hbz : Below w.heap.size w (w.alloc (.cells (bvl (List.replicate n false)).toArray 4)) := (Below.refl _ _).alloc (Nat.le_refl _) _
  generalize w.alloc (.cells (bvl (List.replicate n false)).toArray 4) = w1 at *
  have hg1l := row_size h1
  clear hl hm hF
  go_enter Try.func22, Try.ntmps22
  go_wp2
  go_loopg [7, 13] m (fun k s7 s13 wr => ∃ (i : Nat) (h : List Bool), s13 = .int .i64 i ∧ m - i < k + 1 ∧ i ≤ m ∧ Vlt (h = (known.take i).foldl (bstepK F) (List.replicate n false) ∧ h.length = n) ∧ Hid (wr.heap[w.heap.size]? = some (.cells (bvl h).toArray 4 (0, 0))) ∧ Below w.heap.size w wr)
  case atStart => exact ⟨0, _, rfl, by omega, Nat.zero_le _, vlt ⟨rfl, by simp⟩, hz, hbz⟩
  case round =>
    obtain ⟨i, h, rfl, hk, him, HH, hgr, hb⟩ := hrel
    by_cases hlt : i < m
    · have hltz : (i : Int) < (m : Int) := by omega
      obtain ⟨g2, o2, x, rfl, hg2, HX, c0⟩ := (h2.below hb).at_ (i := i) (by rw [HM.out]; omega)
      obtain ⟨q, hq⟩ : ∃ q, below x (n : Int) = q := ⟨_, rfl⟩
      have D1 := kbelow_any wr x (n : Int)
      rw [hq] at D1
      have V1 := vlt D1
      have HQ := vlt hq
      have h1r := row_next2 h1 hb
      have hstep : Vlt ((known.take (i + 1)).foldl (bstepK F) (List.replicate n false) = bstepK F h x) := vlt (by rw [List.take_add_one, HX.out, List.foldl_append, ← HH.out.1]; rfl)
      clear D1 hq
      cases q with
      | true =>
        have hxx := HQ.out
        rw [below, Bool.and_eq_true, decide_eq_true_iff, decide_eq_true_iff] at hxx
        obtain ⟨hx0, hxn⟩ := hxx
        obtain ⟨p, hp⟩ : ∃ p, F.getD x.toNat 0 = p := ⟨_, rfl⟩
        have hpn := HF.out x.toNat (by omega)
        rw [hp] at hpn
        have cf := nvI_at h1r x.toNat (by rw [HN.out]; omega)
        rw [hp] at cf
        have cb := bvl_at hgr p (by rw [HH.out.2]; omega)
        have fb := frozen_of_row _ _ p _ _ hgr.out
        have hset := world_set_cell hgr.out p (.bool true)
        rw [bvl_set] at hset
        have hbt := (But.refl w.heap.size wr).set (i := p) (.bool true)
        have hb9 := But.below hb hbt (Nat.le_refl _) hb.size
        have HH2 : Vlt (h.set p true = (known.take (i + 1)).foldl (bstepK F) (List.replicate n false) ∧ (h.set p true).length = n) := vlt ⟨by rw [hstep.out, bstepK, if_pos (by rw [HN.out]; exact HQ.out), nat, hp], by rw [List.length_set]; exact HH.out.2⟩
        have hpz : (p : Int) < (n : Int) := by omega
        clear hp
        go_wp2_with (go_at_call 20; refine V1.out.mono ?_; rintro e w5 ⟨rfl, rfl⟩; clear V1)
        go_roundg (m - (i + 1))
        case measure => omega
        case rel => exact ⟨i + 1, h.set p true, by go_num, by omega, by omega, HH2, hset, hb9⟩
      | false =>
        have HH2 : Vlt (h = (known.take (i + 1)).foldl (bstepK F) (List.replicate n false) ∧ h.length = n) := vlt ⟨by rw [hstep.out, bstepK, if_neg (by rw [HN.out, HQ.out]; decide)], HH.out.2⟩
        go_wp2_with (go_at_call 20; refine V1.out.mono ?_; rintro e w5 ⟨rfl, rfl⟩; clear V1)
        go_roundg (m - (i + 1))
        case measure => omega
        case rel => exact ⟨i + 1, h, by go_num, by omega, by omega, HH2, hgr, hb⟩
    · have hltz : ¬ (i : Int) < (m : Int) := by omega
      have HE : Vlt (h = beginT F known) := vlt (by
        have e := HH.out.1
        rw [List.take_of_length_le (by rw [HM.out]; omega), ← HN.out] at e
        exact e)
      rw [HE.out] at hgr
      go_wp2
      go_ret
      exact ⟨rfl, hgr, hb⟩
/-- Numbers of one's own. -/
def Iwo (w : World) (B : Nat) (A : Option Addr) (n c : Nat) (l : List Int) : Prop :=
  w.ownsRow 0 3 1 (.slice A n c) n (l.map (Value.int .i64)) ∧ ∀ p, A = some p → B ≤ p.block
theorem int_info : (Try.prog.info? 3).map (fun i => (i.zero, i.size, i.bytes)) = some (some (.int .i64 0), 1, 8) := by kernel_rfl
theorem Iwo.nil (w : World) (B : Nat) : Iwo w B none 0 0 [] := ⟨World.ownsRow_nil _ _ _ _, fun p h => by cases h⟩
theorem Iwo.len {w : World} {B n c : Nat} {A : Option Addr} {l : List Int} (h : Iwo w B A n c l) : l.length = n := by
  have := h.1.1
  simpa using this
theorem Iwo.inp {w : World} {B n c : Nat} {A : Option Addr} {l : List Int} (h : Iwo w B A n c l) : InP w w.heap.size A l := by
  have hl := h.len
  rcases h.1.2 with ⟨h1, h2⟩ | ⟨g, cap, cur, h1, _, hg, _, _, _, ht⟩
  · exact .inl (List.eq_nil_of_length_eq_zero (by omega))
  · simp only [Value.slice.injEq] at h1
    refine .inr ⟨g, 0, h1.1, (Array.getElem?_eq_some_iff.1 hg).1, fun j x hj => ?_⟩
    rw [cell_of_row _ _ _ _ _ _ hg, Nat.zero_add]
    have e : (l.map (Value.int .i64))[j]? = some (.int .i64 x) := by rw [List.getElem?_map, hj]; rfl
    rw [← ht, List.getElem?_take] at e
    split at e
    · simpa using e
    · cases e
theorem iwo_push {w : World} {B n c : Nat} {A : Option Addr} {l : List Int} (h : Iwo w B A n c l) (hB : B ≤ w.heap.size) (hn : n ≤ 1048576) (x : Int) :
    ∃ A' c' w', (Builtin.append_ #[28, 28] 28 #[.slice A n c, .slice (some ⟨w.heap.size, 0, none⟩) 1 1]).run Try.prog (w.alloc (.cells #[.int .i64 x] 3)) = .ok (.slice A' (n + 1) c') w' ∧ Iwo w' B A' (n + 1) c' (l ++ [x]) ∧ Below B w w' := by
  have hown := h.1.alloc (.cells #[.int .i64 x] 3)
  have hc : ∀ j u, [Value.int .i64 x][j]? = some u → (w.alloc (.cells #[.int .i64 x] 3)).cell? ((⟨w.heap.size, 0, none⟩ : Addr).add j) = some u := fun j u hj => by
    rw [Addr.add_lit, cell_of_row _ _ _ _ _ _ (heap_alloc_new w _), Nat.zero_add]
    simpa using hj
  obtain ⟨A', c', w2, hrun, hown2, hgr, hpl, h5⟩ := append_big (P := Try.prog) (ty := 28) _ Try.underlying28 int_info rfl (by omega) hown ⟨w.heap.size, 0, none⟩ 1 1 [.int .i64 x] rfl hc (by simp [Value.oneCell']) (by omega) (by omega)
  have hbw : Below B w (w.alloc (.cells #[.int .i64 x] 3)) := (Below.refl _ _).alloc hB _
  have hoff : Off (fun i => ∃ q, A = some q ∧ q.block = i) (w.alloc (.cells #[.int .i64 x] 3)) w2 := ⟨hgr.os, hgr.tape, hgr.output, hgr.size, fun i hi hn => hgr.block i hi fun e => by
    obtain ⟨q, hq, he⟩ := Option.map_eq_some_iff.1 e.symm
    exact hn ⟨q, hq, he⟩⟩
  refine ⟨A', c', w2, hrun, ⟨by simpa using hown2, fun p hp => ?_⟩, hoff.below hbw (fun i hi => ?_) (Nat.le_trans hB hbw.size)⟩
  · rcases hpl p hp with ⟨q, hq, he⟩ | hge
    · rw [he]; exact h.2 q hq
    · simp at hge; omega
  · obtain ⟨q, hq, rfl⟩ := hi
    exact h.2 q hq
set_option maxRecDepth 100000 in
set_option maxHeartbeats 4000000 in
theorem places_any {w : World} {g1 g2 : Nat} {F : List Nat} {h : List Bool} {n : Nat} (c c2 : Nat) (h1 : Hid (w.heap[g1]? = some (.cells (nvI F).toArray 3 (0, 0)))) (hl : F.length = n) (hn : n ≤ 500) (hF : ∀ k : Nat, k < n → F.getD k 0 < n) (h2 : Hid (w.heap[g2]? = some (.cells (bvl h).toArray 4 (0, 0)))) (hh : h.length = n) :
    Calls Try.prog 24 #[.slice (some ⟨g1, 0, none⟩) n c, .slice (some ⟨g2, 0, none⟩) n c2] w fun e w' => ∃ A c', e = .returned (.slice A (placesT F h).length c') ∧ InP w' w'.heap.size A (placesT F h) ∧ Below w.heap.size w w' := by
  have HN := Lib.hid hl
  have HH := Lib.hid hh
  have HF := vlt hF
  have hg1l := row_size h1
  have hg2l := row_size h2
  clear hl hh hF
  go_enter Try.func24, Try.ntmps24
  go_wp2
  go_loopg [5, 6, 7, 10] n (fun k s5 s6 s7 s10 wr => ∃ (i : Nat) (A : Option Addr) (m c : Nat) (l : List Int), s5 = .slice A m c ∧ s10 = .int .i64 i ∧ n - i < k + 1 ∧ i ≤ n ∧ m ≤ i ∧ Vlt (Iwo wr w.heap.size A m c l) ∧ Vlt (l = placesFrom F h 0 i) ∧ Below w.heap.size w wr)
  case atStart => exact ⟨0, none, 0, 0, [], rfl, rfl, by omega, Nat.zero_le _, Nat.le_refl _, vlt (Iwo.nil _ _), vlt rfl, Below.refl _ _⟩
  case round =>
    obtain ⟨i, A, m, c3, l, rfl, rfl, hk, hin, hmi, H1, HL, hb⟩ := hrel
    have h1r := row_next2 h1 hb
    have h2r := row_next2 h2 hb
    by_cases hlt : i < n
    · have hltz : (i : Int) < (n : Int) := by omega
      obtain ⟨p, hp⟩ : ∃ p, F.getD i 0 = p := ⟨_, rfl⟩
      have hpn := HF.out i hlt
      rw [hp] at hpn
      have cf := nvI_at h1r i (by rw [HN.out]; omega)
      rw [hp] at cf
      have hpz : (p : Int) < (n : Int) := by omega
      have cb := bvl_at h2r p (by rw [HH.out]; omega)
      obtain ⟨q, hq⟩ : ∃ q, on h p = q := ⟨_, rfl⟩
      rw [hq] at cb
      have HQ : Vlt (on h (F.getD (0 + i) 0) = q) := vlt (by rw [Nat.zero_add, hp]; exact hq)
      clear hp hq
      cases q with
      | true =>
        obtain ⟨A', c', w7, hrun, hT7, hb7⟩ := iwo_push H1.out hb.size (by omega) (i : Int)
        have VR := vlt hrun
        have H7 := vlt hT7
        have HL2 : Vlt (l ++ [(i : Int)] = placesFrom F h 0 (i + 1)) := vlt (by rw [places_app, if_pos HQ.out, HL.out, Nat.zero_add])
        clear hrun hT7
        go_wp2_with (at_builtin; refine Lib.wpList_append_run _ rfl _ _ _ _ rfl _ _ rfl rfl _ _ VR.out ?_)
        have hb8 := hb.trans hb7
        go_roundg (n - (i + 1))
        case measure => omega
        case rel => exact ⟨i + 1, A', m + 1, c', _, by go_num, by go_num, by omega, by omega, by omega, H7, HL2, hb8⟩
      | false =>
        have HL2 : Vlt (l = placesFrom F h 0 (i + 1)) := vlt (by rw [places_app, if_neg (by rw [HQ.out]; decide), HL.out, List.append_nil])
        go_wp2
        go_roundg (n - (i + 1))
        case measure => omega
        case rel => exact ⟨i + 1, A, m, c3, l, rfl, by go_num, by omega, by omega, by omega, H1, HL2, hb⟩
    · have hltz : ¬ (i : Int) < (n : Int) := by omega
      have HE : Vlt (l = placesT F h ∧ (placesT F h).length = m) := vlt (by
        have e : i = F.length := by rw [HN.out]; omega
        have e2 : l = placesT F h := by rw [HL.out, placesT, e]
        exact ⟨e2, by rw [← e2]; exact H1.out.len⟩)
      have hI := H1.out.inp
      rw [HE.out.1] at hI
      go_wp2
      go_ret
      exact ⟨A, ⟨c3, by rw [HE.out.2]; rfl⟩, hI, hb⟩
end Go.Proofs.Ytknmccpoheekmaa
