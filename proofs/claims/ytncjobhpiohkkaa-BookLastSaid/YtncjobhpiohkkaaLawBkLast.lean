/-
  Law BookLast. Conditions: none.
-/
import Derived.Test.YtncjobhpiohkkaaPkE
import Derived.Test.YtncjobhpiohkkaaPkF
import Derived.Test.YtncjobhpiohkkaaLawBkOrder
import Derived.Test.YtncjobhpiohkkaaPkB
import Derived.Test.YtncjobhpiohkkaaPkA
namespace Go.Proofs.Ytncjobhpiohkkaa
open Go.RowKit

theorem dot_at0 {w : World} {g : Nat} {a b : Value} {T : TypeId} (h : Hid (w.heap[g]? = some (.cells #[a, b] T (0, 0)))) : w.cell? ⟨g, 0, none⟩ = some a := by rw [cell_of_row _ _ _ _ _ _ h.out]; rfl
theorem dot_at1 {w : World} {g : Nat} {a b : Value} {T : TypeId} (h : Hid (w.heap[g]? = some (.cells #[a, b] T (0, 0)))) : w.cell? ⟨g, 1, none⟩ = some b := by rw [cell_of_row _ _ _ _ _ _ h.out]; rfl
theorem seen_mid {w : World} {g off : Nat} {e : Ed} (h : w.rangeAt g off e.cells) : w.rangeAt g (off + 2) (i64v e.seen) := fun j v hj => by
  have := h (2 + j) v (by
    show ([Value.int .i64 e.dev, .int .i64 e.num] ++ (i64v e.seen ++ _))[2 + j]? = some v
    rw [List.getElem?_append_right (by simp), List.getElem?_append_left (by have := (List.getElem?_eq_some_iff.1 hj).1; simp; omega)]
    simpa using hj)
  rwa [show off + (2 + j) = off + 2 + j by omega] at this
theorem built_ed8 (d n s0 s1 s2 s3 s4 s5 s6 s7 : Int) (c f v : ByteArray) :
    Try.prog.built 32 [(0, .agg [.int .i64 d, .int .i64 n].toArray), (1, .agg (i64v [s0, s1, s2, s3, s4, s5, s6, s7]).toArray), (2, .int .i64 1), (3, .string c), (4, .string f), (5, .string v)] = some (Ed.mk d n [s0, s1, s2, s3, s4, s5, s6, s7] 1 c f v 0).cells.toArray := by kernel_rfl
theorem built_edv (d n : Int) (s : List Int) (hs : s.length = 8) (c f v : ByteArray) :
    Try.prog.built 32 [(0, .agg [.int .i64 d, .int .i64 n].toArray), (1, .agg (i64v s).toArray), (2, .int .i64 1), (3, .string c), (4, .string f), (5, .string v)] = some (Ed.mk d n s 1 c f v 0).cells.toArray := by
  match s, hs with
  | [s0, s1, s2, s3, s4, s5, s6, s7], _ => exact built_ed8 d n s0 s1 s2 s3 s4 s5 s6 s7 c f v
/-- The highest numbers of the edits P. -/
structure Mst (P : List Ed) (v : List Int) : Prop where
  len : v.length = 8
  top : ∀ d, d < 8 → 0 ≤ iat v d ∧ iat v d ≤ 1099511627776
  all : ∀ x ∈ P, x.num ≤ iat v x.dev.toNat
theorem Mst.nil : Mst [] (List.replicate 8 0) := ⟨rfl, fun d _ => by
  have hz : iat (List.replicate 8 0) d = 0 := by rw [iat, List.getD_eq_getElem?_getD, List.getElem?_replicate]; split <;> rfl
  rw [hz]; exact ⟨Int.le_refl _, by decide⟩, fun x h => absurd h (by simp)⟩
theorem Mst.step {L : List Ed} {i : Nat} {x : Ed} {v : List Int} (h : Mst (L.take i) v) (hx : L[i]? = some x) (hg : x.good = true) : Mst (L.take (i + 1)) (if iat v x.dev.toNat < x.num then v.set x.dev.toNat x.num else v) := by
  have hf := Ed.fine hg
  have hd := hf.dev
  have hn := hf.num
  rw [List.take_add_one, hx]
  split
  · rename_i hlt
    have hk : x.dev.toNat < v.length := by rw [h.len]; omega
    have hat : ∀ d, iat (v.set x.dev.toNat x.num) d = if d = x.dev.toNat then x.num else iat v d := by
      intro d
      split
      · rename_i e; subst e; exact iat_set_same _ _ _ hk
      · rename_i e; exact iat_set_other _ _ _ _ (fun e2 => e e2.symm)
    refine ⟨by rw [List.length_set, h.len], fun d hd8 => ?_, fun y hy => ?_⟩
    · rw [hat]; split
      · omega
      · exact h.top d hd8
    · rw [hat]
      rcases List.mem_append.1 hy with hy | hy
      · have := h.all y hy
        split
        · rename_i e; rw [e] at this; omega
        · exact this
      · simp at hy; subst hy; rw [if_pos rfl]; exact Int.le_refl _
  · rename_i hlt
    refine ⟨h.len, h.top, fun y hy => ?_⟩
    rcases List.mem_append.1 hy with hy | hy
    · exact h.all y hy
    · simp at hy; subst hy; omega
theorem last_end {L M : List Ed} {r d : Int} {q f u : ByteArray} {v : List Int} {e : Ed} (he : e = ⟨d, iat v d.toNat + 1, v, 1, q, f, u, 0⟩) (hL : BGood L) (hv : Mst L v) (hg : e.good = true) (hr : L.length < 500) (hn : ∀ x ∈ L, vhas x.seen e.dev e.num = false) (hb : badd L e = (M, r)) : r = 0 ∧ ball M q f = [u] := by
  have h := last_all hL hg (by rw [he]; exact hv.len) (by rw [he]) hr (fun x hx => by
    have hf := Ed.fine (hL.good x hx).1
    have h1 := hv.all x hx
    have hd := hf.dev
    have hnn := hf.num
    rw [he, vhas, decide_eq_true_iff]
    exact ⟨hd.1, hd.2, hnn.1, h1⟩) hn
  rw [hb] at h
  exact ⟨h.1, by have := h.2; rw [he] at this; exact this⟩
set_option maxRecDepth 100000 in
set_option maxHeartbeats 8000000 in
theorem walk_BookLast (w : World) (A1 : Option Addr) (l : List Ed) (n c : Nat) (b1 : EdsP w w.heap.size A1 l) (e1 : l.length = n) (_ : n ≤ c) (d : Int) (_ : (Lit.int .i64 d).wf = true) (q : ByteArray) (_ : q.size ≤ maxLen) (f : ByteArray) (_ : f.size ≤ maxLen) (u : ByteArray) (_ : u.size ≤ maxLen) :
    Calls Try.prog 6 #[.slice A1 n c, .int .i64 d, .string q, .string f, .string u] w fun x w' => x = .returned (.bool true) ∧ Below w.heap.size w w' := by
  have HN := Lib.hid e1
  clear e1
  have DA := vlt (awake_any w)
  go_enter Try.func6, Try.ntmps6
  go_upto_region 3 with (go_at_call 9; refine DA.out.mono ?_; rintro e v0 ⟨rfl, hv0⟩; clear DA)
  by_cases h30 : n ≤ 30
  case neg =>
    have h1 : (30 : Int) < (n : Int) := by omega
    go_wp2
    go_ret
    exact ⟨rfl, hv0⟩
  have h1 : ¬ (30 : Int) < (n : Int) := by omega
  by_cases hd0 : d < 0
  · go_wp2
    go_ret
    exact ⟨rfl, hv0⟩
  by_cases hd7 : (7 : Int) < d
  · go_wp2
    go_ret
    exact ⟨rfl, hv0⟩
  have hd8 : d.toNat < 8 := by omega
  have hdd : d < 8 := by omega
  go_upto_region 5 with fail
  have D1 := vlt (new_any v0)
  go_upto_region 7 with (go_at_call 10; refine D1.out.mono ?_; rintro e w1 ⟨b, rfl, hN1, hb1⟩; clear D1)
  obtain ⟨W, hW, hgZ, hbW, hsW⟩ := one_new w1 #[.int .i64 0, .int .i64 0, .int .i64 0, .int .i64 0, .int .i64 0, .int .i64 0, .int .i64 0, .int .i64 0] 30
  rw [hW]
  have e0 : (i64v (List.replicate 8 0)).toArray = #[.int .i64 0, .int .i64 0, .int .i64 0, .int .i64 0, .int .i64 0, .int .i64 0, .int .i64 0, .int .i64 0] := rfl
  rw [← e0] at hgZ
  have hKs0 := row_size hgZ
  have hv1 := below_next hv0 hv0.size hb1
  have hvW := below_next hv1 hv1.size hbW
  have hsz := hsW.out
  have hv1s := hv1.size
  obtain ⟨F, hF⟩ : ∃ F : Nat → Prop, F = fun i => w.heap.size ≤ i ∧ i ≠ w1.heap.size := ⟨_, rfl⟩
  have HFn : ∀ i, w1.heap.size < i → F i := by rw [hF]; intro i hi; exact ⟨by omega, by omega⟩
  have HFk : ¬ F w1.heap.size := by rw [hF]; intro h; exact h.2 rfl
  have HFb : ∀ i, F i → w.heap.size ≤ i := by rw [hF]; intro i h; exact h.1
  have hS0 : BkF W F b [] := by
    rw [hF]
    exact (hN1.mono (G := fun i => w.heap.size ≤ i ∧ i ≠ w1.heap.size) (fun i h1 h2 => ⟨Nat.le_trans hv0.size h2, by omega⟩)).next hbW
  clear h1 hW hN1 hb1 hv0 e0 hF
  go_wp2
  go_loopg [13] n (fun k s wr => ∃ (i : Nat), s = .int .i64 i ∧ n - i < k + 1 ∧ i ≤ n ∧ Vlt (BkF wr F b (badds [] (l.take i))) ∧ Hid (wr.heap[w1.heap.size]? = some (.cells (i64v (List.replicate 8 0)).toArray 30 (0, 0))) ∧ Below w.heap.size w wr)
  case atStart => exact ⟨0, rfl, by omega, Nat.zero_le _, vlt (by simpa [badds] using hS0), hgZ, hvW⟩
  case round =>
    obtain ⟨i, rfl, hk, hin, H1, hgk, hbt⟩ := hrel
    have hKs := row_size hgk
    by_cases hlt : i < n
    · have hltz : (i : Int) < (n : Int) := by omega
      obtain ⟨g, o, x, rfl, HX, HX8, hR⟩ := b1.rng (i := i) (by rw [HN.out]; omega)
      have hr1 := hR _ hbt
      obtain ⟨p, hp⟩ : ∃ p, elong x = p := ⟨_, rfl⟩
      have D1 := blong_any wr x HX8.out
      rw [hp] at D1
      have DL := vlt D1
      clear D1 hp
      cases p with
      | true =>
        go_wp2_with (first | (with_reducible refine wpList_load_mid rfl 32 (.tmp 42) rfl g (o + i * 15) rfl x.cells _ hr1 Try.underlying32 rfl (by rw [Ed.cells_len HX8.out]; kernel_rfl) ?_) | (go_at_call 21; refine DL.out.mono ?_; rintro e w5 ⟨rfl, hb5⟩; have hbt5 := below_next hbt hbt.size hb5; clear DL))
        go_ret
        exact ⟨rfl, hbt5⟩
      | false =>
        obtain ⟨P, r, hbd⟩ : ∃ P r, badd (badds [] (l.take i)) x = (P, r) := ⟨_, _, rfl⟩
        have HP : Vlt (badds [] (l.take (i + 1)) = P) := vlt (by rw [badds_step HX.out, hbd])
        have HBD := vlt hbd
        clear hbd
        go_wp2_with (first
          | (with_reducible refine wpList_load_mid rfl 32 (.tmp 42) rfl g (o + i * 15) rfl x.cells _ hr1 Try.underlying32 rfl (by rw [Ed.cells_len HX8.out]; kernel_rfl) ?_) | (with_reducible refine wpList_load_mid rfl 32 (.tmp 48) rfl g (o + i * 15) rfl x.cells _ hr5 Try.underlying32 rfl (by rw [Ed.cells_len HX8.out]; kernel_rfl) ?_)
          | (go_at_call 21; refine DL.out.mono ?_; rintro e w5 ⟨rfl, hb5⟩; have hbt5 := below_next hbt hbt.size hb5; have hr5 := hR _ hbt5; have hgk5 := row_next2 hgk hb5; have hs5 := hb5.size; have VA := vlt (add_fence (H1.out.next hb5) x HX8.out (fun i hi => HFn i (by omega)) HBD.out); clear DL)
          | (go_at_call 11; refine VA.out.mono ?_; rintro e w6 ⟨rfl, hS6, ho6⟩; clear VA))
        have hgk6 := row_off hgk5 ho6 HFk
        have hb6 := ho6.below hbt5 HFb hbt5.size
        go_roundg (n - (i + 1))
        case measure => omega
        case rel => exact ⟨i + 1, by go_num, by omega, by omega, vlt (by rw [HP.out]; exact hS6), hgk6, hb6⟩
    · have hltz : ¬ (i : Int) < (n : Int) := by omega
      have H2 : Vlt (BkF wr F b (badds [] l)) := vlt (by have := H1.out; rwa [List.take_of_length_le (by rw [HN.out]; omega)] at this)
      go_upto_region 13 with fail
      clear H1 hlt hltz hk hin
      have hfa := badds_few (L := []) (es := l)
      rw [HN.out] at hfa
      obtain ⟨L, hL⟩ : ∃ L, badds [] l = L := ⟨_, rfl⟩
      rw [hL] at hfa H2
      simp only [List.length_nil, Nat.zero_add] at hfa
      have HG := vlt H2.out.good
      have HSE := vlt HG.out.se
      have D1 := edits_any H2.out
      obtain ⟨m, hm⟩ : ∃ m, L.length = m := ⟨_, rfl⟩
      rw [hm] at hfa
      have V1 : Vlt (Calls Try.prog 22 #[.pointer (some ⟨b, 0, none⟩)] wr fun x w' => ∃ A c, x = .returned (.slice A m c) ∧ ER w' A L ∧ Below wr.heap.size wr w') := vlt (D1.mono (by
        rintro x w' ⟨A, c, rfl, h1, h2, _⟩
        exact ⟨A, c, by rw [hm], own_er h1 rfl, h2⟩))
      have HM := Lib.hid hm
      clear D1 hL hm hgZ hS0
      go_upto_region 14 with (go_at_call 22; refine V1.out.mono ?_; rintro e w7 ⟨A14, c14, rfl, hr7, hb7⟩; clear V1)
      have hgk7 := row_next2 hgk hb7
      have hb7' := below_next hbt hbt.size hb7
      have H7 := vlt (H2.out.next hb7)
      have hK7 := row_size hgk7
      clear hgk hKs H2 hbt hb7
      go_wp2
      go_loopg [15] m (fun k s wr => ∃ (i : Nat) (v : List Int), s = .int .i64 i ∧ m - i < k + 1 ∧ i ≤ m ∧ Vlt (Mst (L.take i) v) ∧ Hid (wr.heap[w1.heap.size]? = some (.cells (i64v v).toArray 30 (0, 0))) ∧ But w1.heap.size w7 wr)
      case atStart => exact ⟨0, List.replicate 8 0, rfl, by omega, Nat.zero_le _, vlt Mst.nil, hgk7, But.refl _ _⟩
      case round =>
        obtain ⟨i, v, rfl, hk, hin, H1, hgk, hbt⟩ := hrel
        have hKs := row_size hgk
        have hvl8 := Lib.hid H1.out.len
        by_cases hlt : i < m
        · have hltz : (i : Int) < (m : Int) := by omega
          obtain ⟨G, s, rfl, hrow0⟩ := hr7.at_ (by rw [HM.out]; omega)
          have hGK : G ≠ w1.heap.size := fun e => by
            subst e
            have h1 := hrow0.out.symm.trans hgk7.out
            injection h1 with h1
            injection h1 with _ h2
            exact absurd h2 (by decide)
          have hrow := row_but hrow0 hbt hGK
          obtain ⟨x, hx⟩ : ∃ x, L[i]? = some x := ⟨_, List.getElem?_eq_getElem (by rw [HM.out]; omega)⟩
          have hrng := dot_mid (edit_range hrow.out HSE.out hx)
          have hgood := (HG.out.good x (List.mem_of_getElem? hx)).1
          have HST := vlt (H1.out.step hx hgood)
          obtain ⟨hx0, hx8⟩ := (Ed.fine hgood).dev
          have hdl : x.dev.toNat < v.length := by rw [hvl8.out]; omega
          have hdn : x.dev.toNat < 8 := by omega
          obtain ⟨U, hU, hgD, hbU, hsU⟩ := one_new wr #[.int .i64 x.dev, .int .i64 x.num] 28
          have hgU := row_next2 hgk hbU
          have hbtU := hbt.go hbU
          clear hx hgood
          go_upto_region 18 with (with_reducible refine wpList_load_mid rfl 28 (.tmp 62) rfl G (i * 15) rfl [.int .i64 x.dev, .int .i64 x.num] _ hrng Try.underlying28 rfl (by kernel_rfl) ?_)
          clear hU
          by_cases hq : iat v x.dev.toNat < x.num
          · have HB : Vlt (Mst (L.take (i + 1)) (v.set x.dev.toNat x.num)) := vlt (by have := HST.out; rwa [if_pos hq] at this)
            go_upto_region 18 with fail
            refine wp_region_held_drew (S := fun W' => Below U.heap.size U W') (by kernel_rfl) ((Below.refl _ _).drew) (fun hHeld => ?_)
            refine wpAnyH_take (i := 0) (oi := ⟨(some 64), _, _, _, _, _⟩) (v := .pointer (some ⟨wr.heap.size, 0, none⟩)) rfl (by kernel_rfl) (by kernel_rfl) (by kernel_rfl) (fun _ _ _ h => h) (Or.inl ⟨by rfl, ?yr18_0⟩) hHeld ?_
            case yr18_0 => (intro W0 hSw; go_simp; try with_reducible rfl)
            try simp only [pu]
            refine wpAnyH_take (i := 1) (oi := ⟨(some 65), _, _, _, _, _⟩) (v := .int .i64 x.dev) rfl (by kernel_rfl) (by kernel_rfl) (by kernel_rfl) (fun _ _ _ h => h) (Or.inl ⟨by rfl, ?yr18_1⟩) hHeld ?_
            case yr18_1 => (intro W0 hSw; have cc := dot_at0 (row_next2 hgD hSw); go_simp; try with_reducible rfl)
            try simp only [pu]
            refine wpAnyH_take (i := 2) (oi := ⟨(some 66), _, _, _, _, _⟩) (v := .bool true) rfl (by kernel_rfl) (by kernel_rfl) (by kernel_rfl) (fun _ _ _ h => h) (Or.inl ⟨by rfl, ?yr18_2⟩) hHeld ?_
            case yr18_2 => (intro W0 hSw; go_simp; first | done | (simp; omega))
            try simp only [pu]
            refine wpAnyH_take (i := 3) (oi := ⟨(some 67), _, _, _, _, _⟩) (v := .bool true) rfl (by kernel_rfl) (by kernel_rfl) (by kernel_rfl) (fun _ _ _ h => h) (Or.inl ⟨by rfl, ?yr18_3⟩) hHeld ?_
            case yr18_3 => (intro W0 hSw; go_simp; try with_reducible rfl)
            try simp only [pu]
            refine wpAnyH_take (i := 4) (oi := ⟨(some 68), _, _, _, _, _⟩) (v := .pointer (some ⟨wr.heap.size, 0, none⟩)) rfl (by kernel_rfl) (by kernel_rfl) (by kernel_rfl) (fun _ _ _ h => h) (Or.inl ⟨by rfl, ?yr18_4⟩) hHeld ?_
            case yr18_4 => (intro W0 hSw; go_simp; try with_reducible rfl)
            try simp only [pu]
            refine wpAnyH_take (i := 5) (oi := ⟨(some 69), _, _, _, _, _⟩) (v := .int .i64 x.dev) rfl (by kernel_rfl) (by kernel_rfl) (by kernel_rfl) (fun _ _ _ h => h) (Or.inl ⟨by rfl, ?yr18_5⟩) hHeld ?_
            case yr18_5 => (intro W0 hSw; have cc := dot_at0 (row_next2 hgD hSw); go_simp; try with_reducible rfl)
            try simp only [pu]
            refine wpAnyH_take (i := 6) (oi := ⟨(some 70), _, _, _, _, _⟩) (v := .bool true) rfl (by kernel_rfl) (by kernel_rfl) (by kernel_rfl) (fun _ _ _ h => h) (Or.inl ⟨by rfl, ?yr18_6⟩) hHeld ?_
            case yr18_6 => (intro W0 hSw; go_simp; first | done | (simp; omega))
            try simp only [pu]
            refine wpAnyH_take (i := 7) (oi := ⟨(some 71), _, _, _, _, _⟩) (v := .bool true) rfl (by kernel_rfl) (by kernel_rfl) (by kernel_rfl) (fun _ _ _ h => h) (Or.inl ⟨by rfl, ?yr18_7⟩) hHeld ?_
            case yr18_7 => (intro W0 hSw; go_simp; try with_reducible rfl)
            try simp only [pu]
            refine wpAnyH_take (i := 8) (oi := ⟨(some 72), _, _, _, _, _⟩) (v := .bool true) rfl (by kernel_rfl) (by kernel_rfl) (by kernel_rfl) (fun _ _ _ h => h) (Or.inl ⟨by rfl, ?yr18_8⟩) hHeld ?_
            case yr18_8 => (intro W0 hSw; go_simp; try with_reducible rfl)
            try simp only [pu]
            refine wpAnyH_take (i := 9) (oi := ⟨(some 73), _, _, _, _, _⟩) (v := .pointer (some ⟨wr.heap.size, 1, none⟩)) rfl (by kernel_rfl) (by kernel_rfl) (by kernel_rfl) (fun _ _ _ h => h) (Or.inl ⟨by rfl, ?yr18_9⟩) hHeld ?_
            case yr18_9 => (intro W0 hSw; go_simp; try with_reducible rfl)
            try simp only [pu]
            refine wpAnyH_take (i := 10) (oi := ⟨(some 74), _, _, _, _, _⟩) (v := .int .i64 x.num) rfl (by kernel_rfl) (by kernel_rfl) (by kernel_rfl) (fun _ _ _ h => h) (Or.inl ⟨by rfl, ?yr18_10⟩) hHeld ?_
            case yr18_10 => (intro W0 hSw; have cc := dot_at1 (row_next2 hgD hSw); go_simp; try with_reducible rfl)
            try simp only [pu]
            refine wpAnyH_take (i := 11) (oi := ⟨(some 75), _, _, _, _, _⟩) (v := .pointer (some ⟨wr.heap.size, 0, none⟩)) rfl (by kernel_rfl) (by kernel_rfl) (by kernel_rfl) (fun _ _ _ h => h) (Or.inl ⟨by rfl, ?yr18_11⟩) hHeld ?_
            case yr18_11 => (intro W0 hSw; go_simp; try with_reducible rfl)
            try simp only [pu]
            refine wpAnyH_take (i := 12) (oi := ⟨(some 76), _, _, _, _, _⟩) (v := .int .i64 x.dev) rfl (by kernel_rfl) (by kernel_rfl) (by kernel_rfl) (fun _ _ _ h => h) (Or.inl ⟨by rfl, ?yr18_12⟩) hHeld ?_
            case yr18_12 => (intro W0 hSw; have cc := dot_at0 (row_next2 hgD hSw); go_simp; try with_reducible rfl)
            try simp only [pu]
            refine wpAnyH_take (i := 13) (oi := ⟨(some 77), _, _, _, _, _⟩) (v := .pointer (some ⟨w1.heap.size, x.dev.toNat, none⟩)) rfl (by kernel_rfl) (by kernel_rfl) (by kernel_rfl) (fun _ _ _ h => h) (Or.inl ⟨by rfl, ?yr18_13⟩) hHeld ?_
            case yr18_13 => (intro W0 hSw; go_simp; try with_reducible rfl)
            try simp only [pu]
            refine wpAnyH_take (i := 14) (oi := ⟨(some 78), _, _, _, _, _⟩) (v := .int .i64 (iat v x.dev.toNat)) rfl (by kernel_rfl) (by kernel_rfl) (by kernel_rfl) (fun _ _ _ h => h) (Or.inl ⟨by rfl, ?yr18_14⟩) hHeld ?_
            case yr18_14 => (intro W0 hSw; have cc := int_at (row_next2 hgU hSw).out x.dev.toNat hdl; go_simp; try with_reducible rfl)
            try simp only [pu]
            refine wpAnyH_take (i := 15) (oi := ⟨(some 79), _, _, _, _, _⟩) (v := .bool true) rfl (by kernel_rfl) (by kernel_rfl) (by kernel_rfl) (fun _ _ _ h => h) (Or.inl ⟨by rfl, ?yr18_15⟩) hHeld ?_
            case yr18_15 => (intro W0 hSw; go_simp; first | done | (simp; omega))
            try simp only [pu]
            refine wpAnyH_take (i := 16) (oi := ⟨(some 80), _, _, _, _, _⟩) (v := .bool true) rfl (by kernel_rfl) (by kernel_rfl) (by kernel_rfl) (fun _ _ _ h => h) (Or.inl ⟨by rfl, ?yr18_16⟩) hHeld ?_
            case yr18_16 => (intro W0 hSw; go_simp; try with_reducible rfl)
            try simp only [pu]
            refine wpAnyH_done (by kernel_rfl) ?_ _
            have hgD2 := row_next2 hgD (show Below U.heap.size U U.drew from (Below.refl _ _).drew)
            have c0 := dot_at0 hgD2
            have c1 := dot_at1 hgD2
            have hgU2 := row_next2 hgU (show Below U.heap.size U U.drew from (Below.refl _ _).drew)
            have f2 := frozen_of_row _ _ x.dev.toNat _ _ hgU2.out
            have c2 := int_at hgU2.out x.dev.toNat hdl
            have hset := world_set_cell hgU2.out x.dev.toNat (.int .i64 x.num)
            rw [i64v_set] at hset
            have hbt3 := (hbtU.drew).set (i := x.dev.toNat) (.int .i64 x.num)
            go_wp2
            go_roundg (m - (i + 1))
            case measure => omega
            case rel => exact ⟨i + 1, _, by go_num, by omega, by omega, HB, hset, hbt3⟩
          · have HB : Vlt (Mst (L.take (i + 1)) v) := vlt (by have := HST.out; rwa [if_neg hq] at this)
            go_upto_region 18 with fail
            refine wp_region_held_drew (S := fun W' => Below U.heap.size U W') (by kernel_rfl) ((Below.refl _ _).drew) (fun hHeld => ?_)
            refine wpAnyH_take (i := 0) (oi := ⟨(some 64), _, _, _, _, _⟩) (v := .pointer (some ⟨wr.heap.size, 0, none⟩)) rfl (by kernel_rfl) (by kernel_rfl) (by kernel_rfl) (fun _ _ _ h => h) (Or.inl ⟨by rfl, ?yr18_0⟩) hHeld ?_
            case yr18_0 => (intro W0 hSw; go_simp; try with_reducible rfl)
            try simp only [pu]
            refine wpAnyH_take (i := 1) (oi := ⟨(some 65), _, _, _, _, _⟩) (v := .int .i64 x.dev) rfl (by kernel_rfl) (by kernel_rfl) (by kernel_rfl) (fun _ _ _ h => h) (Or.inl ⟨by rfl, ?yr18_1⟩) hHeld ?_
            case yr18_1 => (intro W0 hSw; have cc := dot_at0 (row_next2 hgD hSw); go_simp; try with_reducible rfl)
            try simp only [pu]
            refine wpAnyH_take (i := 2) (oi := ⟨(some 66), _, _, _, _, _⟩) (v := .bool true) rfl (by kernel_rfl) (by kernel_rfl) (by kernel_rfl) (fun _ _ _ h => h) (Or.inl ⟨by rfl, ?yr18_2⟩) hHeld ?_
            case yr18_2 => (intro W0 hSw; go_simp; first | done | (simp; omega))
            try simp only [pu]
            refine wpAnyH_take (i := 3) (oi := ⟨(some 67), _, _, _, _, _⟩) (v := .bool true) rfl (by kernel_rfl) (by kernel_rfl) (by kernel_rfl) (fun _ _ _ h => h) (Or.inl ⟨by rfl, ?yr18_3⟩) hHeld ?_
            case yr18_3 => (intro W0 hSw; go_simp; try with_reducible rfl)
            try simp only [pu]
            refine wpAnyH_take (i := 4) (oi := ⟨(some 68), _, _, _, _, _⟩) (v := .pointer (some ⟨wr.heap.size, 0, none⟩)) rfl (by kernel_rfl) (by kernel_rfl) (by kernel_rfl) (fun _ _ _ h => h) (Or.inl ⟨by rfl, ?yr18_4⟩) hHeld ?_
            case yr18_4 => (intro W0 hSw; go_simp; try with_reducible rfl)
            try simp only [pu]
            refine wpAnyH_take (i := 5) (oi := ⟨(some 69), _, _, _, _, _⟩) (v := .int .i64 x.dev) rfl (by kernel_rfl) (by kernel_rfl) (by kernel_rfl) (fun _ _ _ h => h) (Or.inl ⟨by rfl, ?yr18_5⟩) hHeld ?_
            case yr18_5 => (intro W0 hSw; have cc := dot_at0 (row_next2 hgD hSw); go_simp; try with_reducible rfl)
            try simp only [pu]
            refine wpAnyH_take (i := 6) (oi := ⟨(some 70), _, _, _, _, _⟩) (v := .bool true) rfl (by kernel_rfl) (by kernel_rfl) (by kernel_rfl) (fun _ _ _ h => h) (Or.inl ⟨by rfl, ?yr18_6⟩) hHeld ?_
            case yr18_6 => (intro W0 hSw; go_simp; first | done | (simp; omega))
            try simp only [pu]
            refine wpAnyH_take (i := 7) (oi := ⟨(some 71), _, _, _, _, _⟩) (v := .bool true) rfl (by kernel_rfl) (by kernel_rfl) (by kernel_rfl) (fun _ _ _ h => h) (Or.inl ⟨by rfl, ?yr18_7⟩) hHeld ?_
            case yr18_7 => (intro W0 hSw; go_simp; try with_reducible rfl)
            try simp only [pu]
            refine wpAnyH_take (i := 8) (oi := ⟨(some 72), _, _, _, _, _⟩) (v := .bool true) rfl (by kernel_rfl) (by kernel_rfl) (by kernel_rfl) (fun _ _ _ h => h) (Or.inl ⟨by rfl, ?yr18_8⟩) hHeld ?_
            case yr18_8 => (intro W0 hSw; go_simp; try with_reducible rfl)
            try simp only [pu]
            refine wpAnyH_take (i := 9) (oi := ⟨(some 73), _, _, _, _, _⟩) (v := .pointer (some ⟨wr.heap.size, 1, none⟩)) rfl (by kernel_rfl) (by kernel_rfl) (by kernel_rfl) (fun _ _ _ h => h) (Or.inl ⟨by rfl, ?yr18_9⟩) hHeld ?_
            case yr18_9 => (intro W0 hSw; go_simp; try with_reducible rfl)
            try simp only [pu]
            refine wpAnyH_take (i := 10) (oi := ⟨(some 74), _, _, _, _, _⟩) (v := .int .i64 x.num) rfl (by kernel_rfl) (by kernel_rfl) (by kernel_rfl) (fun _ _ _ h => h) (Or.inl ⟨by rfl, ?yr18_10⟩) hHeld ?_
            case yr18_10 => (intro W0 hSw; have cc := dot_at1 (row_next2 hgD hSw); go_simp; try with_reducible rfl)
            try simp only [pu]
            refine wpAnyH_take (i := 11) (oi := ⟨(some 75), _, _, _, _, _⟩) (v := .pointer (some ⟨wr.heap.size, 0, none⟩)) rfl (by kernel_rfl) (by kernel_rfl) (by kernel_rfl) (fun _ _ _ h => h) (Or.inl ⟨by rfl, ?yr18_11⟩) hHeld ?_
            case yr18_11 => (intro W0 hSw; go_simp; try with_reducible rfl)
            try simp only [pu]
            refine wpAnyH_take (i := 12) (oi := ⟨(some 76), _, _, _, _, _⟩) (v := .int .i64 x.dev) rfl (by kernel_rfl) (by kernel_rfl) (by kernel_rfl) (fun _ _ _ h => h) (Or.inl ⟨by rfl, ?yr18_12⟩) hHeld ?_
            case yr18_12 => (intro W0 hSw; have cc := dot_at0 (row_next2 hgD hSw); go_simp; try with_reducible rfl)
            try simp only [pu]
            refine wpAnyH_take (i := 13) (oi := ⟨(some 77), _, _, _, _, _⟩) (v := .pointer (some ⟨w1.heap.size, x.dev.toNat, none⟩)) rfl (by kernel_rfl) (by kernel_rfl) (by kernel_rfl) (fun _ _ _ h => h) (Or.inl ⟨by rfl, ?yr18_13⟩) hHeld ?_
            case yr18_13 => (intro W0 hSw; go_simp; try with_reducible rfl)
            try simp only [pu]
            refine wpAnyH_take (i := 14) (oi := ⟨(some 78), _, _, _, _, _⟩) (v := .int .i64 (iat v x.dev.toNat)) rfl (by kernel_rfl) (by kernel_rfl) (by kernel_rfl) (fun _ _ _ h => h) (Or.inl ⟨by rfl, ?yr18_14⟩) hHeld ?_
            case yr18_14 => (intro W0 hSw; have cc := int_at (row_next2 hgU hSw).out x.dev.toNat hdl; go_simp; try with_reducible rfl)
            try simp only [pu]
            refine wpAnyH_take (i := 15) (oi := ⟨(some 79), _, _, _, _, _⟩) (v := .bool false) rfl (by kernel_rfl) (by kernel_rfl) (by kernel_rfl) (fun _ _ _ h => h) (Or.inl ⟨by rfl, ?yr18_15⟩) hHeld ?_
            case yr18_15 => (intro W0 hSw; go_simp; first | done | (simp; omega))
            try simp only [pu]
            refine wpAnyH_take (i := 16) (oi := ⟨(some 80), _, _, _, _, _⟩) (v := .bool false) rfl (by kernel_rfl) (by kernel_rfl) (by kernel_rfl) (fun _ _ _ h => h) (Or.inl ⟨by rfl, ?yr18_16⟩) hHeld ?_
            case yr18_16 => (intro W0 hSw; go_simp; try with_reducible rfl)
            try simp only [pu]
            refine wpAnyH_done (by kernel_rfl) ?_ _
            have hgU2 := row_next2 hgU (show Below U.heap.size U U.drew from (Below.refl _ _).drew)
            have hbt3 := hbtU.drew
            go_wp2
            go_roundg (m - (i + 1))
            case measure => omega
            case rel => exact ⟨i + 1, v, by go_num, by omega, by omega, HB, hgU2, hbt3⟩
        · have hltz : ¬ (i : Int) < (m : Int) := by omega
          have HV : Vlt (Mst L v) := vlt (by have := H1.out; rwa [List.take_of_length_le (by rw [HM.out]; omega)] at this)
          have hdl : d.toNat < v.length := by rw [hvl8.out]; omega
          have htop := HV.out.top d.toNat hd8
          have hadd : IntKind.i64.wrap (iat v d.toNat + 1) = iat v d.toNat + 1 := by rw [IntKind.wrap_i64]; omega
          obtain ⟨e, he⟩ : ∃ e : Ed, e = ⟨d, iat v d.toNat + 1, v, 1, q, f, u, 0⟩ := ⟨_, rfl⟩
          have hb1 := Lib.hid (built_dot2 d (iat v d.toNat + 1))
          have hb2 := Lib.hid (built_edv d (iat v d.toNat + 1) v hvl8.out q f u)
          rw [← he] at hb2
          have HE8 : Hid (e.seen.length = 8) := Lib.hid (by rw [he]; exact hvl8.out)
          have HEQ := vlt he
          clear he
          obtain ⟨wv, hwv⟩ : ∃ wv, wv = wr := ⟨_, rfl⟩
          subst hwv
          go_upto_region 20 with fail
          refine wp_region_held_drew (S := fun W' => Below wv.heap.size wv W') (by kernel_rfl) ((Below.refl _ _).drew) (fun hHeld => ?_)
          refine wpAnyH_take (i := 0) (oi := ⟨(some 86), _, _, _, _, _⟩) (v := .int .i64 d) rfl (by kernel_rfl) (by kernel_rfl) (by kernel_rfl) (fun _ _ _ h => h) (Or.inl ⟨by rfl, ?yr20_0⟩) hHeld ?_
          case yr20_0 => (intro W0 hSw; go_simp; try with_reducible rfl)
          try simp only [pu]
          refine wpAnyH_take (i := 1) (oi := ⟨(some 87), _, _, _, _, _⟩) (v := .int .i64 d) rfl (by kernel_rfl) (by kernel_rfl) (by kernel_rfl) (fun _ _ _ h => h) (Or.inl ⟨by rfl, ?yr20_1⟩) hHeld ?_
          case yr20_1 => (intro W0 hSw; go_simp; try with_reducible rfl)
          try simp only [pu]
          refine wpAnyH_take (i := 2) (oi := ⟨(some 88), _, _, _, _, _⟩) (v := .pointer (some ⟨w1.heap.size, d.toNat, none⟩)) rfl (by kernel_rfl) (by kernel_rfl) (by kernel_rfl) (fun _ _ _ h => h) (Or.inl ⟨by rfl, ?yr20_2⟩) hHeld ?_
          case yr20_2 => (intro W0 hSw; go_simp; try with_reducible rfl)
          try simp only [pu]
          refine wpAnyH_take (i := 3) (oi := ⟨(some 89), _, _, _, _, _⟩) (v := .int .i64 (iat v d.toNat)) rfl (by kernel_rfl) (by kernel_rfl) (by kernel_rfl) (fun _ _ _ h => h) (Or.inl ⟨by rfl, ?yr20_3⟩) hHeld ?_
          case yr20_3 => (intro W0 hSw; have cc := int_at (row_next2 hgk hSw).out d.toNat hdl; go_simp; try with_reducible rfl)
          try simp only [pu]
          refine wpAnyH_take (i := 4) (oi := ⟨(some 90), _, _, _, _, _⟩) (v := .int .i64 (iat v d.toNat + 1)) rfl (by kernel_rfl) (by kernel_rfl) (by kernel_rfl) (fun _ _ _ h => h) (Or.inl ⟨by rfl, ?yr20_4⟩) hHeld ?_
          case yr20_4 => (intro W0 hSw; go_simp; try with_reducible rfl)
          try simp only [pu]
          refine wpAnyH_take (i := 5) (oi := ⟨(some 91), _, _, _, _, _⟩) (v := .agg [.int .i64 d, .int .i64 (iat v d.toNat + 1)].toArray) rfl (by kernel_rfl) (by kernel_rfl) (by kernel_rfl) (fun _ _ _ h => h) (yields_build (by rfl) _ _ rfl [(0, .int .i64 d), (1, .int .i64 (iat v d.toNat + 1))] (by rfl) _ hb1.out) hHeld ?_
          try simp only [pu]
          refine wpAnyH_take (i := 6) (oi := ⟨(some 92), _, _, _, _, _⟩) (v := .agg (i64v v).toArray) rfl (by kernel_rfl) (by kernel_rfl) (by kernel_rfl) (fun _ _ _ h => h) (yieldsIf_load_mid (by rfl) _ _ rfl w1.heap.size 0 rfl (i64v v) _ (fun W' hW' => range_row ((hW'.block _ hKs).trans hgk.out)) (Try.underlying30) rfl (by rw [i64v_len, hvl8.out]; kernel_rfl)) hHeld ?_
          try simp only [pu]
          refine wpAnyH_take (i := 7) (oi := ⟨(some 93), _, _, _, _, _⟩) (v := .string q) rfl (by kernel_rfl) (by kernel_rfl) (by kernel_rfl) (fun _ _ _ h => h) (Or.inl ⟨by rfl, ?yr20_7⟩) hHeld ?_
          case yr20_7 => (intro W0 hSw; go_simp; try with_reducible rfl)
          try simp only [pu]
          refine wpAnyH_take (i := 8) (oi := ⟨(some 94), _, _, _, _, _⟩) (v := .string f) rfl (by kernel_rfl) (by kernel_rfl) (by kernel_rfl) (fun _ _ _ h => h) (Or.inl ⟨by rfl, ?yr20_8⟩) hHeld ?_
          case yr20_8 => (intro W0 hSw; go_simp; try with_reducible rfl)
          try simp only [pu]
          refine wpAnyH_take (i := 9) (oi := ⟨(some 95), _, _, _, _, _⟩) (v := .string u) rfl (by kernel_rfl) (by kernel_rfl) (by kernel_rfl) (fun _ _ _ h => h) (Or.inl ⟨by rfl, ?yr20_9⟩) hHeld ?_
          case yr20_9 => (intro W0 hSw; go_simp; try with_reducible rfl)
          try simp only [pu]
          refine wpAnyH_take (i := 10) (oi := ⟨(some 96), _, _, _, _, _⟩) (v := .agg e.cells.toArray) rfl (by kernel_rfl) (by kernel_rfl) (by kernel_rfl) (fun _ _ _ h => h) (yields_build (by rfl) _ _ rfl [(0, .agg [.int .i64 d, .int .i64 (iat v d.toNat + 1)].toArray), (1, .agg (i64v v).toArray), (2, .int .i64 1), (3, .string q), (4, .string f), (5, .string u)] (by rfl) _ hb2.out) hHeld ?_
          try simp only [pu]
          refine wpAnyH_ready (rs := [11]) (by kernel_rfl) (by simp) ?_
          refine AllReadyH.cons (i := 11) (o := ⟨(some 17), _, _, _, _, _⟩) rfl (fun K hK => ?_) AllReadyH.nil
          go_simp
          refine hK.out _ _ (hHeld.alloc hHeld.size _) (fun hHeld => ?_)
          clear hK K
          try simp only [pu]
          have hgE0 : Hid ((wv.drew.alloc (.cells ed0.cells.toArray 32)).heap[wv.heap.size]? = some (.cells ed0.cells.toArray 32 (0, 0))) := Lib.hid (heap_alloc_new wv.drew _)
          refine wpAnyH_ready (rs := [12]) (by kernel_rfl) (by simp) ?_
          refine AllReadyH.cons (i := 12) (o := ⟨none, _, _, _, _, _⟩) rfl (fun K hK => ?_) AllReadyH.nil
          refine step_row (by rfl) 32 (.tmp 17) (.tmp 96) rfl wv.heap.size e.cells rfl rfl 32 _ hgE0.out (by rw [Ed.cells_len HE8.out]; kernel_rfl) (by rw [Ed.cells_len HE8.out]; rfl) (Ed.cells_one _) ?_
          intro U6 hgE6 hk6
          refine hK.out _ _ (But.below hHeld hk6 (Nat.le_refl _) hHeld.size) (fun hHeld => ?_)
          clear hK K
          try simp only [pu]
          refine wpAnyH_done (by kernel_rfl) ?_ _
          have hb76 := hbt.below_to hHeld (by have := hbt.size; omega)
          have hU6 := But.below hb7' hb76 hv1s hb7'.size
          have H6 : Vlt (BkF U6 F b L) := vlt (H7.out.off (Off.of_but (F := fun i => i = w1.heap.size) hb76 rfl) (fun i _ h1 h2 => HFk (h2 ▸ h1)))
          have hs6 := hb76.size
          have D1 := ogood_any U6 e HE8.out
          obtain ⟨gq, hgq⟩ : ∃ gq, e.good = gq := ⟨_, rfl⟩
          rw [hgq] at D1
          have DG := vlt D1
          have HGQ := vlt hgq
          obtain ⟨M, r, hbd⟩ : ∃ M r, badd L e = (M, r) := ⟨_, _, rfl⟩
          have HBD := vlt hbd
          clear D1 hgq hbd hHeld hk6 hgE0
          cases gq with
          | false =>
            go_wp2_with (first | (with_reducible refine wpList_load_row rfl 32 (.tmp 17) rfl wv.heap.size rfl 32 e.cells.toArray (0, 0) _ hgE6.out Try.underlying32 rfl (by rw [Ed.cells_size HE8.out]; kernel_rfl) ?_) | (go_at_call 23; refine DG.out.mono ?_; rintro e' w8 ⟨rfl, hb8⟩; clear DG))
            go_ret
            exact ⟨rfl, below_next hU6 hU6.size hb8⟩
          | true =>
          go_upto_region 23 with (first | (with_reducible refine wpList_load_row rfl 32 (.tmp 17) rfl wv.heap.size rfl 32 e.cells.toArray (0, 0) _ hgE6.out Try.underlying32 rfl (by rw [Ed.cells_size HE8.out]; kernel_rfl) ?_) | (go_at_call 23; refine DG.out.mono ?_; rintro e' w8 ⟨rfl, hb8⟩; clear DG))
          clear hlt hltz hk hin hgk hKs
          go_wp2
          go_loopg [18] m (fun k s wr => ∃ (i : Nat), s = .int .i64 i ∧ m - i < k + 1 ∧ i ≤ m ∧ Vlt (∀ p y, p < i → L[p]? = some y → vhas y.seen e.dev e.num = false) ∧ Below U6.heap.size U6 wr)
          case atStart => exact ⟨0, rfl, by omega, Nat.zero_le _, vlt (fun p y h => by omega), hb8⟩
          case round =>
            obtain ⟨i, rfl, hk, hin, HQ, hbk⟩ := hrel
            have hgEr := row_next2 hgE6 hbk
            by_cases hlt : i < m
            · have hltz : (i : Int) < (m : Int) := by omega
              obtain ⟨G, s, rfl, hrow0⟩ := hr7.at_ (by rw [HM.out]; omega)
              have hGK : G ≠ w1.heap.size := fun e => by
                subst e
                have h1 := hrow0.out.symm.trans hgk7.out
                injection h1 with h1
                injection h1 with _ h2
                exact absurd h2 (by decide)
              have hrow := row_next2 (row_but hrow0 hb76 hGK) hbk
              obtain ⟨x, hx⟩ : ∃ x, L[i]? = some x := ⟨_, List.getElem?_eq_getElem (by rw [HM.out]; omega)⟩
              have HX := Lib.hid hx
              have HX8 := Lib.hid (HSE.out.get hx)
              obtain ⟨o, ho⟩ : ∃ o, vhas x.seen e.dev e.num = o := ⟨_, rfl⟩
              have HHS := vlt (fun w' => by have := vhas_any w' x.seen HX8.out e.dev e.num; rwa [ho] at this)
              have HO := vlt ho
              clear hx ho
              go_upto_region 26 with fail
              refine wp_region_held_drew (S := fun W' => Below wr.heap.size wr W') (by kernel_rfl) ((Below.refl _ _).drew) (fun hHeld => ?_)
              refine wpAnyH_take (i := 0) (oi := ⟨(some 106), _, _, _, _, _⟩) (v := .slice (some ⟨G, 0, none⟩) m c14) rfl (by kernel_rfl) (by kernel_rfl) (by kernel_rfl) (fun _ _ _ h => h) (Or.inl ⟨by rfl, ?yr26_0⟩) hHeld ?_
              case yr26_0 => (intro W0 hSw; go_simp; try with_reducible rfl)
              try simp only [pu]
              refine wpAnyH_take (i := 1) (oi := ⟨(some 107), _, _, _, _, _⟩) (v := .int .i64 (i : Int)) rfl (by kernel_rfl) (by kernel_rfl) (by kernel_rfl) (fun _ _ _ h => h) (Or.inl ⟨by rfl, ?yr26_1⟩) hHeld ?_
              case yr26_1 => (intro W0 hSw; go_simp; try with_reducible rfl)
              try simp only [pu]
              refine wpAnyH_take (i := 2) (oi := ⟨(some 108), _, _, _, _, _⟩) (v := .pointer (some ⟨G, i * 15, none⟩)) rfl (by kernel_rfl) (by kernel_rfl) (by kernel_rfl) (fun _ _ _ h => h) (Or.inl ⟨by rfl, ?yr26_2⟩) hHeld ?_
              case yr26_2 => (intro W0 hSw; go_simp; try with_reducible rfl)
              try simp only [pu]
              refine wpAnyH_take (i := 3) (oi := ⟨(some 109), _, _, _, _, _⟩) (v := .pointer (some ⟨G, i * 15 + 2, none⟩)) rfl (by kernel_rfl) (by kernel_rfl) (by kernel_rfl) (fun _ _ _ h => h) (Or.inl ⟨by rfl, ?yr26_3⟩) hHeld ?_
              case yr26_3 => (intro W0 hSw; go_simp; try with_reducible rfl)
              try simp only [pu]
              refine wpAnyH_take (i := 4) (oi := ⟨(some 110), _, _, _, _, _⟩) (v := .agg (i64v x.seen).toArray) rfl (by kernel_rfl) (by kernel_rfl) (by kernel_rfl) (fun _ _ _ h => h) (yieldsIf_load_mid (by rfl) _ _ rfl G (i * 15 + 2) rfl (i64v x.seen) _ (fun W' hW' => seen_mid (edit_range (row_next2 hrow hW').out HSE.out HX.out)) (Try.underlying30) rfl (by rw [i64v_len, HX8.out]; kernel_rfl)) hHeld ?_
              try simp only [pu]
              refine wpAnyH_take (i := 5) (oi := ⟨(some 111), _, _, _, _, _⟩) (v := .pointer (some ⟨wv.heap.size, 0, none⟩)) rfl (by kernel_rfl) (by kernel_rfl) (by kernel_rfl) (fun _ _ _ h => h) (Or.inl ⟨by rfl, ?yr26_5⟩) hHeld ?_
              case yr26_5 => (intro W0 hSw; go_simp; try with_reducible rfl)
              try simp only [pu]
              refine wpAnyH_take (i := 6) (oi := ⟨(some 112), _, _, _, _, _⟩) (v := .agg [.int .i64 e.dev, .int .i64 e.num].toArray) rfl (by kernel_rfl) (by kernel_rfl) (by kernel_rfl) (fun _ _ _ h => h) (yieldsIf_load_mid (by rfl) _ _ rfl (wv.heap.size) 0 rfl [.int .i64 e.dev, .int .i64 e.num] _ (fun W' hW' => ed_dotR (row_next2 hgEr hW')) (Try.underlying28) rfl (by kernel_rfl)) hHeld ?_
              try simp only [pu]
              refine wpAnyH_ready (rs := [7]) (by kernel_rfl) (by simp) ?_
              refine AllReadyH.cons (i := 7) (o := ⟨(some 113), _, _, _, _, _⟩) rfl (fun K hK => ?_) AllReadyH.nil
              go_simp
              refine (HHS.out _).mono ?_
              rintro e r26W1 ⟨rfl, r26h1⟩
              refine hK.out _ _ (below_next hHeld hHeld.size r26h1) (fun hHeld => ?_)
              clear hK K r26h1
              try simp only [pu]
              refine wpAnyH_done (by kernel_rfl) ?_ _
              have hbk2 := below_next hbk hbk.size hHeld
              cases o with
              | true =>
                go_wp2
                go_ret
                exact ⟨rfl, hU6.trans (hbk2.mono hU6.size)⟩
              | false =>
                have HQ2 : Vlt (∀ p y, p < i + 1 → L[p]? = some y → vhas y.seen e.dev e.num = false) := vlt (fun p y hp hy => by
                  rcases Nat.lt_or_eq_of_le (Nat.le_of_lt_succ hp) with h | rfl
                  · exact HQ.out p y h hy
                  · have h := HX.out.symm.trans hy
                    injection h with h
                    rw [← h]; exact HO.out)
                go_wp2
                go_roundg (m - (i + 1))
                case measure => omega
                case rel => exact ⟨i + 1, by go_num, by omega, by omega, HQ2, hbk2⟩
            · have hltz : ¬ (i : Int) < (m : Int) := by omega
              obtain ⟨hr0, hball⟩ := last_end HEQ.out HG.out HV.out HGQ.out (by rw [HM.out]; omega) (fun y hy => by
                obtain ⟨p, hp, rfl⟩ := List.mem_iff_getElem.1 hy
                exact HQ.out p _ (by rw [HM.out] at hp; omega) (List.getElem?_eq_getElem hp)) HBD.out
              subst hr0
              have HBL := vlt hball
              have hsk := hbk.size
              have V1 := vlt (add_fence (H6.out.next hbk) e HE8.out (fun i hi => HFn i (by omega)) HBD.out)
              have hbk1 := hU6.trans (hbk.mono hU6.size)
              clear hball hlt
              go_wp2_with (first
                | (with_reducible refine wpList_load_row rfl 32 (.tmp 17) rfl wv.heap.size rfl 32 e.cells.toArray (0, 0) _ hgEr.out Try.underlying32 rfl (by rw [Ed.cells_size HE8.out]; kernel_rfl) ?_)
                | (go_at_call 11; refine V1.out.mono ?_; rintro e' w9 ⟨rfl, hS9, ho9⟩; have hb9 := ho9.below hbk1 HFb hbk1.size; have D2 := all_any hS9 q f; rw [HBL.out] at D2; have V2 := vlt D2; clear V1 D2)
                | (go_at_call 25; refine V2.out.mono ?_; rintro e' w10 ⟨A10, c10, rfl, hr10, hb10⟩; have hb10' := below_next hb9 hb9.size hb10; have hba := (Below.refl w10.heap.size w10).alloc (Nat.le_refl _) (.cells #[.string u] 9); clear V2)
                | (go_at_call 18; refine (texts_any (l := [u]) (m := [u]) (n := 1) (k := 1) c10 1 (hr10.next hba) (tr_new _ rfl rfl rfl) rfl rfl (by decide) true (by simp)).mono ?_; rintro e' w11 ⟨rfl, hb11⟩; have hb11' := below_next hb10' hb10'.size (below_next hba hba.size hb11); clear hr10))
              go_ret
              exact ⟨rfl, hb11'⟩
end Go.Proofs.Ytncjobhpiohkkaa
