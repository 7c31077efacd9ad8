/-
  The contracts of a disk's calls Crash, New. Conditions: fewer than 2^40 calls.
-/
import Derived.Test.YtnpaodhcaeofnaaDkQ
namespace Go.Proofs.Ytnpaodhcaeofnaa
open Go.RowKit

theorem fallen_le (keep torn : Nat) (f : Fl) : (fallen keep torn f).length ≤ f.all.length := by
  unfold fallen
  rw [List.length_take, List.length_append, zs_flat_len, all_len]
  omega
/-- The files, those that are still to come as they were. -/
def fallL (keep torn : Nat) (todo : ByteArray → Bool) (L : List (ByteArray × Nat × Fl)) : List (ByteArray × Nat × Fl) := L.map fun x => if todo x.1 then x else (x.1, x.2.1, x.2.2.fall keep torn)
def fallZ (keep torn : Nat) (todo : ByteArray → Bool) (L : List (ByteArray × Nat × Fl)) : Nat := (L.map fun x => if !todo x.1 then (fun (a : Nat × Fl) => (fallen keep torn a.2).length) x.2 else 0).sum
section
variable {keep torn : Nat} {todo todo' : ByteArray → Bool} {L : List (ByteArray × Nat × Fl)} {s : ByteArray} {g : Nat} {f : Fl}
theorem fallL_get (s : ByteArray) : getL (fallL keep torn todo L) s = (getL L s).map fun a => if todo s then a else (a.1, a.2.fall keep torn) := by
  induction L with
  | nil => rfl
  | cons x L ih =>
    have e : fallL keep torn todo (x :: L) = (if todo x.1 then x else (x.1, x.2.1, x.2.2.fall keep torn)) :: fallL keep torn todo L := rfl
    rw [e, getL_cons, getL_cons, ih]
    have e2 : (if todo x.1 then x else (x.1, x.2.1, x.2.2.fall keep torn)).1 = x.1 := by split <;> rfl
    rw [e2]
    by_cases h : x.1 = s
    · rw [if_pos h, if_pos h, h]
      cases todo s <;> rfl
    · rw [if_neg h, if_neg h]
theorem fallL_start (h : ∀ x ∈ L, todo x.1 = true) : fallL keep torn todo L = L := by
  unfold fallL
  conv => rhs; rw [← List.map_id L]
  exact List.map_congr_left fun x hx => by simp [h x hx]
theorem fallL_end (h : ∀ s, todo s = false) : onL (·.2) (fallL keep torn todo L) = onL (Fl.fall keep torn) (onL (·.2) L) := by
  simp only [onL, fallL, List.map_map]
  exact List.map_congr_left fun x _ => by simp [h]
theorem fallL_step (h1 : One L) (hg : getL L s = some (g, f)) (h2 : ∀ t, todo' t = (todo t && !decide (t = s))) : upd (fallL keep torn todo L) s (fun _ => (g, f.fall keep torn)) = fallL keep torn todo' L := by
  unfold upd fallL
  rw [List.map_map]
  refine List.map_congr_left fun x hx => ?_
  have e2 : (if todo x.1 then x else (x.1, x.2.1, x.2.2.fall keep torn)).1 = x.1 := by split <;> rfl
  have hx2 := getL_mem h1 hx
  simp only [Function.comp, e2, h2]
  by_cases h : x.1 = s
  · rw [if_pos h]
    rw [h, hg] at hx2
    injection hx2 with hx2
    simp [h, ← hx2]
  · rw [if_neg h]; simp [h]
theorem fallZ_step (h1 : One L) (hg : getL L s = some (g, f)) (hs : todo s = true) (h2 : ∀ t, todo' t = (todo t && !decide (t = s))) : fallZ keep torn todo' L = fallZ keep torn todo L + (fallen keep torn f).length := by
  unfold fallZ
  have h := sumL_some (fun (a : Nat × Fl) => (fallen keep torn a.2).length) h1 (fun t => !todo t) (fun t => !todo' t) hg (by simp [hs]) (fun t => by rw [h2]; simp)
  exact h
theorem fallZ_le : fallZ keep torn todo L ≤ sumL (fun a => fsz a.2) L := by
  induction L with
  | nil => exact Nat.le_refl _
  | cons x L ih =>
    have h5 := fallen_le keep torn x.2.2
    simp only [fallZ, sumL, List.map_cons, List.sum_cons, fsz] at ih ⊢
    split <;> omega
theorem fallZ_start (h : ∀ x ∈ L, todo x.1 = true) : fallZ keep torn todo L = 0 := by
  induction L with
  | nil => rfl
  | cons x L ih =>
    have h5 := ih fun y hy => h y (List.mem_cons_of_mem _ hy)
    simp only [fallZ, List.map_cons, List.sum_cons] at h5 ⊢
    rw [h5, h x List.mem_cons_self]; rfl
theorem fallZ_end (h : ∀ s, todo s = false) : fallZ keep torn todo L = sumL fsz (onL (Fl.fall keep torn) (onL (·.2) L)) := by
  simp only [fallZ, sumL, onL, List.map_map]
  congr 1
  exact List.map_congr_left fun x _ => by simp [h, fsz, fall_all]
end
def Dk.crs (S : Dk) (keep torn : Nat) : Dk := { S with on := false, C := onL (Fl.fall keep torn) S.C }

set_option maxRecDepth 100000 in
set_option maxHeartbeats 1000000 in
theorem dcrash_any (w : World) (O : Nat → Option Nat) (d N : Nat) (S : Dk) (h : DkIs w O d N S) (keep tn : Nat) (torn : Int) (hk : keep < 18446744073709551616) (ht : tn = torn.toNat) (ht2 : torn < 9223372036854775808) (ht3 : -9223372036854775808 ≤ torn) :
    Calls Try.prog 14 #[.pointer (some ⟨d, 0, none⟩), .int .u64 (keep : Int), .int .i64 torn] w fun e w' => e = .returned (.tuple #[]) ∧ (∃ O', DkIs w' O' d (N + 1) (S.crs keep tn) ∧ Own O O' w.heap.size) ∧ Off (fun i => O i ≠ none) w w' := by
  obtain ⟨⟨m, L, hat, hC⟩, hfull, hfew⟩ := h
  obtain ⟨⟨c0, c1, c2, c3, c4⟩, f1, f3, f4⟩ := row5 hat.row
  have hat2 := (hat.setOn false).setSize (z' := 0) (v := 0) rfl
  have hoff2 := ((Off.refl (fun i => O i ≠ none) w).set (i := 3) (.inl (show O d ≠ none by rw [hat.od]; simp)) (.bool false)).set (i := 1) (.inl (show O d ≠ none by rw [hat.od]; simp)) (.int .i64 0)
  have HC := vlt hC
  have HF := Lib.hid hfull
  have HW := Lib.hid hfew
  have hone := hat.one
  have hB : fallZ keep tn (fun _ => false) L ≤ 1048576 := by
    have h1 := fallZ_le (keep := keep) (torn := tn) (todo := fun _ => false) (L := L)
    have h2 : sumL (fun a => fsz a.2) L = S.size := by rw [← sumL_onL fsz (·.2) L, hC]; rfl
    omega
  have hBB : ∀ todo, fallZ keep tn todo L ≤ 1048576 := fun todo => by
    have h1 := fallZ_le (keep := keep) (torn := tn) (todo := todo) (L := L)
    have h2 : sumL (fun a => fsz a.2) L = S.size := by rw [← sumL_onL fsz (·.2) L, hC]; rfl
    omega
  have hfl : ∀ s g f, getL L s = some (g, f) → f.all.length ≤ 1048576 := fun s g f hg => by
    have h1 := sumL_get (fun (a : Nat × Fl) => fsz a.2) hg
    have h2 : sumL (fun a => fsz a.2) L = S.size := by rw [← sumL_onL fsz (·.2) L, hC]; rfl
    have h3 : fsz f = f.all.length := rfl
    simp only at h1
    omega
  clear hat hC hfull hfew hB
  go_enter Try.func14, Try.ntmps14
  go_upto_region 2 with fail
  generalize World.setCell (w.setCell ⟨d, 3, none⟩ (.bool false)) ⟨d, 1, none⟩ (.int .i64 0) = w2 at hat2 hoff2 ⊢
  clear c0 c1 c2 c3 c4 f1 f3 f4
  obtain ⟨⟨c0, c1, c2, c3, c4⟩, f1, f3, f4⟩ := row5 hat2.row
  go_wp2_with (at_range; refine wp_range_map _ rfl _ rfl rfl m N (ptrs L) rfl hat2.map ?_)
  intro w3 cnt3 hrg3 hgr3 hsz3
  have hat3 : DkAt w3 O d m N S.room 0 false S.lives L := hat2.off (G := fun _ => False) ⟨hgr3.out.os, hgr3.out.tape, hgr3.out.output, hgr3.out.size, fun k hk _ => hgr3.out.block k hk (by simp)⟩ fun _ _ h => h
  have hoff3 : Off (fun i => O i ≠ none) w w3 := hoff2.trans (G := fun _ => False) ⟨hgr3.out.os, hgr3.out.tape, hgr3.out.output, hgr3.out.size, fun k hk _ => hgr3.out.block k hk (by simp)⟩ fun _ h => h.elim
  have hall : ∀ x ∈ L, (ptrs L x.1).isSome = true := fun x hx => by unfold ptrs; rw [getL_mem hone hx]; rfl
  obtain ⟨r, hr⟩ : ∃ r, r = w2.heap.size := ⟨_, rfl⟩
  rw [← hr] at hrg3 ⊢
  have hOr : O r = none := by
    cases hO : O r with
    | none => rfl
    | some y => have := hat2.low r (by rw [hO]; simp); omega
  have hrnew : w.heap.size ≤ r := by rw [hr]; exact hoff2.size
  have hod : O d = some d := hat2.od
  clear hr
  go_wp2
  go_loopw [7] (fun _ wr => ∃ todo cnt O', Hid (RangeIs wr m r N (ptrs L) todo cnt) ∧ Hid (DkAt wr O' d m N S.room (fallZ keep tn todo L) false S.lives (fallL keep tn todo L)) ∧ Hid (Off (fun i => O i ≠ none) w wr) ∧ Hid (Own O O' w.heap.size) ∧ Hid (O' r = none) ∧ Hid (∀ s, todo s = true → (ptrs L s).isSome = true)) (fun _ wr => wr.rangeLeft m r)
  case atStart => exact ⟨_, cnt3, O, Lib.hid hrg3, Lib.hid (by rw [fallZ_start hall, fallL_start hall]; exact hat3), Lib.hid hoff3, Lib.hid Own.refl, Lib.hid hOr, Lib.hid fun _ h => h⟩
  case round =>
    obtain ⟨todo, cnt, O', hrg, hat4, hoff4, hown, hor, hT⟩ := hrel
    clear c0 c1 c2 c3 c4 f1 f3 f4
    have hmeas := hrg.out.left_eq
    go_wp2_with (at_next; refine wp_next_map _ rfl _ rfl rfl m r N cnt (ptrs L) todo rfl hrg.out hT.out ?_ ?_)
    · intro hdone
      have HEND := Lib.hid (show DkIs wr O' d (N + 1) (S.crs keep tn) by
        have e1 : (S.crs keep tn).size = fallZ keep tn todo L := by
          rw [fallZ_end hdone.out, HC.out]; rfl
        refine ⟨⟨m, fallL keep tn todo L, ?_, by rw [fallL_end hdone.out, HC.out]; rfl⟩, ?_, HW.out⟩
        · rw [e1]; exact hat4.out.more
        · rw [e1]
          show fallZ keep tn todo L ≤ S.room
          have h1 := fallZ_le (keep := keep) (torn := tn) (todo := todo) (L := L)
          have h2 : sumL (fun a => fsz a.2) L = S.size := by rw [← sumL_onL fsz (·.2) L, HC.out]; rfl
          have := HF.out
          omega)
      clear hat4 hrg hT hdone hmeas hor
      go_wp2
      go_end0
      exact ⟨rfl, ⟨O', HEND.out, hown.out⟩, hoff4.out⟩
    · intro s g w5 cnt5 htodo hptr hrg5 hlt5 hgr5 hen
      have hL : ∃ f, getL L s = some (g, f) := by
        have h := hptr.out
        unfold ptrs at h
        cases hg : getL L s with
        | none => rw [hg] at h; cases h
        | some y =>
          obtain ⟨g', f⟩ := y
          rw [hg] at h
          injection h with h
          exact ⟨f, by rw [show g' = g from h]⟩
      obtain ⟨f, hgL⟩ := hL
      have hgetLt : getL (fallL keep tn todo L) s = some (g, f) := by rw [fallL_get, hgL, htodo.out]; rfl
      have hoffr : Off (fun i => i = r) wr w5 := ⟨hgr5.out.os, hgr5.out.tape, hgr5.out.output, hgr5.out.size, fun k hk hn => hgr5.out.block k hk (fun e => hn (by injection e))⟩
      have hat5 := hat4.out.off hoffr fun i h1 h2 => h1 (by rw [h2]; exact hor.out)
      have hoff5 : Off (fun i => O i ≠ none) w w5 := hoff4.out.trans hoffr fun i h => .inr (by rw [h]; exact hrnew)
      have hgd : g ≠ d := hat5.ned (mem_getL hgetLt)
      have hfl6 := hfl s g f hgL
      have hcr := crash_any w5 (fun i => O' i = some g) g f (hat5.file (s, g, f) (mem_getL hgetLt)) keep tn hk (by omega) (by omega)
      by_cases hneg : torn < 0
      · have h0 : tn = 0 := by omega
        have hcv : ((tn : Nat) : Int) = 0 := by omega
        rw [hcv] at hcr
        go_wp2_with fail
        refine hcr.mono ?_
        rintro e w6 ⟨rfl, hf6, hoff6⟩
        clear hcr hen
        have hat6 := hat5.turn hgetLt hoff6 hf6
        rw [fallL_step hone hgL (todo' := fun t => todo t && !decide (t = s)) fun t => rfl] at hat6
        have hrg6 := hrg5.blocks (hoff6.block m hrg5.map.lt (by rw [hat5.om]; simp; exact fun e => hgd e.symm)) (hoff6.block r hrg5.lt (by rw [hor.out]; simp))
        have hfile6 := hat6.file (s, g, f.fall keep tn) (mem_getL (by rw [fallL_get, hgL]; simp))
        obtain ⟨_, _, A, n, c, A2, n2, c2', hgr, h1, h2, h3, h4⟩ := hfile6
        have hs1 := owns_size h1
        rw [bv_len] at hs1
        have hnn : (fallen keep tn f).length = n := by rw [← fall_all]; exact hs1.1
        have hn6 : n ≤ 1048576 := by have := fallen_le keep tn f; omega
        obtain ⟨d0, d1, e0, e1⟩ := row2 hgr
        obtain ⟨⟨c0, c1, c2, c3, c4⟩, f1, f3, f4⟩ := row5 hat6.row
        obtain ⟨z, hz⟩ : ∃ z, z = fallZ keep tn todo L := ⟨_, rfl⟩
        have hz6 : z ≤ 1048576 := by rw [hz]; exact hBB todo
        rw [← hz] at hat6 c1
        have hor6 : paint O' w5.heap.size w6.heap.size g r = none := by
          unfold paint
          have := hrg5.lt
          rw [if_neg (by omega)]; exact hor.out
        have hown6 : Own O (paint O' w5.heap.size w6.heap.size g) w.heap.size := fun i hi => by
          rcases Own.paint i hi with h | h
          · exact hown.out i h
          · have := hoff5.size; exact .inr (by omega)
        have hoff7 : Off (fun i => O i ≠ none) w w6 := hoff5.trans (hoff6.mono (G := fun i => O' i ≠ none) fun i _ h => by rw [h]; simp) fun i h => hown.out i h
        have HZ := vlt (show fallZ keep tn (fun t => todo t && !decide (t = s)) L = z + n by rw [fallZ_step hone hgL htodo.out (fun t => rfl), hz, hnn])
        have HG6 := vlt hgr
        have HRG := Lib.hid hrg6
        have HAT := Lib.hid hat6
        have HT2 := Lib.hid (show ∀ t, (todo t && !decide (t = s)) = true → (ptrs L t).isSome = true from fun t h => hT.out t (by simp at h; exact h.1))
        have hodd : O' d = some d := hat5.od
        clear hat5 hat6 hrg5 hrg6 hoff6 hf6 hgetLt hgL hz hnn hs1 h1 h2 h3 h4 hgr htodo hptr hat4 hT
        go_upto_region 6 with fail
        go_region
        have hat8 : DkAt (w6.setCell ⟨d, 1, none⟩ (.int .i64 ((z : Int) + (n : Int)))).drew (paint O' w5.heap.size w6.heap.size g) d m N S.room (z + n) false S.lives (fallL keep tn (fun t => todo t && !decide (t = s)) L) :=
          (HAT.out.setSize (z' := z + n) (by omega)).off (G := fun _ => False) ((Off.refl _ _).drew) fun _ _ h => h
        have hrg8 : RangeIs (w6.setCell ⟨d, 1, none⟩ (.int .i64 ((z : Int) + (n : Int)))).drew m r N (ptrs L) (fun t => todo t && !decide (t = s)) cnt5 :=
          HRG.out.blocks (((But.refl d w6).set (i := 1) _).drew.block m HRG.out.map.lt (fun e => by injection e with e; exact HRG.out.map.ne HAT.out.row e.symm)) (((But.refl d w6).set (i := 1) _).drew.block r HRG.out.lt (fun e => by injection e with e; exact HRG.out.ne HAT.out.row e.symm))
        have hoff8 := (hoff7.set (i := 1) (.inl (show O d ≠ none by rw [hod]; simp)) (.int .i64 ((z : Int) + (n : Int)))).drew
        have hmeas8 := hrg8.left_eq
        clear c0 c1 c2 c3 c4 f1 f3 f4 d0 d1 e0 e1
        go_wp2
        go_roundw
        case rel => exact ⟨fun t => todo t && !decide (t = s), cnt5, _, Lib.hid hrg8, Lib.hid (by rw [HZ.out]; exact hat8), Lib.hid hoff8, Lib.hid hown6, Lib.hid hor6, HT2⟩
        case measure => rw [hmeas8, hmeas]; exact hlt5
      · have hcv : ((tn : Nat) : Int) = torn := by omega
        have hpos : 0 ≤ torn := by omega
        rw [hcv] at hcr
        go_wp2_with fail
        refine hcr.mono ?_
        rintro e w6 ⟨rfl, hf6, hoff6⟩
        clear hcr hen
        have hat6 := hat5.turn hgetLt hoff6 hf6
        rw [fallL_step hone hgL (todo' := fun t => todo t && !decide (t = s)) fun t => rfl] at hat6
        have hrg6 := hrg5.blocks (hoff6.block m hrg5.map.lt (by rw [hat5.om]; simp; exact fun e => hgd e.symm)) (hoff6.block r hrg5.lt (by rw [hor.out]; simp))
        have hfile6 := hat6.file (s, g, f.fall keep tn) (mem_getL (by rw [fallL_get, hgL]; simp))
        obtain ⟨_, _, A, n, c, A2, n2, c2', hgr, h1, h2, h3, h4⟩ := hfile6
        have hs1 := owns_size h1
        rw [bv_len] at hs1
        have hnn : (fallen keep tn f).length = n := by rw [← fall_all]; exact hs1.1
        have hn6 : n ≤ 1048576 := by have := fallen_le keep tn f; omega
        obtain ⟨d0, d1, e0, e1⟩ := row2 hgr
        obtain ⟨⟨c0, c1, c2, c3, c4⟩, f1, f3, f4⟩ := row5 hat6.row
        obtain ⟨z, hz⟩ : ∃ z, z = fallZ keep tn todo L := ⟨_, rfl⟩
        have hz6 : z ≤ 1048576 := by rw [hz]; exact hBB todo
        rw [← hz] at hat6 c1
        have hor6 : paint O' w5.heap.size w6.heap.size g r = none := by
          unfold paint
          have := hrg5.lt
          rw [if_neg (by omega)]; exact hor.out
        have hown6 : Own O (paint O' w5.heap.size w6.heap.size g) w.heap.size := fun i hi => by
          rcases Own.paint i hi with h | h
          · exact hown.out i h
          · have := hoff5.size; exact .inr (by omega)
        have hoff7 : Off (fun i => O i ≠ none) w w6 := hoff5.trans (hoff6.mono (G := fun i => O' i ≠ none) fun i _ h => by rw [h]; simp) fun i h => hown.out i h
        have HZ := vlt (show fallZ keep tn (fun t => todo t && !decide (t = s)) L = z + n by rw [fallZ_step hone hgL htodo.out (fun t => rfl), hz, hnn])
        have HG6 := vlt hgr
        have HRG := Lib.hid hrg6
        have HAT := Lib.hid hat6
        have HT2 := Lib.hid (show ∀ t, (todo t && !decide (t = s)) = true → (ptrs L t).isSome = true from fun t h => hT.out t (by simp at h; exact h.1))
        have hodd : O' d = some d := hat5.od
        clear hat5 hat6 hrg5 hrg6 hoff6 hf6 hgetLt hgL hz hnn hs1 h1 h2 h3 h4 hgr htodo hptr hat4 hT
        go_upto_region 6 with fail
        go_region
        have hat8 : DkAt (w6.setCell ⟨d, 1, none⟩ (.int .i64 ((z : Int) + (n : Int)))).drew (paint O' w5.heap.size w6.heap.size g) d m N S.room (z + n) false S.lives (fallL keep tn (fun t => todo t && !decide (t = s)) L) :=
          (HAT.out.setSize (z' := z + n) (by omega)).off (G := fun _ => False) ((Off.refl _ _).drew) fun _ _ h => h
        have hrg8 : RangeIs (w6.setCell ⟨d, 1, none⟩ (.int .i64 ((z : Int) + (n : Int)))).drew m r N (ptrs L) (fun t => todo t && !decide (t = s)) cnt5 :=
          HRG.out.blocks (((But.refl d w6).set (i := 1) _).drew.block m HRG.out.map.lt (fun e => by injection e with e; exact HRG.out.map.ne HAT.out.row e.symm)) (((But.refl d w6).set (i := 1) _).drew.block r HRG.out.lt (fun e => by injection e with e; exact HRG.out.ne HAT.out.row e.symm))
        have hoff8 := (hoff7.set (i := 1) (.inl (show O d ≠ none by rw [hod]; simp)) (.int .i64 ((z : Int) + (n : Int)))).drew
        have hmeas8 := hrg8.left_eq
        clear c0 c1 c2 c3 c4 f1 f3 f4 d0 d1 e0 e1
        go_wp2
        go_roundw
        case rel => exact ⟨fun t => todo t && !decide (t = s), cnt5, _, Lib.hid hrg8, Lib.hid (by rw [HZ.out]; exact hat8), Lib.hid hoff8, Lib.hid hown6, Lib.hid hor6, HT2⟩
        case measure => rw [hmeas8, hmeas]; exact hlt5
end Go.Proofs.Ytnpaodhcaeofnaa
