/-
  The contracts of the document's own Size, ask, Read. Conditions: at most 2^40 bytes and files.
-/
import Derived.Test.YtnpaodhcaeofnaaRkB
import Derived.Deep.MidRow
namespace Go.Proofs.Ytnpaodhcaeofnaa
open Go.RowKit

def rfz (f : Rf) : Nat := f.all.length
section
variable {w : World} {D : Nat → Prop} {r n c room lives : Nat} {A : Option Addr} {pf : Bool} {xs : List Value} {L : List (ByteArray × Rf)}
theorem sumR_at {L : List (ByteArray × Rf)} {k : Nat} {x : ByteArray × Rf} (h : L[k]? = some x) : sumL rfz (L.take (k + 1)) = sumL rfz (L.take k) + rfz x.2 := by
  rw [List.take_add_one, h]
  simp [sumL]
theorem sumR_le (L : List (ByteArray × Rf)) (k : Nat) : sumL rfz (L.take k) ≤ sumL rfz L := by
  conv => rhs; rw [← List.take_append_drop k L]
  rw [sumL_app]; omega
theorem sumR_get {L : List (ByteArray × Rf)} {k : Nat} {x : ByteArray × Rf} (h : L[k]? = some x) : rfz x.2 ≤ sumL rfz L := by
  have h1 := sumR_at h
  have h2 := sumR_le L (k + 1)
  omega
/-- The three cells of an entry, as the range that a load of it takes. -/
theorem RkAt.rng (h : RkAt w D r A n c room pf lives xs L) {i : Nat} {x : ByteArray × Rf} (hx : L[i]? = some x) :
    ∃ b As ns cs Aw nw cw, A = some ⟨b, 0, none⟩ ∧ i < n ∧ w.rangeAt b (i * 3) [.string x.1, .slice As ns cs, .slice Aw nw cw] ∧ BytF w D As x.2.safe ∧ x.2.safe.length = ns ∧ ns ≤ cs ∧ PrtF w D Aw x.2.ws ∧ x.2.ws.length = nw ∧ nw ≤ cw := by
  obtain ⟨b, As, ns, cs, Aw, nw, cw, h1, h2, h3, h4, h5, h6⟩ := h.ent hx
  refine ⟨b, As, ns, cs, Aw, nw, cw, h1, h2, fun j v hj => ?_, h6⟩
  match j, hj with
  | 0, hj => simp at hj; subst hj; exact h3
  | 1, hj => simp at hj; subst hj; exact h4
  | 2, hj => simp at hj; subst hj; exact h5
  | j + 3, hj => simp at hj
end

set_option maxRecDepth 100000 in
set_option maxHeartbeats 1000000 in
theorem rsize_any (w : World) (D : Nat → Prop) (r n c room lives : Nat) (A : Option Addr) (pf : Bool) (xs : List Value) (L : List (ByteArray × Rf)) (h : RkAt w D r A n c room pf lives xs L) (hn : n ≤ 1099511627776) (hz : sumL rfz L ≤ 1099511627776) (hws : ∀ x ∈ L, x.2.ws.length ≤ 1099511627776) :
    Calls Try.prog 21 #[.pointer (some ⟨r, 0, none⟩)] w fun e w' => e = .returned (.int .i64 (if pf then 0 else (sumL rfz L : Nat))) ∧ Below w.heap.size w w' := by
  obtain ⟨⟨c0, c1, c2, c3⟩, _⟩ := row4 h.row
  have hlen := h.len
  have hnc := h.size.1
  cases pf with
  | true =>
    by_cases h0 : 0 < n
    · have h0' : (0 : Int) < (n : Int) := by omega
      clear h
      go_enter Try.func21, Try.ntmps21
      go_wp2
      refine wp_loop_rounds 1 ?_
      rw [rounds_succ]
      go_wp2
      go_ret
      exact ⟨rfl, Below.refl _ _⟩
    · obtain rfl : n = 0 := by omega
      clear h
      go_enter Try.func21, Try.ntmps21
      go_wp2
      refine wp_loop_rounds 1 ?_
      rw [rounds_succ]
      go_wp2
      go_ret
      exact ⟨rfl, Below.refl _ _⟩
  | false =>
    have HZ := Lib.hid hz
    have HLN := Lib.hid hlen
    have hG := h.gLow
    clear hz hlen
    go_enter Try.func21, Try.ntmps21
    go_wp2
    go_loopw [3, 4] (fun s i wr => ∃ (k z : Nat), i = .int .i64 (k : Int) ∧ k ≤ n ∧ s = .int .i64 (z : Int) ∧ Vlt (z = sumL rfz (L.take k)) ∧ Hid (Below w.heap.size w wr)) (fun _ i _ => n - (intOf i).toNat)
    case atStart => exact ⟨0, 0, rfl, Nat.zero_le _, rfl, vlt rfl, Lib.hid (Below.refl _ _)⟩
    case round =>
      obtain ⟨k, z, rfl, hk, rfl, hzk, hb⟩ := hrel
      have hr : RkAt wr D r A n c room false lives xs L := h.off (G := fun _ => False) (Off.of_below hb.out fun i a b => by omega) fun _ _ h => h
      clear c0 c1 c2 c3
      obtain ⟨⟨c0, c1, c2, c3⟩, _⟩ := row4 hr.row
      by_cases hlt : k < n
      · obtain ⟨⟨nm, f⟩, hx⟩ : ∃ x, L[k]? = some x := ⟨_, List.getElem?_eq_getElem (by rw [HLN.out]; exact hlt)⟩
        obtain ⟨b, As, ns, cs, Aw, nw, cw, rfl, _, hrg, h1, h2, h3, h4, h5, h6⟩ := hr.rng hx
        have hfz : rfz f ≤ 1099511627776 := by have h9 : rfz f ≤ sumL rfz L := sumR_get hx; have := HZ.out; omega
        have hcl := rall_any wr D nm f As ns cs Aw nw cw h1 h2 h4 h5 h6 hfz (by rw [← h5]; exact hws _ (List.mem_of_getElem? hx))
        have HX := vlt (sumR_at hx)
        have hz1 : sumL rfz (L.take k) + rfz f ≤ 1099511627776 := by
          have h7 := sumR_le L (k + 1)
          rw [sumR_at hx] at h7
          have := HZ.out
          simp only at h7
          omega
        have hz2 : z + rfz f ≤ 1099511627776 := by rw [hzk.out]; exact hz1
        have HZK := vlt (show z + rfz f = sumL rfz (L.take (k + 1)) by rw [HX.out, hzk.out])
        clear h1 h2 h4 h5 hx HX hz1 hzk hr
        obtain ⟨m, hm⟩ : ∃ m, m = rfz f := ⟨_, rfl⟩
        rw [← hm] at hz2 HZK hfz
        have HM := vlt hm
        clear hm
        go_wp2_with (with_reducible refine wpList_load_mid rfl 56 (.tmp 27) rfl b (k * 3) rfl [.string nm, .slice As ns cs, .slice Aw nw cw] _ hrg Try.underlying56 rfl (by kernel_rfl) ?_)
        refine hcl.mono ?_
        rintro e w3 ⟨A3, n3, c3, rfl, hr3, hb3⟩
        have hn3 : n3 = m := by rw [← hr3.len, HM.out]; rfl
        subst hn3
        have HB3 := Lib.hid (below_next hb.out hb.out.size hb3)
        clear hcl hr3 hb3 hb hrg
        go_wp2
        go_roundw
        case rel => exact ⟨k + 1, z + n3, by go_num, by omega, by go_num, HZK, HB3⟩
        case measure => simp [intOf]; omega
      · obtain rfl : k = n := by omega
        have HE := vlt (show z = sumL rfz L by rw [hzk.out, List.take_of_length_le (by rw [HLN.out]; exact Nat.le_refl _)])
        clear hzk hr
        go_wp2
        go_ret
        exact ⟨by rw [← HE.out]; rfl, hb.out⟩

theorem idx_some {L : List (ByteArray × Rf)} {s : ByteArray} {i : Nat} (h : idxL L s = some i) : ∃ f, L[i]? = some (s, f) ∧ getL L s = some f := by
  unfold idxL at h
  rw [List.findIdx?_eq_some_iff_getElem] at h
  obtain ⟨hi, h1, h2⟩ := h
  have h1 : L[i].1 = s := by simpa using h1
  refine ⟨L[i].2, by rw [List.getElem?_eq_getElem hi, ← h1], ?_⟩
  unfold getL
  rw [List.find?_eq_some_iff_getElem.2 ⟨by simpa using h1, i, hi, rfl, fun j hj => by simpa using h2 j hj⟩]
  rfl
theorem idx_none {L : List (ByteArray × Rf)} {s : ByteArray} (h : idxL L s = none) : getL L s = none := by
  unfold idxL at h
  rw [List.findIdx?_eq_none_iff] at h
  unfold getL
  rw [List.find?_eq_none.2 (fun x hx => by simpa using h x hx)]
  rfl
def raskE (pf : Bool) (L : List (ByteArray × Rf)) (s : ByteArray) : Int := if pf then 7 else if may s then (if (getL L s).isSome then 0 else 4) else 1
def raskI (pf : Bool) (L : List (ByteArray × Rf)) (s : ByteArray) : Int := if raskE pf L s = 0 then idxI (idxL L s) else -1
def rreadB (pf : Bool) (L : List (ByteArray × Rf)) (s : ByteArray) : List UInt8 := if raskE pf L s = 0 then ((getL L s).map Rf.all).getD [] else []
theorem rask_yes {pf : Bool} {L : List (ByteArray × Rf)} {s : ByteArray} (h : raskE pf L s = 0) : ∃ i f, idxL L s = some i ∧ raskI pf L s = (i : Int) ∧ L[i]? = some (s, f) ∧ getL L s = some f ∧ rreadB pf L s = f.all := by
  cases hi : idxL L s with
  | none =>
    have hg := idx_none hi
    unfold raskE at h
    rw [hg] at h
    split at h
    · cases h
    · split at h
      · cases h
      · cases h
  | some i =>
    obtain ⟨f, h1, h2⟩ := idx_some hi
    exact ⟨i, f, rfl, by unfold raskI; rw [if_pos h, hi]; rfl, h1, h2, by unfold rreadB; rw [if_pos h, h2]; rfl⟩
set_option maxRecDepth 100000 in
theorem rask_any (w : World) (D : Nat → Prop) (r n c room lives : Nat) (A : Option Addr) (pf : Bool) (xs : List Value) (L : List (ByteArray × Rf)) (h : RkAt w D r A n c room pf lives xs L) (hn : n ≤ 1099511627776) (s : ByteArray) (hs : s.size ≤ 140737488355328) :
    Calls Try.prog 26 #[.pointer (some ⟨r, 0, none⟩), .string s] w fun e w' => e = .returned (.tuple #[.int .i64 (raskI pf L s), .int .i64 (raskE pf L s)]) ∧ w' = w := by
  obtain ⟨⟨c0, c1, c2, c3⟩, _⟩ := row4 h.row
  have hm := rmay_any s w hs
  have hf := rfind_any w D r n c room lives A pf xs L h hn s
  clear h
  cases pf with
  | true =>
    have HE := Lib.hid (show raskE true L s = 7 ∧ raskI true L s = -1 by simp [raskI, raskE])
    clear hm hf
    go_enter Try.func26, Try.ntmps26
    go_wp2
    go_ret2
    exact ⟨by rw [HE.out.1, HE.out.2]; rfl, rfl⟩
  | false =>
    cases hmay : may s with
    | false =>
      rw [hmay] at hm
      have HE := Lib.hid (show raskE false L s = 1 ∧ raskI false L s = -1 by simp [raskI, raskE, hmay])
      clear hf hmay
      go_enter Try.func26, Try.ntmps26
      go_wp2_with fail
      refine hm.mono ?_
      rintro e w2 ⟨rfl, rfl⟩
      clear hm
      go_wp2
      go_ret2
      exact ⟨by rw [HE.out.1, HE.out.2]; rfl, rfl⟩
    | true =>
      rw [hmay] at hm
      cases hi : idxL L s with
      | none =>
        rw [hi] at hf
        have HE := Lib.hid (show raskE false L s = 4 ∧ raskI false L s = -1 by simp [raskI, raskE, hmay, idx_none hi])
        clear hmay hi
        simp only [idxI] at hf
        go_enter Try.func26, Try.ntmps26
        go_wp2_with fail
        refine hm.mono ?_
        rintro e w2 ⟨rfl, rfl⟩
        clear hm
        go_wp2_with fail
        refine hf.mono ?_
        rintro e w3 ⟨rfl, rfl⟩
        clear hf
        go_wp2
        go_ret2
        exact ⟨by rw [HE.out.1, HE.out.2]; rfl, rfl⟩
      | some i =>
        rw [hi] at hf
        obtain ⟨f, _, hg⟩ := idx_some hi
        have HE := Lib.hid (show raskE false L s = 0 ∧ raskI false L s = (i : Int) by simp [raskI, raskE, hmay, hg, hi, idxI])
        clear hmay hi hg
        simp only [idxI] at hf
        have hi0 : ¬ (i : Int) < 0 := by omega
        go_enter Try.func26, Try.ntmps26
        go_wp2_with fail
        refine hm.mono ?_
        rintro e w2 ⟨rfl, rfl⟩
        clear hm
        go_wp2_with fail
        refine hf.mono ?_
        rintro e w3 ⟨rfl, rfl⟩
        clear hf
        go_wp2
        go_ret2
        exact ⟨by rw [HE.out.1, HE.out.2]; rfl, rfl⟩

set_option maxRecDepth 100000 in
theorem rread_any (w : World) (D : Nat → Prop) (r n c room lives : Nat) (A : Option Addr) (pf : Bool) (xs : List Value) (L : List (ByteArray × Rf)) (h : RkAt w D r A n c room pf lives xs L) (hn : n ≤ 1099511627776) (hz : sumL rfz L ≤ 1099511627776) (hws : ∀ x ∈ L, x.2.ws.length ≤ 1099511627776) (s : ByteArray) (hs : s.size ≤ 140737488355328) :
    Calls Try.prog 19 #[.pointer (some ⟨r, 0, none⟩), .string s] w fun e w' => ∃ B m cB l, e = .returned (.tuple #[.slice B m cB, .int .i64 (raskE pf L s)]) ∧ Vlt (l = rreadB pf L s) ∧ Res w' w.heap.size 5 B m cB l ∧ Below w.heap.size w w' := by
  have hk := rask_any w D r n c room lives A pf xs L h hn s hs
  have hnc := h.size.1
  by_cases h0 : raskE pf L s = 0
  · obtain ⟨i, f, _, hI, hx, hg, hb⟩ := rask_yes h0
    rw [h0, hI] at hk
    obtain ⟨⟨c0, c1, c2, c3⟩, _⟩ := row4 h.row
    obtain ⟨b, As, ns, cs, Aw, nw, cw, rfl, hin, hrg, h1, h2, h3, h4, h5, h6⟩ := h.rng hx
    have hfz : rfz f ≤ 1099511627776 := by have h9 : rfz f ≤ sumL rfz L := sumR_get hx; omega
    have hcl := rall_any w D s f As ns cs Aw nw cw h1 h2 h4 h5 h6 hfz (by rw [← h5]; exact hws _ (List.mem_of_getElem? hx))
    have HE := Lib.hid h0
    have HB := vlt hb.symm
    clear h1 h2 h4 h5 hx h h0 hb hg hI
    go_enter Try.func19, Try.ntmps19
    go_wp2_with fail
    refine hk.mono ?_
    rintro e w2 ⟨rfl, rfl⟩
    clear hk
    go_wp2_with (with_reducible refine wpList_load_mid rfl 56 (.tmp 22) rfl b (i * 3) rfl [.string s, .slice As ns cs, .slice Aw nw cw] _ hrg Try.underlying56 rfl (by kernel_rfl) ?_)
    refine hcl.mono ?_
    rintro e w3 ⟨A3, n3, c3, rfl, hr3, hb3⟩
    clear hcl hrg
    go_wp2
    go_ret2
    exact ⟨A3, n3, c3, f.all, by rw [HE.out]; rfl, HB, hr3, hb3⟩
  · have HB := vlt (show [] = rreadB pf L s by unfold rreadB; rw [if_neg h0])
    generalize raskE pf L s = v at *
    clear h
    go_enter Try.func19, Try.ntmps19
    go_wp2_with fail
    refine hk.mono ?_
    rintro e w2 ⟨rfl, rfl⟩
    clear hk
    go_wp2
    go_ret2
    exact ⟨none, 0, 0, [], rfl, HB, World.ownsRow_nil _ _ _ _, Below.refl _ _⟩
end Go.Proofs.Ytnpaodhcaeofnaa
