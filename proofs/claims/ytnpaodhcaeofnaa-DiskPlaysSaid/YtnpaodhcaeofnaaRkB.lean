/-
  The contracts of the document's own all, Size, ask, Read. Conditions: at most 2^40 bytes and files.
-/
import Derived.Test.YtnpaodhcaeofnaaRkA
namespace Go.Proofs.Ytnpaodhcaeofnaa
open Go.RowKit

theorem BytF.below {w w' : World} {D : Nat → Prop} {A : Option Addr} {l : List UInt8} (h : BytF w D A l) (hb : Below w.heap.size w w') : Byt w' w.heap.size A l := h.byt.below hb
theorem PrtF.at_ {w : World} {D : Nat → Prop} {A : Option Addr} {ps : List (List UInt8)} (h : PrtF w D A ps) {k : Nat} (hk : k < ps.length) : ∃ b o Aj nj cj p, A = some ⟨b, o, none⟩ ∧ b < w.heap.size ∧ w.cell? ⟨b, o + k, none⟩ = some (.slice Aj nj cj) ∧ Hid (ps[k]? = some p) ∧ Hid (p.length = nj) ∧ nj ≤ cj ∧ BytF w D Aj p := by
  rcases h with h | ⟨b, o, hA, _, hlt, hc⟩
  · subst h; simp at hk
  · obtain ⟨Aj, nj, cj, h1, h2, h3, h4⟩ := hc k _ (List.getElem?_eq_getElem hk)
    exact ⟨b, o, Aj, nj, cj, _, hA, hlt, h1, List.getElem?_eq_getElem hk, h2, h3, h4⟩
theorem flat_next (ws : List (List UInt8)) {k : Nat} {p : List UInt8} (h : ws[k]? = some p) : (ws.take (k + 1)).flatten = (ws.take k).flatten ++ p := by
  rw [List.take_add_one, h]; simp

set_option maxRecDepth 100000 in
set_option maxHeartbeats 1000000 in
theorem rall_any (w : World) (D : Nat → Prop) (nm : ByteArray) (f : Rf) (As : Option Addr) (ns cs : Nat) (Aw : Option Addr) (nw cw : Nat) (hs : BytF w D As f.safe) (hsl : f.safe.length = ns) (hw : PrtF w D Aw f.ws) (hwl : f.ws.length = nw) (hwc : nw ≤ cw) (hsz : f.all.length ≤ 1099511627776) (hnw : nw ≤ 1099511627776) :
    Calls Try.prog 28 #[.agg #[.string nm, .slice As ns cs, .slice Aw nw cw]] w fun e w' => ∃ A n c, e = .returned (.slice A n c) ∧ Res w' w.heap.size 5 A n c f.all ∧ Below w.heap.size w w' := by
  have HSL := Lib.hid hsl
  have HWL := Lib.hid hwl
  have HSZ := Lib.hid hsz
  clear hsl hwl hsz
  go_enter Try.func28, Try.ntmps28
  go_upto_region 1 with fail
  obtain ⟨W, hW⟩ : ∃ W, W = w.alloc (.cells #[.string nm, .slice As ns cs, .slice Aw nw cw] 56) := ⟨_, rfl⟩
  have hbW : Below w.heap.size w W := by rw [hW]; exact (Below.refl _ _).alloc (Nat.le_refl _) _
  have hrow : W.heap[w.heap.size]? = some (.cells #[.string nm, .slice As ns cs, .slice Aw nw cw] 56 (0, 0)) := by rw [hW]; exact heap_alloc_new w _
  have hWs : W.heap.size = w.heap.size + 1 := by rw [hW]; simp
  rw [← hW]
  clear hW
  have hsB : Byt W W.heap.size As f.safe := (hs.below hbW).up hbW.size
  obtain ⟨g, hg⟩ : ∃ g, g = w.heap.size := ⟨_, rfl⟩
  rw [← hg] at hrow ⊢
  have c1 : (W.alloc (.cells #[] 5)).cell? ⟨g, 1, none⟩ = some (.slice As ns cs) := by
    rw [World.cell?_of_block (heap_alloc_old W _ (Array.getElem?_eq_some_iff.1 hrow).1), cell_of_row _ _ _ _ _ _ hrow]; rfl
  have HG := vlt hg
  have HWS := vlt hWs
  have hfsz : f.all.length = ns + f.ws.flatten.length := by simp only [Rf.all, List.length_append, HSL.out]
  have HNS := Lib.hid (show ns ≤ 1099511627776 by have := HSZ.out; omega)
  clear hg hWs hfsz
  have HN2 : 0 + ns ≤ 140737488355328 := by have := HNS.out; omega
  have HN3 : W.heap.size ≤ (W.alloc (.cells #[] 5)).heap.size := by simp
  go_wp2_with (at_builtin; refine wp_append_src _ rfl _ _ 33 rfl 5 Try.underlying33 Try.infoByte W.heap.size (some ⟨W.heap.size, 0, none⟩) 0 0 [] rfl (Res.none_lit W _ _ (Nat.le_refl _)) As ns cs rfl _ f.safe (hsB.alloc (Nat.le_refl _) _) HSL.out HN2 HN3 ?_)
  intro A1 c1' w1 hr1 hb1
  have hb2 := hb1 W.heap.size W (Nat.le_refl _) ((Below.refl _ _).alloc (Nat.le_refl _) _)
  have HR1 := Lib.hid (show Res w1 W.heap.size 5 A1 ns c1' f.safe by simpa using hr1)
  clear hb1 hr1 c1 hsB
  go_wp2
  go_loopw [3, 4] (fun s i wr => ∃ (k n1 c1 : Nat) (A1 : Option Addr) (l : List UInt8), i = .int .i64 (k : Int) ∧ k ≤ nw ∧ s = .slice A1 n1 c1 ∧ Hid (Res wr W.heap.size 5 A1 n1 c1 l) ∧ Vlt (l = f.safe ++ (f.ws.take k).flatten) ∧ Hid (Below W.heap.size W wr)) (fun _ i _ => nw - (intOf i).toNat)
  case atStart => exact ⟨0, ns, c1', A1, f.safe, by go_num, Nat.zero_le _, by simp, HR1, vlt (by simp), Lib.hid hb2⟩
  case round =>
    obtain ⟨k, n1, cc, A2, l, rfl, hk, rfl, hr, hl, hb⟩ := hrel
    have hrowr : wr.heap[g]? = some (.cells #[.string nm, .slice As ns cs, .slice Aw nw cw] 56 (0, 0)) := (hb.out.block g (by rw [HWS.out, HG.out]; exact Nat.lt_succ_self _)).trans hrow
    have c2 : wr.cell? ⟨g, 2, none⟩ = some (.slice Aw nw cw) := by rw [cell_of_row _ _ _ _ _ _ hrowr]; rfl
    by_cases hlt : k < nw
    · obtain ⟨b, o, Aj, nj, cj, p, rfl, hblt, hcell, hget, hpl, hle, hbp⟩ := hw.at_ (k := k) (by rw [HWL.out]; exact hlt)
      have hbel : Below w.heap.size w wr := below_next hbW hbW.size hb.out
      have hcr : wr.cell? ⟨b, o + k, none⟩ = some (.slice Aj nj cj) := (hbel.cell (p := ⟨b, o + k, none⟩) hblt).trans hcell
      have hbpr : Byt wr w.heap.size Aj p := hbp.below hbel
      have hlen : n1 + nj ≤ 1099511627776 := by
        have h1 := congrArg List.length hl.out
        have h2 := congrArg List.length (flat_next f.ws hget.out)
        have h3 := flat_take_le f.ws (k + 1)
        have h4 := HSZ.out
        have h5 := hr.out.len
        have h6 := hpl.out
        simp only [Rf.all, List.length_append] at h1 h2 h4
        omega
      have HL2 := vlt (show l ++ p = f.safe ++ (f.ws.take (k + 1)).flatten by rw [hl.out, flat_next f.ws hget.out, List.append_assoc])
      have HBS := Lib.hid (show W.heap.size ≤ wr.heap.size from hb.out.size)
      have HPL := hpl
      clear hl hget hrowr hpl
      go_wp2_with (at_builtin; refine wp_append_src _ rfl _ _ 33 rfl 5 Try.underlying33 Try.infoByte W.heap.size A2 n1 cc l rfl hr.out Aj nj cj rfl _ p hbpr HPL.out (by omega) HBS.out ?_)
      intro A3 c3 w3 hr3 hb3
      have HB3 := Lib.hid (hb3 W.heap.size W (Nat.le_refl _) hb.out)
      have HR3 := Lib.hid hr3
      clear hb3 hr3 hr hb hbel hbpr
      go_wp2
      go_roundw
      case rel => exact ⟨k + 1, n1 + nj, c3, A3, l ++ p, by go_num, by omega, rfl, HR3, HL2, HB3⟩
      case measure => simp [intOf]; omega
    · obtain rfl : k = nw := by omega
      have hall : l = f.all := by rw [hl.out, List.take_of_length_le (by rw [HWL.out]; exact Nat.le_refl _)]; rfl
      subst hall
      have HBE := Lib.hid (below_next hbW hbW.size hb.out)
      have HRE := Lib.hid (hr.out.base_le (B := w.heap.size) (by rw [HWS.out]; exact Nat.le_succ _))
      clear hl hr hb hrowr
      go_wp2
      go_ret
      exact ⟨A2, n1, cc, rfl, HRE.out, HBE.out⟩
end Go.Proofs.Ytnpaodhcaeofnaa
