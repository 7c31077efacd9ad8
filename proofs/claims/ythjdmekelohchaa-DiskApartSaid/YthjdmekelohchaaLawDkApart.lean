/-
  DiskApart: for every input the law's Go text returns true. Conditions: none.
-/
import Derived.Test.YthjdmekelohchaaDkE
import Derived.Test.YthjdmekelohchaaDkV
import Derived.Test.YthjdmekelohchaaPrt
namespace Go.Proofs.Ythjdmekelohchaa
open Go.RowKit

def sX : ByteArray := { data := #[120] }
def sY : ByteArray := { data := #[121] }
theorem sX_may : may sX = true := by decide +kernel
theorem sY_may : may sY = true := by decide +kernel
/-- Another disk. -/
def OtherD (d N : Nat) (S : Dk) : World → (Nat → Prop) → Prop := fun W G => ∃ O, DkIs W O d N S ∧ ∀ i, G i ↔ O i ≠ none
theorem otherD (d N : Nat) (S : Dk) : Obj2 (OtherD d N S) :=
  ⟨fun ⟨O1, h1, h2⟩ hb hd => ⟨O1, h1.off hb fun i hi => hd i ((h2 i).2 hi), h2⟩, fun ⟨_, h1, h2⟩ i hi => h1.low i ((h2 i).1 hi)⟩
theorem Mine.swap {w0 W : World} {d N e M : Nat} {S T : Dk} {xs : List (Option Addr × List UInt8)} (h : Mine w0 W d N S (OtherD e M T) xs) : Mine w0 W e M T (OtherD d N S) xs := by
  obtain ⟨O, G, h1, ⟨O2, h2, h3⟩, h4, h5, h6, h7, h8⟩ := h
  refine ⟨O2, fun i => O i ≠ none, h2, ⟨O, h1, fun _ => Iff.rfl⟩, fun i hi => ?_, fun i hi => h6 i ((h3 i).2 hi), fun i hi => h5 i hi, h7, fun p hp => (h8 p hp).mono fun i _ h => ⟨?_, fun h' => h' h.1⟩⟩
  · cases hq : O2 i with
    | none => rfl
    | some y => exact absurd (h4 i ((h3 i).2 (by rw [hq]; simp))) hi
  · cases hq : O2 i with
    | none => rfl
    | some y => exact absurd ((h3 i).2 (by rw [hq]; simp)) h.2
/-- A second disk. -/
theorem mine_second {w0 W : World} {d N : Nat} {S : Dk} {xs : List (Option Addr × List UInt8)} (h : Mine w0 W d N S NoObj xs) (room : Nat) (h1 : 64 ≤ room) (h2 : room ≤ 1048576) :
    Calls Try.prog 8 #[.int .i64 (room : Int)] W fun e w' => ∃ e', e = .returned (.tuple #[.pointer (some ⟨e', 0, none⟩), .int .i64 0]) ∧ Mine w0 w' d N S (OtherD e' 0 ⟨room, true, 1, []⟩) xs := by
  refine (dnew_ok W room h1 h2).mono ?_
  rintro e w' ⟨e', O2, rfl, h3, h4, h5⟩
  obtain ⟨O, G, h7, h8, h9, h10, h11, h12, h13⟩ := h
  have hof : Off (fun _ => False) W w' := Off.of_below h5 fun i a b => by omega
  have hO2 : ∀ i, O2 i ≠ none → W.heap.size ≤ i := fun i hi => by
    rcases h4 i hi with h | h
    · exact absurd rfl h
    · exact h
  refine ⟨e', rfl, O, fun i => O2 i ≠ none, h7.off hof fun _ _ h => h, ⟨O2, h3, fun _ => Iff.rfl⟩, fun i hi => ?_, h10, fun i hi => Nat.le_trans h12.size (hO2 i hi), hof.below h12 (fun _ h => h.elim) h12.size, fun p hp => ?_⟩
  · cases hq : O i with
    | none => rfl
    | some y => have := h7.low i (by rw [hq]; simp); have := hO2 i hi; omega
  · have h14 : BytF W (fun i => O i = none ∧ i < W.heap.size) p.1 p.2 := (h13 p hp).mono fun i hi h => ⟨h.1, hi⟩
    exact (h14.off hof fun _ _ _ h => h).mono fun i _ h => ⟨h.1, fun h' => by have := hO2 i h'; omega⟩
theorem Mine.one {w0 W : World} {d N : Nat} {S : Dk} {P : World → (Nat → Prop) → Prop} {xs : List (Option Addr × List UInt8)} (h : Mine w0 W d N S P xs) : One S.C := by
  obtain ⟨O, G, ⟨⟨m, L, h1, h2⟩, _⟩, _⟩ := h
  rw [← h2]; exact h1.one.onL _
/-- What is asked of a disk on the way. -/
structure Goes (S : Dk) (z : Nat) : Prop where
  on : S.on = true
  room : S.room = 10000
  lives : S.lives = 1
  size : S.size ≤ z
theorem goes_appE {S : Dk} {z n : Nat} {s : ByteArray} (h : Goes S z) (hs : may s = true) (hn : z + n ≤ 10000) : appE S s n = 0 := by
  have hr : readyE S.on s = 0 := by rw [h.on]; simp [readyE, hs]
  have := h.size
  unfold appE
  rw [if_pos hr, h.room, if_neg (by omega)]
theorem getL_putW (C : List (ByteArray × Fl)) (s t : ByteArray) (l : List UInt8) : getL (putW C s l) t = if t = s then some (((getL C s).getD ⟨[], []⟩).write l) else getL C t := by
  unfold putW
  cases hg : getL C s with
  | some f =>
    rw [if_pos (show (some f).isSome = true from rfl), getL_upd, hg]; rfl
  | none =>
    rw [if_neg (by simp), getL_app, getL_cons, getL_nil]
    by_cases h : t = s
    · subst h; rw [hg]; simp
    · have h2 : ¬ s = t := fun e => h e.symm
      simp [h, h2]
theorem putW_size {C : List (ByteArray × Fl)} (h1 : One C) (s : ByteArray) (l : List UInt8) : sumL fsz (putW C s l) = sumL fsz C + l.length := by
  unfold putW
  cases hg : getL C s with
  | some f =>
    rw [if_pos (show (some f).isSome = true from rfl)]
    have h2 := sumL_upd fsz h1 hg (·.write l)
    have h3 : fsz (f.write l) = fsz f + l.length := by unfold fsz; rw [write_all, List.length_append]
    rw [h3] at h2; omega
  | none =>
    rw [if_neg (by simp), sumL_app]
    have h3 : fsz ((⟨[], []⟩ : Fl).write l) = l.length := by unfold fsz; rw [write_all]; rfl
    simp [sumL, h3]
theorem goes_app {S : Dk} {z : Nat} {s : ByteArray} {l : List UInt8} (h : Goes S z) (h1 : One S.C) (hs : may s = true) (hn : z + l.length ≤ 10000) : Goes (S.app s l) (z + l.length) ∧ (S.app s l).C = putW S.C s l := by
  have e : S.app s l = { S with C := putW S.C s l } := by
    unfold Dk.app; rw [if_pos (goes_appE h hs hn)]
  rw [e]
  refine ⟨⟨h.on, h.room, h.lives, ?_⟩, rfl⟩
  have h2 := putW_size h1 s l
  have h3 := h.size
  show sumL fsz (putW S.C s l) ≤ z + l.length
  unfold Dk.size at h3
  omega
theorem same_read {S T : Dk} {s : ByteArray} (h1 : S.on = T.on) (h2 : getL S.C s = getL T.C s) : askE S s = askE T s ∧ readB S s = readB T s := by
  have e : askE S s = askE T s := by unfold askE; rw [h1, h2]
  refine ⟨e, ?_⟩
  unfold readB
  rw [e, h2]
theorem crs_get {S T : Dk} {s : ByteArray} (keep tn : Nat) (h : getL S.C s = getL T.C s) : getL (S.crs keep tn).awake.C s = getL (T.crs keep tn).awake.C s := by
  simp only [Dk.crs, Dk.awake, getL_onL, h]
theorem sXY : ¬ sX = sY := by decide +kernel

set_option maxRecDepth 100000 in
set_option maxHeartbeats 2000000 in
theorem walk_DiskApart (w : World) (B : Option Addr) (ps : List (List UInt8)) (m cB : Nat) (hps : Prt w w.heap.size B ps) (hpl : ps.length = m) (_ : m ≤ cB) (A : Option Addr) (b : List UInt8) (n c : Nat) (hb : Byt w w.heap.size A b) (hbl : b.length = n) (_ : n ≤ c)
    (keep : Nat) (hk : keep < 18446744073709551616) (torn : Int) (htw : (Lit.int .i64 torn).wf = true) :
    Calls Try.prog 6 #[.slice B m cB, .slice A n c, .int .u64 (keep : Int), .int .i64 torn] w fun e w' => e = .returned (.bool true) ∧ Below w.heap.size w w' := by
  have HBL := Lib.hid hbl
  have HPL := Lib.hid hpl
  clear hbl hpl
  have ht : -9223372036854775808 ≤ torn ∧ torn < 9223372036854775808 := by
    have h : -9223372036854775808 ≤ torn ∧ torn ≤ 9223372036854775807 := by simpa [Lit.wf, IntKind.min, IntKind.max, IntKind.signed, IntKind.bits] using htw
    omega
  by_cases hm10 : m ≤ 10
  · by_cases hn1 : n ≤ 100
    · have hm10' : ¬ (10 : Int) < (m : Int) := by omega
      have hn1' : ¬ (100 : Int) < (n : Int) := by omega
      go_enter Try.func6, Try.ntmps6
      go_wp2_with fail
      refine (awake13_any w).mono ?_
      rintro e w0 ⟨rfl, hb0⟩
      have hn0 := mine_new w0 10000 (by decide) (by decide)
      go_wp2_with fail
      refine hn0.mono ?_
      rintro e w1 ⟨d, rfl, hM0⟩
      clear hn0
      have hn0 := mine_second hM0 10000 (by decide) (by decide)
      go_wp2_with fail
      refine hn0.mono ?_
      rintro e w2 ⟨d2, rfl, hM1⟩
      clear hn0 hM0
      have hb1 : Byt w0 w0.heap.size A b := (hb.below hb0).up hb0.size
      have hps0 : Prt w0 w0.heap.size B ps := (hps.below hb0).up hb0.size
      have HM2 := Lib.hid (hM1.arg hb1)
      clear hM1 hps hb
      go_wp2
      go_loopw [13] (fun i wr => ∃ (k N M : Nat) (S T : Dk), i = .int .i64 (k : Int) ∧ k ≤ m ∧ Hid (N ≤ 100 + 2 * k ∧ M ≤ 100 + k) ∧ Hid (Goes S (200 * k)) ∧ Hid (Goes T (100 * k)) ∧ Vlt (getL S.C sX = getL T.C sX) ∧ Hid (Mine w0 wr d N S (OtherD d2 M T) [(A, b)])) (fun i _ => m - (intOf i).toNat)
      case atStart => exact ⟨0, 0, 0, _, _, rfl, Nat.zero_le _, Lib.hid (by decide), Lib.hid ⟨rfl, rfl, rfl, Nat.le_refl _⟩, Lib.hid ⟨rfl, rfl, rfl, Nat.le_refl _⟩, vlt rfl, HM2⟩
      case round =>
        obtain ⟨k, N, M, S, T, rfl, hkm, hNM, hS, hT, hST, hM⟩ := hrel
        clear HM2
        by_cases hlt : k < m
        · obtain ⟨g, o, Aj, nj, cj, p, rfl, hblt, hcell, hget, hpl, hle, hbp⟩ := hps0.at_ (k := k) (by rw [HPL.out]; exact hlt)
          have hcr : wr.cell? ⟨g, o + k, none⟩ = some (.slice Aj nj cj) := (hM.out.bel.cell (p := ⟨g, o + k, none⟩) hblt).trans hcell
          have hbw := below_next hb0 hb0.size hM.out.bel
          by_cases h100 : nj ≤ 100
          · have h100' : ¬ (100 : Int) < (nj : Int) := by omega
            have hplo := hpl.out
            have hc := mine_append (otherD d2 M T) (hM.out.arg hbp) sX (by decide) Aj p nj cj List.mem_cons_self hplo (by omega) (by have := hNM.out.1; omega)
            rw [goes_appE hS.out sX_may (by omega)] at hc
            go_wp2_with fail
            refine hc.mono ?_
            rintro e w5 ⟨rfl, hM5⟩
            clear hc
            have hS5 := goes_app (l := p) hS.out hM.out.one sX_may (by omega)
            have hcr5 : w5.cell? ⟨g, o + k, none⟩ = some (.slice Aj nj cj) := (hM5.bel.cell (p := ⟨g, o + k, none⟩) hblt).trans hcell
            have hc := mine_append (otherD d (N + 1) (S.app sX p)) hM5.swap sX (by decide) Aj p nj cj List.mem_cons_self hplo (by omega) (by have := hNM.out.2; omega)
            rw [goes_appE hT.out sX_may (by omega)] at hc
            have hT5 := goes_app (l := p) hT.out hM5.swap.one sX_may (by omega)
            clear hcr
            go_wp2_with fail
            refine hc.mono ?_
            rintro e w6 ⟨rfl, hM6⟩
            clear hc hM5 hcr5
            have hM7 := hM6.swap
            have hc := mine_append (otherD d2 (M + 1) (T.app sX p)) hM7 sY (by decide) A b n c (by simp) HBL.out (by omega) (by have := hNM.out.1; omega)
            rw [goes_appE hS5.1 sY_may (by omega)] at hc
            have hS6 := goes_app (l := b) hS5.1 hM7.one sY_may (by rw [HBL.out]; omega)
            go_wp2_with fail
            refine hc.mono ?_
            rintro e w7 ⟨rfl, hM8⟩
            clear hc hM6 hM7
            have HM8 := Lib.hid (hM8.fewer (ys := [(A, b)]) (by simp))
            have HN := Lib.hid (show N + 1 + 1 ≤ 100 + 2 * (k + 1) ∧ M + 1 ≤ 100 + (k + 1) by have := hNM.out; omega)
            have HS := Lib.hid (show Goes ((S.app sX p).app sY b) (200 * (k + 1)) from ⟨hS6.1.on, hS6.1.room, hS6.1.lives, Nat.le_trans hS6.1.size (by rw [HBL.out]; omega)⟩)
            have HT := Lib.hid (show Goes (T.app sX p) (100 * (k + 1)) from ⟨hT5.1.on, hT5.1.room, hT5.1.lives, Nat.le_trans hT5.1.size (by omega)⟩)
            have HST := vlt (show getL ((S.app sX p).app sY b).C sX = getL (T.app sX p).C sX by
              rw [hS6.2, getL_putW, if_neg sXY, hS5.2, hT5.2, getL_putW, getL_putW, if_pos rfl, if_pos rfl, hST.out])
            clear hM8 hS5 hS6 hT5 hS hT hST hNM hM
            go_wp2
            go_roundw
            case rel => exact ⟨k + 1, N + 1 + 1, M + 1, _, _, by go_num, by omega, HN, HS, HT, HST, HM8⟩
            case measure => simp [intOf]; omega
          · have h100' : (100 : Int) < (nj : Int) := by omega
            clear hM hS hT hST hNM
            go_wp2
            go_ret
            exact ⟨rfl, hbw⟩
        · obtain rfl : k = m := by omega
          have hc := mine_crash (otherD d2 M T) hM.out keep torn.toNat torn hk rfl ht.2 ht.1
          go_wp2_with fail
          refine hc.mono ?_
          rintro e w5 ⟨rfl, hM5⟩
          clear hc
          have hc := mine_crash (otherD d (N + 1) (S.crs keep torn.toNat)) hM5.swap keep torn.toNat torn hk rfl ht.2 ht.1
          go_wp2_with fail
          refine hc.mono ?_
          rintro e w6 ⟨rfl, hM6⟩
          clear hc hM5
          have hM7 := hM6.swap
          have hc := mine_on (otherD d2 (M + 1) (T.crs keep torn.toNat)) hM7 (show S.lives ≤ _ by rw [hS.out.lives]; decide)
          go_wp2_with fail
          refine hc.mono ?_
          rintro e w7 ⟨rfl, hM8⟩
          clear hc hM6 hM7
          have hc := mine_on (otherD d (N + 1 + 1) (S.crs keep torn.toNat).awake) hM8.swap (show T.lives ≤ _ by rw [hT.out.lives]; decide)
          go_wp2_with fail
          refine hc.mono ?_
          rintro e w8 ⟨rfl, hM9⟩
          clear hc hM8
          obtain ⟨S2, hS2⟩ : ∃ S2, S2 = (S.crs keep torn.toNat).awake := ⟨_, rfl⟩
          obtain ⟨T2, hT2⟩ : ∃ T2, T2 = (T.crs keep torn.toNat).awake := ⟨_, rfl⟩
          have hsame := same_read (S := S2) (T := T2) (s := sX) (by rw [hS2, hT2]; rfl) (by rw [hS2, hT2]; exact crs_get _ _ hST.out)
          rw [← hS2, ← hT2] at hM9
          have hM10 := hM9.swap
          have hc := mine_read (otherD d2 (M + 1 + 1) T2) hM10 sX (by decide)
          rw [hsame.1, hsame.2] at hc
          clear hS2 hT2 hM hS hT hST
          obtain ⟨v, hv⟩ : ∃ v, v = askE T2 sX := ⟨_, rfl⟩
          rw [← hv] at hc
          have HV := vlt hv
          clear hv hsame
          go_wp2_with fail
          refine hc.mono ?_
          rintro e w9 ⟨Ax, nx, cx, x, rfl, hx, hxn, _, hM11, _⟩
          clear hc hM9 hM10
          have hc := mine_read (otherD d (N + 1 + 1) S2) hM11.swap sX (by decide)
          rw [← HV.out] at hc
          go_wp2_with fail
          refine hc.mono ?_
          rintro e w10 ⟨Ay, ny, cy, y, rfl, hy, hyn, _, hM12, _⟩
          have hxy : x = y := by rw [hx.out, hy.out]
          subst hxy
          have hxb := hM12.byt (p := (Ax, x)) (by simp)
          have hyb := hM12.byt (p := (Ay, x)) List.mem_cons_self
          simp only at hxb hyb
          have hcx := conv_bytes (P := Try.prog) Try.underlying28 Try.underlying5 Try.underlying9 hxb nx cx hxn.out
          have hcy := conv_bytes (P := Try.prog) Try.underlying28 Try.underlying5 Try.underlying9 hyb ny cy hyn.out
          have hbel := below_next hb0 hb0.size hM12.bel
          clear hc hM11 hM12 hx hy hxb hyb HV
          go_wp2
          go_ret
          exact ⟨rfl, hbel⟩
    · have hm10' : ¬ (10 : Int) < (m : Int) := by omega
      have hn1' : (100 : Int) < (n : Int) := by omega
      go_enter Try.func6, Try.ntmps6
      go_wp2_with fail
      refine (awake13_any w).mono ?_
      rintro e w0 ⟨rfl, hb0⟩
      go_wp2
      go_ret
      exact ⟨rfl, hb0⟩
  · have hm10' : (10 : Int) < (m : Int) := by omega
    go_enter Try.func6, Try.ntmps6
    go_wp2_with fail
    refine (awake13_any w).mono ?_
    rintro e w0 ⟨rfl, hb0⟩
    go_wp2
    go_ret
    exact ⟨rfl, hb0⟩
end Go.Proofs.Ythjdmekelohchaa
