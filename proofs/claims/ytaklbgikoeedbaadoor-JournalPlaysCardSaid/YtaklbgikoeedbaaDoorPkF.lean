/-
  Words and contracts that other texts share, several in one text. No statement of the seat is proved here. Conditions: as each contract says.
  The contract of a law's own comparison of two lists of lists. Conditions: none.
  A journal in a law: its calls, where all goes well. Conditions: as each says.
  Law 14's own word (awake): it answers true. No statement is proved here. Conditions: none.
  A journal in a law, behind a crash: what an elder one answers. Conditions: as each says.
  Lists of lists in a law about journals: arguments, append, pieces; bounds of records. No statement is proved here. Conditions: none.
  Arrays as arguments: how the row's reading tells them. No statement is proved here. Conditions: none.
  A list of lists of bytes as an argument: how the row's reading tells it. No statement is proved here. Conditions: none.
  What the rows of stage 14 list is not looked at by the walks. No statement is proved here. Conditions: none.
-/
import Derived.Test.YtaklbgikoeedbaaDoorPkE
import Derived.Test.YtaklbgikoeedbaaDoorPkA
import Derived.ProofKit
import Derived.LaidMore
import Derived.OpenShut
import Derived.Stop.Joined
import Derived.Test.YtaklbgikoeedbaaDoorPkC
import Derived.ChangeSlices
import Derived.Test.YtaklbgikoeedbaaDoorRows
namespace Go.Proofs.YtaklbgikoeedbaaDoor
open Go.RowKit

theorem Prt.drewN {w : World} {B : Nat} {A : Option Addr} {ps : List (List UInt8)} (h : Prt w B A ps) (k : Nat) : Prt (w.drewN k) B A ps := h
theorem drewN_drew (w : World) (k : Nat) : (w.drewN k).drew = w.drewN (k + 1) := rfl
theorem arr_ne {p q : List UInt8} (h : ¬ p = q) : ¬ (⟨p.toArray⟩ : ByteArray) = ⟨q.toArray⟩ := fun e => h (by injection e with e; exact congrArg Array.toList e)
theorem same_step {ps qs : List (List UInt8)} {k : Nat} {p q : List UInt8} (h : ps.take k = qs.take k) (hp : ps[k]? = some p) (hq : qs[k]? = some q) (e : p = q) : ps.take (k + 1) = qs.take (k + 1) := by
  rw [List.take_add_one, List.take_add_one, hp, hq, h, e]
set_option maxRecDepth 100000 in
set_option maxHeartbeats 1000000 in
theorem same_any (W : World) (A B : Option Addr) (ps qs : List (List UInt8)) (n c m e : Nat) (hA : Prt W W.heap.size A ps) (hn : ps.length = n) (hB : Prt W W.heap.size B qs) (hm : qs.length = m) (hbn : n ≤ 1099511627776) :
    Calls Tryd.prog 20 #[.slice A n c, .slice B m e] W fun e w' => e = .returned (.bool (decide (ps = qs))) ∧ ∃ k, w' = W.drewN k := by
  have HN := Lib.hid hn
  have HM := Lib.hid hm
  by_cases hnm : n = m
  · subst hnm
    clear hn hm
    go_enter Tryd.func20, Tryd.ntmps20
    go_wp2
    go_loopw [5] (fun i wr => ∃ k z : Nat, i = .int .i64 (k : Int) ∧ k ≤ n ∧ Vlt (ps.take k = qs.take k) ∧ wr = W.drewN z) (fun i _ => n - (intOf i).toNat)
    case atStart => exact ⟨0, 0, rfl, Nat.zero_le _, vlt rfl, rfl⟩
    case round =>
      obtain ⟨k, z, rfl, hk, heq, rfl⟩ := hrel
      by_cases hlt : k < n
      · obtain ⟨b1, o1, A1, n1, c1, p, rfl, h1lt, h1c, h1p, h1l, h1n, h1b⟩ := hA.at_ (k := k) (by rw [HN.out]; exact hlt)
        obtain ⟨b2, o2, A2, n2, c2, q, rfl, h2lt, h2c, h2p, h2l, h2n, h2b⟩ := hB.at_ (k := k) (by rw [HM.out]; exact hlt)
        have hki : ((k : Int)) < (n : Int) := by omega
        go_upto_region 6 with fail
        refine wp_region_held_drew (S := (fun W' => W'.cell? ⟨b1, o1 + k, none⟩ = some (.slice A1 n1 c1) ∧ W'.cell? ⟨b2, o2 + k, none⟩ = some (.slice A2 n2 c2) ∧ Byt W' W.heap.size A1 p ∧ Byt W' W.heap.size A2 q)) (by kernel_rfl) (⟨h1c,h2c,h1b,h2b⟩) (fun hHeld => ?_)
        refine wpAnyH_take (i := 0) (oi := ⟨(some 17), _, _, _, _, _⟩) (v := ?vq1_0) rfl (by kernel_rfl) (by kernel_rfl) (by kernel_rfl) (fun _ _ _ h => h) (Or.inl ⟨by rfl, ?yq1_0⟩) hHeld ?_
        case yq1_0 => (intro W0 hSw; go_simp; try with_reducible rfl)
        try simp only [Act.put, List.setIfInBounds_toArray, List.set_cons_zero, List.set_cons_succ]
        refine wpAnyH_take (i := 1) (oi := ⟨(some 18), _, _, _, _, _⟩) (v := ?vq1_1) rfl (by kernel_rfl) (by kernel_rfl) (by kernel_rfl) (fun _ _ _ h => h) (Or.inl ⟨by rfl, ?yq1_1⟩) hHeld ?_
        case yq1_1 => (intro W0 hSw; go_simp; try with_reducible rfl)
        try simp only [Act.put, List.setIfInBounds_toArray, List.set_cons_zero, List.set_cons_succ]
        refine wpAnyH_take (i := 2) (oi := ⟨(some 19), _, _, _, _, _⟩) (v := ?vq1_2) rfl (by kernel_rfl) (by kernel_rfl) (by kernel_rfl) (fun _ _ _ h => h) (Or.inl ⟨by rfl, ?yq1_2⟩) hHeld ?_
        case yq1_2 => (intro W0 hSw; go_simp; try with_reducible rfl)
        try simp only [Act.put, List.setIfInBounds_toArray, List.set_cons_zero, List.set_cons_succ]
        refine wpAnyH_take (i := 3) (oi := ⟨(some 20), _, _, _, _, _⟩) (v := ?vq1_3) rfl (by kernel_rfl) (by kernel_rfl) (by kernel_rfl) (fun _ _ _ h => h) (Or.inl ⟨by rfl, ?yq1_3⟩) hHeld ?_
        case yq1_3 => (intro W0 hSw; go_simp; try with_reducible rfl)
        try simp only [Act.put, List.setIfInBounds_toArray, List.set_cons_zero, List.set_cons_succ]
        refine wpAnyH_take (i := 4) (oi := ⟨(some 21), _, _, _, _, _⟩) (v := ?vq1_4) rfl (by kernel_rfl) (by kernel_rfl) (by kernel_rfl) (fun _ _ _ h => h) (Or.inl ⟨by rfl, ?yq1_4⟩) hHeld ?_
        case yq1_4 => (intro W0 hSw; have hcx := conv_bytes (P := Tryd.prog) Tryd.underlying31 Tryd.underlying5 Tryd.underlying9 hSw.2.2.1 n1 c1 h1l.out; go_simp; try with_reducible rfl)
        try simp only [Act.put, List.setIfInBounds_toArray, List.set_cons_zero, List.set_cons_succ]
        refine wpAnyH_take (i := 5) (oi := ⟨(some 22), _, _, _, _, _⟩) (v := ?vq1_5) rfl (by kernel_rfl) (by kernel_rfl) (by kernel_rfl) (fun _ _ _ h => h) (Or.inl ⟨by rfl, ?yq1_5⟩) hHeld ?_
        case yq1_5 => (intro W0 hSw; go_simp; try with_reducible rfl)
        try simp only [Act.put, List.setIfInBounds_toArray, List.set_cons_zero, List.set_cons_succ]
        refine wpAnyH_take (i := 6) (oi := ⟨(some 23), _, _, _, _, _⟩) (v := ?vq1_6) rfl (by kernel_rfl) (by kernel_rfl) (by kernel_rfl) (fun _ _ _ h => h) (Or.inl ⟨by rfl, ?yq1_6⟩) hHeld ?_
        case yq1_6 => (intro W0 hSw; go_simp; try with_reducible rfl)
        try simp only [Act.put, List.setIfInBounds_toArray, List.set_cons_zero, List.set_cons_succ]
        refine wpAnyH_take (i := 7) (oi := ⟨(some 24), _, _, _, _, _⟩) (v := ?vq1_7) rfl (by kernel_rfl) (by kernel_rfl) (by kernel_rfl) (fun _ _ _ h => h) (Or.inl ⟨by rfl, ?yq1_7⟩) hHeld ?_
        case yq1_7 => (intro W0 hSw; go_simp; try with_reducible rfl)
        try simp only [Act.put, List.setIfInBounds_toArray, List.set_cons_zero, List.set_cons_succ]
        refine wpAnyH_take (i := 8) (oi := ⟨(some 25), _, _, _, _, _⟩) (v := ?vq1_8) rfl (by kernel_rfl) (by kernel_rfl) (by kernel_rfl) (fun _ _ _ h => h) (Or.inl ⟨by rfl, ?yq1_8⟩) hHeld ?_
        case yq1_8 => (intro W0 hSw; go_simp; try with_reducible rfl)
        try simp only [Act.put, List.setIfInBounds_toArray, List.set_cons_zero, List.set_cons_succ]
        refine wpAnyH_take (i := 9) (oi := ⟨(some 26), _, _, _, _, _⟩) (v := ?vq1_9) rfl (by kernel_rfl) (by kernel_rfl) (by kernel_rfl) (fun _ _ _ h => h) (Or.inl ⟨by rfl, ?yq1_9⟩) hHeld ?_
        case yq1_9 => (intro W0 hSw; have hcx := conv_bytes (P := Tryd.prog) Tryd.underlying31 Tryd.underlying5 Tryd.underlying9 hSw.2.2.2 n2 c2 h2l.out; go_simp; try with_reducible rfl)
        try simp only [Act.put, List.setIfInBounds_toArray, List.set_cons_zero, List.set_cons_succ]
        refine wpAnyH_take (i := 10) (oi := ⟨(some 27), _, _, _, _, _⟩) (v := ?vq1_10) rfl (by kernel_rfl) (by kernel_rfl) (by kernel_rfl) (fun _ _ _ h => h) (Or.inl ⟨by rfl, ?yq1_10⟩) hHeld ?_
        case yq1_10 => (intro W0 hSw; go_simp; try with_reducible rfl)
        try simp only [Act.put, List.setIfInBounds_toArray, List.set_cons_zero, List.set_cons_succ]
        refine wpAnyH_done (by kernel_rfl) ?_ _
        clear hHeld
        by_cases hpq : p = q
        · have heq2 : Vlt (ps.take (k + 1) = qs.take (k + 1)) := vlt (same_step heq.out h1p.out h2p.out hpq)
          have hb : (p == q) = true := by rw [hpq]; simp
          rw [hb]
          clear heq hpq hb
          go_wp2
          go_roundw
          case rel => exact ⟨k + 1, z + 1, by go_num, by omega, heq2, rfl⟩
          case measure => simp [intOf]; omega
        · have hne : Vlt (decide (ps = qs) = false) := vlt (by
            rw [decide_eq_false_iff_not]
            intro e
            have h1 := h1p.out
            rw [e, h2p.out] at h1
            injection h1 with h1
            exact hpq h1.symm)
          have hb : (p == q) = false := by simp [hpq]
          rw [hb]
          clear heq hpq hb
          go_wp2
          go_ret
          exact ⟨by rw [hne.out]; rfl, z + 1, rfl⟩
      · obtain rfl : k = n := by omega
        have hall : Vlt (decide (ps = qs) = true) := vlt (by
          have h := heq.out
          rw [List.take_of_length_le (by rw [HN.out]; exact Nat.le_refl _), List.take_of_length_le (by rw [HM.out]; exact Nat.le_refl _)] at h
          simp [h])
        clear heq
        go_wp2
        go_ret
        exact ⟨by rw [hall.out]; rfl, z, rfl⟩
  · have hne : Vlt (decide (ps = qs) = false) := vlt (by
      rw [decide_eq_false_iff_not]
      intro h
      exact hnm (by rw [← hn, ← hm, h]))
    have hnm' : ¬ (n : Int) = (m : Int) := by omega
    clear hn hm hA hB
    go_enter Tryd.func20, Tryd.ntmps20
    go_wp2
    go_ret
    exact ⟨by rw [hne.out]; rfl, 0, rfl⟩
end Go.Proofs.YtaklbgikoeedbaaDoor
namespace Go.Proofs.YtaklbgikoeedbaaDoor
open Go.RowKit

/-- A journal at j of the disk at d that a law has made: at most NB calls, B bytes, its last file's number at most LB. -/
def Lw (w0 W : World) (j d room NB B LB : Nat) (base : List UInt8) (recs : Rcs) (safe : Nat) (K : World → (Nat → Prop) → Prop) : Prop :=
  ∃ N S J, N ≤ NB ∧ S.lives ≤ NB + 1 ∧ Hold w0 W d N S (JnOb j d J) K ∧ JI S J safe ∧ S.room = room ∧ S.size ≤ B ∧ J.base = base ∧ J.recs = recs ∧ J.last ≤ LB
/-- Without power; with power, and not opened yet. -/
def Lc (w0 W : World) (j d room NB B LB : Nat) (base : List UInt8) (recs : Rcs) (safe keep tn : Nat) (K : World → (Nat → Prop) → Prop) : Prop :=
  ∃ N S J, N ≤ NB ∧ S.lives ≤ NB + 1 ∧ Hold w0 W d N (S.crs keep tn) (JnOb j d J) K ∧ JI S J safe ∧ S.room = room ∧ S.size ≤ B ∧ J.base = base ∧ J.recs = recs ∧ J.last ≤ LB
def Lo (w0 W : World) (d room NB B LB : Nat) (base : List UInt8) (recs : Rcs) (K : World → (Nat → Prop) → Prop) : Prop :=
  ∃ N S k hd bs fs, N ≤ NB ∧ S.lives ≤ NB + 1 ∧ Hold w0 W d N S NoObj K ∧ OI S base recs k hd bs fs ∧ S.room = room ∧ S.size ≤ B ∧ k ≤ LB
section
variable {w0 W W' : World} {j d room NB B LB safe : Nat} {base : List UInt8} {recs : Rcs} {K K2 : World → (Nat → Prop) → Prop}
theorem Lw.next (hK : Kp K) (h : Lw w0 W j d room NB B LB base recs safe K) (hb : Below W.heap.size W W') : Lw w0 W' j d room NB B LB base recs safe K := by
  obtain ⟨N, S, J, h1, h2, h3, h4⟩ := h
  exact ⟨N, S, J, h1, h2, h3.next (jnOb _ _ _) hK hb, h4⟩
theorem Lw.drewN (hK : Kp K) (h : Lw w0 W j d room NB B LB base recs safe K) (k : Nat) : Lw w0 (W.drewN k) j d room NB B LB base recs safe K := by
  obtain ⟨N, S, J, h1, h2, h3, h4⟩ := h
  exact ⟨N, S, J, h1, h2, h3.drewN (jnOb _ _ _) hK k, h4⟩
theorem Lw.weak (h : Lw w0 W j d room NB B LB base recs safe K) (hk : ∀ W F, K W F → K2 W F) : Lw w0 W j d room NB B LB base recs safe K2 := by
  obtain ⟨N, S, J, h1, h2, h3, h4⟩ := h
  exact ⟨N, S, J, h1, h2, h3.weak hk, h4⟩
theorem Lw.fresh (hK : Kp K) (h : Lw w0 W j d room NB B LB base recs safe K) (hb : Below W.heap.size W W') (hK2 : Kp K2) (hk : K2 W' (fun i => W.heap.size ≤ i)) : Lw w0 W' j d room NB B LB base recs safe (KAnd K K2) := by
  obtain ⟨N, S, J, h1, h2, h3, h4⟩ := h
  exact ⟨N, S, J, h1, h2, h3.fresh (jnOb _ _ _) hK hb hK2 hk, h4⟩
theorem Lw.fresh2 (hK : Kp K) (h : Lw w0 W j d room NB B LB base recs safe K) (hb : Below W.heap.size W W') (hk : ∀ F : Nat → Prop, K W' F → (∀ i, W.heap.size ≤ i → F i) → K2 W' F) : Lw w0 W' j d room NB B LB base recs safe (KAnd K K2) := by
  obtain ⟨N, S, J, h1, h2, h3, h4⟩ := h
  exact ⟨N, S, J, h1, h2, h3.fresh2 (jnOb _ _ _) hK hb hk, h4⟩
theorem Lw.old (h : Lw w0 W j d room NB B LB base recs safe K) (hK2 : Kp K2) (hk : K2 W (fun i => i < w0.heap.size)) : Lw w0 W j d room NB B LB base recs safe (KAnd K K2) := by
  obtain ⟨N, S, J, h1, h2, h3, h4⟩ := h
  exact ⟨N, S, J, h1, h2, h3.old hK2 hk, h4⟩
theorem Lw.more {NB' B' LB' : Nat} (h : Lw w0 W j d room NB B LB base recs safe K) (h1 : NB ≤ NB') (h2 : B ≤ B') (h3 : LB ≤ LB') : Lw w0 W j d room NB' B' LB' base recs safe K := by
  obtain ⟨N, S, J, h4, h5, h6, h7, h8, h9, h10, h11, h12⟩ := h
  exact ⟨N, S, J, by omega, by omega, h6, h7, h8, by omega, h10, h11, by omega⟩
theorem Lw.bel (h : Lw w0 W j d room NB B LB base recs safe K) : Below w0.heap.size w0 W := by
  obtain ⟨N, S, J, h1, h2, h3, h4⟩ := h
  exact h3.bel
theorem Lw.data (hK : Kp K) (h : Lw w0 W j d room NB B LB base recs safe K) : K W (fun _ => True) := by
  obtain ⟨N, S, J, h1, h2, h3, h4⟩ := h
  exact h3.data hK
theorem Lw.ok (h : Lw w0 W j d room NB B LB base recs safe K) : lenOk recs := by
  obtain ⟨N, S, J, h4, h5, h6, h7, h8, h9, h10, h11, h12⟩ := h
  rw [← h11]; exact h7.ok
theorem lw_add (hK : Kp K) (h : Lw w0 W j d room NB B LB base recs safe K) (A : Option Addr) (ps : Rcs) (n c : Nat) (hp : ∀ W F, K W F → PrtF W F A ps) (hlen : ps.length = n) (hn : n ≤ 1048576) (hNB : NB ≤ 536870912) (hps : lenOk ps) (hrl : recs.length ≤ 1073741824) (hfit : B + (rb ps).length ≤ room) :
    Calls Tryd.prog 12 #[.pointer (some ⟨j, 0, none⟩), .slice A n c] W fun e w' => e = .returned (.int .i64 0) ∧ Lw w0 w' j d room (NB + 2 * n + 1) (B + (rb ps).length) LB base (recs ++ ps) safe K := by
  obtain ⟨N, S, J, h4, h5, h6, h7, h8, h9, h10, h11, h12⟩ := h
  obtain ⟨a1, a2, a3, a4, a5⟩ := h7.add ps hps (by rw [h8]; omega)
  refine (jadd_any hK h6 (by have := h7.few; omega) A ps n c hp hlen hn (by omega) (fun p hp => by have := hps p hp; omega) (by rw [h11]; exact hrl)).mono ?_
  rintro e w' ⟨rfl, h13⟩
  rw [a1, a2] at *
  exact ⟨rfl, _, _, _, by omega, by have := a3.lives; have := h7.lives; simp at *; omega, h13, a3, by rw [a5, h8], by omega, h10, by rw [← h11], h12⟩
theorem lw_sync (hK : Kp K) (h : Lw w0 W j d room NB B LB base recs safe K) :
    Calls Tryd.prog 15 #[.pointer (some ⟨j, 0, none⟩)] W fun e w' => e = .returned (.int .i64 0) ∧ Lw w0 w' j d room (NB + 1) B LB base recs recs.length K := by
  obtain ⟨N, S, J, h4, h5, h6, h7, h8, h9, h10, h11, h12⟩ := h
  obtain ⟨a1, a2, a3⟩ := h7.sync
  have hd := h7.done
  have hs := jsync_any hK h6 (by have := h7.few; omega)
  rw [hd, if_neg (by decide), if_neg (by decide)] at hs
  refine hs.mono ?_
  rintro e w' ⟨rfl, h13⟩
  exact ⟨rfl, _, _, _, by omega, by have := a1.lives; have := h7.lives; omega, h13, by rw [← h11]; exact a1, by rw [a3, h8], by omega, h10, h11, h12⟩
theorem lw_keep (hK : Kp K) (h : Lw w0 W j d room NB B LB base recs safe K) (A : Option Addr) (b : List UInt8) (n c : Nat) (hp : ∀ W F, K W F → BytF W F A b) (hlen : b.length = n) (hn : n ≤ 65536) (hNB : NB ≤ 536870912) (hfit : B + (4 + n) ≤ room) :
    Calls Tryd.prog 14 #[.pointer (some ⟨j, 0, none⟩), .slice A n c] W fun e w' => e = .returned (.int .i64 0) ∧ Lw w0 w' j d room (NB + 200) (4 + n) 0 b [] 0 K := by
  obtain ⟨N, S, J, h4, h5, h6, h7, h8, h9, h10, h11, h12⟩ := h
  obtain ⟨a1, a2, a3, a4, a5⟩ := h7.keep b (by omega) (by rw [h8]; omega)
  refine (jkeep_any hK h6 (by have := h7.few; omega) A b n c hp hlen (by omega) (by omega)).mono ?_
  rintro e w' ⟨rfl, h13⟩
  rw [a1, a2] at *
  exact ⟨rfl, _, _, _, by omega, by have := a3.lives; have := h7.lives; simp at *; omega, h13, a3, by rw [a5, h8], by omega, rfl, rfl, Nat.zero_le _⟩
theorem lw_done (hK : Kp K) (h : Lw w0 W j d room NB B LB base recs safe K) :
    Calls Tryd.prog 18 #[.pointer (some ⟨j, 0, none⟩)] W fun e w' => e = .returned (.bool false) ∧ (∃ k, w' = W.drewN k) ∧ Lw w0 w' j d room NB B LB base recs safe K := by
  have hh := h
  obtain ⟨N, S, J, h4, h5, h6, h7, h8⟩ := h
  refine (jdone_any h6).mono ?_
  rintro e w' ⟨rfl, k, rfl⟩
  exact ⟨by rw [h7.done], ⟨k, rfl⟩, hh.drewN hK k⟩
theorem lw_base (hK : Kp K) (h : Lw w0 W j d room NB B LB base recs safe K) (hb : base.length ≤ 1099511627776) :
    Calls Tryd.prog 19 #[.pointer (some ⟨j, 0, none⟩)] W fun e w' => ∃ A n c, e = .returned (.slice A n c) ∧ Byt w' w'.heap.size A base ∧ Hid (base.length = n) ∧ n ≤ c ∧ Below W.heap.size W w' ∧ Lw w0 w' j d room NB B LB base recs safe K := by
  have hh := h
  obtain ⟨N, S, J, h4, h5, h6, h7, h8, h9, h10, h11, h12⟩ := h
  subst h10
  refine (jbase_any hK h6 hb).mono ?_
  rintro e w' ⟨A, n, c, rfl, h13, h14, h15, h16, h17⟩
  exact ⟨A, n, c, rfl, h13, h14, h15, h16, hh.next hK h16⟩
theorem lw_all (hK : Kp K) (h : Lw w0 W j d room NB B LB base recs safe K) (hb : recs.length ≤ 1099511627776) :
    Calls Tryd.prog 13 #[.pointer (some ⟨j, 0, none⟩)] W fun e w' => ∃ m, e = .returned (.slice (some ⟨W.heap.size, 0, none⟩) m m) ∧ Hid (recs.length = m) ∧ (∃ vs, w'.heap[W.heap.size]? = some (.cells vs.toArray 31 (0, 0)) ∧ PL w' (fun i => W.heap.size < i) vs recs) ∧ Below W.heap.size W w' ∧ Lw w0 w' j d room NB B LB base recs safe K := by
  have hh := h
  obtain ⟨N, S, J, h4, h5, h6, h7, h8, h9, h10, h11, h12⟩ := h
  subst h11
  refine (jall_any hK h6 hb (fun p hp => by have := h7.ok p hp; omega)).mono ?_
  rintro e w' ⟨m, rfl, h13, h14, h15, h16⟩
  exact ⟨m, rfl, h13, h14, h15, hh.next hK h15⟩
/-- What All tells, as an argument. -/
theorem all_prt {m : Nat} (h : ∃ vs, W'.heap[m]? = some (.cells vs.toArray 31 (0, 0)) ∧ PL W' (fun i => m < i) vs recs) : Prt W' W'.heap.size (some ⟨m, 0, none⟩) recs := by
  obtain ⟨vs, h1, h2⟩ := h
  exact PrtF.prt ((h2.mono (G := fun i => m ≤ i) fun i _ h => by omega).prtF h1 (Nat.le_refl _))
theorem lw_crash (hK : Kp K) (h : Lw w0 W j d room NB B LB base recs safe K) (keep tn : Nat) (torn : Int) (hk : keep < 18446744073709551616) (ht : tn = torn.toNat) (ht2 : torn < 9223372036854775808) (ht3 : -9223372036854775808 ≤ torn) :
    Calls Tryd.prog 16 #[.pointer (some ⟨d, 0, none⟩), .int .u64 (keep : Int), .int .i64 torn] W fun e w' => e = .returned (.tuple #[]) ∧ Lc w0 w' j d room (NB + 1) B LB base recs safe keep tn K := by
  obtain ⟨N, S, J, h4, h5, h6, h7, h8⟩ := h
  refine (hold_crash (jnOb _ _ _) hK h6 keep tn torn hk ht ht2 ht3).mono ?_
  rintro e w' ⟨rfl, h13⟩
  exact ⟨rfl, _, S, J, by omega, by omega, h13, h7, h8⟩
theorem lc_on (hK : Kp K) {keep tn : Nat} (h : Lc w0 W j d room NB B LB base recs safe keep tn K) (hL : LB ≤ 96) (hNB : NB ≤ 1073741824) (hroom : room ≤ 1048576) :
    Calls Tryd.prog 17 #[.pointer (some ⟨d, 0, none⟩)] W fun e w' => e = .returned (.tuple #[]) ∧ ∃ n, safe ≤ n ∧ Vlt ((∀ i, stays keep i = false) → n = safe) ∧ n ≤ recs.length ∧ Lo w0 w' d room (NB + 1) B (LB + 1) base (recs.take n) K := by
  obtain ⟨N, S, J, h4, h5, h6, h7, h8, h9, h10, h11, h12⟩ := h
  obtain ⟨n, k, hd, bs, fs, ⟨c1, c2⟩, c3, c4, c5, c6⟩ := h7.crash keep tn (by omega) (by rw [h8]; exact hroom)
  refine (hold_on (jnOb _ _ _) hK h6 (by show S.lives ≤ _; omega)).mono ?_
  rintro e w' ⟨rfl, h13⟩
  rw [h10, h11] at *
  exact ⟨rfl, n, c1, vlt c2, c3, _, _, k, hd, bs, fs, by omega, by show S.lives + 1 ≤ _; omega, h13.bare hK, c4, h8, by omega, by omega⟩
theorem lo_open (hK : Kp K) (h : Lo w0 W d room NB B LB base recs K) (hrl : recs.length ≤ 1073741824) :
    Calls Tryd.prog 11 #[.pointer (some ⟨d, 0, none⟩)] W fun e w' => ∃ j, e = .returned (.tuple #[.pointer (some ⟨j, 0, none⟩), .int .i64 0]) ∧ Lw w0 w' j d room (NB + 100) B LB base recs recs.length K := by
  obtain ⟨N, S, k, hd, bs, fs, h1, h2, h3, h4, h5, h6, h7⟩ := h
  obtain ⟨a1, a2, a3⟩ := h4.opened
  refine (jopen_any hK h3 h4.on hd bs recs k h4.ldIs h4.ld (by have := h4.few; omega) hrl).mono ?_
  rintro e w' ⟨j, rfl, h8⟩
  rw [← h4.bas] at h8
  exact ⟨j, rfl, _, _, _, by omega, by have := a1.lives; simp at this; omega, h8, a1, by rw [a3, h5], by omega, rfl, rfl, h7⟩
theorem lo_new (h : Hold w0 W d 0 ⟨room, true, 1, []⟩ NoObj K) (hr : room ≤ 1048576) : Lo w0 W d room 0 0 0 [] [] K :=
  ⟨0, _, 0, none, [], [], Nat.le_refl _, Nat.le_refl _, h, oi_new room hr, rfl, Nat.le_refl _, Nat.le_refl _⟩
end
end Go.Proofs.YtaklbgikoeedbaaDoor
namespace Go.Proofs.YtaklbgikoeedbaaDoor
open Go.RowKit

theorem lit_bytF (W : World) (l : List UInt8) (cs : Array Value) (fr : Nat × Nat) (hcs : cs.toList = bv l) : BytF (W.alloc (.cells cs 5 fr)) (fun i => W.heap.size ≤ i) (some ⟨W.heap.size, 0, none⟩) l := by
  rcases Byt.lit_cold W 5 cs fr l hcs with h | ⟨g, o, hA, hg, hc⟩
  · exact .inl h
  · injection hA with hA
    injection hA with hA hB
    subst hA hB
    exact .inr ⟨_, _, rfl, Nat.le_refl _, hg, hc⟩
theorem bytF_alloc {W : World} {F : Nat → Prop} {A : Option Addr} {l : List UInt8} (h : BytF W F A l) (o : Obj) : BytF (W.alloc o) F A l := h.off ((Off.refl (fun _ => False) _).alloc o) fun _ _ _ h => h
theorem lit_one (W : World) (l : List UInt8) (cs : Array Value) (fr : Nat × Nat) (n : Nat) (hcs : cs.toList = bv l) (hl : l.length = n) :
    Below W.heap.size W ((W.alloc (.cells cs 5 fr)).alloc (.cells #[.slice (some ⟨W.heap.size, 0, none⟩) n n] 31)) ∧
    PrtF ((W.alloc (.cells cs 5 fr)).alloc (.cells #[.slice (some ⟨W.heap.size, 0, none⟩) n n] 31)) (fun i => W.heap.size ≤ i) (some ⟨W.heap.size + 1, 0, none⟩) [l] := by
  have hs : (W.alloc (.cells cs 5 fr)).heap.size = W.heap.size + 1 := by simp
  refine ⟨((Below.refl _ _).alloc (Nat.le_refl _) _).alloc (by simp) _, ?_⟩
  have h2 := bytF_alloc (lit_bytF W l cs fr hcs) (.cells #[.slice (some ⟨W.heap.size, 0, none⟩) n n] 31)
  have h3 := heap_alloc_new (W.alloc (.cells cs 5 fr)) (.cells #[.slice (some ⟨W.heap.size, 0, none⟩) n n] 31)
  rw [hs] at h3
  exact (PL.one h2 hl (Nat.le_refl _)).prtF h3 (by omega)
theorem lit_two (W : World) (l m : List UInt8) (cs ds : Array Value) (fr gr : Nat × Nat) (n k : Nat) (hcs : cs.toList = bv l) (hds : ds.toList = bv m) (hl : l.length = n) (hm : m.length = k) :
    Below W.heap.size W (((W.alloc (.cells cs 5 fr)).alloc (.cells ds 5 gr)).alloc (.cells #[.slice (some ⟨W.heap.size, 0, none⟩) n n, .slice (some ⟨W.heap.size + 1, 0, none⟩) k k] 31)) ∧
    PrtF (((W.alloc (.cells cs 5 fr)).alloc (.cells ds 5 gr)).alloc (.cells #[.slice (some ⟨W.heap.size, 0, none⟩) n n, .slice (some ⟨W.heap.size + 1, 0, none⟩) k k] 31)) (fun i => W.heap.size ≤ i) (some ⟨W.heap.size + 2, 0, none⟩) [l, m] := by
  have hs : (W.alloc (.cells cs 5 fr)).heap.size = W.heap.size + 1 := by simp
  have hs2 : ((W.alloc (.cells cs 5 fr)).alloc (.cells ds 5 gr)).heap.size = W.heap.size + 2 := by simp
  refine ⟨(((Below.refl _ _).alloc (Nat.le_refl _) _).alloc (by simp) _).alloc (by simp; omega) _, ?_⟩
  have h1 := bytF_alloc (bytF_alloc (lit_bytF W l cs fr hcs) (.cells ds 5 gr)) (.cells #[.slice (some ⟨W.heap.size, 0, none⟩) n n, .slice (some ⟨W.heap.size + 1, 0, none⟩) k k] 31)
  have h2 := bytF_alloc (lit_bytF (W.alloc (.cells cs 5 fr)) m ds gr hds) (.cells #[.slice (some ⟨W.heap.size, 0, none⟩) n n, .slice (some ⟨W.heap.size + 1, 0, none⟩) k k] 31)
  rw [hs] at h2
  have h3 := heap_alloc_new ((W.alloc (.cells cs 5 fr)).alloc (.cells ds 5 gr)) (.cells #[.slice (some ⟨W.heap.size, 0, none⟩) n n, .slice (some ⟨W.heap.size + 1, 0, none⟩) k k] 31)
  rw [hs2] at h3
  exact ((PL.one h1 hl (Nat.le_refl _)).app (PL.one (h2.mono fun i _ h => by omega) hm (Nat.le_refl _))).prtF h3 (by omega)
theorem all_prtF {W' : World} {recs : Rcs} {m : Nat} (h : ∃ vs, W'.heap[m]? = some (.cells vs.toArray 31 (0, 0)) ∧ PL W' (fun i => m < i) vs recs) : PrtF W' (fun i => m ≤ i) (some ⟨m, 0, none⟩) recs := by
  obtain ⟨vs, h1, h2⟩ := h
  exact (h2.mono (G := fun i => m ≤ i) fun i _ h => by omega).prtF h1 (Nat.le_refl _)
theorem PrtF.next {W W' : World} {F : Nat → Prop} {A : Option Addr} {ps : List (List UInt8)} (h : PrtF W F A ps) (hb : Below W.heap.size W W') : PrtF W' F A ps := h.off (Off.of_below (F := fun _ => False) hb fun i a b => by omega) fun _ _ _ h => h

set_option maxRecDepth 100000 in
set_option maxHeartbeats 4000000 in
theorem jawake_any (w : World) : Calls Tryd.prog 9 #[] w fun e w' => e = .returned (.bool true) ∧ Below w.heap.size w w' := by
  have hnew := hold_new w 10000 (by decide) (by decide)
  have kc := fun (w : World) (C : Array Value) (n c : Nat) => Lib.run_convert_bytes_const (P := Tryd.prog) w 31 5 C n c Tryd.underlying31 Tryd.underlying5
  go_enter Tryd.func9, Tryd.ntmps9
  go_wp2_with fail
  refine hnew.mono ?_
  rintro e w1 ⟨d, rfl, h1⟩
  clear hnew
  have hop := lo_open kNo (lo_new h1 (by decide)) (by decide)
  go_wp2_with fail
  refine hop.mono ?_
  rintro e w2 ⟨j, rfl, h2⟩
  clear hop h1
  obtain ⟨hb3, hp3⟩ := lit_one w2 [120] #[.int .u8 120] (1, 2) 1 rfl rfl
  have h3 := h2.fresh kNo hb3 (kP (some ⟨w2.heap.size + 1, 0, none⟩) [[120]]) hp3
  have had := lw_add (kAnd kNo (kP _ _)) h3 (some ⟨w2.heap.size + 1, 0, none⟩) [[120]] 1 1 (fun W F h => h.2) rfl (by decide) (by decide) (fun p hp => by simp at hp; subst hp; decide) (by decide) (by decide)
  go_wp2_with fail
  refine had.mono ?_
  rintro e w3 ⟨rfl, h4⟩
  clear had h3 h2 hp3 hb3
  have hsy := lw_sync (kAnd kNo (kP _ _)) h4
  go_wp2_with fail
  refine hsy.mono ?_
  rintro e w4 ⟨rfl, h5⟩
  clear hsy h4
  obtain ⟨hb6, hp6⟩ := lit_one w4 [121] #[.int .u8 121] (1, 2) 1 rfl rfl
  have h6 := (h5.weak (K2 := KNo) fun _ _ _ => trivial).fresh kNo hb6 (kP (some ⟨w4.heap.size + 1, 0, none⟩) [[121]]) hp6
  have had := lw_add (kAnd kNo (kP _ _)) h6 (some ⟨w4.heap.size + 1, 0, none⟩) [[121]] 1 1 (fun W F h => h.2) rfl (by decide) (by decide) (fun p hp => by simp at hp; subst hp; decide) (by decide) (by decide)
  go_wp2_with fail
  refine had.mono ?_
  rintro e w5 ⟨rfl, h7⟩
  clear had h6 h5 hp6 hb6
  have h8 : Lw w w5 j d 10000 1000 100 1 [] [[120], [121]] 1 KNo := (h7.weak (K2 := KNo) fun _ _ _ => trivial).more (by decide) (by decide) (by decide)
  clear h7
  have hal := lw_all kNo h8 (by decide)
  go_wp2_with fail
  refine hal.mono ?_
  rintro e w6 ⟨m, rfl, hm, hv, hb6, h9⟩
  clear hal
  obtain rfl : 2 = m := hm.out
  have h10 := h8.fresh kNo hb6 (kP (some ⟨w5.heap.size, 0, none⟩) [[120], [121]]) (all_prtF hv)
  clear h9 h8 hv hm hb6
  generalize w5.heap.size = b5 at *
  have hcr := lw_crash (kAnd kNo (kP _ _)) h10 0 0 0 (by decide) rfl (by decide) (by decide)
  go_wp2_with fail
  refine hcr.mono ?_
  rintro e w7 ⟨rfl, h11⟩
  clear hcr h10
  have hon := lc_on (kAnd kNo (kP _ _)) h11 (by decide) (by decide) (by decide)
  go_wp2_with fail
  refine hon.mono ?_
  rintro e w8 ⟨rfl, n, hn1, hn2, hn3, h12⟩
  clear hon h11
  obtain rfl : n = 1 := hn2.out stays_none
  clear hn1 hn2 hn3
  have hop := lo_open (kAnd kNo (kP _ _)) h12 (by decide)
  go_wp2_with fail
  refine hop.mono ?_
  rintro e w9 ⟨j2, rfl, h13⟩
  clear hop h12
  have h14 : Lw w w9 j2 d 10000 2000 100 2 [] [[120]] 1 (KAnd KNo (KP (some ⟨b5, 0, none⟩) [[120], [121]])) := h13.more (by decide) (by decide) (by decide)
  clear h13
  have kc2 : ∀ (w : World) (o : Obj) (C : Array Value) (n c : Nat), (convert 31 31 (.slice (some ⟨w.heap.size + 1, 0, none⟩) n c)).run Tryd.prog ((w.alloc o).alloc (.cells C 5)) = .ok (.slice (some ⟨w.heap.size + 1, 0, none⟩) n c) ((w.alloc o).alloc (.cells C 5 (C.size, C.size + 1))) := by
    intro w o C n c
    have h1 := kc (w.alloc o) C n c
    have e1 : (w.alloc o).heap.size = w.heap.size + 1 := by simp
    rw [e1] at h1
    exact h1
  obtain ⟨hb15, hp15⟩ := lit_two w9 [120] [121] #[.int .u8 120] #[.int .u8 121] (1, 2) (1, 2) 1 1 rfl rfl rfl rfl
  have h15 := h14.next (kAnd kNo (kP _ _)) hb15
  have hsm := same_any _ (some ⟨b5, 0, none⟩) (some ⟨w9.heap.size + 2, 0, none⟩) [[120], [121]] [[120], [121]] 2 2 2 2 (PrtF.prt (h15.data (kAnd kNo (kP _ _))).2) rfl (PrtF.prt hp15) rfl (by decide)
  go_wp2_with fail
  refine hsm.mono ?_
  rintro e w10 ⟨rfl, k, rfl⟩
  clear hsm
  have h16 := h15.drewN (kAnd kNo (kP _ _)) k
  clear h15 h14 hp15 hb15
  generalize World.drewN _ k = w10 at *
  have hal := lw_all (kAnd kNo (kP _ _)) h16 (by decide)
  go_wp2_with fail
  refine hal.mono ?_
  rintro e w11 ⟨m, rfl, hm, hv, hb11, h17⟩
  clear hal h16
  obtain rfl : 1 = m := hm.out
  clear hm
  obtain ⟨hb18, hp18⟩ := lit_one w11 [120] #[.int .u8 120] (1, 2) 1 rfl rfl
  have h18 := h17.next (kAnd kNo (kP _ _)) hb18
  have hsm := same_any _ (some ⟨w10.heap.size, 0, none⟩) (some ⟨w11.heap.size + 1, 0, none⟩) [[120]] [[120]] 1 1 1 1 ((all_prt hv).next hb18) rfl (PrtF.prt hp18) rfl (by decide)
  go_wp2_with fail
  refine hsm.mono ?_
  rintro e w12 ⟨rfl, k, rfl⟩
  clear hsm
  have h19 := h18.drewN (kAnd kNo (kP _ _)) k
  clear h18 h17 hp18 hb18 hb11 hv
  generalize World.drewN _ k = w12 at *
  have hba := lw_base (kAnd kNo (kP _ _)) h19 (by decide)
  go_wp2_with fail
  refine hba.mono ?_
  rintro e w13 ⟨A, n, c, rfl, hbA, hn, hnc, hb13, h20⟩
  obtain rfl : 0 = n := hn.out
  have hend := h20.bel
  clear hba h19 h20
  go_wp2
  go_ret
  exact ⟨rfl, hend⟩
end Go.Proofs.YtaklbgikoeedbaaDoor
namespace Go.Proofs.YtaklbgikoeedbaaDoor
open Go.RowKit

/-- The power is on again; the elder journal is still there. -/
def La (w0 W : World) (j d room NB B LB : Nat) (base : List UInt8) (recs : Rcs) (safe keep tn : Nat) (K : World → (Nat → Prop) → Prop) : Prop :=
  ∃ N S J, N ≤ NB ∧ S.lives ≤ NB + 1 ∧ Hold w0 W d N (S.crs keep tn).awake (JnOb j d J) K ∧ JI S J safe ∧ S.room = room ∧ S.size ≤ B ∧ J.base = base ∧ J.recs = recs ∧ J.last ≤ LB
section
variable {w0 W W' : World} {j d room NB B LB safe keep tn : Nat} {base : List UInt8} {recs : Rcs} {K K2 : World → (Nat → Prop) → Prop}
theorem Lc.weak (h : Lc w0 W j d room NB B LB base recs safe keep tn K) (hk : ∀ W F, K W F → K2 W F) : Lc w0 W j d room NB B LB base recs safe keep tn K2 := by
  obtain ⟨N, S, J, h1, h2, h3, h4⟩ := h
  exact ⟨N, S, J, h1, h2, h3.weak hk, h4⟩
theorem Lc.fresh (hK : Kp K) (h : Lc w0 W j d room NB B LB base recs safe keep tn K) (hb : Below W.heap.size W W') (hK2 : Kp K2) (hk : K2 W' (fun i => W.heap.size ≤ i)) : Lc w0 W' j d room NB B LB base recs safe keep tn (KAnd K K2) := by
  obtain ⟨N, S, J, h1, h2, h3, h4⟩ := h
  exact ⟨N, S, J, h1, h2, h3.fresh (jnOb _ _ _) hK hb hK2 hk, h4⟩
theorem lc_add (hK : Kp K) (h : Lc w0 W j d room NB B LB base recs safe keep tn K) (A : Option Addr) (ps : Rcs) (n c : Nat) (hp : ∀ W F, K W F → PrtF W F A ps) (hlen : ps.length = n) (hn : n ≤ 1048576) (hNB : NB ≤ 536870912) (hps : lenOk ps) (hrl : recs.length ≤ 1073741824) :
    Calls Tryd.prog 12 #[.pointer (some ⟨j, 0, none⟩), .slice A n c] W fun e w' => e = .returned (.int .i64 7) ∧ Lc w0 w' j d room (NB + 2 * n + 1) B LB base recs safe keep tn K := by
  obtain ⟨N, S, J, h4, h5, h6, h7, h8, h9, h10, h11, h12⟩ := h
  have hl := longR_ok hps
  have hd : doneB (S.crs keep tn) J = true := by
    unfold doneB
    show (J.full || !false || _) = true
    simp
  refine (jadd_any hK h6 (by have := h7.few; omega) A ps n c hp hlen hn (by omega) (fun p hp => by have := hps p hp; omega) (by rw [h11]; exact hrl)).mono ?_
  rintro e w' ⟨rfl, h13⟩
  have e1 : addE (S.crs keep tn) J ps = 7 := by unfold addE; rw [hl, hd]; rfl
  have e2 : addS (S.crs keep tn) J ps = S.crs keep tn := by unfold addS; rw [hl, hd]; rfl
  have e3 : addJ (S.crs keep tn) J ps = J := by unfold addJ; rw [hl, hd]; rfl
  rw [e2, e3] at h13
  exact ⟨by rw [e1], _, S, J, by omega, by omega, h13, h7, h8, h9, h10, h11, h12⟩
theorem lc_open (h : Lc w0 W j d room NB B LB base recs safe keep tn K) :
    Calls Tryd.prog 11 #[.pointer (some ⟨d, 0, none⟩)] W fun e w' => e = .returned (.tuple #[.pointer none, .int .i64 7]) ∧ w' = W := by
  obtain ⟨N, S, J, h4, h5, h6, _⟩ := h
  exact jopen_off h6 rfl
theorem lc_wake (hK : Kp K) (h : Lc w0 W j d room NB B LB base recs safe keep tn K) (hNB : NB ≤ 1073741824) :
    Calls Tryd.prog 17 #[.pointer (some ⟨d, 0, none⟩)] W fun e w' => e = .returned (.tuple #[]) ∧ La w0 w' j d room (NB + 1) B LB base recs safe keep tn K := by
  obtain ⟨N, S, J, h4, h5, h6, h7⟩ := h
  refine (hold_on (jnOb _ _ _) hK h6 (by show S.lives ≤ _; omega)).mono ?_
  rintro e w' ⟨rfl, h13⟩
  exact ⟨rfl, _, S, J, by omega, by omega, h13, h7⟩
theorem la_done' {S : Dk} {J : Jv} (h : JI S J safe) : doneB (S.crs keep tn).awake J = true := by
  unfold doneB
  have e : (S.crs keep tn).awake.lives = S.lives + 1 := rfl
  rw [e, h.lives]
  simp
theorem la_sync (hK : Kp K) (h : La w0 W j d room NB B LB base recs safe keep tn K) :
    Calls Tryd.prog 15 #[.pointer (some ⟨j, 0, none⟩)] W fun e w' => e = .returned (.int .i64 7) ∧ La w0 w' j d room (NB + 1) B LB base recs safe keep tn K := by
  obtain ⟨N, S, J, h4, h5, h6, h7, h8⟩ := h
  have hs := jsync_any hK h6 (by have := h7.few; omega)
  rw [la_done' h7, if_pos rfl, if_pos rfl] at hs
  refine hs.mono ?_
  rintro e w' ⟨rfl, h13⟩
  exact ⟨rfl, _, S, J, by omega, by omega, h13, h7, h8⟩
theorem la_done (hK : Kp K) (h : La w0 W j d room NB B LB base recs safe keep tn K) :
    Calls Tryd.prog 18 #[.pointer (some ⟨j, 0, none⟩)] W fun e w' => e = .returned (.bool true) ∧ La w0 w' j d room NB B LB base recs safe keep tn K := by
  obtain ⟨N, S, J, h4, h5, h6, h7, h8⟩ := h
  refine (jdone_any h6).mono ?_
  rintro e w' ⟨rfl, k, rfl⟩
  exact ⟨by rw [la_done' h7], N, S, J, h4, h5, h6.drewN (jnOb _ _ _) hK k, h7, h8⟩
theorem La.lo (hK : Kp K) (h : La w0 W j d room NB B LB base recs safe keep tn K) (hL : LB ≤ 96) (hroom : room ≤ 1048576) : ∃ n, safe ≤ n ∧ Vlt ((∀ i, stays keep i = false) → n = safe) ∧ n ≤ recs.length ∧ Lo w0 W d room (NB + 1) B (LB + 1) base (recs.take n) K := by
  obtain ⟨N, S, J, h4, h5, h6, h7, h8, h9, h10, h11, h12⟩ := h
  obtain ⟨n, k, hd, bs, fs, ⟨c1, c2⟩, c3, c4, c5, c6⟩ := h7.crash keep tn (by omega) (by rw [h8]; exact hroom)
  rw [h10, h11] at *
  exact ⟨n, c1, vlt c2, c3, _, _, k, hd, bs, fs, by omega, by show S.lives + 1 ≤ _; omega, h6.bare hK, c4, h8, by omega, by omega⟩
/-- Add of what is too long. -/
theorem lw_long (hK : Kp K) (h : Lw w0 W j d room NB B LB base recs safe K) (A : Option Addr) (ps : Rcs) (n c : Nat) (hp : ∀ W F, K W F → PrtF W F A ps) (hlen : ps.length = n) (hn : n ≤ 1048576) (hNB : NB ≤ 536870912) (hps : longR ps = true) (hbig : ∀ p ∈ ps, p.length ≤ 1073741824) (hrl : recs.length ≤ 1073741824) :
    Calls Tryd.prog 12 #[.pointer (some ⟨j, 0, none⟩), .slice A n c] W fun e w' => e = .returned (.int .i64 2) ∧ Lw w0 w' j d room (NB + 2 * n + 1) B LB base recs safe K := by
  obtain ⟨N, S, J, h4, h5, h6, h7, h8, h9, h10, h11, h12⟩ := h
  refine (jadd_any hK h6 (by have := h7.few; omega) A ps n c hp hlen hn (by omega) hbig (by rw [h11]; exact hrl)).mono ?_
  rintro e w' ⟨rfl, h13⟩
  have e1 : addE S J ps = 2 := by unfold addE; rw [hps]; rfl
  have e2 : addS S J ps = S := by unfold addS; rw [hps]; rfl
  have e3 : addJ S J ps = J := by unfold addJ; rw [hps]; rfl
  rw [e2, e3] at h13
  exact ⟨by rw [e1], _, S, J, by omega, by omega, h13, h7, h8, h9, h10, h11, h12⟩
/-- Keep of what is too long. -/
theorem lw_vast (hK : Kp K) (h : Lw w0 W j d room NB B LB base recs safe K) (A : Option Addr) (b : List UInt8) (n c : Nat) (hp : ∀ W F, K W F → BytF W F A b) (hlen : b.length = n) (hbig : 65536 < n) (hn : n ≤ 1073741824) (hNB : NB ≤ 536870912) :
    Calls Tryd.prog 14 #[.pointer (some ⟨j, 0, none⟩), .slice A n c] W fun e w' => e = .returned (.int .i64 2) ∧ Lw w0 w' j d room (NB + 200) B LB base recs safe K := by
  obtain ⟨N, S, J, h4, h5, h6, h7, h8, h9, h10, h11, h12⟩ := h
  refine (jkeep_any hK h6 (by have := h7.few; omega) A b n c hp hlen hn (by omega)).mono ?_
  rintro e w' ⟨rfl, h13⟩
  have hb : 65536 < b.length := by omega
  have e1 : keepE S J b = 2 := by unfold keepE; rw [if_pos hb]
  have e2 : keepS S J b = S := by unfold keepS; rw [if_pos hb]
  have e3 : keepJ S J b = J := by unfold keepJ; rw [if_pos hb]
  rw [e2, e3] at h13
  exact ⟨by rw [e1], _, S, J, by omega, by omega, h13, h7, h8, h9, h10, h11, h12⟩
end
end Go.Proofs.YtaklbgikoeedbaaDoor
namespace Go.Proofs.YtaklbgikoeedbaaDoor
open Go.RowKit

theorem byt_F {w : World} {B : Nat} {A : Option Addr} {l : List UInt8} (h : Byt w B A l) (hB : B ≤ w.heap.size) : BytF w (fun i => i < B) A l := by
  rcases h with h | ⟨g, o, hA, hg, hc⟩
  · exact .inl h
  · exact .inr ⟨g, o, hA, hg, by omega, hc⟩
theorem prt_F {w : World} {B : Nat} {A : Option Addr} {ps : Rcs} (h : Prt w B A ps) (hB : B ≤ w.heap.size) : PrtF w (fun i => i < B) A ps := by
  rcases h with h | ⟨g, o, hA, hg, hc⟩
  · exact .inl h
  · exact .inr ⟨g, o, hA, hg, by omega, fun j p hj => by
      obtain ⟨Aj, nj, cj, h1, h2, h3, h4⟩ := hc j p hj
      exact ⟨Aj, nj, cj, h1, h2, h3, byt_F h4 hB⟩⟩
theorem Prt.take {w : World} {B : Nat} {A : Option Addr} {ps : Rcs} (h : Prt w B A ps) (k : Nat) : Prt w B A (ps.take k) := by
  rcases h with h | ⟨g, o, hA, hg, hc⟩
  · subst h; exact .inl (by simp)
  · exact .inr ⟨g, o, hA, hg, fun j p hj => hc j p (by
      have hk : j < k := by
        have := (List.getElem?_eq_some_iff.1 hj).1
        simp at this; omega
      rwa [List.getElem?_take_of_lt hk] at hj)⟩
/-- The cells of a list, as values. -/
theorem prt_news {w : World} {F : Nat → Prop} {A : Option Addr} {ps : Rcs} (h : PrtF w F A ps) : ∃ vs, (vs ≠ [] → ∃ d, A = some d ∧ ∀ j u, vs[j]? = some u → w.cell? (d.add j) = some u) ∧ PL w F vs ps := by
  rcases h with rfl | ⟨g, o, hA, hF, hg, hc⟩
  · exact ⟨[], fun h => absurd rfl h, PL.nil⟩
  · refine ⟨(List.range ps.length).map fun j => (w.cell? ⟨g, o + j, none⟩).getD (.bool false), fun _ => ⟨_, hA, fun j u hj => ?_⟩, by simp, fun i p hp => ?_⟩
    · have hj2 : j < ps.length := by
        have := (List.getElem?_eq_some_iff.1 hj).1
        simpa using this
      obtain ⟨Aj, nj, cj, h1, _⟩ := hc j _ (List.getElem?_eq_getElem hj2)
      rw [List.getElem?_map, List.getElem?_range hj2] at hj
      simp only [Option.map_some, h1, Option.getD_some, Option.some.injEq] at hj
      rw [addr_add, h1, hj]
    · have hi := (List.getElem?_eq_some_iff.1 hp).1
      obtain ⟨Aj, nj, cj, h1, h2, h3, h4⟩ := hc i p hp
      refine ⟨Aj, nj, cj, ?_, h2, h3, h4⟩
      rw [List.getElem?_map, List.getElem?_range hi]
      simp [h1]
/-- A row of slices of one's own, as a list. -/
theorem own_prtF {w : World} {F : Nat → Prop} {Q : Option Addr} {m k : Nat} {vs : List Value} {ps : Rcs} {E : TypeId} (h : w.ownsRow 0 E 1 (.slice Q m k) m vs) (hp : PL w F vs ps) (hQ : AtF F Q) : PrtF w F Q ps := by
  obtain ⟨hl, _, hmk⟩ := owns_size h
  cases Q with
  | none =>
    rcases h.2 with ⟨hv, _⟩ | ⟨g, cap, cur, hv, _⟩
    · simp only [Value.slice.injEq] at hv
      left
      refine List.eq_nil_of_length_eq_zero ?_
      rw [← hp.1, hl]; exact hv.2.1
    · simp at hv
  | some a =>
    obtain ⟨b, o, hb⟩ : ∃ b, ∃ _ : True, a = ⟨b, 0, none⟩ := by
      rcases h.2 with ⟨hv, _⟩ | ⟨g, cap, cur, hv, _⟩
      · simp at hv
      · simp only [Value.slice.injEq, Option.some.injEq] at hv
        exact ⟨g, trivial, hv.1⟩
    subst hb
    refine .inr ⟨b, 0, rfl, hQ _ rfl, owns_lt h _ rfl, fun i p hp2 => ?_⟩
    obtain ⟨Ai, ni, ci, h3, h4, h5, h6⟩ := hp.2 i p hp2
    have hc := h.cells (g := b) rfl i _ h3
    rw [addr_add] at hc
    exact ⟨Ai, ni, ci, hc, h4, h5, h6⟩
theorem own_lit (w : World) (E : TypeId) : (w.alloc (.cells #[] E)).ownsRow 0 E 1 (.slice (some ⟨w.heap.size, 0, none⟩) 0 0) 0 [] := Res.none_lit w E 0 (Nat.zero_le _)
/-- append of lists onto a row of one's own. -/
theorem wp_append_sl (w : World) {ops : Array Oper} {rest : List Oper} {o : Oper} {a : Act} {Q : Exit → Act → World → Prop} (hgd : o.guard = none) (s x : Operand)
    (ho : o.op = .call { callee := .builtin .append, args := #[s, x], argTypes := #[32, 32] }) (A : Option Addr) (n c : Nat) (xs : List Value) (hs : a.eval s = .slice A n c) (hown : w.ownsRow 0 31 1 (.slice A n c) n xs)
    (D : Option Addr) (m c2 : Nat) (hx : a.eval x = .slice D m c2) (F : Nat → Prop) (ps : Rcs) (hp : PrtF w F D ps) (hl : ps.length = m) (hsz : n + m ≤ 1073741824)
    (h : ∀ A' c' w' vs, PL w F vs ps → w'.ownsRow 0 31 1 (.slice A' (n + m) c') (n + m) (xs ++ vs) → w.grownBy w' (A.map (·.block)) → (∀ p, A' = some p → (∃ q, A = some q ∧ p.block = q.block) ∨ w.heap.size ≤ p.block) → wpList Tryd.prog ops Q rest (a.put o.dst (.slice A' (n + m) c')) w') : wpList Tryd.prog ops Q (o :: rest) a w := by
  obtain ⟨vs, hsrc, hpl⟩ := prt_news hp
  have hvl : vs.length = m := by rw [hpl.1, hl]
  refine wpList_plain hgd fun K hK => ?_
  cases D with
  | some d =>
    have hnews : ∀ j u, vs[j]? = some u → w.cell? (d.add j) = some u := fun j u hj => by
      obtain ⟨d', hd, hc⟩ := hsrc (by intro e; subst e; simp at hj)
      injection hd with hd
      subst hd
      exact hc j u hj
    obtain ⟨A', c', w', hrun, h2, h3, h4, _⟩ := append_row (P := Tryd.prog) (ty := o.type) w Tryd.underlying32 Tryd.infoSlc rfl (by decide) hown d m c2 vs (by rw [hvl, Nat.mul_one]) hnews hpl.single (by omega) (by decide)
    unfold Oper.wp
    simp only [execOp, ho, resolve, invoke, builtin, Sem.run_bind, Sem.run_pure, Result.andThen_ok, List.map_toArray, List.map_cons, List.map_nil, hs, hx, hrun]
    exact hK _ _ (h A' c' w' vs hpl h2 h3 h4)
  | none =>
    have hn : vs = [] := by
      rcases Classical.em (vs = []) with h | h
      · exact h
      · obtain ⟨_, h, _⟩ := hsrc h; cases h
    subst hn
    subst hvl
    obtain ⟨i, hi, _⟩ := info_parts Tryd.infoSlc
    have hrun := append_nothing (P := Tryd.prog) (ty := o.type) (c := c2) w Tryd.underlying32 hi hown
    unfold Oper.wp
    simp only [execOp, ho, resolve, invoke, builtin, Sem.run_bind, Sem.run_pure, Result.andThen_ok, List.map_toArray, List.map_cons, List.map_nil, hs, hx, List.length_nil, hrun]
    refine hK _ _ ?_
    have h2 := h A c w [] hpl (by simpa using hown) ⟨rfl, rfl, rfl, Nat.le_refl _, fun _ _ _ => rfl⟩ (fun p hp => .inl ⟨p, hp, rfl⟩)
    simpa using h2
/-- A list of lists that is made in blocks that are new since w0. -/
def NewL (w0 w : World) (Q : Option Addr) (m k : Nat) (ps : Rcs) : Prop :=
  Below w0.heap.size w0 w ∧ ∃ D vs, w.ownsRow 0 31 1 (.slice Q m k) m vs ∧ AtF (fun i => w0.heap.size ≤ i) Q ∧ PL w D vs ps ∧ AtF (fun i => ¬ D i) Q ∧ ∀ i, D i → i < w.heap.size
theorem NewL.start (w0 : World) : NewL w0 (w0.alloc (.cells #[] 31)) (some ⟨w0.heap.size, 0, none⟩) 0 0 [] :=
  ⟨(Below.refl _ _).alloc (Nat.le_refl _) _, fun _ => False, [], own_lit w0 _, fun a ha => by injection ha with ha; subst ha; exact Nat.le_refl _, PL.nil, fun _ _ h => h, fun _ h => h.elim⟩
theorem NewL.next {w0 w w' : World} {Q : Option Addr} {m k : Nat} {ps : Rcs} (h : NewL w0 w Q m k ps) (hb : Below w.heap.size w w') : NewL w0 w' Q m k ps := by
  obtain ⟨h1, D, vs, h2, h3, h4, h5, h6⟩ := h
  have hof : Off (fun _ => False) w w' := Off.of_below hb fun i a b => by omega
  exact ⟨h1.trans (hb.mono h1.size), D, vs, owns_keep h2 fun i hi _ => hof.block i hi fun h => h, h3, h4.off hof fun _ _ _ h => h, h5, fun i hi => Nat.lt_of_lt_of_le (h6 i hi) hb.size⟩
theorem NewL.prtF {w0 w : World} {Q : Option Addr} {m k : Nat} {ps : Rcs} (h : NewL w0 w Q m k ps) : PrtF w (fun _ => True) Q ps := by
  obtain ⟨h1, D, vs, h2, h3, h4, h5, h6⟩ := h
  exact own_prtF h2 (h4.mono fun _ _ _ => trivial) fun _ _ => trivial
theorem NewL.lt {w0 w : World} {Q : Option Addr} {m k : Nat} {ps : Rcs} (h : NewL w0 w Q m k ps) : AtF (fun i => i < w.heap.size) Q := by
  obtain ⟨h1, D, vs, h2, _⟩ := h
  exact owns_lt h2
theorem NewL.ge {w0 w : World} {Q : Option Addr} {m k : Nat} {ps : Rcs} (h : NewL w0 w Q m k ps) : AtF (fun i => w0.heap.size ≤ i) Q := by
  obtain ⟨h1, D, vs, h2, h3, _⟩ := h
  exact h3
theorem NewL.cap {w0 w : World} {Q : Option Addr} {m k : Nat} {ps : Rcs} (h : NewL w0 w Q m k ps) : m ≤ k ∧ ps.length = m := by
  obtain ⟨h1, D, vs, h2, h3, h4, _⟩ := h
  obtain ⟨a, _, b⟩ := owns_size h2
  exact ⟨b, by rw [← h4.1, a]⟩
theorem NewL.push {w0 w w' : World} {Q Q' : Option Addr} {n c m c' : Nat} {ps qs : Rcs} {F : Nat → Prop} {us : List Value} (h : NewL w0 w Q n c ps) (hF : AtF (fun i => ¬ F i) Q)
    (hus : PL w F us qs) (hown : ∀ vs, w.ownsRow 0 31 1 (.slice Q n c) n vs → w'.ownsRow 0 31 1 (.slice Q' (n + m) c') (n + m) (vs ++ us)) (hgr : w.grownBy w' (Q.map (·.block))) (hq : ∀ p, Q' = some p → (∃ q, Q = some q ∧ p.block = q.block) ∨ w.heap.size ≤ p.block) : NewL w0 w' Q' (n + m) c' (ps ++ qs) := by
  obtain ⟨h1, D, vs, h2, h3, h4, h5, h6⟩ := h
  have hof : Off (fun b => ∃ a, Q = some a ∧ b = a.block) w w' := grown_off hgr fun a ha => ⟨a, ha, rfl⟩
  refine ⟨hof.below h1 (fun i ⟨a, ha, e⟩ => by rw [e]; exact h3 a ha) h1.size, fun i => D i ∨ (F i ∧ i < w.heap.size), vs ++ us, hown vs h2, fun p hp => ?_, ((h4.off hof fun b _ hb ⟨a, ha, e⟩ => h5 a ha (e ▸ hb)).mono fun i _ hi => .inl hi).app (((hus.mono (G := fun i => F i ∧ i < w.heap.size) fun i hi h => ⟨h, hi⟩).off hof fun b _ hb ⟨a, ha, e⟩ => hF a ha (e ▸ hb.1)).mono fun i _ hi => .inr hi), fun p hp hd => ?_, fun i hi => ?_⟩
  · rcases hq p hp with ⟨q, hq, e⟩ | e
    · rw [e]; exact h3 q hq
    · exact Nat.le_trans h1.size e
  · rcases hq p hp with ⟨q, hq, e⟩ | e
    · rw [e] at hd
      rcases hd with hd | hd
      · exact h5 q hq hd
      · exact hF q hq hd.1
    · rcases hd with hd | hd
      · have := h6 _ hd; omega
      · omega
  · rcases hi with hi | hi
    · exact Nat.lt_of_lt_of_le (h6 i hi) hof.size
    · exact Nat.lt_of_lt_of_le hi.2 hof.size
/-- append of lists onto a list that is being made. -/
theorem wp_append_new {w0 : World} (w : World) {ops : Array Oper} {rest : List Oper} {o : Oper} {a : Act} {Qe : Exit → Act → World → Prop} (hgd : o.guard = none) (s x : Operand)
    (ho : o.op = .call { callee := .builtin .append, args := #[s, x], argTypes := #[32, 32] }) (A : Option Addr) (n c : Nat) (ps : Rcs) (hs : a.eval s = .slice A n c) (hnew : NewL w0 w A n c ps)
    (D : Option Addr) (m c2 : Nat) (hx : a.eval x = .slice D m c2) (F : Nat → Prop) (qs : Rcs) (hp : PrtF w F D qs) (hF : AtF (fun i => ¬ F i) A) (hl : qs.length = m) (hsz : n + m ≤ 1073741824)
    (h : ∀ A' c' w', NewL w0 w' A' (n + m) c' (ps ++ qs) → wpList Tryd.prog ops Qe rest (a.put o.dst (.slice A' (n + m) c')) w') : wpList Tryd.prog ops Qe (o :: rest) a w := by
  obtain ⟨h1, Dd, vs, h2, h3, h4, h5, h6⟩ := hnew
  refine wp_append_sl w hgd s x ho A n c vs hs h2 D m c2 hx F qs hp hl hsz ?_
  intro A' c' w' us hus hown hgr hq
  refine h A' c' w' (NewL.push ⟨h1, Dd, vs, h2, h3, h4, h5, h6⟩ hF hus (fun vs2 h7 => ?_) hgr hq)
  have e : vs2 = vs := by
    rcases h2.2 with ⟨hv, h0⟩ | ⟨g, cap, cur, hv, _, hg, _, _, _, ht⟩
    · simp only [Value.slice.injEq] at hv
      have a1 := h2.1
      have a2 := h7.1
      rw [hv.2.1] at a1 a2
      rw [List.eq_nil_of_length_eq_zero (l := vs) (by simpa using a1), List.eq_nil_of_length_eq_zero (l := vs2) (by simpa using a2)]
    · rcases h7.2 with ⟨hv2, _⟩ | ⟨g2, cap2, cur2, hv2, _, hg2, _, _, _, ht2⟩
      · rw [hv] at hv2; simp at hv2
      · rw [hv] at hv2
        simp only [Value.slice.injEq, Option.some.injEq, Addr.mk.injEq, and_true] at hv2
        obtain ⟨e1, _⟩ := hv2
        subst e1
        rw [hg] at hg2
        injection hg2 with hg2
        injection hg2 with e1
        subst e1
        rw [← ht, ← ht2]
  rw [e]; exact hown
theorem rb_le {ps : Rcs} {b : Nat} (h : ∀ p ∈ ps, p.length ≤ b) : (rb ps).length ≤ (4 + b) * ps.length := by
  induction ps with
  | nil => simp [rb]
  | cons p r ih =>
    have h1 := ih fun q hq => h q (List.mem_cons_of_mem _ hq)
    have h2 := h p List.mem_cons_self
    rw [rb_cons, List.length_append, pt_len, List.length_cons, Nat.mul_add, Nat.mul_one]
    omega
theorem few_ok {ps : Rcs} (h : ∀ p ∈ ps, p.length ≤ 200) : lenOk ps := fun p hp => Nat.le_trans (h p hp) (by decide)
theorem few_take {ps : Rcs} {k b : Nat} {p : List UInt8} (h : ∀ q ∈ ps.take k, q.length ≤ b) (hp : ps[k]? = some p) (hl : p.length ≤ b) : ∀ q ∈ ps.take (k + 1), q.length ≤ b := by
  intro q hq
  rw [List.take_add_one, hp] at hq
  rcases List.mem_append.1 hq with hq | hq
  · exact h q hq
  · simp at hq; subst hq; exact hl
section
variable {w0 W W' : World} {j d room NB B LB safe : Nat} {base : List UInt8} {recs : Rcs} {K : World → (Nat → Prop) → Prop}
theorem Lw.drew (hK : Kp K) (h : Lw w0 W j d room NB B LB base recs safe K) : Lw w0 W.drew j d room NB B LB base recs safe K := h.drewN hK 1
theorem Lw.oldP (h : Lw w0 W j d room NB B LB base recs safe K) {A : Option Addr} {ps : Rcs} (hp : Prt w0 w0.heap.size A ps) : Lw w0 W j d room NB B LB base recs safe (KAnd K (KP A ps)) :=
  h.old (kP A ps) (prt_F (hp.below h.bel) h.bel.size)
theorem Lw.oldB (h : Lw w0 W j d room NB B LB base recs safe K) {A : Option Addr} {l : List UInt8} (hp : Byt w0 w0.heap.size A l) : Lw w0 W j d room NB B LB base recs safe (KAnd K (KB A l)) :=
  h.old (kB A l) (byt_F (hp.below h.bel) h.bel.size)
end
end Go.Proofs.YtaklbgikoeedbaaDoor
namespace Go.Proofs.YtaklbgikoeedbaaDoor
open Go.ChangeShapes Go.WideShapes Go.RowKit

section
variable {H : Type} {enc : TypeId × Value → H} {P : Program} {w : World} {base : Nat} {sp : Nat → Bool} {held : Bool} {fuel : Nat}
theorem one_of_slice {cs : List Value} {k : Nat} {v : Value} (h : (cs.drop k).take 1 = [v]) : cs[k]? = some v := by
  have h1 : ((cs.drop k).take 1)[0]? = some v := by rw [h]; rfl
  simpa [List.getElem?_take, List.getElem?_drop] using h1
/-- The cells of a table of numbers that reads as a list. -/
theorem u64_cells {t e : TypeId} {n : Nat} {cs : Array Value} {D : DataW H} {p : List MemPlace} (ht : P.underlying t = some (.array n e)) (he : P.underlying e = some (.int .u64)) (hc : P.cellsOf e = 1)
    (hd : DataW.trod enc P w base sp held fuel t cs.toList = some (D, p)) (zs : List Nat) (hD : D = .agg (zs.map fun (z : Nat) => .lit (.int .u64 (z : Int)))) (k z : Nat) (hz : zs[k]? = some z) : cs[k]? = some (.int .u64 (z : Int)) := by
  obtain ⟨xs, m, rfl, hx, hlen, hn, hel⟩ := DataW.trod_array ht hd
  simp only [Prod.mk.injEq] at hx
  have h1 : zs.map (fun (z : Nat) => (DataW.lit (H := H) (.int .u64 (z : Int)))) = xs.map (·.1) := by
    have := hD.symm.trans hx.1
    injection this
  have hl : zs.length = xs.length := by have := congrArg List.length h1; simpa using this
  have hk : k < zs.length := (List.getElem?_eq_some_iff.1 hz).1
  have h2 := hel k (by omega)
  rw [hc, Nat.mul_one] at h2
  have h3 : xs[k]? = some (xs[k]'(by omega)) := List.getElem?_eq_getElem (by omega)
  rw [h3] at h2
  obtain ⟨q, e1, e2, _⟩ := DataW.trod_int he h2
  have h4 := congrArg (·[k]?) h1
  simp only [List.getElem?_map, hz, h3, e2, Option.map_some, Option.some.injEq, DataW.lit.injEq, Lit.int.injEq, true_and] at h4
  rw [← h4] at e1
  have h5 := one_of_slice e1
  simpa using h5
/-- An array of bytes by value. -/
theorem open_bytes {t e : TypeId} {n b0 : Nat} {r : Reach} {v : Value} {d : DataW H} {p : List MemPlace} (ht : P.underlying t = some (.array n e)) (he : P.underlying e = some (.int .u8)) (hc : P.cellsOf e = 1) (hn : P.cellsOf t = n)
    (hv : Value.okWide P w r b0 t v) (h : DataW.Trod enc P w base sp held t v d p) : ∃ l : List UInt8, v = .agg (bv l).toArray ∧ l.length = n := by
  obtain ⟨cs, rfl⟩ : ∃ cs, v = .agg cs := by
    simp only [Value.okWide, ht] at hv
    obtain ⟨cs, h1, _⟩ := hv
    exact ⟨cs, h1⟩
  obtain ⟨fuel, hf⟩ := h
  obtain ⟨xs, m, rfl, _, hlen, hxl, hel⟩ := DataW.trod_array ht hf
  rw [hn] at hlen
  have hlen' : cs.size = n := by simpa [Value.cells] using hlen
  have hat : ∀ k, k < n → ∃ b : UInt8, cs[k]? = some (.int .u8 (b.toNat : Int)) := by
    intro k hk
    have h2 := hel k hk
    rw [hc, Nat.mul_one] at h2
    have h3 : xs[k]? = some (xs[k]'(by omega)) := List.getElem?_eq_getElem (by omega)
    rw [h3] at h2
    obtain ⟨q, e1, _, hw⟩ := DataW.trod_int he h2
    have h5 := one_of_slice e1
    have h6 : 0 ≤ q ∧ q ≤ 255 := by simpa [Lit.wf, IntKind.min, IntKind.max, IntKind.signed, IntKind.bits] using hw
    refine ⟨UInt8.ofNat q.toNat, ?_⟩
    have h7 : cs[k]? = some (.int .u8 q) := by simpa [Value.cells] using h5
    rw [h7]
    congr 2
    simp
    omega
  refine ⟨cs.toList.map fun v => match v with | .int _ q => UInt8.ofNat q.toNat | _ => 0, ?_, by simpa using hlen'⟩
  congr 1
  apply Array.ext'
  simp only [bv, List.map_map]
  apply List.ext_getElem?
  intro k
  rw [List.getElem?_map]
  by_cases hk : k < n
  · obtain ⟨b, hb⟩ := hat k hk
    have hb' : cs.toList[k]? = some (.int .u8 (b.toNat : Int)) := by simpa using hb
    rw [hb']
    simp
  · rw [List.getElem?_eq_none (by simp; omega)]
    rfl
/-- An array of words by value. -/
theorem open_words {t e : TypeId} {n b0 : Nat} {r : Reach} {v : Value} {d : DataW H} {p : List MemPlace} (ht : P.underlying t = some (.array n e)) (he : P.underlying e = some (.int .u32)) (hc : P.cellsOf e = 1) (hn : P.cellsOf t = n)
    (hv : Value.okWide P w r b0 t v) (h : DataW.Trod enc P w base sp held t v d p) : ∃ l : List Nat, v = .agg (u32v l).toArray ∧ l.length = n ∧ ∀ x ∈ l, x < 4294967296 := by
  obtain ⟨cs, rfl⟩ : ∃ cs, v = .agg cs := by
    simp only [Value.okWide, ht] at hv
    obtain ⟨cs, h1, _⟩ := hv
    exact ⟨cs, h1⟩
  obtain ⟨fuel, hf⟩ := h
  obtain ⟨xs, m, rfl, _, hlen, hxl, hel⟩ := DataW.trod_array ht hf
  rw [hn] at hlen
  have hlen' : cs.size = n := by simpa [Value.cells] using hlen
  have hat : ∀ k, k < n → ∃ b : Nat, b < 4294967296 ∧ cs[k]? = some (.int .u32 (b : Int)) := by
    intro k hk
    have h2 := hel k hk
    rw [hc, Nat.mul_one] at h2
    have h3 : xs[k]? = some (xs[k]'(by omega)) := List.getElem?_eq_getElem (by omega)
    rw [h3] at h2
    obtain ⟨q, e1, _, hw⟩ := DataW.trod_int he h2
    have h5 := one_of_slice e1
    have h6 : 0 ≤ q ∧ q ≤ 4294967295 := by simpa [Lit.wf, IntKind.min, IntKind.max, IntKind.signed, IntKind.bits] using hw
    refine ⟨q.toNat, by omega, ?_⟩
    have h7 : cs[k]? = some (.int .u32 q) := by simpa [Value.cells] using h5
    rw [h7]
    congr 2
    omega
  refine ⟨cs.toList.map fun v => match v with | .int _ q => q.toNat | _ => 0, ?_, by simpa using hlen', ?_⟩
  · congr 1
    apply Array.ext'
    simp only [u32v, List.map_map]
    apply List.ext_getElem?
    intro k
    rw [List.getElem?_map]
    by_cases hk : k < n
    · obtain ⟨b, _, hb⟩ := hat k hk
      have hb' : cs.toList[k]? = some (.int .u32 (b : Int)) := by simpa using hb
      rw [hb']
      simp
    · rw [List.getElem?_eq_none (by simp; omega)]
      rfl
  · intro x hx
    obtain ⟨v, hv2, rfl⟩ := List.mem_map.1 hx
    obtain ⟨k, hk, rfl⟩ := List.mem_iff_getElem.1 hv2
    have hk' : k < n := by simpa [hlen'] using hk
    obtain ⟨b, hb1, hb2⟩ := hat k hk'
    have hb' : cs.toList[k]? = some (.int .u32 (b : Int)) := by simpa using hb2
    rw [List.getElem?_eq_getElem hk] at hb'
    injection hb' with hb'
    rw [hb']
    simpa using hb1
end

theorem u32_of_wf {a : Int} (h : (Lit.int .u32 a).wf = true) : ∃ v : Nat, a = (v : Int) ∧ v < 4294967296 := by
  have h2 : 0 ≤ a ∧ a ≤ 4294967295 := by simpa [Lit.wf, IntKind.min, IntKind.max, IntKind.signed, IntKind.bits] using h
  exact ⟨a.toNat, by omega, by omega⟩
end Go.Proofs.YtaklbgikoeedbaaDoor
namespace Go.Proofs.YtaklbgikoeedbaaDoor
open Go.ChangeShapes Go.WideShapes Go.RowKit

theorem each_list {α : Type} {Q : Nat → α → Prop} : ∀ n : Nat, (∀ i, i < n → ∃ p, Q i p) → ∃ ps : List α, ps.length = n ∧ ∀ i p, ps[i]? = some p → Q i p
  | 0, _ => ⟨[], rfl, fun i p h => by simp at h⟩
  | n + 1, h => by
    obtain ⟨ps, hl, hq⟩ := each_list n (fun i hi => h i (by omega))
    obtain ⟨p, hp⟩ := h n (by omega)
    refine ⟨ps ++ [p], by simp [hl], fun i q hi => ?_⟩
    by_cases hin : i < n
    · rw [List.getElem?_append_left (by omega)] at hi; exact hq i q hi
    · have hi2 := (List.getElem?_eq_some_iff.1 hi).1
      simp [hl] at hi2
      have : i = n := by omega
      subst this
      rw [List.getElem?_append_right (by omega), hl, Nat.sub_self] at hi
      simp at hi
      subst hi; exact hp
section
variable {H : Type} {enc : TypeId × Value → H} {P : Program} {w : World} {held : Bool}
theorem open_parts {t e u : TypeId} {a : Option Addr} {len cap : Nat} {d : DataW H} {p : List MemPlace} (ht : P.underlying t = some (.slice e)) (he : P.underlying e = some (.slice u)) (hu : P.underlying u = some (.int .u8)) (hce : P.cellsOf e = 1) (hcu : P.cellsOf u = 1)
    (h : DataW.Trod enc P w 0 (fun _ => true) held t (.slice a len cap) d p) : ∃ ps : List (List UInt8), Prt w w.heap.size a ps ∧ ps.length = len ∧ len ≤ cap := by
  obtain ⟨fuel, hf⟩ := h
  rcases DataW.trod_slice ht hf with ⟨hcs, _⟩ | ⟨x, l, c, elems, rest, n, _, hcs, _, _, hl, _, hlen, hel, _⟩
  · simp [Value.cells] at hcs
    obtain ⟨rfl, rfl, rfl⟩ := hcs
    exact ⟨[], .inl rfl, rfl, Nat.le_refl _⟩
  · simp [Value.cells] at hcs
    obtain ⟨rfl, rfl, rfl⟩ := hcs
    have each : ∀ i, i < len → ∃ q : List UInt8, ∃ Aj nj cj, w.cell? (x.add i) = some (.slice Aj nj cj) ∧ q.length = nj ∧ nj ≤ cj ∧ Byt w w.heap.size Aj q := by
      intro i hi
      have hE := hel i hi
      rw [hce, Nat.mul_one, List.getElem?_eq_getElem (by omega), Option.bind_eq_some_iff] at hE
      obtain ⟨c1, hc1, hy⟩ := hE
      have hone : ∃ v, c1 = [v] ∧ w.cell? (x.add i) = some v := by
        obtain ⟨h1, h2, h3⟩ := World.cells?_some hc1
        match c1, h2 with
        | [v], _ => exact ⟨v, rfl, cell_of_cells?_one hc1⟩
      obtain ⟨v, rfl, hv⟩ := hone
      rcases open_ints he hu hcu hy with ⟨hcs, _⟩ | ⟨x2, l2, c2, zs, hcs, _, hl2, hm2, hz, _, hcell, hwz⟩
      · simp at hcs
        subst hcs
        exact ⟨[], none, 0, 0, hv, rfl, Nat.le_refl _, Byt.none_⟩
      · simp at hcs
        subst hcs
        obtain ⟨q, hq1, hq2⟩ := bytes_of_row (.inr ⟨x2, rfl, hl2, hm2, by simpa using hz, hcell, hwz⟩)
        exact ⟨q, some x2, l2, c2, hv, hq2, hl2, hq1⟩
    obtain ⟨ps, hpl, hps⟩ := each_list len each
    refine ⟨ps, ?_, hpl, hl⟩
    rcases Nat.eq_zero_or_pos len with h0 | h0
    · exact .inl (List.eq_nil_of_length_eq_zero (by omega))
    · obtain ⟨q, Aj, nj, cj, hv, _⟩ := each 0 h0
      obtain ⟨b, off, spot⟩ := x
      have hspot : spot = none := by simpa [Addr.add] using World.cell?_spot hv
      subst hspot
      refine .inr ⟨b, off, rfl, ?_, fun j q hj => ?_⟩
      · exact World.block_lt_of_cell? w _ hv
      · obtain ⟨Aj, nj, cj, h1, h2, h3, h4⟩ := hps j q hj
        rw [addr_add] at h1
        exact ⟨Aj, nj, cj, h1, h2, h3, h4⟩
end
end Go.Proofs.YtaklbgikoeedbaaDoor
namespace Go.Proofs.YtaklbgikoeedbaaDoor
open Go.ChangeShapes Go.WideShapes Go.RowKit

/-- What the row lists. -/
def laid2 : List (String × DataW Unit) := Rows.journalKnownRow.laid
def Laid (_ : World) : Prop := True
theorem laid_of {w : World} (_ : laidMetH Tryd.prog laid2 w) : Laid w := trivial
end Go.Proofs.YtaklbgikoeedbaaDoor
