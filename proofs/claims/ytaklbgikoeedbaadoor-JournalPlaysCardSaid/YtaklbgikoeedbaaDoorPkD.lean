/-
  Words and contracts that other texts share, several in one text. No statement of the seat is proved here. Conditions: as each contract says.
  How a journal's file reads: parts, noughts, a part cut off. No statement is proved here. Conditions: none.
  The contract of a journal's take. Conditions: as it says.
  The contract of a journal's take, of file number 0: no base. Conditions: as it says.
  The contract of a journal's take, of file number 0: a base. Conditions: as it says.
-/
import Derived.Test.YtaklbgikoeedbaaDoorPkC
namespace Go.Proofs.YtaklbgikoeedbaaDoor

/-- What is read of bytes (s: something spoilt lies ahead): these records, and whether something is spoilt. -/
inductive Rd : Bool → List UInt8 → List (List UInt8) → Bool → Prop where
  | nil (s : Bool) : Rd s [] [] s
  | more (s : Bool) (p r : List UInt8) (rs : List (List UInt8)) (sp : Bool) : p.length ≤ 16384 → Rd s r rs sp → Rd s (pt 1 p ++ r) (if s then rs else p :: rs) sp
  | zero (s : Bool) (n : Nat) (r : List UInt8) (rs : List (List UInt8)) (sp : Bool) : 4 ≤ n → r.head? ≠ some 0 → Rd true r rs sp → Rd s (List.replicate n 0 ++ r) rs sp
  | torn (s : Bool) (p : List UInt8) (k : Nat) : p.length ≤ 16384 → 0 < k → k < 4 + p.length → Rd s ((pt 1 p).take k) [] true
theorem lz_rep : ∀ (n : Nat) (r : List UInt8), r.head? ≠ some 0 → lz (List.replicate n 0 ++ r) = n
  | 0, [], _ => rfl
  | 0, b :: r, h => by
    have hb : b ≠ 0 := fun e => h (by rw [e]; rfl)
    show lz (b :: r) = 0
    exact lz_ne r hb
  | n + 1, r, h => by
    rw [List.replicate_succ, List.cons_append, lz_zero, lz_rep n r h]
theorem pt_head (m : UInt8) (p r : List UInt8) : (pt m p ++ r)[0]? = some m := rfl
theorem pt_drop (m : UInt8) (p r : List UInt8) : (pt m p ++ r).drop (4 + p.length) = r := by
  rw [← pt_len m p]; exact List.drop_left
theorem pt_mid (m : UInt8) (p r : List UInt8) : ((pt m p ++ r).take (4 + p.length)).drop 4 = p := by
  rw [← pt_len m p, List.take_left]; rfl
theorem upto_pt (m : UInt8) (p r : List UInt8) : (uptoB 4 ((pt m p ++ r).take 4)).drop 1 = be p.length 3 := rfl
theorem reach_pt (m : UInt8) (p r : List UInt8) (h : p.length < 16777216) : reachN (pt m p ++ r) = 4 + p.length := by
  unfold reachN
  rw [upto_pt, List.take_of_length_le (by rw [be_len]; exact Nat.le_refl _), bn_be3 _ h]
theorem reach_one (a : UInt8) : reachN [a] = 4 := by simp [reachN, uptoB, bn]
theorem reach_two (a b : UInt8) : reachN [a, b] = 4 + b.toNat * 65536 := by simp [reachN, uptoB, bn, List.replicate]; omega
theorem reach_three (a b c : UInt8) : reachN [a, b, c] = 4 + (b.toNat * 65536 + c.toNat * 256) := by simp [reachN, uptoB, bn]; omega
theorem reach_torn (p : List UInt8) (k : Nat) (h : p.length ≤ 16384) (hk : 0 < k) (hk2 : k < 4 + p.length) : k < reachN ((pt 1 p).take k) ∧ reachN ((pt 1 p).take k) ≤ 16388 := by
  by_cases h4 : 4 ≤ k
  · have e : ((pt 1 p).take k).take 4 = (pt 1 p ++ []).take 4 := by rw [List.take_take, Nat.min_eq_left h4, List.append_nil]
    have e2 : reachN ((pt 1 p).take k) = reachN (pt 1 p ++ []) := by unfold reachN; rw [e]
    rw [e2, reach_pt 1 p [] (by omega)]; omega
  · generalize hn : p.length = n at *
    have hpt : pt 1 p = 1 :: UInt8.ofNat (n / 65536) :: UInt8.ofNat (n / 256) :: UInt8.ofNat n :: p := by
      unfold pt; rw [hn]; simp [be]
    have h1 : (UInt8.ofNat (n / 65536)).toNat = 0 := by simp; omega
    have h2 : (UInt8.ofNat (n / 256)).toNat ≤ 64 := by simp; omega
    have h3 : (UInt8.ofNat (n / 256)).toNat * 256 ≤ n := by simp; omega
    rw [hpt]
    have h5 : k = 1 ∨ k = 2 ∨ k = 3 := by omega
    rcases h5 with rfl | rfl | rfl
    · have e := reach_one 1
      show 1 < reachN [1] ∧ reachN [1] ≤ 16388
      rw [e]; omega
    · have e := reach_two 1 (UInt8.ofNat (n / 65536))
      show 2 < reachN [1, _] ∧ reachN [1, _] ≤ 16388
      rw [e, h1]; omega
    · have e := reach_three 1 (UInt8.ofNat (n / 65536)) (UInt8.ofNat (n / 256))
      show 3 < reachN [1, _, _] ∧ reachN [1, _, _] ≤ 16388
      rw [e, h1]; omega
theorem torn_head (p : List UInt8) (k : Nat) (hk : 0 < k) : ((pt 1 p).take k)[0]? = some 1 := by
  rw [List.getElem?_take_of_lt hk]; rfl
/-- It begins with no other mark than a record's, or noughts. -/
theorem Rd.head {s : Bool} {b : List UInt8} {rs : List (List UInt8)} {sp : Bool} (h : Rd s b rs sp) : ∀ x, b[0]? = some x → x = 0 ∨ x = 1 := by
  intro x hx
  cases h with
  | nil => simp at hx
  | more _ p r rs sp hp hr => rw [pt_head] at hx; injection hx with hx; exact .inr hx.symm
  | zero _ n r _ _ hn hh hr =>
    obtain ⟨m, rfl⟩ : ∃ m, n = m + 1 := ⟨n - 1, by omega⟩
    rw [List.replicate_succ] at hx
    simp at hx; exact .inl hx.symm
  | torn _ p k hp hk hk2 => rw [torn_head p k hk] at hx; injection hx with hx; exact .inr hx.symm
end Go.Proofs.YtaklbgikoeedbaaDoor
namespace Go.Proofs.YtaklbgikoeedbaaDoor
open Go.RowKit

def hdB : Option (List UInt8) → List UInt8
  | none => []
  | some x => pt 2 x
theorem BytF.cut {w : World} {F : Nat → Prop} {A : Option Addr} {l : List UInt8} (h : BytF w F A l) (s c : Nat) (hc : l.length ≤ c) : BytF w F (if c = s then A else A.map (·.add s)) (l.drop s) := by
  rcases h with h | ⟨b, o, rfl, hF, hlt, hcell⟩
  · subst h; exact .inl (by simp)
  · by_cases ht : c = s
    · exact .inl (List.drop_eq_nil_of_le (by omega))
    · rw [if_neg ht]
      refine .inr ⟨b, o + s, by rw [Option.map_some, addr_add], hF, hlt, fun j x hj => ?_⟩
      rw [List.getElem?_drop] at hj
      rw [Nat.add_assoc]; exact hcell _ x hj
theorem byte0 {w : World} {B : Nat} {A : Option Addr} {l : List UInt8} {v : UInt8} (h : Byt w B A l) (hv : l[0]? = some v) : ∃ g o, A = some ⟨g, o, none⟩ ∧ w.cell? ⟨g, o, none⟩ = some (.int .u8 (v.toNat : Int)) := by
  rcases h with h | ⟨g, o, hA, _, hc⟩
  · subst h; simp at hv
  · exact ⟨g, o, hA, hc 0 v hv⟩
section
variable {w0 W W' : World} {j d N : Nat} {S : Dk} {J : Jv}
theorem push_own2 {D G : Nat → Prop} {Q Q2 : Option Addr} {a b : Nat} (hG : ∀ i, G i ↔ JnG D j Q i) (hq : ∀ p, Q2 = some p → (∃ q, Q = some q ∧ p.block = q.block) ∨ b ≤ p.block) (hab : a ≤ b) :
    ∀ i, JnG (fun i => D i ∨ a ≤ i ∧ i < b) j Q2 i → G i ∨ a ≤ i := fun i hi => by
  rcases hi with hi | ⟨p, hp, hi⟩ | hi | hi
  · exact .inl ((hG i).2 (.inl hi))
  · rcases hq p hp with ⟨q, hq, hb⟩ | hb
    · exact .inl ((hG i).2 (.inr (.inl ⟨q, hq, by rw [hi, hb]⟩)))
    · right; omega
  · exact .inl ((hG i).2 (.inr (.inr hi)))
  · right; omega
set_option maxRecDepth 100000 in
set_option maxHeartbeats 1000000 in
theorem jtake_far {M : World → (Nat → Prop) → Prop} (hM : Kp M) (h : Hold w0 W d N S (JnOb j d J) M) (A : Option Addr) (b : List UInt8) (n c : Nat) (hp : ∀ W F, M W F → BytF W F A b) (hlen : b.length = n) (hcap : n ≤ c) (hn : n ≤ 1073741824) (hlast : J.last ≠ 0) (rs : List (List UInt8)) (sp : Bool) (hrd : Rd false b rs sp) (hrl : (J.recs ++ rs).length ≤ 1073741824) :
    Calls Tryd.prog 35 #[.pointer (some ⟨j, 0, none⟩), .slice A n c] W fun e w' => e = .returned (.tuple #[.bool sp, .bool true]) ∧ Hold w0 w' d N S (JnOb j d { J with recs := J.recs ++ rs }) M := by
  have HLen := Lib.hid hlen
  have hcut := run_cut_l (P := Tryd.prog) Tryd.underlying31 Tryd.sizeByte
  have hcuth := run_cut_lh (P := Tryd.prog) Tryd.underlying31 Tryd.sizeByte
  have hB1 : Vlt (∀ W F, M W F → BytF W F A b) := vlt hp
  have hL1 : Hid (b.length = n) := HLen
  have hC1 : n ≤ c := hcap
  have hN1 : n ≤ n := Nat.le_refl _
  have hh1 := h
  have c5 := h.c5
  have hl5 : ¬ (J.last : Int) = 0 := by omega
  clear h hlen
  go_enter Tryd.func35, Tryd.ntmps35
  go_wp2_with fail
  go_loopw [1, 4] (fun yy sl wr => ∃ (s : Bool) (A2 : Option Addr) (n2 c2 : Nat) (bd : List UInt8) (rs2 R : List (List UInt8)), yy = .slice A2 n2 c2 ∧ sl = .bool s ∧ Vlt (∀ W F, M W F → BytF W F A2 bd) ∧ Hid (bd.length = n2) ∧ n2 ≤ c2 ∧ Vlt (Rd s bd rs2 sp) ∧ Vlt (R ++ rs2 = J.recs ++ rs) ∧ Hold w0 wr d N S (JnOb j d { J with recs := R }) M ∧ n2 ≤ n) (fun yy _ _ => slen yy)
  case atStart => exact ⟨false, _, _, _, _, rs, J.recs, rfl, rfl, hB1, hL1, hC1, vlt hrd, vlt rfl, hh1, hN1⟩
  case round =>
    obtain ⟨s, A2, n2, c2, bd, rs2, R, rfl, rfl, hB2, hL2, hC2, hR2, hE2, hh2, hN2⟩ := hrel
    have hRl : R.length ≤ 1073741824 := by
      have h := congrArg List.length hE2.out
      rw [List.length_append] at h
      omega
    have hbyt := (hB2.out _ _ (hh2.data hM)).byt
    have hR := hR2.out
    clear hR2
    cases hR with
    | nil =>
      obtain rfl : n2 = 0 := hL2.out.symm
      have hEE := vlt (show R = J.recs ++ rs by have h := hE2.out; rwa [List.append_nil] at h)
      clear hE2 hcut hcuth
      go_wp2
      go_ret2
      exact ⟨rfl, by rw [← hEE.out]; exact hh2⟩
    | more _ p r rs' _ hpl hrr =>
      have hn2 : n2 = 4 + p.length + r.length := by rw [← hL2.out, List.length_append, pt_len]
      have hre := reach_any wr A2 _ n2 c2 hbyt hL2.out
      rw [reach_pt 1 p r (by omega)] at hre
      obtain ⟨g, o, rfl, hcell⟩ := byte0 hbyt (pt_head 1 p r)
      have hcell : wr.cell? ⟨g, o, none⟩ = some (.int .u8 1) := hcell
      have hlp : Hid (p.length + (4 + r.length) = n2) := show _ = _ by omega
      obtain ⟨k, hk⟩ : ∃ k, k = p.length := ⟨_, rfl⟩
      have hkp : Hid (p.length = k) := hk.symm
      rw [← hk] at hre hn2 hpl
      have hcc := hcut (some ⟨g, o, none⟩) n2 c2 (4 + k) (4 + (k : Int)) (by omega) (by omega)
      have hB3 : Vlt (∀ W F, M W F → BytF W F (if c2 = 4 + k then some (⟨g, o, none⟩ : Addr) else (some (⟨g, o, none⟩ : Addr)).map (·.add (4 + k))) r) := vlt fun W F hm => by
        have h1 := (hB2.out W F hm).cut (4 + k) c2 (by rw [hL2.out]; exact hC2)
        rw [hk, pt_drop] at h1
        rw [hk]; exact h1
      generalize (if c2 = 4 + k then some (⟨g, o, none⟩ : Addr) else (some (⟨g, o, none⟩ : Addr)).map (·.add (4 + k))) = A3 at *
      have hL3 : Hid (r.length = n2 - (4 + k)) := show _ = _ by omega
      have hC3 : n2 - (4 + k) ≤ c2 - (4 + k) := by omega
      have hrr2 := vlt hrr
      have hn2' : 4 + k ≤ n2 := by omega
      clear hrr hk hn2
      cases s with
      | true =>
        have hE3 : Vlt (R ++ rs' = J.recs ++ rs) := hE2
        clear hE2 hbyt hcuth
        go_wp2_with fail
        refine hre.mono ?_
        rintro e w3 ⟨rfl, hb3⟩
        clear hre
        have hcell3 : w3.cell? ⟨g, o, none⟩ = some (.int .u8 1) := (hb3.cell (p := ⟨g, o, none⟩) (World.block_lt_of_cell? wr _ hcell)).trans hcell
        have hh3 := hh2.next (jnOb _ _ _) hM hb3
        clear hh2 hb3 hcell hB2
        go_wp2
        go_roundw
        case rel => exact ⟨true, A3, n2 - (4 + k), c2 - (4 + k), r, rs', R, rfl, rfl, hB3, hL3, hC3, hrr2, hE3, hh3, by omega⟩
        case measure => simp [slen]; omega
      | false =>
        have hE3 : Vlt ((R ++ [p]) ++ rs' = J.recs ++ rs) := vlt (by rw [List.append_assoc]; exact hE2.out)
        have hch := hcuth (some ⟨g, o, none⟩) n2 c2 4 (4 + k) 4 (4 + (k : Int)) rfl (by omega) (by omega) (by omega)
        have hB4 : Vlt (∀ W F, M W F → BytF W F (if c2 = 4 then some (⟨g, o, none⟩ : Addr) else (some (⟨g, o, none⟩ : Addr)).map (·.add 4)) p) := vlt fun W F hm => by
          have h1 := ((hB2.out W F hm).take (4 + k)).cut 4 c2 (by rw [List.length_take, hL2.out]; omega)
          rw [← hkp.out, pt_mid] at h1
          exact h1
        generalize (if c2 = 4 then some (⟨g, o, none⟩ : Addr) else (some (⟨g, o, none⟩ : Addr)).map (·.add 4)) = A4 at *
        have e4 : 4 + k - 4 = k := by omega
        rw [e4] at hch
        clear hE2 hbyt e4
        go_wp2_with fail
        refine hre.mono ?_
        rintro e w3 ⟨rfl, hb3⟩
        clear hre
        have hcell3 : w3.cell? ⟨g, o, none⟩ = some (.int .u8 1) := (hb3.cell (p := ⟨g, o, none⟩) (World.block_lt_of_cell? wr _ hcell)).trans hcell
        have hh3 := (hh2.next (jnOb _ _ _) hM hb3).drew (jnOb _ _ _) hM
        clear hh2 hb3 hcell hB2
        have hby4 := (hB4.out _ _ (hh3.data hM)).byt
        have hcl := bclone_any w3.drew A4 p k (c2 - 4) hby4 hkp.out (by omega)
        obtain ⟨O, G, h1, ⟨D, Bb, bn, bc, Q, m, z, vs, hat, hG⟩, h3, h4, h5, h6, h7⟩ := hh3
        obtain ⟨hvm, _, _⟩ := owns_size hat.own
        have hm : m ≤ 1073741824 := by rw [← hvm, hat.recs.1]; exact hRl
        have c4 := (row6 hat.row).1.2.2.2.2.1
        go_upto_region 20 with fail
        refine c_start (S := (fun W' => W'.cell? ⟨j, 4, none⟩ = some (.slice Q m z))) 13 (by kernel_rfl) (c4) (fun hHeld => ?_)
        refine c_take (i := 0) (oi := ⟨(some 74), _, _, _, _, _⟩) (v := ?vq1_0) rfl (by decide) (by kernel_rfl) (by kernel_rfl) (by kernel_rfl) (fun _ _ _ h => h) (Or.inl ⟨by rfl, ?yq1_0⟩) hHeld ?_
        case yq1_0 => (intro W0 hSw; go_simp; try with_reducible rfl)
        try simp only [Act.put, List.setIfInBounds_toArray, List.set_cons_zero, List.set_cons_succ]
        refine c_take (i := 1) (oi := ⟨(some 75), _, _, _, _, _⟩) (v := ?vq1_1) rfl (by decide) (by kernel_rfl) (by kernel_rfl) (by kernel_rfl) (fun _ _ _ h => h) (Or.inl ⟨by rfl, ?yq1_1⟩) hHeld ?_
        case yq1_1 => (intro W0 hSw; go_simp; try with_reducible rfl)
        try simp only [Act.put, List.setIfInBounds_toArray, List.set_cons_zero, List.set_cons_succ]
        refine c_take (i := 2) (oi := ⟨(some 76), _, _, _, _, _⟩) (v := ?vq1_2) rfl (by decide) (by kernel_rfl) (by kernel_rfl) (by kernel_rfl) (fun _ _ _ h => h) (Or.inl ⟨by rfl, ?yq1_2⟩) hHeld ?_
        case yq1_2 => (intro W0 hSw; go_simp; try with_reducible rfl)
        try simp only [Act.put, List.setIfInBounds_toArray, List.set_cons_zero, List.set_cons_succ]
        refine c_take (i := 3) (oi := ⟨(some 77), _, _, _, _, _⟩) (v := ?vq1_3) rfl (by decide) (by kernel_rfl) (by kernel_rfl) (by kernel_rfl) (fun _ _ _ h => h) (Or.inl ⟨by rfl, ?yq1_3⟩) hHeld ?_
        case yq1_3 => (intro W0 hSw; go_simp; try with_reducible rfl)
        try simp only [Act.put, List.setIfInBounds_toArray, List.set_cons_zero, List.set_cons_succ]
        refine c_read (i := 4) (oi := ⟨(some 78), _, _, _, _, _⟩) (v := ?vq1_4) rfl (by decide) (by kernel_rfl) (by kernel_rfl) (by kernel_rfl) (by kernel_rfl) (by kernel_rfl) (fun _ _ _ h => h) (Or.inl ⟨by rfl, ?yq1_4⟩) hHeld ?_
        case yq1_4 => (intro W0 hSw; go_simp; try with_reducible rfl)
        try simp only [Act.put, List.setIfInBounds_toArray, List.set_cons_zero, List.set_cons_succ]
        refine c_take (i := 5) (oi := ⟨(some 79), _, _, _, _, _⟩) (v := ?vq1_5) rfl (by decide) (by kernel_rfl) (by kernel_rfl) (by kernel_rfl) (fun _ _ _ h => h) (Or.inl ⟨by rfl, ?yq1_5⟩) hHeld ?_
        case yq1_5 => (intro W0 hSw; go_simp; try with_reducible rfl)
        try simp only [Act.put, List.setIfInBounds_toArray, List.set_cons_zero, List.set_cons_succ]
        refine c_take (i := 6) (oi := ⟨(some 80), _, _, _, _, _⟩) (v := ?vq1_6) rfl (by decide) (by kernel_rfl) (by kernel_rfl) (by kernel_rfl) (fun _ _ _ h => h) (Or.inl ⟨by rfl, ?yq1_6⟩) hHeld ?_
        case yq1_6 => (intro W0 hSw; go_simp; try with_reducible rfl)
        try simp only [Act.put, List.setIfInBounds_toArray, List.set_cons_zero, List.set_cons_succ]
        refine c_take (i := 7) (oi := ⟨(some 81), _, _, _, _, _⟩) (v := ?vq1_7) rfl (by decide) (by kernel_rfl) (by kernel_rfl) (by kernel_rfl) (fun _ _ _ h => h) (Or.inl ⟨by rfl, ?yq1_7⟩) hHeld ?_
        case yq1_7 => (intro W0 hSw; go_simp; try with_reducible rfl)
        try simp only [Act.put, List.setIfInBounds_toArray, List.set_cons_zero, List.set_cons_succ]
        refine c_step (i := 8) (o := ⟨(some 82), _, _, _, _, _⟩) (by kernel_rfl) rfl (fun K hK => ?_)
        go_simp
        refine hcl.mono ?_
        rintro e w8 ⟨A8, c8, rfl, hr8, hb8⟩
        clear hcl
        have hof8 : Off (fun _ => False) w3.drew w8 := Off.of_below hb8 fun i a b => by omega
        have hat8 := hat.off hof8 (fun _ _ h => h)
        refine hK.out _ _ ((row6 hat8.row).1.2.2.2.2.1) (fun hHeld => ?_)
        clear hK K
        try simp only [Act.put, List.setIfInBounds_toArray, List.set_cons_zero, List.set_cons_succ]
        refine c_step (i := 9) (o := ⟨(some 83), _, _, _, _, _⟩) (by kernel_rfl) rfl (fun K hK => ?_)
        go_simp
        have hb9 := hb8.alloc (by have := hb8.size; omega) (.cells #[.slice A8 k c8] 31)
        have hof9 : Off (fun _ => False) w3.drew (w8.alloc (.cells #[.slice A8 k c8] 31)) := Off.of_below hb9 fun i a b => by omega
        have hat9 := hat.off hof9 (fun _ _ h => h)
        have hus := heap_alloc_new w8 (.cells #[.slice A8 k c8] 31)
        have hpl : PL (w8.alloc (.cells #[.slice A8 k c8] 31)) (fun i => w3.drew.heap.size ≤ i ∧ i < w8.heap.size) [.slice A8 k c8] [p] := PL.one (((hr8.inF (F := fun i => w3.drew.heap.size ≤ i) fun i h => h).mono fun i h1 h2 => (⟨h2, h1⟩ : w3.drew.heap.size ≤ i ∧ i < w8.heap.size)).off ((Off.refl (fun _ => False) w8).alloc _) fun _ _ _ h => h) hkp.out hr8.cap
        refine hK.out _ _ ((row6 hat9.row).1.2.2.2.2.1) (fun hHeld => ?_)
        clear hK K
        try simp only [Act.put, List.setIfInBounds_toArray, List.set_cons_zero, List.set_cons_succ]
        obtain ⟨V9, hV9⟩ : ∃ V9, V9 = w8.alloc (.cells #[.slice A8 k c8] 31) := ⟨_, rfl⟩
        have hV9s : V9.heap.size = w8.heap.size + 1 := by rw [hV9]; simp
        rw [← hV9] at hb9 hof9 hat9 hus hpl hHeld ⊢
        have hb8s := hb8.size
        clear hV9 hat8 hof8 hb8 hr8
        refine c_step (i := 10) (o := ⟨(some 84), _, _, _, _, _⟩) (by kernel_rfl) rfl (fun K hK => ?_)
        refine step_append_row V9 rfl (.tmp 78) (.tmp 83) 32 rfl 31 Tryd.underlying32 (.slice none 0 0) 1 24 Tryd.infoSlc rfl (by decide) (by decide) Q m z vs rfl hat9.own (some ⟨w8.heap.size, 0, none⟩) 1 1 rfl [.slice A8 k c8] (fun _ => ⟨_, rfl, fun i u hi => by rw [addr_add, Nat.zero_add, cell_of_row _ _ _ _ _ _ hus]; simpa using hi⟩) hpl.single rfl (by omega) ?_
        intro Q2 z2 w9 hown9 hgr9 hq9 _ _
        have hrow9 := grown_row hgr9 hat9.qne hat9.row
        refine hK.out _ _ ((row6 hrow9).1.2.2.2.2.1) (fun hHeld => ?_)
        clear hK K
        try simp only [Act.put, List.setIfInBounds_toArray, List.set_cons_zero, List.set_cons_succ]
        refine c_take (i := 11) (oi := ⟨(some 85), _, _, _, _, _⟩) (v := ?vq1_8) rfl (by decide) (by kernel_rfl) (by kernel_rfl) (by kernel_rfl) (fun _ _ _ h => h) (Or.inl ⟨by rfl, ?yq1_8⟩) hHeld ?_
        case yq1_8 => (intro W0 hSw; go_simp; try with_reducible rfl)
        try simp only [Act.put, List.setIfInBounds_toArray, List.set_cons_zero, List.set_cons_succ]
        refine c_take (i := 12) (oi := ⟨(some 86), _, _, _, _, _⟩) (v := ?vq1_9) rfl (by decide) (by kernel_rfl) (by kernel_rfl) (by kernel_rfl) (fun _ _ _ h => h) (Or.inl ⟨by rfl, ?yq1_9⟩) hHeld ?_
        case yq1_9 => (intro W0 hSw; go_simp; try with_reducible rfl)
        try simp only [Act.put, List.setIfInBounds_toArray, List.set_cons_zero, List.set_cons_succ]
        have hqlt := owns_lt hat.own
        have hofq : Off (fun b => ∃ a, Q = some a ∧ b = a.block) V9 w9 := grown_off hgr9 fun a ha => ⟨a, ha, rfl⟩
        have hpl9 : PL w9 (fun i => w3.drew.heap.size ≤ i ∧ i < V9.heap.size) [.slice A8 k c8] [p] := (hpl.off hofq (fun b _ hb ⟨a, ha, e⟩ => by have := hqlt a ha; omega)).mono (fun i h1 h2 => ⟨h2.1, by omega⟩)
        have hat10 := hat9.push hpl9 hgr9 hown9 hq9 (fun i hi => ⟨hi.2, by have := hat.ltj; omega, fun a ha e => by have := hqlt a ha; omega⟩)
        have hoff10 : Off G w3.drew (w9.setCell ⟨j, 4, none⟩ (.slice Q2 (m + 1) z2)) := ((hof9.mono (G := G) (fun _ _ h => h.elim)).trans hofq (fun i ⟨a, ha, e⟩ => .inl ((hG i).2 (.inr (.inl ⟨a, ha, e⟩))))).set (.inl ((hG j).2 (.inl rfl))) _
        have hend : Hold w0 (w9.setCell ⟨j, 4, none⟩ (.slice Q2 (m + 1) z2)) d N S (JnOb j d { J with recs := R ++ [p] }) M := Hold.rawG hM h1 h3 h4 h5 h6 h7 ⟨_, _, _, _, _, _, _, _, hat10, fun _ => Iff.rfl⟩ (push_own2 hG hq9 (by omega)) hoff10
        have c4b := (row6 hrow9).1.2.2.2.2.1
        have f4b := (row6 hrow9).2 4
        clear hoff10 hat10 hpl9 hofq hqlt hrow9 hq9 hgr9 hown9 hpl hus hat9 hat h1 h3 h4 h5 h6 h7
        refine c_call (S' := (fun _ => True)) (o := ⟨none, _, _, _, _, _⟩) (by kernel_rfl) (by kernel_rfl) rfl (fun K hK => ?_)
        clear hHeld
        go_simp
        refine hK.out _ _ (trivial) (fun hHeld => ?_)
        clear hK K
        try simp only [Act.put]
        refine wpAnyH_done (by kernel_rfl) ?_ _
        clear hHeld
        go_wp2
        go_roundw
        case rel => exact ⟨false, A3, n2 - (4 + k), c2 - (4 + k), r, rs', R ++ [p], rfl, rfl, hB3, hL3, hC3, hrr2, hE3, hend, by omega⟩
        case measure => simp [slen]; omega
    | zero _ m r _ _ hm4 hhd hrr =>
      have hz := lz_rep m r hhd
      have hn2 : n2 = m + r.length := by rw [← hL2.out, List.length_append, List.length_replicate]
      have hre := reach_any wr A2 _ n2 c2 hbyt hL2.out
      have h00 : (List.replicate m (0 : UInt8) ++ r)[0]? = some 0 := by
        obtain ⟨m', rfl⟩ : ∃ m', m = m' + 1 := ⟨m - 1, by omega⟩
        rw [List.replicate_succ]; rfl
      have hlt := reachN_lt (List.replicate m (0 : UInt8) ++ r)
      generalize reachN (List.replicate m (0 : UInt8) ++ r) = q at *
      obtain ⟨g, o, rfl, hcell⟩ := byte0 hbyt h00
      have hcell : wr.cell? ⟨g, o, none⟩ = some (.int .u8 0) := hcell
      have hB3 : Vlt (∀ W F, M W F → BytF W F (if c2 = m then some (⟨g, o, none⟩ : Addr) else (some (⟨g, o, none⟩ : Addr)).map (·.add m)) r) := vlt fun W F hm => by
        have h1 := (hB2.out W F hm).cut m c2 (by rw [hL2.out]; exact hC2)
        have e : (List.replicate m (0 : UInt8) ++ r).drop m = r := by
          have e2 : (List.replicate m (0 : UInt8)).length = m := by simp
          rw [show (List.replicate m (0 : UInt8) ++ r).drop m = (List.replicate m (0 : UInt8) ++ r).drop (List.replicate m (0 : UInt8)).length by rw [e2]]
          exact List.drop_left
        rw [e] at h1; exact h1
      have hcc := hcut (some ⟨g, o, none⟩) n2 c2 m (m : Int) rfl (by omega)
      generalize (if c2 = m then some (⟨g, o, none⟩ : Addr) else (some (⟨g, o, none⟩ : Addr)).map (·.add m)) = A3 at *
      have hL3 : Hid (r.length = n2 - m) := show _ = _ by omega
      have hC3 : n2 - m ≤ c2 - m := by omega
      have hrr2 := vlt hrr
      have hn2' : m ≤ n2 := by omega
      clear hrr hcuth hn2
      go_wp2_with fail
      refine hre.mono ?_
      rintro e w3 ⟨rfl, hb3⟩
      clear hre
      have hcell3 : w3.cell? ⟨g, o, none⟩ = some (.int .u8 0) := (hb3.cell (p := ⟨g, o, none⟩) (World.block_lt_of_cell? wr _ hcell)).trans hcell
      have hnt := noughts_any w3 (some ⟨g, o, none⟩) (List.replicate m 0 ++ r) n2 c2 (hbyt.next hb3) hL2.out hC2 (by omega)
      rw [hz] at hnt
      have hh3 := hh2.next (jnOb _ _ _) hM hb3
      clear hh2 hb3 hcell hB2 hbyt h00 hhd hz
      go_wp2_with fail
      refine hnt.mono ?_
      rintro e w4 ⟨rfl, rfl⟩
      clear hnt
      have hm4' : ¬ (m : Int) < 4 := by omega
      go_wp2
      go_roundw
      case rel => exact ⟨true, A3, n2 - m, c2 - m, r, rs2, R, rfl, rfl, hB3, hL3, hC3, hrr2, hE2, hh3, by omega⟩
      case measure => simp [slen]; omega
    | torn _ p k hpl hk hk2 =>
      have hEE : Vlt (R ++ [] = J.recs ++ rs) := hE2
      have hn2 : n2 = k := by rw [← hL2.out, List.length_take, pt_len]; omega
      subst hn2
      have hre := reach_any wr A2 _ n2 c2 hbyt hL2.out
      obtain ⟨hr1, hr2⟩ := reach_torn p n2 hpl hk hk2
      obtain ⟨g, o, rfl, hcell⟩ := byte0 hbyt (torn_head p n2 hk)
      have hcell : wr.cell? ⟨g, o, none⟩ = some (.int .u8 1) := hcell
      generalize reachN ((pt 1 p).take n2) = q at *
      have hr1' : (n2 : Int) < (q : Int) := by omega
      have hr2' : ¬ (16388 : Int) < (q : Int) := by omega
      have hcc := hcut (some ⟨g, o, none⟩) n2 c2 n2 (n2 : Int) rfl (Nat.le_refl _)
      rw [Nat.sub_self] at hcc
      generalize (if c2 = n2 then some (⟨g, o, none⟩ : Addr) else (some (⟨g, o, none⟩ : Addr)).map (·.add n2)) = A3 at *
      clear hE2 hbyt hcuth
      go_wp2_with fail
      refine hre.mono ?_
      rintro e w3 ⟨rfl, hb3⟩
      clear hre
      have hcell3 : w3.cell? ⟨g, o, none⟩ = some (.int .u8 1) := (hb3.cell (p := ⟨g, o, none⟩) (World.block_lt_of_cell? wr _ hcell)).trans hcell
      have hh3 := hh2.next (jnOb _ _ _) hM hb3
      clear hh2 hb3 hcell hB2
      go_wp2
      go_roundw
      case rel => exact ⟨true, A3, 0, c2 - n2, [], [], R, rfl, rfl, vlt fun W F _ => .inl rfl, rfl, by omega, vlt (Rd.nil true), hEE, hh3, by omega⟩
      case measure => simp [slen]; omega
end
end Go.Proofs.YtaklbgikoeedbaaDoor
namespace Go.Proofs.YtaklbgikoeedbaaDoor
open Go.RowKit
section
variable {w0 W W' : World} {j d N : Nat} {S : Dk} {J : Jv}
set_option maxRecDepth 100000 in
set_option maxHeartbeats 1000000 in
theorem jtake_empty {M : World → (Nat → Prop) → Prop} (h : Hold w0 W d N S (JnOb j d J) M) (A : Option Addr) (b : List UInt8) (n c : Nat) (hp : ∀ W F, M W F → BytF W F A b) (hlen : b.length = n) (hcap : n ≤ c) (hn : n ≤ 1073741824) (hlast : J.last = 0) (hn0 : n = 0) (rs : List (List UInt8)) (sp : Bool) (hrd : Rd false b rs sp) (hrl : (J.recs ++ rs).length ≤ 1073741824) :
    Calls Tryd.prog 35 #[.pointer (some ⟨j, 0, none⟩), .slice A n c] W fun e w' => e = .returned (.tuple #[.bool sp, .bool true]) ∧ Hold w0 w' d N S (JnOb j d { J with recs := J.recs ++ rs }) M := by
  have HLen := Lib.hid hlen
  have hrl2 := hrl
  have hn1 := hn
  have hcap1 := hcap
  have hp1 := hp
  subst hn0
  have hb0 : b = [] := List.eq_nil_of_length_eq_zero hlen
  subst hb0
  have hfin : Vlt (sp = false ∧ rs = []) := vlt (by
    generalize hz : ([] : List UInt8) = z at hrd
    cases hrd with
    | nil => exact ⟨rfl, rfl⟩
    | more _ p r => have h := congrArg List.length hz; rw [List.length_append, pt_len] at h; simp at h; omega
    | zero _ m r _ _ hm => have h := congrArg List.length hz; simp at h; omega
    | torn _ p k hp hk hk2 => have h := congrArg List.length hz; rw [List.length_take, pt_len] at h; simp at h; omega)
  have c5 := h.c5
  have hl5 : (J.last : Int) = 0 := by omega
  rw [hl5] at c5
  clear hrd hlen
  go_enter Tryd.func35, Tryd.ntmps35
  go_wp2_with fail
  go_loopw [1, 4] (fun x sl wr => x = .slice A 0 c ∧ sl = .bool false ∧ wr = W) (fun x _ _ => slen x)
  case atStart => exact ⟨rfl, rfl, rfl⟩
  case round =>
    obtain ⟨rfl, rfl, rfl⟩ := hrel
    go_wp2
    go_ret2
    exact ⟨by rw [hfin.out.1]; rfl, by rw [hfin.out.2, List.append_nil]; exact h⟩
set_option maxRecDepth 100000 in
set_option maxHeartbeats 1000000 in
theorem jtake_plain0 {M : World → (Nat → Prop) → Prop} (hM : Kp M) (h : Hold w0 W d N S (JnOb j d J) M) (A : Option Addr) (b : List UInt8) (n c : Nat) (hp : ∀ W F, M W F → BytF W F A b) (hlen : b.length = n) (hcap : n ≤ c) (hn : n ≤ 1073741824) (hlast : J.last = 0) (hn0 : 0 < n) (hv : b[0]? = some 0) (rs : List (List UInt8)) (sp : Bool) (hrd : Rd false b rs sp) (hrl : (J.recs ++ rs).length ≤ 1073741824) :
    Calls Tryd.prog 35 #[.pointer (some ⟨j, 0, none⟩), .slice A n c] W fun e w' => e = .returned (.tuple #[.bool sp, .bool true]) ∧ Hold w0 w' d N S (JnOb j d { J with recs := J.recs ++ rs }) M := by
  have HLen := Lib.hid hlen
  have hcut := run_cut_l (P := Tryd.prog) Tryd.underlying31 Tryd.sizeByte
  have hcuth := run_cut_lh (P := Tryd.prog) Tryd.underlying31 Tryd.sizeByte
  have hB1 : Vlt (∀ W F, M W F → BytF W F A b) := vlt hp
  have hL1 : Hid (b.length = n) := HLen
  have hC1 : n ≤ c := hcap
  have hN1 : n ≤ n := Nat.le_refl _
  have hh1 := h
  have c5 := h.c5
  have hl5 : (J.last : Int) = 0 := by omega
  have hn0' : (0 : Int) < (n : Int) := by omega
  rw [hl5] at c5
  obtain ⟨g, o, rfl, hcell⟩ := byte0 ((hp _ _ (h.data hM)).byt) hv
  have hcell : W.cell? ⟨g, o, none⟩ = some (.int .u8 0) := hcell
  clear h hlen hv
  go_enter Tryd.func35, Tryd.ntmps35
  go_wp2_with fail
  clear hcell c5
  go_loopw [1, 4] (fun yy sl wr => ∃ (s : Bool) (A2 : Option Addr) (n2 c2 : Nat) (bd : List UInt8) (rs2 R : List (List UInt8)), yy = .slice A2 n2 c2 ∧ sl = .bool s ∧ Vlt (∀ W F, M W F → BytF W F A2 bd) ∧ Hid (bd.length = n2) ∧ n2 ≤ c2 ∧ Vlt (Rd s bd rs2 sp) ∧ Vlt (R ++ rs2 = J.recs ++ rs) ∧ Hold w0 wr d N S (JnOb j d { J with recs := R }) M ∧ n2 ≤ n) (fun yy _ _ => slen yy)
  case atStart => exact ⟨false, _, _, _, _, rs, J.recs, rfl, rfl, hB1, hL1, hC1, vlt hrd, vlt rfl, hh1, hN1⟩
  case round =>
    obtain ⟨s, A2, n2, c2, bd, rs2, R, rfl, rfl, hB2, hL2, hC2, hR2, hE2, hh2, hN2⟩ := hrel
    have hRl : R.length ≤ 1073741824 := by
      have h := congrArg List.length hE2.out
      rw [List.length_append] at h
      omega
    have hbyt := (hB2.out _ _ (hh2.data hM)).byt
    have hR := hR2.out
    clear hR2
    cases hR with
    | nil =>
      obtain rfl : n2 = 0 := hL2.out.symm
      have hEE := vlt (show R = J.recs ++ rs by have h := hE2.out; rwa [List.append_nil] at h)
      clear hE2 hcut hcuth
      go_wp2
      go_ret2
      exact ⟨rfl, by rw [← hEE.out]; exact hh2⟩
    | more _ p r rs' _ hpl hrr =>
      have hn2 : n2 = 4 + p.length + r.length := by rw [← hL2.out, List.length_append, pt_len]
      have hre := reach_any wr A2 _ n2 c2 hbyt hL2.out
      rw [reach_pt 1 p r (by omega)] at hre
      obtain ⟨g, o, rfl, hcell⟩ := byte0 hbyt (pt_head 1 p r)
      have hcell : wr.cell? ⟨g, o, none⟩ = some (.int .u8 1) := hcell
      have hlp : Hid (p.length + (4 + r.length) = n2) := show _ = _ by omega
      obtain ⟨k, hk⟩ : ∃ k, k = p.length := ⟨_, rfl⟩
      have hkp : Hid (p.length = k) := hk.symm
      rw [← hk] at hre hn2 hpl
      have hcc := hcut (some ⟨g, o, none⟩) n2 c2 (4 + k) (4 + (k : Int)) (by omega) (by omega)
      have hB3 : Vlt (∀ W F, M W F → BytF W F (if c2 = 4 + k then some (⟨g, o, none⟩ : Addr) else (some (⟨g, o, none⟩ : Addr)).map (·.add (4 + k))) r) := vlt fun W F hm => by
        have h1 := (hB2.out W F hm).cut (4 + k) c2 (by rw [hL2.out]; exact hC2)
        rw [hk, pt_drop] at h1
        rw [hk]; exact h1
      generalize (if c2 = 4 + k then some (⟨g, o, none⟩ : Addr) else (some (⟨g, o, none⟩ : Addr)).map (·.add (4 + k))) = A3 at *
      have hL3 : Hid (r.length = n2 - (4 + k)) := show _ = _ by omega
      have hC3 : n2 - (4 + k) ≤ c2 - (4 + k) := by omega
      have hrr2 := vlt hrr
      have hn2' : 4 + k ≤ n2 := by omega
      clear hrr hk hn2
      cases s with
      | true =>
        have hE3 : Vlt (R ++ rs' = J.recs ++ rs) := hE2
        clear hE2 hbyt hcuth
        go_wp2_with fail
        refine hre.mono ?_
        rintro e w3 ⟨rfl, hb3⟩
        clear hre
        have hcell3 : w3.cell? ⟨g, o, none⟩ = some (.int .u8 1) := (hb3.cell (p := ⟨g, o, none⟩) (World.block_lt_of_cell? wr _ hcell)).trans hcell
        have hh3 := hh2.next (jnOb _ _ _) hM hb3
        clear hh2 hb3 hcell hB2
        go_wp2
        go_roundw
        case rel => exact ⟨true, A3, n2 - (4 + k), c2 - (4 + k), r, rs', R, rfl, rfl, hB3, hL3, hC3, hrr2, hE3, hh3, by omega⟩
        case measure => simp [slen]; omega
      | false =>
        have hE3 : Vlt ((R ++ [p]) ++ rs' = J.recs ++ rs) := vlt (by rw [List.append_assoc]; exact hE2.out)
        have hch := hcuth (some ⟨g, o, none⟩) n2 c2 4 (4 + k) 4 (4 + (k : Int)) rfl (by omega) (by omega) (by omega)
        have hB4 : Vlt (∀ W F, M W F → BytF W F (if c2 = 4 then some (⟨g, o, none⟩ : Addr) else (some (⟨g, o, none⟩ : Addr)).map (·.add 4)) p) := vlt fun W F hm => by
          have h1 := ((hB2.out W F hm).take (4 + k)).cut 4 c2 (by rw [List.length_take, hL2.out]; omega)
          rw [← hkp.out, pt_mid] at h1
          exact h1
        generalize (if c2 = 4 then some (⟨g, o, none⟩ : Addr) else (some (⟨g, o, none⟩ : Addr)).map (·.add 4)) = A4 at *
        have e4 : 4 + k - 4 = k := by omega
        rw [e4] at hch
        clear hE2 hbyt e4
        go_wp2_with fail
        refine hre.mono ?_
        rintro e w3 ⟨rfl, hb3⟩
        clear hre
        have hcell3 : w3.cell? ⟨g, o, none⟩ = some (.int .u8 1) := (hb3.cell (p := ⟨g, o, none⟩) (World.block_lt_of_cell? wr _ hcell)).trans hcell
        have hh3 := (hh2.next (jnOb _ _ _) hM hb3).drew (jnOb _ _ _) hM
        clear hh2 hb3 hcell hB2
        have hby4 := (hB4.out _ _ (hh3.data hM)).byt
        have hcl := bclone_any w3.drew A4 p k (c2 - 4) hby4 hkp.out (by omega)
        obtain ⟨O, G, h1, ⟨D, Bb, bn, bc, Q, m, z, vs, hat, hG⟩, h3, h4, h5, h6, h7⟩ := hh3
        obtain ⟨hvm, _, _⟩ := owns_size hat.own
        have hm : m ≤ 1073741824 := by rw [← hvm, hat.recs.1]; exact hRl
        have c4 := (row6 hat.row).1.2.2.2.2.1
        go_upto_region 20 with fail
        refine c_start (S := (fun W' => W'.cell? ⟨j, 4, none⟩ = some (.slice Q m z))) 13 (by kernel_rfl) (c4) (fun hHeld => ?_)
        refine c_take (i := 0) (oi := ⟨(some 74), _, _, _, _, _⟩) (v := ?vq1_0) rfl (by decide) (by kernel_rfl) (by kernel_rfl) (by kernel_rfl) (fun _ _ _ h => h) (Or.inl ⟨by rfl, ?yq1_0⟩) hHeld ?_
        case yq1_0 => (intro W0 hSw; go_simp; try with_reducible rfl)
        try simp only [Act.put, List.setIfInBounds_toArray, List.set_cons_zero, List.set_cons_succ]
        refine c_take (i := 1) (oi := ⟨(some 75), _, _, _, _, _⟩) (v := ?vq1_1) rfl (by decide) (by kernel_rfl) (by kernel_rfl) (by kernel_rfl) (fun _ _ _ h => h) (Or.inl ⟨by rfl, ?yq1_1⟩) hHeld ?_
        case yq1_1 => (intro W0 hSw; go_simp; try with_reducible rfl)
        try simp only [Act.put, List.setIfInBounds_toArray, List.set_cons_zero, List.set_cons_succ]
        refine c_take (i := 2) (oi := ⟨(some 76), _, _, _, _, _⟩) (v := ?vq1_2) rfl (by decide) (by kernel_rfl) (by kernel_rfl) (by kernel_rfl) (fun _ _ _ h => h) (Or.inl ⟨by rfl, ?yq1_2⟩) hHeld ?_
        case yq1_2 => (intro W0 hSw; go_simp; try with_reducible rfl)
        try simp only [Act.put, List.setIfInBounds_toArray, List.set_cons_zero, List.set_cons_succ]
        refine c_take (i := 3) (oi := ⟨(some 77), _, _, _, _, _⟩) (v := ?vq1_3) rfl (by decide) (by kernel_rfl) (by kernel_rfl) (by kernel_rfl) (fun _ _ _ h => h) (Or.inl ⟨by rfl, ?yq1_3⟩) hHeld ?_
        case yq1_3 => (intro W0 hSw; go_simp; try with_reducible rfl)
        try simp only [Act.put, List.setIfInBounds_toArray, List.set_cons_zero, List.set_cons_succ]
        refine c_read (i := 4) (oi := ⟨(some 78), _, _, _, _, _⟩) (v := ?vq1_4) rfl (by decide) (by kernel_rfl) (by kernel_rfl) (by kernel_rfl) (by kernel_rfl) (by kernel_rfl) (fun _ _ _ h => h) (Or.inl ⟨by rfl, ?yq1_4⟩) hHeld ?_
        case yq1_4 => (intro W0 hSw; go_simp; try with_reducible rfl)
        try simp only [Act.put, List.setIfInBounds_toArray, List.set_cons_zero, List.set_cons_succ]
        refine c_take (i := 5) (oi := ⟨(some 79), _, _, _, _, _⟩) (v := ?vq1_5) rfl (by decide) (by kernel_rfl) (by kernel_rfl) (by kernel_rfl) (fun _ _ _ h => h) (Or.inl ⟨by rfl, ?yq1_5⟩) hHeld ?_
        case yq1_5 => (intro W0 hSw; go_simp; try with_reducible rfl)
        try simp only [Act.put, List.setIfInBounds_toArray, List.set_cons_zero, List.set_cons_succ]
        refine c_take (i := 6) (oi := ⟨(some 80), _, _, _, _, _⟩) (v := ?vq1_6) rfl (by decide) (by kernel_rfl) (by kernel_rfl) (by kernel_rfl) (fun _ _ _ h => h) (Or.inl ⟨by rfl, ?yq1_6⟩) hHeld ?_
        case yq1_6 => (intro W0 hSw; go_simp; try with_reducible rfl)
        try simp only [Act.put, List.setIfInBounds_toArray, List.set_cons_zero, List.set_cons_succ]
        refine c_take (i := 7) (oi := ⟨(some 81), _, _, _, _, _⟩) (v := ?vq1_7) rfl (by decide) (by kernel_rfl) (by kernel_rfl) (by kernel_rfl) (fun _ _ _ h => h) (Or.inl ⟨by rfl, ?yq1_7⟩) hHeld ?_
        case yq1_7 => (intro W0 hSw; go_simp; try with_reducible rfl)
        try simp only [Act.put, List.setIfInBounds_toArray, List.set_cons_zero, List.set_cons_succ]
        refine c_step (i := 8) (o := ⟨(some 82), _, _, _, _, _⟩) (by kernel_rfl) rfl (fun K hK => ?_)
        go_simp
        refine hcl.mono ?_
        rintro e w8 ⟨A8, c8, rfl, hr8, hb8⟩
        clear hcl
        have hof8 : Off (fun _ => False) w3.drew w8 := Off.of_below hb8 fun i a b => by omega
        have hat8 := hat.off hof8 (fun _ _ h => h)
        refine hK.out _ _ ((row6 hat8.row).1.2.2.2.2.1) (fun hHeld => ?_)
        clear hK K
        try simp only [Act.put, List.setIfInBounds_toArray, List.set_cons_zero, List.set_cons_succ]
        refine c_step (i := 9) (o := ⟨(some 83), _, _, _, _, _⟩) (by kernel_rfl) rfl (fun K hK => ?_)
        go_simp
        have hb9 := hb8.alloc (by have := hb8.size; omega) (.cells #[.slice A8 k c8] 31)
        have hof9 : Off (fun _ => False) w3.drew (w8.alloc (.cells #[.slice A8 k c8] 31)) := Off.of_below hb9 fun i a b => by omega
        have hat9 := hat.off hof9 (fun _ _ h => h)
        have hus := heap_alloc_new w8 (.cells #[.slice A8 k c8] 31)
        have hpl : PL (w8.alloc (.cells #[.slice A8 k c8] 31)) (fun i => w3.drew.heap.size ≤ i ∧ i < w8.heap.size) [.slice A8 k c8] [p] := PL.one (((hr8.inF (F := fun i => w3.drew.heap.size ≤ i) fun i h => h).mono fun i h1 h2 => (⟨h2, h1⟩ : w3.drew.heap.size ≤ i ∧ i < w8.heap.size)).off ((Off.refl (fun _ => False) w8).alloc _) fun _ _ _ h => h) hkp.out hr8.cap
        refine hK.out _ _ ((row6 hat9.row).1.2.2.2.2.1) (fun hHeld => ?_)
        clear hK K
        try simp only [Act.put, List.setIfInBounds_toArray, List.set_cons_zero, List.set_cons_succ]
        obtain ⟨V9, hV9⟩ : ∃ V9, V9 = w8.alloc (.cells #[.slice A8 k c8] 31) := ⟨_, rfl⟩
        have hV9s : V9.heap.size = w8.heap.size + 1 := by rw [hV9]; simp
        rw [← hV9] at hb9 hof9 hat9 hus hpl hHeld ⊢
        have hb8s := hb8.size
        clear hV9 hat8 hof8 hb8 hr8
        refine c_step (i := 10) (o := ⟨(some 84), _, _, _, _, _⟩) (by kernel_rfl) rfl (fun K hK => ?_)
        refine step_append_row V9 rfl (.tmp 78) (.tmp 83) 32 rfl 31 Tryd.underlying32 (.slice none 0 0) 1 24 Tryd.infoSlc rfl (by decide) (by decide) Q m z vs rfl hat9.own (some ⟨w8.heap.size, 0, none⟩) 1 1 rfl [.slice A8 k c8] (fun _ => ⟨_, rfl, fun i u hi => by rw [addr_add, Nat.zero_add, cell_of_row _ _ _ _ _ _ hus]; simpa using hi⟩) hpl.single rfl (by omega) ?_
        intro Q2 z2 w9 hown9 hgr9 hq9 _ _
        have hrow9 := grown_row hgr9 hat9.qne hat9.row
        refine hK.out _ _ ((row6 hrow9).1.2.2.2.2.1) (fun hHeld => ?_)
        clear hK K
        try simp only [Act.put, List.setIfInBounds_toArray, List.set_cons_zero, List.set_cons_succ]
        refine c_take (i := 11) (oi := ⟨(some 85), _, _, _, _, _⟩) (v := ?vq1_8) rfl (by decide) (by kernel_rfl) (by kernel_rfl) (by kernel_rfl) (fun _ _ _ h => h) (Or.inl ⟨by rfl, ?yq1_8⟩) hHeld ?_
        case yq1_8 => (intro W0 hSw; go_simp; try with_reducible rfl)
        try simp only [Act.put, List.setIfInBounds_toArray, List.set_cons_zero, List.set_cons_succ]
        refine c_take (i := 12) (oi := ⟨(some 86), _, _, _, _, _⟩) (v := ?vq1_9) rfl (by decide) (by kernel_rfl) (by kernel_rfl) (by kernel_rfl) (fun _ _ _ h => h) (Or.inl ⟨by rfl, ?yq1_9⟩) hHeld ?_
        case yq1_9 => (intro W0 hSw; go_simp; try with_reducible rfl)
        try simp only [Act.put, List.setIfInBounds_toArray, List.set_cons_zero, List.set_cons_succ]
        have hqlt := owns_lt hat.own
        have hofq : Off (fun b => ∃ a, Q = some a ∧ b = a.block) V9 w9 := grown_off hgr9 fun a ha => ⟨a, ha, rfl⟩
        have hpl9 : PL w9 (fun i => w3.drew.heap.size ≤ i ∧ i < V9.heap.size) [.slice A8 k c8] [p] := (hpl.off hofq (fun b _ hb ⟨a, ha, e⟩ => by have := hqlt a ha; omega)).mono (fun i h1 h2 => ⟨h2.1, by omega⟩)
        have hat10 := hat9.push hpl9 hgr9 hown9 hq9 (fun i hi => ⟨hi.2, by have := hat.ltj; omega, fun a ha e => by have := hqlt a ha; omega⟩)
        have hoff10 : Off G w3.drew (w9.setCell ⟨j, 4, none⟩ (.slice Q2 (m + 1) z2)) := ((hof9.mono (G := G) (fun _ _ h => h.elim)).trans hofq (fun i ⟨a, ha, e⟩ => .inl ((hG i).2 (.inr (.inl ⟨a, ha, e⟩))))).set (.inl ((hG j).2 (.inl rfl))) _
        have hend : Hold w0 (w9.setCell ⟨j, 4, none⟩ (.slice Q2 (m + 1) z2)) d N S (JnOb j d { J with recs := R ++ [p] }) M := Hold.rawG hM h1 h3 h4 h5 h6 h7 ⟨_, _, _, _, _, _, _, _, hat10, fun _ => Iff.rfl⟩ (push_own2 hG hq9 (by omega)) hoff10
        have c4b := (row6 hrow9).1.2.2.2.2.1
        have f4b := (row6 hrow9).2 4
        clear hoff10 hat10 hpl9 hofq hqlt hrow9 hq9 hgr9 hown9 hpl hus hat9 hat h1 h3 h4 h5 h6 h7
        refine c_call (S' := (fun _ => True)) (o := ⟨none, _, _, _, _, _⟩) (by kernel_rfl) (by kernel_rfl) rfl (fun K hK => ?_)
        clear hHeld
        go_simp
        refine hK.out _ _ (trivial) (fun hHeld => ?_)
        clear hK K
        try simp only [Act.put]
        refine wpAnyH_done (by kernel_rfl) ?_ _
        clear hHeld
        go_wp2
        go_roundw
        case rel => exact ⟨false, A3, n2 - (4 + k), c2 - (4 + k), r, rs', R ++ [p], rfl, rfl, hB3, hL3, hC3, hrr2, hE3, hend, by omega⟩
        case measure => simp [slen]; omega
    | zero _ m r _ _ hm4 hhd hrr =>
      have hz := lz_rep m r hhd
      have hn2 : n2 = m + r.length := by rw [← hL2.out, List.length_append, List.length_replicate]
      have hre := reach_any wr A2 _ n2 c2 hbyt hL2.out
      have h00 : (List.replicate m (0 : UInt8) ++ r)[0]? = some 0 := by
        obtain ⟨m', rfl⟩ : ∃ m', m = m' + 1 := ⟨m - 1, by omega⟩
        rw [List.replicate_succ]; rfl
      have hlt := reachN_lt (List.replicate m (0 : UInt8) ++ r)
      generalize reachN (List.replicate m (0 : UInt8) ++ r) = q at *
      obtain ⟨g, o, rfl, hcell⟩ := byte0 hbyt h00
      have hcell : wr.cell? ⟨g, o, none⟩ = some (.int .u8 0) := hcell
      have hB3 : Vlt (∀ W F, M W F → BytF W F (if c2 = m then some (⟨g, o, none⟩ : Addr) else (some (⟨g, o, none⟩ : Addr)).map (·.add m)) r) := vlt fun W F hm => by
        have h1 := (hB2.out W F hm).cut m c2 (by rw [hL2.out]; exact hC2)
        have e : (List.replicate m (0 : UInt8) ++ r).drop m = r := by
          have e2 : (List.replicate m (0 : UInt8)).length = m := by simp
          rw [show (List.replicate m (0 : UInt8) ++ r).drop m = (List.replicate m (0 : UInt8) ++ r).drop (List.replicate m (0 : UInt8)).length by rw [e2]]
          exact List.drop_left
        rw [e] at h1; exact h1
      have hcc := hcut (some ⟨g, o, none⟩) n2 c2 m (m : Int) rfl (by omega)
      generalize (if c2 = m then some (⟨g, o, none⟩ : Addr) else (some (⟨g, o, none⟩ : Addr)).map (·.add m)) = A3 at *
      have hL3 : Hid (r.length = n2 - m) := show _ = _ by omega
      have hC3 : n2 - m ≤ c2 - m := by omega
      have hrr2 := vlt hrr
      have hn2' : m ≤ n2 := by omega
      clear hrr hcuth hn2
      go_wp2_with fail
      refine hre.mono ?_
      rintro e w3 ⟨rfl, hb3⟩
      clear hre
      have hcell3 : w3.cell? ⟨g, o, none⟩ = some (.int .u8 0) := (hb3.cell (p := ⟨g, o, none⟩) (World.block_lt_of_cell? wr _ hcell)).trans hcell
      have hnt := noughts_any w3 (some ⟨g, o, none⟩) (List.replicate m 0 ++ r) n2 c2 (hbyt.next hb3) hL2.out hC2 (by omega)
      rw [hz] at hnt
      have hh3 := hh2.next (jnOb _ _ _) hM hb3
      clear hh2 hb3 hcell hB2 hbyt h00 hhd hz
      go_wp2_with fail
      refine hnt.mono ?_
      rintro e w4 ⟨rfl, rfl⟩
      clear hnt
      have hm4' : ¬ (m : Int) < 4 := by omega
      go_wp2
      go_roundw
      case rel => exact ⟨true, A3, n2 - m, c2 - m, r, rs2, R, rfl, rfl, hB3, hL3, hC3, hrr2, hE2, hh3, by omega⟩
      case measure => simp [slen]; omega
    | torn _ p k hpl hk hk2 =>
      have hEE : Vlt (R ++ [] = J.recs ++ rs) := hE2
      have hn2 : n2 = k := by rw [← hL2.out, List.length_take, pt_len]; omega
      subst hn2
      have hre := reach_any wr A2 _ n2 c2 hbyt hL2.out
      obtain ⟨hr1, hr2⟩ := reach_torn p n2 hpl hk hk2
      obtain ⟨g, o, rfl, hcell⟩ := byte0 hbyt (torn_head p n2 hk)
      have hcell : wr.cell? ⟨g, o, none⟩ = some (.int .u8 1) := hcell
      generalize reachN ((pt 1 p).take n2) = q at *
      have hr1' : (n2 : Int) < (q : Int) := by omega
      have hr2' : ¬ (16388 : Int) < (q : Int) := by omega
      have hcc := hcut (some ⟨g, o, none⟩) n2 c2 n2 (n2 : Int) rfl (Nat.le_refl _)
      rw [Nat.sub_self] at hcc
      generalize (if c2 = n2 then some (⟨g, o, none⟩ : Addr) else (some (⟨g, o, none⟩ : Addr)).map (·.add n2)) = A3 at *
      clear hE2 hbyt hcuth
      go_wp2_with fail
      refine hre.mono ?_
      rintro e w3 ⟨rfl, hb3⟩
      clear hre
      have hcell3 : w3.cell? ⟨g, o, none⟩ = some (.int .u8 1) := (hb3.cell (p := ⟨g, o, none⟩) (World.block_lt_of_cell? wr _ hcell)).trans hcell
      have hh3 := hh2.next (jnOb _ _ _) hM hb3
      clear hh2 hb3 hcell hB2
      go_wp2
      go_roundw
      case rel => exact ⟨true, A3, 0, c2 - n2, [], [], R, rfl, rfl, vlt fun W F _ => .inl rfl, rfl, by omega, vlt (Rd.nil true), hEE, hh3, by omega⟩
      case measure => simp [slen]; omega
set_option maxRecDepth 100000 in
set_option maxHeartbeats 1000000 in
theorem jtake_plain1 {M : World → (Nat → Prop) → Prop} (hM : Kp M) (h : Hold w0 W d N S (JnOb j d J) M) (A : Option Addr) (b : List UInt8) (n c : Nat) (hp : ∀ W F, M W F → BytF W F A b) (hlen : b.length = n) (hcap : n ≤ c) (hn : n ≤ 1073741824) (hlast : J.last = 0) (hn0 : 0 < n) (hv : b[0]? = some 1) (rs : List (List UInt8)) (sp : Bool) (hrd : Rd false b rs sp) (hrl : (J.recs ++ rs).length ≤ 1073741824) :
    Calls Tryd.prog 35 #[.pointer (some ⟨j, 0, none⟩), .slice A n c] W fun e w' => e = .returned (.tuple #[.bool sp, .bool true]) ∧ Hold w0 w' d N S (JnOb j d { J with recs := J.recs ++ rs }) M := by
  have HLen := Lib.hid hlen
  have hcut := run_cut_l (P := Tryd.prog) Tryd.underlying31 Tryd.sizeByte
  have hcuth := run_cut_lh (P := Tryd.prog) Tryd.underlying31 Tryd.sizeByte
  have hB1 : Vlt (∀ W F, M W F → BytF W F A b) := vlt hp
  have hL1 : Hid (b.length = n) := HLen
  have hC1 : n ≤ c := hcap
  have hN1 : n ≤ n := Nat.le_refl _
  have hh1 := h
  have c5 := h.c5
  have hl5 : (J.last : Int) = 0 := by omega
  have hn0' : (0 : Int) < (n : Int) := by omega
  rw [hl5] at c5
  obtain ⟨g, o, rfl, hcell⟩ := byte0 ((hp _ _ (h.data hM)).byt) hv
  have hcell : W.cell? ⟨g, o, none⟩ = some (.int .u8 1) := hcell
  clear h hlen hv
  go_enter Tryd.func35, Tryd.ntmps35
  go_wp2_with fail
  clear hcell c5
  go_loopw [1, 4] (fun yy sl wr => ∃ (s : Bool) (A2 : Option Addr) (n2 c2 : Nat) (bd : List UInt8) (rs2 R : List (List UInt8)), yy = .slice A2 n2 c2 ∧ sl = .bool s ∧ Vlt (∀ W F, M W F → BytF W F A2 bd) ∧ Hid (bd.length = n2) ∧ n2 ≤ c2 ∧ Vlt (Rd s bd rs2 sp) ∧ Vlt (R ++ rs2 = J.recs ++ rs) ∧ Hold w0 wr d N S (JnOb j d { J with recs := R }) M ∧ n2 ≤ n) (fun yy _ _ => slen yy)
  case atStart => exact ⟨false, _, _, _, _, rs, J.recs, rfl, rfl, hB1, hL1, hC1, vlt hrd, vlt rfl, hh1, hN1⟩
  case round =>
    obtain ⟨s, A2, n2, c2, bd, rs2, R, rfl, rfl, hB2, hL2, hC2, hR2, hE2, hh2, hN2⟩ := hrel
    have hRl : R.length ≤ 1073741824 := by
      have h := congrArg List.length hE2.out
      rw [List.length_append] at h
      omega
    have hbyt := (hB2.out _ _ (hh2.data hM)).byt
    have hR := hR2.out
    clear hR2
    cases hR with
    | nil =>
      obtain rfl : n2 = 0 := hL2.out.symm
      have hEE := vlt (show R = J.recs ++ rs by have h := hE2.out; rwa [List.append_nil] at h)
      clear hE2 hcut hcuth
      go_wp2
      go_ret2
      exact ⟨rfl, by rw [← hEE.out]; exact hh2⟩
    | more _ p r rs' _ hpl hrr =>
      have hn2 : n2 = 4 + p.length + r.length := by rw [← hL2.out, List.length_append, pt_len]
      have hre := reach_any wr A2 _ n2 c2 hbyt hL2.out
      rw [reach_pt 1 p r (by omega)] at hre
      obtain ⟨g, o, rfl, hcell⟩ := byte0 hbyt (pt_head 1 p r)
      have hcell : wr.cell? ⟨g, o, none⟩ = some (.int .u8 1) := hcell
      have hlp : Hid (p.length + (4 + r.length) = n2) := show _ = _ by omega
      obtain ⟨k, hk⟩ : ∃ k, k = p.length := ⟨_, rfl⟩
      have hkp : Hid (p.length = k) := hk.symm
      rw [← hk] at hre hn2 hpl
      have hcc := hcut (some ⟨g, o, none⟩) n2 c2 (4 + k) (4 + (k : Int)) (by omega) (by omega)
      have hB3 : Vlt (∀ W F, M W F → BytF W F (if c2 = 4 + k then some (⟨g, o, none⟩ : Addr) else (some (⟨g, o, none⟩ : Addr)).map (·.add (4 + k))) r) := vlt fun W F hm => by
        have h1 := (hB2.out W F hm).cut (4 + k) c2 (by rw [hL2.out]; exact hC2)
        rw [hk, pt_drop] at h1
        rw [hk]; exact h1
      generalize (if c2 = 4 + k then some (⟨g, o, none⟩ : Addr) else (some (⟨g, o, none⟩ : Addr)).map (·.add (4 + k))) = A3 at *
      have hL3 : Hid (r.length = n2 - (4 + k)) := show _ = _ by omega
      have hC3 : n2 - (4 + k) ≤ c2 - (4 + k) := by omega
      have hrr2 := vlt hrr
      have hn2' : 4 + k ≤ n2 := by omega
      clear hrr hk hn2
      cases s with
      | true =>
        have hE3 : Vlt (R ++ rs' = J.recs ++ rs) := hE2
        clear hE2 hbyt hcuth
        go_wp2_with fail
        refine hre.mono ?_
        rintro e w3 ⟨rfl, hb3⟩
        clear hre
        have hcell3 : w3.cell? ⟨g, o, none⟩ = some (.int .u8 1) := (hb3.cell (p := ⟨g, o, none⟩) (World.block_lt_of_cell? wr _ hcell)).trans hcell
        have hh3 := hh2.next (jnOb _ _ _) hM hb3
        clear hh2 hb3 hcell hB2
        go_wp2
        go_roundw
        case rel => exact ⟨true, A3, n2 - (4 + k), c2 - (4 + k), r, rs', R, rfl, rfl, hB3, hL3, hC3, hrr2, hE3, hh3, by omega⟩
        case measure => simp [slen]; omega
      | false =>
        have hE3 : Vlt ((R ++ [p]) ++ rs' = J.recs ++ rs) := vlt (by rw [List.append_assoc]; exact hE2.out)
        have hch := hcuth (some ⟨g, o, none⟩) n2 c2 4 (4 + k) 4 (4 + (k : Int)) rfl (by omega) (by omega) (by omega)
        have hB4 : Vlt (∀ W F, M W F → BytF W F (if c2 = 4 then some (⟨g, o, none⟩ : Addr) else (some (⟨g, o, none⟩ : Addr)).map (·.add 4)) p) := vlt fun W F hm => by
          have h1 := ((hB2.out W F hm).take (4 + k)).cut 4 c2 (by rw [List.length_take, hL2.out]; omega)
          rw [← hkp.out, pt_mid] at h1
          exact h1
        generalize (if c2 = 4 then some (⟨g, o, none⟩ : Addr) else (some (⟨g, o, none⟩ : Addr)).map (·.add 4)) = A4 at *
        have e4 : 4 + k - 4 = k := by omega
        rw [e4] at hch
        clear hE2 hbyt e4
        go_wp2_with fail
        refine hre.mono ?_
        rintro e w3 ⟨rfl, hb3⟩
        clear hre
        have hcell3 : w3.cell? ⟨g, o, none⟩ = some (.int .u8 1) := (hb3.cell (p := ⟨g, o, none⟩) (World.block_lt_of_cell? wr _ hcell)).trans hcell
        have hh3 := (hh2.next (jnOb _ _ _) hM hb3).drew (jnOb _ _ _) hM
        clear hh2 hb3 hcell hB2
        have hby4 := (hB4.out _ _ (hh3.data hM)).byt
        have hcl := bclone_any w3.drew A4 p k (c2 - 4) hby4 hkp.out (by omega)
        obtain ⟨O, G, h1, ⟨D, Bb, bn, bc, Q, m, z, vs, hat, hG⟩, h3, h4, h5, h6, h7⟩ := hh3
        obtain ⟨hvm, _, _⟩ := owns_size hat.own
        have hm : m ≤ 1073741824 := by rw [← hvm, hat.recs.1]; exact hRl
        have c4 := (row6 hat.row).1.2.2.2.2.1
        go_upto_region 20 with fail
        refine c_start (S := (fun W' => W'.cell? ⟨j, 4, none⟩ = some (.slice Q m z))) 13 (by kernel_rfl) (c4) (fun hHeld => ?_)
        refine c_take (i := 0) (oi := ⟨(some 74), _, _, _, _, _⟩) (v := ?vq2_0) rfl (by decide) (by kernel_rfl) (by kernel_rfl) (by kernel_rfl) (fun _ _ _ h => h) (Or.inl ⟨by rfl, ?yq2_0⟩) hHeld ?_
        case yq2_0 => (intro W0 hSw; go_simp; try with_reducible rfl)
        try simp only [Act.put, List.setIfInBounds_toArray, List.set_cons_zero, List.set_cons_succ]
        refine c_take (i := 1) (oi := ⟨(some 75), _, _, _, _, _⟩) (v := ?vq2_1) rfl (by decide) (by kernel_rfl) (by kernel_rfl) (by kernel_rfl) (fun _ _ _ h => h) (Or.inl ⟨by rfl, ?yq2_1⟩) hHeld ?_
        case yq2_1 => (intro W0 hSw; go_simp; try with_reducible rfl)
        try simp only [Act.put, List.setIfInBounds_toArray, List.set_cons_zero, List.set_cons_succ]
        refine c_take (i := 2) (oi := ⟨(some 76), _, _, _, _, _⟩) (v := ?vq2_2) rfl (by decide) (by kernel_rfl) (by kernel_rfl) (by kernel_rfl) (fun _ _ _ h => h) (Or.inl ⟨by rfl, ?yq2_2⟩) hHeld ?_
        case yq2_2 => (intro W0 hSw; go_simp; try with_reducible rfl)
        try simp only [Act.put, List.setIfInBounds_toArray, List.set_cons_zero, List.set_cons_succ]
        refine c_take (i := 3) (oi := ⟨(some 77), _, _, _, _, _⟩) (v := ?vq2_3) rfl (by decide) (by kernel_rfl) (by kernel_rfl) (by kernel_rfl) (fun _ _ _ h => h) (Or.inl ⟨by rfl, ?yq2_3⟩) hHeld ?_
        case yq2_3 => (intro W0 hSw; go_simp; try with_reducible rfl)
        try simp only [Act.put, List.setIfInBounds_toArray, List.set_cons_zero, List.set_cons_succ]
        refine c_read (i := 4) (oi := ⟨(some 78), _, _, _, _, _⟩) (v := ?vq2_4) rfl (by decide) (by kernel_rfl) (by kernel_rfl) (by kernel_rfl) (by kernel_rfl) (by kernel_rfl) (fun _ _ _ h => h) (Or.inl ⟨by rfl, ?yq2_4⟩) hHeld ?_
        case yq2_4 => (intro W0 hSw; go_simp; try with_reducible rfl)
        try simp only [Act.put, List.setIfInBounds_toArray, List.set_cons_zero, List.set_cons_succ]
        refine c_take (i := 5) (oi := ⟨(some 79), _, _, _, _, _⟩) (v := ?vq2_5) rfl (by decide) (by kernel_rfl) (by kernel_rfl) (by kernel_rfl) (fun _ _ _ h => h) (Or.inl ⟨by rfl, ?yq2_5⟩) hHeld ?_
        case yq2_5 => (intro W0 hSw; go_simp; try with_reducible rfl)
        try simp only [Act.put, List.setIfInBounds_toArray, List.set_cons_zero, List.set_cons_succ]
        refine c_take (i := 6) (oi := ⟨(some 80), _, _, _, _, _⟩) (v := ?vq2_6) rfl (by decide) (by kernel_rfl) (by kernel_rfl) (by kernel_rfl) (fun _ _ _ h => h) (Or.inl ⟨by rfl, ?yq2_6⟩) hHeld ?_
        case yq2_6 => (intro W0 hSw; go_simp; try with_reducible rfl)
        try simp only [Act.put, List.setIfInBounds_toArray, List.set_cons_zero, List.set_cons_succ]
        refine c_take (i := 7) (oi := ⟨(some 81), _, _, _, _, _⟩) (v := ?vq2_7) rfl (by decide) (by kernel_rfl) (by kernel_rfl) (by kernel_rfl) (fun _ _ _ h => h) (Or.inl ⟨by rfl, ?yq2_7⟩) hHeld ?_
        case yq2_7 => (intro W0 hSw; go_simp; try with_reducible rfl)
        try simp only [Act.put, List.setIfInBounds_toArray, List.set_cons_zero, List.set_cons_succ]
        refine c_step (i := 8) (o := ⟨(some 82), _, _, _, _, _⟩) (by kernel_rfl) rfl (fun K hK => ?_)
        go_simp
        refine hcl.mono ?_
        rintro e w8 ⟨A8, c8, rfl, hr8, hb8⟩
        clear hcl
        have hof8 : Off (fun _ => False) w3.drew w8 := Off.of_below hb8 fun i a b => by omega
        have hat8 := hat.off hof8 (fun _ _ h => h)
        refine hK.out _ _ ((row6 hat8.row).1.2.2.2.2.1) (fun hHeld => ?_)
        clear hK K
        try simp only [Act.put, List.setIfInBounds_toArray, List.set_cons_zero, List.set_cons_succ]
        refine c_step (i := 9) (o := ⟨(some 83), _, _, _, _, _⟩) (by kernel_rfl) rfl (fun K hK => ?_)
        go_simp
        have hb9 := hb8.alloc (by have := hb8.size; omega) (.cells #[.slice A8 k c8] 31)
        have hof9 : Off (fun _ => False) w3.drew (w8.alloc (.cells #[.slice A8 k c8] 31)) := Off.of_below hb9 fun i a b => by omega
        have hat9 := hat.off hof9 (fun _ _ h => h)
        have hus := heap_alloc_new w8 (.cells #[.slice A8 k c8] 31)
        have hpl : PL (w8.alloc (.cells #[.slice A8 k c8] 31)) (fun i => w3.drew.heap.size ≤ i ∧ i < w8.heap.size) [.slice A8 k c8] [p] := PL.one (((hr8.inF (F := fun i => w3.drew.heap.size ≤ i) fun i h => h).mono fun i h1 h2 => (⟨h2, h1⟩ : w3.drew.heap.size ≤ i ∧ i < w8.heap.size)).off ((Off.refl (fun _ => False) w8).alloc _) fun _ _ _ h => h) hkp.out hr8.cap
        refine hK.out _ _ ((row6 hat9.row).1.2.2.2.2.1) (fun hHeld => ?_)
        clear hK K
        try simp only [Act.put, List.setIfInBounds_toArray, List.set_cons_zero, List.set_cons_succ]
        obtain ⟨V9, hV9⟩ : ∃ V9, V9 = w8.alloc (.cells #[.slice A8 k c8] 31) := ⟨_, rfl⟩
        have hV9s : V9.heap.size = w8.heap.size + 1 := by rw [hV9]; simp
        rw [← hV9] at hb9 hof9 hat9 hus hpl hHeld ⊢
        have hb8s := hb8.size
        clear hV9 hat8 hof8 hb8 hr8
        refine c_step (i := 10) (o := ⟨(some 84), _, _, _, _, _⟩) (by kernel_rfl) rfl (fun K hK => ?_)
        refine step_append_row V9 rfl (.tmp 78) (.tmp 83) 32 rfl 31 Tryd.underlying32 (.slice none 0 0) 1 24 Tryd.infoSlc rfl (by decide) (by decide) Q m z vs rfl hat9.own (some ⟨w8.heap.size, 0, none⟩) 1 1 rfl [.slice A8 k c8] (fun _ => ⟨_, rfl, fun i u hi => by rw [addr_add, Nat.zero_add, cell_of_row _ _ _ _ _ _ hus]; simpa using hi⟩) hpl.single rfl (by omega) ?_
        intro Q2 z2 w9 hown9 hgr9 hq9 _ _
        have hrow9 := grown_row hgr9 hat9.qne hat9.row
        refine hK.out _ _ ((row6 hrow9).1.2.2.2.2.1) (fun hHeld => ?_)
        clear hK K
        try simp only [Act.put, List.setIfInBounds_toArray, List.set_cons_zero, List.set_cons_succ]
        refine c_take (i := 11) (oi := ⟨(some 85), _, _, _, _, _⟩) (v := ?vq2_8) rfl (by decide) (by kernel_rfl) (by kernel_rfl) (by kernel_rfl) (fun _ _ _ h => h) (Or.inl ⟨by rfl, ?yq2_8⟩) hHeld ?_
        case yq2_8 => (intro W0 hSw; go_simp; try with_reducible rfl)
        try simp only [Act.put, List.setIfInBounds_toArray, List.set_cons_zero, List.set_cons_succ]
        refine c_take (i := 12) (oi := ⟨(some 86), _, _, _, _, _⟩) (v := ?vq2_9) rfl (by decide) (by kernel_rfl) (by kernel_rfl) (by kernel_rfl) (fun _ _ _ h => h) (Or.inl ⟨by rfl, ?yq2_9⟩) hHeld ?_
        case yq2_9 => (intro W0 hSw; go_simp; try with_reducible rfl)
        try simp only [Act.put, List.setIfInBounds_toArray, List.set_cons_zero, List.set_cons_succ]
        have hqlt := owns_lt hat.own
        have hofq : Off (fun b => ∃ a, Q = some a ∧ b = a.block) V9 w9 := grown_off hgr9 fun a ha => ⟨a, ha, rfl⟩
        have hpl9 : PL w9 (fun i => w3.drew.heap.size ≤ i ∧ i < V9.heap.size) [.slice A8 k c8] [p] := (hpl.off hofq (fun b _ hb ⟨a, ha, e⟩ => by have := hqlt a ha; omega)).mono (fun i h1 h2 => ⟨h2.1, by omega⟩)
        have hat10 := hat9.push hpl9 hgr9 hown9 hq9 (fun i hi => ⟨hi.2, by have := hat.ltj; omega, fun a ha e => by have := hqlt a ha; omega⟩)
        have hoff10 : Off G w3.drew (w9.setCell ⟨j, 4, none⟩ (.slice Q2 (m + 1) z2)) := ((hof9.mono (G := G) (fun _ _ h => h.elim)).trans hofq (fun i ⟨a, ha, e⟩ => .inl ((hG i).2 (.inr (.inl ⟨a, ha, e⟩))))).set (.inl ((hG j).2 (.inl rfl))) _
        have hend : Hold w0 (w9.setCell ⟨j, 4, none⟩ (.slice Q2 (m + 1) z2)) d N S (JnOb j d { J with recs := R ++ [p] }) M := Hold.rawG hM h1 h3 h4 h5 h6 h7 ⟨_, _, _, _, _, _, _, _, hat10, fun _ => Iff.rfl⟩ (push_own2 hG hq9 (by omega)) hoff10
        have c4b := (row6 hrow9).1.2.2.2.2.1
        have f4b := (row6 hrow9).2 4
        clear hoff10 hat10 hpl9 hofq hqlt hrow9 hq9 hgr9 hown9 hpl hus hat9 hat h1 h3 h4 h5 h6 h7
        refine c_call (S' := (fun _ => True)) (o := ⟨none, _, _, _, _, _⟩) (by kernel_rfl) (by kernel_rfl) rfl (fun K hK => ?_)
        clear hHeld
        go_simp
        refine hK.out _ _ (trivial) (fun hHeld => ?_)
        clear hK K
        try simp only [Act.put]
        refine wpAnyH_done (by kernel_rfl) ?_ _
        clear hHeld
        go_wp2
        go_roundw
        case rel => exact ⟨false, A3, n2 - (4 + k), c2 - (4 + k), r, rs', R ++ [p], rfl, rfl, hB3, hL3, hC3, hrr2, hE3, hend, by omega⟩
        case measure => simp [slen]; omega
    | zero _ m r _ _ hm4 hhd hrr =>
      have hz := lz_rep m r hhd
      have hn2 : n2 = m + r.length := by rw [← hL2.out, List.length_append, List.length_replicate]
      have hre := reach_any wr A2 _ n2 c2 hbyt hL2.out
      have h00 : (List.replicate m (0 : UInt8) ++ r)[0]? = some 0 := by
        obtain ⟨m', rfl⟩ : ∃ m', m = m' + 1 := ⟨m - 1, by omega⟩
        rw [List.replicate_succ]; rfl
      have hlt := reachN_lt (List.replicate m (0 : UInt8) ++ r)
      generalize reachN (List.replicate m (0 : UInt8) ++ r) = q at *
      obtain ⟨g, o, rfl, hcell⟩ := byte0 hbyt h00
      have hcell : wr.cell? ⟨g, o, none⟩ = some (.int .u8 0) := hcell
      have hB3 : Vlt (∀ W F, M W F → BytF W F (if c2 = m then some (⟨g, o, none⟩ : Addr) else (some (⟨g, o, none⟩ : Addr)).map (·.add m)) r) := vlt fun W F hm => by
        have h1 := (hB2.out W F hm).cut m c2 (by rw [hL2.out]; exact hC2)
        have e : (List.replicate m (0 : UInt8) ++ r).drop m = r := by
          have e2 : (List.replicate m (0 : UInt8)).length = m := by simp
          rw [show (List.replicate m (0 : UInt8) ++ r).drop m = (List.replicate m (0 : UInt8) ++ r).drop (List.replicate m (0 : UInt8)).length by rw [e2]]
          exact List.drop_left
        rw [e] at h1; exact h1
      have hcc := hcut (some ⟨g, o, none⟩) n2 c2 m (m : Int) rfl (by omega)
      generalize (if c2 = m then some (⟨g, o, none⟩ : Addr) else (some (⟨g, o, none⟩ : Addr)).map (·.add m)) = A3 at *
      have hL3 : Hid (r.length = n2 - m) := show _ = _ by omega
      have hC3 : n2 - m ≤ c2 - m := by omega
      have hrr2 := vlt hrr
      have hn2' : m ≤ n2 := by omega
      clear hrr hcuth hn2
      go_wp2_with fail
      refine hre.mono ?_
      rintro e w3 ⟨rfl, hb3⟩
      clear hre
      have hcell3 : w3.cell? ⟨g, o, none⟩ = some (.int .u8 0) := (hb3.cell (p := ⟨g, o, none⟩) (World.block_lt_of_cell? wr _ hcell)).trans hcell
      have hnt := noughts_any w3 (some ⟨g, o, none⟩) (List.replicate m 0 ++ r) n2 c2 (hbyt.next hb3) hL2.out hC2 (by omega)
      rw [hz] at hnt
      have hh3 := hh2.next (jnOb _ _ _) hM hb3
      clear hh2 hb3 hcell hB2 hbyt h00 hhd hz
      go_wp2_with fail
      refine hnt.mono ?_
      rintro e w4 ⟨rfl, rfl⟩
      clear hnt
      have hm4' : ¬ (m : Int) < 4 := by omega
      go_wp2
      go_roundw
      case rel => exact ⟨true, A3, n2 - m, c2 - m, r, rs2, R, rfl, rfl, hB3, hL3, hC3, hrr2, hE2, hh3, by omega⟩
      case measure => simp [slen]; omega
    | torn _ p k hpl hk hk2 =>
      have hEE : Vlt (R ++ [] = J.recs ++ rs) := hE2
      have hn2 : n2 = k := by rw [← hL2.out, List.length_take, pt_len]; omega
      subst hn2
      have hre := reach_any wr A2 _ n2 c2 hbyt hL2.out
      obtain ⟨hr1, hr2⟩ := reach_torn p n2 hpl hk hk2
      obtain ⟨g, o, rfl, hcell⟩ := byte0 hbyt (torn_head p n2 hk)
      have hcell : wr.cell? ⟨g, o, none⟩ = some (.int .u8 1) := hcell
      generalize reachN ((pt 1 p).take n2) = q at *
      have hr1' : (n2 : Int) < (q : Int) := by omega
      have hr2' : ¬ (16388 : Int) < (q : Int) := by omega
      have hcc := hcut (some ⟨g, o, none⟩) n2 c2 n2 (n2 : Int) rfl (Nat.le_refl _)
      rw [Nat.sub_self] at hcc
      generalize (if c2 = n2 then some (⟨g, o, none⟩ : Addr) else (some (⟨g, o, none⟩ : Addr)).map (·.add n2)) = A3 at *
      clear hE2 hbyt hcuth
      go_wp2_with fail
      refine hre.mono ?_
      rintro e w3 ⟨rfl, hb3⟩
      clear hre
      have hcell3 : w3.cell? ⟨g, o, none⟩ = some (.int .u8 1) := (hb3.cell (p := ⟨g, o, none⟩) (World.block_lt_of_cell? wr _ hcell)).trans hcell
      have hh3 := hh2.next (jnOb _ _ _) hM hb3
      clear hh2 hb3 hcell hB2
      go_wp2
      go_roundw
      case rel => exact ⟨true, A3, 0, c2 - n2, [], [], R, rfl, rfl, vlt fun W F _ => .inl rfl, rfl, by omega, vlt (Rd.nil true), hEE, hh3, by omega⟩
      case measure => simp [slen]; omega
end
end Go.Proofs.YtaklbgikoeedbaaDoor
namespace Go.Proofs.YtaklbgikoeedbaaDoor
open Go.RowKit
section
variable {w0 W W' : World} {j d N : Nat} {S : Dk} {J : Jv}
theorem JnAt.rebase {D : Nat → Prop} {A Q A2 : Option Addr} {n c m k n2 c2 : Nat} {vs : List Value} {b : List UInt8} (h : JnAt W D j d A n c Q m k vs J) (hb : Below W.heap.size W W') (hr : Res W' W.heap.size 5 A2 n2 c2 b) :
    JnAt (W'.setCell ⟨j, 3, none⟩ (.slice A2 n2 c2)) (fun i => D i ∨ W.heap.size ≤ i ∧ i < W'.heap.size) j d A2 n2 c2 Q m k vs { J with base := b } := by
  have hj := h.ltj
  have hof0 : Off (fun _ => False) W W' := Off.of_below hb fun i a b => by omega
  have h' := h.off hof0 fun _ _ h => h
  have hrow3 := (world_set_cell h'.row 3 (.slice A2 n2 c2)).out
  have hof1 : Off (fun b => b = j) W' (W'.setCell ⟨j, 3, none⟩ (.slice A2 n2 c2)) := Off.set (F := fun b => b = j) (Off.refl _ _) (.inl rfl) _
  have hbase : BytF W' (fun i => D i ∨ W.heap.size ≤ i ∧ i < W'.heap.size) A2 b := (hr.inF (F := fun i => W.heap.size ≤ i) fun i h => h).mono fun i h1 h2 => .inr ⟨h2, h1⟩
  have hlow := owns_lt h.own
  refine ⟨hrow3, hbase.off hof1 fun i _ hi e => ?_, hr.len, hr.cap, own_set h'.own h'.qne _, (h'.recs.mono fun i _ hi => .inl hi).off hof1 fun i _ hi e => ?_, ?_, ?_, ?_⟩
  · rcases hi with hi | hi
    · exact h.ndj (e ▸ hi)
    · omega
  · rcases hi with hi | hi
    · exact h.ndj (e ▸ hi)
    · omega
  · rintro (hi | hi)
    · exact h.ndj hi
    · omega
  · rintro a ha (hi | hi)
    · exact h.ndq a ha hi
    · have := hlow a ha; omega
  · rintro i (hi | hi)
    · exact Nat.lt_of_lt_of_le (h'.low i hi) hof1.size
    · exact Nat.lt_of_lt_of_le hi.2 hof1.size
theorem Hold.rebase {K : World → (Nat → Prop) → Prop} (hK : Kp K) {A2 : Option Addr} {n2 c2 : Nat} {b : List UInt8} (h : Hold w0 W d N S (JnOb j d J) K) (hb : Below W.heap.size W W') (hr : Res W' W.heap.size 5 A2 n2 c2 b) :
    Hold w0 (W'.setCell ⟨j, 3, none⟩ (.slice A2 n2 c2)) d N S (JnOb j d { J with base := b }) K :=
  h.callG hK fun G ⟨D, A, n, c, Q, m, k, vs, h1, h2⟩ => ⟨_, ⟨_, _, _, _, _, _, _, _, h1.rebase hb hr, fun _ => Iff.rfl⟩, fun i hi => by
    rcases hi with hi | hi | hi | hi
    · exact .inl ((h2 i).2 (.inl hi))
    · exact .inl ((h2 i).2 (.inr (.inl hi)))
    · exact .inl ((h2 i).2 (.inr (.inr hi)))
    · exact .inr hi.1, (Off.set (F := G) (Off.of_below hb fun i a b => by omega) (.inl ((h2 j).2 (.inl rfl))) _)⟩
set_option maxRecDepth 100000 in
set_option maxHeartbeats 1000000 in
theorem jtake_base {M : World → (Nat → Prop) → Prop} (hM : Kp M) (h : Hold w0 W d N S (JnOb j d J) M) (A : Option Addr) (b : List UInt8) (n c : Nat) (hp : ∀ W F, M W F → BytF W F A b) (hlen : b.length = n) (hcap : n ≤ c) (hn : n ≤ 1073741824) (x : List UInt8) (body : List UInt8) (hbd : b = pt 2 x ++ body) (hx : x.length ≤ 65536) (hlast : J.last = 0) (rs : List (List UInt8)) (sp : Bool) (hrd : Rd false body rs sp) (hrl : (J.recs ++ rs).length ≤ 1073741824) :
    Calls Tryd.prog 35 #[.pointer (some ⟨j, 0, none⟩), .slice A n c] W fun e w' => e = .returned (.tuple #[.bool sp, .bool true]) ∧ Hold w0 w' d N S (JnOb j d { J with base := x, recs := J.recs ++ rs }) M := by
  have HLen := Lib.hid hlen
  have hcut := run_cut_l (P := Tryd.prog) Tryd.underlying31 Tryd.sizeByte
  have hcuth := run_cut_lh (P := Tryd.prog) Tryd.underlying31 Tryd.sizeByte
  have c5 := h.c5
  have hl5 : (J.last : Int) = 0 := by omega
  rw [hl5] at c5
  have hxl : Hid (x.length + (4 + body.length) = n) := show _ = _ by rw [← hlen, hbd, List.length_append, pt_len]; omega
  obtain ⟨k, hk⟩ : ∃ k, k = x.length := ⟨_, rfl⟩
  have hkx : Hid (x.length = k) := hk.symm
  have hbyt := (hp _ _ (h.data hM)).byt
  have hre := reach_any W A _ n c hbyt hlen
  rw [hbd, reach_pt 2 x body (by omega), ← hk] at hre
  obtain ⟨g, o, rfl, hcell⟩ := byte0 hbyt (show b[0]? = some 2 by rw [hbd]; exact pt_head 2 x body)
  have hcell : W.cell? ⟨g, o, none⟩ = some (.int .u8 2) := hcell
  have hkn : 4 + k ≤ n := by have := hxl.out; omega
  have hkx2 : k ≤ 65536 := by omega
  obtain ⟨v, hmin, hkv⟩ : ∃ v : Nat, (if (n : Int) < 65540 then (n : Int) else 65540) = (v : Int) ∧ 4 + k ≤ v := by
    by_cases hv : (n : Int) < 65540
    · exact ⟨n, by rw [if_pos hv], hkn⟩
    · exact ⟨65540, by rw [if_neg hv]; rfl, by omega⟩
  have hmn : ∀ w, (Builtin.min_ #[3, 3] 3 #[.int .i64 65540, .int .i64 (n : Int)]).run Tryd.prog w = .ok (.int .i64 (v : Int)) w := fun w => by rw [run_min_int2, hmin]
  clear hmin
  have hkv' : ¬ (v : Int) < 4 + (k : Int) := by omega
  have hcc := hcut (some ⟨g, o, none⟩) n c (4 + k) (4 + (k : Int)) (by omega) (by omega)
  have hch := hcuth (some ⟨g, o, none⟩) n c 4 (4 + k) 4 (4 + (k : Int)) rfl (by omega) (by omega) (by omega)
  have e4 : 4 + k - 4 = k := by omega
  rw [e4] at hch
  have hB1 : Vlt (∀ W F, M W F → BytF W F (if c = 4 + k then some (⟨g, o, none⟩ : Addr) else (some (⟨g, o, none⟩ : Addr)).map (·.add (4 + k))) body) := vlt fun W F hm => by
    have h1 := (hp W F hm).cut (4 + k) c (by rw [hlen]; exact hcap)
    rw [hbd, hk, pt_drop] at h1
    rw [hk]; exact h1
  have hB4 : Vlt (∀ W F, M W F → BytF W F (if c = 4 then some (⟨g, o, none⟩ : Addr) else (some (⟨g, o, none⟩ : Addr)).map (·.add 4)) x) := vlt fun W F hm => by
    have h1 := ((hp W F hm).take (4 + k)).cut 4 c (by rw [List.length_take, hlen]; omega)
    rw [hbd, ← hkx.out, pt_mid] at h1
    exact h1
  generalize (if c = 4 + k then some (⟨g, o, none⟩ : Addr) else (some (⟨g, o, none⟩ : Addr)).map (·.add (4 + k))) = A1 at *
  generalize (if c = 4 then some (⟨g, o, none⟩ : Addr) else (some (⟨g, o, none⟩ : Addr)).map (·.add 4)) = A4 at *
  have hL1 : Hid (body.length = n - (4 + k)) := show _ = _ by have := hxl.out; rw [hkx.out] at this; omega
  have hC1 : n - (4 + k) ≤ c - (4 + k) := by omega
  have hN1 : n - (4 + k) ≤ n := by omega
  clear hk hbd hlen hbyt e4
  go_enter Tryd.func35, Tryd.ntmps35
  go_wp2_with fail
  refine hre.mono ?_
  rintro e w3 ⟨rfl, hb3⟩
  clear hre
  have hh3 := h.next (jnOb _ _ _) hM hb3
  have hby4 := (hB4.out _ _ (hh3.data hM)).byt
  have hcl := bclone_any w3 A4 x k (c - 4) hby4 hkx.out (by omega)
  clear h hb3 hcell c5 hl5
  go_wp2_with fail
  refine hcl.mono ?_
  rintro e w4 ⟨A5, c5, rfl, hr4, hb4⟩
  clear hcl hby4
  have hh1 := hh3.rebase hM hb4 hr4
  have hj4 : w4.frozen? ⟨j, 3, none⟩ = false := (hh3.next (jnOb _ _ _) hM hb4).fr 3
  obtain ⟨A0, n0, c0, c3⟩ := (hh3.next (jnOb _ _ _) hM hb4).c3
  clear hh3 hb4 hr4
  go_wp2_with fail
  go_loopw [1, 4] (fun yy sl wr => ∃ (s : Bool) (A2 : Option Addr) (n2 c2 : Nat) (bd : List UInt8) (rs2 R : List (List UInt8)), yy = .slice A2 n2 c2 ∧ sl = .bool s ∧ Vlt (∀ W F, M W F → BytF W F A2 bd) ∧ Hid (bd.length = n2) ∧ n2 ≤ c2 ∧ Vlt (Rd s bd rs2 sp) ∧ Vlt (R ++ rs2 = J.recs ++ rs) ∧ Hold w0 wr d N S (JnOb j d { J with base := x, recs := R }) M ∧ n2 ≤ n) (fun yy _ _ => slen yy)
  case atStart => exact ⟨false, _, _, _, _, rs, J.recs, rfl, rfl, hB1, hL1, hC1, vlt hrd, vlt rfl, hh1, hN1⟩
  case round =>
    obtain ⟨s, A2, n2, c2, bd, rs2, R, rfl, rfl, hB2, hL2, hC2, hR2, hE2, hh2, hN2⟩ := hrel
    have hRl : R.length ≤ 1073741824 := by
      have h := congrArg List.length hE2.out
      rw [List.length_append] at h
      omega
    have hbyt := (hB2.out _ _ (hh2.data hM)).byt
    have hR := hR2.out
    clear hR2
    cases hR with
    | nil =>
      obtain rfl : n2 = 0 := hL2.out.symm
      have hEE := vlt (show R = J.recs ++ rs by have h := hE2.out; rwa [List.append_nil] at h)
      clear hE2 hcut hcuth
      go_wp2
      go_ret2
      exact ⟨rfl, by rw [← hEE.out]; exact hh2⟩
    | more _ p r rs' _ hpl hrr =>
      have hn2 : n2 = 4 + p.length + r.length := by rw [← hL2.out, List.length_append, pt_len]
      have hre := reach_any wr A2 _ n2 c2 hbyt hL2.out
      rw [reach_pt 1 p r (by omega)] at hre
      obtain ⟨g, o, rfl, hcell⟩ := byte0 hbyt (pt_head 1 p r)
      have hcell : wr.cell? ⟨g, o, none⟩ = some (.int .u8 1) := hcell
      have hlp : Hid (p.length + (4 + r.length) = n2) := show _ = _ by omega
      obtain ⟨k, hk⟩ : ∃ k, k = p.length := ⟨_, rfl⟩
      have hkp : Hid (p.length = k) := hk.symm
      rw [← hk] at hre hn2 hpl
      have hcc := hcut (some ⟨g, o, none⟩) n2 c2 (4 + k) (4 + (k : Int)) (by omega) (by omega)
      have hB3 : Vlt (∀ W F, M W F → BytF W F (if c2 = 4 + k then some (⟨g, o, none⟩ : Addr) else (some (⟨g, o, none⟩ : Addr)).map (·.add (4 + k))) r) := vlt fun W F hm => by
        have h1 := (hB2.out W F hm).cut (4 + k) c2 (by rw [hL2.out]; exact hC2)
        rw [hk, pt_drop] at h1
        rw [hk]; exact h1
      generalize (if c2 = 4 + k then some (⟨g, o, none⟩ : Addr) else (some (⟨g, o, none⟩ : Addr)).map (·.add (4 + k))) = A3 at *
      have hL3 : Hid (r.length = n2 - (4 + k)) := show _ = _ by omega
      have hC3 : n2 - (4 + k) ≤ c2 - (4 + k) := by omega
      have hrr2 := vlt hrr
      have hn2' : 4 + k ≤ n2 := by omega
      clear hrr hk hn2
      cases s with
      | true =>
        have hE3 : Vlt (R ++ rs' = J.recs ++ rs) := hE2
        clear hE2 hbyt hcuth
        go_wp2_with fail
        refine hre.mono ?_
        rintro e w3 ⟨rfl, hb3⟩
        clear hre
        have hcell3 : w3.cell? ⟨g, o, none⟩ = some (.int .u8 1) := (hb3.cell (p := ⟨g, o, none⟩) (World.block_lt_of_cell? wr _ hcell)).trans hcell
        have hh3 := hh2.next (jnOb _ _ _) hM hb3
        clear hh2 hb3 hcell hB2
        go_wp2
        go_roundw
        case rel => exact ⟨true, A3, n2 - (4 + k), c2 - (4 + k), r, rs', R, rfl, rfl, hB3, hL3, hC3, hrr2, hE3, hh3, by omega⟩
        case measure => simp [slen]; omega
      | false =>
        have hE3 : Vlt ((R ++ [p]) ++ rs' = J.recs ++ rs) := vlt (by rw [List.append_assoc]; exact hE2.out)
        have hch := hcuth (some ⟨g, o, none⟩) n2 c2 4 (4 + k) 4 (4 + (k : Int)) rfl (by omega) (by omega) (by omega)
        have hB4 : Vlt (∀ W F, M W F → BytF W F (if c2 = 4 then some (⟨g, o, none⟩ : Addr) else (some (⟨g, o, none⟩ : Addr)).map (·.add 4)) p) := vlt fun W F hm => by
          have h1 := ((hB2.out W F hm).take (4 + k)).cut 4 c2 (by rw [List.length_take, hL2.out]; omega)
          rw [← hkp.out, pt_mid] at h1
          exact h1
        generalize (if c2 = 4 then some (⟨g, o, none⟩ : Addr) else (some (⟨g, o, none⟩ : Addr)).map (·.add 4)) = A4 at *
        have e4 : 4 + k - 4 = k := by omega
        rw [e4] at hch
        clear hE2 hbyt e4
        go_wp2_with fail
        refine hre.mono ?_
        rintro e w3 ⟨rfl, hb3⟩
        clear hre
        have hcell3 : w3.cell? ⟨g, o, none⟩ = some (.int .u8 1) := (hb3.cell (p := ⟨g, o, none⟩) (World.block_lt_of_cell? wr _ hcell)).trans hcell
        have hh3 := (hh2.next (jnOb _ _ _) hM hb3).drew (jnOb _ _ _) hM
        clear hh2 hb3 hcell hB2
        have hby4 := (hB4.out _ _ (hh3.data hM)).byt
        have hcl := bclone_any w3.drew A4 p k (c2 - 4) hby4 hkp.out (by omega)
        obtain ⟨O, G, h1, ⟨D, Bb, bn, bc, Q, m, z, vs, hat, hG⟩, h3, h4, h5, h6, h7⟩ := hh3
        obtain ⟨hvm, _, _⟩ := owns_size hat.own
        have hm : m ≤ 1073741824 := by rw [← hvm, hat.recs.1]; exact hRl
        have c4 := (row6 hat.row).1.2.2.2.2.1
        go_upto_region 20 with fail
        refine c_start (S := (fun W' => W'.cell? ⟨j, 4, none⟩ = some (.slice Q m z))) 13 (by kernel_rfl) (c4) (fun hHeld => ?_)
        refine c_take (i := 0) (oi := ⟨(some 74), _, _, _, _, _⟩) (v := ?vq1_0) rfl (by decide) (by kernel_rfl) (by kernel_rfl) (by kernel_rfl) (fun _ _ _ h => h) (Or.inl ⟨by rfl, ?yq1_0⟩) hHeld ?_
        case yq1_0 => (intro W0 hSw; go_simp; try with_reducible rfl)
        try simp only [Act.put, List.setIfInBounds_toArray, List.set_cons_zero, List.set_cons_succ]
        refine c_take (i := 1) (oi := ⟨(some 75), _, _, _, _, _⟩) (v := ?vq1_1) rfl (by decide) (by kernel_rfl) (by kernel_rfl) (by kernel_rfl) (fun _ _ _ h => h) (Or.inl ⟨by rfl, ?yq1_1⟩) hHeld ?_
        case yq1_1 => (intro W0 hSw; go_simp; try with_reducible rfl)
        try simp only [Act.put, List.setIfInBounds_toArray, List.set_cons_zero, List.set_cons_succ]
        refine c_take (i := 2) (oi := ⟨(some 76), _, _, _, _, _⟩) (v := ?vq1_2) rfl (by decide) (by kernel_rfl) (by kernel_rfl) (by kernel_rfl) (fun _ _ _ h => h) (Or.inl ⟨by rfl, ?yq1_2⟩) hHeld ?_
        case yq1_2 => (intro W0 hSw; go_simp; try with_reducible rfl)
        try simp only [Act.put, List.setIfInBounds_toArray, List.set_cons_zero, List.set_cons_succ]
        refine c_take (i := 3) (oi := ⟨(some 77), _, _, _, _, _⟩) (v := ?vq1_3) rfl (by decide) (by kernel_rfl) (by kernel_rfl) (by kernel_rfl) (fun _ _ _ h => h) (Or.inl ⟨by rfl, ?yq1_3⟩) hHeld ?_
        case yq1_3 => (intro W0 hSw; go_simp; try with_reducible rfl)
        try simp only [Act.put, List.setIfInBounds_toArray, List.set_cons_zero, List.set_cons_succ]
        refine c_read (i := 4) (oi := ⟨(some 78), _, _, _, _, _⟩) (v := ?vq1_4) rfl (by decide) (by kernel_rfl) (by kernel_rfl) (by kernel_rfl) (by kernel_rfl) (by kernel_rfl) (fun _ _ _ h => h) (Or.inl ⟨by rfl, ?yq1_4⟩) hHeld ?_
        case yq1_4 => (intro W0 hSw; go_simp; try with_reducible rfl)
        try simp only [Act.put, List.setIfInBounds_toArray, List.set_cons_zero, List.set_cons_succ]
        refine c_take (i := 5) (oi := ⟨(some 79), _, _, _, _, _⟩) (v := ?vq1_5) rfl (by decide) (by kernel_rfl) (by kernel_rfl) (by kernel_rfl) (fun _ _ _ h => h) (Or.inl ⟨by rfl, ?yq1_5⟩) hHeld ?_
        case yq1_5 => (intro W0 hSw; go_simp; try with_reducible rfl)
        try simp only [Act.put, List.setIfInBounds_toArray, List.set_cons_zero, List.set_cons_succ]
        refine c_take (i := 6) (oi := ⟨(some 80), _, _, _, _, _⟩) (v := ?vq1_6) rfl (by decide) (by kernel_rfl) (by kernel_rfl) (by kernel_rfl) (fun _ _ _ h => h) (Or.inl ⟨by rfl, ?yq1_6⟩) hHeld ?_
        case yq1_6 => (intro W0 hSw; go_simp; try with_reducible rfl)
        try simp only [Act.put, List.setIfInBounds_toArray, List.set_cons_zero, List.set_cons_succ]
        refine c_take (i := 7) (oi := ⟨(some 81), _, _, _, _, _⟩) (v := ?vq1_7) rfl (by decide) (by kernel_rfl) (by kernel_rfl) (by kernel_rfl) (fun _ _ _ h => h) (Or.inl ⟨by rfl, ?yq1_7⟩) hHeld ?_
        case yq1_7 => (intro W0 hSw; go_simp; try with_reducible rfl)
        try simp only [Act.put, List.setIfInBounds_toArray, List.set_cons_zero, List.set_cons_succ]
        refine c_step (i := 8) (o := ⟨(some 82), _, _, _, _, _⟩) (by kernel_rfl) rfl (fun K hK => ?_)
        go_simp
        refine hcl.mono ?_
        rintro e w8 ⟨A8, c8, rfl, hr8, hb8⟩
        clear hcl
        have hof8 : Off (fun _ => False) w3.drew w8 := Off.of_below hb8 fun i a b => by omega
        have hat8 := hat.off hof8 (fun _ _ h => h)
        refine hK.out _ _ ((row6 hat8.row).1.2.2.2.2.1) (fun hHeld => ?_)
        clear hK K
        try simp only [Act.put, List.setIfInBounds_toArray, List.set_cons_zero, List.set_cons_succ]
        refine c_step (i := 9) (o := ⟨(some 83), _, _, _, _, _⟩) (by kernel_rfl) rfl (fun K hK => ?_)
        go_simp
        have hb9 := hb8.alloc (by have := hb8.size; omega) (.cells #[.slice A8 k c8] 31)
        have hof9 : Off (fun _ => False) w3.drew (w8.alloc (.cells #[.slice A8 k c8] 31)) := Off.of_below hb9 fun i a b => by omega
        have hat9 := hat.off hof9 (fun _ _ h => h)
        have hus := heap_alloc_new w8 (.cells #[.slice A8 k c8] 31)
        have hpl : PL (w8.alloc (.cells #[.slice A8 k c8] 31)) (fun i => w3.drew.heap.size ≤ i ∧ i < w8.heap.size) [.slice A8 k c8] [p] := PL.one (((hr8.inF (F := fun i => w3.drew.heap.size ≤ i) fun i h => h).mono fun i h1 h2 => (⟨h2, h1⟩ : w3.drew.heap.size ≤ i ∧ i < w8.heap.size)).off ((Off.refl (fun _ => False) w8).alloc _) fun _ _ _ h => h) hkp.out hr8.cap
        refine hK.out _ _ ((row6 hat9.row).1.2.2.2.2.1) (fun hHeld => ?_)
        clear hK K
        try simp only [Act.put, List.setIfInBounds_toArray, List.set_cons_zero, List.set_cons_succ]
        obtain ⟨V9, hV9⟩ : ∃ V9, V9 = w8.alloc (.cells #[.slice A8 k c8] 31) := ⟨_, rfl⟩
        have hV9s : V9.heap.size = w8.heap.size + 1 := by rw [hV9]; simp
        rw [← hV9] at hb9 hof9 hat9 hus hpl hHeld ⊢
        have hb8s := hb8.size
        clear hV9 hat8 hof8 hb8 hr8
        refine c_step (i := 10) (o := ⟨(some 84), _, _, _, _, _⟩) (by kernel_rfl) rfl (fun K hK => ?_)
        refine step_append_row V9 rfl (.tmp 78) (.tmp 83) 32 rfl 31 Tryd.underlying32 (.slice none 0 0) 1 24 Tryd.infoSlc rfl (by decide) (by decide) Q m z vs rfl hat9.own (some ⟨w8.heap.size, 0, none⟩) 1 1 rfl [.slice A8 k c8] (fun _ => ⟨_, rfl, fun i u hi => by rw [addr_add, Nat.zero_add, cell_of_row _ _ _ _ _ _ hus]; simpa using hi⟩) hpl.single rfl (by omega) ?_
        intro Q2 z2 w9 hown9 hgr9 hq9 _ _
        have hrow9 := grown_row hgr9 hat9.qne hat9.row
        refine hK.out _ _ ((row6 hrow9).1.2.2.2.2.1) (fun hHeld => ?_)
        clear hK K
        try simp only [Act.put, List.setIfInBounds_toArray, List.set_cons_zero, List.set_cons_succ]
        refine c_take (i := 11) (oi := ⟨(some 85), _, _, _, _, _⟩) (v := ?vq1_8) rfl (by decide) (by kernel_rfl) (by kernel_rfl) (by kernel_rfl) (fun _ _ _ h => h) (Or.inl ⟨by rfl, ?yq1_8⟩) hHeld ?_
        case yq1_8 => (intro W0 hSw; go_simp; try with_reducible rfl)
        try simp only [Act.put, List.setIfInBounds_toArray, List.set_cons_zero, List.set_cons_succ]
        refine c_take (i := 12) (oi := ⟨(some 86), _, _, _, _, _⟩) (v := ?vq1_9) rfl (by decide) (by kernel_rfl) (by kernel_rfl) (by kernel_rfl) (fun _ _ _ h => h) (Or.inl ⟨by rfl, ?yq1_9⟩) hHeld ?_
        case yq1_9 => (intro W0 hSw; go_simp; try with_reducible rfl)
        try simp only [Act.put, List.setIfInBounds_toArray, List.set_cons_zero, List.set_cons_succ]
        have hqlt := owns_lt hat.own
        have hofq : Off (fun b => ∃ a, Q = some a ∧ b = a.block) V9 w9 := grown_off hgr9 fun a ha => ⟨a, ha, rfl⟩
        have hpl9 : PL w9 (fun i => w3.drew.heap.size ≤ i ∧ i < V9.heap.size) [.slice A8 k c8] [p] := (hpl.off hofq (fun b _ hb ⟨a, ha, e⟩ => by have := hqlt a ha; omega)).mono (fun i h1 h2 => ⟨h2.1, by omega⟩)
        have hat10 := hat9.push hpl9 hgr9 hown9 hq9 (fun i hi => ⟨hi.2, by have := hat.ltj; omega, fun a ha e => by have := hqlt a ha; omega⟩)
        have hoff10 : Off G w3.drew (w9.setCell ⟨j, 4, none⟩ (.slice Q2 (m + 1) z2)) := ((hof9.mono (G := G) (fun _ _ h => h.elim)).trans hofq (fun i ⟨a, ha, e⟩ => .inl ((hG i).2 (.inr (.inl ⟨a, ha, e⟩))))).set (.inl ((hG j).2 (.inl rfl))) _
        have hend : Hold w0 (w9.setCell ⟨j, 4, none⟩ (.slice Q2 (m + 1) z2)) d N S (JnOb j d { J with base := x, recs := R ++ [p] }) M := Hold.rawG hM h1 h3 h4 h5 h6 h7 ⟨_, _, _, _, _, _, _, _, hat10, fun _ => Iff.rfl⟩ (push_own2 hG hq9 (by omega)) hoff10
        have c4b := (row6 hrow9).1.2.2.2.2.1
        have f4b := (row6 hrow9).2 4
        clear hoff10 hat10 hpl9 hofq hqlt hrow9 hq9 hgr9 hown9 hpl hus hat9 hat h1 h3 h4 h5 h6 h7
        refine c_call (S' := (fun _ => True)) (o := ⟨none, _, _, _, _, _⟩) (by kernel_rfl) (by kernel_rfl) rfl (fun K hK => ?_)
        clear hHeld
        go_simp
        refine hK.out _ _ (trivial) (fun hHeld => ?_)
        clear hK K
        try simp only [Act.put]
        refine wpAnyH_done (by kernel_rfl) ?_ _
        clear hHeld
        go_wp2
        go_roundw
        case rel => exact ⟨false, A3, n2 - (4 + k), c2 - (4 + k), r, rs', R ++ [p], rfl, rfl, hB3, hL3, hC3, hrr2, hE3, hend, by omega⟩
        case measure => simp [slen]; omega
    | zero _ m r _ _ hm4 hhd hrr =>
      have hz := lz_rep m r hhd
      have hn2 : n2 = m + r.length := by rw [← hL2.out, List.length_append, List.length_replicate]
      have hre := reach_any wr A2 _ n2 c2 hbyt hL2.out
      have h00 : (List.replicate m (0 : UInt8) ++ r)[0]? = some 0 := by
        obtain ⟨m', rfl⟩ : ∃ m', m = m' + 1 := ⟨m - 1, by omega⟩
        rw [List.replicate_succ]; rfl
      have hlt := reachN_lt (List.replicate m (0 : UInt8) ++ r)
      generalize reachN (List.replicate m (0 : UInt8) ++ r) = q at *
      obtain ⟨g, o, rfl, hcell⟩ := byte0 hbyt h00
      have hcell : wr.cell? ⟨g, o, none⟩ = some (.int .u8 0) := hcell
      have hB3 : Vlt (∀ W F, M W F → BytF W F (if c2 = m then some (⟨g, o, none⟩ : Addr) else (some (⟨g, o, none⟩ : Addr)).map (·.add m)) r) := vlt fun W F hm => by
        have h1 := (hB2.out W F hm).cut m c2 (by rw [hL2.out]; exact hC2)
        have e : (List.replicate m (0 : UInt8) ++ r).drop m = r := by
          have e2 : (List.replicate m (0 : UInt8)).length = m := by simp
          rw [show (List.replicate m (0 : UInt8) ++ r).drop m = (List.replicate m (0 : UInt8) ++ r).drop (List.replicate m (0 : UInt8)).length by rw [e2]]
          exact List.drop_left
        rw [e] at h1; exact h1
      have hcc := hcut (some ⟨g, o, none⟩) n2 c2 m (m : Int) rfl (by omega)
      generalize (if c2 = m then some (⟨g, o, none⟩ : Addr) else (some (⟨g, o, none⟩ : Addr)).map (·.add m)) = A3 at *
      have hL3 : Hid (r.length = n2 - m) := show _ = _ by omega
      have hC3 : n2 - m ≤ c2 - m := by omega
      have hrr2 := vlt hrr
      have hn2' : m ≤ n2 := by omega
      clear hrr hcuth hn2
      go_wp2_with fail
      refine hre.mono ?_
      rintro e w3 ⟨rfl, hb3⟩
      clear hre
      have hcell3 : w3.cell? ⟨g, o, none⟩ = some (.int .u8 0) := (hb3.cell (p := ⟨g, o, none⟩) (World.block_lt_of_cell? wr _ hcell)).trans hcell
      have hnt := noughts_any w3 (some ⟨g, o, none⟩) (List.replicate m 0 ++ r) n2 c2 (hbyt.next hb3) hL2.out hC2 (by omega)
      rw [hz] at hnt
      have hh3 := hh2.next (jnOb _ _ _) hM hb3
      clear hh2 hb3 hcell hB2 hbyt h00 hhd hz
      go_wp2_with fail
      refine hnt.mono ?_
      rintro e w4 ⟨rfl, rfl⟩
      clear hnt
      have hm4' : ¬ (m : Int) < 4 := by omega
      go_wp2
      go_roundw
      case rel => exact ⟨true, A3, n2 - m, c2 - m, r, rs2, R, rfl, rfl, hB3, hL3, hC3, hrr2, hE2, hh3, by omega⟩
      case measure => simp [slen]; omega
    | torn _ p k hpl hk hk2 =>
      have hEE : Vlt (R ++ [] = J.recs ++ rs) := hE2
      have hn2 : n2 = k := by rw [← hL2.out, List.length_take, pt_len]; omega
      subst hn2
      have hre := reach_any wr A2 _ n2 c2 hbyt hL2.out
      obtain ⟨hr1, hr2⟩ := reach_torn p n2 hpl hk hk2
      obtain ⟨g, o, rfl, hcell⟩ := byte0 hbyt (torn_head p n2 hk)
      have hcell : wr.cell? ⟨g, o, none⟩ = some (.int .u8 1) := hcell
      generalize reachN ((pt 1 p).take n2) = q at *
      have hr1' : (n2 : Int) < (q : Int) := by omega
      have hr2' : ¬ (16388 : Int) < (q : Int) := by omega
      have hcc := hcut (some ⟨g, o, none⟩) n2 c2 n2 (n2 : Int) rfl (Nat.le_refl _)
      rw [Nat.sub_self] at hcc
      generalize (if c2 = n2 then some (⟨g, o, none⟩ : Addr) else (some (⟨g, o, none⟩ : Addr)).map (·.add n2)) = A3 at *
      clear hE2 hbyt hcuth
      go_wp2_with fail
      refine hre.mono ?_
      rintro e w3 ⟨rfl, hb3⟩
      clear hre
      have hcell3 : w3.cell? ⟨g, o, none⟩ = some (.int .u8 1) := (hb3.cell (p := ⟨g, o, none⟩) (World.block_lt_of_cell? wr _ hcell)).trans hcell
      have hh3 := hh2.next (jnOb _ _ _) hM hb3
      clear hh2 hb3 hcell hB2
      go_wp2
      go_roundw
      case rel => exact ⟨true, A3, 0, c2 - n2, [], [], R, rfl, rfl, vlt fun W F _ => .inl rfl, rfl, by omega, vlt (Rd.nil true), hEE, hh3, by omega⟩
      case measure => simp [slen]; omega
/-- take, of any file that a journal leaves. -/
theorem jtake_any {M : World → (Nat → Prop) → Prop} (hM : Kp M) (h : Hold w0 W d N S (JnOb j d J) M) (A : Option Addr) (b : List UInt8) (n c : Nat) (hp : ∀ W F, M W F → BytF W F A b) (hlen : b.length = n) (hcap : n ≤ c) (hn : n ≤ 1073741824) (hd : Option (List UInt8)) (body : List UInt8) (hbd : b = hdB hd ++ body) (hh : ∀ x, hd = some x → J.last = 0 ∧ x.length ≤ 65536) (rs : List (List UInt8)) (sp : Bool) (hrd : Rd false body rs sp) (hrl : (J.recs ++ rs).length ≤ 1073741824) :
    Calls Tryd.prog 35 #[.pointer (some ⟨j, 0, none⟩), .slice A n c] W fun e w' => e = .returned (.tuple #[.bool sp, .bool true]) ∧ Hold w0 w' d N S (JnOb j d { J with base := hd.getD J.base, recs := J.recs ++ rs }) M := by
  cases hd with
  | some x => exact jtake_base hM h A b n c hp hlen hcap hn x body hbd (hh x rfl).2 (hh x rfl).1 rs sp hrd hrl
  | none =>
    have e : b = body := hbd
    subst e
    by_cases hl : J.last = 0
    · by_cases hn0 : n = 0
      · exact jtake_empty h A b n c hp hlen hcap hn hl hn0 rs sp hrd hrl
      · obtain ⟨v, hv⟩ : ∃ v, b[0]? = some v := ⟨b[0], List.getElem?_eq_getElem (by omega)⟩
        rcases hrd.head v hv with rfl | rfl
        · exact jtake_plain0 hM h A b n c hp hlen hcap hn hl (by omega) hv rs sp hrd hrl
        · exact jtake_plain1 hM h A b n c hp hlen hcap hn hl (by omega) hv rs sp hrd hrl
    · exact jtake_far hM h A b n c hp hlen hcap hn hl rs sp hrd hrl
end
end Go.Proofs.YtaklbgikoeedbaaDoor
