/-
  Words and contracts that other texts share, several in one text. No statement of the seat is proved here. Conditions: as each contract says.
  Lists of lists of bytes that came in: words that other texts share. No statement is proved here. Conditions: none.
  Rows of slices of bytes, as values; the contract of a journal's clones; laws' comparison of two lists is elsewhere. Conditions: fewer than 2^40 lists of fewer than 2^40 bytes.
  A disk and a journal that a law has made, beside data that is kept (K): the contracts of the disk's calls over them. Conditions: as each says.
  The names of a journal's files. Conditions: file numbers below 100.
  One law on regions that draw their order, for the texts of this seat: the condition that is held may be made stronger on the way. Conditions: none.
  Laws on regions that draw their order, for the texts of this seat: a condition on the world that is held only till operation c has come up (a load that c waits for may be taken first, though the region writes its cell behind c). Conditions: none.
  append onto rows that an object owns, of elements of any size. No statement is proved here. Conditions: lengths up to 2^40.
  A journal in memory, beside its disk: the contracts of Done, Sync, All, Base. Conditions: as each says.
  The lowest bytes of a number, as lists: words that other texts share. No statement is proved here. Conditions: none.
  The number that bytes tell: words that other texts share. No statement is proved here. Conditions: none.
  What a journal's files hold, as lists of bytes: parts, noughts, what is read of them. No statement is proved here. Conditions: none.
  Contracts of octet.Big and octet.Little: b, and the number's lowest bytes behind it. Conditions: the slice is shorter than 2^46 bytes.
  Contracts of octet.FromBig and octet.FromLittle: the number that up to eight bytes tell, EARG of more. Conditions: the slice is shorter than 2^47 bytes.
  Contracts of a journal's part, noughts, reach. Conditions: fewer than 2^40 bytes.
  The contract of a journal's write. Conditions: fewer than 2^20 records of up to 2^30 bytes.
  How a journal in memory turns; the contracts of Sync and Add. Conditions: as each says.
  The contract of a journal's Add. Conditions: fewer than 2^20 records, fewer than 2^29 calls.
  The contract of a journal's Keep. Conditions: fewer than 100 files, fewer than 2^29 calls.
-/
import Derived.Test.YtaklbgikoeedbaaDoorPkA
import Derived.Test.YtaklbgikoeedbaaDoorPkB
import Derived.Deep.RegionHeld3
import Derived.StillTail
import Derived.BigQuiet
import Derived.LoopTactic
import Derived.Laws.Shifts
import Derived.Laws.ShiftsVar
import Derived.Laws.BitsAllLaws
import Derived.Lib.SliceRun
namespace Go.Proofs.YtaklbgikoeedbaaDoor
open Go.RowKit

/-- A list of lists of bytes that came in. -/
def Prt (w : World) (B : Nat) (A : Option Addr) (ps : List (List UInt8)) : Prop :=
  ps = [] ∨ ∃ b o, A = some ⟨b, o, none⟩ ∧ b < B ∧ ∀ j p, ps[j]? = some p → ∃ Aj nj cj, w.cell? ⟨b, o + j, none⟩ = some (.slice Aj nj cj) ∧ p.length = nj ∧ nj ≤ cj ∧ Byt w B Aj p
section
variable {w w' : World} {B B' : Nat} {A : Option Addr} {ps : List (List UInt8)}
theorem Prt.below (h : Prt w B A ps) (hb : Below B w w') : Prt w' B A ps := by
  rcases h with h | ⟨b, o, hA, hlt, hc⟩
  · exact .inl h
  · refine .inr ⟨b, o, hA, hlt, fun j p hj => ?_⟩
    obtain ⟨Aj, nj, cj, h1, h2, h3, h4⟩ := hc j p hj
    exact ⟨Aj, nj, cj, (hb.cell (p := ⟨b, o + j, none⟩) hlt).trans h1, h2, h3, h4.below hb⟩
theorem Prt.up (h : Prt w B A ps) (hB : B ≤ B') : Prt w B' A ps := by
  rcases h with h | ⟨b, o, hA, hlt, hc⟩
  · exact .inl h
  · refine .inr ⟨b, o, hA, by omega, fun j p hj => ?_⟩
    obtain ⟨Aj, nj, cj, h1, h2, h3, h4⟩ := hc j p hj
    exact ⟨Aj, nj, cj, h1, h2, h3, h4.up hB⟩
theorem Prt.at_ (h : Prt w B A ps) {k : Nat} (hk : k < ps.length) : ∃ b o Aj nj cj p, A = some ⟨b, o, none⟩ ∧ b < B ∧ w.cell? ⟨b, o + k, none⟩ = some (.slice Aj nj cj) ∧ Hid (ps[k]? = some p) ∧ Hid (p.length = nj) ∧ nj ≤ cj ∧ Byt w B Aj p := by
  rcases h with h | ⟨b, o, hA, hlt, hc⟩
  · subst h; simp at hk
  · obtain ⟨Aj, nj, cj, h1, h2, h3, h4⟩ := hc k _ (List.getElem?_eq_getElem hk)
    exact ⟨b, o, Aj, nj, cj, _, hA, hlt, h1, List.getElem?_eq_getElem hk, h2, h3, h4⟩
end
theorem flat_take {ps : List (List UInt8)} {k : Nat} {p : List UInt8} (h : ps[k]? = some p) : (ps.take (k + 1)).flatten = (ps.take k).flatten ++ p := by
  obtain ⟨hk, rfl⟩ := List.getElem?_eq_some_iff.1 h
  rw [List.take_succ_eq_append_getElem hk, List.flatten_append, List.flatten_cons, List.flatten_nil, List.append_nil]
theorem flat_le (ps : List (List UInt8)) (k : Nat) : (ps.take k).flatten.length ≤ ps.flatten.length := by
  have h : ps.flatten.length = ((ps.take k) ++ (ps.drop k)).flatten.length := by rw [List.take_append_drop]
  rw [h, List.flatten_append, List.length_append]; omega
/-- A list of one list. -/
theorem Prt.one {w : World} {E : TypeId} {A : Option Addr} {l : List UInt8} {n c : Nat} (ha : Byt w w.heap.size A l) (hl : l.length = n) (hc : n ≤ c) :
    Prt (w.alloc (.cells #[.slice A n c] E)) (w.alloc (.cells #[.slice A n c] E)).heap.size (some ⟨w.heap.size, 0, none⟩) [l] := by
  refine .inr ⟨w.heap.size, 0, rfl, by simp, fun j p hj => ?_⟩
  match j, hj with
  | 0, hj =>
    simp at hj
    subst hj
    exact ⟨A, n, c, by simp, hl, hc, (ha.alloc (Nat.le_refl _) _).up (by simp)⟩
/-- A list of two lists. -/
theorem Prt.two {w : World} {E : TypeId} {A D : Option Addr} {l m : List UInt8} {n c k d : Nat} (ha : Byt w w.heap.size A l) (hl : l.length = n) (hc : n ≤ c) (hd : Byt w w.heap.size D m) (hm : m.length = k) (hk : k ≤ d) :
    Prt (w.alloc (.cells #[.slice A n c, .slice D k d] E)) (w.alloc (.cells #[.slice A n c, .slice D k d] E)).heap.size (some ⟨w.heap.size, 0, none⟩) [l, m] := by
  refine .inr ⟨w.heap.size, 0, rfl, by simp, fun j p hj => ?_⟩
  match j, hj with
  | 0, hj =>
    simp at hj
    subst hj
    exact ⟨A, n, c, by simp, hl, hc, (ha.alloc (Nat.le_refl _) _).up (by simp)⟩
  | 1, hj =>
    simp at hj
    subst hj
    exact ⟨D, k, d, by simp, hm, hk, (hd.alloc (Nat.le_refl _) _).up (by simp)⟩
theorem Prt.next {w w' : World} {A : Option Addr} {ps : List (List UInt8)} (h : Prt w w.heap.size A ps) (hb : Below w.heap.size w w') : Prt w' w'.heap.size A ps := (h.below hb).up hb.size
end Go.Proofs.YtaklbgikoeedbaaDoor
namespace Go.Proofs.YtaklbgikoeedbaaDoor
open Go.RowKit

/-- The cells vs are slices of the bytes ps, in blocks of F. -/
def PL (w : World) (F : Nat → Prop) (vs : List Value) (ps : List (List UInt8)) : Prop :=
  vs.length = ps.length ∧ ∀ (i : Nat) (p : List UInt8), ps[i]? = some p → ∃ A n c, vs[i]? = some (Value.slice A n c) ∧ p.length = n ∧ n ≤ c ∧ BytF w F A p
section
variable {w w' : World} {F G : Nat → Prop} {vs us : List Value} {ps qs : List (List UInt8)}
theorem PL.nil : PL w F [] [] := ⟨rfl, fun i p h => by simp at h⟩
theorem PL.mono (h : PL w F vs ps) (hG : ∀ i, i < w.heap.size → F i → G i) : PL w G vs ps :=
  ⟨h.1, fun i p hp => by
    obtain ⟨A, n, c, h1, h2, h3, h4⟩ := h.2 i p hp
    exact ⟨A, n, c, h1, h2, h3, h4.mono hG⟩⟩
theorem PL.off (h : PL w F vs ps) (hb : Off G w w') (hd : ∀ i, i < w.heap.size → F i → ¬ G i) : PL w' F vs ps :=
  ⟨h.1, fun i p hp => by
    obtain ⟨A, n, c, h1, h2, h3, h4⟩ := h.2 i p hp
    exact ⟨A, n, c, h1, h2, h3, h4.off hb hd⟩⟩
theorem PL.app (h : PL w F vs ps) (k : PL w F us qs) : PL w F (vs ++ us) (ps ++ qs) :=
  ⟨by rw [List.length_append, List.length_append, h.1, k.1], fun i p hp => by
    by_cases hi : i < ps.length
    · rw [List.getElem?_append_left hi] at hp
      obtain ⟨A, n, c, h1, h2⟩ := h.2 i p hp
      exact ⟨A, n, c, by rw [List.getElem?_append_left (by rw [h.1]; exact hi)]; exact h1, h2⟩
    · rw [List.getElem?_append_right (by omega)] at hp
      obtain ⟨A, n, c, h1, h2⟩ := k.2 _ p hp
      exact ⟨A, n, c, by rw [List.getElem?_append_right (by rw [h.1]; omega), h.1]; exact h1, h2⟩⟩
theorem PL.one {A : Option Addr} {l : List UInt8} {n c : Nat} (h : BytF w F A l) (hl : l.length = n) (hc : n ≤ c) : PL w F [.slice A n c] [l] :=
  ⟨rfl, fun i p hp => by
    match i, hp with
    | 0, hp => simp at hp; subst hp; exact ⟨A, n, c, rfl, hl, hc, h⟩⟩
theorem PL.single (h : PL w F vs ps) : ∀ u ∈ vs, u.oneCell' = true := fun u hu => by
  obtain ⟨i, hi, rfl⟩ := List.getElem_of_mem hu
  obtain ⟨A, n, c, h1, _⟩ := h.2 i _ (List.getElem?_eq_getElem (by rw [← h.1]; exact hi))
  rw [List.getElem?_eq_getElem hi] at h1
  injection h1 with h1
  rw [h1]; rfl
/-- A row that is known tells its list. -/
theorem PL.prtF {g t : Nat} (h : PL w F vs ps) (hg : w.heap[g]? = some (.cells vs.toArray t (0, 0))) (hF : F g) : PrtF w F (some ⟨g, 0, none⟩) ps :=
  .inr ⟨g, 0, rfl, hF, (Array.getElem?_eq_some_iff.1 hg).1, fun j p hp => by
    obtain ⟨A, n, c, h1, h2, h3, h4⟩ := h.2 j p hp
    refine ⟨A, n, c, ?_, h2, h3, h4⟩
    rw [Nat.zero_add, cell_of_row _ _ _ _ _ _ hg]
    simpa using h1⟩
theorem PrtF.prt {A : Option Addr} (h : PrtF w F A ps) : Prt w w.heap.size A ps := by
  rcases h with h | ⟨g, o, hA, hF, hg, hc⟩
  · exact .inl h
  · exact .inr ⟨g, o, hA, hg, fun j p hj => by
      obtain ⟨Aj, nj, cj, h1, h2, h3, h4⟩ := hc j p hj
      exact ⟨Aj, nj, cj, h1, h2, h3, h4.byt⟩⟩
end
theorem res_inF {w : World} {base : Nat} {F : Nat → Prop} {E : TypeId} {A : Option Addr} {n c : Nat} {l : List UInt8} (h : Res w base E A n c l) (hF : ∀ i, base ≤ i → F i) : BytF w F A l := h.inF hF
/-- Of n cells the first ones are slices of ps; the others are nil. -/
def nilsL (k : Nat) : List Value := List.replicate k (.slice none 0 0)
theorem nils_set (vs : List Value) (k : Nat) (u : Value) : (vs ++ nilsL (k + 1)).set vs.length u = (vs ++ [u]) ++ nilsL k := by
  rw [List.set_append_right _ _ (Nat.le_refl _), Nat.sub_self, nilsL, List.replicate_succ, List.set_cons_zero, List.append_assoc]; rfl

set_option maxRecDepth 100000 in
set_option maxHeartbeats 1000000 in
theorem clones_any (w : World) (A : Option Addr) (ps : List (List UInt8)) (n c : Nat) (hp : Prt w w.heap.size A ps) (hl : ps.length = n) (hn : n ≤ 1099511627776) (hps : ∀ p ∈ ps, p.length ≤ 1099511627776) :
    Calls Tryd.prog 28 #[.slice A n c] w fun e w' => e = .returned (.slice (some ⟨w.heap.size, 0, none⟩) n n) ∧ (∃ vs, w'.heap[w.heap.size]? = some (.cells vs.toArray 31 (0, 0)) ∧ PL w' (fun i => w.heap.size < i) vs ps) ∧ Below w.heap.size w w' := by
  have HL := Lib.hid hl
  obtain ⟨i, hi, hz, h1, h2⟩ := info_parts (show (Tryd.prog.info? 31).map (fun i => (i.zero, i.size, i.bytes)) = some (some (.slice none 0 0), 1, 24) by kernel_rfl)
  have hmk := run_make (P := Tryd.prog) w 32 31 i (.slice none 0 0) Tryd.underlying32 hi hz .i64 .i64 n n (by omega) (by omega) (by rw [h2]; omega) (by omega)
  simp only [Int.toNat_natCast] at hmk
  have e : madeCells (Value.slice none 0 0).cells (n * i.size) = (nilsL n).toArray := by
    rw [h1, Nat.mul_one]
    apply Array.ext'
    show (madeCells #[Value.slice none 0 0] n).toList = _
    rw [toList_madeCells_one]; rfl
  rw [e] at hmk
  have hg1 := Lib.hid (heap_alloc_new w (.cells (nilsL n).toArray 31))
  have hb1 : Below w.heap.size w (w.alloc (.cells (nilsL n).toArray 31)) := (Below.refl _ _).alloc (Nat.le_refl _) _
  have hs1 : (w.alloc (.cells (nilsL n).toArray 31)).heap.size = w.heap.size + 1 := by simp
  generalize w.alloc (.cells (nilsL n).toArray 31) = w1 at *
  clear hl hi hz h1 h2 e
  have HN := Lib.hid hn
  go_enter Tryd.func28, Tryd.ntmps28
  go_wp2
  go_loopw [11] (fun s wr => ∃ (k : Nat) (vs : List Value), s = .int .i64 (k : Int) ∧ k ≤ n ∧ Vlt (wr.heap[w.heap.size]? = some (.cells (vs ++ nilsL (n - k)).toArray 31 (0, 0))) ∧ Vlt (PL wr (fun i => w.heap.size < i) vs (ps.take k)) ∧ Below w.heap.size w wr ∧ w.heap.size < wr.heap.size)
    (fun s _ => n - (intOf s).toNat)
  case atStart => exact ⟨0, [], rfl, Nat.zero_le _, vlt hg1.out, vlt PL.nil, hb1, by omega⟩
  case round =>
    obtain ⟨k, vs, rfl, hk, hgr, hpl, hbr, hsr⟩ := hrel
    by_cases hlt : k < n
    · obtain ⟨b, o, Aj, nj, cj, p, rfl, hblt, hcell, hpk, hpj, hcj, hbp⟩ := hp.at_ (k := k) (by rw [HL.out]; exact hlt)
      have hcell2 : wr.cell? ⟨b, o + k, none⟩ = some (.slice Aj nj cj) := (hbr.cell (p := ⟨b, o + k, none⟩) hblt).trans hcell
      have hbp2 := ((hbp.below hbr).up hbr.size)
      have hnj : nj ≤ 1099511627776 := by
        have h := hps p (List.mem_of_getElem? hpk.out)
        rw [hpj.out] at h; exact h
      have hcl := bclone_any wr Aj p nj cj hbp2 hpj.out (by omega)
      have hvk : Hid (vs.length = k) := show _ = _ by rw [hpl.out.1, List.length_take, HL.out]; omega
      clear hcell hbp
      go_wp2_with fail
      refine hcl.mono ?_
      rintro e w3 ⟨A3, c3, rfl, hr3, hb3⟩
      clear hcl
      obtain ⟨m, hm⟩ : ∃ m, n - k = m + 1 := ⟨n - k - 1, by omega⟩
      have hgr3 : Hid (w3.heap[w.heap.size]? = some (.cells (vs ++ nilsL (m + 1)).toArray 31 (0, 0))) := by
        show _ = _
        rw [hb3.block _ hsr, ← hm]; exact hgr.out
      have hset := world_set_cell hgr3.out k (.slice A3 nj c3)
      have hcc3 : w3.cell? ⟨w.heap.size, k, none⟩ = some (.slice none 0 0) := by
        rw [cell_of_row _ _ _ _ _ _ hgr3.out]
        simp [hvk.out, nilsL]
      have hff3 : w3.frozen? ⟨w.heap.size, k, none⟩ = false := frozen_of_row _ _ _ _ _ hgr3.out
      have hvs2 : (vs ++ nilsL (m + 1)).set k (.slice A3 nj c3) = (vs ++ [.slice A3 nj c3]) ++ nilsL m := by
        have h := nils_set vs m (.slice A3 nj c3)
        rw [hvk.out] at h; exact h
      rw [hvs2] at hset
      have hw4 : Below w.heap.size w (w3.setCell ⟨w.heap.size, k, none⟩ (.slice A3 nj c3)) := (hbr.trans (hb3.mono (by omega))).setCell (Nat.le_refl _) _
      have hPL4 : Vlt (PL (w3.setCell ⟨w.heap.size, k, none⟩ (.slice A3 nj c3)) (fun i => w.heap.size < i) (vs ++ [.slice A3 nj c3]) (ps.take (k + 1))) := by
        have e1 : ps.take (k + 1) = ps.take k ++ [p] := by rw [List.take_add_one, hpk.out]; rfl
        rw [e1]
        have hof : Off (fun i => i = w.heap.size) w3 (w3.setCell ⟨w.heap.size, k, none⟩ (.slice A3 nj c3)) := Off.set (F := fun i => i = w.heap.size) (Off.refl _ _) (.inl rfl) _
        have hof3 : Off (fun _ => False) wr w3 := Off.of_below hb3 fun i a b => by omega
        refine vlt (PL.app ((hpl.out.off hof3 fun _ _ _ h => h).off hof fun i _ h e => by omega) (PL.one ((hr3.inF fun i hi => by omega : BytF w3 (fun i => w.heap.size < i) A3 p).off hof fun i _ h e => by omega) hpj.out hr3.cap))
      have hsz4 : w.heap.size < (w3.setCell ⟨w.heap.size, k, none⟩ (.slice A3 nj c3)).heap.size := by
        have h := hb3.size
        have h2 : (w3.setCell ⟨w.heap.size, k, none⟩ (.slice A3 nj c3)).heap.size = w3.heap.size := by simp
        omega
      clear hgr hgr3 hpl hr3 hb3 hvs2 hbr
      have hmk2 : m = n - (k + 1) := by omega
      go_wp2
      go_roundw
      case rel => exact ⟨k + 1, _, by go_num, by omega, vlt (by rw [← hmk2]; exact hset.out), hPL4, hw4, hsz4⟩
      case measure => simp [intOf]; omega
    · obtain rfl : k = n := by omega
      have hgE : Vlt (wr.heap[w.heap.size]? = some (.cells vs.toArray 31 (0, 0))) := by
        have h := hgr.out
        rw [Nat.sub_self] at h
        simp only [nilsL, List.replicate_zero, List.append_nil] at h
        exact vlt h
      have hpE : Vlt (PL wr (fun i => w.heap.size < i) vs ps) := by
        have h := hpl.out
        rw [List.take_of_length_le (by rw [HL.out]; exact Nat.le_refl _)] at h
        exact vlt h
      clear hgr hpl
      go_wp2
      go_ret
      exact ⟨rfl, ⟨vs, hgE.out, hpE.out⟩, hbr⟩
end Go.Proofs.YtaklbgikoeedbaaDoor
namespace Go.Proofs.YtaklbgikoeedbaaDoor
open Go.RowKit

/-- Data that lies in blocks of F, and stays when they do. -/
structure Kp (K : World → (Nat → Prop) → Prop) : Prop where
  off : ∀ {W W' : World} {F G : Nat → Prop}, K W F → Off G W W' → (∀ i, i < W.heap.size → F i → ¬ G i) → K W' F
  mono : ∀ {W : World} {F G : Nat → Prop}, K W F → (∀ i, i < W.heap.size → F i → G i) → K W G
def KNo : World → (Nat → Prop) → Prop := fun _ _ => True
theorem kNo : Kp KNo := ⟨fun _ _ _ => trivial, fun _ _ => trivial⟩
def KAnd (K K2 : World → (Nat → Prop) → Prop) : World → (Nat → Prop) → Prop := fun W F => K W F ∧ K2 W F
theorem kAnd {K K2 : World → (Nat → Prop) → Prop} (h : Kp K) (h2 : Kp K2) : Kp (KAnd K K2) := ⟨fun a b c => ⟨h.off a.1 b c, h2.off a.2 b c⟩, fun a b => ⟨h.mono a.1 b, h2.mono a.2 b⟩⟩
def KB (A : Option Addr) (l : List UInt8) : World → (Nat → Prop) → Prop := fun W F => BytF W F A l
theorem kB (A : Option Addr) (l : List UInt8) : Kp (KB A l) := ⟨fun a b c => BytF.off a b c, fun a b => BytF.mono a b⟩
def KP (A : Option Addr) (ps : List (List UInt8)) : World → (Nat → Prop) → Prop := fun W F => PrtF W F A ps
theorem kP (A : Option Addr) (ps : List (List UInt8)) : Kp (KP A ps) := ⟨fun a b c => PrtF.off a b c, fun a b => PrtF.mono a b⟩

def Hold (w0 W : World) (d N : Nat) (S : Dk) (P K : World → (Nat → Prop) → Prop) : Prop :=
  ∃ O G, DkIs W O d N S ∧ P W G ∧ (∀ i, G i → O i = none) ∧ (∀ i, O i ≠ none → w0.heap.size ≤ i) ∧ (∀ i, G i → w0.heap.size ≤ i) ∧ Below w0.heap.size w0 W ∧ K W (fun i => O i = none ∧ ¬ G i)
section
variable {w0 W W' : World} {d N : Nat} {S : Dk} {O : Nat → Option Nat} {P K K2 : World → (Nat → Prop) → Prop}
theorem Hold.bel (h : Hold w0 W d N S P K) : Below w0.heap.size w0 W := by obtain ⟨O, G, _, _, _, _, _, h, _⟩ := h; exact h
theorem Hold.off (hP : Obj2 P) (hK : Kp K) (h : Hold w0 W d N S P K) (hb : Off (fun _ => False) W W') : Hold w0 W' d N S P K := by
  obtain ⟨O, G, h1, h2, h3, h4, h5, h6, h7⟩ := h
  exact ⟨O, G, h1.off hb fun _ _ h => h, hP.off h2 hb fun _ _ h => h, h3, h4, h5, hb.below h6 (fun _ h => h.elim) h6.size, hK.off h7 hb fun _ _ _ h => h⟩
theorem Hold.next (hP : Obj2 P) (hK : Kp K) (h : Hold w0 W d N S P K) (hb : Below W.heap.size W W') : Hold w0 W' d N S P K := h.off hP hK (Off.of_below hb fun i a b => by omega)
theorem Hold.alloc (hP : Obj2 P) (hK : Kp K) (h : Hold w0 W d N S P K) (o : Obj) : Hold w0 (W.alloc o) d N S P K := h.next hP hK ((Below.refl _ _).alloc (Nat.le_refl _) o)
theorem Hold.drew (hP : Obj2 P) (hK : Kp K) (h : Hold w0 W d N S P K) : Hold w0 W.drew d N S P K := h.off hP hK (Off.refl _ _).drew
theorem Hold.drewN (hP : Obj2 P) (hK : Kp K) (h : Hold w0 W d N S P K) (k : Nat) : Hold w0 (W.drewN k) d N S P K := h.off hP hK (off_drewN _ _ k)
theorem Hold.weak (h : Hold w0 W d N S P K) (hk : ∀ W F, K W F → K2 W F) : Hold w0 W d N S P K2 := by
  obtain ⟨O, G, h1, h2, h3, h4, h5, h6, h7⟩ := h
  exact ⟨O, G, h1, h2, h3, h4, h5, h6, hk _ _ h7⟩
theorem Hold.more (h : Hold w0 W d N S P K) {M : Nat} (hM : N ≤ M) : Hold w0 W d M S P K := by
  obtain ⟨O, G, h1, h2⟩ := h
  refine ⟨O, G, ?_, h2⟩
  obtain ⟨⟨m, L, h3, h4⟩, h5, h6⟩ := h1
  exact ⟨⟨m, L, ⟨h3.row, h3.map.mono hM, h3.file, h3.one, h3.gds, h3.od, h3.om, h3.low⟩, h4⟩, h5, h6⟩
theorem Hold.data (hK : Kp K) (h : Hold w0 W d N S P K) : K W (fun _ => True) := by
  obtain ⟨O, G, h1, h2, h3, h4, h5, h6, h7⟩ := h
  exact hK.mono h7 fun _ _ _ => trivial
/-- The object goes: nothing is said of it any more. -/
theorem Hold.bare (hK : Kp K) (h : Hold w0 W d N S P K) : Hold w0 W d N S NoObj K := by
  obtain ⟨O, G, h1, h2, h3, h4, h5, h6, h7⟩ := h
  exact ⟨O, fun _ => False, h1, fun _ h => h, fun _ h => h.elim, h4, fun _ h => h.elim, h6, hK.mono h7 fun _ _ h => ⟨h.1, fun h => h⟩⟩
/-- Data that came in. -/
theorem Hold.argB (h : Hold w0 W d N S P K) {B : Option Addr} {l : List UInt8} (hb : Byt w0 w0.heap.size B l) : Hold w0 W d N S P (KAnd K (KB B l)) := by
  obtain ⟨O, G, h1, h2, h3, h4, h5, h6, h7⟩ := h
  refine ⟨O, G, h1, h2, h3, h4, h5, h6, h7, ?_⟩
  rcases hb.below h6 with h | ⟨g, o, hA, hg, hc⟩
  · exact .inl h
  · refine .inr ⟨g, o, hA, ⟨?_, fun hG => by have := h5 g hG; omega⟩, Nat.lt_of_lt_of_le hg h6.size, hc⟩
    cases hO : O g with
    | none => rfl
    | some y => have := h4 g (by rw [hO]; simp); omega
theorem Hold.old (h : Hold w0 W d N S P K) (hK2 : Kp K2) (hk : K2 W (fun i => i < w0.heap.size)) : Hold w0 W d N S P (KAnd K K2) := by
  obtain ⟨O, G, h1, h2, h3, h4, h5, h6, h7⟩ := h
  refine ⟨O, G, h1, h2, h3, h4, h5, h6, h7, hK2.mono hk fun i _ hi => ⟨?_, fun hG => by have := h5 i hG; omega⟩⟩
  cases hO : O i with
  | none => rfl
  | some y => have := h4 i (by rw [hO]; simp); omega
/-- Data in new blocks. -/
theorem Hold.fresh (hP : Obj2 P) (hK : Kp K) (h : Hold w0 W d N S P K) (hb : Below W.heap.size W W') (hK2 : Kp K2) (hk : K2 W' (fun i => W.heap.size ≤ i)) : Hold w0 W' d N S P (KAnd K K2) := by
  have hlow : ∀ O, DkIs W O d N S → ∀ i, O i ≠ none → i < W.heap.size := fun O h => h.low
  obtain ⟨O, G, h1, h2, h3, h4, h5, h6, h7⟩ := h
  have hof : Off (fun _ => False) W W' := Off.of_below hb fun i a b => by omega
  refine ⟨O, G, h1.off hof fun _ _ h => h, hP.off h2 hof fun _ _ h => h, h3, h4, h5, hof.below h6 (fun _ h => h.elim) h6.size, hK.off h7 hof fun _ _ _ h => h, hK2.mono hk fun i _ hi => ⟨?_, fun hG => by have := hP.low h2 i hG; omega⟩⟩
  cases hO : O i with
  | none => rfl
  | some y => have := hlow O h1 i (by rw [hO]; simp); omega
/-- Data in new blocks and in such as K speaks of. -/
theorem Hold.fresh2 (hP : Obj2 P) (hK : Kp K) (h : Hold w0 W d N S P K) (hb : Below W.heap.size W W') (hk : ∀ F : Nat → Prop, K W' F → (∀ i, W.heap.size ≤ i → F i) → K2 W' F) : Hold w0 W' d N S P (KAnd K K2) := by
  have hlow : ∀ O, DkIs W O d N S → ∀ i, O i ≠ none → i < W.heap.size := fun O h => h.low
  obtain ⟨O, G, h1, h2, h3, h4, h5, h6, h7⟩ := h
  have hof : Off (fun _ => False) W W' := Off.of_below hb fun i a b => by omega
  have h8 := hK.off h7 hof fun _ _ _ h => h
  refine ⟨O, G, h1.off hof fun _ _ h => h, hP.off h2 hof fun _ _ h => h, h3, h4, h5, hof.below h6 (fun _ h => h.elim) h6.size, h8, hk _ h8 fun i hi => ⟨?_, fun hG => by have := hP.low h2 i hG; omega⟩⟩
  cases hO : O i with
  | none => rfl
  | some y => have := hlow O h1 i (by rw [hO]; simp); omega
/-- A call of the disk. -/
theorem Hold.call (hP : Obj2 P) (hK : Kp K) {G : Nat → Prop} (h1 : P W G) (h2 : ∀ i, G i → O i = none) (h3 : ∀ i, O i ≠ none → w0.heap.size ≤ i) (h4 : ∀ i, G i → w0.heap.size ≤ i) (h5 : Below w0.heap.size w0 W) (h6 : K W (fun i => O i = none ∧ ¬ G i))
    {N' : Nat} {S' : Dk} {w' : World} (h7 : ∃ O', DkIs w' O' d N' S' ∧ Own O O' W.heap.size) (h8 : Off (fun i => O i ≠ none) W w') : Hold w0 w' d N' S' P K := by
  obtain ⟨O', h9, h10⟩ := h7
  have hO' : ∀ i, i < W.heap.size → O i = none → O' i = none := fun i hi h => by
    cases hq : O' i with
    | none => rfl
    | some y => rcases h10 i (by rw [hq]; simp) with h' | h'; exact absurd h h'; omega
  refine ⟨O', G, h9, hP.off h1 h8 fun i hi h => h (h2 i hi), fun i hi => hO' i (hP.low h1 i hi) (h2 i hi), fun i hi => ?_, h4, h8.below h5 h3 h5.size, ?_⟩
  · rcases h10 i hi with h | h
    · exact h3 i h
    · exact Nat.le_trans h5.size h
  · have h12 : K W (fun i => (O i = none ∧ ¬ G i) ∧ i < W.heap.size) := hK.mono h6 fun i hi h => ⟨h, hi⟩
    exact hK.mono (hK.off h12 h8 fun i _ h h' => h' h.1.1) fun i _ h => ⟨hO' i h.2 h.1.1, h.1.2⟩
theorem hold_new (w : World) (room : Nat) (h1 : 64 ≤ room) (h2 : room ≤ 1048576) :
    Calls Tryd.prog 10 #[.int .i64 (room : Int)] w fun e w' => ∃ d, e = .returned (.tuple #[.pointer (some ⟨d, 0, none⟩), .int .i64 0]) ∧ Hold w w' d 0 ⟨room, true, 1, []⟩ NoObj KNo := by
  refine (dnew_ok w room h1 h2).mono ?_
  rintro e w' ⟨d, O, rfl, h3, h4, h5⟩
  exact ⟨d, rfl, O, fun _ => False, h3, fun _ h => h, fun _ h => h.elim, fun i hi => by
    rcases h4 i hi with h | h
    · exact absurd rfl h
    · exact h, fun _ h => h.elim, h5, trivial⟩
theorem hold_append (hP : Obj2 P) (hK : Kp K) (h : Hold w0 W d N S P K) (s : ByteArray) (hs : s.size ≤ 140737488355328) (B : Option Addr) (l : List UInt8) (n cB : Nat) (hm : ∀ W F, K W F → BytF W F B l) (hl : l.length = n) (hn : n ≤ 1099511627776) (hN : N ≤ 1099511627776) :
    Calls Tryd.prog 29 #[.pointer (some ⟨d, 0, none⟩), .string s, .slice B n cB] W fun e w' => e = .returned (.int .i64 (appE S s n)) ∧ Hold w0 w' d (N + 1) (S.app s l) P K := by
  obtain ⟨O, G, h1, h2, h3, h4, h5, h6, h7⟩ := h
  have hbF : BytF W (fun i => O i = none) B l := (hm _ _ h7).mono fun i _ h => h.1
  refine (dappend_any W O d N S h1 s hs B l n cB hbF hl hn hN).mono ?_
  rintro e w' ⟨rfl, h8, h9⟩
  exact ⟨rfl, Hold.call hP hK h2 h3 h4 h5 h6 h7 h8 h9⟩
theorem hold_sync (hP : Obj2 P) (hK : Kp K) (h : Hold w0 W d N S P K) (s : ByteArray) (hs : s.size ≤ 140737488355328) :
    Calls Tryd.prog 24 #[.pointer (some ⟨d, 0, none⟩), .string s] W fun e w' => e = .returned (.int .i64 (askE S s)) ∧ Hold w0 w' d (N + 1) (S.syn s) P K := by
  obtain ⟨O, G, h1, h2, h3, h4, h5, h6, h7⟩ := h
  refine (dsync_any W O d N S h1 s hs).mono ?_
  rintro e w' ⟨rfl, h8, h9⟩
  exact ⟨rfl, Hold.call hP hK h2 h3 h4 h5 h6 h7 h8 h9⟩
theorem hold_drop (hP : Obj2 P) (hK : Kp K) (h : Hold w0 W d N S P K) (s : ByteArray) (hs : s.size ≤ 140737488355328) :
    Calls Tryd.prog 27 #[.pointer (some ⟨d, 0, none⟩), .string s] W fun e w' => e = .returned (.int .i64 (askE S s)) ∧ Hold w0 w' d (N + 1) (S.drp s) P K := by
  obtain ⟨O, G, h1, h2, h3, h4, h5, h6, h7⟩ := h
  refine (ddrop_any W O d N S h1 s hs).mono ?_
  rintro e w' ⟨rfl, h8, h9⟩
  exact ⟨rfl, Hold.call hP hK h2 h3 h4 h5 h6 h7 h8 h9⟩
theorem hold_ren (hP : Obj2 P) (hK : Kp K) (h : Hold w0 W d N S P K) (s t : ByteArray) (hs : s.size ≤ 140737488355328) (ht : t.size ≤ 140737488355328) (hN : N ≤ 1099511627776) :
    Calls Tryd.prog 31 #[.pointer (some ⟨d, 0, none⟩), .string s, .string t] W fun e w' => e = .returned (.int .i64 (renE S s t)) ∧ Hold w0 w' d (N + 1) (S.ren s t) P K := by
  obtain ⟨O, G, h1, h2, h3, h4, h5, h6, h7⟩ := h
  refine (drename_any W O d N S h1 s t hs ht hN).mono ?_
  rintro e w' ⟨rfl, h8, h9⟩
  exact ⟨rfl, Hold.call hP hK h2 h3 h4 h5 h6 h7 h8 h9⟩
theorem hold_crash (hP : Obj2 P) (hK : Kp K) (h : Hold w0 W d N S P K) (keep tn : Nat) (torn : Int) (hk : keep < 18446744073709551616) (ht : tn = torn.toNat) (ht2 : torn < 9223372036854775808) (ht3 : -9223372036854775808 ≤ torn) :
    Calls Tryd.prog 16 #[.pointer (some ⟨d, 0, none⟩), .int .u64 (keep : Int), .int .i64 torn] W fun e w' => e = .returned (.tuple #[]) ∧ Hold w0 w' d (N + 1) (S.crs keep tn) P K := by
  obtain ⟨O, G, h1, h2, h3, h4, h5, h6, h7⟩ := h
  refine (dcrash_any W O d N S h1 keep tn torn hk ht ht2 ht3).mono ?_
  rintro e w' ⟨rfl, h8, h9⟩
  exact ⟨rfl, Hold.call hP hK h2 h3 h4 h5 h6 h7 h8 h9⟩
theorem hold_on (hP : Obj2 P) (hK : Kp K) (h : Hold w0 W d N S P K) (hl : S.lives ≤ 1099511627776) :
    Calls Tryd.prog 17 #[.pointer (some ⟨d, 0, none⟩)] W fun e w' => e = .returned (.tuple #[]) ∧ Hold w0 w' d (N + 1) S.awake P K := by
  obtain ⟨O, G, h1, h2, h3, h4, h5, h6, h7⟩ := h
  refine (don_any W O d N S h1 hl).mono ?_
  rintro e w' ⟨rfl, h8, h9⟩
  exact ⟨rfl, Hold.call hP hK h2 h3 h4 h5 h6 h7 h8 h9⟩
theorem hold_read (hP : Obj2 P) (hK : Kp K) (h : Hold w0 W d N S P K) (s : ByteArray) (hs : s.size ≤ 140737488355328) :
    Calls Tryd.prog 34 #[.pointer (some ⟨d, 0, none⟩), .string s] W fun e w' => ∃ A n c l, e = .returned (.tuple #[.slice A n c, .int .i64 (askE S s)]) ∧ Vlt (l = readB S s) ∧ Hid (l.length = n) ∧ n ≤ c ∧ Hold w0 w' d N S P (KAnd K (KB A l)) ∧ Below W.heap.size W w' := by
  have hh := h
  obtain ⟨O, G, h1, h2, h3, h4, h5, h6, h7⟩ := h
  refine (dread_any W O d N S h1 s hs).mono ?_
  rintro e w' ⟨A, n, c, l, rfl, h8, h9, h10, h11⟩
  exact ⟨A, n, c, l, rfl, h8, Lib.hid h9.len, h9.cap, hh.fresh hP hK h11 (kB A l) (h9.inF fun i h => h), h11⟩
theorem hold_size (h : Hold w0 W d N S P K) : Calls Tryd.prog 36 #[.pointer (some ⟨d, 0, none⟩)] W fun e w' => e = .returned (.int .i64 S.siz) ∧ w' = W := by
  obtain ⟨O, G, h1, _⟩ := h
  exact dsize_any W O d N S h1
theorem hold_power (h : Hold w0 W d N S P K) : Calls Tryd.prog 21 #[.pointer (some ⟨d, 0, none⟩)] W fun e w' => e = .returned (.bool S.on) ∧ w' = W := by
  obtain ⟨O, G, h1, _⟩ := h
  exact dpower_any W O d N S h1
theorem hold_lives (h : Hold w0 W d N S P K) : Calls Tryd.prog 22 #[.pointer (some ⟨d, 0, none⟩)] W fun e w' => e = .returned (.int .i64 (S.lives : Int)) ∧ w' = W := by
  obtain ⟨O, G, h1, _⟩ := h
  exact dlives_any W O d N S h1
end
end Go.Proofs.YtaklbgikoeedbaaDoor
namespace Go.Proofs.YtaklbgikoeedbaaDoor
open Go.RowKit

def itoaB (i : Nat) : ByteArray := if i < 10 then ⟨#[UInt8.ofNat (48 + i)]⟩ else ⟨#[UInt8.ofNat (48 + i / 10), UInt8.ofNat (48 + i % 10)]⟩
theorem itoa_low (i : Nat) (h : i < 10) : ByteArray.extract ⟨#[48, 49, 50, 51, 52, 53, 54, 55, 56, 57, 97, 98, 99, 100, 101, 102, 103, 104, 105, 106, 107, 108, 109, 110, 111, 112, 113, 114, 115, 116, 117, 118, 119, 120, 121, 122]⟩ i (i + 1) = itoaB i := by
  have key : ∀ k : Fin 10, ByteArray.extract ⟨#[48, 49, 50, 51, 52, 53, 54, 55, 56, 57, 97, 98, 99, 100, 101, 102, 103, 104, 105, 106, 107, 108, 109, 110, 111, 112, 113, 114, 115, 116, 117, 118, 119, 120, 121, 122]⟩ k.val (k.val + 1) = itoaB k.val := by decide +kernel
  exact key ⟨i, h⟩
theorem itoa_high (i : Nat) (h : i < 100) (h2 : ¬ i < 10) : ByteArray.extract ⟨#[48, 48, 48, 49, 48, 50, 48, 51, 48, 52, 48, 53, 48, 54, 48, 55, 48, 56, 48, 57, 49, 48, 49, 49, 49, 50, 49, 51, 49, 52, 49, 53, 49, 54, 49, 55, 49, 56, 49, 57, 50, 48, 50, 49, 50, 50, 50, 51, 50, 52, 50, 53, 50, 54, 50, 55, 50, 56, 50, 57, 51, 48, 51, 49, 51, 50, 51, 51, 51, 52, 51, 53, 51, 54, 51, 55, 51, 56, 51, 57, 52, 48, 52, 49, 52, 50, 52, 51, 52, 52, 52, 53, 52, 54, 52, 55, 52, 56, 52, 57, 53, 48, 53, 49, 53, 50, 53, 51, 53, 52, 53, 53, 53, 54, 53, 55, 53, 56, 53, 57, 54, 48, 54, 49, 54, 50, 54, 51, 54, 52, 54, 53, 54, 54, 54, 55, 54, 56, 54, 57, 55, 48, 55, 49, 55, 50, 55, 51, 55, 52, 55, 53, 55, 54, 55, 55, 55, 56, 55, 57, 56, 48, 56, 49, 56, 50, 56, 51, 56, 52, 56, 53, 56, 54, 56, 55, 56, 56, 56, 57, 57, 48, 57, 49, 57, 50, 57, 51, 57, 52, 57, 53, 57, 54, 57, 55, 57, 56, 57, 57]⟩ (i * 2) (i * 2 + 2) = itoaB i := by
  have key : ∀ k : Fin 100, k.val < 10 ∨ ByteArray.extract ⟨#[48, 48, 48, 49, 48, 50, 48, 51, 48, 52, 48, 53, 48, 54, 48, 55, 48, 56, 48, 57, 49, 48, 49, 49, 49, 50, 49, 51, 49, 52, 49, 53, 49, 54, 49, 55, 49, 56, 49, 57, 50, 48, 50, 49, 50, 50, 50, 51, 50, 52, 50, 53, 50, 54, 50, 55, 50, 56, 50, 57, 51, 48, 51, 49, 51, 50, 51, 51, 51, 52, 51, 53, 51, 54, 51, 55, 51, 56, 51, 57, 52, 48, 52, 49, 52, 50, 52, 51, 52, 52, 52, 53, 52, 54, 52, 55, 52, 56, 52, 57, 53, 48, 53, 49, 53, 50, 53, 51, 53, 52, 53, 53, 53, 54, 53, 55, 53, 56, 53, 57, 54, 48, 54, 49, 54, 50, 54, 51, 54, 52, 54, 53, 54, 54, 54, 55, 54, 56, 54, 57, 55, 48, 55, 49, 55, 50, 55, 51, 55, 52, 55, 53, 55, 54, 55, 55, 55, 56, 55, 57, 56, 48, 56, 49, 56, 50, 56, 51, 56, 52, 56, 53, 56, 54, 56, 55, 56, 56, 56, 57, 57, 48, 57, 49, 57, 50, 57, 51, 57, 52, 57, 53, 57, 54, 57, 55, 57, 56, 57, 57]⟩ (k.val * 2) (k.val * 2 + 2) = itoaB k.val := by decide +kernel
  exact (key ⟨i, h⟩).resolve_left h2

set_option maxRecDepth 100000 in
theorem small_any (i : Nat) (hi : i < 100) (w : World) :
    Calls Tryd.prog 57 #[.int .i64 (i : Int)] w fun e w' => e = .returned (.string (itoaB i)) ∧ w' = w := by
  by_cases h : i < 10
  · have hk := itoa_low i h
    go_enter Tryd.func57, Tryd.ntmps57
    go_wp2
    go_ret
    exact ⟨rfl, rfl⟩
  · have hk := itoa_high i hi h
    go_enter Tryd.func57, Tryd.ntmps57
    go_wp2
    go_ret
    exact ⟨rfl, rfl⟩
set_option maxRecDepth 100000 in
theorem format_any (i : Nat) (hi : i < 100) (w : World) :
    Calls Tryd.prog 52 #[.int .i64 (i : Int), .int .i64 10] w fun e w' => e = .returned (.string (itoaB i)) ∧ w' = w := by
  generalize hs : itoaB i = s
  have hsm := small_any i hi w
  rw [hs] at hsm
  clear hs
  go_enter Tryd.func52, Tryd.ntmps52
  go_wp2_with fail
  refine hsm.mono ?_
  rintro e w2 ⟨rfl, rfl⟩
  clear hsm
  go_wp2
  go_ret
  exact ⟨rfl, rfl⟩
set_option maxRecDepth 100000 in
theorem itoa_in (i : Nat) (hi : i < 100) (w : World) :
    Calls Tryd.prog 46 #[.int .i64 (i : Int)] w fun e w' => e = .returned (.string (itoaB i)) ∧ w' = w := by
  have hsm := format_any i hi w
  generalize itoaB i = s at *
  go_enter Tryd.func46, Tryd.ntmps46
  go_wp2_with fail
  refine hsm.mono ?_
  rintro e w2 ⟨rfl, rfl⟩
  clear hsm
  go_wp2
  go_ret
  exact ⟨rfl, rfl⟩
set_option maxRecDepth 100000 in
theorem itoa_any (i : Nat) (hi : i < 100) (w : World) :
    Calls Tryd.prog 38 #[.int .i64 (i : Int)] w fun e w' => e = .returned (.string (itoaB i)) ∧ w' = w := by
  have hsm := itoa_in i hi w
  generalize itoaB i = s at *
  go_enter Tryd.func38, Tryd.ntmps38
  go_wp2_with fail
  refine hsm.mono ?_
  rintro e w2 ⟨rfl, rfl⟩
  clear hsm
  go_wp2
  go_ret
  exact ⟨rfl, rfl⟩
def newB : ByteArray := ⟨#[110, 101, 119]⟩
def jname (i : Nat) : ByteArray := ⟨#[106, 111, 117, 114, 110, 97, 108]⟩ ++ itoaB i
def jnum (s : ByteArray) : Nat := if s.size = 8 then (s.get! 7).toNat - 48 else ((s.get! 7).toNat - 48) * 10 + ((s.get! 8).toNat - 48)
theorem jname_num (i : Nat) (h : i < 100) : jnum (jname i) = i := by
  have key : ∀ k : Fin 100, jnum (jname k.val) = k.val := by decide +kernel
  exact key ⟨i, h⟩
theorem jname_may (i : Nat) (h : i < 100) : may (jname i) = true ∧ (jname i).size ≤ 20 ∧ jname i ≠ newB := by
  have key : ∀ k : Fin 100, may (jname k.val) = true ∧ (jname k.val).size ≤ 20 ∧ jname k.val ≠ newB := by decide +kernel
  exact key ⟨i, h⟩
theorem new_may : may newB = true ∧ newB.size = 3 := by decide +kernel
theorem jname_inj {i j : Nat} (hi : i < 100) (hj : j < 100) (h : jname i = jname j) : i = j := by
  rw [← jname_num i hi, h, jname_num j hj]
set_option maxRecDepth 100000 in
theorem name_any (i : Nat) (hi : i < 100) (w : World) :
    Calls Tryd.prog 25 #[.int .i64 (i : Int)] w fun e w' => e = .returned (.string (jname i)) ∧ w' = w := by
  have hsm := itoa_any i hi w
  have hj : (⟨#[106, 111, 117, 114, 110, 97, 108]⟩ : ByteArray) ++ itoaB i = jname i := rfl
  have hlen : (itoaB i).size ≤ 2 := by unfold itoaB; split <;> simp [ByteArray.size]
  go_enter Tryd.func25, Tryd.ntmps25
  go_wp2_with fail
  refine hsm.mono ?_
  rintro e w2 ⟨rfl, rfl⟩
  clear hsm
  go_wp2
  go_ret
  first | exact ⟨rfl, rfl⟩ | exact ⟨congrArg (fun x => Ending.returned (.string x)) hj, rfl⟩
end Go.Proofs.YtaklbgikoeedbaaDoor
namespace Go.Proofs.YtaklbgikoeedbaaDoor
open Go.RowKit

theorem held_more {P : Program} {ops : Array Oper} {Q : Exit → Act → World → Prop} {md : Region.Mode} {S S' : World → Prop} (h : ∀ w, S' w → S w) :
    ∀ (fuel : Nat) (listed : Array Bool) (a : Act) (w : World), wpAnyH P md ops Q S' fuel listed a w → wpAnyH P md ops Q S fuel listed a w
  | 0, _, _, _, H => H
  | fuel + 1, _, _, _, H => ⟨H.1, fun i hi => wpOp_mono (fun a' w' h' => ⟨h _ h'.1, held_more h fuel _ a' w' h'.2⟩) (H.2 i hi)⟩
end Go.Proofs.YtaklbgikoeedbaaDoor
namespace Go.Proofs.YtaklbgikoeedbaaDoor
open Go.RowKit

section
variable {P : Program} {ops : Array Oper} {Q : Exit → Act → World → Prop} {md : Region.Mode} {S : World → Prop} {c : Nat}
def wpAnyC (P : Program) (md : Region.Mode) (ops : Array Oper) (Q : Exit → Act → World → Prop) (S : World → Prop) (c : Nat) : Nat → Array Bool → Act → World → Prop
  | 0, listed, a, w => Region.ready md ops listed = [] ∧ Q .normal a w
  | fuel + 1, listed, a, w =>
    (Region.ready md ops listed = [] → Q .normal a w) ∧
    ∀ i ∈ Region.ready md ops listed, wpOp P ops Q i (fun a' w' => ((listed.setIfInBounds i true).getD c true = false → S w') ∧ wpAnyC P md ops Q S c fuel (listed.setIfInBounds i true) a' w') a w
theorem any_of_c : ∀ (fuel : Nat) (listed : Array Bool) (a : Act) (w : World), wpAnyC P md ops Q S c fuel listed a w → wpAny P md ops Q fuel listed a w
  | 0, _, _, _, h => h
  | fuel + 1, _, _, _, h => ⟨h.1, fun i hi => wpOp_mono (fun a' w' h' => any_of_c fuel _ a' w' h'.2) (h.2 i hi)⟩
theorem getD_stays {listed : Array Bool} {i c : Nat} (h : listed.getD c true = true) : (listed.setIfInBounds i true).getD c true = true := by
  by_cases hic : i = c
  · subst hic
    rcases Nat.lt_or_ge i listed.size with h' | h'
    · simp [h']
    · simp
  · rw [getD_set_ne true hic]; exact h
/-- Behind c another condition may be held, or none. -/
theorem c_of_held {S' : World → Prop} : ∀ (fuel : Nat) (listed : Array Bool) (a : Act) (w : World), listed.getD c true = true → wpAnyH P md ops Q S' fuel listed a w → wpAnyC P md ops Q S c fuel listed a w
  | 0, _, _, _, _, h => h
  | fuel + 1, _, _, _, hc, h => ⟨h.1, fun i hi => wpOp_mono (fun a' w' h' => ⟨fun h0 => (by rw [getD_stays hc] at h0; cases h0), c_of_held fuel _ a' w' (getD_stays hc) h'.2⟩) (h.2 i hi)⟩
theorem c_first {S' : World → Prop} {i : Nat} {oi : Oper} {v : Value} (hi : ops[i]? = some oi) (hsel : ∀ (j : Nat) (o : Oper) cs b, ops[j]? = some o → o.op ≠ .select cs b) (hci : i ≠ c)
    (hQ : ∀ x a w, Q (.panic x) (a.put oi.dst v) w → Q (.panic x) a w) :
    ∀ (fuel : Nat) (listed : Array Bool) (a : Act) (w : World),
      (∀ j oj, ops[j]? = some oj → j ≠ i → listed.getD j true = false → (∀ e ∈ oj.after, Region.binds md e = true → e.on ≠ i) → oi.apart ops oj = true) →
      i ∈ Region.ready md ops listed → YieldsIf P ops S' oi v a →
      ((∀ w, S' w) ∨ ((∀ w, S w → S' w) ∧ Region.waitsFor md ops c i = true ∧ listed.getD c true = false)) → (listed.getD c true = false → S w) →
      wpAnyC P md ops Q S c fuel (listed.setIfInBounds i true) (a.put oi.dst v) w → wpAnyC P md ops Q S c (fuel + 1) listed a w := by
  intro fuel
  induction fuel with
  | zero =>
    intro listed a w _ hr hy hcond hS H
    have hS' : S' w := hcond.elim (fun h => h w) (fun h => h.1 w (hS h.2.2))
    refine ⟨fun h => (by rw [h] at hr; cases hr), fun j hj => ?_⟩
    by_cases hji : j = i
    · subst hji; exact hy.wpOp hi hS' ⟨fun h0 => hS (by rwa [getD_set_ne true hci] at h0), H⟩
    · have := ready_mono hj hji
      rw [H.1] at this
      cases this
  | succ fuel ih =>
    intro listed a w hfree hr hy hcond hS H
    have hS' : S' w := hcond.elim (fun h => h w) (fun h => h.1 w (hS h.2.2))
    refine ⟨fun h => (by rw [h] at hr; cases hr), fun j hj => ?_⟩
    by_cases hji : j = i
    · subst hji; exact hy.wpOp hi hS' ⟨fun h0 => hS (by rwa [getD_set_ne true hci] at h0), H⟩
    · have h1 := H.2 j (ready_mono hj hji)
      obtain ⟨hjun, oj, hoj, hall⟩ := mem_ready.1 hj
      have hnot : ∀ e ∈ oj.after, Region.binds md e = true → e.on ≠ i := fun e he hb heq => by
        have h1 := hall e he hb
        have h0 := (mem_ready.1 hr).1
        rw [heq] at h1
        rcases Nat.lt_or_ge i listed.size with h' | h'
        · simp [h'] at h0 h1; rw [h0] at h1; cases h1
        · simp [Array.getElem?_eq_none h'] at h1
      have h2 := wpOp_putIf hoj (hfree j oj hoj hji hjun hnot) (fun cs b => hsel i oi cs b hi) (fun cs b => hsel j oj cs b hoj) hQ hy h1
      have hfree' : ∀ k ok, ops[k]? = some ok → k ≠ i → (listed.setIfInBounds j true).getD k true = false →
          (∀ e ∈ ok.after, Region.binds md e = true → e.on ≠ i) → oi.apart ops ok = true := fun k ok hk hki hun hno => by
        refine hfree k ok hk hki ?_ hno
        by_cases hjk : j = k
        · subst hjk; exact hjun
        · rw [getD_set_ne true hjk] at hun; exact hun
      have hcond' : (∀ w, S' w) ∨ ((∀ w, S w → S' w) ∧ Region.waitsFor md ops c i = true ∧ (listed.setIfInBounds j true).getD c true = false) := by
        rcases hcond with h | ⟨h3, h4, h5⟩
        · exact .inl h
        · have hjc : j ≠ c := by
            rintro rfl
            obtain ⟨oj', hoj', e, he, hb, hon⟩ := Region.waitsFor_spec h4
            obtain rfl := Option.some.inj (hoj'.symm.trans hoj)
            exact hnot e he hb hon
          exact .inr ⟨h3, h4, by rw [getD_set_ne true hjc]; exact h5⟩
      refine wpOp_mono (fun a' w' h3 => ?_) h2
      have hS3 : (listed.setIfInBounds j true).getD c true = false → S w' := fun h0 => h3.2.1 (by rw [Array.setIfInBounds_comm _ _ (Ne.symm hji), getD_set_ne true hci]; exact h0)
      refine ⟨hS3, ih (listed.setIfInBounds j true) a' w' hfree' (ready_mono hr (Ne.symm hji)) h3.1 hcond' hS3 ?_⟩
      rw [Array.setIfInBounds_comm _ _ hji]
      exact h3.2.2

/-- An operation that yields in whatever world. -/
theorem c_take {i : Nat} {oi : Oper} {v : Value} {fuel : Nat} {listed : Array Bool} {a : Act} {w : World} (hi : ops[i]? = some oi) (hci : i ≠ c)
    (hs : Region.noSelect ops = true) (hf : Region.free md ops listed i = true) (hr : (Region.ready md ops listed).contains i = true)
    (hQ : ∀ c a w, Q (.panic c) (a.put oi.dst v) w → Q (.panic c) a w) (hy : YieldsIf P ops (fun _ => True) oi v a) (hS : S w)
    (h : wpAnyC P md ops Q S c fuel (listed.setIfInBounds i true) (a.put oi.dst v) w) : wpAnyC P md ops Q S c (fuel + 1) listed a w :=
  c_first hi (Region.noSelect_spec hs) hci hQ fuel listed a w (Region.free_spec hi hf) (by simpa using hr) hy (.inl fun _ => trivial) (fun _ => hS) h
/-- An operation that yields in every world that meets S, and that c waits for. -/
theorem c_read {i : Nat} {oi : Oper} {v : Value} {fuel : Nat} {listed : Array Bool} {a : Act} {w : World} (hi : ops[i]? = some oi) (hci : i ≠ c)
    (hs : Region.noSelect ops = true) (hf : Region.free md ops listed i = true) (hr : (Region.ready md ops listed).contains i = true) (hw : Region.waitsFor md ops c i = true) (hun : listed.getD c true = false)
    (hQ : ∀ c a w, Q (.panic c) (a.put oi.dst v) w → Q (.panic c) a w) (hy : YieldsIf P ops S oi v a) (hS : S w)
    (h : wpAnyC P md ops Q S c fuel (listed.setIfInBounds i true) (a.put oi.dst v) w) : wpAnyC P md ops Q S c (fuel + 1) listed a w :=
  c_first hi (Region.noSelect_spec hs) hci hQ fuel listed a w (Region.free_spec hi hf) (by simpa using hr) hy (.inr ⟨fun _ h => h, hw, hun⟩) (fun _ => hS) h
/-- Another operation, where nothing else can come up; S stays. -/
theorem c_step {i : Nat} {o : Oper} {fuel : Nat} {listed : Array Bool} {a : Act} {w : World} (hr : Region.ready md ops listed = [i]) (ho : ops[i]? = some o)
    (h : ∀ K' : Act → World → Prop, Shut (∀ a w, S w → (S w → wpAnyC P md ops Q S c fuel (listed.setIfInBounds i true) a w) → K' a w) → if Region.wanted o (yielded ops a.tmps) = true then Oper.wp P o a w K' Q else K' (a.put o.dst undef) w) :
    wpAnyC P md ops Q S c (fuel + 1) listed a w := by
  refine ⟨fun h0 => (by rw [hr] at h0; cases h0), fun j hj => ?_⟩
  rw [hr] at hj
  obtain rfl : j = i := by simpa using hj
  exact wpOp_step ho (fun K' hK => h K' (fun a w hS hW => hK a w ⟨fun _ => hS, hW hS⟩))
/-- c itself, where nothing else can come up; behind it S' is held. -/
theorem c_call {S' : World → Prop} {o : Oper} {fuel : Nat} {listed : Array Bool} {a : Act} {w : World} (hr : Region.ready md ops listed = [c]) (hl : (listed.setIfInBounds c true).getD c true = true) (ho : ops[c]? = some o)
    (h : ∀ K' : Act → World → Prop, Shut (∀ a w, S' w → (S' w → wpAnyH P md ops Q S' fuel (listed.setIfInBounds c true) a w) → K' a w) → if Region.wanted o (yielded ops a.tmps) = true then Oper.wp P o a w K' Q else K' (a.put o.dst undef) w) :
    wpAnyC P md ops Q S c (fuel + 1) listed a w := by
  refine ⟨fun h0 => (by rw [hr] at h0; cases h0), fun i hi => ?_⟩
  rw [hr] at hi
  obtain rfl : i = c := by simpa using hi
  exact wpOp_step ho (fun K' hK => h K' (fun a w hS hW => hK a w ⟨fun h0 => (by rw [hl] at h0; cases h0), c_of_held fuel _ a w hl (hW hS)⟩))
theorem c_start {id : Nat} {a : Act} {w : World} (c : Nat) (hm : P.follows .mixedOrders = true) (hS : S w.drew)
    (h : S w.drew → wpAnyC P .any ops Q S c ops.size (Array.replicate ops.size false) a w.drew) : (Code.region id ops true).wp P Q a w :=
  wp_region_any hm (any_of_c _ _ _ _ (h hS))
end

/-- A number is stored into a block that is known whole, as one step of a region that draws its order. -/
theorem step_set {P : Program} {ops : Array Oper} {o : Oper} {a : Act} {w : World} {K : Act → World → Prop} {Q : Exit → Act → World → Prop} {E : Prop} (hgd : o.guard = none) (ty : TypeId) (x y : Operand) (ho : o.op = .store ty x y)
    (hs : (P.info? ty).map (·.size) = some 1) (g k : Nat) (hx : a.eval x = .pointer (some ⟨g, k, none⟩)) (kd : IntKind) (n : Int) (hy : a.eval y = .int kd n) (cs : List Value) (t : TypeId)
    (hg : w.heap[g]? = some (.cells cs.toArray t (0, 0))) (hk : k < cs.length) (w0 : World) (hb : But g w0 w)
    (h : ∀ w', Hid (w'.heap[g]? = some (.cells (cs.set k (.int kd n)).toArray t (0, 0))) → But g w0 w' → K (a.put o.dst undef) w') :
    if Region.wanted o (yielded ops a.tmps) = true then Oper.wp P o a w K Q else E := by
  have hw : Region.wanted o (yielded ops a.tmps) = true := by simp [Region.wanted, hgd]
  rw [if_pos hw]
  obtain ⟨i, hi', hi2⟩ := Option.map_eq_some_iff.1 hs
  have hc : w.cell? ⟨g, k, none⟩ = some cs[k] := by rw [cell_of_row _ _ _ _ _ _ hg]; simp [hk]
  have hf : w.frozen? ⟨g, k, none⟩ = false := frozen_of_row _ _ _ _ _ hg
  have h1 := heap_setCell_same w g k _ _ (.int kd n) hg
  have h2 := h (w.setCell ⟨g, k, none⟩ (.int kd n)) (show _ = _ by rw [h1]; simp) (hb.set _)
  unfold Oper.wp
  simp [execOp, ho, hx, hy, Instr.storeAt, Instr.sureAddr, storeVar, sizeOf, typeInfo, hi', hi2, Value.cells, storeCells, run_store_int, stored, hc, hf, addr_add]
  exact h2
end Go.Proofs.YtaklbgikoeedbaaDoor
namespace Go.Proofs.YtaklbgikoeedbaaDoor
open Go.RowKit

/-- append(own, news..), elements of any size: the row is the old one or a new one. -/
theorem append_row {P : Program} (w : World) {t ty e size bytes : Nat} {z : Value} (ht : P.underlying t = some (.slice e)) (hI : (P.info? e).map (fun i => (i.zero, i.size, i.bytes)) = some (some z, size, bytes)) (hz : z.cells.size = size) (hp : 0 < size)
    {A : Option Addr} {n c : Nat} {xs : List Value} (hown : w.ownsRow 0 e size (.slice A n c) n xs) (a : Addr) (m c2 : Nat) (news : List Value) (hl : news.length = m * size) (hnews : ∀ j u, news[j]? = some u → w.cell? (a.add j) = some u) (h1 : ∀ u ∈ news, u.oneCell' = true)
    (hsz : (n + m) * 64 ≤ 140737488355328) (hby : bytes ≤ 64) :
    ∃ A' c' w', (Builtin.append_ #[t, t] ty #[.slice A n c, .slice (some a) m c2]).run P w = .ok (.slice A' (n + m) c') w' ∧ w'.ownsRow 0 e size (.slice A' (n + m) c') (n + m) (xs ++ news) ∧ w.grownBy w' ((A.map (·.block))) ∧
      (∀ p, A' = some p → (∃ q, A = some q ∧ p.block = q.block) ∨ w.heap.size ≤ p.block) ∧ (c < n + m → A' = some ⟨w.heap.size, 0, none⟩ ∧ Below w.heap.size w w') := by
  obtain ⟨i, hi, hz1, hz2, hz3⟩ := info_parts hI
  have hmx : n + m ≤ maxLen := by unfold maxLen; omega
  have hby2 : (n + m) * bytes ≤ 140737488355328 := Nat.le_trans (Nat.mul_le_mul_left _ hby) hsz
  obtain ⟨v', w', hrun, hown', hgr, _⟩ := run_append_own (P := P) w 0 t ty e i z size bytes ht hi hz1 hz2 hz3 hz hp _ n xs hown a m c2 news hl hnews h1 hmx hby2 (Nat.zero_le _)
  have hv : ∃ A' c', v' = .slice A' (n + m) c' := by
    rcases hown'.2 with ⟨rfl, h0⟩ | ⟨g, cap, cur, rfl, _⟩
    · exact ⟨none, 0, by rw [h0]⟩
    · exact ⟨_, _, rfl⟩
  obtain ⟨A', c', rfl⟩ := hv
  have hgr2 : w.grownBy w' (A.map (·.block)) := by cases A <;> exact hgr
  have key : (∀ p, A' = some p → (∃ q, A = some q ∧ p.block = q.block) ∨ w.heap.size ≤ p.block) ∧ (c < n + m → A' = some ⟨w.heap.size, 0, none⟩ ∧ Below w.heap.size w w') := by
    rcases hown.2 with ⟨hv, h0⟩ | ⟨g, cap, cur, hv, _, hg, hle, hcm, hcs, htk⟩
    · obtain ⟨v2, w2, hrun2, hown2, hg2, hnil⟩ := run_append_own (P := P) w w.heap.size t ty e i z size bytes ht hi hz1 hz2 hz3 hz hp _ n xs (⟨hown.1, .inl ⟨hv, h0⟩⟩ : w.ownsRow w.heap.size e size (.slice A n c) n xs) a m c2 news hl hnews h1 hmx hby2 (Nat.le_refl _)
      rw [hrun] at hrun2
      injection hrun2 with e1 e2
      subst e1 e2
      have hv2 := hv
      simp only [Value.slice.injEq] at hv2
      obtain ⟨hA, hn, hc⟩ := hv2
      refine ⟨fun p hp => ?_, fun hlt => ?_⟩
      · subst hp
        rcases hown2.2 with ⟨h, _⟩ | ⟨g, _, _, h, hb, _⟩
        · simp at h
        · simp only [Value.slice.injEq, Option.some.injEq] at h
          right; rw [h.1]; exact hb
      · have hx : xs = [] := List.eq_nil_of_length_eq_zero (by rw [hown.1, hn]; simp)
        subst hA hn hc hx
        have hr := run_append_nil (P := P) w t ty e i z ht hi hz1 a m c2 news (by rw [hz2]; exact hl) hnews (by omega) (by omega) (by rw [hz3]; have := Nat.mul_le_mul_left m hby; omega)
        rw [hrun] at hr
        injection hr with e1 e2
        simp only [Value.slice.injEq] at e1
        refine ⟨e1.1, ?_⟩
        rw [e2]; exact ((Below.refl _ _).drew).alloc (Nat.le_refl _) _
    · simp only [Value.slice.injEq] at hv
      obtain ⟨rfl, _, rfl⟩ := hv
      by_cases hroom : n + m ≤ c
      · have hr := run_append_room (P := P) w t ty e i ht hi g n c cur hg a m c2 news (by rw [hz2]; exact hl) hnews h1 hroom (by rw [hz2, hl, hcs, ← Nat.add_mul]; exact Nat.mul_le_mul_right _ hroom)
        rw [hrun] at hr
        injection hr with e1 _
        simp only [Value.slice.injEq] at e1
        exact ⟨fun p hp => by rw [e1.1] at hp; injection hp with hp; left; exact ⟨_, rfl, by rw [← hp]⟩, fun h => by omega⟩
      · have hr := run_append_grow (P := P) w t ty e i z ht hi hz1 ⟨g, 0, none⟩ n c xs (by rw [hz2]; exact hown.1) (hown.cells (g := g) rfl) a m c2 news (by rw [hz2]; exact hl) hnews (by omega) (by omega) (growslice_fits (by omega) (by rw [hz3]; exact hby2))
        rw [hrun] at hr
        injection hr with e1 e2
        simp only [Value.slice.injEq] at e1
        refine ⟨fun p hp => by rw [e1.1] at hp; injection hp with hp; right; rw [← hp]; exact Nat.le_refl _, fun _ => ⟨e1.1, ?_⟩⟩
        rw [e2]; exact ((Below.refl _ _).drew).alloc (Nat.le_refl _) _
  exact ⟨A', c', w', hrun, hown', hgr2, key.1, key.2⟩

theorem append_row_none {P : Program} (w : World) {t ty e size c2 : Nat} {i : TypeInfo} (ht : P.underlying t = some (.slice e)) (hi : P.info? e = some i) {A : Option Addr} {n c : Nat} {xs : List Value} (hown : w.ownsRow 0 e size (.slice A n c) n xs) :
    (Builtin.append_ #[t, t] ty #[.slice A n c, .slice none 0 c2]).run P w = .ok (.slice A n c) w := append_nothing w ht hi hown

/-- The same as one step of a region that draws its order, the source of whatever address. -/
theorem step_append_row {P : Program} (w : World) {ops : Array Oper} {o : Oper} {a : Act} {K : Act → World → Prop} {Q : Exit → Act → World → Prop} {E' : Prop} (hgd : o.guard = none) (s x : Operand) (T : TypeId)
    (ho : o.op = .call { callee := .builtin .append, args := #[s, x], argTypes := #[T, T] }) (E : TypeId) (hT : P.underlying T = some (.slice E)) (z : Value) (size bytes : Nat)
    (hI : (P.info? E).map (fun i => (i.zero, i.size, i.bytes)) = some (some z, size, bytes)) (hz : z.cells.size = size) (hp : 0 < size) (hby : bytes ≤ 64) (A : Option Addr) (n c : Nat) (xs : List Value) (hs : a.eval s = .slice A n c) (hown : w.ownsRow 0 E size (.slice A n c) n xs)
    (D : Option Addr) (m c2 : Nat) (hx : a.eval x = .slice D m c2) (news : List Value) (hsrc : m ≠ 0 → ∃ d, D = some d ∧ ∀ j u, news[j]? = some u → w.cell? (d.add j) = some u) (h1 : ∀ u ∈ news, u.oneCell' = true) (hl : news.length = m * size) (hsz : (n + m) * 64 ≤ 140737488355328)
    (h : ∀ A' c' w', w'.ownsRow 0 E size (.slice A' (n + m) c') (n + m) (xs ++ news) → w.grownBy w' (A.map (·.block)) → (∀ p, A' = some p → (∃ q, A = some q ∧ p.block = q.block) ∨ w.heap.size ≤ p.block) → (c < n + m → A' = some ⟨w.heap.size, 0, none⟩ ∧ Below w.heap.size w w') → (m = 0 → w' = w ∧ A' = A) → K (a.put o.dst (.slice A' (n + m) c')) w') :
    if Region.wanted o (yielded ops a.tmps) = true then Oper.wp P o a w K Q else E' := by
  have hw : Region.wanted o (yielded ops a.tmps) = true := by simp [Region.wanted, hgd]
  rw [if_pos hw]
  obtain ⟨i, hi, hz1, hz2, hz3⟩ := info_parts hI
  by_cases hm : m = 0
  · subst hm
    have hnn : news = [] := List.eq_nil_of_length_eq_zero (by simpa using hl)
    subst hnn
    have hrun : (Builtin.append_ #[T, T] o.type #[.slice A n c, .slice D 0 c2]).run P w = .ok (.slice A n c) w := by
      rcases hown.2 with ⟨hv, _⟩ | ⟨g, cap, cur, hv, _, _, hle, _⟩
      · rw [hv]; cases D <;> simp [Builtin.append_, run_underlying hT, typeInfo, sizeOf, hi, Builtin.lenOf, Builtin.firstCells, loadCells, loadCellsFrom]
      · rw [hv]; cases D <;> simp [Builtin.append_, run_underlying hT, typeInfo, sizeOf, hi, Builtin.lenOf, Builtin.firstCells, storeCells, loadCells, loadCellsFrom, hle]
    unfold Oper.wp
    simp only [execOp, ho, resolve, invoke, builtin, Sem.run_bind, Sem.run_pure, Result.andThen_ok, List.map_toArray, List.map_cons, List.map_nil, hs, hx, hrun]
    have h2 := h A c w (by simpa using hown) ⟨rfl, rfl, rfl, Nat.le_refl _, fun _ _ _ => rfl⟩ (fun p hp => .inl ⟨p, hp, rfl⟩) (fun hlt => by
      exfalso
      rcases hown.2 with ⟨hv, h0⟩ | ⟨g, cap, cur, hv, _, _, hle, _⟩
      · simp only [Value.slice.injEq] at hv; omega
      · simp only [Value.slice.injEq] at hv; omega) (fun _ => ⟨rfl, rfl⟩)
    have h3 : K (a.put o.dst (.slice A n c)) w := by simpa using h2
    exact h3
  · obtain ⟨d, rfl, hnews⟩ := hsrc hm
    obtain ⟨A', c', w', hrun, h2, h3, h4, h5⟩ := append_row (P := P) (ty := o.type) w hT hI hz hp hown d m c2 news hl hnews h1 hsz hby
    unfold Oper.wp
    simp only [execOp, ho, resolve, invoke, builtin, Sem.run_bind, Sem.run_pure, Result.andThen_ok, List.map_toArray, List.map_cons, List.map_nil, hs, hx, hrun]
    exact h A' c' w' h2 h3 h4 h5 fun e => absurd e hm
end Go.Proofs.YtaklbgikoeedbaaDoor
namespace Go.Proofs.YtaklbgikoeedbaaDoor
open Go.RowKit

/-- What is said of a journal. -/
structure Jv where
  lives : Nat
  full : Bool
  base : List UInt8
  recs : List (List UInt8)
  last : Nat
def jrow (d : Nat) (lives : Nat) (full : Bool) (A : Option Addr) (n c : Nat) (Q : Option Addr) (m k : Nat) (last : Nat) : List Value :=
  [.pointer (some ⟨d, 0, none⟩), .int .i64 (lives : Int), .bool full, .slice A n c, .slice Q m k, .int .i64 (last : Int)]
/-- A journal at j of the disk at d: D its bytes' blocks. -/
structure JnAt (w : World) (D : Nat → Prop) (j d : Nat) (A : Option Addr) (n c : Nat) (Q : Option Addr) (m k : Nat) (vs : List Value) (J : Jv) : Prop where
  row : w.heap[j]? = some (.cells (jrow d J.lives J.full A n c Q m k J.last).toArray 53 (0, 0))
  base : BytF w D A J.base
  blen : J.base.length = n
  bcap : n ≤ c
  own : w.ownsRow 0 31 1 (.slice Q m k) m vs
  recs : PL w D vs J.recs
  ndj : ¬ D j
  ndq : AtF (fun i => ¬ D i) Q
  low : ∀ i, D i → i < w.heap.size
def JnG (D : Nat → Prop) (j : Nat) (Q : Option Addr) : Nat → Prop := fun i => i = j ∨ (∃ a, Q = some a ∧ i = a.block) ∨ D i
section
variable {w w' : World} {D G : Nat → Prop} {j d n c m k : Nat} {A Q : Option Addr} {vs : List Value} {J : Jv}
theorem JnAt.ltj (h : JnAt w D j d A n c Q m k vs J) : j < w.heap.size := (Array.getElem?_eq_some_iff.1 h.row).1
theorem JnAt.gLow (h : JnAt w D j d A n c Q m k vs J) : ∀ i, JnG D j Q i → i < w.heap.size := fun i hi => by
  rcases hi with rfl | ⟨a, ha, rfl⟩ | hi
  · exact h.ltj
  · exact owns_lt h.own a ha
  · exact h.low i hi
theorem JnAt.off (h : JnAt w D j d A n c Q m k vs J) (hb : Off G w w') (hd : ∀ i, JnG D j Q i → ¬ G i) : JnAt w' D j d A n c Q m k vs J where
  row := (hb.block j h.ltj (hd j (.inl rfl))).trans h.row
  base := h.base.off hb fun i _ hi => hd i (.inr (.inr hi))
  blen := h.blen
  bcap := h.bcap
  own := owns_keep h.own fun b hb2 hv => hb.block b hb2 (hd b (by
    cases Q with
    | none => simp [Value.ownBlock] at hv
    | some a => simp [Value.ownBlock] at hv; exact .inr (.inl ⟨a, rfl, hv.symm⟩)))
  recs := h.recs.off hb fun i _ hi => hd i (.inr (.inr hi))
  ndj := h.ndj
  ndq := h.ndq
  low := fun i hi => Nat.lt_of_lt_of_le (h.low i hi) hb.size
theorem JnAt.qne (h : JnAt w D j d A n c Q m k vs J) : AtF (fun i => i ≠ j) Q := owns_ne h.own h.row (by decide)
end
/-- The same as an object of a law. -/
def JnOb (j d : Nat) (J : Jv) : World → (Nat → Prop) → Prop := fun W G => ∃ D A n c Q m k vs, JnAt W D j d A n c Q m k vs J ∧ ∀ i, G i ↔ JnG D j Q i
theorem jnOb (j d : Nat) (J : Jv) : Obj2 (JnOb j d J) :=
  ⟨fun ⟨D, A, n, c, Q, m, k, vs, h1, h2⟩ hb hd => ⟨D, A, n, c, Q, m, k, vs, h1.off hb fun i hi => hd i ((h2 i).2 hi), h2⟩, fun ⟨_, _, _, _, _, _, _, _, h1, h2⟩ i hi => h1.gLow i ((h2 i).1 hi)⟩
theorem row6 {w : World} {j d lives n c m k last t : Nat} {full : Bool} {A Q : Option Addr} (h : w.heap[j]? = some (.cells (jrow d lives full A n c Q m k last).toArray t (0, 0))) :
    (w.cell? ⟨j, 0, none⟩ = some (.pointer (some ⟨d, 0, none⟩)) ∧ w.cell? ⟨j, 1, none⟩ = some (.int .i64 (lives : Int)) ∧ w.cell? ⟨j, 2, none⟩ = some (.bool full) ∧ w.cell? ⟨j, 3, none⟩ = some (.slice A n c) ∧ w.cell? ⟨j, 4, none⟩ = some (.slice Q m k) ∧ w.cell? ⟨j, 5, none⟩ = some (.int .i64 (last : Int))) ∧
    ∀ i, w.frozen? ⟨j, i, none⟩ = false :=
  ⟨⟨by rw [cell_of_row _ _ _ _ _ _ h]; rfl, by rw [cell_of_row _ _ _ _ _ _ h]; rfl, by rw [cell_of_row _ _ _ _ _ _ h]; rfl, by rw [cell_of_row _ _ _ _ _ _ h]; rfl, by rw [cell_of_row _ _ _ _ _ _ h]; rfl, by rw [cell_of_row _ _ _ _ _ _ h]; rfl⟩, fun i => frozen_of_row _ _ _ _ _ h⟩
/-- What a call may read of it. -/
theorem JnOb.cells {W : World} {G : Nat → Prop} {j d : Nat} {J : Jv} (h : JnOb j d J W G) : ∃ A n c Q m k, (W.cell? ⟨j, 0, none⟩ = some (.pointer (some ⟨d, 0, none⟩)) ∧ W.cell? ⟨j, 1, none⟩ = some (.int .i64 (J.lives : Int)) ∧ W.cell? ⟨j, 2, none⟩ = some (.bool J.full) ∧ W.cell? ⟨j, 3, none⟩ = some (.slice A n c) ∧ W.cell? ⟨j, 4, none⟩ = some (.slice Q m k) ∧ W.cell? ⟨j, 5, none⟩ = some (.int .i64 (J.last : Int))) ∧
    Byt W W.heap.size A J.base ∧ J.base.length = n ∧ n ≤ c ∧ Prt W W.heap.size Q J.recs ∧ J.recs.length = m ∧ m ≤ k := by
  obtain ⟨D, A, n, c, Q, m, k, vs, h1, h2⟩ := h
  obtain ⟨hl, _, hmk⟩ := owns_size h1.own
  refine ⟨A, n, c, Q, m, k, (row6 h1.row).1, h1.base.byt, h1.blen, h1.bcap, ?_, by rw [← h1.recs.1, hl], hmk⟩
  cases Q with
  | none =>
    have h0 := h1.own.2
    rcases h0 with ⟨hv, _⟩ | ⟨g, cap, cur, hv, _⟩
    · simp only [Value.slice.injEq] at hv
      left
      refine List.eq_nil_of_length_eq_zero ?_
      rw [← h1.recs.1, hl]; exact hv.2.1
    · simp at hv
  | some a =>
    obtain ⟨b, o, hb⟩ : ∃ b, ∃ _ : True, a = ⟨b, 0, none⟩ := by
      rcases h1.own.2 with ⟨hv, _⟩ | ⟨g, cap, cur, hv, _⟩
      · simp at hv
      · simp only [Value.slice.injEq, Option.some.injEq] at hv
        exact ⟨g, trivial, hv.1⟩
    subst hb
    refine .inr ⟨b, 0, rfl, owns_lt h1.own _ rfl, fun i p hp => ?_⟩
    obtain ⟨Ai, ni, ci, h3, h4, h5, h6⟩ := h1.recs.2 i p hp
    have hc := h1.own.cells (g := b) rfl i _ h3
    rw [addr_add] at hc
    exact ⟨Ai, ni, ci, hc, h4, h5, h6.byt⟩
theorem Hold.obj {w0 W : World} {d N : Nat} {S : Dk} {P K : World → (Nat → Prop) → Prop} (h : Hold w0 W d N S P K) : ∃ G, P W G := by
  obtain ⟨O, G, _, h2, _⟩ := h
  exact ⟨G, h2⟩
def doneB (S : Dk) (J : Jv) : Bool := J.full || !S.on || decide (S.lives ≠ J.lives)
section
variable {w0 W W' : World} {j d N : Nat} {S : Dk} {J : Jv} {K : World → (Nat → Prop) → Prop}
set_option maxRecDepth 100000 in
set_option maxHeartbeats 1000000 in
theorem jdone_any (h : Hold w0 W d N S (JnOb j d J) K) :
    Calls Tryd.prog 18 #[.pointer (some ⟨j, 0, none⟩)] W fun e w' => e = .returned (.bool (doneB S J)) ∧ ∃ k, w' = W.drewN k := by
  obtain ⟨G, hob⟩ := h.obj
  obtain ⟨A, n, c, Q, m, k, ⟨c0, c1, c2, c3, c4, c5⟩, _⟩ := hob.cells
  obtain ⟨O, _, hdk, _⟩ := h
  have hpw : ∀ i, Calls Tryd.prog 21 #[.pointer (some ⟨d, 0, none⟩)] (W.drewN i) fun e w' => e = .returned (.bool S.on) ∧ w' = W.drewN i := fun i => dpower_any (W.drewN i) O d N S (hdk.drewN i)
  have hlv : ∀ i, Calls Tryd.prog 22 #[.pointer (some ⟨d, 0, none⟩)] (W.drewN i) fun e w' => e = .returned (.int .i64 (S.lives : Int)) ∧ w' = W.drewN i := fun i => dlives_any (W.drewN i) O d N S (hdk.drewN i)
  have HD := vlt (show doneB S J = (J.full || !S.on || decide (S.lives ≠ J.lives)) from rfl)
  clear hdk hob c3 c4 c5
  generalize S.on = on at *
  generalize S.lives = lv at *
  generalize J.lives = lj at *
  generalize J.full = fl at *
  cases fl with
  | true =>
    have HE := vlt (show doneB S J = true by rw [HD.out]; rfl)
    clear HD
    go_enter Tryd.func18, Tryd.ntmps18
    go_upto_region 1 with fail
    go_quiet (fail)
    go_wp2
    go_ret
    exact ⟨by rw [HE.out]; rfl, _, rfl⟩
  | false =>
    cases on with
    | false =>
      have HE := vlt (show doneB S J = true by rw [HD.out]; rfl)
      clear HD
      go_enter Tryd.func18, Tryd.ntmps18
      go_upto_region 1 with fail
      go_quiet ((go_at_call 21; exact Calls.quiet_of_same (hpw _)))
      go_wp2
      go_ret
      exact ⟨by rw [HE.out]; rfl, _, rfl⟩
    | true =>
      have HE := vlt (show doneB S J = ((lv : Int) != (lj : Int)) by
        rw [HD.out]
        by_cases e : lv = lj
        · subst e; simp
        · have e2 : (lv : Int) ≠ (lj : Int) := by omega
          simp [e, e2])
      clear HD
      go_enter Tryd.func18, Tryd.ntmps18
      go_upto_region 1 with fail
      go_quiet (first | (go_at_call 21; exact Calls.quiet_of_same (hpw _)) | (go_at_call 22; exact Calls.quiet_of_same (hlv _)))
      go_wp2
      go_ret
      exact ⟨by rw [HE.out]; rfl, _, rfl⟩
set_option maxRecDepth 100000 in
theorem jbase_any (hK : Kp K) (h : Hold w0 W d N S (JnOb j d J) K) (hb : J.base.length ≤ 1099511627776) :
    Calls Tryd.prog 19 #[.pointer (some ⟨j, 0, none⟩)] W fun e w' => ∃ A n c, e = .returned (.slice A n c) ∧ Byt w' w'.heap.size A J.base ∧ Hid (J.base.length = n) ∧ n ≤ c ∧ Below W.heap.size W w' ∧ Hold w0 w' d N S (JnOb j d J) K := by
  obtain ⟨G, hob⟩ := h.obj
  obtain ⟨A, n, c, Q, m, k, ⟨c0, c1, c2, c3, c4, c5⟩, hA, hl, hc, _⟩ := hob.cells
  have hcl := bclone_any W A J.base n c hA hl (by omega)
  have HL := Lib.hid hl
  have hobj := jnOb j d J
  clear hob hA hl
  generalize J.base = b at *
  go_enter Tryd.func19, Tryd.ntmps19
  go_wp2_with fail
  refine hcl.mono ?_
  rintro e w2 ⟨A2, c2', rfl, hr2, hb2⟩
  clear hcl
  go_wp2
  go_ret
  exact ⟨A2, n, c2', rfl, hr2.byt, HL, hr2.cap, hb2, h.next hobj hK hb2⟩
set_option maxRecDepth 100000 in
theorem jall_any (hK : Kp K) (h : Hold w0 W d N S (JnOb j d J) K) (hb : J.recs.length ≤ 1099511627776) (hps : ∀ p ∈ J.recs, p.length ≤ 1099511627776) :
    Calls Tryd.prog 13 #[.pointer (some ⟨j, 0, none⟩)] W fun e w' => ∃ m, e = .returned (.slice (some ⟨W.heap.size, 0, none⟩) m m) ∧ Hid (J.recs.length = m) ∧ (∃ vs, w'.heap[W.heap.size]? = some (.cells vs.toArray 31 (0, 0)) ∧ PL w' (fun i => W.heap.size < i) vs J.recs) ∧ Below W.heap.size W w' ∧ Hold w0 w' d N S (JnOb j d J) K := by
  obtain ⟨G, hob⟩ := h.obj
  obtain ⟨A, n, c, Q, m, k, ⟨c0, c1, c2, c3, c4, c5⟩, _, _, _, hA, hl, hc⟩ := hob.cells
  have hcl := clones_any W Q J.recs m k hA hl (by omega) hps
  have HL := Lib.hid hl
  have hobj := jnOb j d J
  clear hob hA hl hps
  generalize J.recs = b at *
  go_enter Tryd.func13, Tryd.ntmps13
  go_wp2_with fail
  refine hcl.mono ?_
  rintro e w2 ⟨rfl, hv2, hb2⟩
  clear hcl
  go_wp2
  go_ret
  exact ⟨m, rfl, HL, hv2, hb2, h.next hobj hK hb2⟩
end
end Go.Proofs.YtaklbgikoeedbaaDoor
namespace Go.Proofs.YtaklbgikoeedbaaDoor
open Go.RowKit

/-- The lowest n bytes of v, the lowest first; the highest first. -/
def le (v : Nat) : Nat → List UInt8
  | 0 => []
  | n + 1 => le v n ++ [UInt8.ofNat (v / 2 ^ (8 * n))]
def be (v : Nat) : Nat → List UInt8
  | 0 => []
  | n + 1 => UInt8.ofNat (v / 2 ^ (8 * n)) :: be v n
theorem le_len (v n : Nat) : (le v n).length = n := by induction n with | zero => rfl | succ n ih => simp [le, ih]
theorem be_len (v n : Nat) : (be v n).length = n := by induction n with | zero => rfl | succ n ih => simp [be, ih]
theorem be_rev (v n : Nat) : be v n = (le v n).reverse := by induction n with | zero => rfl | succ n ih => simp [be, le, ih]

end Go.Proofs.YtaklbgikoeedbaaDoor
namespace Go.Proofs.YtaklbgikoeedbaaDoor
open Go.RowKit

/-- The number that bytes tell, the highest first; the lowest first. -/
def bn (l : List UInt8) : Nat := l.foldl (fun a b => a * 256 + b.toNat) 0
theorem bn_snoc (l : List UInt8) (b : UInt8) : bn (l ++ [b]) = bn l * 256 + b.toNat := by simp [bn]
theorem bn_lt : ∀ (n : Nat) (l : List UInt8), l.length = n → bn l < 256 ^ n
  | 0, l, h => by
    obtain rfl := List.eq_nil_of_length_eq_zero h
    simp [bn]
  | n + 1, l, h => by
    have hl : l ≠ [] := by intro e; subst e; simp at h
    have e := List.dropLast_concat_getLast hl
    rw [← e, bn_snoc]
    have h1 := bn_lt n l.dropLast (by simp; omega)
    have h2 := (l.getLast hl).toNat_lt
    rw [Nat.pow_succ]; omega
def ln : List UInt8 → Nat
  | [] => 0
  | b :: r => b.toNat + 256 * ln r
theorem ln_rev (l : List UInt8) : ln l = bn l.reverse := by
  induction l with
  | nil => rfl
  | cons b r ih => rw [ln, ih, List.reverse_cons, bn_snoc]; omega
theorem ln_snoc (l : List UInt8) (b : UInt8) : ln (l ++ [b]) = ln l + b.toNat * 256 ^ l.length := by
  induction l with
  | nil => simp [ln]
  | cons a r ih =>
    simp only [List.cons_append, ln, ih, List.length_cons, Nat.pow_succ]
    rw [Nat.mul_add, Nat.add_assoc, Nat.mul_left_comm, Nat.mul_comm 256 (256 ^ r.length)]
theorem ln_lt (n : Nat) (l : List UInt8) (h : l.length = n) : ln l < 256 ^ n := by rw [ln_rev]; exact bn_lt n _ (by simpa using h)

theorem take_at {l : List UInt8} {k : Nat} {b : UInt8} (h : l[k]? = some b) : l.take (k + 1) = l.take k ++ [b] := by
  obtain ⟨hk, rfl⟩ := List.getElem?_eq_some_iff.1 h
  rw [List.take_succ_eq_append_getElem hk]

theorem pow_le8 (k : Nat) (hk : k < 8) : 256 ^ k ≤ 72057594037927936 := by
  have h1 : 256 ^ k ≤ 256 ^ 7 := Nat.pow_le_pow_right (by decide) (by omega)
  have h2 : (256 : Nat) ^ 7 = 72057594037927936 := by decide
  omega

theorem or_low (V x : Nat) (hV : V ≤ 72057594037927935) (hx : x < 256) : bits .or .u64 ((V : Int) * 256) (x : Int) = ((V * 256 + x : Nat) : Int) := by
  have e : ((V : Int) * 256) = ((V * 256 : Nat) : Int) := by omega
  rw [e, u64_or_nat _ _ (by omega) (by omega), nat_join 8 _ _ (by omega) (by omega)]
theorem or_high (k V x : Nat) (hk : k < 8) (hV : V < 256 ^ k) (hx : x < 256) : bits .or .u64 (V : Int) (IntKind.u64.wrap ((x : Int) * 2 ^ (8 * k))) = ((V + x * 256 ^ k : Nat) : Int) := by
  have e0 : (2 : Nat) ^ (8 * k) = 256 ^ k := by rw [Nat.pow_mul]
  have e : ((x : Int) * 2 ^ (8 * k)) = ((x * 2 ^ (8 * k) : Nat) : Int) := by simp
  have h1 := pow_le8 k hk
  have h2 : x * 256 ^ k ≤ 255 * 256 ^ k := Nat.mul_le_mul_right _ (by omega)
  have e2 : ∀ y : Nat, y < 18446744073709551616 → IntKind.u64.wrap (y : Int) = (y : Int) := by
    intro y hy; simp [IntKind.wrap, IntKind.bits, IntKind.signed]; omega
  rw [e, e0, e2 _ (by omega), u64_or_nat _ _ (by omega) (by omega), Nat.or_comm, nat_join (8 * k) _ _ (by rw [e0]; exact Nat.mul_mod_left _ _) (by rw [e0]; exact hV), Nat.add_comm]

end Go.Proofs.YtaklbgikoeedbaaDoor
namespace Go.Proofs.YtaklbgikoeedbaaDoor

/-- A part: its mark, how many bytes, these. -/
def pt (m : UInt8) (l : List UInt8) : List UInt8 := m :: (be l.length 3 ++ l)
theorem pt_len (m : UInt8) (l : List UInt8) : (pt m l).length = 4 + l.length := by simp [pt, be_len]; omega
/-- How many noughts it begins with. -/
def lz : List UInt8 → Nat
  | [] => 0
  | b :: r => if b = 0 then lz r + 1 else 0
theorem lz_le : ∀ l : List UInt8, lz l ≤ l.length
  | [] => Nat.le_refl _
  | b :: r => by
    unfold lz
    have := lz_le r
    split <;> simp; omega
theorem lz_zero (r : List UInt8) : lz (0 :: r) = lz r + 1 := by simp [lz]
theorem lz_ne {b : UInt8} (r : List UInt8) (h : b ≠ 0) : lz (b :: r) = 0 := by simp [lz, h]
theorem lz_drop : ∀ (l : List UInt8) (k : Nat), k ≤ lz l → lz (l.drop k) = lz l - k
  | l, 0, _ => by simp
  | [], k + 1, h => by simp [lz] at h
  | b :: r, k + 1, h => by
    by_cases hb : b = 0
    · subst hb
      rw [lz_zero] at h ⊢
      have h2 := lz_drop r k (by omega)
      rw [List.drop_succ_cons, h2]; omega
    · rw [lz_ne r hb] at h; omega
theorem lz_at : ∀ (l : List UInt8) (k : Nat), k < lz l → l[k]? = some 0
  | [], k, h => by simp [lz] at h
  | b :: r, k, h => by
    unfold lz at h
    by_cases hb : b = 0
    · rw [if_pos hb] at h
      cases k with
      | zero => simp [hb]
      | succ k => simpa using lz_at r k (by omega)
    · rw [if_neg hb] at h; omega
theorem lz_stop : ∀ (l : List UInt8) (b : UInt8), l[lz l]? = some b → b ≠ 0
  | [], b, h => by simp at h
  | c :: r, b, h => by
    unfold lz at h
    by_cases hc : c = 0
    · rw [if_pos hc] at h
      exact lz_stop r b (by simpa using h)
    · rw [if_neg hc] at h
      simp at h
      subst h; exact hc
/-- How many bytes the head tells of. -/
def reachN (l : List UInt8) : Nat := 4 + bn (((uptoB 4 (l.take 4)).drop 1).take 3)
theorem reachN_lt (l : List UInt8) : reachN l < 4 + 16777216 := by
  have h : (uptoB 4 (l.take 4)).length = 4 := uptoB_len 4 _ (by simp; omega)
  have h2 := bn_lt 3 (((uptoB 4 (l.take 4)).drop 1).take 3) (by simp; omega)
  unfold reachN; omega
theorem bn_be3 (n : Nat) (h : n < 16777216) : bn (be n 3) = n := by
  simp only [be, bn, List.foldl_cons, List.foldl_nil]
  simp
  omega
end Go.Proofs.YtaklbgikoeedbaaDoor
namespace Go.Proofs.YtaklbgikoeedbaaDoor
open Go.RowKit

set_option maxRecDepth 100000 in
theorem big_any (A : Option Addr) (l : List UInt8) (n c v : Nat) (k : Int) (w : World) (ha : Byt w w.heap.size A l) (hl : l.length = n) (hn : n ≤ 70368744177664) (hv : v < 18446744073709551616) :
    Calls Tryd.prog 42 #[.slice A n c, .int .u64 (v : Int), .int .i64 k] w fun e w' => ∃ A' c', e = .returned (.slice A' (n + wd k) c') ∧ Res w' w.heap.size 5 A' (n + wd k) c' (l ++ be v (wd k)) ∧ Below w.heap.size w w' := by
  have hw := wd_le k
  generalize hm : wd k = m at *
  have HM := Lib.hid hm
  have HL := Lib.hid hl
  clear hm hl
  have HV := Lib.hid hv
  clear hv
  go_enter Tryd.func42, Tryd.ntmps42
  go_wp2_with fail
  refine (width_any _ _).mono ?_
  rintro e w' ⟨rfl, rfl⟩
  rw [HM.out]
  go_wp2_with fail
  refine (roomier_any A l n c m _ ha HL.out (by omega) hw).mono ?_
  rintro e w1 ⟨A1, c1, rfl, hr1, hb1⟩
  have HR := Lib.hid hr1
  clear hr1
  go_wp2_with fail
  go_loopw [7, 8] (fun s i wr => ∃ (k' : Nat) (X : List UInt8) (A2 : Option Addr) (n2 c2 : Nat), k' ≤ m ∧ i = .int .i64 ((k' : Int) - 1) ∧ s = .slice A2 n2 c2 ∧ n2 + k' = n + m ∧ Res wr w.heap.size 5 A2 n2 c2 X ∧ X ++ be v k' = l ++ be v m ∧ Below w.heap.size w wr)
    (fun _ i _ => (intOf i + 1).toNat)
  case atStart => exact ⟨m, l, A1, n, c1, Nat.le_refl _, rfl, rfl, rfl, HR.out, rfl, hb1⟩
  case round =>
    obtain ⟨k', X, A2, n2, c2, hk', rfl, rfl, hn2, hres, hX, hbel⟩ := hrel
    have HX := Lib.hid hX
    have HN := Lib.hid hn2
    have hn3 : n2 ≤ n + m := by omega
    clear hX hn2
    by_cases h0 : 0 < k'
    · obtain ⟨k2, rfl⟩ : ∃ k2, k' = k2 + 1 := ⟨k' - 1, by omega⟩
      go_wp2_with (at_builtin; refine wp_append_bytes _ rfl (.tmp 20) (.tmp 26) 31 rfl 5 Tryd.underlying31 Tryd.infoByte w.heap.size A2 n2 c2 X rfl (hres.alloc _) ⟨wr.heap.size, 0, none⟩ 1 1 rfl [UInt8.ofNat (v / 2 ^ (8 * k2))] rfl (new_byte _ _ _ _ (byte_of v (8 * k2))) (by omega) (by have := hbel.size; simp; omega) ?_)
      intro A3 c3 w3 hres3 hb3
      have hbel3 := hb3 w.heap.size w (Nat.le_refl _) (hbel.alloc (by have := hbel.size; omega) _)
      clear hb3 hres hbel
      go_wp2
      go_roundw
      case rel => exact ⟨k2, _, A3, n2 + 1, c3, by omega, by go_num, rfl, by have := HN.out; omega, hres3, by rw [List.append_assoc]; exact HX.out, hbel3⟩
      case measure => simp [intOf]
    · obtain rfl : k' = 0 := by omega
      go_wp2
      go_ret
      have e1 : n2 = n + m := by have := HN.out; omega
      have e2 : X = l ++ be v m := by have := HX.out; simpa [be] using this
      subst e1 e2
      exact ⟨_, _, rfl, hres, hbel⟩
end Go.Proofs.YtaklbgikoeedbaaDoor
namespace Go.Proofs.YtaklbgikoeedbaaDoor
open Go.RowKit

set_option maxRecDepth 100000 in
theorem fromBig_ok (A : Option Addr) (l : List UInt8) (n c : Nat) (w : World) (ha : Byt w w.heap.size A l) (hl : l.length = n) (h8 : n ≤ 8) :
    Calls Tryd.prog 50 #[.slice A n c] w fun e w' => e = .returned (.tuple #[.int .u64 (bn l : Int), .int .i64 0]) ∧ w = w' := by
  have HL := Lib.hid hl
  clear hl
  go_enter Tryd.func50, Tryd.ntmps50
  go_wp2
  go_loop [4, 6, 12] (fun t _ i => ∃ k V : Nat, k ≤ n ∧ i = .int .i64 (k : Int) ∧ t = .int .u64 (V : Int) ∧ V = bn (l.take k)) (fun _ _ i => n - (intOf i).toNat)
  case atStart => exact ⟨0, 0, Nat.zero_le _, rfl, rfl, by simp [bn]⟩
  case round =>
    obtain ⟨k, V, hk, rfl, rfl, hV⟩ := hrel
    have HV := Lib.hid hV
    by_cases hlt : k < n
    · have hb : V ≤ 72057594037927935 := by
        have h1 := bn_lt k (l.take k) (by rw [List.length_take, HL.out]; omega)
        have h2 := pow_le8 k (by omega)
        omega
      clear hV
      obtain ⟨g, o, x, rfl, hg, hx, hcell, hget⟩ := ha.at_ (k := k) (by rw [HL.out]; exact hlt)
      go_wp2
      exact ⟨⟨k + 1, V * 256 + x, by omega, by go_num, by rw [or_low V x hb hx], by rw [take_at hget.out, bn_snoc, ← HV.out]; simp [Nat.mod_eq_of_lt hx]⟩, by simp [intOf]; omega⟩
    · obtain rfl : k = n := by omega
      clear hV
      go_wp2
      go_ret2
      have e : V = bn l := by rw [HV.out, List.take_of_length_le (by rw [HL.out]; exact Nat.le_refl _)]
      rw [e]
      exact ⟨rfl, rfl⟩

set_option maxRecDepth 100000 in
theorem fromBig_no (A : Option Addr) (n c : Nat) (w : World) (h8 : 8 < n) :
    Calls Tryd.prog 50 #[.slice A n c] w fun e w' => e = .returned (.tuple #[.int .u64 0, .int .i64 1]) ∧ w = w' := by
  go_enter Tryd.func50, Tryd.ntmps50
  go_wp2
  go_ret2
  exact ⟨rfl, rfl⟩
end Go.Proofs.YtaklbgikoeedbaaDoor
namespace Go.Proofs.YtaklbgikoeedbaaDoor
open Go.RowKit

theorem trim_cut {w : World} {A : Option Addr} {l : List UInt8} {k c : Nat} (ha : Byt w w.heap.size A (l.drop k)) (hc : l.length - k ≤ c) : Byt w w.heap.size (if c = 1 then A else A.map (·.add 1)) (l.drop (k + 1)) := by
  have h := ha.cut 1 c (by simpa using hc)
  rwa [List.drop_drop] at h

set_option maxRecDepth 100000 in
theorem trimByte_any (w : World) (A : Option Addr) (l : List UInt8) (n c : Nat) (ha : Byt w w.heap.size A l) (hl : l.length = n) (hc : n ≤ c) (hn : n ≤ 1099511627776) :
    Calls Tryd.prog 53 #[.slice A n c, .int .u8 0] w fun e w' => ∃ A' c', e = .returned (.slice A' (n - lz l) c') ∧ w' = w := by
  have HL := Lib.hid hl
  have hz := lz_le l
  have HC := Lib.hid hc
  rw [hl] at hz
  clear hl
  have hcut := run_cut_l (P := Tryd.prog) Tryd.underlying31 Tryd.sizeByte
  go_enter Tryd.func53, Tryd.ntmps53
  go_wp2
  go_loopw [0] (fun s wr => ∃ (k n2 c2 : Nat) (A2 : Option Addr), s = .slice A2 n2 c2 ∧ n2 + k = n ∧ k ≤ lz l ∧ Hid (n2 ≤ c2) ∧ Byt w w.heap.size A2 (l.drop k) ∧ wr = w) (fun s _ => slen s)
  case atStart => exact ⟨0, n, c, A, rfl, rfl, Nat.zero_le _, HC, ha, rfl⟩
  case round =>
    obtain ⟨k, n2, c2, A2, rfl, hk, hkz, hc2, hb, rfl⟩ := hrel
    by_cases h0 : n2 = 0
    · subst h0
      obtain rfl : k = n := by omega
      have HE := Lib.hid (show k - lz l = 0 by omega)
      go_wp2
      go_ret
      exact ⟨none, 0, by rw [HE.out]; rfl, rfl⟩
    · have hcc := hcut A2 n2 c2 1 1 rfl (by omega)
      obtain ⟨g, o, x, rfl, hg, hx, hcell, hget⟩ := hb.at_ (k := 0) (by rw [List.length_drop, HL.out]; omega)
      have hgk : Hid (l[k]? = some (UInt8.ofNat x)) := by
        have h := hget.out
        rw [List.getElem?_drop] at h
        exact h
      simp only [Nat.add_zero] at hcell
      by_cases hx0 : x = 0
      · subst hx0
        have hkl : k < lz l := by
          rcases Nat.lt_or_ge k (lz l) with h | h
          · exact h
          · have : k = lz l := by omega
            subst this
            exact absurd (by simp) (lz_stop l _ hgk.out)
        have hb2 := trim_cut hb (k := k) (c := c2) (by rw [HL.out]; have := hc2.out; omega)
        generalize (if c2 = 1 then some (⟨g, o, none⟩ : Addr) else (some (⟨g, o, none⟩ : Addr)).map (·.add 1)) = A3 at *
        have hc3 : Hid (n2 - 1 ≤ c2 - 1) := show _ ≤ _ by have := hc2.out; omega
        generalize lz l = z at *
        clear hgk hget hb
        go_wp2
        go_roundw
        case rel => exact ⟨k + 1, n2 - 1, c2 - 1, A3, rfl, by omega, by omega, hc3, hb2, trivial⟩
        case measure => simp [slen]; omega
      · have hz2 : lz l = k := by
          rcases Nat.lt_or_ge k (lz l) with h | h
          · have h2 := lz_at l k h
            rw [hgk.out] at h2
            simp at h2
            exfalso
            have h3 := congrArg UInt8.toNat h2
            simp at h3
            omega
          · omega
        have hx1 : ¬ (x : Int) = 0 := by omega
        have he : n - lz l = n2 := by omega
        have HE := Lib.hid he
        clear he hgk hget hb
        go_wp2
        go_ret
        exact ⟨_, c2, by rw [HE.out]; rfl, rfl⟩

set_option maxRecDepth 100000 in
theorem trim_any (w : World) (A : Option Addr) (l : List UInt8) (n c : Nat) (ha : Byt w w.heap.size A l) (hl : l.length = n) (hc : n ≤ c) (hn : n ≤ 1099511627776) :
    Calls Tryd.prog 51 #[.slice A n c, .string ⟨#[0]⟩] w fun e w' => ∃ A' c', e = .returned (.slice A' (n - lz l) c') ∧ w' = w := by
  by_cases h0 : n = 0
  · subst h0
    have HE := Lib.hid (show 0 - lz l = 0 by omega)
    go_enter Tryd.func51, Tryd.ntmps51
    go_wp2
    go_ret
    exact ⟨none, 0, by rw [HE.out]; rfl, rfl⟩
  · have hr := trimByte_any w A l n c ha hl hc hn
    generalize n - lz l = m at *
    go_enter Tryd.func51, Tryd.ntmps51
    go_wp2_with fail
    refine hr.mono ?_
    rintro e w2 ⟨A', c', rfl, rfl⟩
    clear hr
    go_wp2
    go_ret
    exact ⟨A', c', rfl, rfl⟩

set_option maxRecDepth 100000 in
theorem noughts_any (w : World) (A : Option Addr) (l : List UInt8) (n c : Nat) (ha : Byt w w.heap.size A l) (hl : l.length = n) (hc : n ≤ c) (hn : n ≤ 1099511627776) :
    Calls Tryd.prog 45 #[.slice A n c] w fun e w' => e = .returned (.int .i64 (lz l : Int)) ∧ w' = w := by
  have hr := trim_any w A l n c ha hl hc hn
  have hz := lz_le l
  rw [hl] at hz
  generalize lz l = z at *
  go_enter Tryd.func45, Tryd.ntmps45
  go_wp2_with fail
  refine hr.mono ?_
  rintro e w2 ⟨A', c', rfl, rfl⟩
  clear hr
  have he : (n : Int) - ((n - z : Nat) : Int) = (z : Int) := by omega
  go_wp2
  go_ret
  exact ⟨by first | rfl | (rw [← he]; rfl), rfl⟩

theorem splice_four (l : List UInt8) : splice (bv [0, 0, 0, 0]) 0 (bv (l.take 4)) = bv (uptoB 4 (l.take 4)) := by
  have h := uptoB_splice 4 [] (l.take 4) (by simp; omega)
  have e : uptoB 4 [] = [0, 0, 0, 0] := rfl
  rw [e] at h
  simpa using h

set_option maxRecDepth 100000 in
set_option maxHeartbeats 1000000 in
theorem reach_any (w : World) (A : Option Addr) (l : List UInt8) (n c : Nat) (ha : Byt w w.heap.size A l) (hl : l.length = n) :
    Calls Tryd.prog 44 #[.slice A n c] w fun e w' => e = .returned (.int .i64 (reachN l : Int)) ∧ Below w.heap.size w w' := by
  have hlt := reachN_lt l
  have hne : 4 ≤ reachN l := by unfold reachN; omega
  have HR := vlt (show reachN l = 4 + bn (((uptoB 4 (l.take 4)).drop 1).take 3) from rfl)
  generalize reachN l = R at *
  have hm4 : Hid ((l.take 4).length = min n 4) := show _ = _ by rw [List.length_take, hl, Nat.min_comm]
  have hX := splice_four l
  have HB : Byt w w.heap.size A (l.take 4) := ha.take 4
  obtain ⟨q, hq⟩ : ∃ q, q = l.take 4 := ⟨_, rfl⟩
  rw [← hq] at hm4 hX HB HR
  clear hq ha hl
  have hca := cut_all (P := Tryd.prog) Tryd.underlying79 Tryd.sizeByte w.heap.size 0 (by decide)
  have hcl := cut_l (P := Tryd.prog) Tryd.underlying79 Tryd.sizeByte w.heap.size 0 1 1 rfl (by decide)
  have hg0 : Hid ((w.alloc (.cells #[.int .u8 0, .int .u8 0, .int .u8 0, .int .u8 0] 79)).heap[w.heap.size]? = some (.cells (bv [0, 0, 0, 0]).toArray 79 (0, 0))) := heap_alloc_new w (.cells #[.int .u8 0, .int .u8 0, .int .u8 0, .int .u8 0] 79)
  have hw1 : Below w.heap.size w (w.alloc (.cells #[.int .u8 0, .int .u8 0, .int .u8 0, .int .u8 0] 79)) := (Below.refl _ _).alloc (Nat.le_refl _) _
  have hs1 : w.heap.size < (w.alloc (.cells #[.int .u8 0, .int .u8 0, .int .u8 0, .int .u8 0] 79)).heap.size := by simp
  go_enter Tryd.func44, Tryd.ntmps44
  go_wp2_with (with_reducible refine wpList_copy_splice rfl (.tmp 6) (.tmp 7) 31 31 rfl 5 Tryd.underlying31 Tryd.sizeByte (some ⟨w.heap.size, 0, none⟩) A 4 4 n c rfl rfl w.heap.size 0 (bv [0, 0, 0, 0]) 79 hg0.out (bv q) (by rw [bv_len, hm4.out]) ((HB.below hw1).src _ _ rfl) (by rw [bv_len, bv_len, hm4.out]; exact Nat.le_trans (Nat.le_of_eq (Nat.zero_add _)) (Nat.min_le_right _ _)) (bv_one _) w.heap.size _ hw1 (Nat.le_refl _) ?_)
  intro w3 hg3 hb3
  first | rw [hX] at hg3 | skip
  have hbm := byt_mid hg3.out 1 3
  have hl3 : Hid ((((uptoB 4 q).drop 1).take 3).length = 3) := show _ = _ by
    have h : (uptoB 4 q).length = 4 := uptoB_len 4 _ (by rw [hm4.out]; exact Nat.min_le_right _ _)
    simp [h]
  obtain ⟨t, ht⟩ : ∃ t, t = ((uptoB 4 q).drop 1).take 3 := ⟨_, rfl⟩
  rw [← ht] at hbm hl3 HR
  clear ht hX hg3
  have hfb := fromBig_ok (some ⟨w.heap.size, 1, none⟩) t 3 3 w3 hbm hl3.out (by decide)
  obtain ⟨V, hV⟩ : ∃ V, V = bn t := ⟨_, rfl⟩
  rw [← hV] at hfb HR
  have hVR : R = 4 + V := HR.out
  clear hV HR
  go_wp2_with fail
  refine hfb.mono ?_
  rintro e w4 ⟨rfl, rfl⟩
  clear hfb
  have hV2 : V < 16777216 := by omega
  subst hVR
  go_wp2
  go_ret
  exact ⟨by first | rfl | (push_cast; rfl), hb3⟩

set_option maxRecDepth 100000 in
theorem part_any (w : World) (m : UInt8) (A : Option Addr) (l : List UInt8) (n c : Nat) (ha : Byt w w.heap.size A l) (hl : l.length = n) (hn : n ≤ 1099511627776) :
    Calls Tryd.prog 30 #[.int .u8 (m.toNat : Int), .slice A n c] w fun e w' => ∃ A' c', e = .returned (.slice A' (4 + n) c') ∧ Res w' w.heap.size 5 A' (4 + n) c' (pt m l) ∧ Below w.heap.size w w' := by
  have HL := Lib.hid hl
  have HP := vlt (show pt m l = m :: (be n 3 ++ l) by unfold pt; rw [hl])
  clear hl
  have hm : (m.toNat : Int) < 256 := by have := UInt8.toNat_lt m; omega
  have hw1 : Below w.heap.size w (w.alloc (.cells #[.int .u8 (m.toNat : Int)] 5)) := (Below.refl _ _).alloc (Nat.le_refl _) _
  have hb1 := Byt.lit w 5 #[.int .u8 (m.toNat : Int)] [m] rfl
  have hbig := big_any (some ⟨w.heap.size, 0, none⟩) [m] 1 1 n 3 (w.alloc (.cells #[.int .u8 (m.toNat : Int)] 5)) hb1 rfl (by decide) (by omega)
  have hwd : wd 3 = 3 := by decide
  rw [hwd] at hbig
  go_enter Tryd.func30, Tryd.ntmps30
  go_wp2_with fail
  refine hbig.mono ?_
  rintro e w2 ⟨A2, c2, rfl, hr2, hb2⟩
  clear hbig
  have hb3 := hw1.trans (hb2.mono (by simp))
  have hr3 := hr2.base_le (B := w.heap.size) (by simp)
  have hsz := hb3.size
  have ha3 := ha.below hb3
  clear hr2 hb2 hw1 hb1
  go_wp2_with (at_builtin; refine wp_append_src _ rfl (.tmp 10) (.tmp 11) 31 rfl 5 Tryd.underlying31 Tryd.infoByte w.heap.size A2 4 c2 ([m] ++ be n 3) rfl hr3 A n c rfl _ l ha3 HL.out (by omega) hsz ?_)
  intro A4 c4 w4 hr4 hb4
  have hb5 := hb4 w.heap.size w (Nat.le_refl _) hb3
  rw [← HP.out] at hr4
  clear hb4 hr3
  go_wp2
  go_ret
  exact ⟨A4, c4, rfl, hr4, hb5⟩
end Go.Proofs.YtaklbgikoeedbaaDoor
namespace Go.Proofs.YtaklbgikoeedbaaDoor
open Go.RowKit

/-- Parts behind a file, as long as there is room. -/
def wrL (s : ByteArray) : Dk → List (List UInt8) → Dk × Int
  | S, [] => (S, 0)
  | S, p :: r => if appE S s (pt 1 p).length = 0 then wrL s (S.app s (pt 1 p)) r else (S, appE S s (pt 1 p).length)
section
variable {w0 W W' : World} {j d N : Nat} {S : Dk} {J : Jv} {M : World → (Nat → Prop) → Prop}
theorem Hold.c0 (h : Hold w0 W d N S (JnOb j d J) M) : W.cell? ⟨j, 0, none⟩ = some (.pointer (some ⟨d, 0, none⟩)) := by
  obtain ⟨G, hob⟩ := h.obj
  obtain ⟨A, n, c, Q, m, k, ⟨c0, c1, c2, c3, c4, c5⟩, _⟩ := hob.cells
  exact c0
theorem Hold.c5 (h : Hold w0 W d N S (JnOb j d J) M) : W.cell? ⟨j, 5, none⟩ = some (.int .i64 (J.last : Int)) := by
  obtain ⟨G, hob⟩ := h.obj
  obtain ⟨A, n, c, Q, m, k, ⟨c0, c1, c2, c3, c4, c5⟩, _⟩ := hob.cells
  exact c5
theorem Hold.fr (h : Hold w0 W d N S (JnOb j d J) M) (i : Nat) : W.frozen? ⟨j, i, none⟩ = false := by
  obtain ⟨G, D, A, n, c, Q, m, k, vs, hat, _⟩ := h.obj
  exact (row6 hat.row).2 i
theorem Hold.prt (hM : Kp M) (h : Hold w0 W d N S (JnOb j d J) M) {A : Option Addr} {ps : List (List UInt8)} (hp : ∀ W F, M W F → PrtF W F A ps) : Prt W W.heap.size A ps := PrtF.prt (hp _ _ (h.data hM))
set_option maxRecDepth 100000 in
set_option maxHeartbeats 1000000 in
theorem jwrite_any (hM : Kp M) (h : Hold w0 W d N S (JnOb j d J) M) (s : ByteArray) (hs : s.size ≤ 140737488355328) (A : Option Addr) (ps : List (List UInt8)) (n c : Nat) (hp : ∀ W F, M W F → PrtF W F A ps) (hl : ps.length = n) (hn : n ≤ 1048576) (hps : ∀ p ∈ ps, p.length ≤ 1073741824) (hN : N ≤ 1073741824) :
    Calls Tryd.prog 26 #[.pointer (some ⟨j, 0, none⟩), .string s, .slice A n c] W fun e w' => e = .returned (.int .i64 (wrL s S ps).2) ∧ Hold w0 w' d (N + n) (wrL s S ps).1 (JnOb j d J) M := by
  have HL := Lib.hid hl
  have hob := jnOb j d J
  clear hl
  go_enter Tryd.func26, Tryd.ntmps26
  go_wp2
  go_loopw [12] (fun x wr => ∃ (k : Nat) (S2 : Dk), x = .int .i64 (k : Int) ∧ k ≤ n ∧ Vlt (wrL s S ps = wrL s S2 (ps.drop k)) ∧ Hold w0 wr d (N + k) S2 (JnOb j d J) M)
    (fun x _ => n - (intOf x).toNat)
  case atStart => exact ⟨0, S, rfl, Nat.zero_le _, vlt rfl, h⟩
  case round =>
    obtain ⟨k, S2, rfl, hk, hrec, hh⟩ := hrel
    by_cases hlt : k < n
    · obtain ⟨b, o, Aj, nj, cj, p, rfl, hblt, hcell, hpk, hpj, hcj, hbp⟩ := (hh.prt hM hp).at_ (k := k) (by rw [HL.out]; exact hlt)
      have hnj : nj ≤ 1073741824 := by
        have h := hps p (List.mem_of_getElem? hpk.out)
        rw [hpj.out] at h; exact h
      have hdr : Vlt (ps.drop k = p :: ps.drop (k + 1)) := vlt (by
        have h1 := hpk.out
        obtain ⟨h2, h3⟩ := List.getElem?_eq_some_iff.1 h1
        rw [List.drop_eq_getElem_cons h2, h3])
      have hhd := hh.drew hob hM
      have hbd : Byt wr.drew wr.drew.heap.size Aj p := hbp
      clear hh hbp
      go_upto_region 4 with fail
      refine wp_region_held_drew (S := (fun W' => W'.cell? ⟨j, 0, none⟩ = some (.pointer (some ⟨d, 0, none⟩)))) (by kernel_rfl) (hhd.c0) (fun hHeld => ?_)
      refine wpAnyH_take (i := 0) (oi := ⟨(some 16), _, _, _, _, _⟩) (v := ?vq1_0) rfl (by kernel_rfl) (by kernel_rfl) (by kernel_rfl) (fun _ _ _ h => h) (Or.inl ⟨by rfl, ?yq1_0⟩) hHeld ?_
      case yq1_0 => (intro W0 hSw; go_simp; try with_reducible rfl)
      try simp only [Act.put, List.setIfInBounds_toArray, List.set_cons_zero, List.set_cons_succ]
      refine wpAnyH_take (i := 1) (oi := ⟨(some 17), _, _, _, _, _⟩) (v := ?vq1_1) rfl (by kernel_rfl) (by kernel_rfl) (by kernel_rfl) (fun _ _ _ h => h) (Or.inl ⟨by rfl, ?yq1_1⟩) hHeld ?_
      case yq1_1 => (intro W0 hSw; go_simp; try with_reducible rfl)
      try simp only [Act.put, List.setIfInBounds_toArray, List.set_cons_zero, List.set_cons_succ]
      refine wpAnyH_take (i := 2) (oi := ⟨(some 18), _, _, _, _, _⟩) (v := ?vq1_2) rfl (by kernel_rfl) (by kernel_rfl) (by kernel_rfl) (fun _ _ _ h => h) (Or.inl ⟨by rfl, ?yq1_2⟩) hHeld ?_
      case yq1_2 => (intro W0 hSw; go_simp; try with_reducible rfl)
      try simp only [Act.put, List.setIfInBounds_toArray, List.set_cons_zero, List.set_cons_succ]
      refine wpAnyH_take (i := 3) (oi := ⟨(some 19), _, _, _, _, _⟩) (v := ?vq1_3) rfl (by kernel_rfl) (by kernel_rfl) (by kernel_rfl) (fun _ _ _ h => h) (Or.inl ⟨by rfl, ?yq1_3⟩) hHeld ?_
      case yq1_3 => (intro W0 hSw; go_simp; try with_reducible rfl)
      try simp only [Act.put, List.setIfInBounds_toArray, List.set_cons_zero, List.set_cons_succ]
      refine wpAnyH_take (i := 4) (oi := ⟨(some 20), _, _, _, _, _⟩) (v := ?vq1_4) rfl (by kernel_rfl) (by kernel_rfl) (by kernel_rfl) (fun _ _ _ h => h) (Or.inl ⟨by rfl, ?yq1_4⟩) hHeld ?_
      case yq1_4 => (intro W0 hSw; go_simp; try with_reducible rfl)
      try simp only [Act.put, List.setIfInBounds_toArray, List.set_cons_zero, List.set_cons_succ]
      refine wpAnyH_take (i := 5) (oi := ⟨(some 21), _, _, _, _, _⟩) (v := ?vq1_5) rfl (by kernel_rfl) (by kernel_rfl) (by kernel_rfl) (fun _ _ _ h => h) (Or.inl ⟨by rfl, ?yq1_5⟩) hHeld ?_
      case yq1_5 => (intro W0 hSw; go_simp; try with_reducible rfl)
      try simp only [Act.put, List.setIfInBounds_toArray, List.set_cons_zero, List.set_cons_succ]
      refine wpAnyH_ready (rs := [6]) (by kernel_rfl) (by simp) ?_
      refine AllReadyH.cons (i := 6) (o := ⟨(some 22), _, _, _, _, _⟩) rfl (fun K hK => ?_) AllReadyH.nil
      go_simp
      refine (part_any _ 1 Aj p nj cj hbd hpj.out (by omega)).mono ?_
      rintro e w3 ⟨A3, c3, rfl, hr3, hb3⟩
      have hh3 := hhd.fresh hob hM hb3 (kB A3 (pt 1 p)) (hr3.inF fun i h => h)
      have hap := hold_append hob (kAnd hM (kB A3 (pt 1 p))) hh3 s hs A3 (pt 1 p) (4 + nj) c3 (fun W F h => h.2) (by rw [pt_len, hpj.out]) (by omega) (by omega)
      clear hr3 hbd hhd hb3
      refine hK.out _ _ (hh3.c0) (fun hHeld => ?_)
      clear hK K
      try simp only [Act.put, List.setIfInBounds_toArray, List.set_cons_zero, List.set_cons_succ]
      refine wpAnyH_ready (rs := [7]) (by kernel_rfl) (by simp) ?_
      refine AllReadyH.cons (i := 7) (o := ⟨(some 23), _, _, _, _, _⟩) rfl (fun K hK => ?_) AllReadyH.nil
      go_simp
      refine hap.mono ?_
      rintro e w4 ⟨rfl, hh4⟩
      clear hap hHeld
      have hh5 := hh4.weak (K2 := M) (fun _ _ h => h.1)
      clear hh4
      refine hK.out _ _ (hh5.c0) (fun hHeld => ?_)
      clear hK K
      try simp only [Act.put, List.setIfInBounds_toArray, List.set_cons_zero, List.set_cons_succ]
      refine wpAnyH_take (i := 8) (oi := ⟨(some 9), _, _, _, _, _⟩) (v := ?vq1_6) rfl (by kernel_rfl) (by kernel_rfl) (by kernel_rfl) (fun _ _ _ h => h) (Or.inl ⟨by rfl, ?yq1_6⟩) hHeld ?_
      case yq1_6 => (intro W0 hSw; go_simp; try with_reducible rfl)
      try simp only [Act.put, List.setIfInBounds_toArray, List.set_cons_zero, List.set_cons_succ]
      refine wpAnyH_done (by kernel_rfl) ?_ _
      clear hHeld hh3
      have HA := vlt (show appE S2 s (pt 1 p).length = appE S2 s (4 + nj) by rw [pt_len, hpj.out])
      by_cases he : appE S2 s (4 + nj) = 0
      · have hrec2 : Vlt (wrL s S ps = wrL s (S2.app s (pt 1 p)) (ps.drop (k + 1))) := vlt (by
          rw [hrec.out, hdr.out]
          show (if _ then _ else _) = _
          rw [HA.out, if_pos he])
        rw [he]
        clear hdr hrec HA
        go_wp2
        go_roundw
        case rel => exact ⟨k + 1, _, by go_num, by omega, hrec2, hh5⟩
        case measure => simp [intOf]; omega
      · have hrec2 : Vlt (wrL s S ps = (S2, appE S2 s (4 + nj))) := vlt (by
          rw [hrec.out, hdr.out]
          show (if _ then _ else _) = _
          rw [HA.out, if_neg he])
        have hsame : Vlt (S2.app s (pt 1 p) = S2) := vlt (by
          unfold Dk.app
          rw [HA.out, if_neg he])
        generalize appE S2 s (4 + nj) = v at *
        clear hdr hrec HA
        go_wp2
        go_ret
        exact ⟨by rw [hrec2.out]; rfl, by rw [hrec2.out]; rw [hsame.out] at hh5; exact hh5.more (by omega)⟩
    · obtain rfl : k = n := by omega
      have hrec2 : Vlt (wrL s S ps = (S2, 0)) := vlt (by
        rw [hrec.out, List.drop_of_length_le (by rw [HL.out]; exact Nat.le_refl _)]; rfl)
      clear hrec
      go_wp2
      go_ret
      exact ⟨by rw [hrec2.out]; rfl, by rw [hrec2.out]; exact hh⟩
end
end Go.Proofs.YtaklbgikoeedbaaDoor
namespace Go.Proofs.YtaklbgikoeedbaaDoor
open Go.RowKit

section
variable {w0 W W' W1 : World} {j d N : Nat} {S : Dk} {J : Jv} {O : Nat → Option Nat} {P P' K : World → (Nat → Prop) → Prop} {D G : Nat → Prop} {A Q : Option Addr} {n c m k : Nat} {vs : List Value}
/-- A call of the other object. -/
theorem Hold.rawG (hK : Kp K) {G' : Nat → Prop} (h1 : DkIs W O d N S) (h3 : ∀ i, G i → O i = none) (h4 : ∀ i, O i ≠ none → w0.heap.size ≤ i) (h5 : ∀ i, G i → w0.heap.size ≤ i) (h6 : Below w0.heap.size w0 W) (h7 : K W (fun i => O i = none ∧ ¬ G i))
    (h8 : P' W' G') (h9 : ∀ i, G' i → G i ∨ W.heap.size ≤ i) (h10 : Off G W W') : Hold w0 W' d N S P' K := by
  have hOl := h1.low
  refine ⟨O, G', h1.off h10 (fun i hi hG => hi (h3 i hG)), h8, fun i hi => ?_, h4, fun i hi => ?_, h10.below h6 h5 h6.size, ?_⟩
  · rcases h9 i hi with h | h
    · exact h3 i h
    · cases hq : O i with
      | none => rfl
      | some y => have := hOl i (by rw [hq]; simp); omega
  · rcases h9 i hi with h | h
    · exact h5 i h
    · exact Nat.le_trans h6.size h
  · have h12 : K W (fun i => (O i = none ∧ ¬ G i) ∧ i < W.heap.size) := hK.mono h7 fun i hi h => ⟨h, hi⟩
    exact hK.mono (hK.off h12 h10 fun i _ h h' => h.1.2 h') fun i _ h => ⟨h.1.1, fun h' => by
      rcases h9 i h' with h'' | h''
      · exact h.1.2 h''
      · have := h.2; omega⟩
theorem Hold.callG (hK : Kp K) (h : Hold w0 W d N S P K) (hs : ∀ G, P W G → ∃ G', P' W' G' ∧ (∀ i, G' i → G i ∨ W.heap.size ≤ i) ∧ Off G W W') : Hold w0 W' d N S P' K := by
  obtain ⟨O, G, h1, h2, h3, h4, h5, h6, h7⟩ := h
  obtain ⟨G', h8, h9, h10⟩ := hs G h2
  exact Hold.rawG hK h1 h3 h4 h5 h6 h7 h8 h9 h10
/-- One of the journal's own cells has turned. -/
theorem JnAt.setRow (h : JnAt W D j d A n c Q m k vs J) (J' : Jv) (i : Nat) (u : Value) (hJ : J'.base = J.base ∧ J'.recs = J.recs) (hr : (jrow d J.lives J.full A n c Q m k J.last).set i u = jrow d J'.lives J'.full A n c Q m k J'.last) :
    JnAt (W.setCell ⟨j, i, none⟩ u) D j d A n c Q m k vs J' := by
  have hof : Off (fun b => b = j) W (W.setCell ⟨j, i, none⟩ u) := Off.set (F := fun b => b = j) (Off.refl _ _) (.inl rfl) _
  have hrow := (world_set_cell h.row i u).out
  rw [hr] at hrow
  refine ⟨hrow, by rw [hJ.1]; exact h.base.off hof fun b _ hb e => h.ndj (e ▸ hb), by rw [hJ.1]; exact h.blen, h.bcap, own_set h.own h.qne u, by rw [hJ.2]; exact h.recs.off hof fun b _ hb e => h.ndj (e ▸ hb), h.ndj, h.ndq, fun b hb => Nat.lt_of_lt_of_le (h.low b hb) hof.size⟩
theorem Hold.setRow (hK : Kp K) (h : Hold w0 W d N S (JnOb j d J) K) (J' : Jv) (i : Nat) (u : Value) (hJ : J'.base = J.base ∧ J'.recs = J.recs) (hr : ∀ A n c Q m k, (jrow d J.lives J.full A n c Q m k J.last).set i u = jrow d J'.lives J'.full A n c Q m k J'.last) :
    Hold w0 (W.setCell ⟨j, i, none⟩ u) d N S (JnOb j d J') K :=
  h.callG hK fun G ⟨D, A, n, c, Q, m, k, vs, h1, h2⟩ => ⟨G, ⟨D, A, n, c, Q, m, k, vs, h1.setRow J' i u hJ (hr A n c Q m k), h2⟩, fun _ hi => .inl hi, Off.set (F := G) (Off.refl _ _) (.inl ((h2 j).2 (.inl rfl))) _⟩
/-- Records have come behind: W0 ahead of their bytes, W behind them, W' behind append. -/
theorem JnAt.push {D0 : Nat → Prop} {us : List Value} {ps : List (List UInt8)} {r k' : Nat} {Q' : Option Addr} (h : JnAt W D j d A n c Q m k vs J) (hus : PL W' D0 us ps) (hgr : W.grownBy W' (Q.map (·.block))) (hown : W'.ownsRow 0 31 1 (.slice Q' (m + r) k') (m + r) (vs ++ us))
    (hQ' : ∀ p, Q' = some p → (∃ q, Q = some q ∧ p.block = q.block) ∨ W.heap.size ≤ p.block) (h0 : ∀ i, D0 i → i < W.heap.size ∧ i ≠ j ∧ ∀ a, Q = some a → i ≠ a.block) :
    JnAt (W'.setCell ⟨j, 4, none⟩ (.slice Q' (m + r) k')) (fun i => D i ∨ D0 i) j d A n c Q' (m + r) k' (vs ++ us) { J with recs := J.recs ++ ps } := by
  have hof1 : Off (fun b => ∃ a, Q = some a ∧ b = a.block) W W' := grown_off hgr fun a ha => ⟨a, ha, rfl⟩
  have hrow1 : W'.heap[j]? = some (.cells (jrow d J.lives J.full A n c Q m k J.last).toArray 53 (0, 0)) := (hof1.block j h.ltj fun ⟨a, ha, e⟩ => h.qne a ha e.symm).trans h.row
  have hrow2 := (world_set_cell hrow1 4 (.slice Q' (m + r) k')).out
  have hof2 : Off (fun b => b = j) W' (W'.setCell ⟨j, 4, none⟩ (.slice Q' (m + r) k')) := Off.set (F := fun b => b = j) (Off.refl _ _) (.inl rfl) _
  have hqj : AtF (fun i => i ≠ j) Q' := fun p hp e => by
    rcases hQ' p hp with ⟨q, hq, hb⟩ | hb
    · exact h.qne q hq (hb ▸ e)
    · have := h.ltj; omega
  refine ⟨hrow2, ((h.base.off hof1 fun b _ hb ⟨a, ha, e⟩ => h.ndq a ha (e ▸ hb)).off hof2 fun b _ hb e => h.ndj (e ▸ hb)).mono fun i _ hi => .inl hi, h.blen, h.bcap, own_set hown hqj _,
    (((h.recs.off hof1 fun b _ hb ⟨a, ha, e⟩ => h.ndq a ha (e ▸ hb)).mono fun i _ hi => .inl hi).app (hus.mono fun i _ hi => .inr hi)).off hof2 fun b _ hb e => ?_, ?_, ?_, ?_⟩
  · rcases hb with hb | hb
    · exact h.ndj (e ▸ hb)
    · exact (h0 b hb).2.1 e
  · rintro (hb | hb)
    · exact h.ndj hb
    · exact (h0 j hb).2.1 rfl
  · rintro p hp (hb | hb)
    · rcases hQ' p hp with ⟨q, hq, e⟩ | e
      · rw [e] at hb; exact h.ndq q hq hb
      · have := h.low _ hb; omega
    · rcases hQ' p hp with ⟨q, hq, e⟩ | e
      · exact (h0 _ hb).2.2 q hq e
      · have := (h0 _ hb).1; omega
  · rintro i (hi | hi)
    · exact Nat.lt_of_lt_of_le (h.low i hi) (Nat.le_trans hof1.size hof2.size)
    · exact Nat.lt_of_lt_of_le (h0 i hi).1 (Nat.le_trans hof1.size hof2.size)

set_option maxRecDepth 100000 in
set_option maxHeartbeats 1000000 in
theorem jsync_any {M : World → (Nat → Prop) → Prop} (hM : Kp M) (h : Hold w0 W d N S (JnOb j d J) M) (hl : J.last < 100) :
    Calls Tryd.prog 15 #[.pointer (some ⟨j, 0, none⟩)] W fun e w' => e = .returned (.int .i64 (if doneB S J then 7 else 0)) ∧ Hold w0 w' d (N + 1) (if doneB S J then S else S.syn (jname J.last)) (JnOb j d J) M := by
  have hdn := jdone_any h
  have hob := jnOb j d J
  have hnm := (jname_may J.last hl).2.1
  cases hd : doneB S J with
  | true =>
    rw [hd] at hdn
    rw [if_pos rfl, if_pos rfl]
    go_enter Tryd.func15, Tryd.ntmps15
    go_wp2_with fail
    refine hdn.mono ?_
    rintro e w2 ⟨rfl, i, rfl⟩
    clear hdn
    go_wp2
    go_ret
    exact ⟨rfl, (h.drewN hob hM i).more (by omega)⟩
  | false =>
    rw [hd] at hdn
    rw [if_neg (by decide), if_neg (by decide)]
    go_enter Tryd.func15, Tryd.ntmps15
    go_wp2_with fail
    refine hdn.mono ?_
    rintro e w2 ⟨rfl, i, rfl⟩
    clear hdn
    have hh := ((h.drewN hob hM i).drew hob hM)
    clear h
    have c0 := hh.c0
    have c5 := hh.c5
    go_upto_region 3 with fail
    refine wp_region_held_drew (S := (fun W' => W'.cell? ⟨j, 0, none⟩ = some (.pointer (some ⟨d, 0, none⟩)) ∧ W'.cell? ⟨j, 5, none⟩ = some (.int .i64 (J.last : Int)))) (by kernel_rfl) (⟨c0,c5⟩) (fun hHeld => ?_)
    refine wpAnyH_take (i := 0) (oi := ⟨(some 5), _, _, _, _, _⟩) (v := ?vq1_0) rfl (by kernel_rfl) (by kernel_rfl) (by kernel_rfl) (fun _ _ _ h => h) (Or.inl ⟨by rfl, ?yq1_0⟩) hHeld ?_
    case yq1_0 => (intro W0 hSw; go_simp; try with_reducible rfl)
    try simp only [Act.put, List.setIfInBounds_toArray, List.set_cons_zero, List.set_cons_succ]
    refine wpAnyH_take (i := 1) (oi := ⟨(some 6), _, _, _, _, _⟩) (v := ?vq1_1) rfl (by kernel_rfl) (by kernel_rfl) (by kernel_rfl) (fun _ _ _ h => h) (Or.inl ⟨by rfl, ?yq1_1⟩) hHeld ?_
    case yq1_1 => (intro W0 hSw; go_simp; try with_reducible rfl)
    try simp only [Act.put, List.setIfInBounds_toArray, List.set_cons_zero, List.set_cons_succ]
    refine wpAnyH_take (i := 2) (oi := ⟨(some 7), _, _, _, _, _⟩) (v := ?vq1_2) rfl (by kernel_rfl) (by kernel_rfl) (by kernel_rfl) (fun _ _ _ h => h) (Or.inl ⟨by rfl, ?yq1_2⟩) hHeld ?_
    case yq1_2 => (intro W0 hSw; go_simp; try with_reducible rfl)
    try simp only [Act.put, List.setIfInBounds_toArray, List.set_cons_zero, List.set_cons_succ]
    refine wpAnyH_take (i := 3) (oi := ⟨(some 8), _, _, _, _, _⟩) (v := ?vq1_3) rfl (by kernel_rfl) (by kernel_rfl) (by kernel_rfl) (fun _ _ _ h => h) (Or.inl ⟨by rfl, ?yq1_3⟩) hHeld ?_
    case yq1_3 => (intro W0 hSw; go_simp; try with_reducible rfl)
    try simp only [Act.put, List.setIfInBounds_toArray, List.set_cons_zero, List.set_cons_succ]
    refine wpAnyH_take (i := 4) (oi := ⟨(some 9), _, _, _, _, _⟩) (v := ?vq1_4) rfl (by kernel_rfl) (by kernel_rfl) (by kernel_rfl) (fun _ _ _ h => h) (Or.inl ⟨by rfl, ?yq1_4⟩) hHeld ?_
    case yq1_4 => (intro W0 hSw; go_simp; try with_reducible rfl)
    try simp only [Act.put, List.setIfInBounds_toArray, List.set_cons_zero, List.set_cons_succ]
    refine wpAnyH_take (i := 5) (oi := ⟨(some 10), _, _, _, _, _⟩) (v := ?vq1_5) rfl (by kernel_rfl) (by kernel_rfl) (by kernel_rfl) (fun _ _ _ h => h) (Or.inl ⟨by rfl, ?yq1_5⟩) hHeld ?_
    case yq1_5 => (intro W0 hSw; go_simp; try with_reducible rfl)
    try simp only [Act.put, List.setIfInBounds_toArray, List.set_cons_zero, List.set_cons_succ]
    refine wpAnyH_take (i := 6) (oi := ⟨(some 11), _, _, _, _, _⟩) (v := ?vq1_6) rfl (by kernel_rfl) (by kernel_rfl) (by kernel_rfl) (fun _ _ _ h => h) (Or.inl ⟨by rfl, ?yq1_6⟩) hHeld ?_
    case yq1_6 => (intro W0 hSw; go_simp; try with_reducible rfl)
    try simp only [Act.put, List.setIfInBounds_toArray, List.set_cons_zero, List.set_cons_succ]
    refine wpAnyH_take (i := 7) (oi := ⟨(some 12), _, _, _, _, _⟩) (v := ?vq1_7) rfl (by kernel_rfl) (by kernel_rfl) (by kernel_rfl) (fun _ _ _ h => h) (Or.inl ⟨by rfl, ?yq1_7⟩) hHeld ?_
    case yq1_7 => (intro W0 hSw; go_simp; try with_reducible rfl)
    try simp only [Act.put, List.setIfInBounds_toArray, List.set_cons_zero, List.set_cons_succ]
    refine wpAnyH_ready (rs := [8]) (by kernel_rfl) (by simp) ?_
    refine AllReadyH.cons (i := 8) (o := ⟨(some 13), _, _, _, _, _⟩) rfl (fun K hK => ?_) AllReadyH.nil
    go_simp
    refine (name_any J.last hl _).mono ?_
    rintro e w3 ⟨rfl, rfl⟩
    refine hK.out _ _ (⟨c0, c5⟩) (fun hHeld => ?_)
    clear hK K
    try simp only [Act.put, List.setIfInBounds_toArray, List.set_cons_zero, List.set_cons_succ]
    refine wpAnyH_ready (rs := [9]) (by kernel_rfl) (by simp) ?_
    refine AllReadyH.cons (i := 9) (o := ⟨(some 14), _, _, _, _, _⟩) rfl (fun K hK => ?_) AllReadyH.nil
    go_simp
    refine (hold_sync hob hM hh (jname J.last) (by omega)).mono ?_
    rintro e w4 ⟨rfl, hh4⟩
    clear hHeld
    refine hK.out _ _ (⟨hh4.c0, hh4.c5⟩) (fun hHeld => ?_)
    clear hK K
    try simp only [Act.put, List.setIfInBounds_toArray, List.set_cons_zero, List.set_cons_succ]
    refine wpAnyH_done (by kernel_rfl) ?_ _
    clear hHeld
    go_wp2
    go_ret
    exact ⟨rfl, hh4⟩
end
end Go.Proofs.YtaklbgikoeedbaaDoor
namespace Go.Proofs.YtaklbgikoeedbaaDoor
open Go.RowKit

section
variable {w0 W W' W1 : World} {j d N : Nat} {S : Dk} {J : Jv}
theorem Hold.c2 {K : World → (Nat → Prop) → Prop} (h : Hold w0 W d N S (JnOb j d J) K) : W.cell? ⟨j, 2, none⟩ = some (.bool J.full) := by
  obtain ⟨G, hob⟩ := h.obj
  obtain ⟨A, n, c, Q, m, k, ⟨c0, c1, c2, c3, c4, c5⟩, _⟩ := hob.cells
  exact c2
theorem push_own {D G : Nat → Prop} {Q Q2 : Option Addr} {a b : Nat} (hG : ∀ i, G i ↔ JnG D j Q i) (hq : ∀ p, Q2 = some p → (∃ q, Q = some q ∧ p.block = q.block) ∨ b ≤ p.block) (hab : a ≤ b) :
    ∀ i, JnG (fun i => D i ∨ a < i ∧ i < b) j Q2 i → G i ∨ a ≤ i := fun i hi => by
  rcases hi with hi | ⟨p, hp, hi⟩ | hi | hi
  · exact .inl ((hG i).2 (.inl hi))
  · rcases hq p hp with ⟨q, hq, hb⟩ | hb
    · exact .inl ((hG i).2 (.inr (.inl ⟨q, hq, by rw [hi, hb]⟩)))
    · right; omega
  · exact .inl ((hG i).2 (.inr (.inr hi)))
  · right; omega
theorem Tryd.infoSlc : (Tryd.prog.info? 31).map (fun i => (i.zero, i.size, i.bytes)) = some (some (.slice none 0 0), 1, 24) := by kernel_rfl
/-- Records that do not fit: more than MaxRecord bytes. -/
def longR (ps : List (List UInt8)) : Bool := ps.any fun p => decide (16384 < p.length)
theorem longR_no {ps : List (List UInt8)} (h : longR ps = false) : ∀ p ∈ ps, p.length ≤ 16384 := fun p hp => by
  have h2 := List.any_eq_false.1 h p hp
  simp at h2; exact h2
theorem longR_take {ps : List (List UInt8)} {i : Nat} {p : List UInt8} (h : longR (ps.take i) = false) (hp : ps[i]? = some p) (hl : p.length ≤ 16384) : longR (ps.take (i + 1)) = false := by
  have e : ps.take (i + 1) = ps.take i ++ [p] := by rw [List.take_add_one, hp]; rfl
  have h2 : decide (16384 < p.length) = false := by simp; omega
  rw [e]; unfold longR at h ⊢
  rw [List.any_append, h]; simp [h2]
theorem longR_yes {ps : List (List UInt8)} {i : Nat} {p : List UInt8} (hp : ps[i]? = some p) (hl : 16384 < p.length) : longR ps = true :=
  List.any_eq_true.2 ⟨p, List.mem_of_getElem? hp, by simp [hl]⟩
/-- What Add answers, and leaves. -/
def addE (S : Dk) (J : Jv) (ps : List (List UInt8)) : Int := if longR ps then 2 else if doneB S J then 7 else (wrL newB S ps).2
def addS (S : Dk) (J : Jv) (ps : List (List UInt8)) : Dk := if longR ps then S else if doneB S J then S else if (wrL newB S ps).2 = 0 then (wrL (jname J.last) ((wrL newB S ps).1.drp newB) ps).1 else (wrL newB S ps).1.drp newB
def addJ (S : Dk) (J : Jv) (ps : List (List UInt8)) : Jv := if longR ps then J else if doneB S J then J else if (wrL newB S ps).2 = 0 then { J with recs := J.recs ++ ps } else { J with full := true }

set_option maxRecDepth 100000 in
set_option maxHeartbeats 2000000 in
theorem jadd_any {M : World → (Nat → Prop) → Prop} (hM : Kp M) (h : Hold w0 W d N S (JnOb j d J) M) (hl : J.last < 100) (A : Option Addr) (ps : List (List UInt8)) (n c : Nat) (hp : ∀ W F, M W F → PrtF W F A ps) (hlen : ps.length = n) (hn : n ≤ 1048576) (hN : N ≤ 536870912) (hbig : ∀ p ∈ ps, p.length ≤ 1073741824) (hrl : J.recs.length ≤ 1073741824) :
    Calls Tryd.prog 12 #[.pointer (some ⟨j, 0, none⟩), .slice A n c] W fun e w' => e = .returned (.int .i64 (addE S J ps)) ∧ Hold w0 w' d (N + 2 * n + 1) (addS S J ps) (JnOb j d (addJ S J ps)) M := by
  have hob := jnOb j d J
  have HLen := Lib.hid hlen
  have hprt := h.prt hM hp
  have hdn := jdone_any h
  clear hlen
  have hnm := (jname_may J.last hl).2.1
  go_enter Tryd.func12, Tryd.ntmps12
  go_wp2
  go_loopw [10] (fun x wr => ∃ k : Nat, x = .int .i64 (k : Int) ∧ k ≤ n ∧ Vlt (longR (ps.take k) = false) ∧ wr = W) (fun x _ => n - (intOf x).toNat)
  case atStart => exact ⟨0, rfl, Nat.zero_le _, vlt rfl, rfl⟩
  case round =>
    obtain ⟨k, rfl, hk, hno, rfl⟩ := hrel
    by_cases hlt : k < n
    · obtain ⟨b, o, Aj, nj, cj, p, rfl, hblt, hcell, hpk, hpj, hcj, hbp⟩ := hprt.at_ (k := k) (by rw [HLen.out]; exact hlt)
      clear hbp hdn
      by_cases hbg : 16384 < nj
      · have HL := vlt (longR_yes hpk.out (by rw [hpj.out]; exact hbg))
        have hbg' : (16384 : Int) < (nj : Int) := by omega
        clear hno hpk
        go_wp2
        go_ret
        exact ⟨by unfold addE; rw [HL.out]; rfl, by unfold addS addJ; rw [HL.out, if_pos rfl, if_pos rfl]; exact h.more (by omega)⟩
      · have HL := vlt (longR_take hno.out hpk.out (by rw [hpj.out]; omega))
        have hbg' : ¬ (16384 : Int) < (nj : Int) := by omega
        clear hno hpk
        go_wp2
        go_roundw
        case rel => exact ⟨k + 1, by go_num, by omega, HL, trivial⟩
        case measure => simp [intOf]; omega
    · obtain rfl : k = n := by omega
      have HL := vlt (show longR ps = false by
        have h := hno.out
        rwa [List.take_of_length_le (by rw [HLen.out]; exact Nat.le_refl _)] at h)
      clear hno
      cases hd : doneB S J with
      | true =>
        rw [hd] at hdn
        have HE : Vlt (addE S J ps = 7 ∧ addS S J ps = S ∧ addJ S J ps = J) := vlt (by unfold addE addS addJ; rw [HL.out, hd]; exact ⟨rfl, rfl, rfl⟩)
        go_wp2_with fail
        refine hdn.mono ?_
        rintro e w2 ⟨rfl, i, rfl⟩
        clear hdn
        go_wp2
        go_ret
        exact ⟨by rw [HE.out.1]; rfl, by rw [HE.out.2.1, HE.out.2.2]; exact (h.drewN hob hM i).more (by omega)⟩
      | false =>
        rw [hd] at hdn
        go_wp2_with fail
        refine hdn.mono ?_
        rintro e w2 ⟨rfl, i, rfl⟩
        clear hdn
        have hh := h.drewN hob hM i
        have hw := jwrite_any hM hh newB (by rw [new_may.2]; decide) A ps k c hp HLen.out hn hbig (by omega)
        clear hh
        go_wp2_with fail
        refine hw.mono ?_
        rintro e w3 ⟨rfl, hh3⟩
        clear hw
        have hdr := hold_drop hob hM hh3 newB (by rw [new_may.2]; decide)
        have c0 := hh3.c0
        go_wp2_with fail
        refine hdr.mono ?_
        rintro e w4 ⟨rfl, hh4⟩
        clear hdr hh3 c0
        by_cases he : (wrL newB S ps).2 = 0
        · have HE : Vlt (addE S J ps = 0 ∧ addS S J ps = (wrL (jname J.last) ((wrL newB S ps).1.drp newB) ps).1 ∧ addJ S J ps = { J with recs := J.recs ++ ps }) := vlt (by unfold addE addS addJ; rw [HL.out, hd, he]; exact ⟨rfl, rfl, rfl⟩)
          rw [he]
          generalize ((wrL newB S ps).1.drp newB) = S4 at *
          clear he hd HL
          have c5 := hh4.c5
          have hw := jwrite_any hM hh4 (jname J.last) (by omega) A ps k c hp HLen.out hn hbig (by omega)
          go_wp2_with fail
          refine (name_any J.last hl _).mono ?_
          rintro e w5 ⟨rfl, rfl⟩
          go_wp2_with fail
          refine hw.mono ?_
          rintro e w6 ⟨rfl, hh6⟩
          clear hw hh4 c5
          generalize hS6 : (wrL (jname J.last) S4 ps).1 = S6 at hh6 HE
          generalize (wrL (jname J.last) S4 ps).2 = q6
          have hh7 := hh6.drew hob hM
          clear hh6 hS6 S4
          have hprt7 := hh7.prt hM hp
          have hcl := clones_any w6.drew A ps k c hprt7 HLen.out (by omega) (fun p hp => by have := hbig p hp; omega)
          obtain ⟨O, G, h1, ⟨D, B, bn, bc, Q, m, z, vs, hat, hG⟩, h3, h4, h5, h6, h7⟩ := hh7
          obtain ⟨hvm, _, _⟩ := owns_size hat.own
          have hm : m ≤ 1073741824 := by rw [← hvm, hat.recs.1]; exact hrl
          have c4 := (row6 hat.row).1.2.2.2.2.1
          have hsl : (Tryd.prog.info? 31).map (·.size) = some 1 := by kernel_rfl
          go_upto_region 15 with fail
          refine c_start (S := (fun W' => W'.cell? ⟨j, 4, none⟩ = some (.slice Q m z))) 10 (by kernel_rfl) (c4) (fun hHeld => ?_)
          refine c_take (i := 0) (oi := ⟨(some 42), _, _, _, _, _⟩) (v := ?vq1_0) rfl (by decide) (by kernel_rfl) (by kernel_rfl) (by kernel_rfl) (fun _ _ _ h => h) (Or.inl ⟨by rfl, ?yq1_0⟩) hHeld ?_
          case yq1_0 => (intro W0 hSw; go_simp; try with_reducible rfl)
          try simp only [Act.put, List.setIfInBounds_toArray, List.set_cons_zero, List.set_cons_succ]
          refine c_take (i := 1) (oi := ⟨(some 43), _, _, _, _, _⟩) (v := ?vq1_1) rfl (by decide) (by kernel_rfl) (by kernel_rfl) (by kernel_rfl) (fun _ _ _ h => h) (Or.inl ⟨by rfl, ?yq1_1⟩) hHeld ?_
          case yq1_1 => (intro W0 hSw; go_simp; try with_reducible rfl)
          try simp only [Act.put, List.setIfInBounds_toArray, List.set_cons_zero, List.set_cons_succ]
          refine c_take (i := 2) (oi := ⟨(some 44), _, _, _, _, _⟩) (v := ?vq1_2) rfl (by decide) (by kernel_rfl) (by kernel_rfl) (by kernel_rfl) (fun _ _ _ h => h) (Or.inl ⟨by rfl, ?yq1_2⟩) hHeld ?_
          case yq1_2 => (intro W0 hSw; go_simp; try with_reducible rfl)
          try simp only [Act.put, List.setIfInBounds_toArray, List.set_cons_zero, List.set_cons_succ]
          refine c_take (i := 3) (oi := ⟨(some 45), _, _, _, _, _⟩) (v := ?vq1_3) rfl (by decide) (by kernel_rfl) (by kernel_rfl) (by kernel_rfl) (fun _ _ _ h => h) (Or.inl ⟨by rfl, ?yq1_3⟩) hHeld ?_
          case yq1_3 => (intro W0 hSw; go_simp; try with_reducible rfl)
          try simp only [Act.put, List.setIfInBounds_toArray, List.set_cons_zero, List.set_cons_succ]
          refine c_read (i := 4) (oi := ⟨(some 46), _, _, _, _, _⟩) (v := ?vq1_4) rfl (by decide) (by kernel_rfl) (by kernel_rfl) (by kernel_rfl) (by kernel_rfl) (by kernel_rfl) (fun _ _ _ h => h) (Or.inl ⟨by rfl, ?yq1_4⟩) hHeld ?_
          case yq1_4 => (intro W0 hSw; go_simp; try with_reducible rfl)
          try simp only [Act.put, List.setIfInBounds_toArray, List.set_cons_zero, List.set_cons_succ]
          refine c_take (i := 5) (oi := ⟨(some 47), _, _, _, _, _⟩) (v := ?vq1_5) rfl (by decide) (by kernel_rfl) (by kernel_rfl) (by kernel_rfl) (fun _ _ _ h => h) (Or.inl ⟨by rfl, ?yq1_5⟩) hHeld ?_
          case yq1_5 => (intro W0 hSw; go_simp; try with_reducible rfl)
          try simp only [Act.put, List.setIfInBounds_toArray, List.set_cons_zero, List.set_cons_succ]
          refine c_step (i := 6) (o := ⟨(some 48), _, _, _, _, _⟩) (by kernel_rfl) rfl (fun K hK => ?_)
          go_simp
          refine hcl.mono ?_
          rintro e w8 ⟨rfl, ⟨us, hus, hpl⟩, hb8⟩
          clear hcl
          have hof8 : Off (fun _ => False) w6.drew w8 := Off.of_below hb8 fun i a b => by omega
          have hat8 := hat.off hof8 (fun _ _ h => h)
          refine hK.out _ _ ((row6 hat8.row).1.2.2.2.2.1) (fun hHeld => ?_)
          clear hK K
          try simp only [Act.put, List.setIfInBounds_toArray, List.set_cons_zero, List.set_cons_succ]
          refine c_step (i := 7) (o := ⟨(some 49), _, _, _, _, _⟩) (by kernel_rfl) rfl (fun K hK => ?_)
          refine step_append_row w8 rfl (.tmp 46) (.tmp 48) 32 rfl 31 Tryd.underlying32 (.slice none 0 0) 1 24 Tryd.infoSlc rfl (by decide) (by decide) Q m z vs rfl hat8.own (some ⟨w6.drew.heap.size, 0, none⟩) k k rfl us (fun _ => ⟨_, rfl, fun i u hi => by rw [addr_add, Nat.zero_add, cell_of_row _ _ _ _ _ _ hus]; simpa using hi⟩) hpl.single (by rw [hpl.1, HLen.out, Nat.mul_one]) (by omega) ?_
          intro Q2 z2 w9 hown9 hgr9 hq9 _ _
          have hrow9 := grown_row hgr9 hat8.qne hat8.row
          refine hK.out _ _ ((row6 hrow9).1.2.2.2.2.1) (fun hHeld => ?_)
          clear hK K
          try simp only [Act.put, List.setIfInBounds_toArray, List.set_cons_zero, List.set_cons_succ]
          refine c_take (i := 8) (oi := ⟨(some 50), _, _, _, _, _⟩) (v := ?vq1_6) rfl (by decide) (by kernel_rfl) (by kernel_rfl) (by kernel_rfl) (fun _ _ _ h => h) (Or.inl ⟨by rfl, ?yq1_6⟩) hHeld ?_
          case yq1_6 => (intro W0 hSw; go_simp; try with_reducible rfl)
          try simp only [Act.put, List.setIfInBounds_toArray, List.set_cons_zero, List.set_cons_succ]
          refine c_take (i := 9) (oi := ⟨(some 51), _, _, _, _, _⟩) (v := ?vq1_7) rfl (by decide) (by kernel_rfl) (by kernel_rfl) (by kernel_rfl) (fun _ _ _ h => h) (Or.inl ⟨by rfl, ?yq1_7⟩) hHeld ?_
          case yq1_7 => (intro W0 hSw; go_simp; try with_reducible rfl)
          try simp only [Act.put, List.setIfInBounds_toArray, List.set_cons_zero, List.set_cons_succ]
          have hqlt := owns_lt hat.own
          have hof9 : Off (fun b => ∃ a, Q = some a ∧ b = a.block) w8 w9 := grown_off hgr9 fun a ha => ⟨a, ha, rfl⟩
          have hpl9 : PL w9 (fun i => w6.drew.heap.size < i ∧ i < w8.heap.size) us ps := (hpl.mono (fun i h1 h2 => ⟨h2, h1⟩)).off hof9 (fun b _ hb ⟨a, ha, e⟩ => by have := hqlt a ha; omega)
          have hat10 := hat8.push hpl9 hgr9 hown9 hq9 (fun i hi => ⟨hi.2, by have := hat.ltj; omega, fun a ha e => by have := hqlt a ha; omega⟩)
          have hoff10 : Off G w6.drew (w9.setCell ⟨j, 4, none⟩ (.slice Q2 (m + k) z2)) := ((hof8.mono (G := G) (fun _ _ h => h.elim)).trans hof9 (fun i ⟨a, ha, e⟩ => .inl ((hG i).2 (.inr (.inl ⟨a, ha, e⟩))))).set (.inl ((hG j).2 (.inl rfl))) _
          have hend : Hold w0 (w9.setCell ⟨j, 4, none⟩ (.slice Q2 (m + k) z2)) d (N + k + 1 + k) S6 (JnOb j d { J with recs := J.recs ++ ps }) M := Hold.rawG hM h1 h3 h4 h5 h6 h7 ⟨_, _, _, _, _, _, _, _, hat10, fun _ => Iff.rfl⟩ (push_own hG hq9 hb8.size) hoff10
          have hend2 := hend.more (show N + k + 1 + k ≤ N + 2 * k + 1 by omega)
          have c4b := (row6 hrow9).1.2.2.2.2.1
          have f4b := (row6 hrow9).2 4
          clear hend hoff10 hat10 hpl9 hof9 hqlt hrow9 hq9 hgr9 hown9 hpl hus hat8 hat h1 h3 h4 h5 h6 h7
          refine c_call (S' := (fun _ => True)) (o := ⟨none, _, _, _, _, _⟩) (by kernel_rfl) (by kernel_rfl) rfl (fun K hK => ?_)
          clear hHeld
          go_simp
          refine hK.out _ _ (trivial) (fun hHeld => ?_)
          clear hK K
          try simp only [Act.put]
          refine wpAnyH_done (by kernel_rfl) ?_ _
          clear hHeld
          go_wp2
          go_ret
          exact ⟨by rw [HE.out.1]; rfl, by rw [HE.out.2.1, HE.out.2.2]; exact hend2⟩
        · have HE : Vlt (addE S J ps = (wrL newB S ps).2 ∧ addS S J ps = (wrL newB S ps).1.drp newB ∧ addJ S J ps = { J with full := true }) := vlt (by unfold addE addS addJ; rw [HL.out, hd]; simp only [he, if_false]; exact ⟨rfl, rfl, rfl⟩)
          have hset := hh4.setRow hM { J with full := true } 2 (.bool true) ⟨rfl, rfl⟩ (fun A n c Q m k => rfl)
          have c2 := hh4.c2
          have f2 := hh4.fr 2
          have hset2 := hset.more (show N + k + 1 ≤ N + 2 * k + 1 by omega)
          generalize ((wrL newB S ps).1.drp newB) = S4 at *
          generalize (wrL newB S ps).2 = q at *
          clear hset hh4
          go_wp2
          go_ret
          exact ⟨by rw [HE.out.1]; rfl, by rw [HE.out.2.1, HE.out.2.2]; exact hset2⟩
end
end Go.Proofs.YtaklbgikoeedbaaDoor
namespace Go.Proofs.YtaklbgikoeedbaaDoor
open Go.RowKit

def drops : Nat → Dk → Dk
  | 0, S => S
  | k + 1, S => drops k (S.drp (jname (k + 1)))
def keepT (S : Dk) (J : Jv) (b : List UInt8) : Dk := drops J.last (((S.app newB (pt 2 b)).syn newB).ren newB (jname 0))
def keepE (S : Dk) (J : Jv) (b : List UInt8) : Int := if 65536 < b.length then 2 else if doneB S J then 7 else appE S newB (pt 2 b).length
def keepS (S : Dk) (J : Jv) (b : List UInt8) : Dk := if 65536 < b.length then S else if doneB S J then S else if appE S newB (pt 2 b).length = 0 then keepT S J b else S
def keepJ (S : Dk) (J : Jv) (b : List UInt8) : Jv := if 65536 < b.length then J else if doneB S J then J else if appE S newB (pt 2 b).length = 0 then { J with base := b, recs := [], last := 0 } else { J with full := true }
section
variable {w0 W W' : World} {j d N : Nat} {S : Dk} {J : Jv} {D G : Nat → Prop} {A Q : Option Addr} {n c m k : Nat} {vs : List Value}
theorem JnAt.afresh {A2 : Option Addr} {n2 c2 : Nat} {b : List UInt8} (h : JnAt W D j d A n c Q m k vs J) (hb : Below W.heap.size W W') (hr : Res W' W.heap.size 5 A2 n2 c2 b) :
    JnAt ((W'.setCell ⟨j, 3, none⟩ (.slice A2 n2 c2)).setCell ⟨j, 4, none⟩ (.slice none 0 0)) (fun i => W.heap.size ≤ i ∧ i < W'.heap.size) j d A2 n2 c2 none 0 0 [] { J with base := b, recs := [] } := by
  have hj := h.ltj
  have hrow : W'.heap[j]? = some (.cells (jrow d J.lives J.full A n c Q m k J.last).toArray 53 (0, 0)) := (hb.block j hj).trans h.row
  have hrow2 := (world_set_cell hrow 3 (.slice A2 n2 c2)).out
  have hrow3 := (world_set_cell hrow2 4 (.slice none 0 0)).out
  have hof1 : Off (fun b => b = j) W' ((W'.setCell ⟨j, 3, none⟩ (.slice A2 n2 c2)).setCell ⟨j, 4, none⟩ (.slice none 0 0)) := Off.set (F := fun b => b = j) (Off.set (F := fun b => b = j) (Off.refl _ _) (.inl rfl) _) (.inl rfl) _
  have hbase : BytF W' (fun i => W.heap.size ≤ i ∧ i < W'.heap.size) A2 b := (hr.inF (F := fun i => W.heap.size ≤ i) fun i h => h).mono fun i h1 h2 => ⟨h2, h1⟩
  exact ⟨hrow3, hbase.off hof1 fun i _ hi e => by omega, hr.len, hr.cap, World.ownsRow_nil _ _ _ _, PL.nil, fun hi => by omega, AtF.none_ _, fun i hi => Nat.lt_of_lt_of_le hi.2 hof1.size⟩
theorem Hold.afresh {K : World → (Nat → Prop) → Prop} (hK : Kp K) {A2 : Option Addr} {n2 c2 : Nat} {b : List UInt8} (h : Hold w0 W d N S (JnOb j d J) K) (hb : Below W.heap.size W W') (hr : Res W' W.heap.size 5 A2 n2 c2 b) :
    Hold w0 ((W'.setCell ⟨j, 3, none⟩ (.slice A2 n2 c2)).setCell ⟨j, 4, none⟩ (.slice none 0 0)) d N S (JnOb j d { J with base := b, recs := [] }) K :=
  h.callG hK fun G ⟨D, A, n, c, Q, m, k, vs, h1, h2⟩ => ⟨_, ⟨_, _, _, _, _, _, _, _, h1.afresh hb hr, fun _ => Iff.rfl⟩, fun i hi => by
    rcases hi with hi | ⟨a, ha, _⟩ | hi
    · exact .inl ((h2 i).2 (.inl hi))
    · cases ha
    · exact .inr hi.1, (Off.set (F := G) (Off.set (F := G) (Off.of_below hb fun i a b => by omega) (.inl ((h2 j).2 (.inl rfl))) _) (.inl ((h2 j).2 (.inl rfl))) _)⟩
theorem Hold.c3 {K : World → (Nat → Prop) → Prop} (h : Hold w0 W d N S (JnOb j d J) K) : ∃ A n c, W.cell? ⟨j, 3, none⟩ = some (.slice A n c) := by
  obtain ⟨G, hob⟩ := h.obj
  obtain ⟨A, n, c, Q, m, k, ⟨c0, c1, c2, c3, c4, c5⟩, _⟩ := hob.cells
  exact ⟨_, _, _, c3⟩
theorem Hold.c4 {K : World → (Nat → Prop) → Prop} (h : Hold w0 W d N S (JnOb j d J) K) : ∃ A n c, W.cell? ⟨j, 4, none⟩ = some (.slice A n c) := by
  obtain ⟨G, hob⟩ := h.obj
  obtain ⟨A, n, c, Q, m, k, ⟨c0, c1, c2, c3, c4, c5⟩, _⟩ := hob.cells
  exact ⟨_, _, _, c4⟩
theorem Hold.ltj {K : World → (Nat → Prop) → Prop} (h : Hold w0 W d N S (JnOb j d J) K) : j < W.heap.size := by
  obtain ⟨G, D, A, n, c, Q, m, k, vs, hat, _⟩ := h.obj
  exact hat.ltj
def lastOf (j : Nat) (w : World) : Nat := match w.cell? ⟨j, 5, none⟩ with | some v => (intOf v).toNat | none => 0
theorem lastOf_is {K : World → (Nat → Prop) → Prop} (h : Hold w0 W d N S (JnOb j d J) K) : lastOf j W = J.last := by unfold lastOf; rw [h.c5]; simp [intOf]

set_option maxRecDepth 100000 in
set_option maxHeartbeats 2000000 in
theorem jkeep_any {M : World → (Nat → Prop) → Prop} (hM : Kp M) (h : Hold w0 W d N S (JnOb j d J) M) (hl : J.last < 100) (A : Option Addr) (b : List UInt8) (n c : Nat) (hp : ∀ W F, M W F → BytF W F A b) (hlen : b.length = n) (hn : n ≤ 1073741824) (hN : N ≤ 536870912) :
    Calls Tryd.prog 14 #[.pointer (some ⟨j, 0, none⟩), .slice A n c] W fun e w' => e = .returned (.int .i64 (keepE S J b)) ∧ Hold w0 w' d (N + 200) (keepS S J b) (JnOb j d (keepJ S J b)) M := by
  have hob := jnOb j d J
  have HLen := Lib.hid hlen
  have hdn := jdone_any h
  by_cases hbg : 65536 < n
  · have HE : Vlt (keepE S J b = 2 ∧ keepS S J b = S ∧ keepJ S J b = J) := vlt (by unfold keepE keepS keepJ; rw [hlen, if_pos hbg, if_pos hbg, if_pos hbg]; exact ⟨rfl, rfl, rfl⟩)
    have hbg' : (65536 : Int) < (n : Int) := by omega
    clear hlen hdn
    go_enter Tryd.func14, Tryd.ntmps14
    go_wp2
    go_ret
    exact ⟨by rw [HE.out.1]; rfl, by rw [HE.out.2.1, HE.out.2.2]; exact h.more (by omega)⟩
  have hbg' : ¬ (65536 : Int) < (n : Int) := by omega
  have hnb : ¬ 65536 < b.length := by omega
  have hn0 := (jname_may 0 (by decide)).2.1
  have hns : newB.size ≤ 140737488355328 := by rw [new_may.2]; decide
  have hpl : (pt 2 b).length = 4 + n := by rw [pt_len, hlen]
  clear hlen
  cases hd : doneB S J with
  | true =>
    rw [hd] at hdn
    have HE : Vlt (keepE S J b = 7 ∧ keepS S J b = S ∧ keepJ S J b = J) := vlt (by unfold keepE keepS keepJ; rw [hd]; simp only [hnb, if_false]; exact ⟨rfl, rfl, rfl⟩)
    go_enter Tryd.func14, Tryd.ntmps14
    go_wp2_with fail
    refine hdn.mono ?_
    rintro e w2 ⟨rfl, i, rfl⟩
    clear hdn
    go_wp2
    go_ret
    exact ⟨by rw [HE.out.1]; rfl, by rw [HE.out.2.1, HE.out.2.2]; exact (h.drewN hob hM i).more (by omega)⟩
  | false =>
    rw [hd] at hdn
    go_enter Tryd.func14, Tryd.ntmps14
    go_wp2_with fail
    refine hdn.mono ?_
    rintro e w2 ⟨rfl, i, rfl⟩
    clear hdn
    have hh := (h.drewN hob hM i).drew hob hM
    have hbyt : Byt (W.drewN i).drew (W.drewN i).drew.heap.size A b := (hp _ _ (hh.data hM)).byt
    clear h
    go_upto_region 5 with fail
    refine wp_region_held_drew (S := (fun W' => W'.cell? ⟨j, 0, none⟩ = some (.pointer (some ⟨d, 0, none⟩)))) (by kernel_rfl) (hh.c0) (fun hHeld => ?_)
    refine wpAnyH_take (i := 0) (oi := ⟨(some 11), _, _, _, _, _⟩) (v := ?vq1_0) rfl (by kernel_rfl) (by kernel_rfl) (by kernel_rfl) (fun _ _ _ h => h) (Or.inl ⟨by rfl, ?yq1_0⟩) hHeld ?_
    case yq1_0 => (intro W0 hSw; go_simp; try with_reducible rfl)
    try simp only [Act.put, List.setIfInBounds_toArray, List.set_cons_zero, List.set_cons_succ]
    refine wpAnyH_take (i := 1) (oi := ⟨(some 12), _, _, _, _, _⟩) (v := ?vq1_1) rfl (by kernel_rfl) (by kernel_rfl) (by kernel_rfl) (fun _ _ _ h => h) (Or.inl ⟨by rfl, ?yq1_1⟩) hHeld ?_
    case yq1_1 => (intro W0 hSw; go_simp; try with_reducible rfl)
    try simp only [Act.put, List.setIfInBounds_toArray, List.set_cons_zero, List.set_cons_succ]
    refine wpAnyH_take (i := 2) (oi := ⟨(some 13), _, _, _, _, _⟩) (v := ?vq1_2) rfl (by kernel_rfl) (by kernel_rfl) (by kernel_rfl) (fun _ _ _ h => h) (Or.inl ⟨by rfl, ?yq1_2⟩) hHeld ?_
    case yq1_2 => (intro W0 hSw; go_simp; try with_reducible rfl)
    try simp only [Act.put, List.setIfInBounds_toArray, List.set_cons_zero, List.set_cons_succ]
    refine wpAnyH_take (i := 3) (oi := ⟨(some 14), _, _, _, _, _⟩) (v := ?vq1_3) rfl (by kernel_rfl) (by kernel_rfl) (by kernel_rfl) (fun _ _ _ h => h) (Or.inl ⟨by rfl, ?yq1_3⟩) hHeld ?_
    case yq1_3 => (intro W0 hSw; go_simp; try with_reducible rfl)
    try simp only [Act.put, List.setIfInBounds_toArray, List.set_cons_zero, List.set_cons_succ]
    refine wpAnyH_take (i := 4) (oi := ⟨(some 15), _, _, _, _, _⟩) (v := ?vq1_4) rfl (by kernel_rfl) (by kernel_rfl) (by kernel_rfl) (fun _ _ _ h => h) (Or.inl ⟨by rfl, ?yq1_4⟩) hHeld ?_
    case yq1_4 => (intro W0 hSw; go_simp; try with_reducible rfl)
    try simp only [Act.put, List.setIfInBounds_toArray, List.set_cons_zero, List.set_cons_succ]
    refine wpAnyH_ready (rs := [5]) (by kernel_rfl) (by simp) ?_
    refine AllReadyH.cons (i := 5) (o := ⟨(some 16), _, _, _, _, _⟩) rfl (fun K hK => ?_) AllReadyH.nil
    go_simp
    refine (part_any _ 2 A b n c hbyt HLen.out (by omega)).mono ?_
    rintro e w3 ⟨A3, c3, rfl, hr3, hb3⟩
    have hh3 := hh.fresh hob hM hb3 (kB A3 (pt 2 b)) (hr3.inF fun i h => h)
    have hap := hold_append hob (kAnd hM (kB A3 (pt 2 b))) hh3 newB hns A3 (pt 2 b) (4 + n) c3 (fun W F h => h.2) hpl (by omega) (by omega)
    clear hr3 hbyt hh hb3
    refine hK.out _ _ (hh3.c0) (fun hHeld => ?_)
    clear hK K
    try simp only [Act.put, List.setIfInBounds_toArray, List.set_cons_zero, List.set_cons_succ]
    refine wpAnyH_ready (rs := [6]) (by kernel_rfl) (by simp) ?_
    refine AllReadyH.cons (i := 6) (o := ⟨(some 17), _, _, _, _, _⟩) rfl (fun K hK => ?_) AllReadyH.nil
    go_simp
    refine hap.mono ?_
    rintro e w4 ⟨rfl, hh4⟩
    clear hap hHeld
    have hh5 := hh4.weak (K2 := M) (fun _ _ h => h.1)
    clear hh4
    refine hK.out _ _ (hh5.c0) (fun hHeld => ?_)
    clear hK K
    try simp only [Act.put, List.setIfInBounds_toArray, List.set_cons_zero, List.set_cons_succ]
    refine wpAnyH_take (i := 7) (oi := ⟨(some 5), _, _, _, _, _⟩) (v := ?vq1_5) rfl (by kernel_rfl) (by kernel_rfl) (by kernel_rfl) (fun _ _ _ h => h) (Or.inl ⟨by rfl, ?yq1_5⟩) hHeld ?_
    case yq1_5 => (intro W0 hSw; go_simp; try with_reducible rfl)
    try simp only [Act.put, List.setIfInBounds_toArray, List.set_cons_zero, List.set_cons_succ]
    refine wpAnyH_done (by kernel_rfl) ?_ _
    clear hHeld hh3
    by_cases he : appE S newB (4 + n) = 0
    · have HE : Vlt (keepE S J b = 0 ∧ keepS S J b = keepT S J b ∧ keepJ S J b = { J with base := b, recs := [], last := 0 }) := vlt (by unfold keepE keepS keepJ; rw [hd, hpl]; simp only [hnb, he, if_false, if_true]; exact ⟨rfl, rfl, rfl⟩)
      have HT : Vlt (keepT S J b = drops J.last (((S.app newB (pt 2 b)).syn newB).ren newB (jname 0))) := vlt rfl
      rw [he]
      clear he hd
      have c0 := hh5.c0
      go_wp2_with fail
      refine (hold_sync hob hM hh5 newB hns).mono ?_
      rintro e w5 ⟨rfl, hh6⟩
      generalize (S.app newB (pt 2 b)).syn newB = S5 at hh6 HT
      clear hh5 c0
      have hh7 := hh6.drew hob hM
      clear hh6
      go_upto_region 10 with fail
      refine wp_region_held_drew (S := (fun W' => W'.cell? ⟨j, 0, none⟩ = some (.pointer (some ⟨d, 0, none⟩)))) (by kernel_rfl) (hh7.c0) (fun hHeld => ?_)
      refine wpAnyH_take (i := 0) (oi := ⟨(some 29), _, _, _, _, _⟩) (v := ?vq2_0) rfl (by kernel_rfl) (by kernel_rfl) (by kernel_rfl) (fun _ _ _ h => h) (Or.inl ⟨by rfl, ?yq2_0⟩) hHeld ?_
      case yq2_0 => (intro W0 hSw; go_simp; try with_reducible rfl)
      try simp only [Act.put, List.setIfInBounds_toArray, List.set_cons_zero, List.set_cons_succ]
      refine wpAnyH_take (i := 1) (oi := ⟨(some 30), _, _, _, _, _⟩) (v := ?vq2_1) rfl (by kernel_rfl) (by kernel_rfl) (by kernel_rfl) (fun _ _ _ h => h) (Or.inl ⟨by rfl, ?yq2_1⟩) hHeld ?_
      case yq2_1 => (intro W0 hSw; go_simp; try with_reducible rfl)
      try simp only [Act.put, List.setIfInBounds_toArray, List.set_cons_zero, List.set_cons_succ]
      refine wpAnyH_take (i := 2) (oi := ⟨(some 31), _, _, _, _, _⟩) (v := ?vq2_2) rfl (by kernel_rfl) (by kernel_rfl) (by kernel_rfl) (fun _ _ _ h => h) (Or.inl ⟨by rfl, ?yq2_2⟩) hHeld ?_
      case yq2_2 => (intro W0 hSw; go_simp; try with_reducible rfl)
      try simp only [Act.put, List.setIfInBounds_toArray, List.set_cons_zero, List.set_cons_succ]
      refine wpAnyH_take (i := 3) (oi := ⟨(some 32), _, _, _, _, _⟩) (v := ?vq2_3) rfl (by kernel_rfl) (by kernel_rfl) (by kernel_rfl) (fun _ _ _ h => h) (Or.inl ⟨by rfl, ?yq2_3⟩) hHeld ?_
      case yq2_3 => (intro W0 hSw; go_simp; try with_reducible rfl)
      try simp only [Act.put, List.setIfInBounds_toArray, List.set_cons_zero, List.set_cons_succ]
      refine wpAnyH_ready (rs := [4]) (by kernel_rfl) (by simp) ?_
      refine AllReadyH.cons (i := 4) (o := ⟨(some 33), _, _, _, _, _⟩) rfl (fun K hK => ?_) AllReadyH.nil
      go_simp
      refine (name_any 0 (by decide) _).mono ?_
      rintro e w6 ⟨rfl, rfl⟩
      refine hK.out _ _ (hh7.c0) (fun hHeld => ?_)
      clear hK K
      try simp only [Act.put, List.setIfInBounds_toArray, List.set_cons_zero, List.set_cons_succ]
      refine wpAnyH_ready (rs := [5]) (by kernel_rfl) (by simp) ?_
      refine AllReadyH.cons (i := 5) (o := ⟨(some 34), _, _, _, _, _⟩) rfl (fun K hK => ?_) AllReadyH.nil
      go_simp
      refine (hold_ren hob hM hh7 newB (jname 0) hns (by omega) (by omega)).mono ?_
      rintro e w7 ⟨rfl, hh8⟩
      clear hHeld hh7
      refine hK.out _ _ (hh8.c0) (fun hHeld => ?_)
      clear hK K
      try simp only [Act.put, List.setIfInBounds_toArray, List.set_cons_zero, List.set_cons_succ]
      refine wpAnyH_done (by kernel_rfl) ?_ _
      clear hHeld
      generalize S5.ren newB (jname 0) = S6 at hh8 HT
      obtain ⟨L, hL⟩ : ∃ L, L = J.last := ⟨_, rfl⟩
      have hh8' : Hold w0 w7 d (N + 3) S6 (JnOb j d { J with last := L }) M := by rw [hL]; exact hh8
      rw [← hL] at HT hl
      clear hh8 hL
      go_wp2_with fail
      go_loopw [] (fun wr => ∃ (k : Nat) (S7 : Dk), k ≤ L ∧ Vlt (drops L S6 = drops k S7) ∧ Hold w0 wr d (N + 3 + (L - k)) S7 (JnOb j d { J with last := k }) M) (fun wr => lastOf j wr)
      case atStart => exact ⟨L, S6, Nat.le_refl _, vlt rfl, by rw [Nat.sub_self]; exact hh8'⟩
      case round =>
        obtain ⟨k, S7, hk, hdr, hh9⟩ := hrel
        have c0 := hh9.c0
        have c5 := hh9.c5
        have f5 := hh9.fr 5
        cases k with
        | zero =>
          have hbyt := (hp _ _ (hh9.data hM)).byt
          have hcl := bclone_any wr A b n c hbyt HLen.out (by omega)
          have HF : Vlt (keepT S J b = S7) := vlt (by rw [HT.out, hdr.out]; rfl)
          have c3 := hh9.c3
          have c4 := hh9.c4
          go_wp2_with fail
          refine hcl.mono ?_
          rintro e w8 ⟨A2, c2, rfl, hr2, hb2⟩
          clear hcl hbyt
          have hend := (hh9.afresh hM hb2 hr2).more (show N + 3 + (L - 0) ≤ N + 200 by omega)
          obtain ⟨A0, n0, c0', hc3⟩ := c3
          obtain ⟨Q0, m0, k0, hc4⟩ := c4
          have hj := hh9.ltj
          have d3 : w8.cell? ⟨j, 3, none⟩ = some (.slice A0 n0 c0') := (hb2.cell (p := ⟨j, 3, none⟩) hj).trans hc3
          have d4 : w8.cell? ⟨j, 4, none⟩ = some (.slice Q0 m0 k0) := (hb2.cell (p := ⟨j, 4, none⟩) hj).trans hc4
          have hh10 := hh9.next (jnOb _ _ _) hM hb2
          have f3 := hh10.fr 3
          have f4 := hh10.fr 4
          clear hc3 hc4 c0 c5 f5 hh9 hh10 hb2 hr2
          go_wp2
          go_ret
          exact ⟨by rw [HE.out.1]; rfl, by rw [HE.out.2.1, HE.out.2.2, HF.out]; exact hend⟩
        | succ k =>
          have hd2 : Vlt (drops L S6 = drops k (S7.drp (jname (k + 1)))) := vlt (by rw [hdr.out]; rfl)
          have hnk := (jname_may (k + 1) (by omega)).2.1
          have hcc : ((k + 1 : Nat) : Int) - 1 = (k : Int) := by omega
          have hh9d := hh9.drew (jnOb _ _ _) hM
          have hm2 := lastOf_is hh9
          clear hdr hh9
          go_upto_region 13 with fail
          refine wp_region_held_drew (S := (fun W' => W'.cell? ⟨j, 0, none⟩ = some (.pointer (some ⟨d, 0, none⟩)) ∧ W'.cell? ⟨j, 5, none⟩ = some (.int .i64 ((k + 1 : Nat) : Int)))) (by kernel_rfl) (⟨c0,c5⟩) (fun hHeld => ?_)
          refine wpAnyH_take (i := 0) (oi := ⟨(some 47), _, _, _, _, _⟩) (v := ?vq3_0) rfl (by kernel_rfl) (by kernel_rfl) (by kernel_rfl) (fun _ _ _ h => h) (Or.inl ⟨by rfl, ?yq3_0⟩) hHeld ?_
          case yq3_0 => (intro W0 hSw; go_simp; try with_reducible rfl)
          try simp only [Act.put, List.setIfInBounds_toArray, List.set_cons_zero, List.set_cons_succ]
          refine wpAnyH_take (i := 1) (oi := ⟨(some 48), _, _, _, _, _⟩) (v := ?vq3_1) rfl (by kernel_rfl) (by kernel_rfl) (by kernel_rfl) (fun _ _ _ h => h) (Or.inl ⟨by rfl, ?yq3_1⟩) hHeld ?_
          case yq3_1 => (intro W0 hSw; go_simp; try with_reducible rfl)
          try simp only [Act.put, List.setIfInBounds_toArray, List.set_cons_zero, List.set_cons_succ]
          refine wpAnyH_take (i := 2) (oi := ⟨(some 49), _, _, _, _, _⟩) (v := ?vq3_2) rfl (by kernel_rfl) (by kernel_rfl) (by kernel_rfl) (fun _ _ _ h => h) (Or.inl ⟨by rfl, ?yq3_2⟩) hHeld ?_
          case yq3_2 => (intro W0 hSw; go_simp; try with_reducible rfl)
          try simp only [Act.put, List.setIfInBounds_toArray, List.set_cons_zero, List.set_cons_succ]
          refine wpAnyH_take (i := 3) (oi := ⟨(some 50), _, _, _, _, _⟩) (v := ?vq3_3) rfl (by kernel_rfl) (by kernel_rfl) (by kernel_rfl) (fun _ _ _ h => h) (Or.inl ⟨by rfl, ?yq3_3⟩) hHeld ?_
          case yq3_3 => (intro W0 hSw; go_simp; try with_reducible rfl)
          try simp only [Act.put, List.setIfInBounds_toArray, List.set_cons_zero, List.set_cons_succ]
          refine wpAnyH_take (i := 4) (oi := ⟨(some 51), _, _, _, _, _⟩) (v := ?vq3_4) rfl (by kernel_rfl) (by kernel_rfl) (by kernel_rfl) (fun _ _ _ h => h) (Or.inl ⟨by rfl, ?yq3_4⟩) hHeld ?_
          case yq3_4 => (intro W0 hSw; go_simp; try with_reducible rfl)
          try simp only [Act.put, List.setIfInBounds_toArray, List.set_cons_zero, List.set_cons_succ]
          refine wpAnyH_take (i := 5) (oi := ⟨(some 52), _, _, _, _, _⟩) (v := ?vq3_5) rfl (by kernel_rfl) (by kernel_rfl) (by kernel_rfl) (fun _ _ _ h => h) (Or.inl ⟨by rfl, ?yq3_5⟩) hHeld ?_
          case yq3_5 => (intro W0 hSw; go_simp; try with_reducible rfl)
          try simp only [Act.put, List.setIfInBounds_toArray, List.set_cons_zero, List.set_cons_succ]
          refine wpAnyH_take (i := 6) (oi := ⟨(some 53), _, _, _, _, _⟩) (v := ?vq3_6) rfl (by kernel_rfl) (by kernel_rfl) (by kernel_rfl) (fun _ _ _ h => h) (Or.inl ⟨by rfl, ?yq3_6⟩) hHeld ?_
          case yq3_6 => (intro W0 hSw; go_simp; try with_reducible rfl)
          try simp only [Act.put, List.setIfInBounds_toArray, List.set_cons_zero, List.set_cons_succ]
          refine wpAnyH_take (i := 7) (oi := ⟨(some 54), _, _, _, _, _⟩) (v := ?vq3_7) rfl (by kernel_rfl) (by kernel_rfl) (by kernel_rfl) (fun _ _ _ h => h) (Or.inl ⟨by rfl, ?yq3_7⟩) hHeld ?_
          case yq3_7 => (intro W0 hSw; go_simp; try with_reducible rfl)
          try simp only [Act.put, List.setIfInBounds_toArray, List.set_cons_zero, List.set_cons_succ]
          refine wpAnyH_ready (rs := [8]) (by kernel_rfl) (by simp) ?_
          refine AllReadyH.cons (i := 8) (o := ⟨(some 55), _, _, _, _, _⟩) rfl (fun K hK => ?_) AllReadyH.nil
          go_simp
          refine (name_any (k + 1) (by omega) _).mono ?_
          rintro e w8 ⟨rfl, rfl⟩
          refine hK.out _ _ (⟨c0, c5⟩) (fun hHeld => ?_)
          clear hK K
          try simp only [Act.put, List.setIfInBounds_toArray, List.set_cons_zero, List.set_cons_succ]
          refine wpAnyH_ready (rs := [9]) (by kernel_rfl) (by simp) ?_
          refine AllReadyH.cons (i := 9) (o := ⟨(some 56), _, _, _, _, _⟩) rfl (fun K hK => ?_) AllReadyH.nil
          go_simp
          refine (hold_drop (jnOb _ _ _) hM hh9d (jname (k + 1)) (by omega)).mono ?_
          rintro e w9 ⟨rfl, hh10⟩
          clear hHeld
          refine hK.out _ _ (⟨hh10.c0, hh10.c5⟩) (fun hHeld => ?_)
          clear hK K
          try simp only [Act.put, List.setIfInBounds_toArray, List.set_cons_zero, List.set_cons_succ]
          refine wpAnyH_done (by kernel_rfl) ?_ _
          clear hHeld hh9d c0 c5 f5
          have hset := (hh10.setRow hM { J with last := k } 5 (.int .i64 (k : Int)) ⟨rfl, rfl⟩ (fun A n c Q m k => rfl))
          have c5 := hh10.c5
          have f5 := hh10.fr 5
          have hm1 := lastOf_is hset
          have hset2 := hset.more (show N + 3 + (L - (k + 1)) + 1 ≤ N + 3 + (L - k) by omega)
          clear hh10 hset
          go_wp2
          exact ⟨⟨k, _, by omega, hd2, hset2⟩, by rw [hm1, hm2]; exact Nat.lt_succ_self k⟩
    · have HE : Vlt (keepE S J b = appE S newB (4 + n) ∧ keepS S J b = S ∧ keepJ S J b = { J with full := true }) := vlt (by unfold keepE keepS keepJ; rw [hd, hpl]; simp only [hnb, he, if_false]; exact ⟨rfl, rfl, rfl⟩)
      have hSame : S.app newB (pt 2 b) = S := by unfold Dk.app; rw [hpl, if_neg he]
      rw [hSame] at hh5
      have hset := (hh5.setRow hM { J with full := true } 2 (.bool true) ⟨rfl, rfl⟩ (fun A n c Q m k => rfl)).more (show N + 1 ≤ N + 200 by omega)
      have c2 := hh5.c2
      have f2 := hh5.fr 2
      generalize appE S newB (4 + n) = v at *
      clear hh5 hSame hd
      go_wp2
      go_ret
      exact ⟨by rw [HE.out.1]; rfl, by rw [HE.out.2.1, HE.out.2.2]; exact hset⟩
end
end Go.Proofs.YtaklbgikoeedbaaDoor
