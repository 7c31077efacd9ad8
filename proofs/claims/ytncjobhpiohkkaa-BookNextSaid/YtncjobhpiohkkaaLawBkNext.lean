/-
  Law BookNext. Conditions: none.
-/
import Derived.Test.YtncjobhpiohkkaaPkE
import Derived.Test.YtncjobhpiohkkaaPkF
import Derived.Test.YtncjobhpiohkkaaPkA
namespace Go.Proofs.Ytncjobhpiohkkaa
open Go.RowKit

def keyB (k : Nat) : ByteArray := ⟨#[UInt8.ofNat (97 + k)]⟩
def cB : ByteArray := ⟨#[99]⟩
theorem key_good : ∀ k, k < 4 → nm (keyB k) = true := by decide +kernel
theorem key_apart : ∀ k, k < 4 → ∀ j, j < 4 → keyB k = keyB j → k = j := by decide +kernel
theorem cB_good : nm cB = true := by decide +kernel
structure NxS (L : List Ed) (d i : Nat) (la : List ByteArray) (ha : List Bool) : Prop where
  one : OneDev L d i
  l4 : la.length = 4
  h4 : ha.length = 4
  all : ∀ k, k < 4 → ball L cB (keyB k) = if ha[k]?.getD false = true then [la[k]?.getD ⟨#[]⟩] else []
theorem NxS.nil (d : Nat) : NxS [] d 0 [⟨#[]⟩, ⟨#[]⟩, ⟨#[]⟩, ⟨#[]⟩] [false, false, false, false] := ⟨OneDev.nil d, rfl, rfl, fun k hk => by
  match k, hk with
  | 0, _ => rfl
  | 1, _ => rfl
  | 2, _ => rfl
  | 3, _ => rfl⟩
theorem NxS.good {L : List Ed} {d i : Nat} {la : List ByteArray} {ha : List Bool} (h : NxS L d i la ha) (hd : d < 8) (hi : i < 500) {f : Nat} (hf : f < 4) {x : ByteArray} (hx : x.size ≤ 200) {e : Ed} (he : e = ⟨(d : Int), (i : Int) + 1, bvec L, 1, cB, keyB f, x, (i : Int)⟩) : e.good = true := by
  have hu := bvec_upto h.one.book
  have hl := hu.len
  subst he
  rw [Ed.good, Bool.and_eq_true, Bool.and_eq_true, Bool.and_eq_true]
  refine ⟨⟨⟨?_, ?_⟩, cB_good⟩, ?_⟩
  · show nxt (d : Int) ((i : Int) + 1) (bvec L) = true
    rw [nxt, Bool.and_eq_true, Bool.and_eq_true, decide_eq_true_iff, decide_eq_true_iff]
    refine ⟨⟨⟨by omega, by omega, by omega, by omega⟩, ?_⟩, ?_⟩
    · rw [vgood, decide_eq_true_iff]
      intro y hy
      obtain ⟨k, hk, rfl⟩ := List.mem_iff_getElem.1 hy
      have ht := Upto.top (i := L.length) (v := bvec L) (by rw [List.take_length]; exact hu) h.one.book k (by omega)
      rwa [iat, List.getD_eq_getElem?_getD, List.getElem?_eq_getElem hk] at ht
    · rw [Int.toNat_natCast, h.one.upto]; omega
  · rw [decide_eq_true_iff]; exact ⟨by simp, by show (i : Int) ≤ _; omega⟩
  · show tsays 1 (keyB f) x = true
    rw [tsays, if_pos rfl, key_good f hf, decide_eq_true hx]; rfl
theorem NxS.step {L : List Ed} {d i : Nat} {la : List ByteArray} {ha : List Bool} (h : NxS L d i la ha) (hd : d < 8) (hi : i < 500) {f : Nat} (hf : f < 4) {x : ByteArray} (hx : x.size ≤ 200) {e : Ed} (he : e = ⟨(d : Int), (i : Int) + 1, bvec L, 1, cB, keyB f, x, (i : Int)⟩) :
    (badd L e).2 = 0 ∧ NxS (badd L e).1 d (i + 1) (la.set f x) (ha.set f true) := by
  have hg := h.good hd hi hf hx he
  have hs := h.one.step (e := e) hd hi hg (by rw [he]) (by rw [he]) (by rw [he]) (by rw [he])
  refine ⟨hs.1, hs.2.1, by simp [h.l4], by simp [h.h4], fun k hk => ?_⟩
  by_cases hkf : f = k
  · subst hkf
    have h1 := hs.2.2.1
    rw [show e.con = cB by rw [he], show e.fld = keyB f by rw [he], show e.val = x by rw [he]] at h1
    rw [h1]
    simp [h.l4, h.h4, hf]
  · have h1 := hs.2.2.2 cB (keyB k) (by rw [he]; rintro ⟨_, h2⟩; exact hkf (key_apart f hf k hk h2))
    rw [h1, h.all k hk, List.getElem?_set_ne hkf, List.getElem?_set_ne hkf]
theorem and3 : ∀ y : Nat, y < 256 → bits BinOp.and IntKind.u8 (y : Int) 3 = ((y % 4 : Nat) : Int) := by decide +kernel
theorem wrap97 : ∀ f : Nat, f < 4 → IntKind.u8.wrap (97 + (f : Int)) = (97 + (f : Int)) := by decide +kernel
theorem wrap8 : ∀ f : Nat, f < 4 → IntKind.u8.wrap (f : Int) = (f : Int) := by decide +kernel
theorem built_ednx8 (d n s0 s1 s2 s3 s4 s5 s6 s7 tm : Int) (c f v : ByteArray) :
    Try.prog.built 32 [(0, .agg [.int .i64 d, .int .i64 n].toArray), (1, .agg (i64v [s0, s1, s2, s3, s4, s5, s6, s7]).toArray), (2, .int .i64 1), (3, .string c), (4, .string f), (5, .string v), (6, .int .i64 tm)] = some (Ed.mk d n [s0, s1, s2, s3, s4, s5, s6, s7] 1 c f v tm).cells.toArray := by kernel_rfl
theorem built_ednx (d n : Int) (s : List Int) (hs : s.length = 8) (c f v : ByteArray) (tm : Int) :
    Try.prog.built 32 [(0, .agg [.int .i64 d, .int .i64 n].toArray), (1, .agg (i64v s).toArray), (2, .int .i64 1), (3, .string c), (4, .string f), (5, .string v), (6, .int .i64 tm)] = some (Ed.mk d n s 1 c f v tm).cells.toArray := by
  match s, hs with
  | [s0, s1, s2, s3, s4, s5, s6, s7], _ => exact built_ednx8 d n s0 s1 s2 s3 s4 s5 s6 s7 tm c f v
theorem key_conv {w : World} {g f : Nat} (hf : f < 4) (h : Hid (w.heap[g]? = some (.cells #[.int .u8 (97 + (f : Int))] 5 (0, 0)))) : (convert 54 9 (.slice (some ⟨g, 0, none⟩) 1 1)).run Try.prog w = .ok (.string (keyB f)) w := by
  have hB : Byt w w.heap.size (some ⟨g, 0, none⟩) [UInt8.ofNat (97 + f)] := .inr ⟨g, 0, rfl, row_size h, fun j b hj => by
    match j, hj with
    | 0, hj =>
      simp only [List.getElem?_cons_zero, Option.some.injEq] at hj
      subst hj
      rw [cell_of_row _ _ _ _ _ _ h.out]
      have : (UInt8.ofNat (97 + f)).toNat = 97 + f := by simp; omega
      rw [this]; simp⟩
  exact conv_bytes (P := Try.prog) Try.underlying54 Try.underlying5 Try.underlying9 hB 1 1 rfl
theorem cell_str {w : World} {g : Nat} {la : List ByteArray} {T : TypeId} (h : Hid (w.heap[g]? = some (.cells (la.map Value.string).toArray T (0, 0)))) (k : Nat) (hk : k < la.length) : w.cell? ⟨g, k, none⟩ = some (.string (la[k]?.getD ⟨#[]⟩)) := by
  rw [cell_of_row _ _ _ _ _ _ h.out]
  simp [hk]
theorem cell_bol {w : World} {g : Nat} {ha : List Bool} {T : TypeId} (h : Hid (w.heap[g]? = some (.cells (ha.map Value.bool).toArray T (0, 0)))) (k : Nat) (hk : k < ha.length) : w.cell? ⟨g, k, none⟩ = some (.bool (ha[k]?.getD false)) := by
  rw [cell_of_row _ _ _ _ _ _ h.out]
  simp [hk]
set_option maxRecDepth 100000 in
set_option maxHeartbeats 8000000 in
theorem walk_BookNext (w : World) (A1 : Option Addr) (l : List UInt8) (n c : Nat) (b1 : Byt w w.heap.size A1 l) (e1 : l.length = n) (_ : n ≤ c) (A2 : Option Addr) (ss : List ByteArray) (m c2 : Nat) (b2 : Txt w w.heap.size A2 ss) (e2 : ss.length = m) (_ : m ≤ c2) (_ : ∀ s ∈ ss, s.size ≤ maxLen) (d : Int) (_ : (Lit.int .i64 d).wf = true) :
    Calls Try.prog 8 #[.slice A1 n c, .slice A2 m c2, .int .i64 d] w fun x w' => x = .returned (.bool true) ∧ Below w.heap.size w w' := by
  have HN := Lib.hid e1
  have HM := Lib.hid e2
  clear e1 e2
  have DA := vlt (awake_any w)
  go_enter Try.func8, Try.ntmps8
  go_upto_region 3 with (go_at_call 9; refine DA.out.mono ?_; rintro e v0 ⟨rfl, hv0⟩; clear DA)
  by_cases h30 : n ≤ 30
  case neg =>
    have h1 : (30 : Int) < (n : Int) := by omega
    go_wp2
    go_ret
    exact ⟨rfl, hv0⟩
  have h1 : ¬ (30 : Int) < (n : Int) := by omega
  by_cases hmn : (m : Int) < (n : Int)
  · go_wp2
    go_ret
    exact ⟨rfl, hv0⟩
  by_cases hd0 : d < 0
  · go_wp2
    go_ret
    exact ⟨rfl, hv0⟩
  by_cases hd7 : (7 : Int) < d
  · go_wp2
    go_ret
    exact ⟨rfl, hv0⟩
  go_upto_region 5 with fail
  obtain ⟨dn, rfl⟩ := Int.eq_ofNat_of_zero_le (show 0 ≤ d by omega)
  have hd8 : dn < 8 := by omega
  have D1 := vlt (new_any v0)
  go_upto_region 6 with (go_at_call 10; refine D1.out.mono ?_; rintro e w1 ⟨b, rfl, hN1, hb1⟩; clear D1)
  go_upto_region 8 with fail
  obtain ⟨W, hW, hgL, hgH, hbW, hsW⟩ := pair_new w1 #[.string ⟨#[]⟩, .string ⟨#[]⟩, .string ⟨#[]⟩, .string ⟨#[]⟩] #[.bool false, .bool false, .bool false, .bool false] 55 56
  rw [hW]
  have hv1 := below_next hv0 hv0.size hb1
  have hvW := below_next hv1 hv1.size hbW
  have hsz := hsW.out
  have hv1s := hv1.size
  obtain ⟨F, hF⟩ : ∃ F : Nat → Prop, F = fun i => w.heap.size ≤ i ∧ i ≠ w1.heap.size ∧ i ≠ w1.heap.size + 1 := ⟨_, rfl⟩
  have HFn : ∀ i, w1.heap.size + 1 < i → F i := by rw [hF]; intro i hi; exact ⟨by omega, by omega, by omega⟩
  have HFl : ¬ F w1.heap.size := by rw [hF]; intro h; exact h.2.1 rfl
  have HFh : ¬ F (w1.heap.size + 1) := by rw [hF]; intro h; exact h.2.2 rfl
  have HFb : ∀ i, F i → w.heap.size ≤ i := by rw [hF]; intro i h; exact h.1
  have hS0 : BkF W F b [] := by
    rw [hF]
    exact (hN1.mono (G := fun i => w.heap.size ≤ i ∧ i ≠ w1.heap.size ∧ i ≠ w1.heap.size + 1) (fun i h1 h2 => ⟨Nat.le_trans hv0.size h2, by omega, by omega⟩)).next hbW
  clear h1 hW hN1 hb1 hv0 hF hd0 hd7
  go_wp2
  go_loopg [10] n (fun k s wr => ∃ (i : Nat) (L : List Ed) (la : List ByteArray) (ha : List Bool), s = .int .i64 i ∧ n - i < k + 1 ∧ i ≤ n ∧ Vlt (NxS L dn i la ha) ∧ Vlt (BkF wr F b L) ∧ Hid (wr.heap[w1.heap.size]? = some (.cells (la.map Value.string).toArray 55 (0, 0))) ∧ Hid (wr.heap[w1.heap.size + 1]? = some (.cells (ha.map Value.bool).toArray 56 (0, 0))) ∧ Below w.heap.size w wr)
  case atStart => exact ⟨0, [], _, _, rfl, by omega, Nat.zero_le _, vlt (NxS.nil dn), vlt hS0, hgL, hgH, hvW⟩
  case round =>
    obtain ⟨i, L, la, ha, rfl, hk, hin, HX, H1, hgl, hgh, hbt⟩ := hrel
    have hls := row_size hgl
    have hhs := row_size hgh
    have hl4 := HX.out.l4
    have hh4 := HX.out.h4
    by_cases hlt : i < n
    · have hltz : (i : Int) < (n : Int) := by omega
      have hmz : (i : Int) < (m : Int) := by omega
      obtain ⟨g2, o2, x, rfl, hg2, hx2, HSX⟩ := b2.at_ (k := i) (by rw [HM.out]; omega)
      obtain ⟨g, o, y, rfl, hg, hy256, hy, HY⟩ := b1.at_ (k := i) (by rw [HN.out]; omega)
      have hcx : ∀ w', Below w.heap.size w w' → w'.cell? ⟨g2, o2 + i, none⟩ = some (.string x) := fun w' hb => (hb.cell hg2).trans hx2
      have hcy : ∀ w', Below w.heap.size w w' → w'.cell? ⟨g, o + i, none⟩ = some (.int .u8 (y : Int)) := fun w' hb => (hb.cell hg).trans hy
      have cc1 := hcx _ hbt
      by_cases h200 : (200 : Int) < (x.size : Int)
      · go_wp2
        go_ret
        exact ⟨rfl, hbt⟩
      · have hx200 : x.size ≤ 200 := by omega
        go_upto_region 13 with fail
        obtain ⟨v, hv⟩ : ∃ v, v = bvec L := ⟨_, rfl⟩
        have D1 := next_any H1.out (dn : Int) v (by omega) hv
        have hup : iat v dn = (i : Int) := by rw [hv]; exact HX.out.one.upto
        rw [Int.toNat_natCast, hup] at D1
        have V1 := vlt D1
        have hvl8 : Hid (v.length = 8) := Lib.hid (by rw [hv]; exact bvec_len HX.out.one.book)
        have HV := vlt hv
        have hsz8 : Hid ((i64v v).toArray.size = 8) := Lib.hid (by rw [List.size_toArray, i64v_len, hvl8.out])
        clear D1 hup hv
        go_upto_region 14 with (first | (go_at_call 12; refine V1.out.mono ?_; rintro e w7 ⟨rfl, hb7⟩; clear V1) | ((with_reducible refine wpList_store_row rfl 30 (.tmp 12) (.tmp 56) rfl (w7.heap.size + 1) (i64v v).toArray rfl rfl 30 _ (heap_alloc2_new _ _ _) (by rw [hsz8.out]; kernel_rfl) (by rw [hsz8.out]; kernel_rfl) (all_oneCell_toArray (i64v_one _)) ?_)))
        have hsr : ((w7.alloc (.cells #[.int .i64 (dn : Int), .int .i64 ((i : Int) + 1)] 28)).alloc (.cells #[.int .i64 0, .int .i64 0, .int .i64 0, .int .i64 0, .int .i64 0, .int .i64 0, .int .i64 0, .int .i64 0] 30)).setRow (w7.heap.size + 1) (i64v v).toArray = (w7.alloc (.cells #[.int .i64 (dn : Int), .int .i64 ((i : Int) + 1)] 28)).alloc (.cells (i64v v).toArray 30) := by
          have h := World.setRow_alloc_new (w7.alloc (.cells #[.int .i64 (dn : Int), .int .i64 ((i : Int) + 1)] 28)) #[.int .i64 0, .int .i64 0, .int .i64 0, .int .i64 0, .int .i64 0, .int .i64 0, .int .i64 0, .int .i64 0] (i64v v).toArray 30
          simpa using h
        rw [hsr]
        obtain ⟨U, hU, hgD, hgV, hbU, hsU⟩ := pair_new w7 #[.int .i64 (dn : Int), .int .i64 ((i : Int) + 1)] (i64v v).toArray 28 30
        rw [hU]
        have hb7' := below_next hbt hbt.size hb7
        have hbU' := below_next hb7' hb7'.size hbU
        have cc2 := hcy _ hbU'
        clear hU hsr
        go_upto_region 15 with fail
        obtain ⟨f, hf4, hfb⟩ : ∃ f : Nat, f < 4 ∧ bits BinOp.and IntKind.u8 (y : Int) 3 = (f : Int) := ⟨y % 4, Nat.mod_lt _ (by omega), and3 y hy256⟩
        rw [hfb]
        have hfz : (f : Int) < 4 := by omega
        have hadd8 : IntKind.u8.wrap (97 + (f : Int)) = (97 + (f : Int)) := wrap97 f hf4
        have hsU2a : U.heap.size ≤ w7.heap.size + 2 := by have := hsU.out; omega
        have hsU2b : w7.heap.size + 2 ≤ U.heap.size := by have := hsU.out; omega
        have hs7 := hb7.size
        obtain ⟨F2, hF2⟩ : ∃ F2 : Nat → Prop, F2 = fun i => (F i ∧ i < w7.heap.size) ∨ U.heap.size < i := ⟨_, rfl⟩
        have HF2n : ∀ i, U.heap.size < i → F2 i := by rw [hF2]; exact fun i hi => .inr hi
        have HF2c : ¬ F2 U.heap.size := by rw [hF2]; rintro (h | h) <;> omega
        have hnD : ¬ F2 w7.heap.size := by rw [hF2]; rintro (h | h) <;> omega
        have hnV : ¬ F2 (w7.heap.size + 1) := by rw [hF2]; rintro (h | h) <;> omega
        have HF2l : ¬ F2 w1.heap.size := by rw [hF2]; rintro (h | h); exact HFl h.1; omega
        have HF2h : ¬ F2 (w1.heap.size + 1) := by rw [hF2]; rintro (h | h); exact HFh h.1; omega
        have HF2b : ∀ i, F2 i → w.heap.size ≤ i := by rw [hF2]; rintro i (h | h); exact HFb i h.1; omega
        have HF2F : ∀ i, F2 i → F i := by rw [hF2]; rintro i (h | h); exact h.1; exact HFn i (by omega)
        have HBk : Vlt (BkF U F2 b L) := vlt ((((H1.out.next hb7).mono (G := F2) (fun i h1 h2 => by rw [hF2]; exact .inl ⟨h2, h1⟩))).next hbU)
        have hwg : w.heap.size ≤ w7.heap.size := hb7'.size
        have hcx2 : ∀ W', Off F2 U W' → W'.cell? ⟨g2, o2 + i, none⟩ = some (.string x) := fun W' h => (h.cell (p := ⟨g2, o2 + i, none⟩) (show g2 < U.heap.size by omega) (fun h2 => by have := HF2b _ h2; simp at this; omega)).trans (hcx _ hbU')
        obtain ⟨e, he⟩ : ∃ e : Ed, e = ⟨(dn : Int), (i : Int) + 1, v, 1, cB, keyB f, x, (i : Int)⟩ := ⟨_, rfl⟩
        have hb2 := Lib.hid (built_ednx (dn : Int) ((i : Int) + 1) v hvl8.out cB (keyB f) x (i : Int))
        rw [← he] at hb2
        have HE8 : Hid (e.seen.length = 8) := Lib.hid (by rw [he]; exact hvl8.out)
        obtain ⟨M, r, hbd⟩ : ∃ M r, badd L e = (M, r) := ⟨_, _, rfl⟩
        have hstep := HX.out.step hd8 (by omega) hf4 hx200 (e := e) (by rw [he, HV.out])
        rw [hbd] at hstep
        obtain ⟨hr0, hNX⟩ := hstep
        have hr0 : r = 0 := hr0
        subst hr0
        have HNX : Vlt (NxS M dn (i + 1) (la.set f x) (ha.set f true)) := vlt hNX
        have HBD := vlt hbd
        clear hNX hbd he hF2 hfb
        refine wp_region_held_drew (S := fun W' => Off F2 U W') (by kernel_rfl) ((Off.refl _ _).drew) (fun hHeld => ?_)
        refine wpAnyH_take (i := 0) (oi := ⟨(some 62), _, _, _, _, _⟩) (v := .pointer (some ⟨b, 0, none⟩)) rfl (by kernel_rfl) (by kernel_rfl) (by kernel_rfl) (fun _ _ _ h => h) (Or.inl ⟨by rfl, ?yr15_0⟩) hHeld ?_
        case yr15_0 => (intro W0 hSw; go_simp; try with_reducible rfl)
        try simp only [pu]
        refine wpAnyH_take (i := 1) (oi := ⟨(some 63), _, _, _, _, _⟩) (v := .agg [.int .i64 (dn : Int), .int .i64 ((i : Int) + 1)].toArray) rfl (by kernel_rfl) (by kernel_rfl) (by kernel_rfl) (fun _ _ _ h => h) (yieldsIf_load_mid (by rfl) _ _ rfl (w7.heap.size) 0 rfl [.int .i64 (dn : Int), .int .i64 ((i : Int) + 1)] _ (fun W' hW' => range_row (row_off hgD hW' hnD).out) (Try.underlying28) rfl (by kernel_rfl)) hHeld ?_
        try simp only [pu]
        refine wpAnyH_take (i := 2) (oi := ⟨(some 64), _, _, _, _, _⟩) (v := .agg (i64v v).toArray) rfl (by kernel_rfl) (by kernel_rfl) (by kernel_rfl) (fun _ _ _ h => h) (yieldsIf_load_mid (by rfl) _ _ rfl ((w7.heap.size + 1)) 0 rfl (i64v v) _ (fun W' hW' => range_row (row_off hgV hW' hnV).out) (Try.underlying30) rfl (by rw [i64v_len, hvl8.out]; kernel_rfl)) hHeld ?_
        try simp only [pu]
        refine wpAnyH_take (i := 3) (oi := ⟨(some 65), _, _, _, _, _⟩) (v := .int .u8 (f : Int)) rfl (by kernel_rfl) (by kernel_rfl) (by kernel_rfl) (fun _ _ _ h => h) (Or.inl ⟨by rfl, ?yr15_3⟩) hHeld ?_
        case yr15_3 => (intro W0 hSw; go_simp; try with_reducible rfl)
        try simp only [pu]
        refine wpAnyH_take (i := 4) (oi := ⟨(some 66), _, _, _, _, _⟩) (v := .int .u8 (97 + (f : Int))) rfl (by kernel_rfl) (by kernel_rfl) (by kernel_rfl) (fun _ _ _ h => h) (Or.inl ⟨by rfl, ?yr15_4⟩) hHeld ?_
        case yr15_4 => (intro W0 hSw; go_simp; try with_reducible rfl)
        try simp only [pu]
        refine wpAnyH_take (i := 7) (oi := ⟨(some 69), _, _, _, _, _⟩) (v := .slice (some ⟨g2, o2, none⟩) m c2) rfl (by kernel_rfl) (by kernel_rfl) (by kernel_rfl) (fun _ _ _ h => h) (Or.inl ⟨by rfl, ?yr15_7⟩) hHeld ?_
        case yr15_7 => (intro W0 hSw; go_simp; try with_reducible rfl)
        try simp only [pu]
        refine wpAnyH_take (i := 8) (oi := ⟨(some 70), _, _, _, _, _⟩) (v := .int .i64 (i : Int)) rfl (by kernel_rfl) (by kernel_rfl) (by kernel_rfl) (fun _ _ _ h => h) (Or.inl ⟨by rfl, ?yr15_8⟩) hHeld ?_
        case yr15_8 => (intro W0 hSw; go_simp; try with_reducible rfl)
        try simp only [pu]
        refine wpAnyH_take (i := 9) (oi := ⟨(some 71), _, _, _, _, _⟩) (v := .pointer (some ⟨g2, o2 + i, none⟩)) rfl (by kernel_rfl) (by kernel_rfl) (by kernel_rfl) (fun _ _ _ h => h) (Or.inl ⟨by rfl, ?yr15_9⟩) hHeld ?_
        case yr15_9 => (intro W0 hSw; go_simp; try with_reducible rfl)
        try simp only [pu]
        refine wpAnyH_take (i := 10) (oi := ⟨(some 72), _, _, _, _, _⟩) (v := .string x) rfl (by kernel_rfl) (by kernel_rfl) (by kernel_rfl) (fun _ _ _ h => h) (Or.inl ⟨by rfl, ?yr15_10⟩) hHeld ?_
        case yr15_10 => (intro W0 hSw; have cc := hcx2 _ hSw; go_simp; try with_reducible rfl)
        try simp only [pu]
        refine wpAnyH_take (i := 11) (oi := ⟨(some 73), _, _, _, _, _⟩) (v := .int .i64 (i : Int)) rfl (by kernel_rfl) (by kernel_rfl) (by kernel_rfl) (fun _ _ _ h => h) (Or.inl ⟨by rfl, ?yr15_11⟩) hHeld ?_
        case yr15_11 => (intro W0 hSw; go_simp; try with_reducible rfl)
        try simp only [pu]
        refine wpAnyH_ready (rs := [5]) (by kernel_rfl) (by simp) ?_
        refine AllReadyH.cons (i := 5) (o := ⟨(some 67), _, _, _, _, _⟩) rfl (fun K hK => ?_) AllReadyH.nil
        go_simp
        refine hK.out _ _ (hHeld.alloc _) (fun hHeld => ?_)
        clear hK K
        try simp only [pu]
        obtain ⟨U2, hU2⟩ : ∃ U2, (U.alloc (.cells #[.int .u8 (97 + (f : Int))] 5)).drew = U2 := ⟨_, rfl⟩
        rw [hU2] at hHeld ⊢
        have hgB : Hid (U2.heap[U.heap.size]? = some (.cells #[.int .u8 (97 + (f : Int))] 5 (0, 0))) := by rw [← hU2]; exact heap_alloc_new U _
        have hbU2 : Below U.heap.size U U2 := by rw [← hU2]; exact ((Below.refl U.heap.size U).alloc (Nat.le_refl _) _).drew
        have hOU2 := hHeld
        have HB2 := vlt (HBk.out.next hbU2)
        have hUs := hbU2.size
        have hlB := row_size hgB
        clear hU2
        have hconv := fun W' (h : Off F2 U2 W') => key_conv hf4 (row_off hgB h HF2c)
        refine held_more (S' := fun W' => Off F2 U2 W') (fun W h => hOU2.trans h (fun i h => .inl h)) _ _ _ _ ?_
        clear hHeld
        have hHeld := Off.refl F2 U2
        refine wpAnyH_take (i := 6) (oi := ⟨(some 68), _, _, _, _, _⟩) (v := .string (keyB f)) rfl (by kernel_rfl) (by kernel_rfl) (by kernel_rfl) (fun _ _ _ h => h) (Or.inl ⟨by rfl, ?yr15_6⟩) hHeld ?_
        case yr15_6 => (intro W0 hSw; go_simp; try simp only [hconv _ hSw]; try with_reducible rfl)
        try simp only [pu]
        refine wpAnyH_take (i := 12) (oi := ⟨(some 74), _, _, _, _, _⟩) (v := .agg e.cells.toArray) rfl (by kernel_rfl) (by kernel_rfl) (by kernel_rfl) (fun _ _ _ h => h) (yields_build (by rfl) _ _ rfl [(0, .agg [.int .i64 (dn : Int), .int .i64 ((i : Int) + 1)].toArray), (1, .agg (i64v v).toArray), (2, .int .i64 1), (3, .string ⟨#[99]⟩), (4, .string (keyB f)), (5, .string x), (6, .int .i64 (i : Int))] (by rfl) _ hb2.out) hHeld ?_
        try simp only [pu]
        refine wpAnyH_ready (rs := [13]) (by kernel_rfl) (by simp) ?_
        refine AllReadyH.cons (i := 13) (o := ⟨(some 75), _, _, _, _, _⟩) rfl (fun K hK => ?_) AllReadyH.nil
        go_simp
        refine (add_fence HB2.out e HE8.out (fun i hi => HF2n i (by omega)) HBD.out).mono ?_
        rintro e r15W1 ⟨rfl, hS6, r15h1⟩
        refine hK.out _ _ (hHeld.trans r15h1 (fun i h => .inl h)) (fun hHeld => ?_)
        clear hK K r15h1
        try simp only [pu]
        refine wpAnyH_take (i := 14) (oi := ⟨(some 76), _, _, _, _, _⟩) (v := .bool false) rfl (by kernel_rfl) (by kernel_rfl) (by kernel_rfl) (fun _ _ _ h => h) (Or.inl ⟨by rfl, ?yr15_14⟩) hHeld ?_
        case yr15_14 => (intro W0 hSw; go_simp; try with_reducible rfl)
        try simp only [pu]
        refine wpAnyH_done (by kernel_rfl) ?_ _
        have hO6 := hOU2.trans hHeld (fun i h => .inl h)
        have hb6 := hO6.below hbU' HF2b hbU'.size
        have hglU := row_next2 hgl (below_next hb7 hb7.size hbU)
        have hghU := row_next2 hgh (below_next hb7 hb7.size hbU)
        have hgl6 := row_off hglU hO6 HF2l
        have hgh6 := row_off hghU hO6 HF2h
        have hS6F := vlt (hS6.mono fun i _ h => HF2F i h)
        obtain ⟨w6, hw6⟩ : ∃ w6, w6 = r15W1 := ⟨_, rfl⟩
        subst hw6
        have cc3 := hcx _ hb6
        have c1 := cell_str hgl6 f (by omega)
        have f1 := frozen_of_row _ _ f _ _ hgl6.out
        have hbt1 := (But.refl w1.heap.size w6).set (i := f) (.string x)
        have hgh7 := row_but hgh6 hbt1 (by omega)
        have c3 := cell_bol hgh7 f (by omega)
        have f3 := frozen_of_row _ _ f _ _ hgh7.out
        have hset1 := world_set_cell hgl6.out f (.string x)
        have hset2 := world_set_cell hgh7.out f (.bool true)
        have hbt2 := (But.refl (w1.heap.size + 1) (w6.setCell ⟨w1.heap.size, f, none⟩ (.string x))).set (i := f) (.bool true)
        have hset3 := row_but hset1 hbt2 (by omega)
        rw [← List.map_set] at hset3 hset2
        have hS8 := vlt ((hS6F.out.off (Off.of_but (F := fun i => i = w1.heap.size) hbt1 rfl) (fun i _ h1 h2 => HFl (h2 ▸ h1))).off (Off.of_but (F := fun i => i = w1.heap.size + 1) hbt2 rfl) (fun i _ h1 h2 => HFh (h2 ▸ h1)))
        have hb8 := But.below (But.below hb6 hbt1 hv1s hb6.size) hbt2 (by omega) (by have := hb6.size; have := hbt1.size; omega)
        clear hHeld hO6 hS6
        go_wp2
        go_roundg (n - (i + 1))
        case measure => omega
        case rel => exact ⟨i + 1, M, la.set f x, ha.set f true, by go_num, by omega, by omega, HNX, hS8, hset3, hset2, hb8⟩
    · have hltz : ¬ (i : Int) < (n : Int) := by omega
      go_upto_region 18 with fail
      have hi : i = n := by omega
      subst hi
      have hLn := HX.out.one.len
      clear hlt hltz hk hin
      obtain ⟨wl, hwl⟩ : ∃ wl, wl = wr := ⟨_, rfl⟩
      subst hwl
      go_wp2
      go_loopg [14] 4 (fun k s wr => ∃ (j : Nat), s = .int .i64 j ∧ 4 - j < k + 1 ∧ j ≤ 4 ∧ Below wl.heap.size wl wr)
      case atStart => exact ⟨0, rfl, by omega, by omega, Below.refl _ _⟩
      case round =>
        obtain ⟨j, rfl, hk, hj4, hbk⟩ := hrel
        have hbk' := below_next hbt hbt.size hbk
        by_cases hlt : j < 4
        · have hltz : (j : Int) < 4 := by omega
          have hwr8 : IntKind.u8.wrap (j : Int) = (j : Int) := wrap8 j hlt
          have hadd8 : IntKind.u8.wrap (97 + (j : Int)) = (97 + (j : Int)) := wrap97 j hlt
          have hba := (Below.refl wr.heap.size wr).alloc (Nat.le_refl _) (.cells #[.int .u8 (97 + (j : Int))] 5)
          have hcv := key_conv hlt (show Hid ((wr.alloc (.cells #[.int .u8 (97 + (j : Int))] 5)).heap[wr.heap.size]? = _) from Lib.hid (heap_alloc_new wr _))
          have hall := HX.out.all j hlt
          obtain ⟨hq, hhq⟩ : ∃ hq, ha[j]?.getD false = hq := ⟨_, rfl⟩
          obtain ⟨lq, hlq⟩ : ∃ lq, la[j]?.getD ⟨#[]⟩ = lq := ⟨_, rfl⟩
          rw [hhq, hlq] at hall
          have D1 := all_any ((H1.out.next hbk).next hba) cB (keyB j)
          have HHQ := Lib.hid hhq
          have HLQ := Lib.hid hlq
          cases hq with
          | true =>
            rw [if_pos rfl] at hall
            rw [hall] at D1
            have V1 := vlt D1
            clear D1 hall
            go_upto_region 22 with (go_at_call 25; refine V1.out.mono ?_; rintro e' w9 ⟨A9, c9, rfl, hr9, hb9⟩; clear V1)
            have hb29 := below_next hba hba.size hb9
            have hb39 := below_next hbk hbk.size hb29
            have hgl9 := row_next2 hgl hb39
            have hgh9 := row_next2 hgh hb39
            have hch : ∀ W', Below w9.heap.size w9 W' → W'.cell? ⟨w1.heap.size + 1, j, none⟩ = some (.bool true) := fun W' h => by rw [cell_bol (row_next2 hgh9 h) j (by omega), HHQ.out]
            have hcl : ∀ W', Below w9.heap.size w9 W' → W'.cell? ⟨w1.heap.size, j, none⟩ = some (.string lq) := fun W' h => by rw [cell_str (row_next2 hgl9 h) j (by omega), HLQ.out]
            obtain ⟨G9, s9, rfl, hrow9⟩ := hr9.at_ (by simp)
            go_upto_region 22 with fail
            refine wp_region_held_drew (S := fun W' => Below w9.heap.size w9 W') (by kernel_rfl) ((Below.refl _ _).drew) (fun hHeld => ?_)
            refine wpAnyH_take (i := 0) (oi := ⟨(some 96), _, _, _, _, _⟩) (v := .int .i64 (j : Int)) rfl (by kernel_rfl) (by kernel_rfl) (by kernel_rfl) (fun _ _ _ h => h) (Or.inl ⟨by rfl, ?yr22_0⟩) hHeld ?_
            case yr22_0 => (intro W0 hSw; go_simp; try with_reducible rfl)
            try simp only [pu]
            refine wpAnyH_take (i := 1) (oi := ⟨(some 97), _, _, _, _, _⟩) (v := .pointer (some ⟨w1.heap.size + 1, j, none⟩)) rfl (by kernel_rfl) (by kernel_rfl) (by kernel_rfl) (fun _ _ _ h => h) (Or.inl ⟨by rfl, ?yr22_1⟩) hHeld ?_
            case yr22_1 => (intro W0 hSw; go_simp; try with_reducible rfl)
            try simp only [pu]
            refine wpAnyH_take (i := 2) (oi := ⟨(some 98), _, _, _, _, _⟩) (v := .bool true) rfl (by kernel_rfl) (by kernel_rfl) (by kernel_rfl) (fun _ _ _ h => h) (Or.inl ⟨by rfl, ?yr22_2⟩) hHeld ?_
            case yr22_2 => (intro W0 hSw; have cc := hch _ hSw; go_simp; try with_reducible rfl)
            try simp only [pu]
            refine wpAnyH_take (i := 3) (oi := ⟨(some 99), _, _, _, _, _⟩) (v := .bool true) rfl (by kernel_rfl) (by kernel_rfl) (by kernel_rfl) (fun _ _ _ h => h) (Or.inl ⟨by rfl, ?yr22_3⟩) hHeld ?_
            case yr22_3 => (intro W0 hSw; go_simp; try with_reducible rfl)
            try simp only [pu]
            refine wpAnyH_take (i := 4) (oi := ⟨(some 100), _, _, _, _, _⟩) (v := .slice (some ⟨G9, 0, none⟩) 1 c9) rfl (by kernel_rfl) (by kernel_rfl) (by kernel_rfl) (fun _ _ _ h => h) (Or.inl ⟨by rfl, ?yr22_4⟩) hHeld ?_
            case yr22_4 => (intro W0 hSw; go_simp; try with_reducible rfl)
            try simp only [pu]
            refine wpAnyH_take (i := 5) (oi := ⟨(some 101), _, _, _, _, _⟩) (v := .int .i64 1) rfl (by kernel_rfl) (by kernel_rfl) (by kernel_rfl) (fun _ _ _ h => h) (Or.inl ⟨by rfl, ?yr22_5⟩) hHeld ?_
            case yr22_5 => (intro W0 hSw; go_simp; try with_reducible rfl)
            try simp only [pu]
            refine wpAnyH_take (i := 6) (oi := ⟨(some 102), _, _, _, _, _⟩) (v := .bool false) rfl (by kernel_rfl) (by kernel_rfl) (by kernel_rfl) (fun _ _ _ h => h) (Or.inl ⟨by rfl, ?yr22_6⟩) hHeld ?_
            case yr22_6 => (intro W0 hSw; go_simp; try with_reducible rfl)
            try simp only [pu]
            refine wpAnyH_take (i := 7) (oi := ⟨(some 103), _, _, _, _, _⟩) (v := .bool false) rfl (by kernel_rfl) (by kernel_rfl) (by kernel_rfl) (fun _ _ _ h => h) (Or.inl ⟨by rfl, ?yr22_7⟩) hHeld ?_
            case yr22_7 => (intro W0 hSw; go_simp; try with_reducible rfl)
            try simp only [pu]
            refine wpAnyH_take (i := 8) (oi := ⟨(some 104), _, _, _, _, _⟩) (v := .slice (some ⟨G9, 0, none⟩) 1 c9) rfl (by kernel_rfl) (by kernel_rfl) (by kernel_rfl) (fun _ _ _ h => h) (Or.inl ⟨by rfl, ?yr22_8⟩) hHeld ?_
            case yr22_8 => (intro W0 hSw; go_simp; try with_reducible rfl)
            try simp only [pu]
            refine wpAnyH_take (i := 9) (oi := ⟨(some 105), _, _, _, _, _⟩) (v := .pointer (some ⟨G9, 0, none⟩)) rfl (by kernel_rfl) (by kernel_rfl) (by kernel_rfl) (fun _ _ _ h => h) (Or.inl ⟨by rfl, ?yr22_9⟩) hHeld ?_
            case yr22_9 => (intro W0 hSw; go_simp; try with_reducible rfl)
            try simp only [pu]
            refine wpAnyH_take (i := 10) (oi := ⟨(some 106), _, _, _, _, _⟩) (v := .string lq) rfl (by kernel_rfl) (by kernel_rfl) (by kernel_rfl) (fun _ _ _ h => h) (Or.inl ⟨by rfl, ?yr22_10⟩) hHeld ?_
            case yr22_10 => (intro W0 hSw; have cc := text_at (row_next2 hrow9 hSw) (show [lq][0]? = some lq from rfl); go_simp; try with_reducible rfl)
            try simp only [pu]
            refine wpAnyH_take (i := 11) (oi := ⟨(some 107), _, _, _, _, _⟩) (v := .int .i64 (j : Int)) rfl (by kernel_rfl) (by kernel_rfl) (by kernel_rfl) (fun _ _ _ h => h) (Or.inl ⟨by rfl, ?yr22_11⟩) hHeld ?_
            case yr22_11 => (intro W0 hSw; go_simp; try with_reducible rfl)
            try simp only [pu]
            refine wpAnyH_take (i := 12) (oi := ⟨(some 108), _, _, _, _, _⟩) (v := .pointer (some ⟨w1.heap.size, j, none⟩)) rfl (by kernel_rfl) (by kernel_rfl) (by kernel_rfl) (fun _ _ _ h => h) (Or.inl ⟨by rfl, ?yr22_12⟩) hHeld ?_
            case yr22_12 => (intro W0 hSw; go_simp; try with_reducible rfl)
            try simp only [pu]
            refine wpAnyH_take (i := 13) (oi := ⟨(some 109), _, _, _, _, _⟩) (v := .string lq) rfl (by kernel_rfl) (by kernel_rfl) (by kernel_rfl) (fun _ _ _ h => h) (Or.inl ⟨by rfl, ?yr22_13⟩) hHeld ?_
            case yr22_13 => (intro W0 hSw; have cc := hcl _ hSw; go_simp; try with_reducible rfl)
            try simp only [pu]
            refine wpAnyH_take (i := 14) (oi := ⟨(some 110), _, _, _, _, _⟩) (v := .bool false) rfl (by kernel_rfl) (by kernel_rfl) (by kernel_rfl) (fun _ _ _ h => h) (Or.inl ⟨by rfl, ?yr22_14⟩) hHeld ?_
            case yr22_14 => (intro W0 hSw; go_simp; first | done | (simp; done))
            try simp only [pu]
            refine wpAnyH_take (i := 15) (oi := ⟨(some 111), _, _, _, _, _⟩) (v := .bool false) rfl (by kernel_rfl) (by kernel_rfl) (by kernel_rfl) (fun _ _ _ h => h) (Or.inl ⟨by rfl, ?yr22_15⟩) hHeld ?_
            case yr22_15 => (intro W0 hSw; go_simp; try with_reducible rfl)
            try simp only [pu]
            refine wpAnyH_take (i := 16) (oi := ⟨(some 112), _, _, _, _, _⟩) (v := .bool false) rfl (by kernel_rfl) (by kernel_rfl) (by kernel_rfl) (fun _ _ _ h => h) (Or.inl ⟨by rfl, ?yr22_16⟩) hHeld ?_
            case yr22_16 => (intro W0 hSw; go_simp; try with_reducible rfl)
            try simp only [pu]
            refine wpAnyH_take (i := 17) (oi := ⟨(some 113), _, _, _, _, _⟩) (v := .bool false) rfl (by kernel_rfl) (by kernel_rfl) (by kernel_rfl) (fun _ _ _ h => h) (Or.inl ⟨by rfl, ?yr22_17⟩) hHeld ?_
            case yr22_17 => (intro W0 hSw; go_simp; try with_reducible rfl)
            try simp only [pu]
            refine wpAnyH_take (i := 18) (oi := ⟨(some 114), _, _, _, _, _⟩) (v := .int .i64 (j : Int)) rfl (by kernel_rfl) (by kernel_rfl) (by kernel_rfl) (fun _ _ _ h => h) (Or.inl ⟨by rfl, ?yr22_18⟩) hHeld ?_
            case yr22_18 => (intro W0 hSw; go_simp; try with_reducible rfl)
            try simp only [pu]
            refine wpAnyH_take (i := 19) (oi := ⟨(some 115), _, _, _, _, _⟩) (v := .pointer (some ⟨w1.heap.size + 1, j, none⟩)) rfl (by kernel_rfl) (by kernel_rfl) (by kernel_rfl) (fun _ _ _ h => h) (Or.inl ⟨by rfl, ?yr22_19⟩) hHeld ?_
            case yr22_19 => (intro W0 hSw; go_simp; try with_reducible rfl)
            try simp only [pu]
            refine wpAnyH_take (i := 20) (oi := ⟨(some 116), _, _, _, _, _⟩) (v := .bool true) rfl (by kernel_rfl) (by kernel_rfl) (by kernel_rfl) (fun _ _ _ h => h) (Or.inl ⟨by rfl, ?yr22_20⟩) hHeld ?_
            case yr22_20 => (intro W0 hSw; have cc := hch _ hSw; go_simp; try with_reducible rfl)
            try simp only [pu]
            refine wpAnyH_take (i := 21) (oi := ⟨(some 117), _, _, _, _, _⟩) (v := .bool false) rfl (by kernel_rfl) (by kernel_rfl) (by kernel_rfl) (fun _ _ _ h => h) (Or.inl ⟨by rfl, ?yr22_21⟩) hHeld ?_
            case yr22_21 => (intro W0 hSw; go_simp; try with_reducible rfl)
            try simp only [pu]
            refine wpAnyH_take (i := 22) (oi := ⟨(some 118), _, _, _, _, _⟩) (v := .bool false) rfl (by kernel_rfl) (by kernel_rfl) (by kernel_rfl) (fun _ _ _ h => h) (Or.inl ⟨by rfl, ?yr22_22⟩) hHeld ?_
            case yr22_22 => (intro W0 hSw; go_simp; try with_reducible rfl)
            try simp only [pu]
            refine wpAnyH_take (i := 23) (oi := ⟨(some 119), _, _, _, _, _⟩) (v := undef) rfl (by kernel_rfl) (by kernel_rfl) (by kernel_rfl) (fun _ _ _ h => h) (Or.inr ⟨by rfl, rfl⟩) hHeld ?_
            try simp only [pu]
            refine wpAnyH_take (i := 24) (oi := ⟨(some 120), _, _, _, _, _⟩) (v := undef) rfl (by kernel_rfl) (by kernel_rfl) (by kernel_rfl) (fun _ _ _ h => h) (Or.inr ⟨by rfl, rfl⟩) hHeld ?_
            try simp only [pu]
            refine wpAnyH_take (i := 25) (oi := ⟨(some 121), _, _, _, _, _⟩) (v := undef) rfl (by kernel_rfl) (by kernel_rfl) (by kernel_rfl) (fun _ _ _ h => h) (Or.inr ⟨by rfl, rfl⟩) hHeld ?_
            try simp only [pu]
            refine wpAnyH_take (i := 26) (oi := ⟨(some 122), _, _, _, _, _⟩) (v := .bool false) rfl (by kernel_rfl) (by kernel_rfl) (by kernel_rfl) (fun _ _ _ h => h) (Or.inl ⟨by rfl, ?yr22_26⟩) hHeld ?_
            case yr22_26 => (intro W0 hSw; go_simp; try with_reducible rfl)
            try simp only [pu]
            refine wpAnyH_take (i := 27) (oi := ⟨(some 123), _, _, _, _, _⟩) (v := .bool false) rfl (by kernel_rfl) (by kernel_rfl) (by kernel_rfl) (fun _ _ _ h => h) (Or.inl ⟨by rfl, ?yr22_27⟩) hHeld ?_
            case yr22_27 => (intro W0 hSw; go_simp; try with_reducible rfl)
            try simp only [pu]
            refine wpAnyH_done (by kernel_rfl) ?_ _
            have hb49 := below_next hb39 hb39.size hHeld
            go_wp2
            go_roundg (4 - (j + 1))
            case measure => omega
            case rel => exact ⟨j + 1, by go_num, by omega, by omega, hb49⟩
          | false =>
            rw [if_neg (by decide)] at hall
            rw [hall] at D1
            have V1 := vlt D1
            clear D1 hall
            go_upto_region 22 with (go_at_call 25; refine V1.out.mono ?_; rintro e' w9 ⟨A9, c9, rfl, hr9, hb9⟩; clear V1)
            have hb29 := below_next hba hba.size hb9
            have hb39 := below_next hbk hbk.size hb29
            have hgl9 := row_next2 hgl hb39
            have hgh9 := row_next2 hgh hb39
            have hch : ∀ W', Below w9.heap.size w9 W' → W'.cell? ⟨w1.heap.size + 1, j, none⟩ = some (.bool false) := fun W' h => by rw [cell_bol (row_next2 hgh9 h) j (by omega), HHQ.out]
            have hcl : ∀ W', Below w9.heap.size w9 W' → W'.cell? ⟨w1.heap.size, j, none⟩ = some (.string lq) := fun W' h => by rw [cell_str (row_next2 hgl9 h) j (by omega), HLQ.out]
            go_upto_region 22 with fail
            refine wp_region_held_drew (S := fun W' => Below w9.heap.size w9 W') (by kernel_rfl) ((Below.refl _ _).drew) (fun hHeld => ?_)
            refine wpAnyH_take (i := 0) (oi := ⟨(some 96), _, _, _, _, _⟩) (v := .int .i64 (j : Int)) rfl (by kernel_rfl) (by kernel_rfl) (by kernel_rfl) (fun _ _ _ h => h) (Or.inl ⟨by rfl, ?yr22_0⟩) hHeld ?_
            case yr22_0 => (intro W0 hSw; go_simp; try with_reducible rfl)
            try simp only [pu]
            refine wpAnyH_take (i := 1) (oi := ⟨(some 97), _, _, _, _, _⟩) (v := .pointer (some ⟨w1.heap.size + 1, j, none⟩)) rfl (by kernel_rfl) (by kernel_rfl) (by kernel_rfl) (fun _ _ _ h => h) (Or.inl ⟨by rfl, ?yr22_1⟩) hHeld ?_
            case yr22_1 => (intro W0 hSw; go_simp; try with_reducible rfl)
            try simp only [pu]
            refine wpAnyH_take (i := 2) (oi := ⟨(some 98), _, _, _, _, _⟩) (v := .bool false) rfl (by kernel_rfl) (by kernel_rfl) (by kernel_rfl) (fun _ _ _ h => h) (Or.inl ⟨by rfl, ?yr22_2⟩) hHeld ?_
            case yr22_2 => (intro W0 hSw; have cc := hch _ hSw; go_simp; try with_reducible rfl)
            try simp only [pu]
            refine wpAnyH_take (i := 3) (oi := ⟨(some 99), _, _, _, _, _⟩) (v := .bool false) rfl (by kernel_rfl) (by kernel_rfl) (by kernel_rfl) (fun _ _ _ h => h) (Or.inl ⟨by rfl, ?yr22_3⟩) hHeld ?_
            case yr22_3 => (intro W0 hSw; go_simp; try with_reducible rfl)
            try simp only [pu]
            refine wpAnyH_take (i := 4) (oi := ⟨(some 100), _, _, _, _, _⟩) (v := undef) rfl (by kernel_rfl) (by kernel_rfl) (by kernel_rfl) (fun _ _ _ h => h) (Or.inr ⟨by rfl, rfl⟩) hHeld ?_
            try simp only [pu]
            refine wpAnyH_take (i := 5) (oi := ⟨(some 101), _, _, _, _, _⟩) (v := undef) rfl (by kernel_rfl) (by kernel_rfl) (by kernel_rfl) (fun _ _ _ h => h) (Or.inr ⟨by rfl, rfl⟩) hHeld ?_
            try simp only [pu]
            refine wpAnyH_take (i := 6) (oi := ⟨(some 102), _, _, _, _, _⟩) (v := undef) rfl (by kernel_rfl) (by kernel_rfl) (by kernel_rfl) (fun _ _ _ h => h) (Or.inr ⟨by rfl, rfl⟩) hHeld ?_
            try simp only [pu]
            refine wpAnyH_take (i := 7) (oi := ⟨(some 103), _, _, _, _, _⟩) (v := undef) rfl (by kernel_rfl) (by kernel_rfl) (by kernel_rfl) (fun _ _ _ h => h) (Or.inr ⟨by rfl, rfl⟩) hHeld ?_
            try simp only [pu]
            refine wpAnyH_take (i := 8) (oi := ⟨(some 104), _, _, _, _, _⟩) (v := undef) rfl (by kernel_rfl) (by kernel_rfl) (by kernel_rfl) (fun _ _ _ h => h) (Or.inr ⟨by rfl, rfl⟩) hHeld ?_
            try simp only [pu]
            refine wpAnyH_take (i := 9) (oi := ⟨(some 105), _, _, _, _, _⟩) (v := undef) rfl (by kernel_rfl) (by kernel_rfl) (by kernel_rfl) (fun _ _ _ h => h) (Or.inr ⟨by rfl, rfl⟩) hHeld ?_
            try simp only [pu]
            refine wpAnyH_take (i := 10) (oi := ⟨(some 106), _, _, _, _, _⟩) (v := undef) rfl (by kernel_rfl) (by kernel_rfl) (by kernel_rfl) (fun _ _ _ h => h) (Or.inr ⟨by rfl, rfl⟩) hHeld ?_
            try simp only [pu]
            refine wpAnyH_take (i := 11) (oi := ⟨(some 107), _, _, _, _, _⟩) (v := undef) rfl (by kernel_rfl) (by kernel_rfl) (by kernel_rfl) (fun _ _ _ h => h) (Or.inr ⟨by rfl, rfl⟩) hHeld ?_
            try simp only [pu]
            refine wpAnyH_take (i := 12) (oi := ⟨(some 108), _, _, _, _, _⟩) (v := undef) rfl (by kernel_rfl) (by kernel_rfl) (by kernel_rfl) (fun _ _ _ h => h) (Or.inr ⟨by rfl, rfl⟩) hHeld ?_
            try simp only [pu]
            refine wpAnyH_take (i := 13) (oi := ⟨(some 109), _, _, _, _, _⟩) (v := undef) rfl (by kernel_rfl) (by kernel_rfl) (by kernel_rfl) (fun _ _ _ h => h) (Or.inr ⟨by rfl, rfl⟩) hHeld ?_
            try simp only [pu]
            refine wpAnyH_take (i := 14) (oi := ⟨(some 110), _, _, _, _, _⟩) (v := undef) rfl (by kernel_rfl) (by kernel_rfl) (by kernel_rfl) (fun _ _ _ h => h) (Or.inr ⟨by rfl, rfl⟩) hHeld ?_
            try simp only [pu]
            refine wpAnyH_take (i := 15) (oi := ⟨(some 111), _, _, _, _, _⟩) (v := undef) rfl (by kernel_rfl) (by kernel_rfl) (by kernel_rfl) (fun _ _ _ h => h) (Or.inr ⟨by rfl, rfl⟩) hHeld ?_
            try simp only [pu]
            refine wpAnyH_take (i := 16) (oi := ⟨(some 112), _, _, _, _, _⟩) (v := .bool false) rfl (by kernel_rfl) (by kernel_rfl) (by kernel_rfl) (fun _ _ _ h => h) (Or.inl ⟨by rfl, ?yr22_16⟩) hHeld ?_
            case yr22_16 => (intro W0 hSw; go_simp; try with_reducible rfl)
            try simp only [pu]
            refine wpAnyH_take (i := 17) (oi := ⟨(some 113), _, _, _, _, _⟩) (v := .bool false) rfl (by kernel_rfl) (by kernel_rfl) (by kernel_rfl) (fun _ _ _ h => h) (Or.inl ⟨by rfl, ?yr22_17⟩) hHeld ?_
            case yr22_17 => (intro W0 hSw; go_simp; try with_reducible rfl)
            try simp only [pu]
            refine wpAnyH_take (i := 18) (oi := ⟨(some 114), _, _, _, _, _⟩) (v := .int .i64 (j : Int)) rfl (by kernel_rfl) (by kernel_rfl) (by kernel_rfl) (fun _ _ _ h => h) (Or.inl ⟨by rfl, ?yr22_18⟩) hHeld ?_
            case yr22_18 => (intro W0 hSw; go_simp; try with_reducible rfl)
            try simp only [pu]
            refine wpAnyH_take (i := 19) (oi := ⟨(some 115), _, _, _, _, _⟩) (v := .pointer (some ⟨w1.heap.size + 1, j, none⟩)) rfl (by kernel_rfl) (by kernel_rfl) (by kernel_rfl) (fun _ _ _ h => h) (Or.inl ⟨by rfl, ?yr22_19⟩) hHeld ?_
            case yr22_19 => (intro W0 hSw; go_simp; try with_reducible rfl)
            try simp only [pu]
            refine wpAnyH_take (i := 20) (oi := ⟨(some 116), _, _, _, _, _⟩) (v := .bool false) rfl (by kernel_rfl) (by kernel_rfl) (by kernel_rfl) (fun _ _ _ h => h) (Or.inl ⟨by rfl, ?yr22_20⟩) hHeld ?_
            case yr22_20 => (intro W0 hSw; have cc := hch _ hSw; go_simp; try with_reducible rfl)
            try simp only [pu]
            refine wpAnyH_take (i := 21) (oi := ⟨(some 117), _, _, _, _, _⟩) (v := .bool true) rfl (by kernel_rfl) (by kernel_rfl) (by kernel_rfl) (fun _ _ _ h => h) (Or.inl ⟨by rfl, ?yr22_21⟩) hHeld ?_
            case yr22_21 => (intro W0 hSw; go_simp; try with_reducible rfl)
            try simp only [pu]
            refine wpAnyH_take (i := 22) (oi := ⟨(some 118), _, _, _, _, _⟩) (v := .bool true) rfl (by kernel_rfl) (by kernel_rfl) (by kernel_rfl) (fun _ _ _ h => h) (Or.inl ⟨by rfl, ?yr22_22⟩) hHeld ?_
            case yr22_22 => (intro W0 hSw; go_simp; try with_reducible rfl)
            try simp only [pu]
            refine wpAnyH_take (i := 23) (oi := ⟨(some 119), _, _, _, _, _⟩) (v := .slice A9 0 c9) rfl (by kernel_rfl) (by kernel_rfl) (by kernel_rfl) (fun _ _ _ h => h) (Or.inl ⟨by rfl, ?yr22_23⟩) hHeld ?_
            case yr22_23 => (intro W0 hSw; go_simp; try with_reducible rfl)
            try simp only [pu]
            refine wpAnyH_take (i := 24) (oi := ⟨(some 120), _, _, _, _, _⟩) (v := .int .i64 0) rfl (by kernel_rfl) (by kernel_rfl) (by kernel_rfl) (fun _ _ _ h => h) (Or.inl ⟨by rfl, ?yr22_24⟩) hHeld ?_
            case yr22_24 => (intro W0 hSw; go_simp; try with_reducible rfl)
            try simp only [pu]
            refine wpAnyH_take (i := 25) (oi := ⟨(some 121), _, _, _, _, _⟩) (v := .bool false) rfl (by kernel_rfl) (by kernel_rfl) (by kernel_rfl) (fun _ _ _ h => h) (Or.inl ⟨by rfl, ?yr22_25⟩) hHeld ?_
            case yr22_25 => (intro W0 hSw; go_simp; try with_reducible rfl)
            try simp only [pu]
            refine wpAnyH_take (i := 26) (oi := ⟨(some 122), _, _, _, _, _⟩) (v := .bool false) rfl (by kernel_rfl) (by kernel_rfl) (by kernel_rfl) (fun _ _ _ h => h) (Or.inl ⟨by rfl, ?yr22_26⟩) hHeld ?_
            case yr22_26 => (intro W0 hSw; go_simp; try with_reducible rfl)
            try simp only [pu]
            refine wpAnyH_take (i := 27) (oi := ⟨(some 123), _, _, _, _, _⟩) (v := .bool false) rfl (by kernel_rfl) (by kernel_rfl) (by kernel_rfl) (fun _ _ _ h => h) (Or.inl ⟨by rfl, ?yr22_27⟩) hHeld ?_
            case yr22_27 => (intro W0 hSw; go_simp; try with_reducible rfl)
            try simp only [pu]
            refine wpAnyH_done (by kernel_rfl) ?_ _
            have hb49 := below_next hb39 hb39.size hHeld
            go_wp2
            go_roundg (4 - (j + 1))
            case measure => omega
            case rel => exact ⟨j + 1, by go_num, by omega, by omega, hb49⟩
        · have hltz : ¬ (j : Int) < 4 := by omega
          have D1 := edits_any (H1.out.next hbk)
          rw [hLn] at D1
          have V1 := vlt D1
          clear D1
          go_wp2_with (go_at_call 22; refine V1.out.mono ?_; rintro e' w9 ⟨A9, c9, rfl, _, hb9, _⟩; clear V1)
          go_ret
          exact ⟨by simp, below_next hbk' hbk'.size hb9⟩
end Go.Proofs.Ytncjobhpiohkkaa
