/-
  Words and contracts that other texts share, several in one text. No statement of the seat is proved here. Conditions: as each contract says.
  Contracts of octet.FromBig and octet.FromLittle: the number that up to eight bytes tell, EARG of more. Conditions: the slice is shorter than 2^47 bytes.
  Contract of sha's spread for long sums: the words of a block and those that follow them. Conditions: the object lies in a block of its own.
  Contract of sha's mix for long sums: the block that waits is taken into the state. Conditions: the object lies in a block of its own; the tables lie as the program lays them.
  Contract of longSum's add: the object has taken the bytes besides. Conditions: the object lies in a block of its own, apart from the bytes; the tables lie as the program lays them; there were fewer than 2^60 bytes in all.
  Contracts of octet.Big and octet.Little: b, and the number's lowest bytes behind it. Conditions: the slice is shorter than 2^46 bytes.
  Contract of sha's ending for long sums. Conditions: at most 2^60 bytes in all.
  Lists of lists of bytes that came in: words that other texts share. No statement is proved here. Conditions: none.
  Contract of sha.Long: the long sum of all parts, one behind the other. Conditions: fewer than 2^58 bytes in all; the tables lie as the program lays them.
  Contracts of slices.Grow and slices.Concat over lists of lists of bytes: two lists, one behind the other. Conditions: fewer than 2^32 lists; no capacity where there is no address.
  Words for signatures: the tables of all packages, lists of slices of bytes. No statement is proved here. Conditions: none.
-/
import Derived.Test.YtcefdcjpddohaaaDoorPkA
import Derived.LoopTactic
import Derived.Laws.Shifts
import Derived.Laws.ShiftsVar
import Derived.Laws.BitsAllLaws
import Derived.Test.YtcefdcjpddohaaaDoorPkK
import Derived.Deep.QuietTactic
import Derived.Deep.RegionLaw
import Derived.IntWalk
import Derived.Laws.AppendOwnNone
import Derived.Lib.AppendZeros
import Derived.Test.YtcefdcjpddohaaaDoorPkJ
namespace Go.Proofs.YtcefdcjpddohaaaDoor
open Go.RowKit

set_option maxRecDepth 100000 in
theorem fromBig_ok (A : Option Addr) (l : List UInt8) (n c : Nat) (w : World) (ha : Byt w w.heap.size A l) (hl : l.length = n) (h8 : n ≤ 8) :
    Calls Tryd.prog 77 #[.slice A n c] w fun e w' => e = .returned (.tuple #[.int .u64 (bn l : Int), .int .i64 0]) ∧ w = w' := by
  have HL := Lib.hid hl
  clear hl
  go_enter Tryd.func77, Tryd.ntmps77
  go_wp2
  go_loop [4, 6, 12] (fun t _ i => ∃ k V : Nat, k ≤ n ∧ i = .int .i64 (k : Int) ∧ t = .int .u64 (V : Int) ∧ V = bn (l.take k)) (fun _ _ i => n - (intOf i).toNat)
  case atStart => exact ⟨0, 0, Nat.zero_le _, rfl, rfl, by simp [bn]⟩
  case round =>
    obtain ⟨k, V, hk, rfl, rfl, hV⟩ := hrel
    have HV := Lib.hid hV
    by_cases hlt : k < n
    · have hb : V ≤ 72057594037927935 := by
        have h1 := bn_lt k (l.take k) (by rw [List.length_take, HL.out]; omega)
        have h2 := pow_le8 k (by omega)
        omega
      clear hV
      obtain ⟨g, o, x, rfl, hg, hx, hcell, hget⟩ := ha.at_ (k := k) (by rw [HL.out]; exact hlt)
      go_wp2
      exact ⟨⟨k + 1, V * 256 + x, by omega, by go_num, by rw [or_low V x hb hx], by rw [take_at hget.out, bn_snoc, ← HV.out]; simp [Nat.mod_eq_of_lt hx]⟩, by simp [intOf]; omega⟩
    · obtain rfl : k = n := by omega
      clear hV
      go_wp2
      go_ret2
      have e : V = bn l := by rw [HV.out, List.take_of_length_le (by rw [HL.out]; exact Nat.le_refl _)]
      rw [e]
      exact ⟨rfl, rfl⟩

set_option maxRecDepth 100000 in
theorem fromBig_no (A : Option Addr) (n c : Nat) (w : World) (h8 : 8 < n) :
    Calls Tryd.prog 77 #[.slice A n c] w fun e w' => e = .returned (.tuple #[.int .u64 0, .int .i64 1]) ∧ w = w' := by
  go_enter Tryd.func77, Tryd.ntmps77
  go_wp2
  go_ret2
  exact ⟨rfl, rfl⟩
end Go.Proofs.YtcefdcjpddohaaaDoor
namespace Go.Proofs.YtcefdcjpddohaaaDoor
open Go.RowKit

theorem lget_at (l : List Nat) (k : Nat) (h : k ≤ l.length) (h0 : 0 < k) : (uptoW 80 l)[l.length - k]? = some (lget l k) := by
  have hk : l.length - k < l.length := by omega
  rw [uptoW, List.getElem?_append_left hk, lget, List.getD_eq_getElem?_getD, List.getElem?_eq_getElem hk]; rfl
theorem lget_lt (l : List Nat) (k : Nat) (h : small6 l) : lget l k < 18446744073709551616 := getD_lt h (by decide) _
theorem cell_w80 {w : World} {g k x : Nat} {l : List Nat} (hg : w.heap[g]? = some (.cells (u64v l).toArray 101 (0, 0))) (hx : l[k]? = some x) : w.cell? ⟨g, k, none⟩ = some (.int .u64 (x : Int)) := by
  rw [cell_of_row _ _ _ _ _ _ hg]
  simp [u64v_at, hx]
theorem sh0_int (x : Nat) (hx : x < 18446744073709551616) : bits .xor .u64 (bits .xor .u64 ((rl6 x 63 : Nat) : Int) ((rl6 x 56 : Nat) : Int)) ((x : Int) / 128) = ((sh0 x : Nat) : Int) := by
  have h1 := rl6_lt x 63 hx
  have h2 := rl6_lt x 56 hx
  have e : (x : Int) / 128 = ((x / 128 : Nat) : Int) := by omega
  rw [e, u64_xor_nat _ _ h1 h2, u64_xor_nat _ _ (xor_64 h1 h2) (by omega)]
  rfl
theorem sh1_int (x : Nat) (hx : x < 18446744073709551616) : bits .xor .u64 (bits .xor .u64 ((rl6 x 45 : Nat) : Int) ((rl6 x 3 : Nat) : Int)) ((x : Int) / 64) = ((sh1 x : Nat) : Int) := by
  have h1 := rl6_lt x 45 hx
  have h2 := rl6_lt x 3 hx
  have e : (x : Int) / 64 = ((x / 64 : Nat) : Int) := by omega
  rw [e, u64_xor_nat _ _ h1 h2, u64_xor_nat _ _ (xor_64 h1 h2) (by omega)]
  rfl
theorem lnextw_int (ws : List Nat) (h : small6 ws) : IntKind.u64.wrap (IntKind.u64.wrap (IntKind.u64.wrap (((lget ws 16 : Nat) : Int) + bits .xor .u64 (bits .xor .u64 ((rl6 (lget ws 15) 63 : Nat) : Int) ((rl6 (lget ws 15) 56 : Nat) : Int)) (((lget ws 15 : Nat) : Int) / 128)) + ((lget ws 7 : Nat) : Int)) + bits .xor .u64 (bits .xor .u64 ((rl6 (lget ws 2) 45 : Nat) : Int) ((rl6 (lget ws 2) 3 : Nat) : Int)) (((lget ws 2 : Nat) : Int) / 64)) = ((lnextw ws : Nat) : Int) := by
  rw [sh0_int _ (lget_lt ws 15 h), sh1_int _ (lget_lt ws 2 h), lnextw]
  generalize lget ws 16 = a; generalize sh0 (lget ws 15) = b; generalize lget ws 7 = c; generalize sh1 (lget ws 2) = d
  rw [← Int.natCast_add, wrap64, ← Int.natCast_add, wrap64, ← Int.natCast_add, wrap64]
  congr 1
  omega

set_option maxRecDepth 100000 in
theorem lspread_any (w : World) (g : Nat) (s : Sl) (rest : List UInt8) (n : Nat) (ho : LObj w g s rest n) :
    Calls Tryd.prog 71 #[.pointer (some ⟨g, 0, none⟩)] w fun e w' => e = .returned (.agg (u64v (schedule6 rest)).toArray) ∧ Below w.heap.size w w' := by
  have hz := zero_w80
  have hgl := ho.lt
  go_enter Tryd.func71, Tryd.ntmps71
  go_wp2
  go_loopw [8] (fun i wr => ∃ k : Nat, k ≤ 16 ∧ i = .int .i64 (k : Int) ∧ Hid (wr.heap[w.heap.size + 1]? = some (.cells (u64v (uptoW 80 (words8 k rest))).toArray 101 (0, 0))) ∧ Hid (wr.heap[w.heap.size]? = some (.cells (u64v (w80)).toArray 101 (0, 0))) ∧ Below w.heap.size w wr) (fun i _ => 16 - (intOf i).toNat)
  case atStart => exact ⟨0, by omega, rfl, heap_alloc2_new _ _ _, heap_alloc2_old _ _ _, ((Below.refl _ _).alloc (Nat.le_refl _) _).alloc (by simp) _⟩
  case round =>
    obtain ⟨k, hk, rfl, hg1, hg0, hb⟩ := hrel
    by_cases hlt : k < 16
    · have hsz : w.heap.size + 1 < wr.heap.size := (Array.getElem?_eq_some_iff.1 hg1.out).1
      have hbt := (ho.below hgl hb).byt (B := wr.heap.size) (8 * k) 8 (by omega) (by omega)
      have hcut := cut_lh Tryd.underlying71 Tryd.sizeByte g 8 (8 * k) (8 * k + 8) (8 * (k : Int)) (8 * (k : Int) + 8) (by omega) (by omega) (by omega) (by omega) (by omega)
      rw [show 8 * k + 8 - 8 * k = 8 by omega] at hcut
      have hx : (uptoW 80 (words8 k rest))[k]? = some 0 := by
        rw [uptoW, List.getElem?_append_right (by rw [words8_len]; exact Nat.le_refl _), words8_len, List.getElem?_replicate, if_pos (by omega)]
      have hc := cell_w80 hg1.out hx
      have hf : wr.frozen? ⟨w.heap.size + 1, k, none⟩ = false := frozen_of_row _ _ _ _ _ hg1.out
      clear hx
      go_wp2_with fail
      refine (fromBig_ok _ _ 8 _ _ hbt (by have := ho.2; simp; omega) (by omega)).mono ?_
      rintro e w' ⟨rfl, rfl⟩
      clear hbt hcut
      go_wp2
      go_roundw
      case rel =>
        refine ⟨k + 1, by omega, by go_num, ?_, ?_, hb.setCell (by simp) _⟩
        · have h1 := heap_setCell_same wr (w.heap.size + 1) k _ _ (.int .u64 ((bn ((rest.drop (8 * k)).take 8) : Nat) : Int)) hg1.out
          refine h1.trans ?_
          have h2 := uptoW_set 80 (words8 k rest) (bn ((rest.drop (8 * k)).take 8)) (by rw [words8_len]; omega)
          rw [words8_len] at h2
          rw [words8_snoc, ← h2, ← u64v_set]
          simp
        · exact (heap_setCell_other _ _ _ _ (by simp)).trans hg0.out
      case measure => simp [intOf]; omega
    · have HK := Lib.hid (show k = 16 by omega)
      go_wp2
      go_loopw [5] (fun i wr => ∃ (ws : List Nat) (k : Nat), ws.length = k ∧ 16 ≤ k ∧ k ≤ 80 ∧ i = .int .i64 (k : Int) ∧ small6 ws ∧ Hid (sched6 (80 - k) ws = schedule6 rest) ∧ Hid (wr.heap[w.heap.size + 1]? = some (.cells (u64v (uptoW 80 ws)).toArray 101 (0, 0))) ∧ Hid (wr.heap[w.heap.size]? = some (.cells (u64v (w80)).toArray 101 (0, 0))) ∧ Below w.heap.size w wr) (fun i _ => 80 - (intOf i).toNat)
      case atStart => exact ⟨words8 k rest, 16, by rw [words8_len]; exact HK.out, by omega, by omega, rfl, words8_small _ _, by rw [HK.out]; exact rfl, hg1, hg0, hb⟩
      case round =>
        clear hg1 hg0 hb
        obtain ⟨k0, rfl⟩ : ∃ k0, k = k0 := ⟨_, rfl⟩
        obtain ⟨ws, k, hwl, hk1, hk2, rfl, hsm, hsc, hg1, hg0, hb⟩ := hrel
        have HW := Lib.hid hwl
        by_cases hlt : k < 80
        · have h15 := cell_w80 hg1.out (lget_at ws 15 (by omega) (by omega))
          have h2 := cell_w80 hg1.out (lget_at ws 2 (by omega) (by omega))
          have h16 := cell_w80 hg1.out (lget_at ws 16 (by omega) (by omega))
          have h7 := cell_w80 hg1.out (lget_at ws 7 (by omega) (by omega))
          rw [hwl] at h15 h2 h16 h7
          have b15 := lget_lt ws 15 hsm
          have b2 := lget_lt ws 2 hsm
          have b16 := lget_lt ws 16 hsm
          have b7 := lget_lt ws 7 hsm
          have hx : (uptoW 80 ws)[k]? = some 0 := by
            rw [uptoW, List.getElem?_append_right (by omega), List.getElem?_replicate, if_pos (by omega)]
          have hc := cell_w80 hg1.out hx
          have hf : wr.frozen? ⟨w.heap.size + 1, k, none⟩ = false := frozen_of_row _ _ _ _ _ hg1.out
          clear hx hwl
          go_wp2_with fail
          go_region
          go_wp2_with fail
          refine (rot6_any _ _ 63 _ b15 (by decide) (by kernel_rfl)).mono ?_
          rintro e w' ⟨rfl, rfl⟩
          go_wp2_with fail
          refine (rot6_any _ _ 56 _ b15 (by decide) (by kernel_rfl)).mono ?_
          rintro e w' ⟨rfl, rfl⟩
          go_wp2_with fail
          refine (rot6_any _ _ 45 _ b2 (by decide) (by kernel_rfl)).mono ?_
          rintro e w' ⟨rfl, rfl⟩
          go_wp2_with fail
          refine (rot6_any _ _ 3 _ b2 (by decide) (by kernel_rfl)).mono ?_
          rintro e w' ⟨rfl, rfl⟩
          go_wp2
          go_region
          go_wp2
          go_roundw
          case rel =>
            refine ⟨ws ++ [lnextw ws], k + 1, by rw [List.length_append, HW.out]; rfl, by omega, by omega, by go_num, small6_app hsm (small6_one (lnextw_lt ws)), ?_, ?_, ?_, ((hb.setCell (by simp) _).drew).drew⟩
            · have h1 := hsc.out
              obtain ⟨m, hm⟩ : ∃ m, 80 - k = m + 1 := ⟨79 - k, by omega⟩
              rw [hm, sched6] at h1
              rw [show 80 - (k + 1) = m by omega]
              exact h1
            · rw [lnextw_int ws hsm]
              have h1 := heap_setCell_same wr (w.heap.size + 1) k _ _ (.int .u64 ((lnextw ws : Nat) : Int)) hg1.out
              refine h1.trans ?_
              have h2 := uptoW_set 80 ws (lnextw ws) (by rw [HW.out]; exact hlt)
              rw [HW.out] at h2
              rw [← h2, ← u64v_set]
              simp
            · exact (heap_setCell_other _ _ _ _ (by simp)).trans hg0.out
          case measure => simp [intOf]; omega
        · obtain rfl : k = 80 := by omega
          have hws : uptoW 80 ws = schedule6 rest := by rw [uptoW_all 80 ws HW.out]; exact hsc.out
          have h64 : (u64v (uptoW 80 ws)).toArray.size = 80 := by simp [u64v_len, uptoW_len 80 ws (by rw [HW.out]; exact Nat.le_refl _)]
          have HWS := Lib.hid hws
          have H64 := Lib.hid h64
          clear hws h64
          go_wp2_with (first
            | (with_reducible refine wpList_load_row rfl 101 (.tmp 3) rfl (w.heap.size + 1) rfl 101 (u64v (uptoW 80 ws)).toArray (0, 0) _ hg1.out Tryd.underlying101 rfl (by rw [H64.out]; kernel_rfl) ?_)
            | (with_reducible refine wpList_store_row rfl 101 (.tmp 2) (.tmp 70) rfl w.heap.size (u64v (uptoW 80 ws)).toArray rfl rfl 101 _ hg0.out (by rw [H64.out]; kernel_rfl) (by rw [H64.out]; simp [u64v_len, w80]) (all_oneCell_toArray (u64v_one _)) ?_))
          refine bodyPost_ret (v := .agg (u64v (schedule6 rest)).toArray) (results_cell_row Tryd.results71 _ _ w.heap.size 101 _ (0, 0) _ rfl (by rw [← HWS.out]; exact setRow_heap _ _ _ _ _ _ hg0.out) Tryd.underlying101 rfl (by rw [← HWS.out, H64.out]; kernel_rfl)) rfl ⟨rfl, below_setRow hb (Nat.le_refl _) _⟩
end Go.Proofs.YtcefdcjpddohaaaDoor
namespace Go.Proofs.YtcefdcjpddohaaaDoor
open Go.RowKit

theorem Tryd.sizeU64l : (Tryd.prog.info? 52).map (·.size) = some 1 := by kernel_rfl
theorem natAt6_at {l : List Nat} {n k : Nat} (h : l.length = n) (hk : k < n) : (u64v l)[k]? = some (.int .u64 ((natAt l k : Nat) : Int)) := by
  have hl : k < l.length := by omega
  simp [u64v_at, natAt, List.getElem?_eq_getElem hl]
set_option maxRecDepth 100000 in
theorem turned6_e (v : Nat) (w : World) (hv : v < 18446744073709551616) :
    Calls Tryd.prog 72 #[.int .u64 (v : Int), .int .i64 14, .int .i64 18, .int .i64 41] w fun e w' => e = .returned (.int .u64 ((tri6 v 14 18 41 : Nat) : Int)) ∧ w' = w :=
  (turned6_any v 14 18 41 w hv (by decide) (by decide) (by decide)).mono fun _ _ h => ⟨h.1, h.2.symm⟩
set_option maxRecDepth 100000 in
theorem turned6_a (v : Nat) (w : World) (hv : v < 18446744073709551616) :
    Calls Tryd.prog 72 #[.int .u64 (v : Int), .int .i64 28, .int .i64 34, .int .i64 39] w fun e w' => e = .returned (.int .u64 ((tri6 v 28 34 39 : Nat) : Int)) ∧ w = w' :=
  turned6_any v 28 34 39 w hv (by decide) (by decide) (by decide)
theorem zip6_drop (l : List Nat) (k : Nat) (hl : l.length = 80) (h : k < 80) : (tableL.zip l).drop k = (roundOf k, natAt l k) :: (tableL.zip l).drop (k + 1) := by
  have h1 : k < tableL.length := by rw [tableL_len]; exact h
  have h2 : k < l.length := by rw [hl]; exact h
  have h3 : k < (tableL.zip l).length := by rw [List.length_zip]; omega
  rw [List.drop_eq_getElem_cons h3, List.getElem_zip]
  simp [roundOf, natAt, List.getElem?_eq_getElem h1, List.getElem?_eq_getElem h2]
theorem zip6_end (l : List Nat) (hl : l.length = 80) : (tableL.zip l).drop 80 = [] := List.drop_eq_nil_of_le (by rw [List.length_zip]; omega)
/-- The rounds that are left from k on. -/
def left6 (t : Sl) (l : List Nat) (k : Nat) : Sl := rnds6 t ((tableL.zip l).drop k)
theorem left6_next (t : Sl) (l : List Nat) (k : Nat) (hl : l.length = 80) (h : k < 80) : left6 t l k = left6 (rnd6 t (roundOf k) (natAt l k)) l (k + 1) := by rw [left6, zip6_drop l k hl h, rnds6, left6]
theorem left6_end (t : Sl) (l : List Nat) (hl : l.length = 80) : left6 t l 80 = t := by rw [left6, zip6_end l hl, rnds6]
set_option maxRecDepth 100000 in
theorem lspread_ex (w : World) (g : Nat) (s : Sl) (rest : List UInt8) (n : Nat) (ho : LObj w g s rest n) :
    Calls Tryd.prog 71 #[.pointer (some ⟨g, 0, none⟩)] w fun e w' => ∃ sch, e = .returned (.agg (u64v sch).toArray) ∧ sch = schedule6 rest ∧ Below w.heap.size w w' :=
  (lspread_any w g s rest n ho).mono fun _ _ h => ⟨_, h.1, rfl, h.2⟩

theorem ch6_int (e f g : Nat) (he : e < 18446744073709551616) (hf : f < 18446744073709551616) (hg : g < 18446744073709551616) :
    bits .xor .u64 (bits .and .u64 (e : Int) (f : Int)) (bits .and .u64 (bits .xor .u64 IntKind.u64.max (e : Int)) (g : Int)) = (((e &&& f) ^^^ ((18446744073709551615 ^^^ e) &&& g) : Nat) : Int) := by
  have h0 : IntKind.u64.max = ((18446744073709551615 : Nat) : Int) := by decide
  have h1 : 18446744073709551615 ^^^ e < 18446744073709551616 := xor_64 (by decide) he
  rw [h0, u64_and_nat _ _ he hf, u64_xor_nat _ _ (by decide) he, u64_and_nat _ _ h1 hg, u64_xor_nat _ _ (and_64 he) (and_64 h1)]
theorem mj6_int (a b c : Nat) (ha : a < 18446744073709551616) (hb : b < 18446744073709551616) (hc : c < 18446744073709551616) :
    bits .xor .u64 (bits .xor .u64 (bits .and .u64 (a : Int) (b : Int)) (bits .and .u64 (a : Int) (c : Int))) (bits .and .u64 (b : Int) (c : Int)) = ((((a &&& b) ^^^ (a &&& c)) ^^^ (b &&& c) : Nat) : Int) := by
  rw [u64_and_nat _ _ ha hb, u64_and_nat _ _ ha hc, u64_and_nat _ _ hb hc, u64_xor_nat _ _ (and_64 ha) (and_64 ha), u64_xor_nat _ _ (xor_64 (and_64 ha) (and_64 ha)) (and_64 hb)]
theorem rv6_int (t : Sl) (ht : t.ok) (k w : Nat) : IntKind.u64.wrap ((w : Int) + IntKind.u64.wrap (IntKind.u64.wrap (IntKind.u64.wrap ((k : Int) + (t.h : Int)) + ((tri6 t.e 14 18 41 : Nat) : Int)) + bits .xor .u64 (bits .and .u64 (t.e : Int) (t.f : Int)) (bits .and .u64 (bits .xor .u64 IntKind.u64.max (t.e : Int)) (t.g : Int)))) = ((rv6 t k w : Nat) : Int) := by
  obtain ⟨ha, hb, hc, hd, he, hf, hg, hh⟩ := ht
  rw [ch6_int _ _ _ he hf hg, rv6]
  generalize tri6 t.e 14 18 41 = x; generalize (t.e &&& t.f) ^^^ ((18446744073709551615 ^^^ t.e) &&& t.g) = y
  rw [← Int.natCast_add, wrap64, ← Int.natCast_add, wrap64, ← Int.natCast_add, wrap64, ← Int.natCast_add, wrap64]
  congr 1
  omega
theorem ru6_int (t : Sl) (ht : t.ok) : IntKind.u64.wrap (((tri6 t.a 28 34 39 : Nat) : Int) + bits .xor .u64 (bits .xor .u64 (bits .and .u64 (t.a : Int) (t.b : Int)) (bits .and .u64 (t.a : Int) (t.c : Int))) (bits .and .u64 (t.b : Int) (t.c : Int))) = ((ru6 t : Nat) : Int) := by
  obtain ⟨ha, hb, hc, hd, he, hf, hg, hh⟩ := ht
  rw [mj6_int _ _ _ ha hb hc, ru6, ← Int.natCast_add, wrap64]
theorem sum6_int (x y : Nat) : IntKind.u64.wrap ((x : Int) + (y : Int)) = (((x + y) % 18446744073709551616 : Nat) : Int) := by rw [← Int.natCast_add, wrap64]
/-- The state with its first k words added. -/
def addc6 (s t : Sl) : Nat → List Nat
  | 0 => s.list
  | k + 1 => (addc6 s t k).set k ((s.at_ k + t.at_ k) % 18446744073709551616)
theorem addc6_len (s t : Sl) : ∀ k, (addc6 s t k).length = 8
  | 0 => rfl
  | k + 1 => by simp [addc6, addc6_len s t k]
theorem addc6_end (s t : Sl) : addc6 s t 8 = (add86 s t).list := rfl
theorem sl_at (s : Sl) (k : Nat) (hk : k < 8) : s.list[k]? = some (s.at_ k) := by
  have hl : k < s.list.length := hk
  simp [Sl.at_, List.getElem?_eq_getElem hl]
theorem addc6_at (s t : Sl) : ∀ (k j : Nat), k ≤ j → j < 8 → (addc6 s t k)[j]? = some (s.at_ j)
  | 0, j, _, h => sl_at s j h
  | k + 1, j, h1, h2 => by rw [addc6, List.getElem?_set_ne (by omega)]; exact addc6_at s t k j (by omega) h2
theorem at6_lt (s : Sl) (h : s.ok) (k : Nat) : s.at_ k < 18446744073709551616 := by
  obtain ⟨ha, hb, hc, hd, he, hf, hg, hh⟩ := h
  refine getD_lt (fun x hx => ?_) (by decide) k
  simp [Sl.list] at hx
  rcases hx with rfl | rfl | rfl | rfl | rfl | rfl | rfl | rfl <;> assumption
/-- The object while its state is being added to. -/
def addo6 (s t : Sl) (rest : List UInt8) (n k : Nat) : List Value := u64v (addc6 s t k) ++ (bv rest ++ [.int .i64 (n : Int)])
theorem addo6_set (s t : Sl) (rest : List UInt8) (n k : Nat) (hk : k < 8) : (addo6 s t rest n k).set k (.int .u64 (((s.at_ k + t.at_ k) % 18446744073709551616 : Nat) : Int)) = addo6 s t rest n (k + 1) := by
  rw [addo6, List.set_append_left _ _ (by rw [u64v_len, addc6_len]; exact hk), u64v_set, addo6, addc6]
theorem addo6_at (s t : Sl) (rest : List UInt8) (n k : Nat) (hk : k < 8) : (addo6 s t rest n k)[k]? = some (.int .u64 ((s.at_ k : Nat) : Int)) := by
  rw [addo6, List.getElem?_append_left (by rw [u64v_len, addc6_len]; exact hk), u64v_at, addc6_at s t k k (Nat.le_refl _) hk]; rfl

set_option maxRecDepth 100000 in
set_option maxHeartbeats 1000000 in
theorem lmix_any (w : World) (g : Nat) (s : Sl) (rest : List UInt8) (n : Nat) (ho : LObj w g s rest n) (hl : LaidL w) (hs : s.ok) :
    Calls Tryd.prog 56 #[.pointer (some ⟨g, 0, none⟩)] w fun e w' => e = .returned (.tuple #[]) ∧ LObj w' g (comp6 s rest) rest n ∧ But g w w' := by
  have hz := zero_w80
  have hgl := ho.lt
  go_enter Tryd.func56, Tryd.ntmps56
  go_wp2_with fail
  refine (lspread_ex w g s rest n ho).mono ?_
  rintro e w1 ⟨sch, rfl, hsch, hb1⟩
  have HS := Lib.hid hsch
  have hlen := Lib.hid (show sch.length = 80 by rw [hsch]; exact schedule6_len rest)
  have hsm : small6 sch := by rw [hsch]; exact schedule6_small rest
  clear hsch
  have H64 := Lib.hid (show (u64v sch).toArray.size = 80 by simp [u64v_len, hlen.out])
  go_wp2_with ((with_reducible refine wpList_store_row rfl 101 (.tmp 2) (.tmp 17) rfl w1.heap.size (u64v sch).toArray rfl rfl 101 _ (heap_alloc_new _ _) (by rw [H64.out]; kernel_rfl) (by rw [H64.out]; simp [u64v_len, w80]) (all_oneCell_toArray (u64v_one _)) ?_); rw [World.setRow_alloc_new])
  generalize hw2 : w1.alloc (.cells (u64v sch).toArray 101) = w2
  have hb2 : Below w.heap.size w w2 := by rw [← hw2]; exact hb1.alloc hb1.size _
  have hgB : w2.heap[w1.heap.size]? = some (.cells (u64v sch).toArray 101 (0, 0)) := by rw [← hw2]; exact heap_alloc_new _ _
  have HGB := Lib.hid hgB
  have hs1 := hb1.size
  clear hw2 hgB hz
  have ho2 := ho.below hgl hb2
  have c0 := ho2.st 0 (by decide)
  have c1 := ho2.st 1 (by decide)
  have c2 := ho2.st 2 (by decide)
  have c3 := ho2.st 3 (by decide)
  have c4 := ho2.st 4 (by decide)
  have c5 := ho2.st 5 (by decide)
  have c6 := ho2.st 6 (by decide)
  have c7 := ho2.st 7 (by decide)
  go_quiet (fail)
  generalize hw3 : w2.drewN nq = w3
  have hb3 : Below w.heap.size w w3 := by rw [← hw3]; exact below_drewN hb2 _
  have HGB3 := Lib.hid (show w3.heap[w1.heap.size]? = some (.cells (u64v sch).toArray 101 (0, 0)) by rw [← hw3]; exact HGB.out)
  clear hw3 HGB c0 c1 c2 c3 c4 c5 c6 c7 ho2
  have ho2 := ho.below hgl hb3
  have c4 := ho2.st 4 (by decide)
  have c5 := ho2.st 5 (by decide)
  have c6 := ho2.st 6 (by decide)
  have c7 := ho2.st 7 (by decide)
  clear ho2
  go_wp2_with fail
  go_quiet (fail)
  generalize hw4 : w3.drewN nq = w4
  have hb4 : Below w.heap.size w w4 := by rw [← hw4]; exact below_drewN hb3 _
  have HGB := Lib.hid (show w4.heap[w1.heap.size]? = some (.cells (u64v sch).toArray 101 (0, 0)) by rw [← hw4]; exact HGB3.out)
  clear hw4 HGB3 c4 c5 c6 c7 hb3 hb2
  go_wp2_with ((with_reducible refine wpList_load_row rfl 101 (.tmp 2) rfl w1.heap.size rfl 101 (u64v sch).toArray (0, 0) _ HGB.out Tryd.underlying101 rfl (by rw [H64.out]; kernel_rfl) ?_))
  go_loopw [3, 4, 5, 6, 7, 8, 9, 10, 59] (fun a b c d e f g' h i wr => ∃ (t : Sl) (k : Nat), k ≤ 80 ∧ i = .int .i64 (k : Int) ∧ a = .int .u64 (t.a : Int) ∧ b = .int .u64 (t.b : Int) ∧ c = .int .u64 (t.c : Int) ∧ d = .int .u64 (t.d : Int) ∧ e = .int .u64 (t.e : Int) ∧ f = .int .u64 (t.f : Int) ∧ g' = .int .u64 (t.g : Int) ∧ h = .int .u64 (t.h : Int) ∧ t.ok ∧ Hid (left6 t sch k = left6 s sch 0) ∧ Below w.heap.size w wr) (fun _ _ _ _ _ _ _ _ i _ => 80 - (intOf i).toNat)
  case atStart => exact ⟨s, 0, by omega, rfl, rfl, rfl, rfl, rfl, rfl, rfl, rfl, rfl, hs, rfl, hb4⟩
  case round =>
    clear HGB hb4
    obtain ⟨t, k, hk, rfl, rfl, rfl, rfl, rfl, rfl, rfl, rfl, rfl, ht, hrn, hb⟩ := hrel
    by_cases hlt : k < 80
    · have hix := at_agg Tryd.underlying101 Tryd.sizeU64l Tryd.underlying52 (u64v sch) k _ (k : Int) rfl hlt (natAt6_at hlen.out hlt)
      have hr := (hl.next hb).round k (by omega)
      have hta := ht
      obtain ⟨ha, hbb, hc, hd, he, hf, hgg, hh⟩ := hta
      go_wp2_with fail
      go_quiet ((go_at_call 72; exact Calls.quiet_of_same (turned6_e _ _ he)))
      generalize hw5 : wr.drewN nq = w5
      have hb5 : Below w.heap.size w w5 := by rw [← hw5]; exact below_drewN hb _
      clear hw5 hr hix
      go_wp2_with fail
      refine (turned6_a _ _ ha).mono ?_
      rintro e w' ⟨rfl, rfl⟩
      go_wp2
      go_roundw
      case rel =>
        refine ⟨rnd6 t (roundOf k) (natAt sch k), k + 1, by omega, by go_num, ?_, rfl, rfl, rfl, ?_, rfl, rfl, rfl, rnd6_ok _ _ _ ht, ?_, hb5⟩
        · rw [rv6_int t ht, ru6_int t ht, sum6_int]
          rfl
        · rw [rv6_int t ht, sum6_int]
          rfl
        · exact (left6_next t sch k hlen.out hlt).symm.trans hrn.out
      case measure => simp [intOf]; omega
    · have HK := Lib.hid (show k = 80 by omega)
      have hte : t = left6 s sch 0 := by rw [← hrn.out, HK.out, left6_end t sch hlen.out]
      have HT := Lib.hid hte
      clear hte hrn HK
      have ho2 := ho.below hgl hb
      go_wp2
      go_loopw [118] (fun i wr => ∃ k : Nat, k ≤ 8 ∧ i = .int .i64 (k : Int) ∧ Hid (wr.heap[g]? = some (.cells (addo6 s t rest n k).toArray 73 (0, 0))) ∧ But g w wr) (fun i _ => 8 - (intOf i).toNat)
      case atStart => exact ⟨0, by omega, rfl, ho2.1, But.of_below hb (Nat.le_refl _)⟩
      case round =>
        clear hb ho2
        obtain ⟨kk, hkk, rfl, hgo, hbut⟩ := hrel
        by_cases hlt2 : kk < 8
        · have hix : ∀ W, (Instr.index 55 (.agg #[.int .u64 (t.a : Int), .int .u64 (t.b : Int), .int .u64 (t.c : Int), .int .u64 (t.d : Int), .int .u64 (t.e : Int), .int .u64 (t.f : Int), .int .u64 (t.g : Int), .int .u64 (t.h : Int)]) (.int .i64 (kk : Int))).run Tryd.prog W = .ok (.int .u64 ((t.at_ kk : Nat) : Int)) W :=
            at_agg Tryd.underlying55 Tryd.sizeU64l Tryd.underlying52 (u64v t.list) kk _ (kk : Int) rfl hlt2 (by rw [u64v_at, sl_at t kk hlt2]; rfl)
          have hc : wr.cell? ⟨g, kk, none⟩ = some (.int .u64 ((s.at_ kk : Nat) : Int)) := by rw [cell_of_row _ _ _ _ _ _ hgo.out]; simpa using addo6_at s t rest n kk hlt2
          have hf : wr.frozen? ⟨g, kk, none⟩ = false := frozen_of_row _ _ _ _ _ hgo.out
          have l1 := at6_lt s hs kk
          have l2 := at6_lt t ht kk
          go_wp2_with fail
          go_region
          go_wp2
          go_roundw
          case rel =>
            refine ⟨kk + 1, by omega, by go_num, ?_, (hbut.set _).drew⟩
            have h1 := heap_setCell_same wr g kk _ _ (.int .u64 (((s.at_ kk + t.at_ kk) % 18446744073709551616 : Nat) : Int)) hgo.out
            rw [← addo6_set s t rest n kk hlt2]
            refine Eq.trans ?_ (h1.trans (by simp))
            rfl
          case measure => simp [intOf]; omega
        · have e8 : kk = 8 := by omega
          have hsc := HS.out
          go_wp2
          go_end0
          refine ⟨rfl, ⟨?_, ho.2⟩, hbut⟩
          have h1 := hgo.out
          rw [e8] at h1
          have h2 : comp6 s rest = add86 s t := by rw [HT.out, comp6, hsc]; rfl
          rw [h2]
          exact h1
end Go.Proofs.YtcefdcjpddohaaaDoor
namespace Go.Proofs.YtcefdcjpddohaaaDoor
open Go.RowKit

theorem lc_splice (s : Sl) (rest x : List UInt8) (n r : Nat) (hr : rest.length = 128) (h : r + x.length ≤ 128) :
    splice (lc s.list rest n) (8 + r) (bv x) = lc s.list (rest.take r ++ (x ++ rest.drop (r + x.length))) n := by
  have e : (u64v s.list).length = 8 := rfl
  have h1 : List.take (8 + r) (lc s.list rest n) = u64v s.list ++ bv (rest.take r) := by
    rw [lc, List.take_append, e, List.take_of_length_le (by omega), Nat.add_sub_cancel_left, List.take_append_of_le_length (by rw [bv_len]; omega), bv_take]
  have h2 : List.drop (8 + r + (bv x).length) (lc s.list rest n) = bv (rest.drop (r + x.length)) ++ [.int .i64 (n : Int)] := by
    rw [lc, List.drop_append, e, List.drop_of_length_le (by omega), bv_len, List.nil_append, show 8 + r + x.length - 8 = r + x.length by omega, List.drop_append_of_le_length (by rw [bv_len]; omega)]
    simp [bv, List.map_drop]
  rw [splice, h1, h2, lc]
  simp [bv_app]
theorem lc_count (s : Sl) (rest : List UInt8) (n k : Nat) (hr : rest.length = 128) : (lc s.list rest n).set 136 (.int .i64 (k : Int)) = lc s.list rest k := by
  have e : (u64v s.list).length = 8 := rfl
  rw [lc, List.set_append_right _ _ (by omega), e, List.set_append_right _ _ (by rw [bv_len]; omega), bv_len, hr]
  rfl
theorem LObj.count {w : World} {g n : Nat} {s : Sl} {rest : List UInt8} (h : LObj w g s rest n) (k : Nat) : LObj (w.setCell ⟨g, 136, none⟩ (.int .i64 (k : Int))) g s rest k := by
  refine ⟨(heap_setCell_same w g 136 _ _ _ h.1).trans ?_, h.2⟩
  rw [← lc_count s rest n k h.2]
  simp
/-- Some bytes more wait, or the block is whole. -/
theorem lsum_more {w : World} {g : Nat} {l x rest : List UInt8} (hr : rest.length = 128) (htk : rest.take (l.length % 128) = l.drop (128 * (l.length / 128))) (hx : l.length % 128 + x.length < 128)
    (h : LObj w g (blks6 l (l.length / 128)) (rest.take (l.length % 128) ++ (x ++ rest.drop (l.length % 128 + x.length))) (l.length + x.length)) : LAt w g (l ++ x) := by
  have e1 : (l ++ x).length / 128 = l.length / 128 := by rw [List.length_append]; omega
  have e2 : (l ++ x).length % 128 = l.length % 128 + x.length := by rw [List.length_append]; omega
  refine ⟨rest.take (l.length % 128) ++ (x ++ rest.drop (l.length % 128 + x.length)), ?_, ?_⟩
  · rw [e1, blks6_app l x _ (by omega), List.length_append]; exact h
  · rw [e1, e2, List.drop_append_of_le_length (by omega), ← htk, ← List.append_assoc, List.take_append_of_le_length (by simp; omega), List.take_of_length_le (by simp; omega)]
theorem lsum_whole {w : World} {g : Nat} {l x rest : List UInt8} (hr : rest.length = 128) (htk : rest.take (l.length % 128) = l.drop (128 * (l.length / 128))) (hx : l.length % 128 + x.length = 128)
    (h : LObj w g (comp6 (blks6 l (l.length / 128)) (rest.take (l.length % 128) ++ (x ++ rest.drop (l.length % 128 + x.length)))) (rest.take (l.length % 128) ++ (x ++ rest.drop (l.length % 128 + x.length))) (l.length + x.length)) : LAt w g (l ++ x) := by
  have e0 : (l ++ x).length = 128 * (l.length / 128 + 1) := by rw [List.length_append]; omega
  have e1 : (l ++ x).length / 128 = l.length / 128 + 1 := by omega
  have e2 : (l ++ x).length % 128 = 0 := by omega
  have e3 : rest.take (l.length % 128) ++ (x ++ rest.drop (l.length % 128 + x.length)) = ((l ++ x).drop (128 * (l.length / 128))).take 128 := by
    rw [hx, List.drop_eq_nil_of_le (show rest.length ≤ 128 by omega), List.append_nil, List.drop_append_of_le_length (by omega), ← htk]
    exact (List.take_of_length_le (by rw [List.length_append, List.length_take]; omega)).symm
  refine ⟨rest.take (l.length % 128) ++ (x ++ rest.drop (l.length % 128 + x.length)), ?_, ?_⟩
  · rw [e1, blks6, blks6_app l x _ (by omega), ← e3, List.length_append]; exact h
  · rw [e1, e2, List.take_zero, List.drop_eq_nil_of_le (by omega)]

theorem tmod128 (N : Nat) : (N : Int).tmod 128 = ((N % 128 : Nat) : Int) := by rw [Int.tmod_eq_emod_of_nonneg (by omega)]; omega
theorem lc_len (s : Sl) (rest : List UInt8) (n : Nat) (h : rest.length = 128) : (lc s.list rest n).length = 137 := by simp [lc, u64v_len, bv_len, h, Sl.list]
def lenOf : Value → Nat | .slice _ n _ => n | _ => 0

set_option maxRecDepth 100000 in
set_option maxHeartbeats 1000000 in
theorem sum6_add (w : World) (g : Nat) (l m : List UInt8) (A : Option Addr) (n c : Nat) (hS : LAt w g l) (hl : LaidL w) (hg2 : Hi g) (hA : Src w g A m) (hm : m.length = n) (hc : n ≤ c) (hbig : l.length + n ≤ 1152921504606846976) :
    Calls Tryd.prog 38 #[.pointer (some ⟨g, 0, none⟩), .slice A n c] w fun e w' => e = .returned (.tuple #[]) ∧ LAt w' g (l ++ m) ∧ But g w w' := by
  have HM := Lib.hid hm
  clear hm
  go_enter Tryd.func38, Tryd.ntmps38
  go_wp2
  go_loopw [1] (fun b wr => ∃ (l' r : List UInt8) (A' : Option Addr) (n' c' : Nat), b = .slice A' n' c' ∧ Hid (r.length = n') ∧ n' ≤ c' ∧ n' ≤ n ∧ Hid (l' ++ r = l ++ m) ∧ LAt wr g l' ∧ Src wr g A' r ∧ But g w wr) (fun b _ => lenOf b)
  case atStart => exact ⟨l, m, A, n, c, rfl, HM, hc, Nat.le_refl _, rfl, hS, hA, But.refl _ _⟩
  case round =>
    obtain ⟨l', r, A', n', c', rfl, hr, hc', hn', hlr, hsum, hsrc, hbut⟩ := hrel
    clear hS hA
    have hgl := hsum.lt
    obtain ⟨rest, hob, htk⟩ := hsum
    have hlen : l'.length + n' = l.length + n := by
      have := congrArg List.length hlr.out
      rw [List.length_append, List.length_append, hr.out, HM.out] at this
      exact this
    obtain ⟨N, hN⟩ : ∃ N, N = l'.length := ⟨_, rfl⟩
    obtain ⟨st, hst⟩ : ∃ st, st = blks6 l' (l'.length / 128) := ⟨_, rfl⟩
    have hok : st.ok := by rw [hst]; exact blks6_ok _ _
    rw [← hst, ← hN] at hob
    rw [← hN] at hlen
    have HN := Lib.hid hN
    have HST := Lib.hid hst
    have HTK := Lib.hid htk
    have HLEN := Lib.hid hlen
    have hNb : N ≤ 1152921504606846976 := by omega
    have hnb : n' ≤ 1152921504606846976 := by omega
    have hNn : N + n' ≤ 1152921504606846976 := by omega
    clear hN hst htk hlen
    by_cases h0 : 0 < n'
    · have c136 := hob.cnt
      have hcut := cut_l Tryd.underlying71 Tryd.sizeByte g 8 (N % 128) ((N : Int).tmod 128) (tmod128 N) (by omega)
      go_wp2_with fail
      go_region_law ((refine step_copy_but rfl (.tmp 16) (.tmp 17) 24 rfl 5 Tryd.underlying24 Tryd.sizeByte g (8 + N % 128) (128 - N % 128) (128 - N % 128) n' c' A' (by rfl) (by rfl) (lc st.list rest N) 73 hob.1 r wr.heap.size hsrc.byt hr.out h0 (by have := lc_len st rest N hob.2; omega) wr (But.refl g wr).drew ?_; intro w2 hg2' hb2))
      clear hcut c136
      have hxl : (r.take (128 - N % 128)).length = min n' (128 - N % 128) := by rw [List.length_take, hr.out]; exact Nat.min_comm _ _
      generalize ht : min n' (128 - N % 128) = t at *
      have ht1 : 0 < t := by omega
      have ht2 : t ≤ n' := by omega
      have ht3 : N % 128 + t ≤ 128 := by omega
      have htx : r.take (128 - N % 128) = r.take t := by
        by_cases hq : 128 - N % 128 ≤ n'
        · rw [show t = 128 - N % 128 by omega]
        · rw [show t = n' by omega, List.take_of_length_le (by rw [hr.out]; omega), List.take_of_length_le (by rw [hr.out]; exact Nat.le_refl _)]
      rw [htx] at hxl
      have hob2 : LObj w2 g st (rest.take (N % 128) ++ (r.take t ++ rest.drop (N % 128 + (r.take t).length))) N := by
        refine ⟨?_, ?_⟩
        · have h1 := hg2'.out
          rw [htx, lc_splice st rest (r.take t) N (N % 128) hob.2 (by rw [hxl]; exact ht3)] at h1
          exact h1
        · have := hob.2
          simp only [List.length_append, List.length_take, List.length_drop, hr.out]; omega
      have hsrc2 := (hsrc.but hb2).cut t c' (by rw [hr.out]; exact hc')
      have hcut2 := run_cut_l Tryd.underlying24 Tryd.sizeByte A' n' c' t (t : Int) rfl ht2
      generalize hA2 : (if c' = t then A' else A'.map (·.add t)) = A2 at *
      have HXL := Lib.hid hxl
      clear hxl ht htx hA2 hg2'
      have c136 := hob2.cnt
      have f136 := hob2.frozen 136
      have hob3 : LObj (w2.setCell ⟨g, 136, none⟩ (.int .i64 ((N : Int) + (t : Int)))) g st (rest.take (N % 128) ++ (r.take t ++ rest.drop (N % 128 + (r.take t).length))) (N + t) := by
        have h1 := hob2.count (N + t)
        rwa [Int.natCast_add] at h1
      have hb3 : But g wr (w2.setCell ⟨g, 136, none⟩ (.int .i64 ((N : Int) + (t : Int)))) := hb2.set _
      have hlr2 : Hid ((l' ++ r.take t) ++ r.drop t = l ++ m) := by
        show _ = _
        rw [List.append_assoc, List.take_append_drop]; exact hlr.out
      have hrl : Hid ((r.drop t).length = n' - t) := by
        show _ = _
        rw [List.length_drop, hr.out]
      by_cases hz : (N + t) % 128 = 0
      · have hzb : (((N : Int) + (t : Int)) % 128 == 0) = true := by simp; omega
        go_wp2_with fail
        refine (lmix_any _ g st _ (N + t) hob3 (hl.but' hg2 (hbut.trans hb3)) hok).mono ?_
        rintro e w4 ⟨rfl, hob4, hb4⟩
        have hsum : LAt w4 g (l' ++ r.take t) := by
          refine lsum_whole (rest := rest) hob.2 HTK.out ?_ ?_
          · rw [← HN.out, HXL.out]; omega
          · rw [← HST.out, ← HN.out, HXL.out]
            have h1 := hob4
            rw [HXL.out] at h1
            exact h1
        go_wp2
        go_roundw
        case rel => exact ⟨_, _, A2, n' - t, c' - t, rfl, hrl, by omega, by omega, hlr2, hsum, hsrc2.but ((But.refl g w2).set _ |>.trans hb4), (hbut.trans hb3).trans hb4⟩
        case measure => simp [lenOf]; omega
      · have hzb : (((N : Int) + (t : Int)) % 128 == 0) = false := by simp; omega
        have hsum : LAt (w2.setCell ⟨g, 136, none⟩ (.int .i64 ((N : Int) + (t : Int)))) g (l' ++ r.take t) := by
          refine lsum_more (rest := rest) hob.2 HTK.out ?_ ?_
          · rw [← HN.out, HXL.out]; omega
          · rw [← HST.out, ← HN.out, HXL.out]
            have h1 := hob3
            rw [HXL.out] at h1
            exact h1
        go_wp2
        go_roundw
        case rel => exact ⟨_, _, A2, n' - t, c' - t, rfl, hrl, by omega, by omega, hlr2, hsum, hsrc2.but ((But.refl g w2).set _), hbut.trans hb3⟩
        case measure => simp [lenOf]; omega
    · have hr0 : r = [] := List.eq_nil_of_length_eq_zero (by rw [hr.out]; omega)
      have hl0 : l' = l ++ m := by rw [← hlr.out, hr0, List.append_nil]
      have hsum : LAt wr g (l ++ m) := by
        rw [← hl0]
        refine ⟨rest, ?_, HTK.out⟩
        rw [← HST.out, ← HN.out]; exact hob
      have hn0 : n' = 0 := by omega
      subst hn0
      clear hl0 hr0
      go_wp2
      go_end0
      exact ⟨rfl, hsum, hbut⟩
end Go.Proofs.YtcefdcjpddohaaaDoor
namespace Go.Proofs.YtcefdcjpddohaaaDoor
open Go.RowKit

set_option maxRecDepth 100000 in
theorem big_any (A : Option Addr) (l : List UInt8) (n c v : Nat) (k : Int) (w : World) (ha : Byt w w.heap.size A l) (hl : l.length = n) (hn : n ≤ 70368744177664) (hv : v < 18446744073709551616) :
    Calls Tryd.prog 40 #[.slice A n c, .int .u64 (v : Int), .int .i64 k] w fun e w' => ∃ A' c', e = .returned (.slice A' (n + wd k) c') ∧ Res w' w.heap.size 5 A' (n + wd k) c' (l ++ be v (wd k)) ∧ Below w.heap.size w w' := by
  have hw := wd_le k
  generalize hm : wd k = m at *
  have HM := Lib.hid hm
  have HL := Lib.hid hl
  clear hm hl
  have HV := Lib.hid hv
  clear hv
  go_enter Tryd.func40, Tryd.ntmps40
  go_wp2_with fail
  refine (width_any _ _).mono ?_
  rintro e w' ⟨rfl, rfl⟩
  rw [HM.out]
  go_wp2_with fail
  refine (roomier_any A l n c m _ ha HL.out (by omega) hw).mono ?_
  rintro e w1 ⟨A1, c1, rfl, hr1, hb1⟩
  have HR := Lib.hid hr1
  clear hr1
  go_wp2_with fail
  go_loopw [7, 8] (fun s i wr => ∃ (k' : Nat) (X : List UInt8) (A2 : Option Addr) (n2 c2 : Nat), k' ≤ m ∧ i = .int .i64 ((k' : Int) - 1) ∧ s = .slice A2 n2 c2 ∧ n2 + k' = n + m ∧ Res wr w.heap.size 5 A2 n2 c2 X ∧ X ++ be v k' = l ++ be v m ∧ Below w.heap.size w wr)
    (fun _ i _ => (intOf i + 1).toNat)
  case atStart => exact ⟨m, l, A1, n, c1, Nat.le_refl _, rfl, rfl, rfl, HR.out, rfl, hb1⟩
  case round =>
    obtain ⟨k', X, A2, n2, c2, hk', rfl, rfl, hn2, hres, hX, hbel⟩ := hrel
    have HX := Lib.hid hX
    have HN := Lib.hid hn2
    have hn3 : n2 ≤ n + m := by omega
    clear hX hn2
    by_cases h0 : 0 < k'
    · obtain ⟨k2, rfl⟩ : ∃ k2, k' = k2 + 1 := ⟨k' - 1, by omega⟩
      go_wp2_with (at_builtin; refine wp_append_bytes _ rfl (.tmp 20) (.tmp 26) 24 rfl 5 Tryd.underlying24 Tryd.infoByte w.heap.size A2 n2 c2 X rfl (hres.alloc _) ⟨wr.heap.size, 0, none⟩ 1 1 rfl [UInt8.ofNat (v / 2 ^ (8 * k2))] rfl (new_byte _ _ _ _ (byte_of v (8 * k2))) (by omega) (by have := hbel.size; simp; omega) ?_)
      intro A3 c3 w3 hres3 hb3
      have hbel3 := hb3 w.heap.size w (Nat.le_refl _) (hbel.alloc (by have := hbel.size; omega) _)
      clear hb3 hres hbel
      go_wp2
      go_roundw
      case rel => exact ⟨k2, _, A3, n2 + 1, c3, by omega, by go_num, rfl, by have := HN.out; omega, hres3, by rw [List.append_assoc]; exact HX.out, hbel3⟩
      case measure => simp [intOf]
    · obtain rfl : k' = 0 := by omega
      go_wp2
      go_ret
      have e1 : n2 = n + m := by have := HN.out; omega
      have e2 : X = l ++ be v m := by have := HX.out; simpa [be] using this
      subst e1 e2
      exact ⟨_, _, rfl, hres, hbel⟩
end Go.Proofs.YtcefdcjpddohaaaDoor
namespace Go.Proofs.YtcefdcjpddohaaaDoor
open Go.RowKit

theorem wd8l : wd 8 = 8 := by decide
theorem be_16 (v : Nat) (hv : v < 18446744073709551616) : be v 16 = List.replicate 8 0 ++ be v 8 := by
  have h : ∀ k, 18446744073709551616 ≤ 2 ^ k → v / 2 ^ k = 0 := fun k hk => Nat.div_eq_of_lt (Nat.lt_of_lt_of_le hv hk)
  rw [be, be, be, be, be, be, be, be, h _ (by decide), h _ (by decide), h _ (by decide), h _ (by decide), h _ (by decide), h _ (by decide), h _ (by decide), h _ (by decide)]
  rfl
theorem ending6_as (n : Nat) (hn : n ≤ 1152921504606846976) : ending6 n = (128 :: List.replicate (gap6 n + 8 - 1) 0) ++ be (n * 8 % 18446744073709551616) 8 := by
  have h := gap6_pos n
  rw [Nat.mod_eq_of_lt (by omega), ending6, be_16 _ (by omega), show gap6 n + 8 - 1 = (gap6 n - 1) + 8 by omega, ← List.replicate_append_replicate]
  simp

set_option maxRecDepth 100000 in
theorem ending6_big (n G : Nat) (w w1 : World) (hg1 : w1.heap[w.heap.size]? = some (.cells (bv (List.replicate G 0)).toArray 5 (0, 0))) (hb1 : Below w.heap.size w w1) (h1 : 1 ≤ G) (h2 : G ≤ 1000) (hn : n ≤ 1152921504606846976) :
    Calls Tryd.prog 40 #[.slice (some ⟨w.heap.size, 0, none⟩) G G, .int .u64 ((n : Int) * 8), .int .i64 8] (w1.setCell ⟨w.heap.size, 0, none⟩ (.int .u8 128)) fun e w' => ∃ A c, e = .returned (.slice A (G + 8) c) ∧ Res w' w.heap.size 5 A (G + 8) c ((128 :: List.replicate (G - 1) 0) ++ be (n * 8 % 18446744073709551616) 8) ∧ Below w.heap.size w w' := by
  obtain ⟨m, rfl⟩ : ∃ m, G = m + 1 := ⟨G - 1, by omega⟩
  have hlt : w.heap.size < w1.heap.size := (Array.getElem?_eq_some_iff.1 hg1).1
  have hrow := heap_setCell_same w1 w.heap.size 0 _ _ (.int .u8 128) hg1
  have hb2 : Below w.heap.size w (w1.setCell ⟨w.heap.size, 0, none⟩ (.int .u8 128)) := hb1.setCell (Nat.le_refl _) _
  have hbyt : Byt (w1.setCell ⟨w.heap.size, 0, none⟩ (.int .u8 128)) (w1.setCell ⟨w.heap.size, 0, none⟩ (.int .u8 128)).heap.size (some ⟨w.heap.size, 0, none⟩) (128 :: List.replicate m 0) := by
    refine .inr ⟨w.heap.size, 0, rfl, by simp [World.setCell]; exact hlt, fun j b hj => ?_⟩
    rw [Nat.zero_add, cell_of_row _ _ _ _ _ _ hrow]
    have h3 := bv_at (128 :: List.replicate m 0) j
    rw [hj] at h3
    simpa [bv, List.replicate_succ] using h3
  have hbig := big_any (some ⟨w.heap.size, 0, none⟩) (128 :: List.replicate m 0) (m + 1) (m + 1) (n * 8) 8 _ hbyt (by simp) (by omega) (by omega)
  rw [show ((n * 8 : Nat) : Int) = (n : Int) * 8 by omega, wd8l] at hbig
  refine hbig.mono ?_
  rintro e w2 ⟨A, c, rfl, hr, hb⟩
  refine ⟨A, c, rfl, ?_, hb2.trans (hb.mono (by simp [World.setCell]; omega))⟩
  rw [Nat.mod_eq_of_lt (by omega), Nat.add_sub_cancel]
  exact hr.base_le (by simp [World.setCell]; omega)

set_option maxRecDepth 100000 in
theorem ending6_any (n : Nat) (w : World) (hn : n ≤ 1152921504606846976) :
    Calls Tryd.prog 39 #[.int .i64 (n : Int), .int .i64 128, .int .i64 16] w fun e w' => ∃ A c, e = .returned (.slice A (gap6 n + 16) c) ∧ Res w' w.heap.size 5 A (gap6 n + 16) c (ending6 n) ∧ Below w.heap.size w w' := by
  obtain ⟨i0, hi, hz0, hz1, hz2⟩ := info_parts Tryd.infoByte
  have hgp := gap6_pos n
  by_cases hs : 128 - n % 128 < 17
  · have hgap : gap6 n + 8 = 256 - n % 128 - 8 := by unfold gap6; rw [if_pos hs]; omega
    obtain ⟨w1, hrun, hg1, hb1, hs1⟩ := make_bytes (P := Tryd.prog) Tryd.underlying24 hi hz0 hz1 hz2 (gap6 n + 8) (gap6 n + 8) (128 - (n : Int) % 128 + 128 - 8) (128 - (n : Int) % 128 + 128 - 8) (by omega) (by omega) (by omega) (by omega) w
    have hend := Lib.hid (ending6_as n hn)
    generalize hG : gap6 n + 8 = G at *
    have hgp1 : 1 ≤ G := by omega
    have hgp2 : G ≤ 1000 := by omega
    have HG := Lib.hid (show gap6 n + 16 = G + 8 by omega)
    clear hi hz0 hz1 hz2 hgap hG hgp
    have d1 : (128 - (n : Int) % 128 < 17) := by omega
    have hc0 : w1.cell? ⟨w.heap.size, 0, none⟩ = some (.int .u8 0) := by
      rw [cell_of_row _ _ _ _ _ _ hg1.out]
      obtain ⟨m, rfl⟩ : ∃ m, G = m + 1 := ⟨G - 1, by omega⟩
      rfl
    have hf0 : w1.frozen? ⟨w.heap.size, 0, none⟩ = false := frozen_of_row _ _ _ _ _ hg1.out
    have hbig := ending6_big n G w w1 hg1.out hb1.out hgp1 hgp2 hn
    go_enter Tryd.func39, Tryd.ntmps39
    go_wp2_with fail
    refine hbig.mono ?_
    rintro e w2 ⟨A, c, rfl, hr, hb⟩
    clear hbig
    go_wp2
    go_ret
    refine ⟨A, c, by rw [HG.out]; rfl, ?_, hb⟩
    rw [hend.out, HG.out]
    exact hr
  · have hgap : gap6 n + 8 = 128 - n % 128 - 8 := by unfold gap6; rw [if_neg hs]; omega
    obtain ⟨w1, hrun, hg1, hb1, hs1⟩ := make_bytes (P := Tryd.prog) Tryd.underlying24 hi hz0 hz1 hz2 (gap6 n + 8) (gap6 n + 8) (128 - (n : Int) % 128 - 8) (128 - (n : Int) % 128 - 8) (by omega) (by omega) (by omega) (by omega) w
    have hend := Lib.hid (ending6_as n hn)
    generalize hG : gap6 n + 8 = G at *
    have hgp1 : 1 ≤ G := by omega
    have hgp2 : G ≤ 1000 := by omega
    have HG := Lib.hid (show gap6 n + 16 = G + 8 by omega)
    clear hi hz0 hz1 hz2 hgap hG hgp
    have d1 : ¬ (128 - (n : Int) % 128 < 17) := by omega
    have hc0 : w1.cell? ⟨w.heap.size, 0, none⟩ = some (.int .u8 0) := by
      rw [cell_of_row _ _ _ _ _ _ hg1.out]
      obtain ⟨m, rfl⟩ : ∃ m, G = m + 1 := ⟨G - 1, by omega⟩
      rfl
    have hf0 : w1.frozen? ⟨w.heap.size, 0, none⟩ = false := frozen_of_row _ _ _ _ _ hg1.out
    have hbig := ending6_big n G w w1 hg1.out hb1.out hgp1 hgp2 hn
    go_enter Tryd.func39, Tryd.ntmps39
    go_wp2_with fail
    refine hbig.mono ?_
    rintro e w2 ⟨A, c, rfl, hr, hb⟩
    clear hbig
    go_wp2
    go_ret
    refine ⟨A, c, by rw [HG.out]; rfl, ?_, hb⟩
    rw [hend.out, HG.out]
    exact hr
end Go.Proofs.YtcefdcjpddohaaaDoor
namespace Go.Proofs.YtcefdcjpddohaaaDoor
open Go.RowKit

/-- A list of lists of bytes that came in. -/
def Prt (w : World) (B : Nat) (A : Option Addr) (ps : List (List UInt8)) : Prop :=
  ps = [] ∨ ∃ b o, A = some ⟨b, o, none⟩ ∧ b < B ∧ ∀ j p, ps[j]? = some p → ∃ Aj nj cj, w.cell? ⟨b, o + j, none⟩ = some (.slice Aj nj cj) ∧ p.length = nj ∧ nj ≤ cj ∧ Byt w B Aj p
section
variable {w w' : World} {B B' : Nat} {A : Option Addr} {ps : List (List UInt8)}
theorem Prt.below (h : Prt w B A ps) (hb : Below B w w') : Prt w' B A ps := by
  rcases h with h | ⟨b, o, hA, hlt, hc⟩
  · exact .inl h
  · refine .inr ⟨b, o, hA, hlt, fun j p hj => ?_⟩
    obtain ⟨Aj, nj, cj, h1, h2, h3, h4⟩ := hc j p hj
    exact ⟨Aj, nj, cj, (hb.cell (p := ⟨b, o + j, none⟩) hlt).trans h1, h2, h3, h4.below hb⟩
theorem Prt.up (h : Prt w B A ps) (hB : B ≤ B') : Prt w B' A ps := by
  rcases h with h | ⟨b, o, hA, hlt, hc⟩
  · exact .inl h
  · refine .inr ⟨b, o, hA, by omega, fun j p hj => ?_⟩
    obtain ⟨Aj, nj, cj, h1, h2, h3, h4⟩ := hc j p hj
    exact ⟨Aj, nj, cj, h1, h2, h3, h4.up hB⟩
theorem Prt.at_ (h : Prt w B A ps) {k : Nat} (hk : k < ps.length) : ∃ b o Aj nj cj p, A = some ⟨b, o, none⟩ ∧ b < B ∧ w.cell? ⟨b, o + k, none⟩ = some (.slice Aj nj cj) ∧ Hid (ps[k]? = some p) ∧ Hid (p.length = nj) ∧ nj ≤ cj ∧ Byt w B Aj p := by
  rcases h with h | ⟨b, o, hA, hlt, hc⟩
  · subst h; simp at hk
  · obtain ⟨Aj, nj, cj, h1, h2, h3, h4⟩ := hc k _ (List.getElem?_eq_getElem hk)
    exact ⟨b, o, Aj, nj, cj, _, hA, hlt, h1, List.getElem?_eq_getElem hk, h2, h3, h4⟩
end
theorem flat_take {ps : List (List UInt8)} {k : Nat} {p : List UInt8} (h : ps[k]? = some p) : (ps.take (k + 1)).flatten = (ps.take k).flatten ++ p := by
  obtain ⟨hk, rfl⟩ := List.getElem?_eq_some_iff.1 h
  rw [List.take_succ_eq_append_getElem hk, List.flatten_append, List.flatten_cons, List.flatten_nil, List.append_nil]
theorem flat_le (ps : List (List UInt8)) (k : Nat) : (ps.take k).flatten.length ≤ ps.flatten.length := by
  have h : ps.flatten.length = ((ps.take k) ++ (ps.drop k)).flatten.length := by rw [List.take_append_drop]
  rw [h, List.flatten_append, List.length_append]; omega
/-- A list of one list. -/
theorem Prt.one {w : World} {E : TypeId} {A : Option Addr} {l : List UInt8} {n c : Nat} (ha : Byt w w.heap.size A l) (hl : l.length = n) (hc : n ≤ c) :
    Prt (w.alloc (.cells #[.slice A n c] E)) (w.alloc (.cells #[.slice A n c] E)).heap.size (some ⟨w.heap.size, 0, none⟩) [l] := by
  refine .inr ⟨w.heap.size, 0, rfl, by simp, fun j p hj => ?_⟩
  match j, hj with
  | 0, hj =>
    simp at hj
    subst hj
    exact ⟨A, n, c, by simp, hl, hc, (ha.alloc (Nat.le_refl _) _).up (by simp)⟩
/-- A list of two lists. -/
theorem Prt.two {w : World} {E : TypeId} {A D : Option Addr} {l m : List UInt8} {n c k d : Nat} (ha : Byt w w.heap.size A l) (hl : l.length = n) (hc : n ≤ c) (hd : Byt w w.heap.size D m) (hm : m.length = k) (hk : k ≤ d) :
    Prt (w.alloc (.cells #[.slice A n c, .slice D k d] E)) (w.alloc (.cells #[.slice A n c, .slice D k d] E)).heap.size (some ⟨w.heap.size, 0, none⟩) [l, m] := by
  refine .inr ⟨w.heap.size, 0, rfl, by simp, fun j p hj => ?_⟩
  match j, hj with
  | 0, hj =>
    simp at hj
    subst hj
    exact ⟨A, n, c, by simp, hl, hc, (ha.alloc (Nat.le_refl _) _).up (by simp)⟩
  | 1, hj =>
    simp at hj
    subst hj
    exact ⟨D, k, d, by simp, hm, hk, (hd.alloc (Nat.le_refl _) _).up (by simp)⟩
theorem Prt.next {w w' : World} {A : Option Addr} {ps : List (List UInt8)} (h : Prt w w.heap.size A ps) (hb : Below w.heap.size w w') : Prt w' w'.heap.size A ps := (h.below hb).up hb.size
end Go.Proofs.YtcefdcjpddohaaaDoor
namespace Go.Proofs.YtcefdcjpddohaaaDoor
open Go.RowKit

theorem zero_l64 (w : World) : (zeroValue 27).run Tryd.prog w = .ok (.agg (bv z64).toArray) w := by kernel_rfl
/-- The state while the first words are laid. -/
def newl : Nat → List Nat
  | 0 => List.replicate 8 0
  | k + 1 => (newl k).set k (startOf k)
theorem newl_len : ∀ k, (newl k).length = 8
  | 0 => rfl
  | k + 1 => by simp [newl, newl_len k]
theorem newl_end : newl 8 = sl0.list := by rfl
theorem newl_at : ∀ (k j : Nat), k ≤ j → j < 8 → (newl k)[j]? = some 0
  | 0, j, _, h => by rw [newl, List.getElem?_replicate, if_pos h]
  | k + 1, j, h1, h2 => by rw [newl, List.getElem?_set_ne (by omega)]; exact newl_at k j (by omega) h2
theorem lc_set (ws : List Nat) (rest : List UInt8) (n k x : Nat) (hk : k < ws.length) : (lc ws rest n).set k (.int .u64 (x : Int)) = lc (ws.set k x) rest n := by
  rw [lc, List.set_append_left _ _ (by rw [u64v_len]; exact hk), u64v_set, lc]
theorem lc_at (ws : List Nat) (rest : List UInt8) (n k x : Nat) (h : ws[k]? = some x) : (lc ws rest n)[k]? = some (.int .u64 (x : Int)) := by
  rw [lc, List.getElem?_append_left (by rw [u64v_len]; exact (List.getElem?_eq_some_iff.1 h).1), u64v_at, h]; rfl
theorem LAt.nil {w : World} {g : Nat} (h : w.heap[g]? = some (.cells (lc (newl 8) zl128 0).toArray 73 (0, 0))) : LAt w g [] := by
  rw [newl_end] at h
  exact ⟨zl128, ⟨h, rfl⟩, rfl⟩
/-- The bytes of the first k words. -/
def outp6 (s : Sl) : Nat → List UInt8
  | 0 => []
  | k + 1 => outp6 s k ++ be (s.at_ k) 8
theorem outp6_len (s : Sl) : ∀ k, (outp6 s k).length = 8 * k
  | 0 => rfl
  | k + 1 => by simp [outp6, outp6_len s k, be_len]; omega
theorem outp6_end (s : Sl) : outp6 s 8 = out6 s := by simp [outp6, out6, Sl.at_, Sl.list]
set_option maxRecDepth 100000 in
theorem big8l (v : Nat) (w : World) (hv : v < 18446744073709551616) :
    Calls Tryd.prog 40 #[.slice none 0 0, .int .u64 (v : Int), .int .i64 8] w fun e w' => ∃ A c, e = .returned (.slice A 8 c) ∧ Res w' w.heap.size 5 A 8 c (be v 8) ∧ Below w.heap.size w w' := by
  have h := big_any none [] 0 0 v 8 w Byt.none_ rfl (by omega) (by omega)
  rw [wd8l] at h
  exact h

set_option maxRecDepth 100000 in
set_option maxHeartbeats 1000000 in
theorem long_any (w : World) (A : Option Addr) (ps : List (List UInt8)) (n c : Nat) (hP : Prt w w.heap.size A ps) (hn : ps.length = n) (hl : LaidL w) (hbig : ps.flatten.length ≤ 288230376151711744) (hn2 : n ≤ 140737488355328) :
    Calls Tryd.prog 24 #[.slice A n c] w fun e w' => ∃ X, e = .returned (.agg (bv X).toArray) ∧ Vlt (X = longSum ps.flatten) ∧ Hid (X.length = 64) ∧ Below w.heap.size w w' := by
  have hzw := zero_l64
  have hzl := zero_lsum
  have HN := Lib.hid hn
  clear hn
  go_enter Tryd.func24, Tryd.ntmps24
  go_wp2
  go_loopw [12] (fun i wr => ∃ k : Nat, k ≤ 8 ∧ i = .int .i64 (k : Int) ∧ Hid (wr.heap[w.heap.size + 1]? = some (.cells (lc (newl k) zl128 0).toArray 73 (0, 0))) ∧ Hid (wr.heap[w.heap.size]? = some (.cells (bv z64).toArray 27 (0, 0))) ∧ Below w.heap.size w wr) (fun i _ => 8 - (intOf i).toNat)
  case atStart => exact ⟨0, by omega, rfl, heap_alloc2_new _ _ _, heap_alloc2_old _ _ _, ((Below.refl _ _).alloc (Nat.le_refl _) _).alloc (by simp) _⟩
  case round =>
    obtain ⟨k, hk, rfl, hg, hz, hb⟩ := hrel
    by_cases hlt : k < 8
    · have hc : wr.cell? ⟨w.heap.size + 1, k, none⟩ = some (.int .u64 0) := by rw [cell_of_row _ _ _ _ _ _ hg.out]; simpa using lc_at (newl k) zl128 0 k 0 (newl_at k k (Nat.le_refl _) hlt)
      have hf : wr.frozen? ⟨w.heap.size + 1, k, none⟩ = false := frozen_of_row _ _ _ _ _ hg.out
      have hs := (hl.next hb).start k hlt
      go_wp2_with fail
      go_region
      go_wp2
      go_roundw
      case rel =>
        refine ⟨k + 1, by omega, by go_num, ?_, (heap_setCell_other _ _ _ _ (by simp)).trans hz.out, (hb.setCell (by simp) _).drew⟩
        have h1 := heap_setCell_same wr (w.heap.size + 1) k _ _ (.int .u64 ((startOf k : Nat) : Int)) hg.out
        refine h1.trans ?_
        rw [newl, ← lc_set (newl k) zl128 0 k (startOf k) (by rw [newl_len]; exact hlt)]
        simp
      case measure => simp [intOf]; omega
    · have hs1 : LAt wr (w.heap.size + 1) [] := by
        refine LAt.nil ?_
        rw [← show k = 8 by omega]; exact hg.out
      clear hg
      obtain ⟨Y0, h⟩ : ∃ Y0, Y0 = wr := ⟨_, rfl⟩
      subst h
      go_wp2
      clear hlt hk
      obtain ⟨k0, rfl⟩ : ∃ k0, k = k0 := ⟨_, rfl⟩
      go_loopw [26] (fun i wr => ∃ k : Nat, k ≤ n ∧ i = .int .i64 (k : Int) ∧ LAt wr (w.heap.size + 1) (ps.take k).flatten ∧ Hid (wr.heap[w.heap.size]? = some (.cells (bv z64).toArray 27 (0, 0))) ∧ Below w.heap.size w wr) (fun i _ => n - (intOf i).toNat)
      case atStart => exact ⟨0, by omega, rfl, hs1, hz, hb⟩
      case round =>
        clear hs1 hz hb
        obtain ⟨k, hk, rfl, hs, hz, hb⟩ := hrel
        by_cases hlt : k < n
        · obtain ⟨b, o, Aj, nj, cj, p, rfl, hbl, hcell, hget, hpl, hcj, hbt⟩ := (hP.below hb).at_ (k := k) (by rw [HN.out]; exact hlt)
          have hfl : ((ps.take k).flatten).length + nj ≤ 1152921504606846976 := by
            have h1 := flat_le ps (k + 1)
            rw [flat_take hget.out, List.length_append, hpl.out] at h1
            omega
          have hadd := sum6_add wr (w.heap.size + 1) (ps.take k).flatten p Aj nj cj hs (hl.next hb) (hl.hi (Nat.le_succ _)) (hbt.toSrc hb.size (by omega)) hpl.out hcj hfl
          go_wp2_with fail
          refine hadd.mono ?_
          rintro e w3 ⟨rfl, hs3, hbut⟩
          clear hadd hcell hfl
          go_wp2
          go_roundw
          case rel =>
            refine ⟨k + 1, by omega, by go_num, ?_, ?_, But.below hb hbut (by omega) hb.size⟩
            · rw [flat_take hget.out]; exact hs3
            · exact (hbut.block _ (Array.getElem?_eq_some_iff.1 hz.out).1 (by intro e; injection e; omega)).trans hz.out
          case measure => simp [intOf]; omega
        · have HK := Lib.hid (show k = n by omega)
          have hs' : LAt wr (w.heap.size + 1) ps.flatten := by
            have h1 := hs
            rw [List.take_of_length_le (by rw [HN.out, HK.out]; exact Nat.le_refl _)] at h1
            exact h1
          clear hs HK
          obtain ⟨l, hll⟩ : ∃ l, l = ps.flatten := ⟨_, rfl⟩
          rw [← hll] at hs' hbig
          have HL := Lib.hid hll
          clear hll
          obtain ⟨rest, hob, htk⟩ := hs'
          obtain ⟨N, hN⟩ : ∃ N, N = l.length := ⟨_, rfl⟩
          obtain ⟨st, hst⟩ : ∃ st, st = blks6 l (l.length / 128) := ⟨_, rfl⟩
          rw [← hst, ← hN] at hob
          rw [← hN] at hbig
          have HN2 := Lib.hid hN
          have HST := Lib.hid hst
          have HTK := Lib.hid htk
          clear hN hst htk
          have c136 := hob.cnt
          have hgl := hob.lt
          have hend := ending6_any N wr (by omega)
          go_wp2_with fail
          refine hend.mono ?_
          rintro e w3 ⟨A3, c3, rfl, hr3, hb3⟩
          clear hend c136
          have hs3 : LAt w3 (w.heap.size + 1) l := (show LAt wr (w.heap.size + 1) l from ⟨rest, by rw [← HST.out, ← HN2.out]; exact hob, HTK.out⟩).below hgl hb3
          have hb3' : Below w.heap.size w w3 := below_next hb hb.size hb3
          have hz3 : Hid (w3.heap[w.heap.size]? = some (.cells (bv z64).toArray 27 (0, 0))) := (hb3.block _ (by omega)).trans hz.out
          have hadd := sum6_add w3 (w.heap.size + 1) l (ending6 N) A3 (gap6 N + 16) c3 hs3 (hl.next hb3') (hl.hi (Nat.le_succ _)) (hr3.toSrc (by omega)) (ending6_len N) hr3.cap (by have := gap6_pos N; rw [← HN2.out]; omega)
          clear hs3 hr3 hb3 hob hgl hz
          go_wp2_with fail
          refine hadd.mono ?_
          rintro e w4 ⟨rfl, hs4, hbut4⟩
          clear hadd
          have hpad : l ++ ending6 N = padded6 l := by rw [HN2.out]; rfl
          rw [hpad] at hs4
          have hb4 : Below w.heap.size w w4 := But.below hb3' hbut4 (by omega) hb3'.size
          have hr4 : Hid (w4.heap[w.heap.size]? = some (.cells (bv z64).toArray 27 (0, 0))) := (hbut4.block _ (Array.getElem?_eq_some_iff.1 hz3.out).1 (by simp)).trans hz3.out
          obtain ⟨rest4, hob4, htk4⟩ := hs4
          obtain ⟨st4, hst4⟩ : ∃ s, s = blks6 (padded6 l) ((padded6 l).length / 128) := ⟨_, rfl⟩
          have hok4 : st4.ok := by rw [hst4]; exact blks6_ok _ _
          rw [← hst4] at hob4
          have HSH := Lib.hid (show longSum ps.flatten = out6 st4 by rw [hst4, ← HL.out]; rfl)
          clear hst4 htk4 hpad hz3 hb3' hbut4 HN2 HST HTK
          have hg4 := hob4.lt
          have hb5 : Below w.heap.size w (w4.alloc (.cells (bv z64).toArray 27)) := hb4.alloc hb4.size _
          have hob5 := hob4.below hg4 ((Below.refl w4.heap.size w4).alloc (Nat.le_refl _) (.cells (bv z64).toArray 27))
          have hrg : Hid ((w4.alloc (.cells (bv z64).toArray 27)).rangeAt (w.heap.size + 1) 0 (u64v st4.list)) := by
            intro j v hj
            rw [Nat.zero_add, hob5.cell, lc, List.getElem?_append_left (List.getElem?_eq_some_iff.1 hj).1]
            exact hj
          clear hob5
          go_wp2_with (with_reducible refine wpList_load_mid rfl 55 (.tmp 43) rfl (w.heap.size + 1) 0 rfl (u64v st4.list) _ hrg.out Tryd.underlying55 rfl (by kernel_rfl) ?_)
          go_loopw [45] (fun i wr => ∃ k : Nat, k ≤ 8 ∧ i = .int .i64 (k : Int) ∧ Hid (wr.heap[w4.heap.size]? = some (.cells (bv (uptoB 64 (outp6 st4 k))).toArray 27 (0, 0))) ∧ Hid (wr.heap[w.heap.size]? = some (.cells (bv z64).toArray 27 (0, 0))) ∧ Below w.heap.size w wr) (fun i _ => 8 - (intOf i).toNat)
          case atStart => exact ⟨0, by omega, rfl, heap_alloc_new _ _, (Below.heap_alloc _ _ _ (Array.getElem?_eq_some_iff.1 hr4.out).1).trans hr4.out, hb5⟩
          case round =>
            clear hb5 hrg hr4
            obtain ⟨k, hk, rfl, hg1, hg0, hb⟩ := hrel
            have hw4 := hb4.size
            have hsz : w4.heap.size < wr.heap.size := (Array.getElem?_eq_some_iff.1 hg1.out).1
            by_cases hlt : k < 8
            · have hix := at_agg Tryd.underlying55 Tryd.sizeU64l Tryd.underlying52 (u64v st4.list) k (.int .u64 ((st4.at_ k : Nat) : Int)) (k : Int) rfl hlt (by rw [u64v_at, sl_at st4 k hlt]; rfl)
              have hcut := cut_l Tryd.underlying27 Tryd.sizeByte w4.heap.size 0 (8 * k) (8 * (k : Int)) (by omega) (by omega)
              rw [Nat.zero_add] at hcut
              have hv := at6_lt st4 hok4 k
              have hwr : IntKind.i64.wrap (8 * (k : Int)) = 8 * (k : Int) := IntWalk.i64_in _ (by omega)
              go_wp2_with fail
              refine wp_region_held_drew (S := (fun W => Below w4.heap.size wr W)) (by kernel_rfl) ((Below.refl _ _).drew) (fun hHeld => ?_)
              refine wpAnyH_take (i := 0) (oi := ⟨(some 49), _, _, _, _, _⟩) (v := ?vq1_0) rfl (by kernel_rfl) (by kernel_rfl) (by kernel_rfl) (fun _ _ _ h => h) (Or.inl ⟨by rfl, ?yq1_0⟩) hHeld ?_
              case yq1_0 => (intro W0 hSw; go_simp; try with_reducible rfl)
              try simp only [Act.put, List.setIfInBounds_toArray, List.set_cons_zero, List.set_cons_succ]
              refine wpAnyH_take (i := 1) (oi := ⟨(some 50), _, _, _, _, _⟩) (v := ?vq1_1) rfl (by kernel_rfl) (by kernel_rfl) (by kernel_rfl) (fun _ _ _ h => h) (Or.inl ⟨by rfl, ?yq1_1⟩) hHeld ?_
              case yq1_1 => (intro W0 hSw; go_simp; try with_reducible rfl)
              try simp only [Act.put, List.setIfInBounds_toArray, List.set_cons_zero, List.set_cons_succ]
              refine wpAnyH_take (i := 2) (oi := ⟨(some 51), _, _, _, _, _⟩) (v := ?vq1_2) rfl (by kernel_rfl) (by kernel_rfl) (by kernel_rfl) (fun _ _ _ h => h) (Or.inl ⟨by rfl, ?yq1_2⟩) hHeld ?_
              case yq1_2 => (intro W0 hSw; go_simp; try with_reducible rfl)
              try simp only [Act.put, List.setIfInBounds_toArray, List.set_cons_zero, List.set_cons_succ]
              refine wpAnyH_take (i := 3) (oi := ⟨(some 52), _, _, _, _, _⟩) (v := ?vq1_3) rfl (by kernel_rfl) (by kernel_rfl) (by kernel_rfl) (fun _ _ _ h => h) (Or.inl ⟨by rfl, ?yq1_3⟩) hHeld ?_
              case yq1_3 => (intro W0 hSw; go_simp; try with_reducible rfl)
              try simp only [Act.put, List.setIfInBounds_toArray, List.set_cons_zero, List.set_cons_succ]
              refine wpAnyH_ready (rs := [4]) (by kernel_rfl) (by simp) ?_
              refine AllReadyH.cons (i := 4) (o := ⟨(some 53), _, _, _, _, _⟩) rfl (fun K hK => ?_) AllReadyH.nil
              go_simp
              with_reducible refine (big8l (st4.at_ k) _ hv).mono ?_
              rintro e w6 ⟨A6, c6, rfl, hr6, hb6⟩
              have hb6' : Below w4.heap.size wr w6 := below_next hHeld (by simp; omega) hb6
              have hgW : Hid (w6.heap[w4.heap.size]? = some (.cells (bv (uptoB 64 (outp6 st4 k))).toArray 27 (0, 0))) := (hb6.block _ (by simp; omega)).trans hg1.out
              have hgZ : Hid (w6.heap[w.heap.size]? = some (.cells (bv z64).toArray 27 (0, 0))) := (hb6.block _ (by simp; omega)).trans hg0.out
              refine hK.out _ _ (hb6') (fun hHeld => ?_)
              clear hK K
              try simp only [Act.put, List.setIfInBounds_toArray, List.set_cons_zero, List.set_cons_succ]
              refine wpAnyH_ready (rs := [5]) (by kernel_rfl) (by simp) ?_
              refine AllReadyH.cons (i := 5) (o := ⟨(some 54), _, _, _, _, _⟩) rfl (fun K hK => ?_) AllReadyH.nil
              refine step_copy_but rfl (.tmp 51) (.tmp 53) 24 rfl 5 Tryd.underlying24 Tryd.sizeByte w4.heap.size (8 * k) (64 - 8 * k) (64 - 8 * k) 8 c6 A6 (by rfl) (by rfl) (bv (uptoB 64 (outp6 st4 k))) 27 hgW.out (be (st4.at_ k) 8) w6.heap.size hr6.byt (be_len _ _) (by decide) (by rw [bv_len, uptoB_len 64 _ (by rw [outp6_len]; omega)]; omega) w6 (But.refl _ _) ?_
              intro w7 hg7 hb7
              have hb7' : Below w4.heap.size wr w7 := But.below hb6' hb7 (Nat.le_refl _) (by have := hb6.size; simp at this; omega)
              refine hK.out _ _ (hb7') (fun hHeld => ?_)
              clear hK K
              try simp only [Act.put, List.setIfInBounds_toArray, List.set_cons_zero, List.set_cons_succ]
              refine wpAnyH_done (by kernel_rfl) ?_ _
              go_wp2
              go_roundw
              case rel =>
                refine ⟨k + 1, by omega, by go_num, ?_, ?_, ?_⟩
                · have h1 := hg7.out
                  have h2 := uptoB_splice 64 (outp6 st4 k) (be (st4.at_ k) 8) (by rw [outp6_len, be_len]; omega)
                  rw [outp6_len] at h2
                  rw [List.take_of_length_le (by rw [be_len]; omega), h2] at h1
                  exact h1
                · exact (hb7.block _ (Array.getElem?_eq_some_iff.1 hgZ.out).1 (by intro e; injection e; omega)).trans hgZ.out
                · exact hb.trans (hb7'.mono hw4)
              case measure => simp [intOf]; omega
            · have HK := Lib.hid (show k = 8 by omega)
              have hout : uptoB 64 (outp6 st4 k) = longSum ps.flatten := by rw [HK.out, HSH.out, outp6_end, uptoB_all 64 _ (out6_len _)]
              have H64a := Lib.hid (show (uptoB 64 (outp6 st4 k)).length = 64 from uptoB_len 64 _ (by rw [outp6_len]; omega))
              generalize hX : uptoB 64 (outp6 st4 k) = X at *
              have HX := vlt hout
              clear hout hX
              have H64 := Lib.hid (show (bv X).toArray.size = 64 by simp [bv_len, H64a.out])
              have hz64 := Lib.hid (show (bv z64).toArray.size = 64 from rfl)
              go_wp2_with (first
                | (with_reducible refine wpList_load_row rfl 27 (.tmp 7) rfl w4.heap.size rfl 27 (bv X).toArray (0, 0) _ hg1.out Tryd.underlying27 rfl (by rw [H64.out]; kernel_rfl) ?_)
                | (with_reducible refine wpList_store_row rfl 27 (.tmp 2) (.tmp 56) rfl w.heap.size (bv X).toArray rfl rfl 27 _ hg0.out (by rw [H64.out]; kernel_rfl) (by rw [H64.out]; exact hz64.out) (all_oneCell_toArray (bv_one _)) ?_))
              refine bodyPost_ret (v := .agg (bv X).toArray) (results_cell_row Tryd.results24 _ _ w.heap.size 27 _ (0, 0) _ rfl (setRow_heap _ _ _ _ _ _ hg0.out) Tryd.underlying27 rfl (by rw [H64.out]; kernel_rfl)) rfl ⟨X, rfl, HX, H64a, below_setRow hb (Nat.le_refl _) _⟩
end Go.Proofs.YtcefdcjpddohaaaDoor
namespace Go.Proofs.YtcefdcjpddohaaaDoor
open Go.RowKit

theorem Tryd.infoSl : (Tryd.prog.info? 24).map (fun i => (i.zero, i.size, i.bytes)) = some (some (.slice none 0 0), 1, 24) := by kernel_rfl
theorem sl_parts : ∃ i, Tryd.prog.info? 24 = some i ∧ i.zero = some (.slice none 0 0) ∧ i.size = 1 ∧ i.bytes = 24 := by
  obtain ⟨i, h1, h2⟩ := Option.map_eq_some_iff.1 Tryd.infoSl
  injection h2 with h3 h4
  injection h4 with h4 h5
  exact ⟨i, h1, h3, h4, h5⟩
/-- Values in memory, a cell each. -/
def Cls (w : World) (B : Nat) (A : Option Addr) (vs : List Value) : Prop :=
  vs = [] ∨ ∃ b o, A = some ⟨b, o, none⟩ ∧ b < B ∧ ∀ j v, vs[j]? = some v → w.cell? ⟨b, o + j, none⟩ = some v
/-- A slice of the call's own, of values of a cell each. -/
def Own (w : World) (base : Nat) (A : Option Addr) (n c : Nat) (vs : List Value) : Prop := w.ownsRow base 24 1 (.slice A n c) n vs
section
variable {w w' : World} {B n c base : Nat} {A : Option Addr} {vs : List Value}
theorem Cls.below (h : Cls w B A vs) (hb : Below B w w') : Cls w' B A vs := by
  rcases h with h | ⟨b, o, hA, hlt, hc⟩
  · exact .inl h
  · exact .inr ⟨b, o, hA, hlt, fun j v hj => (hb.cell (p := ⟨b, o + j, none⟩) hlt).trans (hc j v hj)⟩
theorem Cls.next (h : Cls w w.heap.size A vs) (hb : Below w.heap.size w w') : Cls w' w'.heap.size A vs := by
  rcases h with h | ⟨b, o, hA, hlt, hc⟩
  · exact .inl h
  · exact .inr ⟨b, o, hA, Nat.lt_of_lt_of_le hlt hb.size, fun j v hj => (hb.cell (p := ⟨b, o + j, none⟩) hlt).trans (hc j v hj)⟩
theorem Cls.up {B' : Nat} (h : Cls w B A vs) (hB : B ≤ B') : Cls w B' A vs := by
  rcases h with h | ⟨b, o, hA, hlt, hc⟩
  · exact .inl h
  · exact .inr ⟨b, o, hA, Nat.lt_of_lt_of_le hlt hB, hc⟩
theorem Cls.at_ {A0 o0 : Nat} (h : Cls w B (some ⟨A0, o0, none⟩) vs) : ∀ j u, vs[j]? = some u → w.cell? (Addr.add ⟨A0, o0, none⟩ j) = some u := by
  intro j u hj
  rcases h with h | ⟨b, o, hA, hlt, hc⟩
  · subst h; simp at hj
  · injection hA with hA
    injection hA with h1 h2
    subst h1 h2
    rw [addr_add]; exact hc j u hj
theorem Own.cls (h : Own w base A n c vs) : Cls w w.heap.size A vs := by
  rcases h.2 with ⟨hv, hn⟩ | ⟨g, cap, cur, hv, hB, hg, h1, h2, h3, h4⟩
  · refine .inl (List.eq_nil_of_length_eq_zero ?_)
    rw [h.1, hn]
  · injection hv with hA _ _
    refine .inr ⟨g, 0, hA, (Array.getElem?_eq_some_iff.1 hg).1, fun j v hj => ?_⟩
    rw [Nat.zero_add, cell_of_row _ _ _ _ _ _ hg, ← Array.getElem?_toList]
    have hl := (List.getElem?_eq_some_iff.1 hj).1
    have hn := h.1
    rw [← h4, List.getElem?_take_of_lt (by omega)] at hj
    exact hj
theorem Own.cap (h : Own w base A n c vs) : n ≤ c := by
  rcases h.2 with ⟨hv, hn⟩ | ⟨g, cap, cur, hv, hB, hg, h1, _⟩
  · omega
  · injection hv with _ _ hc; omega
theorem Own.none_ (h : Own w base A n c vs) (hA : A = none) : c = 0 := by
  subst hA
  rcases h.2 with ⟨hv, hn⟩ | ⟨g, cap, cur, hv, _⟩
  · injection hv
  · injection hv with hv _ _; cases hv
theorem Own.of (v : Value) (h : w.ownsRow base 24 1 v n vs) : ∃ A c, v = .slice A n c ∧ Own w base A n c vs := by
  rcases h.2 with ⟨hv, hn⟩ | ⟨g, cap, cur, hv, r⟩
  · subst hn; exact ⟨none, 0, hv, by unfold Own; rw [← hv]; exact h⟩
  · exact ⟨_, _, hv, by unfold Own; rw [← hv]; exact h⟩
end
set_option maxRecDepth 100000 in
theorem grow_nil (w : World) (n : Nat) (hn : n ≤ 4294967296) :
    Calls Tryd.prog 41 #[.slice none 0 0, .int .i64 (n : Int)] w fun e w' => ∃ A c, e = .returned (.slice A 0 c) ∧ Own w' w.heap.size A 0 c [] ∧ Below w.heap.size w w' := by
  obtain ⟨i, hi, hz, h1, h2⟩ := sl_parts
  by_cases h0 : 0 < n
  · have hr := fun ty => Lib.run_append_nil_zeros (P := Tryd.prog) w 38 3 ty 24 i (.slice none 0 0) .i64 .i64 Tryd.underlying38 Tryd.underlying3 hi hz n h0 (by omega) (by omega) (by rw [h2]; omega)
    have hc1 : n ≤ grownCap w n 0 24 := grownCap_ge w n 0 _
    have hc2 : grownCap w n 0 24 ≤ maxLen := grownCap_le_maxLen w n 0 _ (by unfold maxLen; omega)
    have hsz : (Builtin.zeroCells (Value.slice none 0 0).cells n ++ Builtin.zeroCells (Value.slice none 0 0).cells (grownCap w n 0 24 - n)).size = grownCap w n 0 24 * 1 := by
      rw [Array.size_append, size_zeroCells, size_zeroCells]
      have : (Value.slice none 0 0).cells.size = 1 := rfl
      rw [this]; omega
    have hown := World.ownsRow_made (w := w.drew) (e := 24) (base := w.heap.size) (size := 1) _ (grownCap w n 0 24) (Nat.le_refl _) hc2 hsz
    have hbl : Below w.heap.size w (w.drew.alloc (.cells (Builtin.zeroCells (Value.slice none 0 0).cells n ++ Builtin.zeroCells (Value.slice none 0 0).cells (grownCap w n 0 24 - n)) 24)) := (Below.refl _ _).drew.alloc (Nat.le_refl _) _
    generalize w.drew.alloc (.cells (Builtin.zeroCells (Value.slice none 0 0).cells n ++ Builtin.zeroCells (Value.slice none 0 0).cells (grownCap w n 0 24 - n)) 24) = w2 at *
    generalize grownCap w n 0 24 = C at *
    have HOWN := Lib.hid hown
    clear hown hsz hi hz h1 h2
    go_enter Tryd.func41, Tryd.ntmps41
    go_wp2_with (at_builtin; refine Lib.wpList_append_run _ rfl _ _ _ _ rfl _ _ rfl rfl _ _ (hr _) ?_)
    go_ret
    exact ⟨_, _, rfl, HOWN.out, hbl⟩
  · obtain rfl : n = 0 := by omega
    go_enter Tryd.func41, Tryd.ntmps41
    go_wp2
    go_ret
    exact ⟨none, 0, rfl, World.ownsRow_nil _ _ _ _, Below.refl _ _⟩
/-- The two lists, one behind the other. -/
def catAt (n1 n2 : Nat) (xs ys : List Value) (k m : Nat) (zs : List Value) : Prop := (k = 0 ∧ m = 0 ∧ zs = []) ∨ (k = 1 ∧ m = n1 ∧ zs = xs) ∨ (k = 2 ∧ m = n1 + n2 ∧ zs = xs ++ ys)
def sumAt (n1 n2 k m : Nat) : Prop := (k = 0 ∧ m = 0) ∨ (k = 1 ∧ m = n1) ∨ (k = 2 ∧ m = n1 + n2)
theorem wp_append_own {w : World} {ops : Array Oper} {rest : List Oper} {o : Oper} {a : Act} {Q : Exit → Act → World → Prop} (hgd : o.guard = none) (s x : Operand)
    (ho : o.op = .call { callee := .builtin .append, args := #[s, x], argTypes := #[38, 38] }) (base : Nat) (A : Option Addr) (n c : Nat) (zs : List Value) (hs : a.eval s = .slice A n c) (hown : Own w base A n c zs)
    (A1 : Option Addr) (m c1 : Nat) (xs : List Value) (hx : a.eval x = .slice A1 m c1) (hl : xs.length = m) (hc : Cls w w.heap.size A1 xs) (hn : A1 = none → c1 = 0 ∧ m = 0) (hA : ∀ ad, A1 = some ad → ad.spot = none) (h1 : ∀ u ∈ xs, u.oneCell' = true) (hsz : n + m ≤ 4294967296) (hbase : base ≤ w.heap.size)
    (h : ∀ A' c' w', Own w' base A' (n + m) c' (zs ++ xs) → (∀ w0, Below base w0 w → Below base w0 w') → wpList Tryd.prog ops Q rest (a.put o.dst (.slice A' (n + m) c')) w') : wpList Tryd.prog ops Q (o :: rest) a w := by
  obtain ⟨i, hi, hz, e1, e2⟩ := sl_parts
  cases A1 with
  | none =>
    obtain ⟨rfl, rfl⟩ := hn rfl
    obtain rfl : xs = [] := List.eq_nil_of_length_eq_zero hl
    refine wpList_append_own_none hgd s x 38 ho base 24 i 1 Tryd.underlying38 hi _ n zs hs hown hx ?_
    have h2 := h A c w (by rw [List.append_nil, Nat.add_zero]; exact hown) (fun w0 hb => hb)
    rwa [Nat.add_zero] at h2
  | some ad =>
    obtain ⟨b, off, spot⟩ := ad
    obtain rfl : spot = none := hA _ rfl
    refine wpList_append_own w hgd s x 38 ho base 24 i (.slice none 0 0) 1 24 Tryd.underlying38 hi hz e1 e2 rfl (by decide) _ n zs hs hown _ m c1 xs hx (by omega) hc.at_ h1 (by unfold maxLen; omega) (by omega) hbase ?_
    intro v' w' hown' hgr _
    obtain ⟨A', c', rfl, hres⟩ := Own.of v' hown'
    exact h A' c' w' hres fun w0 hb => hb.grown hgr hbase fun k hk => by have := World.ownsRow.lt hown k hk; omega
set_option maxRecDepth 100000 in
set_option maxHeartbeats 1000000 in
theorem concat_two (w : World) (b : Nat) (A1 A2 : Option Addr) (n1 c1 n2 c2 : Nat) (xs ys : List Value) (hb1 : w.cell? ⟨b, 0, none⟩ = some (.slice A1 n1 c1)) (hb2 : w.cell? ⟨b, 1, none⟩ = some (.slice A2 n2 c2)) (hbs : b < w.heap.size)
    (hx : Cls w w.heap.size A1 xs) (hxl : xs.length = n1) (hxn : A1 = none → c1 = 0 ∧ n1 = 0) (hxa : ∀ ad, A1 = some ad → ad.spot = none) (hx1 : ∀ u ∈ xs, u.oneCell' = true)
    (hy : Cls w w.heap.size A2 ys) (hyl : ys.length = n2) (hyn : A2 = none → c2 = 0 ∧ n2 = 0) (hya : ∀ ad, A2 = some ad → ad.spot = none) (hy1 : ∀ u ∈ ys, u.oneCell' = true) (hsz : n1 + n2 ≤ 4294967296) :
    Calls Tryd.prog 26 #[.slice (some ⟨b, 0, none⟩) 2 2] w fun e w' => ∃ A c, e = .returned (.slice A (n1 + n2) c) ∧ Own w' w.heap.size A (n1 + n2) c (xs ++ ys) ∧ Below w.heap.size w w' := by
  have HXL := Lib.hid hxl
  have HYL := Lib.hid hyl
  clear hxl hyl
  go_enter Tryd.func26, Tryd.ntmps26
  go_wp2
  go_loopw [3, 11] (fun s i wr => ∃ k m : Nat, i = .int .i64 (k : Int) ∧ s = .int .i64 (m : Int) ∧ sumAt n1 n2 k m ∧ wr = w) (fun _ i _ => 2 - (intOf i).toNat)
  case atStart => exact ⟨0, 0, rfl, rfl, .inl ⟨rfl, rfl⟩, rfl⟩
  case round =>
    obtain ⟨k, m, rfl, rfl, hs, rfl⟩ := hrel
    rcases hs with ⟨rfl, rfl⟩ | ⟨rfl, rfl⟩ | ⟨rfl, rfl⟩
    · go_wp2
      go_roundw
      case rel => exact ⟨1, n1, rfl, by go_num, .inr (.inl ⟨rfl, rfl⟩), trivial⟩
      case measure => simp [intOf]
    · go_wp2
      go_roundw
      case rel => exact ⟨2, m + n2, rfl, by go_num, .inr (.inr ⟨rfl, rfl⟩), trivial⟩
      case measure => simp [intOf]
    · have hgrow := grow_nil wr (n1 + n2) hsz
      rw [Int.natCast_add] at hgrow
      go_wp2_with fail
      refine hgrow.mono ?_
      rintro e w1 ⟨A0, c0, rfl, hown0, hb0⟩
      clear hgrow
      have HOWN := Lib.hid hown0
      clear hown0
      have hb1' := hb1
      have hb2' := hb2
      clear hb1 hb2
      go_wp2
      obtain ⟨Y0, h⟩ : ∃ Y0, Y0 = wr := ⟨_, rfl⟩
      subst h
      go_loopw [6, 27] (fun s i wr => ∃ (k m c : Nat) (A : Option Addr) (zs : List Value), i = .int .i64 (k : Int) ∧ s = .slice A m c ∧ catAt n1 n2 xs ys k m zs ∧ Hid (Own wr Y0.heap.size A m c zs) ∧ Below Y0.heap.size Y0 wr) (fun _ i _ => 2 - (intOf i).toNat)
      case atStart => exact ⟨0, 0, c0, A0, [], rfl, rfl, .inl ⟨rfl, rfl, rfl⟩, HOWN, hb0⟩
      case round =>
        clear HOWN hb0
        obtain ⟨k, m, c, A, zs, rfl, rfl, hs, HOWN, hb⟩ := hrel
        have q1 := (hb.cell (p := ⟨b, 0, none⟩) hbs).trans hb1'
        have q2 := (hb.cell (p := ⟨b, 1, none⟩) hbs).trans hb2'
        rcases hs with ⟨rfl, rfl, rfl⟩ | ⟨rfl, rfl, rfl⟩ | ⟨rfl, rfl, rfl⟩
        · go_wp2_with (at_builtin; refine wp_append_own rfl _ _ rfl Y0.heap.size A 0 c [] rfl HOWN.out A1 n1 c1 xs rfl HXL.out ((hx.below hb).up hb.size) hxn hxa hx1 (by omega) hb.size ?_; intro A' c' w' hown' hup)
          go_roundw
          case rel => exact ⟨1, n1, c', A', xs, rfl, rfl, .inr (.inl ⟨rfl, rfl, rfl⟩), by have := hown'; rw [Nat.zero_add] at this; exact this, hup _ hb⟩
          case measure => simp [intOf]
        · go_wp2_with (at_builtin; refine wp_append_own rfl _ _ rfl Y0.heap.size A m c zs rfl HOWN.out A2 n2 c2 ys rfl HYL.out ((hy.below hb).up hb.size) hyn hya hy1 (by omega) hb.size ?_; intro A' c' w' hown' hup)
          go_roundw
          case rel => exact ⟨2, m + n2, c', A', _, rfl, rfl, .inr (.inr ⟨rfl, rfl, rfl⟩), hown', hup _ hb⟩
          case measure => simp [intOf]
        · go_wp2
          go_ret
          exact ⟨A, c, rfl, HOWN.out, hb⟩
end Go.Proofs.YtcefdcjpddohaaaDoor
namespace Go.Proofs.YtcefdcjpddohaaaDoor
open Go.RowKit

/-- The packages' own numbers and tables lie as the program's text lays them. -/
structure LaidG (w : World) : Prop where
  p : LaidP w
  o : LaidO w
  l : LaidL w
theorem LaidG.next {w w' : World} (h : LaidG w) (hb : Below w.heap.size w w') : LaidG w' := ⟨h.p.next hb, h.o.below h.o.2 hb, h.l.next hb⟩
/-- The tables lie below a place. -/
def HiG (g : Nat) : Prop := 1 < g ∧ 4 < g ∧ 2 < g ∧ Hi g
theorem LaidG.hi {w : World} {g : Nat} (h : LaidG w) (hg : w.heap.size ≤ g) : HiG g :=
  ⟨Nat.lt_of_lt_of_le h.p.size hg, Nat.lt_of_lt_of_le h.p.turn.2 hg, Nat.lt_of_lt_of_le h.o.2 hg, h.l.hi hg⟩
theorem LaidG.but {w w' : World} {g : Nat} (h : LaidG w) (hg : HiG g) (hb : But g w w') : LaidG w' :=
  ⟨h.p.but hg.1 hg.2.1 hb, h.o.but hg.2.2.1 hb, h.l.but' hg.2.2.2 hb⟩
/-- The slices of lists of bytes, as values. -/
def Slv (w : World) (B : Nat) (vs : List Value) (ps : List (List UInt8)) : Prop :=
  vs.length = ps.length ∧ ∀ (j : Nat) (p : List UInt8), ps[j]? = some p → ∃ A n c, vs[j]? = some (.slice A n c) ∧ p.length = n ∧ n ≤ c ∧ Byt w B A p
section
variable {w w' : World} {B B' n c : Nat} {A : Option Addr} {ps qs : List (List UInt8)} {vs us : List Value}
theorem Slv.below (h : Slv w B vs ps) (hb : Below B w w') : Slv w' B vs ps := ⟨h.1, fun j p hj => by
  obtain ⟨A, n, c, h1, h2, h3, h4⟩ := h.2 j p hj
  exact ⟨A, n, c, h1, h2, h3, h4.below hb⟩⟩
theorem Slv.up (h : Slv w B vs ps) (hB : B ≤ B') : Slv w B' vs ps := ⟨h.1, fun j p hj => by
  obtain ⟨A, n, c, h1, h2, h3, h4⟩ := h.2 j p hj
  exact ⟨A, n, c, h1, h2, h3, h4.up hB⟩⟩
theorem Slv.append (h : Slv w B vs ps) (h' : Slv w B us qs) : Slv w B (vs ++ us) (ps ++ qs) := by
  refine ⟨by rw [List.length_append, List.length_append, h.1, h'.1], fun j p hj => ?_⟩
  by_cases hlt : j < ps.length
  · rw [List.getElem?_append_left hlt] at hj
    obtain ⟨A, n, c, h1, h2⟩ := h.2 j p hj
    exact ⟨A, n, c, by rw [List.getElem?_append_left (by rw [h.1]; exact hlt)]; exact h1, h2⟩
  · rw [List.getElem?_append_right (by omega)] at hj
    obtain ⟨A, n, c, h1, h2⟩ := h'.2 _ p hj
    exact ⟨A, n, c, by rw [List.getElem?_append_right (by rw [h.1]; omega), h.1]; exact h1, h2⟩
theorem Slv.one (h : Slv w B vs ps) : ∀ u ∈ vs, u.oneCell' = true := by
  intro u hu
  obtain ⟨j, hj⟩ := List.getElem?_of_mem hu
  have hlt := (List.getElem?_eq_some_iff.1 hj).1
  obtain ⟨A, n, c, h1, _⟩ := h.2 j _ (List.getElem?_eq_getElem (by rw [← h.1]; exact hlt))
  rw [h1] at hj
  injection hj with hj
  rw [← hj]; rfl
theorem Prt.vals (h : Prt w B A ps) : ∃ vs, Cls w B A vs ∧ Slv w B vs ps := by
  rcases h with h | ⟨b, o, hA, hlt, hc⟩
  · subst h; exact ⟨[], .inl rfl, rfl, fun j p hj => by simp at hj⟩
  · refine ⟨(List.range ps.length).map fun j => (w.cell? ⟨b, o + j, none⟩).getD (.bool false), .inr ⟨b, o, hA, hlt, fun j v hj => ?_⟩, by simp, fun j p hj => ?_⟩
    · rw [List.getElem?_map] at hj
      obtain ⟨j', h1, rfl⟩ := Option.map_eq_some_iff.1 hj
      have hjl := (List.getElem?_eq_some_iff.1 h1).1
      rw [List.length_range] at hjl
      rw [List.getElem?_range hjl] at h1
      injection h1 with h1
      subst h1
      obtain ⟨Aj, nj, cj, h2, _⟩ := hc j _ (List.getElem?_eq_getElem hjl)
      rw [h2]; rfl
    · have hjl := (List.getElem?_eq_some_iff.1 hj).1
      obtain ⟨Aj, nj, cj, h2, h3, h4, h5⟩ := hc j p hj
      refine ⟨Aj, nj, cj, ?_, h3, h4, h5⟩
      rw [List.getElem?_map, List.getElem?_range hjl, Option.map_some, h2]; rfl
theorem Prt.of_vals (hc : Cls w B A vs) (hs : Slv w B vs ps) : Prt w B A ps := by
  rcases hc with h | ⟨b, o, hA, hlt, hc⟩
  · subst h; exact .inl (List.eq_nil_of_length_eq_zero (hs.1.symm.trans rfl))
  · refine .inr ⟨b, o, hA, hlt, fun j p hj => ?_⟩
    obtain ⟨Aj, nj, cj, h1, h2, h3, h4⟩ := hs.2 j p hj
    exact ⟨Aj, nj, cj, hc j _ h1, h2, h3, h4⟩
end
/-- A list of slices of bytes, as an argument. -/
structure Lst (w : World) (A : Option Addr) (n c : Nat) (ps : List (List UInt8)) : Prop where
  prt : Prt w w.heap.size A ps
  len : Hid (ps.length = n)
  nil : A = none → c = 0 ∧ n = 0
  spot : ∀ ad, A = some ad → ad.spot = none
theorem Lst.next {w w' : World} {A : Option Addr} {n c : Nat} {ps : List (List UInt8)} (h : Lst w A n c ps) (hb : Below w.heap.size w w') : Lst w' A n c ps := ⟨h.prt.next hb, h.len, h.nil, h.spot⟩
theorem Lst.none_ (w : World) : Lst w none 0 0 [] := ⟨.inl rfl, rfl, fun _ => ⟨rfl, rfl⟩, fun _ h => by cases h⟩
/-- A list of slices in a new block. -/
theorem Lst.row {w : World} {g : Nat} {E : TypeId} {cs : List Value} {ps : List (List UInt8)} {n : Nat} (hg : w.heap[g]? = some (.cells cs.toArray E (0, 0))) (hn : ps.length = n)
    (h : ∀ (j : Nat) (p : List UInt8), ps[j]? = some p → ∃ A n c, cs[j]? = some (Value.slice A n c) ∧ p.length = n ∧ n ≤ c ∧ Byt w w.heap.size A p) : Lst w (some ⟨g, 0, none⟩) n n ps := by
  refine ⟨.inr ⟨g, 0, rfl, (Array.getElem?_eq_some_iff.1 hg).1, fun j p hj => ?_⟩, hn, fun h => (by cases h), fun ad h => (by injection h with h; rw [← h])⟩
  obtain ⟨A, n, c, h1, h2, h3, h4⟩ := h j p hj
  exact ⟨A, n, c, by rw [Nat.zero_add, cell_of_row _ _ _ _ _ _ hg]; simpa using h1, h2, h3, h4⟩
section
variable {w : World} {g : Nat} {E : TypeId} {A1 A2 A3 : Option Addr} {l1 l2 l3 : List UInt8} {n1 n2 n3 c1 c2 c3 : Nat}
theorem Lst.row1 (hg : w.heap[g]? = some (.cells #[.slice A1 n1 c1] E (0, 0))) (h1 : Byt w w.heap.size A1 l1) (e1 : l1.length = n1) (f1 : n1 ≤ c1) : Lst w (some ⟨g, 0, none⟩) 1 1 [l1] := by
  refine Lst.row (cs := [.slice A1 n1 c1]) hg rfl fun j p hj => ?_
  match j, hj with
  | 0, hj => injection hj with hj; subst hj; exact ⟨A1, n1, c1, rfl, e1, f1, h1⟩
  | j + 1, hj => simp at hj
theorem Lst.row2 (hg : w.heap[g]? = some (.cells #[.slice A1 n1 c1, .slice A2 n2 c2] E (0, 0))) (h1 : Byt w w.heap.size A1 l1) (e1 : l1.length = n1) (f1 : n1 ≤ c1) (h2 : Byt w w.heap.size A2 l2) (e2 : l2.length = n2) (f2 : n2 ≤ c2) : Lst w (some ⟨g, 0, none⟩) 2 2 [l1, l2] := by
  refine Lst.row (cs := [.slice A1 n1 c1, .slice A2 n2 c2]) hg rfl fun j p hj => ?_
  match j, hj with
  | 0, hj => injection hj with hj; subst hj; exact ⟨A1, n1, c1, rfl, e1, f1, h1⟩
  | 1, hj => injection hj with hj; subst hj; exact ⟨A2, n2, c2, rfl, e2, f2, h2⟩
  | j + 2, hj => simp at hj
theorem Lst.row3 (hg : w.heap[g]? = some (.cells #[.slice A1 n1 c1, .slice A2 n2 c2, .slice A3 n3 c3] E (0, 0))) (h1 : Byt w w.heap.size A1 l1) (e1 : l1.length = n1) (f1 : n1 ≤ c1) (h2 : Byt w w.heap.size A2 l2) (e2 : l2.length = n2) (f2 : n2 ≤ c2) (h3 : Byt w w.heap.size A3 l3) (e3 : l3.length = n3) (f3 : n3 ≤ c3) :
    Lst w (some ⟨g, 0, none⟩) 3 3 [l1, l2, l3] := by
  refine Lst.row (cs := [.slice A1 n1 c1, .slice A2 n2 c2, .slice A3 n3 c3]) hg rfl fun j p hj => ?_
  match j, hj with
  | 0, hj => injection hj with hj; subst hj; exact ⟨A1, n1, c1, rfl, e1, f1, h1⟩
  | 1, hj => injection hj with hj; subst hj; exact ⟨A2, n2, c2, rfl, e2, f2, h2⟩
  | 2, hj => injection hj with hj; subst hj; exact ⟨A3, n3, c3, rfl, e3, f3, h3⟩
  | j + 3, hj => simp at hj
end
/-- The number that sig makes of parts. -/
def hashOf (ps : List (List UInt8)) : List UInt8 := wl (ln (longSum ps.flatten))
/-- All of two lists of slices, at whatever block holds the two. -/
theorem concat_lst (w : World) (b : Nat) (A1 A2 : Option Addr) (n1 c1 n2 c2 : Nat) (ps qs : List (List UInt8)) (hb1 : w.cell? ⟨b, 0, none⟩ = some (.slice A1 n1 c1)) (hb2 : w.cell? ⟨b, 1, none⟩ = some (.slice A2 n2 c2)) (hbs : b < w.heap.size)
    (h1 : Lst w A1 n1 c1 ps) (h2 : Lst w A2 n2 c2 qs) (hsz : n1 + n2 ≤ 4294967296) :
    Calls Tryd.prog 26 #[.slice (some ⟨b, 0, none⟩) 2 2] w fun e w' => ∃ A c, e = .returned (.slice A (n1 + n2) c) ∧ Prt w' w'.heap.size A (ps ++ qs) ∧ Hid ((ps ++ qs).length = n1 + n2) ∧ Below w.heap.size w w' := by
  obtain ⟨xs, hx, hxs⟩ := h1.prt.vals
  obtain ⟨ys, hy, hys⟩ := h2.prt.vals
  refine (concat_two w b A1 A2 n1 c1 n2 c2 xs ys hb1 hb2 hbs hx (hxs.1.trans h1.len.out) h1.nil h1.spot hxs.one hy (hys.1.trans h2.len.out) h2.nil h2.spot hys.one hsz).mono ?_
  rintro e w1 ⟨A, c, rfl, hown, hb⟩
  refine ⟨A, c, rfl, Prt.of_vals hown.cls (((hxs.below hb).append (hys.below hb)).up hb.size), ?_, hb⟩
  show _ = _
  rw [List.length_append, h1.len.out, h2.len.out]
set_option maxRecDepth 100000 in
set_option maxHeartbeats 1000000 in
theorem hash_any (w : World) (hla : LaidG w) (A A2 : Option Addr) (n c n2 c2 : Nat) (ps qs : List (List UInt8)) (h1 : Lst w A n c ps) (h2 : Lst w A2 n2 c2 qs) (hbig : (qs ++ ps).flatten.length ≤ 288230376151711744) (hsz : n2 + n ≤ 4294967296) :
    Calls Tryd.prog 15 #[.slice A n c, .slice A2 n2 c2] w fun e w' => ∃ l, e = .returned (.agg (bv l).toArray) ∧ Vlt (l = hashOf (qs ++ ps)) ∧ Hid (l.length = 32) ∧ Below w.heap.size w w' := by
  have hzw := zero_word
  obtain ⟨W, hW, hgZ, hbW, hsW⟩ := one_new w (bv z32).toArray 23
  have HW := Lib.hid hW
  have HB := Lib.hid hbig
  have hs : w.heap.size < W.heap.size := by have := hsW.out; omega
  clear hW hsW hbig
  obtain ⟨W1, hW1⟩ : ∃ W1, W1 = W.alloc (.cells #[.slice A2 n2 c2, .slice A n c] 38) := ⟨_, rfl⟩
  have hgB : W1.heap[W.heap.size]? = some (.cells #[.slice A2 n2 c2, .slice A n c] 38 (0, 0)) := by rw [hW1]; exact heap_alloc_new _ _
  have hbw1 : Below W.heap.size W W1 := by rw [hW1]; exact (Below.refl _ _).alloc (Nat.le_refl _) _
  have HW1 := Lib.hid hW1
  clear hW1
  have hbW1 := below_next hbW hbW.size hbw1
  have hc := concat_lst W1 W.heap.size A2 A n2 c2 n c qs ps (by rw [cell_of_row _ _ _ _ _ _ hgB]; rfl) (by rw [cell_of_row _ _ _ _ _ _ hgB]; rfl) (Array.getElem?_eq_some_iff.1 hgB).1 (h2.next hbW1) (h1.next hbW1) hsz
  have hz1 := row_next2 hgZ hbw1
  have hl1 := hla.next hbW1
  have hs1 : w.heap.size < W1.heap.size := row_size hz1
  clear hgB hbw1 hgZ hbW hla h1 h2 hs
  have HC := Lib.hid hc
  clear hc
  go_enter Tryd.func15, Tryd.ntmps15
  go_upto_region 1 with fail
  rw [HW.out]
  go_wp2_with fail
  rw [← HW1.out]
  refine HC.out.mono ?_
  rintro e w2 ⟨B, d, rfl, hP, hPl, hb2⟩
  clear HC
  have hz2 := row_next2 hz1 hb2
  have hs2 := row_size hz2
  have hl2 := hl1.next hb2
  have hbW2 := below_next hbW1 hbW1.size hb2
  have hlong := long_any w2 B (qs ++ ps) (n2 + n) d hP hPl.out hl2.l HB.out (by omega)
  clear hP hz1 hs1 hl1 hbW1 hb2
  go_wp2_with fail
  refine hlong.mono ?_
  rintro e w3 ⟨X, rfl, e3, HX, hb3⟩
  clear hlong
  have hz3 := row_next2 hz2 hb3
  have hs3 := row_size hz3
  have hl3 := hl2.next hb3
  have hbW3 := below_next hbW2 hbW2.size hb3
  clear hz2 hs2 hl2 hbW2 hb3
  go_wp2_with fail
  refine (llong_any w3 hl3.o X HX.out).mono ?_
  rintro e w4 ⟨l, rfl, e4, HL, hb4⟩
  have hz4 := row_next2 hz3 hb4
  have hs4 := row_size hz4
  have hbW4 := below_next hbW3 hbW3.size hb4
  have HE := vlt (show l = hashOf (qs ++ ps) by rw [e4.out, e3.out]; rfl)
  clear e3 e4 hz3 hs3 hl3 hbW3 hb4
  have HLS := Lib.hid (bv_size l HL.out)
  go_wp2_with (with_reducible refine wpList_store_row rfl 23 (.tmp 4) (.tmp 10) rfl w.heap.size (bv l).toArray rfl rfl 23 _ hz4.out (by rw [HLS.out]; kernel_rfl) (by rw [HLS.out]; kernel_rfl) (all_oneCell_toArray (bv_one _)) ?_)
  refine bodyPost_ret (v := .agg (bv l).toArray) (results_cell_row Tryd.results15 _ _ w.heap.size 23 _ (0, 0) _ rfl (setRow_heap _ _ _ _ _ _ hz4.out) Tryd.underlying23 rfl (by rw [HLS.out]; kernel_rfl)) rfl ⟨l, rfl, HE, HL, below_setRow hbW4 (by omega) _⟩
end Go.Proofs.YtcefdcjpddohaaaDoor
